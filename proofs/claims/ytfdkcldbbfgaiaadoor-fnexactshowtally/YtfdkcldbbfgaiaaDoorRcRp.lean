/- The record Reply in memory: its cells, rows of it, the laws' helpers on it, among the arguments. -/
import Derived.Test.YtfdkcldbbfgaiaaDoorPx0
import Derived.Test.YtfdkcldbbfgaiaaDoorRo9
import Derived.Test.YtfdkcldbbfgaiaaDoorRo10
import Derived.Test.YtfdkcldbbfgaiaaDoorRo2
import Derived.BigQuiet
import Derived.Deep.RegionHeld3
import Derived.Deep.DeepCutAuto
import Derived.Deep.Slices
import Derived.Lib.SmallJoins
import Derived.ShutString
import Derived.ChangeOld
namespace Go.Proofs.YtfdkcldbbfgaiaaDoor.rg
open Go.ChangeShapes Go.WideShapes Go.ChangeAt Go.RowKit
open Go.Deep Go.Joins
open Go.Proofs.YtfdkcldbbfgaiaaDoor.ce Go.Proofs.YtfdkcldbbfgaiaaDoor.ro
set_option linter.unusedVariables false

/-- the cells of a Reply -/
def csRp (x : cm.Rp) : List Value := [.int .i64 x.K, .string x.N, .int .i64 x.F, .string x.B, .int .i64 x.C, .int .i64 x.M]
theorem oneRp (x : cm.Rp) : ∀ v ∈ csRp x, v.oneCell' = true := by
  intro v hv
  simp only [csRp, List.mem_cons, List.not_mem_nil, or_false] at hv
  rcases hv with rfl | rfl | rfl | rfl | rfl | rfl <;> rfl
theorem cellsRp {w : World} {b : Nat} {t : TypeId} {v0 v1 v2 v3 v4 v5 : Value} (h : VBlk w b t [v0, v1, v2, v3, v4, v5]) : w.cell? ⟨b, 0, none⟩ = some v0 ∧ w.cell? ⟨b, 1, none⟩ = some v1 ∧ w.cell? ⟨b, 2, none⟩ = some v2 ∧ w.cell? ⟨b, 3, none⟩ = some v3 ∧ w.cell? ⟨b, 4, none⟩ = some v4 ∧ w.cell? ⟨b, 5, none⟩ = some v5 :=
  ⟨h.cell 0 (by simp), h.cell 1 (by simp), h.cell 2 (by simp), h.cell 3 (by simp), h.cell 4 (by simp), h.cell 5 (by simp)⟩
theorem frozRp {w : World} {b : Nat} {t : TypeId} {vs : List Value} (h : VBlk w b t vs) : w.frozen? ⟨b, 0, none⟩ = false ∧ w.frozen? ⟨b, 1, none⟩ = false ∧ w.frozen? ⟨b, 2, none⟩ = false ∧ w.frozen? ⟨b, 3, none⟩ = false ∧ w.frozen? ⟨b, 4, none⟩ = false ∧ w.frozen? ⟨b, 5, none⟩ = false :=
  ⟨h.frozen _, h.frozen _, h.frozen _, h.frozen _, h.frozen _, h.frozen _⟩
/-- the one at the place i of a row -/
theorem rdRp_at {E : Enc cm.Rp} (hp : E.put = csRp) (hk : E.k = 6) {w : World} {n cap : Nat} {a : Option Addr} {xs : List cm.Rp} (r : Rd E w (.slice a n cap) xs) (i : Nat) (hi : i < xs.length) :
    ∃ b off, a = some ⟨b, off, none⟩ ∧ b < w.heap.size ∧ w.rangeAt b (off + i * 6) (csRp xs[i]) := by
  obtain ⟨b, off, e, h1, h2⟩ := r.start (by omega)
  refine ⟨b, off, e, h1, fun j v hv => ?_⟩
  have hj : j < 6 := (List.getElem?_eq_some_iff.1 hv).1
  have := E.row_get xs i j hi (by rw [hk]; exact hj)
  rw [hk, hp, hv] at this
  have := h2 _ _ this
  rw [Nat.add_assoc]
  exact this
theorem rngRp {w : World} {b k : Nat} {v0 v1 v2 v3 v4 v5 : Value} (h : w.rangeAt b k [v0, v1, v2, v3, v4, v5]) : w.cell? ⟨b, k, none⟩ = some v0 ∧ w.cell? ⟨b, k + 1, none⟩ = some v1 ∧ w.cell? ⟨b, k + 2, none⟩ = some v2 ∧ w.cell? ⟨b, k + 3, none⟩ = some v3 ∧ w.cell? ⟨b, k + 4, none⟩ = some v4 ∧ w.cell? ⟨b, k + 5, none⟩ = some v5 :=
  ⟨h 0 _ rfl, h 1 _ rfl, h 2 _ rfl, h 3 _ rfl, h 4 _ rfl, h 5 _ rfl⟩
/-- no text in it is longer than what a machine holds; none is long -/
def LoRp (l : List cm.Rp) : Prop := ∀ x ∈ l, x.N.size ≤ 9223372036854775807 ∧ x.B.size ≤ 9223372036854775807
def SmRp (l : List cm.Rp) : Prop := ∀ x ∈ l, x.N.size ≤ 1048576 ∧ x.B.size ≤ 1048576

end Go.Proofs.YtfdkcldbbfgaiaaDoor.rg
