/- The record Cmd in memory: its cells, rows of it, the laws' helpers on it, among the arguments. -/
import Derived.Test.YtefmndjoailemaaDoorCx1
import Derived.Test.YtefmndjoailemaaDoorRo9
import Derived.Test.YtefmndjoailemaaDoorRo10
import Derived.Test.YtefmndjoailemaaDoorRo2
import Derived.BigQuiet
import Derived.Deep.RegionHeld3
import Derived.Deep.DeepCutAuto
import Derived.Deep.Slices
import Derived.Lib.SmallJoins
import Derived.ShutString
import Derived.ChangeOld
namespace Go.Proofs.YtefmndjoailemaaDoor.rg
open Go.ChangeShapes Go.WideShapes Go.ChangeAt Go.RowKit
open Go.Deep Go.Joins
open Go.Proofs.YtefmndjoailemaaDoor.ce Go.Proofs.YtefmndjoailemaaDoor.ro
set_option linter.unusedVariables false

/-- the cells of a Cmd -/
def csCm (x : cm.Cm) : List Value := [.int .i64 x.V, .string x.N, .int .i64 x.F, .int .i64 x.U, .string x.B, .int .i64 x.C, .int .i64 x.D, .bool x.Q]
theorem oneCm (x : cm.Cm) : ∀ v ∈ csCm x, v.oneCell' = true := by
  intro v hv
  simp only [csCm, List.mem_cons, List.not_mem_nil, or_false] at hv
  rcases hv with rfl | rfl | rfl | rfl | rfl | rfl | rfl | rfl <;> rfl
def encCm : Enc cm.Cm := ⟨csCm, 8, 43, fun _ => rfl, oneCm, by decide⟩
theorem infoCm : Info encCm := by
  have h : (Tryd.prog.info? 43).map (fun i => (i.zero, i.size, i.bytes)) = some (some (.agg #[Value.int .i64 0, Value.string ⟨#[]⟩, Value.int .i64 0, Value.int .i64 0, Value.string ⟨#[]⟩, Value.int .i64 0, Value.int .i64 0, Value.bool false]), 8, 80) := by kernel_rfl
  obtain ⟨i, hi, hz⟩ := Option.map_eq_some_iff.1 h
  simp only [Prod.mk.injEq] at hz
  exact ⟨i, _, hi, hz.1, hz.2.1, by omega, rfl⟩
theorem sizeCm : (Tryd.prog.info? 43).map (·.size) = some 8 := by kernel_rfl
theorem zeroCm (w : World) : (zeroValue 43).run Tryd.prog w = .ok (.agg [Value.int .i64 0, Value.string ⟨#[]⟩, Value.int .i64 0, Value.int .i64 0, Value.string ⟨#[]⟩, Value.int .i64 0, Value.int .i64 0, Value.bool false].toArray) w := Tryd.zeroValue43 w
theorem cellsCm {w : World} {b : Nat} {t : TypeId} {v0 v1 v2 v3 v4 v5 v6 v7 : Value} (h : VBlk w b t [v0, v1, v2, v3, v4, v5, v6, v7]) : w.cell? ⟨b, 0, none⟩ = some v0 ∧ w.cell? ⟨b, 1, none⟩ = some v1 ∧ w.cell? ⟨b, 2, none⟩ = some v2 ∧ w.cell? ⟨b, 3, none⟩ = some v3 ∧ w.cell? ⟨b, 4, none⟩ = some v4 ∧ w.cell? ⟨b, 5, none⟩ = some v5 ∧ w.cell? ⟨b, 6, none⟩ = some v6 ∧ w.cell? ⟨b, 7, none⟩ = some v7 :=
  ⟨h.cell 0 (by simp), h.cell 1 (by simp), h.cell 2 (by simp), h.cell 3 (by simp), h.cell 4 (by simp), h.cell 5 (by simp), h.cell 6 (by simp), h.cell 7 (by simp)⟩
theorem frozCm {w : World} {b : Nat} {t : TypeId} {vs : List Value} (h : VBlk w b t vs) : w.frozen? ⟨b, 0, none⟩ = false ∧ w.frozen? ⟨b, 1, none⟩ = false ∧ w.frozen? ⟨b, 2, none⟩ = false ∧ w.frozen? ⟨b, 3, none⟩ = false ∧ w.frozen? ⟨b, 4, none⟩ = false ∧ w.frozen? ⟨b, 5, none⟩ = false ∧ w.frozen? ⟨b, 6, none⟩ = false ∧ w.frozen? ⟨b, 7, none⟩ = false :=
  ⟨h.frozen _, h.frozen _, h.frozen _, h.frozen _, h.frozen _, h.frozen _, h.frozen _, h.frozen _⟩
/-- the one at the place i of a row -/
theorem rdCm_at {E : Enc cm.Cm} (hp : E.put = csCm) (hk : E.k = 8) {w : World} {n cap : Nat} {a : Option Addr} {xs : List cm.Cm} (r : Rd E w (.slice a n cap) xs) (i : Nat) (hi : i < xs.length) :
    ∃ b off, a = some ⟨b, off, none⟩ ∧ b < w.heap.size ∧ w.rangeAt b (off + i * 8) (csCm xs[i]) := by
  obtain ⟨b, off, e, h1, h2⟩ := r.start (by omega)
  refine ⟨b, off, e, h1, fun j v hv => ?_⟩
  have hj : j < 8 := (List.getElem?_eq_some_iff.1 hv).1
  have := E.row_get xs i j hi (by rw [hk]; exact hj)
  rw [hk, hp, hv] at this
  have := h2 _ _ this
  rw [Nat.add_assoc]
  exact this
theorem rngCm {w : World} {b k : Nat} {v0 v1 v2 v3 v4 v5 v6 v7 : Value} (h : w.rangeAt b k [v0, v1, v2, v3, v4, v5, v6, v7]) : w.cell? ⟨b, k, none⟩ = some v0 ∧ w.cell? ⟨b, k + 1, none⟩ = some v1 ∧ w.cell? ⟨b, k + 2, none⟩ = some v2 ∧ w.cell? ⟨b, k + 3, none⟩ = some v3 ∧ w.cell? ⟨b, k + 4, none⟩ = some v4 ∧ w.cell? ⟨b, k + 5, none⟩ = some v5 ∧ w.cell? ⟨b, k + 6, none⟩ = some v6 ∧ w.cell? ⟨b, k + 7, none⟩ = some v7 :=
  ⟨h 0 _ rfl, h 1 _ rfl, h 2 _ rfl, h 3 _ rfl, h 4 _ rfl, h 5 _ rfl, h 6 _ rfl, h 7 _ rfl⟩
/-- no text in it is longer than what a machine holds; none is long -/
def LoCm (l : List cm.Cm) : Prop := ∀ x ∈ l, x.N.size ≤ 9223372036854775807 ∧ x.B.size ≤ 9223372036854775807
def SmCm (l : List cm.Cm) : Prop := ∀ x ∈ l, x.N.size ≤ 1048576 ∧ x.B.size ≤ 1048576

set_option maxHeartbeats 1000000 in
theorem eqCm_any (V : Int) (N : ByteArray) (F : Int) (U : Int) (B : ByteArray) (C : Int) (D : Int) (Q : Bool) (w : World) :
    Calls Tryd.prog 23 #[.agg #[.int .i64 V, .string N, .int .i64 F, .int .i64 U, .string B, .int .i64 C, .int .i64 D, .bool Q], .agg #[.int .i64 V, .string N, .int .i64 F, .int .i64 U, .string B, .int .i64 C, .int .i64 D, .bool Q]] w fun e w' => e = .returned (.bool true) ∧ Below w.heap.size w w' := by
  have eV : (V != V) = false := by simp
  have eN : (N.toList == N.toList) = true := by simp
  have eF : (F != F) = false := by simp
  have eU : (U != U) = false := by simp
  have eB : (B.toList == B.toList) = true := by simp
  have eC : (C != C) = false := by simp
  have eD : (D != D) = false := by simp
  have eQ : (Q != Q) = false := by simp
  have m1 : Hid True := trivial
  go_enter Tryd.func23, Tryd.ntmps23
  go_wp2_with (first | (clear m1; refine wpList_box_v rfl 43 _ rfl [.int .i64 V, .string N, .int .i64 F, .int .i64 U, .string B, .int .i64 C, .int .i64 D, .bool Q] rfl ?_; intro b1 w1 hb1 hw1 hB1 V1; have hz1 := hB1.size) | (refine wpList_box_v rfl 43 _ rfl [.int .i64 V, .string N, .int .i64 F, .int .i64 U, .string B, .int .i64 C, .int .i64 D, .bool Q] rfl ?_; intro b2 w2 hb2 hw2 hB2 V2; obtain ⟨c0, c1, c2, c3, c4, c5, c6, c7⟩ := cellsCm (vblk_grow V1 hB2); obtain ⟨d0, d1, d2, d3, d4, d5, d6, d7⟩ := cellsCm V2) | (fail))
  go_ret
  exact ⟨rfl, hB1.trans (hB2.mono hz1)⟩

set_option maxHeartbeats 1000000 in
theorem eqCms_any (b : List cm.Cm) (v v' : Value) (w : World) (r : Rd encCm w v b) (r' : Rd encCm w v' b) :
    Calls Tryd.prog 8 #[v, v'] w fun e w' => e = .returned (.bool true) ∧ Below w.heap.size w w' := by
  have hl := r.len
  obtain ⟨a, cap, rfl⟩ := r.form
  obtain ⟨a', cap', rfl⟩ := r'.form
  have R : Hid (Rd encCm w (.slice a b.length cap) b) := r
  have R' : Hid (Rd encCm w (.slice a' b.length cap') b) := r'
  clear r r'
  have hnn : ((b.length : Int) != (b.length : Int)) = false := by simp
  go_enter Tryd.func8, Tryd.ntmps8
  go_wp2
  go_loopw [5] (fun v' wr => ∃ i : Nat, i ≤ b.length ∧ v' = .int .i64 i ∧ Below w.heap.size w wr) (fun v' _ => b.length - (intOf v').toNat)
  case atStart => exact ⟨0, by omega, rfl, Below.refl _ _⟩
  case round =>
    obtain ⟨i, hi1, rfl, hBr⟩ := hrel
    by_cases hlt : i < b.length
    · obtain ⟨bk, off, rfl, hb, rg0⟩ := rdCm_at rfl rfl (R.out.grow hBr) i hlt
      obtain ⟨bk', off', rfl, hb', rg1⟩ := rdCm_at rfl rfl (R'.out.grow hBr) i hlt
      obtain ⟨z, hz⟩ := hid_ex (b[i])
      rw [hz.out] at rg0 rg1
      obtain ⟨V, N, F, U, B, C, D, Q⟩ := z
      have hlt' : (i : Int) < b.length := by omega
      have hsr := hBr.size
      have rg : Hid (wr.rangeAt bk (off + i * 8) [.int .i64 V, .string N, .int .i64 F, .int .i64 U, .string B, .int .i64 C, .int .i64 D, .bool Q]) := rg0
      have rg' : Hid (wr.rangeAt bk' (off' + i * 8) [.int .i64 V, .string N, .int .i64 F, .int .i64 U, .string B, .int .i64 C, .int .i64 D, .bool Q]) := rg1
      clear rg0 rg1
      go_upto_region 6 with (fail)
      have hS0 : (wr.drew.cell? ⟨bk, off + i * 8, none⟩ = some (.int .i64 V) ∧ wr.drew.cell? ⟨bk, off + i * 8 + 1, none⟩ = some (.string N) ∧ wr.drew.cell? ⟨bk, off + i * 8 + 2, none⟩ = some (.int .i64 F) ∧ wr.drew.cell? ⟨bk, off + i * 8 + 3, none⟩ = some (.int .i64 U) ∧ wr.drew.cell? ⟨bk, off + i * 8 + 4, none⟩ = some (.string B) ∧ wr.drew.cell? ⟨bk, off + i * 8 + 5, none⟩ = some (.int .i64 C) ∧ wr.drew.cell? ⟨bk, off + i * 8 + 6, none⟩ = some (.int .i64 D) ∧ wr.drew.cell? ⟨bk, off + i * 8 + 7, none⟩ = some (.bool Q)) ∧ (wr.drew.cell? ⟨bk', off' + i * 8, none⟩ = some (.int .i64 V) ∧ wr.drew.cell? ⟨bk', off' + i * 8 + 1, none⟩ = some (.string N) ∧ wr.drew.cell? ⟨bk', off' + i * 8 + 2, none⟩ = some (.int .i64 F) ∧ wr.drew.cell? ⟨bk', off' + i * 8 + 3, none⟩ = some (.int .i64 U) ∧ wr.drew.cell? ⟨bk', off' + i * 8 + 4, none⟩ = some (.string B) ∧ wr.drew.cell? ⟨bk', off' + i * 8 + 5, none⟩ = some (.int .i64 C) ∧ wr.drew.cell? ⟨bk', off' + i * 8 + 6, none⟩ = some (.int .i64 D) ∧ wr.drew.cell? ⟨bk', off' + i * 8 + 7, none⟩ = some (.bool Q)) := ⟨rngCm (w := wr.drew) rg.out, rngCm (w := wr.drew) rg'.out⟩
      go_region_held3 (fun w' => (w'.cell? ⟨bk, off + i * 8, none⟩ = some (.int .i64 V) ∧ w'.cell? ⟨bk, off + i * 8 + 1, none⟩ = some (.string N) ∧ w'.cell? ⟨bk, off + i * 8 + 2, none⟩ = some (.int .i64 F) ∧ w'.cell? ⟨bk, off + i * 8 + 3, none⟩ = some (.int .i64 U) ∧ w'.cell? ⟨bk, off + i * 8 + 4, none⟩ = some (.string B) ∧ w'.cell? ⟨bk, off + i * 8 + 5, none⟩ = some (.int .i64 C) ∧ w'.cell? ⟨bk, off + i * 8 + 6, none⟩ = some (.int .i64 D) ∧ w'.cell? ⟨bk, off + i * 8 + 7, none⟩ = some (.bool Q)) ∧ (w'.cell? ⟨bk', off' + i * 8, none⟩ = some (.int .i64 V) ∧ w'.cell? ⟨bk', off' + i * 8 + 1, none⟩ = some (.string N) ∧ w'.cell? ⟨bk', off' + i * 8 + 2, none⟩ = some (.int .i64 F) ∧ w'.cell? ⟨bk', off' + i * 8 + 3, none⟩ = some (.int .i64 U) ∧ w'.cell? ⟨bk', off' + i * 8 + 4, none⟩ = some (.string B) ∧ w'.cell? ⟨bk', off' + i * 8 + 5, none⟩ = some (.int .i64 C) ∧ w'.cell? ⟨bk', off' + i * 8 + 6, none⟩ = some (.int .i64 D) ∧ w'.cell? ⟨bk', off' + i * 8 + 7, none⟩ = some (.bool Q))) (first | with_reducible assumption | with_reducible exact hS0 | (fail)) (first | (go_at_call 23; refine (eqCm_any V N F U B C D Q _).mono ?_; rintro e w5 ⟨rfl, hB5⟩; have hS5 := And.intro (rngCm (range_of rg.out (hB5.block bk hb))) (rngCm (range_of rg'.out (hB5.block bk' hb')))) | (fail))
      go_wp2
      go_roundw
      case rel => exact ⟨i + 1, by omega, by go_num, hBr.drew.trans (hB5.mono hsr)⟩
      case measure => simp [intOf]; omega
    · go_wp2
      go_ret
      exact ⟨rfl, hBr⟩

end Go.Proofs.YtefmndjoailemaaDoor.rg
