/- The record Tally in memory: its cells, rows of it, the laws' helpers on it, among the arguments. -/
import Derived.Test.YtfdkcldbbfgaiaaDoorTx0
import Derived.Test.YtfdkcldbbfgaiaaDoorRo9
import Derived.Test.YtfdkcldbbfgaiaaDoorRo10
import Derived.Test.YtfdkcldbbfgaiaaDoorRo2
import Derived.BigQuiet
import Derived.Deep.RegionHeld3
import Derived.Deep.DeepCutAuto
import Derived.Deep.Slices
import Derived.Lib.SmallJoins
import Derived.ShutString
import Derived.ChangeOld
namespace Go.Proofs.YtfdkcldbbfgaiaaDoor.rg
open Go.ChangeShapes Go.WideShapes Go.ChangeAt Go.RowKit
open Go.Deep Go.Joins
open Go.Proofs.YtfdkcldbbfgaiaaDoor.ce Go.Proofs.YtfdkcldbbfgaiaaDoor.ro
set_option linter.unusedVariables false

/-- the cells of a Tally -/
def csTl (x : Tl) : List Value := [.int .i64 x.A, .int .i64 x.H, .int .i64 x.S, .int .i64 x.D, .int .i64 x.O]
theorem oneTl (x : Tl) : ∀ v ∈ csTl x, v.oneCell' = true := by
  intro v hv
  simp only [csTl, List.mem_cons, List.not_mem_nil, or_false] at hv
  rcases hv with rfl | rfl | rfl | rfl | rfl <;> rfl
def encTl : Enc Tl := ⟨csTl, 5, 25, fun _ => rfl, oneTl, by decide⟩
def encLTl : Enc Tl := ⟨csTl, 5, 23, fun _ => rfl, oneTl, by decide⟩
theorem infoTl : Info encTl := by
  have h : (Tryd.prog.info? 25).map (fun i => (i.zero, i.size, i.bytes)) = some (some (.agg #[Value.int .i64 0, Value.int .i64 0, Value.int .i64 0, Value.int .i64 0, Value.int .i64 0]), 5, 40) := by kernel_rfl
  obtain ⟨i, hi, hz⟩ := Option.map_eq_some_iff.1 h
  simp only [Prod.mk.injEq] at hz
  exact ⟨i, _, hi, hz.1, hz.2.1, by omega, rfl⟩
theorem sizeTl : (Tryd.prog.info? 25).map (·.size) = some 5 := by kernel_rfl
theorem sizeLTl : (Tryd.prog.info? 23).map (·.size) = some 5 := by kernel_rfl
theorem zeroTl (w : World) : (zeroValue 25).run Tryd.prog w = .ok (.agg [Value.int .i64 0, Value.int .i64 0, Value.int .i64 0, Value.int .i64 0, Value.int .i64 0].toArray) w := Tryd.zeroValue25 w
theorem cellsTl {w : World} {b : Nat} {t : TypeId} {v0 v1 v2 v3 v4 : Value} (h : VBlk w b t [v0, v1, v2, v3, v4]) : w.cell? ⟨b, 0, none⟩ = some v0 ∧ w.cell? ⟨b, 1, none⟩ = some v1 ∧ w.cell? ⟨b, 2, none⟩ = some v2 ∧ w.cell? ⟨b, 3, none⟩ = some v3 ∧ w.cell? ⟨b, 4, none⟩ = some v4 :=
  ⟨h.cell 0 (by simp), h.cell 1 (by simp), h.cell 2 (by simp), h.cell 3 (by simp), h.cell 4 (by simp)⟩
theorem frozTl {w : World} {b : Nat} {t : TypeId} {vs : List Value} (h : VBlk w b t vs) : w.frozen? ⟨b, 0, none⟩ = false ∧ w.frozen? ⟨b, 1, none⟩ = false ∧ w.frozen? ⟨b, 2, none⟩ = false ∧ w.frozen? ⟨b, 3, none⟩ = false ∧ w.frozen? ⟨b, 4, none⟩ = false :=
  ⟨h.frozen _, h.frozen _, h.frozen _, h.frozen _, h.frozen _⟩
/-- the one at the place i of a row -/
theorem rdTl_at {E : Enc Tl} (hp : E.put = csTl) (hk : E.k = 5) {w : World} {n cap : Nat} {a : Option Addr} {xs : List Tl} (r : Rd E w (.slice a n cap) xs) (i : Nat) (hi : i < xs.length) :
    ∃ b off, a = some ⟨b, off, none⟩ ∧ b < w.heap.size ∧ w.rangeAt b (off + i * 5) (csTl xs[i]) := by
  obtain ⟨b, off, e, h1, h2⟩ := r.start (by omega)
  refine ⟨b, off, e, h1, fun j v hv => ?_⟩
  have hj : j < 5 := (List.getElem?_eq_some_iff.1 hv).1
  have := E.row_get xs i j hi (by rw [hk]; exact hj)
  rw [hk, hp, hv] at this
  have := h2 _ _ this
  rw [Nat.add_assoc]
  exact this
theorem rngTl {w : World} {b k : Nat} {v0 v1 v2 v3 v4 : Value} (h : w.rangeAt b k [v0, v1, v2, v3, v4]) : w.cell? ⟨b, k, none⟩ = some v0 ∧ w.cell? ⟨b, k + 1, none⟩ = some v1 ∧ w.cell? ⟨b, k + 2, none⟩ = some v2 ∧ w.cell? ⟨b, k + 3, none⟩ = some v3 ∧ w.cell? ⟨b, k + 4, none⟩ = some v4 :=
  ⟨h 0 _ rfl, h 1 _ rfl, h 2 _ rfl, h 3 _ rfl, h 4 _ rfl⟩
/-- no text in it is longer than what a machine holds; none is long -/
def LoTl (l : List Tl) : Prop := ∀ x ∈ l, True
def SmTl (l : List Tl) : Prop := ∀ x ∈ l, True

set_option maxHeartbeats 4000000 in
theorem toTl_any (A : Int) (H : Int) (S : Int) (D : Int) (O : Int) (w : World) :
    Calls Tryd.prog 5 #[.agg #[.int .i64 A, .int .i64 H, .int .i64 S, .int .i64 D, .int .i64 O]] w fun e w' => e = .returned (.agg #[.int .i64 A, .int .i64 H, .int .i64 S, .int .i64 D, .int .i64 O]) ∧ Below w.heap.size w w' := by
  go_enter Tryd.func5, Tryd.ntmps5
  go_wp2
  have h1 : VBlk ((w.alloc (.cells #[.int .i64 A, .int .i64 H, .int .i64 S, .int .i64 D, .int .i64 O] 23)).alloc (.cells #[.int .i64 A, .int .i64 H, .int .i64 S, .int .i64 D, .int .i64 O] 25)) (w.heap.size + 1) 25 [.int .i64 A, .int .i64 H, .int .i64 S, .int .i64 D, .int .i64 O] := by
    have := heap_alloc_new (w.alloc (.cells #[.int .i64 A, .int .i64 H, .int .i64 S, .int .i64 D, .int .i64 O] 23)) (.cells #[.int .i64 A, .int .i64 H, .int .i64 S, .int .i64 D, .int .i64 O] 25)
    simpa [VBlk] using this
  refine row_retv rfl rfl (h1.of (Below.heap_alloc _ _ _ h1.lt)) Tryd.underlying25 sizeTl rfl ⟨rfl, ?_⟩
  exact (((Below.refl _ w).alloc (Nat.le_refl _) _).alloc (by simp) _).alloc (by simp <;> omega) _

theorem cellsLTl : Tryd.prog.cellsOf 23 = 5 := by kernel_rfl
set_option maxRecDepth 100000 in
theorem csTl_of_trod {H : Type} {enc : TypeId × Value → H} {w : World} {m0 : Nat} {cs : List Value} {y : DataW H × List MemPlace} (h : DataW.trod enc Tryd.prog w 0 (fun _ => true) true m0 23 cs = some y) : ∃ x : Tl, cs = csTl x ∧ True := by
  have cS : Tryd.prog.cellsOf 9 = 1 := by kernel_rfl
  have cI : Tryd.prog.cellsOf 2 = 1 := by kernel_rfl
  have cB : Tryd.prog.cellsOf 4 = 1 := by kernel_rfl
  obtain ⟨xs, m, -, -, hl, hxs, hf⟩ := DataW.trod_struct Tryd.underlying23 h
  rw [cellsLTl] at hl
  match cs, hl with
  | [v0, v1, v2, v3, v4], _ =>
    match xs, hxs with
    | [y0, y1, y2, y3, y4], _ =>
      have h0 := hf 0 _ rfl
      have h1 := hf 1 _ rfl
      have h2 := hf 2 _ rfl
      have h3 := hf 3 _ rfl
      have h4 := hf 4 _ rfl
      simp [cI] at h0 h1 h2 h3 h4
      obtain ⟨A, e0, -, -⟩ := DataW.trod_int Tryd.underlying2 h0
      obtain ⟨H, e1, -, -⟩ := DataW.trod_int Tryd.underlying2 h1
      obtain ⟨S, e2, -, -⟩ := DataW.trod_int Tryd.underlying2 h2
      obtain ⟨D, e3, -, -⟩ := DataW.trod_int Tryd.underlying2 h3
      obtain ⟨O, e4, -, -⟩ := DataW.trod_int Tryd.underlying2 h4
      simp at e0 e1 e2 e3 e4
      subst e0 e1 e2 e3 e4
      exact ⟨⟨A, H, S, D, O⟩, rfl, trivial⟩
set_option maxRecDepth 100000 in
theorem openTl {H : Type} {enc : TypeId × Value → H} {W : World} {r : Reach} {b0 : Nat} {v : Value} {d : DataW H} {p : List MemPlace} (hw : Value.okWide Tryd.prog W r b0 23 v) (h : DataW.Trod enc Tryd.prog W 0 (fun _ => true) true 23 v d p) :
    ∃ (A : Int) (H : Int) (S : Int) (D : Int) (O : Int), v = .agg #[.int .i64 A, .int .i64 H, .int .i64 S, .int .i64 D, .int .i64 O] ∧ True := by
  obtain ⟨cs, rfl, hsz⟩ := okWide_struct Tryd.underlying23 hw
  obtain ⟨m, hm⟩ := h
  have hm' : DataW.trod enc Tryd.prog W 0 (fun _ => true) true m 23 cs.toList = some (d, p) := by simpa [Value.cells] using hm
  obtain ⟨x, e, hs⟩ := csTl_of_trod hm'
  refine ⟨x.A, x.H, x.S, x.D, x.O, ?_, hs⟩
  have e2 : cs = #[.int .i64 x.A, .int .i64 x.H, .int .i64 x.S, .int .i64 x.D, .int .i64 x.O] := by rw [← Array.toArray_toList (xs := cs), e]; rfl
  rw [e2]
end Go.Proofs.YtfdkcldbbfgaiaaDoor.rg
