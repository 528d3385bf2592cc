/- The record Cmd in memory: its cells, rows of it, the laws' helpers on it, among the arguments. -/
import Derived.Test.YtjkhmahdokcgeaaCx1
import Derived.Test.YtjkhmahdokcgeaaRo9
import Derived.Test.YtjkhmahdokcgeaaRo10
import Derived.Test.YtjkhmahdokcgeaaRo2
import Derived.BigQuiet
import Derived.Deep.RegionHeld3
import Derived.Deep.DeepCutAuto
import Derived.Deep.Slices
import Derived.Lib.SmallJoins
import Derived.ShutString
import Derived.ChangeOld
namespace Go.Proofs.Ytjkhmahdokcgeaa.rg
open Go.ChangeShapes Go.WideShapes Go.ChangeAt Go.RowKit
open Go.Deep Go.Joins
open Go.Proofs.Ytjkhmahdokcgeaa.ce Go.Proofs.Ytjkhmahdokcgeaa.ro
set_option linter.unusedVariables false

/-- the cells of a Cmd -/
def csCm (x : cm.Cm) : List Value := [.int .i64 x.V, .string x.N, .int .i64 x.F, .int .i64 x.U, .string x.B, .int .i64 x.C, .int .i64 x.D, .bool x.Q]
theorem oneCm (x : cm.Cm) : ∀ v ∈ csCm x, v.oneCell' = true := by
  intro v hv
  simp only [csCm, List.mem_cons, List.not_mem_nil, or_false] at hv
  rcases hv with rfl | rfl | rfl | rfl | rfl | rfl | rfl | rfl <;> rfl
def encCm : Enc cm.Cm := ⟨csCm, 8, 66, fun _ => rfl, oneCm, by decide⟩
def encLCm : Enc cm.Cm := ⟨csCm, 8, 60, fun _ => rfl, oneCm, by decide⟩
theorem infoCm : Info encCm := by
  have h : (Try.prog.info? 66).map (fun i => (i.zero, i.size, i.bytes)) = some (some (.agg #[Value.int .i64 0, Value.string ⟨#[]⟩, Value.int .i64 0, Value.int .i64 0, Value.string ⟨#[]⟩, Value.int .i64 0, Value.int .i64 0, Value.bool false]), 8, 80) := by kernel_rfl
  obtain ⟨i, hi, hz⟩ := Option.map_eq_some_iff.1 h
  simp only [Prod.mk.injEq] at hz
  exact ⟨i, _, hi, hz.1, hz.2.1, by omega, rfl⟩
theorem sizeCm : (Try.prog.info? 66).map (·.size) = some 8 := by kernel_rfl
theorem sizeLCm : (Try.prog.info? 60).map (·.size) = some 8 := by kernel_rfl
theorem zeroCm (w : World) : (zeroValue 66).run Try.prog w = .ok (.agg [Value.int .i64 0, Value.string ⟨#[]⟩, Value.int .i64 0, Value.int .i64 0, Value.string ⟨#[]⟩, Value.int .i64 0, Value.int .i64 0, Value.bool false].toArray) w := Try.zeroValue66 w
theorem cellsCm {w : World} {b : Nat} {t : TypeId} {v0 v1 v2 v3 v4 v5 v6 v7 : Value} (h : VBlk w b t [v0, v1, v2, v3, v4, v5, v6, v7]) : w.cell? ⟨b, 0, none⟩ = some v0 ∧ w.cell? ⟨b, 1, none⟩ = some v1 ∧ w.cell? ⟨b, 2, none⟩ = some v2 ∧ w.cell? ⟨b, 3, none⟩ = some v3 ∧ w.cell? ⟨b, 4, none⟩ = some v4 ∧ w.cell? ⟨b, 5, none⟩ = some v5 ∧ w.cell? ⟨b, 6, none⟩ = some v6 ∧ w.cell? ⟨b, 7, none⟩ = some v7 :=
  ⟨h.cell 0 (by simp), h.cell 1 (by simp), h.cell 2 (by simp), h.cell 3 (by simp), h.cell 4 (by simp), h.cell 5 (by simp), h.cell 6 (by simp), h.cell 7 (by simp)⟩
theorem frozCm {w : World} {b : Nat} {t : TypeId} {vs : List Value} (h : VBlk w b t vs) : w.frozen? ⟨b, 0, none⟩ = false ∧ w.frozen? ⟨b, 1, none⟩ = false ∧ w.frozen? ⟨b, 2, none⟩ = false ∧ w.frozen? ⟨b, 3, none⟩ = false ∧ w.frozen? ⟨b, 4, none⟩ = false ∧ w.frozen? ⟨b, 5, none⟩ = false ∧ w.frozen? ⟨b, 6, none⟩ = false ∧ w.frozen? ⟨b, 7, none⟩ = false :=
  ⟨h.frozen _, h.frozen _, h.frozen _, h.frozen _, h.frozen _, h.frozen _, h.frozen _, h.frozen _⟩
/-- the one at the place i of a row -/
theorem rdCm_at {E : Enc cm.Cm} (hp : E.put = csCm) (hk : E.k = 8) {w : World} {n cap : Nat} {a : Option Addr} {xs : List cm.Cm} (r : Rd E w (.slice a n cap) xs) (i : Nat) (hi : i < xs.length) :
    ∃ b off, a = some ⟨b, off, none⟩ ∧ b < w.heap.size ∧ w.rangeAt b (off + i * 8) (csCm xs[i]) := by
  obtain ⟨b, off, e, h1, h2⟩ := r.start (by omega)
  refine ⟨b, off, e, h1, fun j v hv => ?_⟩
  have hj : j < 8 := (List.getElem?_eq_some_iff.1 hv).1
  have := E.row_get xs i j hi (by rw [hk]; exact hj)
  rw [hk, hp, hv] at this
  have := h2 _ _ this
  rw [Nat.add_assoc]
  exact this
theorem rngCm {w : World} {b k : Nat} {v0 v1 v2 v3 v4 v5 v6 v7 : Value} (h : w.rangeAt b k [v0, v1, v2, v3, v4, v5, v6, v7]) : w.cell? ⟨b, k, none⟩ = some v0 ∧ w.cell? ⟨b, k + 1, none⟩ = some v1 ∧ w.cell? ⟨b, k + 2, none⟩ = some v2 ∧ w.cell? ⟨b, k + 3, none⟩ = some v3 ∧ w.cell? ⟨b, k + 4, none⟩ = some v4 ∧ w.cell? ⟨b, k + 5, none⟩ = some v5 ∧ w.cell? ⟨b, k + 6, none⟩ = some v6 ∧ w.cell? ⟨b, k + 7, none⟩ = some v7 :=
  ⟨h 0 _ rfl, h 1 _ rfl, h 2 _ rfl, h 3 _ rfl, h 4 _ rfl, h 5 _ rfl, h 6 _ rfl, h 7 _ rfl⟩
/-- no text in it is longer than what a machine holds; none is long -/
def LoCm (l : List cm.Cm) : Prop := ∀ x ∈ l, x.N.size ≤ 9223372036854775807 ∧ x.B.size ≤ 9223372036854775807
def SmCm (l : List cm.Cm) : Prop := ∀ x ∈ l, x.N.size ≤ 1048576 ∧ x.B.size ≤ 1048576

set_option maxHeartbeats 1000000 in
theorem szCm_any (V : Int) (N : ByteArray) (F : Int) (U : Int) (B : ByteArray) (C : Int) (D : Int) (Q : Bool) (hN : N.size ≤ 9223372036854775807) (hB : B.size ≤ 9223372036854775807) (L : Int) (hL : L ≤ 1048576) (hL0 : 0 ≤ L) (w : World) :
    Calls Try.prog 36 #[.agg #[.int .i64 V, .string N, .int .i64 F, .int .i64 U, .string B, .int .i64 C, .int .i64 D, .bool Q], .int .i64 L] w fun e w' => ∃ q : Int, e = .returned (.int .i64 q) ∧ Below w.heap.size w w' ∧ q ≤ 1048576 ∧ (0 ≤ q → N.size ≤ 1048576 ∧ B.size ≤ 1048576) := by
  have e0 : IntKind.i64.wrap (L - (N.size : Int)) = L - (N.size : Int) := by rw [IntKind.wrap_i64]; omega
  by_cases n0 : L - (N.size : Int) < 0
  · go_enter Try.func36, Try.ntmps36
    go_wp2_with (first | (refine wpList_box_v rfl 60 _ rfl [.int .i64 V, .string N, .int .i64 F, .int .i64 U, .string B, .int .i64 C, .int .i64 D, .bool Q] rfl ?_; intro b1 w1 hb1 hw1 hB1 V1; obtain ⟨c0, c1, c2, c3, c4, c5, c6, c7⟩ := cellsCm V1) | (fail))
    go_ret
    exact ⟨-1, rfl, hB1, by omega, fun _ => by omega⟩
  have e1 : IntKind.i64.wrap (L - (N.size : Int) - (B.size : Int)) = L - (N.size : Int) - (B.size : Int) := by rw [IntKind.wrap_i64]; omega
  by_cases n1 : L - (N.size : Int) - (B.size : Int) < 0
  · go_enter Try.func36, Try.ntmps36
    go_wp2_with (first | (refine wpList_box_v rfl 60 _ rfl [.int .i64 V, .string N, .int .i64 F, .int .i64 U, .string B, .int .i64 C, .int .i64 D, .bool Q] rfl ?_; intro b1 w1 hb1 hw1 hB1 V1; obtain ⟨c0, c1, c2, c3, c4, c5, c6, c7⟩ := cellsCm V1) | (fail))
    go_ret
    exact ⟨-1, rfl, hB1, by omega, fun _ => by omega⟩
  go_enter Try.func36, Try.ntmps36
  go_wp2_with (first | (refine wpList_box_v rfl 60 _ rfl [.int .i64 V, .string N, .int .i64 F, .int .i64 U, .string B, .int .i64 C, .int .i64 D, .bool Q] rfl ?_; intro b1 w1 hb1 hw1 hB1 V1; obtain ⟨c0, c1, c2, c3, c4, c5, c6, c7⟩ := cellsCm V1) | (fail))
  go_ret
  exact ⟨_, rfl, hB1, by omega, fun _ => by omega⟩

set_option maxHeartbeats 4000000 in
theorem toCm_any (V : Int) (N : ByteArray) (F : Int) (U : Int) (B : ByteArray) (C : Int) (D : Int) (Q : Bool) (w : World) :
    Calls Try.prog 39 #[.agg #[.int .i64 V, .string N, .int .i64 F, .int .i64 U, .string B, .int .i64 C, .int .i64 D, .bool Q]] w fun e w' => e = .returned (.agg #[.int .i64 V, .string N, .int .i64 F, .int .i64 U, .string B, .int .i64 C, .int .i64 D, .bool Q]) ∧ Below w.heap.size w w' := by
  go_enter Try.func39, Try.ntmps39
  go_wp2
  have h1 : VBlk ((w.alloc (.cells #[.int .i64 V, .string N, .int .i64 F, .int .i64 U, .string B, .int .i64 C, .int .i64 D, .bool Q] 60)).alloc (.cells #[.int .i64 V, .string N, .int .i64 F, .int .i64 U, .string B, .int .i64 C, .int .i64 D, .bool Q] 66)) (w.heap.size + 1) 66 [.int .i64 V, .string N, .int .i64 F, .int .i64 U, .string B, .int .i64 C, .int .i64 D, .bool Q] := by
    have := heap_alloc_new (w.alloc (.cells #[.int .i64 V, .string N, .int .i64 F, .int .i64 U, .string B, .int .i64 C, .int .i64 D, .bool Q] 60)) (.cells #[.int .i64 V, .string N, .int .i64 F, .int .i64 U, .string B, .int .i64 C, .int .i64 D, .bool Q] 66)
    simpa [VBlk] using this
  refine row_retv rfl rfl (h1.of (Below.heap_alloc _ _ _ h1.lt)) Try.underlying66 sizeCm rfl ⟨rfl, ?_⟩
  exact (((Below.refl _ w).alloc (Nat.le_refl _) _).alloc (by simp) _).alloc (by simp <;> omega) _

theorem cellsLCm : Try.prog.cellsOf 60 = 8 := by kernel_rfl
set_option maxRecDepth 100000 in
theorem csCm_of_trod {H : Type} {enc : TypeId × Value → H} {w : World} {m0 : Nat} {cs : List Value} {y : DataW H × List MemPlace} (h : DataW.trod enc Try.prog w 0 (fun _ => true) true m0 60 cs = some y) : ∃ x : cm.Cm, cs = csCm x ∧ x.N.size ≤ 9223372036854775807 ∧ x.B.size ≤ 9223372036854775807 := by
  have cS : Try.prog.cellsOf 9 = 1 := by kernel_rfl
  have cI : Try.prog.cellsOf 2 = 1 := by kernel_rfl
  have cB : Try.prog.cellsOf 4 = 1 := by kernel_rfl
  obtain ⟨xs, m, -, -, hl, hxs, hf⟩ := DataW.trod_struct Try.underlying60 h
  rw [cellsLCm] at hl
  match cs, hl with
  | [v0, v1, v2, v3, v4, v5, v6, v7], _ =>
    match xs, hxs with
    | [y0, y1, y2, y3, y4, y5, y6, y7], _ =>
      have h0 := hf 0 _ rfl
      have h1 := hf 1 _ rfl
      have h2 := hf 2 _ rfl
      have h3 := hf 3 _ rfl
      have h4 := hf 4 _ rfl
      have h5 := hf 5 _ rfl
      have h6 := hf 6 _ rfl
      have h7 := hf 7 _ rfl
      simp [cI, cS, cB] at h0 h1 h2 h3 h4 h5 h6 h7
      obtain ⟨V, e0, -, -⟩ := DataW.trod_int Try.underlying2 h0
      obtain ⟨N, e1, -, s1⟩ := DataW.trod_string Try.underlying9 h1
      obtain ⟨F, e2, -, -⟩ := DataW.trod_int Try.underlying2 h2
      obtain ⟨U, e3, -, -⟩ := DataW.trod_int Try.underlying2 h3
      obtain ⟨B, e4, -, s4⟩ := DataW.trod_string Try.underlying9 h4
      obtain ⟨C, e5, -, -⟩ := DataW.trod_int Try.underlying2 h5
      obtain ⟨D, e6, -, -⟩ := DataW.trod_int Try.underlying2 h6
      obtain ⟨Q, e7, -⟩ := DataW.trod_bool Try.underlying4 h7
      simp at e0 e1 e2 e3 e4 e5 e6 e7
      subst e0 e1 e2 e3 e4 e5 e6 e7
      exact ⟨⟨V, N, F, U, B, C, D, Q⟩, rfl, s1, s4⟩
set_option maxRecDepth 100000 in
theorem openCm {H : Type} {enc : TypeId × Value → H} {W : World} {r : Reach} {b0 : Nat} {v : Value} {d : DataW H} {p : List MemPlace} (hw : Value.okWide Try.prog W r b0 60 v) (h : DataW.Trod enc Try.prog W 0 (fun _ => true) true 60 v d p) :
    ∃ (V : Int) (N : ByteArray) (F : Int) (U : Int) (B : ByteArray) (C : Int) (D : Int) (Q : Bool), v = .agg #[.int .i64 V, .string N, .int .i64 F, .int .i64 U, .string B, .int .i64 C, .int .i64 D, .bool Q] ∧ N.size ≤ 9223372036854775807 ∧ B.size ≤ 9223372036854775807 := by
  obtain ⟨cs, rfl, hsz⟩ := okWide_struct Try.underlying60 hw
  obtain ⟨m, hm⟩ := h
  have hm' : DataW.trod enc Try.prog W 0 (fun _ => true) true m 60 cs.toList = some (d, p) := by simpa [Value.cells] using hm
  obtain ⟨x, e, hs⟩ := csCm_of_trod hm'
  refine ⟨x.V, x.N, x.F, x.U, x.B, x.C, x.D, x.Q, ?_, hs⟩
  have e2 : cs = #[.int .i64 x.V, .string x.N, .int .i64 x.F, .int .i64 x.U, .string x.B, .int .i64 x.C, .int .i64 x.D, .bool x.Q] := by rw [← Array.toArray_toList (xs := cs), e]; rfl
  rw [e2]
end Go.Proofs.Ytjkhmahdokcgeaa.rg
