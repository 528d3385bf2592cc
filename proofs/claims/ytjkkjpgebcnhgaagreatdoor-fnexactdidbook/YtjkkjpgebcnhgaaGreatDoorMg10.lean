/- Texts laid together: RcCm RcRp Dd0 Dd1 Dd2. -/
import Derived.Test.YtjkkjpgebcnhgaaGreatDoorMg01
import Derived.Test.YtjkkjpgebcnhgaaGreatDoorMg03
import Derived.Test.YtjkkjpgebcnhgaaGreatDoorMg00
import Derived.Test.YtjkkjpgebcnhgaaGreatDoorMg02
import Derived.Test.YtjkkjpgebcnhgaaGreatDoorMg06
import Derived.Test.YtjkkjpgebcnhgaaGreatDoorWr5
import Derived.Test.YtjkkjpgebcnhgaaGreatDoorMg04
import Derived.BigQuiet
import Derived.Deep.RegionHeld3
import Derived.Deep.DeepCutAuto
import Derived.Deep.Slices
import Derived.Lib.SmallJoins
import Derived.ShutString
import Derived.ChangeOld
/- The record Cmd in memory: its cells, rows of it, the laws' helpers on it, among the arguments. -/
namespace Go.Proofs.YtjkkjpgebcnhgaaGreatDoor.rg
open Go.ChangeShapes Go.WideShapes Go.ChangeAt Go.RowKit
open Go.Deep Go.Joins
open Go.Proofs.YtjkkjpgebcnhgaaGreatDoor.ce Go.Proofs.YtjkkjpgebcnhgaaGreatDoor.ro
set_option linter.unusedVariables false

/-- the cells of a Cmd -/
def csCm (x : cm.Cm) : List Value := [.int .i64 x.V, .string x.N, .int .i64 x.F, .int .i64 x.U, .string x.B, .int .i64 x.C, .int .i64 x.D, .bool x.Q]
theorem sizeCm : (Tryz.prog.info? 37).map (·.size) = some 8 := by kernel_rfl
theorem sizeLCm : (Tryz.prog.info? 26).map (·.size) = some 8 := by kernel_rfl
theorem cellsCm {w : World} {b : Nat} {t : TypeId} {v0 v1 v2 v3 v4 v5 v6 v7 : Value} (h : VBlk w b t [v0, v1, v2, v3, v4, v5, v6, v7]) : w.cell? ⟨b, 0, none⟩ = some v0 ∧ w.cell? ⟨b, 1, none⟩ = some v1 ∧ w.cell? ⟨b, 2, none⟩ = some v2 ∧ w.cell? ⟨b, 3, none⟩ = some v3 ∧ w.cell? ⟨b, 4, none⟩ = some v4 ∧ w.cell? ⟨b, 5, none⟩ = some v5 ∧ w.cell? ⟨b, 6, none⟩ = some v6 ∧ w.cell? ⟨b, 7, none⟩ = some v7 :=
  ⟨h.cell 0 (by simp), h.cell 1 (by simp), h.cell 2 (by simp), h.cell 3 (by simp), h.cell 4 (by simp), h.cell 5 (by simp), h.cell 6 (by simp), h.cell 7 (by simp)⟩
set_option maxHeartbeats 1000000 in
theorem szCm_any (V : Int) (N : ByteArray) (F : Int) (U : Int) (B : ByteArray) (C : Int) (D : Int) (Q : Bool) (hN : N.size ≤ 9223372036854775807) (hB : B.size ≤ 9223372036854775807) (L : Int) (hL : L ≤ 1048576) (hL0 : 0 ≤ L) (w : World) :
    Calls Tryz.prog 7 #[.agg #[.int .i64 V, .string N, .int .i64 F, .int .i64 U, .string B, .int .i64 C, .int .i64 D, .bool Q], .int .i64 L] w fun e w' => ∃ q : Int, e = .returned (.int .i64 q) ∧ Below w.heap.size w w' ∧ q ≤ 1048576 ∧ (0 ≤ q → N.size ≤ 1048576 ∧ B.size ≤ 1048576) := by
  have e0 : IntKind.i64.wrap (L - (N.size : Int)) = L - (N.size : Int) := by rw [IntKind.wrap_i64]; omega
  by_cases n0 : L - (N.size : Int) < 0
  · go_enter Tryz.func7, Tryz.ntmps7
    go_wp2_with (first | (refine wpList_box_v rfl 26 _ rfl [.int .i64 V, .string N, .int .i64 F, .int .i64 U, .string B, .int .i64 C, .int .i64 D, .bool Q] rfl ?_; intro b1 w1 hb1 hw1 hB1 V1; obtain ⟨c0, c1, c2, c3, c4, c5, c6, c7⟩ := cellsCm V1) | (fail))
    go_ret
    exact ⟨-1, rfl, hB1, by omega, fun _ => by omega⟩
  have e1 : IntKind.i64.wrap (L - (N.size : Int) - (B.size : Int)) = L - (N.size : Int) - (B.size : Int) := by rw [IntKind.wrap_i64]; omega
  by_cases n1 : L - (N.size : Int) - (B.size : Int) < 0
  · go_enter Tryz.func7, Tryz.ntmps7
    go_wp2_with (first | (refine wpList_box_v rfl 26 _ rfl [.int .i64 V, .string N, .int .i64 F, .int .i64 U, .string B, .int .i64 C, .int .i64 D, .bool Q] rfl ?_; intro b1 w1 hb1 hw1 hB1 V1; obtain ⟨c0, c1, c2, c3, c4, c5, c6, c7⟩ := cellsCm V1) | (fail))
    go_ret
    exact ⟨-1, rfl, hB1, by omega, fun _ => by omega⟩
  go_enter Tryz.func7, Tryz.ntmps7
  go_wp2_with (first | (refine wpList_box_v rfl 26 _ rfl [.int .i64 V, .string N, .int .i64 F, .int .i64 U, .string B, .int .i64 C, .int .i64 D, .bool Q] rfl ?_; intro b1 w1 hb1 hw1 hB1 V1; obtain ⟨c0, c1, c2, c3, c4, c5, c6, c7⟩ := cellsCm V1) | (fail))
  go_ret
  exact ⟨_, rfl, hB1, by omega, fun _ => by omega⟩

set_option maxHeartbeats 4000000 in
theorem toCm_any (V : Int) (N : ByteArray) (F : Int) (U : Int) (B : ByteArray) (C : Int) (D : Int) (Q : Bool) (w : World) :
    Calls Tryz.prog 10 #[.agg #[.int .i64 V, .string N, .int .i64 F, .int .i64 U, .string B, .int .i64 C, .int .i64 D, .bool Q]] w fun e w' => e = .returned (.agg #[.int .i64 V, .string N, .int .i64 F, .int .i64 U, .string B, .int .i64 C, .int .i64 D, .bool Q]) ∧ Below w.heap.size w w' := by
  go_enter Tryz.func10, Tryz.ntmps10
  go_wp2
  have h1 : VBlk ((w.alloc (.cells #[.int .i64 V, .string N, .int .i64 F, .int .i64 U, .string B, .int .i64 C, .int .i64 D, .bool Q] 26)).alloc (.cells #[.int .i64 V, .string N, .int .i64 F, .int .i64 U, .string B, .int .i64 C, .int .i64 D, .bool Q] 37)) (w.heap.size + 1) 37 [.int .i64 V, .string N, .int .i64 F, .int .i64 U, .string B, .int .i64 C, .int .i64 D, .bool Q] := by
    have := heap_alloc_new (w.alloc (.cells #[.int .i64 V, .string N, .int .i64 F, .int .i64 U, .string B, .int .i64 C, .int .i64 D, .bool Q] 26)) (.cells #[.int .i64 V, .string N, .int .i64 F, .int .i64 U, .string B, .int .i64 C, .int .i64 D, .bool Q] 37)
    simpa [VBlk] using this
  refine row_retv rfl rfl (h1.of (Below.heap_alloc _ _ _ h1.lt)) Tryz.underlying37 sizeCm rfl ⟨rfl, ?_⟩
  exact (((Below.refl _ w).alloc (Nat.le_refl _) _).alloc (by simp) _).alloc (by simp <;> omega) _

theorem cellsLCm : Tryz.prog.cellsOf 26 = 8 := by kernel_rfl
set_option maxRecDepth 100000 in
theorem csCm_of_trod {H : Type} {enc : TypeId × Value → H} {w : World} {m0 : Nat} {cs : List Value} {y : DataW H × List MemPlace} (h : DataW.trod enc Tryz.prog w 0 (fun _ => true) true m0 26 cs = some y) : ∃ x : cm.Cm, cs = csCm x ∧ x.N.size ≤ 9223372036854775807 ∧ x.B.size ≤ 9223372036854775807 := by
  have cS : Tryz.prog.cellsOf 9 = 1 := by kernel_rfl
  have cI : Tryz.prog.cellsOf 2 = 1 := by kernel_rfl
  have cB : Tryz.prog.cellsOf 4 = 1 := by kernel_rfl
  obtain ⟨xs, m, -, -, hl, hxs, hf⟩ := DataW.trod_struct Tryz.underlying26 h
  rw [cellsLCm] at hl
  match cs, hl with
  | [v0, v1, v2, v3, v4, v5, v6, v7], _ =>
    match xs, hxs with
    | [y0, y1, y2, y3, y4, y5, y6, y7], _ =>
      have h0 := hf 0 _ rfl
      have h1 := hf 1 _ rfl
      have h2 := hf 2 _ rfl
      have h3 := hf 3 _ rfl
      have h4 := hf 4 _ rfl
      have h5 := hf 5 _ rfl
      have h6 := hf 6 _ rfl
      have h7 := hf 7 _ rfl
      simp [cI, cS, cB] at h0 h1 h2 h3 h4 h5 h6 h7
      obtain ⟨V, e0, -, -⟩ := DataW.trod_int Tryz.underlying2 h0
      obtain ⟨N, e1, -, s1⟩ := DataW.trod_string Tryz.underlying9 h1
      obtain ⟨F, e2, -, -⟩ := DataW.trod_int Tryz.underlying2 h2
      obtain ⟨U, e3, -, -⟩ := DataW.trod_int Tryz.underlying2 h3
      obtain ⟨B, e4, -, s4⟩ := DataW.trod_string Tryz.underlying9 h4
      obtain ⟨C, e5, -, -⟩ := DataW.trod_int Tryz.underlying2 h5
      obtain ⟨D, e6, -, -⟩ := DataW.trod_int Tryz.underlying2 h6
      obtain ⟨Q, e7, -⟩ := DataW.trod_bool Tryz.underlying4 h7
      simp at e0 e1 e2 e3 e4 e5 e6 e7
      subst e0 e1 e2 e3 e4 e5 e6 e7
      exact ⟨⟨V, N, F, U, B, C, D, Q⟩, rfl, s1, s4⟩
set_option maxRecDepth 100000 in
theorem openCm {H : Type} {enc : TypeId × Value → H} {W : World} {r : Reach} {b0 : Nat} {v : Value} {d : DataW H} {p : List MemPlace} (hw : Value.okWide Tryz.prog W r b0 26 v) (h : DataW.Trod enc Tryz.prog W 0 (fun _ => true) true 26 v d p) :
    ∃ (V : Int) (N : ByteArray) (F : Int) (U : Int) (B : ByteArray) (C : Int) (D : Int) (Q : Bool), v = .agg #[.int .i64 V, .string N, .int .i64 F, .int .i64 U, .string B, .int .i64 C, .int .i64 D, .bool Q] ∧ N.size ≤ 9223372036854775807 ∧ B.size ≤ 9223372036854775807 := by
  obtain ⟨cs, rfl, hsz⟩ := okWide_struct Tryz.underlying26 hw
  obtain ⟨m, hm⟩ := h
  have hm' : DataW.trod enc Tryz.prog W 0 (fun _ => true) true m 26 cs.toList = some (d, p) := by simpa [Value.cells] using hm
  obtain ⟨x, e, hs⟩ := csCm_of_trod hm'
  refine ⟨x.V, x.N, x.F, x.U, x.B, x.C, x.D, x.Q, ?_, hs⟩
  have e2 : cs = #[.int .i64 x.V, .string x.N, .int .i64 x.F, .int .i64 x.U, .string x.B, .int .i64 x.C, .int .i64 x.D, .bool x.Q] := by rw [← Array.toArray_toList (xs := cs), e]; rfl
  rw [e2]
end Go.Proofs.YtjkkjpgebcnhgaaGreatDoor.rg
/- The record Reply in memory: its cells, rows of it, the laws' helpers on it, among the arguments. -/
namespace Go.Proofs.YtjkkjpgebcnhgaaGreatDoor.rg
open Go.ChangeShapes Go.WideShapes Go.ChangeAt Go.RowKit
open Go.Deep Go.Joins
open Go.Proofs.YtjkkjpgebcnhgaaGreatDoor.ce Go.Proofs.YtjkkjpgebcnhgaaGreatDoor.ro
set_option linter.unusedVariables false

/-- the cells of a Reply -/
def csRp (x : cm.Rp) : List Value := [.int .i64 x.K, .string x.N, .int .i64 x.F, .string x.B, .int .i64 x.C, .int .i64 x.M]
theorem oneRp (x : cm.Rp) : ∀ v ∈ csRp x, v.oneCell' = true := by
  intro v hv
  simp only [csRp, List.mem_cons, List.not_mem_nil, or_false] at hv
  rcases hv with rfl | rfl | rfl | rfl | rfl | rfl <;> rfl
theorem sizeRp : (Tryz.prog.info? 33).map (·.size) = some 6 := by kernel_rfl
theorem zeroRp (w : World) : (zeroValue 33).run Tryz.prog w = .ok (.agg [Value.int .i64 0, Value.string ⟨#[]⟩, Value.int .i64 0, Value.string ⟨#[]⟩, Value.int .i64 0, Value.int .i64 0].toArray) w := Tryz.zeroValue33 w
theorem cellsRp {w : World} {b : Nat} {t : TypeId} {v0 v1 v2 v3 v4 v5 : Value} (h : VBlk w b t [v0, v1, v2, v3, v4, v5]) : w.cell? ⟨b, 0, none⟩ = some v0 ∧ w.cell? ⟨b, 1, none⟩ = some v1 ∧ w.cell? ⟨b, 2, none⟩ = some v2 ∧ w.cell? ⟨b, 3, none⟩ = some v3 ∧ w.cell? ⟨b, 4, none⟩ = some v4 ∧ w.cell? ⟨b, 5, none⟩ = some v5 :=
  ⟨h.cell 0 (by simp), h.cell 1 (by simp), h.cell 2 (by simp), h.cell 3 (by simp), h.cell 4 (by simp), h.cell 5 (by simp)⟩
set_option maxHeartbeats 1000000 in
theorem eqRp_any (K : Int) (N : ByteArray) (F : Int) (B : ByteArray) (C : Int) (M : Int) (w : World) :
    Calls Tryz.prog 13 #[.agg #[.int .i64 K, .string N, .int .i64 F, .string B, .int .i64 C, .int .i64 M], .agg #[.int .i64 K, .string N, .int .i64 F, .string B, .int .i64 C, .int .i64 M]] w fun e w' => e = .returned (.bool true) ∧ Below w.heap.size w w' := by
  have eK : (K != K) = false := by simp
  have eN : (N.toList == N.toList) = true := by simp
  have eF : (F != F) = false := by simp
  have eB : (B.toList == B.toList) = true := by simp
  have eC : (C != C) = false := by simp
  have eM : (M != M) = false := by simp
  have m1 : Hid True := trivial
  go_enter Tryz.func13, Tryz.ntmps13
  go_wp2_with (first | (clear m1; refine wpList_box_v rfl 33 _ rfl [.int .i64 K, .string N, .int .i64 F, .string B, .int .i64 C, .int .i64 M] rfl ?_; intro b1 w1 hb1 hw1 hB1 V1; have hz1 := hB1.size) | (refine wpList_box_v rfl 33 _ rfl [.int .i64 K, .string N, .int .i64 F, .string B, .int .i64 C, .int .i64 M] rfl ?_; intro b2 w2 hb2 hw2 hB2 V2; obtain ⟨c0, c1, c2, c3, c4, c5⟩ := cellsRp (vblk_grow V1 hB2); obtain ⟨d0, d1, d2, d3, d4, d5⟩ := cellsRp V2) | (fail))
  go_ret
  exact ⟨rfl, hB1.trans (hB2.mono hz1)⟩

end Go.Proofs.YtjkkjpgebcnhgaaGreatDoor.rg
/- What DidBook wants of books, no Go in sight; two structs as results. -/
namespace Go.Proofs.YtjkkjpgebcnhgaaGreatDoor.rg
open Go.ChangeShapes Go.WideShapes Go.ChangeAt Go.RowKit
open Go.Proofs.YtjkkjpgebcnhgaaGreatDoor.ce Go.Proofs.YtjkkjpgebcnhgaaGreatDoor.ro Go.Proofs.YtjkkjpgebcnhgaaGreatDoor.cm
set_option linter.unusedVariables false

theorem results_cc {fn : Func} {p u : Tmp} {ty ty2 : TypeId} (h : fn.results = #[.cell p ty, .cell u ty2]) (tmps : Array Value) (P : Program) (w : World) :
    (results fn tmps).run P w =
      ((asAddr (tmps.getD p undef)).run P w).andThen fun a w₁ => ((loadVar ty a).run P w₁).andThen fun v w₂ => ((asAddr (tmps.getD u undef)).run P w₂).andThen fun a₂ w₃ => ((loadVar ty2 a₂).run P w₃).andThen fun v₂ w₄ => .ok (.tuple #[v, v₂]) w₄ := by
  simp only [results, h]
  simp [Sem.run_bind, Result.andThen]
theorem row_cc {fn : Func} {p u : Tmp} {ty ty2 : TypeId} (h : fn.results = #[.cell p ty, .cell u ty2]) {R : Ending → World → Prop} {a : Act} {w : World} {b b2 : Nat} {t t2 : TypeId} {vs vs2 : List Value} {fs fs2 : Array Field}
    (hp : a.tmps.getD p undef = .pointer (some ⟨b, 0, none⟩)) (hx : a.tmps.getD u undef = .pointer (some ⟨b2, 0, none⟩)) (hb : VBlk w b t vs) (hb2 : VBlk w b2 t2 vs2) (hu : Tryz.prog.underlying ty = some (.struct fs)) (hu2 : Tryz.prog.underlying ty2 = some (.struct fs2))
    (hi : (Tryz.prog.info? ty).map (·.size) = some vs.length) (hi2 : (Tryz.prog.info? ty2).map (·.size) = some vs2.length) (hdf : a.defers = []) (hR : R (.returned (.tuple #[.agg vs.toArray, .agg vs2.toArray])) w) : bodyPost Tryz.prog fn R .ret a w := by
  have hl := run_loadVar_row (P := Tryz.prog) w b t ty vs.toArray (0, 0) _ hb hu rfl (by rw [hi]; simp)
  have hl2 := run_loadVar_row (P := Tryz.prog) w b2 t2 ty2 vs2.toArray (0, 0) _ hb2 hu2 rfl (by rw [hi2]; simp)
  refine bodyPost_ret ?_ hdf hR
  rw [results_cc h, hp, hx]
  simp [asAddr, hl, hl2]

theorem num_in {s : ByteArray} {a : Int} (h : rdF (bs s) = (a, true)) (h0 : 0 ≤ a) : ∃ n : Nat, a = n ∧ numB s = some n := by
  have hc := rdF_nat (l := bs s) (by rw [h]) (by rw [h]; exact h0)
  have := rdF_yes hc
  rw [h] at this
  refine ⟨val 0 (bs s), congrArg Prod.fst this, ?_⟩
  unfold numB
  rw [if_pos hc]
theorem num_out {s : ByteArray} {a : Int} {b : Bool} (h : rdF (bs s) = (a, b)) (h0 : b = false ∨ a < 0) : numB s = none := by
  unfold numB
  rw [if_neg]
  intro hc
  have := rdF_yes hc
  rw [h] at this
  have e1 := congrArg Prod.fst this
  have e2 := congrArg Prod.snd this
  dsimp only at e1 e2
  rcases h0 with h0 | h0
  · rw [h0] at e2; cases e2
  · omega
theorem up_lt {c : Cm} {n : Nat} (hn : n ≤ 999999999) : upN c n ≤ 999999999 := by
  unfold upN
  split
  · omega
  · omega
theorem put_set {I : List It} (h : Srt I) {k : Nat} (hk : k < I.length) (i : It) (hn : i.N = I[k].N) : putL I i = I.set k i := by
  have hd := drop_at h hk
  have hl : (I.take k).length = k := by rw [List.length_take]; omega
  have hdl : (dropL I i.N) = I.take k ++ I.drop (k + 1) := by rw [hn, hd]
  have hlt : ∀ t (ht : t < I.length), t < k → ltS I[t].N I[k].N = true := fun t ht htk => List.pairwise_iff_getElem.1 h t k ht hk htk
  have hgt : ∀ t (ht : t < I.length), k < t → ltS I[t].N I[k].N = false := fun t ht htk => by
    have := List.pairwise_iff_getElem.1 h k t hk ht htk
    cases e : ltS I[t].N I[k].N with
    | false => rfl
    | true => exact absurd rfl (ltS_ne (ltS_trans this e))
  have hw := with_is h i (k := k) (by rw [hdl, List.length_append, hl]; omega) (fun t ht htk => by
    have e : (dropL I i.N)[t] = I[t]'(by omega) := by simp only [hdl]; rw [List.getElem_append_left (by omega)]; simp
    rw [e, hn]
    exact hlt t _ htk) (fun t ht htk => by
    have ht' : t + 1 < I.length := by rw [hdl, List.length_append, hl, List.length_drop] at ht; omega
    have e : (dropL I i.N)[t] = I[t + 1] := by
      simp only [hdl]
      rw [List.getElem_append_right (by omega), List.getElem_drop]
      congr 1
      rw [hl]; omega
    rw [e, hn]
    exact hgt (t + 1) ht' (by omega))
  rw [← hw, hdl, List.take_left' hl, List.drop_left' hl, List.set_eq_take_append_cons_drop, if_pos hk]
theorem touch_put {I : List It} (h : Srt I) {s : ByteArray} {o : It} (ho : lookI I s = some o) (u : Int) : putL I (touchI u o) = touchL I s u := by
  obtain ⟨-, hn, k, hk, -, e⟩ := look_some ho
  subst e
  rw [put_set h hk (touchI u I[k]) rfl, ← hn, touch_at h hk]
theorem up_stamp {b : Bk} (h : StOk b) {s : ByteArray} {o : It} (ho : lookI b.I s = some o) {m : Nat} (hm : m ≤ 999999999) : stampOk b (withB o (digs m)) = true := by
  obtain ⟨hmem, hn, k, hk, -, e⟩ := look_some ho
  have hi := itemB_iff.1 (h.bk.1 o hmem)
  have hl : (digs m).length ≤ 9 := (canon_iff.1 (canon_digs hm)).2.2.1
  unfold stampOk
  rw [Bool.and_eq_true]
  constructor
  · exact itemB_iff.2 ⟨hi.nm, hi.f0, hi.f1, (show (tx (digs m)).size ≤ 64 by rw [tx_size]; omega), h.x0, h.x1, hi.u0, hi.u1⟩
  · have e2 : (putL b.I (stampI b (withB o (digs m)))).length = b.I.length := (put_len h.bk.srt _).2 ⟨o, hmem, rfl⟩
    rw [e2]
    have := h.bk.2.2
    exact decide_eq_true (by omega)
end Go.Proofs.YtjkkjpgebcnhgaaGreatDoor.rg
/- Contracts: the program's deeds that stamp nothing. -/
namespace Go.Proofs.YtjkkjpgebcnhgaaGreatDoor.rg
open Go.ChangeShapes Go.WideShapes Go.ChangeAt Go.RowKit
open Go.Deep Go.Joins
open Go.Proofs.YtjkkjpgebcnhgaaGreatDoor.ce Go.Proofs.YtjkkjpgebcnhgaaGreatDoor.ro Go.Proofs.YtjkkjpgebcnhgaaGreatDoor.cm
set_option linter.unusedVariables false

def PostD (b : Bk) (r : Rp) (lo : Nat) (w : World) (e : Ending) (w' : World) : Prop := ∃ v', e = .returned (.tuple #[.agg #[v', .int .i64 b.X], .agg (csRp r).toArray]) ∧ Own encIt w' lo w'.heap.size v' b.I ∧ Below w.heap.size w w'
set_option maxRecDepth 100000 in
set_option maxHeartbeats 2000000 in
theorem missing_any (I : List It) (X : Int) (N B : ByteArray) (F C U : Int) (V : Int) (N2 : ByteArray) (F2 U2 : Int) (B2 : ByteArray) (C2 D2 : Int) (Q2 : Bool) (v : Value) (lo : Nat) (w : World) (o : Own encIt w lo w.heap.size v I) (hlo : lo ≤ w.heap.size) :
    Calls Tryz.prog 77 #[.agg #[v, .int .i64 X], .agg #[.string N, .int .i64 F, .string B, .int .i64 C, .int .i64 U], .agg #[.int .i64 V, .string N2, .int .i64 F2, .int .i64 U2, .string B2, .int .i64 C2, .int .i64 D2, .bool Q2]] w fun e w' => PostD ⟨I, X⟩ (rp 4) lo w e w' := by
  obtain ⟨A0, n0, k0, rfl⟩ := o.slice
  have hzw0 : w.heap.size ≤ w.heap.size := Nat.le_refl _
  go_enter Tryz.func77, Tryz.ntmps77
  have mk1 : Hid True := trivial
  have mk2 : Hid True := trivial
  have mk3 : Hid True := trivial
  have mk4 : Hid True := trivial
  have mk5 : Hid True := trivial
  have mk6 : Hid True := trivial
  have mk7 : Hid True := trivial
  have mk8 : Hid True := trivial
  go_wp2_with (first | (clear mk1; refine wpList_box_v rfl 31 _ rfl [.slice A0 n0 k0, .int .i64 X] rfl ?_; intro b3 w1 hb3 hwb3 hB1 c3; have hz1 : w.heap.size ≤ w1.heap.size := hB1.size; replace o := o.grow hB1; have hB := hB1; have hzw := hB.size; obtain ⟨c30, c31⟩ := cells2 c3) | (clear mk2; refine wpList_box_v rfl 56 _ rfl [.string N, .int .i64 F, .string B, .int .i64 C, .int .i64 U] rfl ?_; intro b4 w2 hb4 hwb4 hB2 c4; have hz2 : w1.heap.size ≤ w2.heap.size := hB2.size; replace o := o.grow hB2; replace c3 := vblk_grow c3 hB2; replace hB := hB.trans (hB2.mono (by omega)); replace hzw := hB.size; clear c30 c31; obtain ⟨c30, c31⟩ := cells2 c3; obtain ⟨c40, c41, c42, c43, c44⟩ := cells5 c4) | (clear mk3; refine wpList_box_v rfl 37 _ rfl [.int .i64 V, .string N2, .int .i64 F2, .int .i64 U2, .string B2, .int .i64 C2, .int .i64 D2, .bool Q2] rfl ?_; intro b5 w3 hb5 hwb5 hB3 c5; have hz3 : w2.heap.size ≤ w3.heap.size := hB3.size; replace o := o.grow hB3; replace c3 := vblk_grow c3 hB3; replace c4 := vblk_grow c4 hB3; replace hB := hB.trans (hB3.mono (by omega)); replace hzw := hB.size; clear c30 c31; obtain ⟨c30, c31⟩ := cells2 c3; clear c40 c41 c42 c43 c44; obtain ⟨c40, c41, c42, c43, c44⟩ := cells5 c4; obtain ⟨c50, c51, c52, c53, c54, c55, c56, c57⟩ := cellsCm c5) | (clear mk4; refine wpList_alloc_v rfl 31 rfl _ zeroBk ?_; intro b6 w4 hb6 hwb6 hB4 c6; have hz4 : w3.heap.size ≤ w4.heap.size := hB4.size; replace o := o.grow hB4; replace c3 := vblk_grow c3 hB4; replace c4 := vblk_grow c4 hB4; replace c5 := vblk_grow c5 hB4; replace hB := hB.trans (hB4.mono (by omega)); replace hzw := hB.size; clear c30 c31; obtain ⟨c30, c31⟩ := cells2 c3; clear c40 c41 c42 c43 c44; obtain ⟨c40, c41, c42, c43, c44⟩ := cells5 c4; clear c50 c51 c52 c53 c54 c55 c56 c57; obtain ⟨c50, c51, c52, c53, c54, c55, c56, c57⟩ := cellsCm c5; obtain ⟨c60, c61⟩ := cells2 c6) | (clear mk5; refine wpList_alloc_v rfl 33 rfl _ zeroRp ?_; intro b7 w5 hb7 hwb7 hB5 c7; have hz5 : w4.heap.size ≤ w5.heap.size := hB5.size; replace o := o.grow hB5; replace c3 := vblk_grow c3 hB5; replace c4 := vblk_grow c4 hB5; replace c5 := vblk_grow c5 hB5; replace c6 := vblk_grow c6 hB5; replace hB := hB.trans (hB5.mono (by omega)); replace hzw := hB.size; clear c30 c31; obtain ⟨c30, c31⟩ := cells2 c3; clear c40 c41 c42 c43 c44; obtain ⟨c40, c41, c42, c43, c44⟩ := cells5 c4; clear c50 c51 c52 c53 c54 c55 c56 c57; obtain ⟨c50, c51, c52, c53, c54, c55, c56, c57⟩ := cellsCm c5; clear c60 c61; obtain ⟨c60, c61⟩ := cells2 c6; obtain ⟨c70, c71, c72, c73, c74, c75⟩ := cellsRp c7) | (clear mk6; refine wpList_load_r rfl 31 _ rfl b3 0 [.slice A0 n0 k0, .int .i64 X] rfl _ Tryz.underlying31 rfl sizeBk c3.range ?_) | (clear mk7; refine wpList_store_v rfl 31 _ _ rfl b6 [.slice A0 n0 k0, .int .i64 X] rfl rfl sizeBk c6 rfl (oneBk _ _ _ _) ?_; intro w6 hO6 c6x; clear c60 c61; have hz6 : w5.heap.size ≤ w6.heap.size := (Nat.le_of_eq hO6.1.symm); have hy6 : w6.heap.size ≤ w5.heap.size := (Nat.le_of_eq hO6.1); replace o := o.only hO6 c6 (by decide); replace c3 := vblk_only c3 hO6 (by omega); replace c4 := vblk_only c4 hO6 (by omega); replace c5 := vblk_only c5 hO6 (by omega); replace c7 := vblk_only c7 hO6 (by omega); replace hB := hB.trans (hO6.2.2 _ (by omega)); replace hzw := hB.size; clear c30 c31; obtain ⟨c30, c31⟩ := cells2 c3; clear c40 c41 c42 c43 c44; obtain ⟨c40, c41, c42, c43, c44⟩ := cells5 c4; clear c50 c51 c52 c53 c54 c55 c56 c57; obtain ⟨c50, c51, c52, c53, c54, c55, c56, c57⟩ := cellsCm c5; clear c70 c71 c72 c73 c74 c75; obtain ⟨c70, c71, c72, c73, c74, c75⟩ := cellsRp c7; clear c6; have c6 := c6x; clear c6x; obtain ⟨c60, c61⟩ := cells2 c6) | (clear mk8; refine wpList_store_v rfl 33 _ _ rfl b7 [.int .i64 4, .string ⟨#[]⟩, .int .i64 0, .string ⟨#[]⟩, .int .i64 0, .int .i64 0] rfl rfl sizeRp c7 rfl (oneRp (rp 4)) ?_; intro w7 hO7 c7x; clear c70 c71 c72 c73 c74 c75; have hz7 : w6.heap.size ≤ w7.heap.size := (Nat.le_of_eq hO7.1.symm); have hy7 : w7.heap.size ≤ w6.heap.size := (Nat.le_of_eq hO7.1); replace o := o.only hO7 c7 (by decide); replace c3 := vblk_only c3 hO7 (by omega); replace c4 := vblk_only c4 hO7 (by omega); replace c5 := vblk_only c5 hO7 (by omega); replace c6 := vblk_only c6 hO7 (by omega); replace hB := hB.trans (hO7.2.2 _ (by omega)); replace hzw := hB.size; clear c30 c31; obtain ⟨c30, c31⟩ := cells2 c3; clear c40 c41 c42 c43 c44; obtain ⟨c40, c41, c42, c43, c44⟩ := cells5 c4; clear c50 c51 c52 c53 c54 c55 c56 c57; obtain ⟨c50, c51, c52, c53, c54, c55, c56, c57⟩ := cellsCm c5; clear c60 c61; obtain ⟨c60, c61⟩ := cells2 c6; clear c7; have c7 := c7x; clear c7x; obtain ⟨c70, c71, c72, c73, c74, c75⟩ := cellsRp c7) | (fail))
  exact row_cc rfl rfl rfl c6 c7 Tryz.underlying31 Tryz.underlying33 sizeBk sizeRp rfl ⟨_, rfl, (o.wide (Nat.le_refl _) (by omega)).top, hB⟩

set_option maxRecDepth 100000 in
set_option maxHeartbeats 2000000 in
theorem refuse_any (I : List It) (X : Int) (N B : ByteArray) (F C U : Int) (V : Int) (N2 : ByteArray) (F2 U2 : Int) (B2 : ByteArray) (C2 D2 : Int) (Q2 : Bool) (v : Value) (lo : Nat) (w : World) (o : Own encIt w lo w.heap.size v I) (hlo : lo ≤ w.heap.size) :
    Calls Tryz.prog 80 #[.agg #[v, .int .i64 X], .agg #[.string N, .int .i64 F, .string B, .int .i64 C, .int .i64 U], .agg #[.int .i64 V, .string N2, .int .i64 F2, .int .i64 U2, .string B2, .int .i64 C2, .int .i64 D2, .bool Q2]] w fun e w' => PostD ⟨I, X⟩ (rp 2) lo w e w' := by
  obtain ⟨A0, n0, k0, rfl⟩ := o.slice
  have hzw0 : w.heap.size ≤ w.heap.size := Nat.le_refl _
  go_enter Tryz.func80, Tryz.ntmps80
  have mk1 : Hid True := trivial
  have mk2 : Hid True := trivial
  have mk3 : Hid True := trivial
  have mk4 : Hid True := trivial
  have mk5 : Hid True := trivial
  have mk6 : Hid True := trivial
  have mk7 : Hid True := trivial
  have mk8 : Hid True := trivial
  go_wp2_with (first | (clear mk1; refine wpList_box_v rfl 31 _ rfl [.slice A0 n0 k0, .int .i64 X] rfl ?_; intro b3 w1 hb3 hwb3 hB1 c3; have hz1 : w.heap.size ≤ w1.heap.size := hB1.size; replace o := o.grow hB1; have hB := hB1; have hzw := hB.size; obtain ⟨c30, c31⟩ := cells2 c3) | (clear mk2; refine wpList_box_v rfl 56 _ rfl [.string N, .int .i64 F, .string B, .int .i64 C, .int .i64 U] rfl ?_; intro b4 w2 hb4 hwb4 hB2 c4; have hz2 : w1.heap.size ≤ w2.heap.size := hB2.size; replace o := o.grow hB2; replace c3 := vblk_grow c3 hB2; replace hB := hB.trans (hB2.mono (by omega)); replace hzw := hB.size; clear c30 c31; obtain ⟨c30, c31⟩ := cells2 c3; obtain ⟨c40, c41, c42, c43, c44⟩ := cells5 c4) | (clear mk3; refine wpList_box_v rfl 37 _ rfl [.int .i64 V, .string N2, .int .i64 F2, .int .i64 U2, .string B2, .int .i64 C2, .int .i64 D2, .bool Q2] rfl ?_; intro b5 w3 hb5 hwb5 hB3 c5; have hz3 : w2.heap.size ≤ w3.heap.size := hB3.size; replace o := o.grow hB3; replace c3 := vblk_grow c3 hB3; replace c4 := vblk_grow c4 hB3; replace hB := hB.trans (hB3.mono (by omega)); replace hzw := hB.size; clear c30 c31; obtain ⟨c30, c31⟩ := cells2 c3; clear c40 c41 c42 c43 c44; obtain ⟨c40, c41, c42, c43, c44⟩ := cells5 c4; obtain ⟨c50, c51, c52, c53, c54, c55, c56, c57⟩ := cellsCm c5) | (clear mk4; refine wpList_alloc_v rfl 31 rfl _ zeroBk ?_; intro b6 w4 hb6 hwb6 hB4 c6; have hz4 : w3.heap.size ≤ w4.heap.size := hB4.size; replace o := o.grow hB4; replace c3 := vblk_grow c3 hB4; replace c4 := vblk_grow c4 hB4; replace c5 := vblk_grow c5 hB4; replace hB := hB.trans (hB4.mono (by omega)); replace hzw := hB.size; clear c30 c31; obtain ⟨c30, c31⟩ := cells2 c3; clear c40 c41 c42 c43 c44; obtain ⟨c40, c41, c42, c43, c44⟩ := cells5 c4; clear c50 c51 c52 c53 c54 c55 c56 c57; obtain ⟨c50, c51, c52, c53, c54, c55, c56, c57⟩ := cellsCm c5; obtain ⟨c60, c61⟩ := cells2 c6) | (clear mk5; refine wpList_alloc_v rfl 33 rfl _ zeroRp ?_; intro b7 w5 hb7 hwb7 hB5 c7; have hz5 : w4.heap.size ≤ w5.heap.size := hB5.size; replace o := o.grow hB5; replace c3 := vblk_grow c3 hB5; replace c4 := vblk_grow c4 hB5; replace c5 := vblk_grow c5 hB5; replace c6 := vblk_grow c6 hB5; replace hB := hB.trans (hB5.mono (by omega)); replace hzw := hB.size; clear c30 c31; obtain ⟨c30, c31⟩ := cells2 c3; clear c40 c41 c42 c43 c44; obtain ⟨c40, c41, c42, c43, c44⟩ := cells5 c4; clear c50 c51 c52 c53 c54 c55 c56 c57; obtain ⟨c50, c51, c52, c53, c54, c55, c56, c57⟩ := cellsCm c5; clear c60 c61; obtain ⟨c60, c61⟩ := cells2 c6; obtain ⟨c70, c71, c72, c73, c74, c75⟩ := cellsRp c7) | (clear mk6; refine wpList_load_r rfl 31 _ rfl b3 0 [.slice A0 n0 k0, .int .i64 X] rfl _ Tryz.underlying31 rfl sizeBk c3.range ?_) | (clear mk7; refine wpList_store_v rfl 31 _ _ rfl b6 [.slice A0 n0 k0, .int .i64 X] rfl rfl sizeBk c6 rfl (oneBk _ _ _ _) ?_; intro w6 hO6 c6x; clear c60 c61; have hz6 : w5.heap.size ≤ w6.heap.size := (Nat.le_of_eq hO6.1.symm); have hy6 : w6.heap.size ≤ w5.heap.size := (Nat.le_of_eq hO6.1); replace o := o.only hO6 c6 (by decide); replace c3 := vblk_only c3 hO6 (by omega); replace c4 := vblk_only c4 hO6 (by omega); replace c5 := vblk_only c5 hO6 (by omega); replace c7 := vblk_only c7 hO6 (by omega); replace hB := hB.trans (hO6.2.2 _ (by omega)); replace hzw := hB.size; clear c30 c31; obtain ⟨c30, c31⟩ := cells2 c3; clear c40 c41 c42 c43 c44; obtain ⟨c40, c41, c42, c43, c44⟩ := cells5 c4; clear c50 c51 c52 c53 c54 c55 c56 c57; obtain ⟨c50, c51, c52, c53, c54, c55, c56, c57⟩ := cellsCm c5; clear c70 c71 c72 c73 c74 c75; obtain ⟨c70, c71, c72, c73, c74, c75⟩ := cellsRp c7; clear c6; have c6 := c6x; clear c6x; obtain ⟨c60, c61⟩ := cells2 c6) | (clear mk8; refine wpList_store_v rfl 33 _ _ rfl b7 [.int .i64 2, .string ⟨#[]⟩, .int .i64 0, .string ⟨#[]⟩, .int .i64 0, .int .i64 0] rfl rfl sizeRp c7 rfl (oneRp (rp 2)) ?_; intro w7 hO7 c7x; clear c70 c71 c72 c73 c74 c75; have hz7 : w6.heap.size ≤ w7.heap.size := (Nat.le_of_eq hO7.1.symm); have hy7 : w7.heap.size ≤ w6.heap.size := (Nat.le_of_eq hO7.1); replace o := o.only hO7 c7 (by decide); replace c3 := vblk_only c3 hO7 (by omega); replace c4 := vblk_only c4 hO7 (by omega); replace c5 := vblk_only c5 hO7 (by omega); replace c6 := vblk_only c6 hO7 (by omega); replace hB := hB.trans (hO7.2.2 _ (by omega)); replace hzw := hB.size; clear c30 c31; obtain ⟨c30, c31⟩ := cells2 c3; clear c40 c41 c42 c43 c44; obtain ⟨c40, c41, c42, c43, c44⟩ := cells5 c4; clear c50 c51 c52 c53 c54 c55 c56 c57; obtain ⟨c50, c51, c52, c53, c54, c55, c56, c57⟩ := cellsCm c5; clear c60 c61; obtain ⟨c60, c61⟩ := cells2 c6; clear c7; have c7 := c7x; clear c7x; obtain ⟨c70, c71, c72, c73, c74, c75⟩ := cellsRp c7) | (fail))
  exact row_cc rfl rfl rfl c6 c7 Tryz.underlying31 Tryz.underlying33 sizeBk sizeRp rfl ⟨_, rfl, (o.wide (Nat.le_refl _) (by omega)).top, hB⟩

set_option maxRecDepth 100000 in
set_option maxHeartbeats 2000000 in
theorem tellValue_any (I : List It) (X : Int) (N B : ByteArray) (F C U : Int) (V : Int) (N2 : ByteArray) (F2 U2 : Int) (B2 : ByteArray) (C2 D2 : Int) (Q2 : Bool) (v : Value) (lo : Nat) (w : World) (o : Own encIt w lo w.heap.size v I) (hlo : lo ≤ w.heap.size) :
    Calls Tryz.prog 76 #[.agg #[v, .int .i64 X], .agg #[.string N, .int .i64 F, .string B, .int .i64 C, .int .i64 U], .agg #[.int .i64 V, .string N2, .int .i64 F2, .int .i64 U2, .string B2, .int .i64 C2, .int .i64 D2, .bool Q2]] w fun e w' => PostD ⟨I, X⟩ ⟨5, N, F, B, 0, 0⟩ lo w e w' := by
  obtain ⟨A0, n0, k0, rfl⟩ := o.slice
  have hzw0 : w.heap.size ≤ w.heap.size := Nat.le_refl _
  go_enter Tryz.func76, Tryz.ntmps76
  have mk1 : Hid True := trivial
  have mk2 : Hid True := trivial
  have mk3 : Hid True := trivial
  have mk4 : Hid True := trivial
  have mk5 : Hid True := trivial
  go_upto_region 1 with (first | (clear mk1; refine wpList_box_v rfl 31 _ rfl [.slice A0 n0 k0, .int .i64 X] rfl ?_; intro b3 w1 hb3 hwb3 hB1 c3; have hz1 : w.heap.size ≤ w1.heap.size := hB1.size; replace o := o.grow hB1; have hB := hB1; have hzw := hB.size; obtain ⟨c30, c31⟩ := cells2 c3) | (clear mk2; refine wpList_box_v rfl 56 _ rfl [.string N, .int .i64 F, .string B, .int .i64 C, .int .i64 U] rfl ?_; intro b4 w2 hb4 hwb4 hB2 c4; have hz2 : w1.heap.size ≤ w2.heap.size := hB2.size; replace o := o.grow hB2; replace c3 := vblk_grow c3 hB2; replace hB := hB.trans (hB2.mono (by omega)); replace hzw := hB.size; clear c30 c31; obtain ⟨c30, c31⟩ := cells2 c3; obtain ⟨c40, c41, c42, c43, c44⟩ := cells5 c4) | (clear mk3; refine wpList_box_v rfl 37 _ rfl [.int .i64 V, .string N2, .int .i64 F2, .int .i64 U2, .string B2, .int .i64 C2, .int .i64 D2, .bool Q2] rfl ?_; intro b5 w3 hb5 hwb5 hB3 c5; have hz3 : w2.heap.size ≤ w3.heap.size := hB3.size; replace o := o.grow hB3; replace c3 := vblk_grow c3 hB3; replace c4 := vblk_grow c4 hB3; replace hB := hB.trans (hB3.mono (by omega)); replace hzw := hB.size; clear c30 c31; obtain ⟨c30, c31⟩ := cells2 c3; clear c40 c41 c42 c43 c44; obtain ⟨c40, c41, c42, c43, c44⟩ := cells5 c4; obtain ⟨c50, c51, c52, c53, c54, c55, c56, c57⟩ := cellsCm c5) | (clear mk4; refine wpList_alloc_v rfl 31 rfl _ zeroBk ?_; intro b6 w4 hb6 hwb6 hB4 c6; have hz4 : w3.heap.size ≤ w4.heap.size := hB4.size; replace o := o.grow hB4; replace c3 := vblk_grow c3 hB4; replace c4 := vblk_grow c4 hB4; replace c5 := vblk_grow c5 hB4; replace hB := hB.trans (hB4.mono (by omega)); replace hzw := hB.size; clear c30 c31; obtain ⟨c30, c31⟩ := cells2 c3; clear c40 c41 c42 c43 c44; obtain ⟨c40, c41, c42, c43, c44⟩ := cells5 c4; clear c50 c51 c52 c53 c54 c55 c56 c57; obtain ⟨c50, c51, c52, c53, c54, c55, c56, c57⟩ := cellsCm c5; obtain ⟨c60, c61⟩ := cells2 c6) | (clear mk5; refine wpList_alloc_v rfl 33 rfl _ zeroRp ?_; intro b7 w5 hb7 hwb7 hB5 c7; have hz5 : w4.heap.size ≤ w5.heap.size := hB5.size; replace o := o.grow hB5; replace c3 := vblk_grow c3 hB5; replace c4 := vblk_grow c4 hB5; replace c5 := vblk_grow c5 hB5; replace c6 := vblk_grow c6 hB5; replace hB := hB.trans (hB5.mono (by omega)); replace hzw := hB.size; clear c30 c31; obtain ⟨c30, c31⟩ := cells2 c3; clear c40 c41 c42 c43 c44; obtain ⟨c40, c41, c42, c43, c44⟩ := cells5 c4; clear c50 c51 c52 c53 c54 c55 c56 c57; obtain ⟨c50, c51, c52, c53, c54, c55, c56, c57⟩ := cellsCm c5; clear c60 c61; obtain ⟨c60, c61⟩ := cells2 c6; obtain ⟨c70, c71, c72, c73, c74, c75⟩ := cellsRp c7) | (fail))
  have hBd : Below w5.heap.size w5 w5.drew := (Below.refl _ _).drew
  have hzd : w5.drew.heap.size ≤ w5.heap.size := Nat.le_refl _
  have hzd2 : w5.heap.size ≤ w5.drew.heap.size := Nat.le_refl _
  replace o := o.grow hBd
  replace c3 := vblk_grow c3 hBd
  clear c30 c31
  obtain ⟨c30, c31⟩ := cells2 c3
  replace c4 := vblk_grow c4 hBd
  clear c40 c41 c42 c43 c44
  obtain ⟨c40, c41, c42, c43, c44⟩ := cells5 c4
  replace c5 := vblk_grow c5 hBd
  clear c50 c51 c52 c53 c54 c55 c56 c57
  obtain ⟨c50, c51, c52, c53, c54, c55, c56, c57⟩ := cellsCm c5
  replace c6 := vblk_grow c6 hBd
  clear c60 c61
  obtain ⟨c60, c61⟩ := cells2 c6
  replace c7 := vblk_grow c7 hBd
  clear c70 c71 c72 c73 c74 c75
  obtain ⟨c70, c71, c72, c73, c74, c75⟩ := cellsRp c7
  replace hB := hB.trans (hBd.mono (by omega))
  replace hzw := hB.size
  (try simp only [Act.put])
  (try simp only [List.setIfInBounds_toArray, List.set_cons_zero, List.set_cons_succ])
  clear c30 c31
  clear c40 c41 c42 c43 c44
  clear c50 c51 c52 c53 c54 c55 c56 c57
  clear c60 c61
  clear c70 c71 c72 c73 c74 c75
  refine wp_region_held_drew (S := fun w' => w'.cell? ⟨b3, 0, none⟩ = some (.slice A0 n0 k0) ∧ w'.cell? ⟨b3, 1, none⟩ = some (.int .i64 X) ∧ w'.cell? ⟨b4, 0, none⟩ = some (.string N) ∧ w'.cell? ⟨b4, 1, none⟩ = some (.int .i64 F) ∧ w'.cell? ⟨b4, 2, none⟩ = some (.string B) ∧ w'.cell? ⟨b4, 3, none⟩ = some (.int .i64 C) ∧ w'.cell? ⟨b4, 4, none⟩ = some (.int .i64 U)) (by kernel_rfl) (⟨(cells2 c3).1, (cells2 c3).2, cells5 c4⟩) (fun hHeld => ?_)
  refine wpAnyH_take (i := 0) (oi := { dst := some 8, op := Op.load 31 (Operand.tmp 3), type := 31, pos := "l13_store.go:50", after := #[], guard := none }) (v := ?_) rfl (by kernel_rfl) (by kernel_rfl) (by kernel_rfl) (fun _ _ _ h => h) (Or.inl ⟨by rfl, ?_⟩) (by assumption) ?_
  rotate_left 1
  · intro w' hSw; (try dsimp only at hSw); go_simp; (try with_reducible rfl)
  (try simp only [Act.put, List.setIfInBounds_toArray, List.set_cons_zero, List.set_cons_succ])
  refine wpAnyH_take (i := 1) (oi := { dst := some 9, op := Op.fieldAddr 56 (Operand.tmp 4) 0, type := 0, pos := "l13_store.go:50", after := #[{ on := 8, ground := Ground.gcOnly Departure.lateStores }], guard := none }) (v := ?_) rfl (by kernel_rfl) (by kernel_rfl) (by kernel_rfl) (fun _ _ _ h => h) (Or.inl ⟨by rfl, ?_⟩) (by assumption) ?_
  rotate_left 1
  · intro w' hSw; (try dsimp only at hSw); go_simp; (try with_reducible rfl)
  (try simp only [Act.put, List.setIfInBounds_toArray, List.set_cons_zero, List.set_cons_succ])
  refine wpAnyH_take (i := 2) (oi := { dst := some 10, op := Op.load 9 (Operand.tmp 9), type := 9, pos := "l13_store.go:50", after := #[{ on := 1, ground := Ground.data }, { on := 8, ground := Ground.gcOnly Departure.lateStores }], guard := none }) (v := ?_) rfl (by kernel_rfl) (by kernel_rfl) (by kernel_rfl) (fun _ _ _ h => h) (Or.inl ⟨by rfl, ?_⟩) (by assumption) ?_
  rotate_left 1
  · intro w' hSw; (try dsimp only at hSw); go_simp; (try with_reducible rfl)
  (try simp only [Act.put, List.setIfInBounds_toArray, List.set_cons_zero, List.set_cons_succ])
  refine wpAnyH_take (i := 3) (oi := { dst := some 11, op := Op.fieldAddr 56 (Operand.tmp 4) 1, type := 0, pos := "l13_store.go:50", after := #[{ on := 8, ground := Ground.gcOnly Departure.lateStores }], guard := none }) (v := ?_) rfl (by kernel_rfl) (by kernel_rfl) (by kernel_rfl) (fun _ _ _ h => h) (Or.inl ⟨by rfl, ?_⟩) (by assumption) ?_
  rotate_left 1
  · intro w' hSw; (try dsimp only at hSw); go_simp; (try with_reducible rfl)
  (try simp only [Act.put, List.setIfInBounds_toArray, List.set_cons_zero, List.set_cons_succ])
  refine wpAnyH_take (i := 4) (oi := { dst := some 12, op := Op.load 2 (Operand.tmp 11), type := 2, pos := "l13_store.go:50", after := #[{ on := 3, ground := Ground.data }, { on := 8, ground := Ground.gcOnly Departure.lateStores }], guard := none }) (v := ?_) rfl (by kernel_rfl) (by kernel_rfl) (by kernel_rfl) (fun _ _ _ h => h) (Or.inl ⟨by rfl, ?_⟩) (by assumption) ?_
  rotate_left 1
  · intro w' hSw; (try dsimp only at hSw); go_simp; (try with_reducible rfl)
  (try simp only [Act.put, List.setIfInBounds_toArray, List.set_cons_zero, List.set_cons_succ])
  refine wpAnyH_take (i := 5) (oi := { dst := some 13, op := Op.fieldAddr 56 (Operand.tmp 4) 2, type := 0, pos := "l13_store.go:50", after := #[{ on := 8, ground := Ground.gcOnly Departure.lateStores }], guard := none }) (v := ?_) rfl (by kernel_rfl) (by kernel_rfl) (by kernel_rfl) (fun _ _ _ h => h) (Or.inl ⟨by rfl, ?_⟩) (by assumption) ?_
  rotate_left 1
  · intro w' hSw; (try dsimp only at hSw); go_simp; (try with_reducible rfl)
  (try simp only [Act.put, List.setIfInBounds_toArray, List.set_cons_zero, List.set_cons_succ])
  refine wpAnyH_take (i := 6) (oi := { dst := some 14, op := Op.load 9 (Operand.tmp 13), type := 9, pos := "l13_store.go:50", after := #[{ on := 5, ground := Ground.data }, { on := 8, ground := Ground.gcOnly Departure.lateStores }], guard := none }) (v := ?_) rfl (by kernel_rfl) (by kernel_rfl) (by kernel_rfl) (fun _ _ _ h => h) (Or.inl ⟨by rfl, ?_⟩) (by assumption) ?_
  rotate_left 1
  · intro w' hSw; (try dsimp only at hSw); go_simp; (try with_reducible rfl)
  (try simp only [Act.put, List.setIfInBounds_toArray, List.set_cons_zero, List.set_cons_succ])
  refine wpAnyH_take (i := 7) (oi := { dst := some 15, op := Op.build 33 #[(0, Operand.const (Value.int IntKind.i64 5)), (1, Operand.tmp 10), (2, Operand.tmp 12), (3, Operand.tmp 14)], type := 33, pos := "l13_store.go:50", after := #[{ on := 2, ground := Ground.data }, { on := 4, ground := Ground.data }, { on := 6, ground := Ground.data }, { on := 8, ground := Ground.gcOnly Departure.lateStores }], guard := none }) (v := ?_) rfl (by kernel_rfl) (by kernel_rfl) (by kernel_rfl) (fun _ _ _ h => h) (Or.inl ⟨by rfl, ?_⟩) (by assumption) ?_
  rotate_left 1
  · intro w' hSw; (try dsimp only at hSw); go_simp; (try with_reducible rfl)
  (try simp only [Act.put, List.setIfInBounds_toArray, List.set_cons_zero, List.set_cons_succ])
  refine wpAnyH_ready (rs := [8]) (by kernel_rfl) (by simp) ?_
  refine AllReadyH.cons (o := { dst := none, op := Op.store 31 (Operand.tmp 6) (Operand.tmp 8), type := 0, pos := "l13_store.go:50", after := #[{ on := 0, ground := Ground.data }, { on := 0, ground := Ground.phase }, { on := 1, ground := Ground.textOnly Departure.lateStores }, { on := 2, ground := Ground.textOnly Departure.lateStores }, { on := 3, ground := Ground.textOnly Departure.lateStores }, { on := 4, ground := Ground.textOnly Departure.lateStores }, { on := 5, ground := Ground.textOnly Departure.lateStores }, { on := 6, ground := Ground.textOnly Departure.lateStores }, { on := 7, ground := Ground.textOnly Departure.lateStores }], guard := none }) rfl (fun KC hKC => ?_) AllReadyH.nil
  refine step_store_v rfl 31 _ _ rfl b6 [.slice A0 n0 k0, .int .i64 X] rfl rfl sizeBk c6 rfl (oneBk _ _ _ _) ?_
  intro wr8 hO8r c6x
  have hz8r : w5.drew.heap.size ≤ wr8.heap.size := Nat.le_of_eq hO8r.1.symm
  have hy8r : wr8.heap.size ≤ w5.drew.heap.size := Nat.le_of_eq hO8r.1
  (try replace o := o.only hO8r c6 (by decide))
  replace c3 := vblk_only c3 hO8r (by omega)
  replace c4 := vblk_only c4 hO8r (by omega)
  replace c5 := vblk_only c5 hO8r (by omega)
  replace c7 := vblk_only c7 hO8r (by omega)
  clear c6
  have c6 := c6x
  clear c6x
  replace hB := hB.trans (hO8r.2.2 _ (by omega))
  replace hzw := hB.size
  refine hKC.out _ _ (⟨(cells2 c3).1, (cells2 c3).2, cells5 c4⟩) (fun hHeld2 => ?_)
  clear hKC KC hHeld
  have hHeld := hHeld2
  clear hHeld2
  (try simp only [Act.put])
  refine wpAnyH_ready (rs := [9]) (by kernel_rfl) (by simp) ?_
  refine AllReadyH.cons (o := { dst := none, op := Op.store 33 (Operand.tmp 7) (Operand.tmp 15), type := 0, pos := "l13_store.go:50", after := #[{ on := 7, ground := Ground.data }, { on := 8, ground := Ground.chain }, { on := 0, ground := Ground.phase }, { on := 1, ground := Ground.phase }, { on := 2, ground := Ground.phase }, { on := 3, ground := Ground.phase }, { on := 4, ground := Ground.phase }, { on := 5, ground := Ground.phase }, { on := 6, ground := Ground.phase }, { on := 7, ground := Ground.phase }, { on := 8, ground := Ground.phase }], guard := none }) rfl (fun KC hKC => ?_) AllReadyH.nil
  refine step_store_v rfl 33 _ _ rfl b7 [.int .i64 5, .string N, .int .i64 F, .string B, .int .i64 0, .int .i64 0] rfl rfl sizeRp c7 rfl (oneRp ⟨5, N, F, B, 0, 0⟩) ?_
  intro wr9 hO9r c7x
  have hz9r : wr8.heap.size ≤ wr9.heap.size := Nat.le_of_eq hO9r.1.symm
  have hy9r : wr9.heap.size ≤ wr8.heap.size := Nat.le_of_eq hO9r.1
  (try replace o := o.only hO9r c7 (by decide))
  replace c3 := vblk_only c3 hO9r (by omega)
  replace c4 := vblk_only c4 hO9r (by omega)
  replace c5 := vblk_only c5 hO9r (by omega)
  replace c6 := vblk_only c6 hO9r (by omega)
  clear c7
  have c7 := c7x
  clear c7x
  replace hB := hB.trans (hO9r.2.2 _ (by omega))
  replace hzw := hB.size
  refine hKC.out _ _ (⟨(cells2 c3).1, (cells2 c3).2, cells5 c4⟩) (fun hHeld2 => ?_)
  clear hKC KC hHeld
  have hHeld := hHeld2
  clear hHeld2
  (try simp only [Act.put])
  refine wpAnyH_done (by kernel_rfl) ?_ _
  go_wp2
  exact row_cc rfl rfl rfl c6 c7 Tryz.underlying31 Tryz.underlying33 sizeBk sizeRp rfl ⟨_, rfl, (o.wide (Nat.le_refl _) (by omega)).top, hB⟩

set_option maxRecDepth 100000 in
set_option maxHeartbeats 2000000 in
theorem tellValueAndCas_any (I : List It) (X : Int) (N B : ByteArray) (F C U : Int) (V : Int) (N2 : ByteArray) (F2 U2 : Int) (B2 : ByteArray) (C2 D2 : Int) (Q2 : Bool) (v : Value) (lo : Nat) (w : World) (o : Own encIt w lo w.heap.size v I) (hlo : lo ≤ w.heap.size) :
    Calls Tryz.prog 78 #[.agg #[v, .int .i64 X], .agg #[.string N, .int .i64 F, .string B, .int .i64 C, .int .i64 U], .agg #[.int .i64 V, .string N2, .int .i64 F2, .int .i64 U2, .string B2, .int .i64 C2, .int .i64 D2, .bool Q2]] w fun e w' => PostD ⟨I, X⟩ ⟨5, N, F, B, C, 0⟩ lo w e w' := by
  obtain ⟨A0, n0, k0, rfl⟩ := o.slice
  have hzw0 : w.heap.size ≤ w.heap.size := Nat.le_refl _
  go_enter Tryz.func78, Tryz.ntmps78
  have mk1 : Hid True := trivial
  have mk2 : Hid True := trivial
  have mk3 : Hid True := trivial
  have mk4 : Hid True := trivial
  have mk5 : Hid True := trivial
  have mk6 : Hid True := trivial
  have mk7 : Hid True := trivial
  have mk8 : Hid True := trivial
  have mk9 : Hid True := trivial
  have mk10 : Hid True := trivial
  have mk11 : Hid True := trivial
  have mk12 : Hid True := trivial
  have mk13 : Hid True := trivial
  have mk14 : Hid True := trivial
  go_upto_region 3 with (first | (clear mk1; refine wpList_box_v rfl 31 _ rfl [.slice A0 n0 k0, .int .i64 X] rfl ?_; intro b3 w1 hb3 hwb3 hB1 c3; have hz1 : w.heap.size ≤ w1.heap.size := hB1.size; replace o := o.grow hB1; have hB := hB1; have hzw := hB.size; obtain ⟨c30, c31⟩ := cells2 c3) | (clear mk2; refine wpList_box_v rfl 56 _ rfl [.string N, .int .i64 F, .string B, .int .i64 C, .int .i64 U] rfl ?_; intro b4 w2 hb4 hwb4 hB2 c4; have hz2 : w1.heap.size ≤ w2.heap.size := hB2.size; replace o := o.grow hB2; replace c3 := vblk_grow c3 hB2; replace hB := hB.trans (hB2.mono (by omega)); replace hzw := hB.size; clear c30 c31; obtain ⟨c30, c31⟩ := cells2 c3; obtain ⟨c40, c41, c42, c43, c44⟩ := cells5 c4) | (clear mk3; refine wpList_box_v rfl 37 _ rfl [.int .i64 V, .string N2, .int .i64 F2, .int .i64 U2, .string B2, .int .i64 C2, .int .i64 D2, .bool Q2] rfl ?_; intro b5 w3 hb5 hwb5 hB3 c5; have hz3 : w2.heap.size ≤ w3.heap.size := hB3.size; replace o := o.grow hB3; replace c3 := vblk_grow c3 hB3; replace c4 := vblk_grow c4 hB3; replace hB := hB.trans (hB3.mono (by omega)); replace hzw := hB.size; clear c30 c31; obtain ⟨c30, c31⟩ := cells2 c3; clear c40 c41 c42 c43 c44; obtain ⟨c40, c41, c42, c43, c44⟩ := cells5 c4; obtain ⟨c50, c51, c52, c53, c54, c55, c56, c57⟩ := cellsCm c5) | (clear mk4; refine wpList_alloc_v rfl 31 rfl _ zeroBk ?_; intro b6 w4 hb6 hwb6 hB4 c6; have hz4 : w3.heap.size ≤ w4.heap.size := hB4.size; replace o := o.grow hB4; replace c3 := vblk_grow c3 hB4; replace c4 := vblk_grow c4 hB4; replace c5 := vblk_grow c5 hB4; replace hB := hB.trans (hB4.mono (by omega)); replace hzw := hB.size; clear c30 c31; obtain ⟨c30, c31⟩ := cells2 c3; clear c40 c41 c42 c43 c44; obtain ⟨c40, c41, c42, c43, c44⟩ := cells5 c4; clear c50 c51 c52 c53 c54 c55 c56 c57; obtain ⟨c50, c51, c52, c53, c54, c55, c56, c57⟩ := cellsCm c5; obtain ⟨c60, c61⟩ := cells2 c6) | (clear mk5; refine wpList_alloc_v rfl 33 rfl _ zeroRp ?_; intro b7 w5 hb7 hwb7 hB5 c7; have hz5 : w4.heap.size ≤ w5.heap.size := hB5.size; replace o := o.grow hB5; replace c3 := vblk_grow c3 hB5; replace c4 := vblk_grow c4 hB5; replace c5 := vblk_grow c5 hB5; replace c6 := vblk_grow c6 hB5; replace hB := hB.trans (hB5.mono (by omega)); replace hzw := hB.size; clear c30 c31; obtain ⟨c30, c31⟩ := cells2 c3; clear c40 c41 c42 c43 c44; obtain ⟨c40, c41, c42, c43, c44⟩ := cells5 c4; clear c50 c51 c52 c53 c54 c55 c56 c57; obtain ⟨c50, c51, c52, c53, c54, c55, c56, c57⟩ := cellsCm c5; clear c60 c61; obtain ⟨c60, c61⟩ := cells2 c6; obtain ⟨c70, c71, c72, c73, c74, c75⟩ := cellsRp c7) | (clear mk6; refine wpList_load_r rfl 31 _ rfl b3 0 [.slice A0 n0 k0, .int .i64 X] rfl _ Tryz.underlying31 rfl sizeBk c3.range ?_) | (clear mk7; refine wpList_load_r rfl 56 _ rfl b4 0 [.string N, .int .i64 F, .string B, .int .i64 C, .int .i64 U] rfl _ Tryz.underlying56 rfl sizeIt c4.range ?_) | (clear mk8; refine wpList_load_r rfl 37 _ rfl b5 0 [.int .i64 V, .string N2, .int .i64 F2, .int .i64 U2, .string B2, .int .i64 C2, .int .i64 D2, .bool Q2] rfl _ Tryz.underlying37 rfl sizeCm c5.range ?_) | (clear mk9; go_at_call 76; refine (tellValue_any I X N B F C U V N2 F2 U2 B2 C2 D2 Q2 _ lo _ o.top (by omega)).mono ?_; rintro er w6 ⟨v1, rfl, o1, hB6⟩; have hz6 : w5.heap.size ≤ w6.heap.size := hB6.size; replace o := o.grow hB6; replace c3 := vblk_grow c3 hB6; replace c4 := vblk_grow c4 hB6; replace c5 := vblk_grow c5 hB6; replace c6 := vblk_grow c6 hB6; replace c7 := vblk_grow c7 hB6; replace hB := hB.trans (hB6.mono (by omega)); replace hzw := hB.size; clear c30 c31; obtain ⟨c30, c31⟩ := cells2 c3; clear c40 c41 c42 c43 c44; obtain ⟨c40, c41, c42, c43, c44⟩ := cells5 c4; clear c50 c51 c52 c53 c54 c55 c56 c57; obtain ⟨c50, c51, c52, c53, c54, c55, c56, c57⟩ := cellsCm c5; clear c60 c61; obtain ⟨c60, c61⟩ := cells2 c6; clear c70 c71 c72 c73 c74 c75; obtain ⟨c70, c71, c72, c73, c74, c75⟩ := cellsRp c7; obtain ⟨A1, n1, k1, rfl⟩ := o1.slice; clear o1) | (clear mk10; refine wpList_alloc_v rfl 31 rfl _ zeroBk ?_; intro b8 w7 hb8 hwb8 hB7 c8; have hz7 : w6.heap.size ≤ w7.heap.size := hB7.size; replace o := o.grow hB7; replace c3 := vblk_grow c3 hB7; replace c4 := vblk_grow c4 hB7; replace c5 := vblk_grow c5 hB7; replace c6 := vblk_grow c6 hB7; replace c7 := vblk_grow c7 hB7; replace hB := hB.trans (hB7.mono (by omega)); replace hzw := hB.size; clear c30 c31; obtain ⟨c30, c31⟩ := cells2 c3; clear c40 c41 c42 c43 c44; obtain ⟨c40, c41, c42, c43, c44⟩ := cells5 c4; clear c50 c51 c52 c53 c54 c55 c56 c57; obtain ⟨c50, c51, c52, c53, c54, c55, c56, c57⟩ := cellsCm c5; clear c60 c61; obtain ⟨c60, c61⟩ := cells2 c6; clear c70 c71 c72 c73 c74 c75; obtain ⟨c70, c71, c72, c73, c74, c75⟩ := cellsRp c7; obtain ⟨c80, c81⟩ := cells2 c8) | (clear mk11; refine wpList_alloc_v rfl 33 rfl _ zeroRp ?_; intro b9 w8 hb9 hwb9 hB8 c9; have hz8 : w7.heap.size ≤ w8.heap.size := hB8.size; replace o := o.grow hB8; replace c3 := vblk_grow c3 hB8; replace c4 := vblk_grow c4 hB8; replace c5 := vblk_grow c5 hB8; replace c6 := vblk_grow c6 hB8; replace c7 := vblk_grow c7 hB8; replace c8 := vblk_grow c8 hB8; replace hB := hB.trans (hB8.mono (by omega)); replace hzw := hB.size; clear c30 c31; obtain ⟨c30, c31⟩ := cells2 c3; clear c40 c41 c42 c43 c44; obtain ⟨c40, c41, c42, c43, c44⟩ := cells5 c4; clear c50 c51 c52 c53 c54 c55 c56 c57; obtain ⟨c50, c51, c52, c53, c54, c55, c56, c57⟩ := cellsCm c5; clear c60 c61; obtain ⟨c60, c61⟩ := cells2 c6; clear c70 c71 c72 c73 c74 c75; obtain ⟨c70, c71, c72, c73, c74, c75⟩ := cellsRp c7; clear c80 c81; obtain ⟨c80, c81⟩ := cells2 c8; obtain ⟨c90, c91, c92, c93, c94, c95⟩ := cellsRp c9) | (clear mk12; refine wpList_store_v rfl 31 _ _ rfl b8 [.slice A1 n1 k1, .int .i64 X] rfl rfl sizeBk c8 rfl (oneBk _ _ _ _) ?_; intro w9 hO9 c8x; clear c80 c81; have hz9 : w8.heap.size ≤ w9.heap.size := (Nat.le_of_eq hO9.1.symm); have hy9 : w9.heap.size ≤ w8.heap.size := (Nat.le_of_eq hO9.1); replace o := o.only hO9 c8 (by decide); replace c3 := vblk_only c3 hO9 (by omega); replace c4 := vblk_only c4 hO9 (by omega); replace c5 := vblk_only c5 hO9 (by omega); replace c6 := vblk_only c6 hO9 (by omega); replace c7 := vblk_only c7 hO9 (by omega); replace c9 := vblk_only c9 hO9 (by omega); replace hB := hB.trans (hO9.2.2 _ (by omega)); replace hzw := hB.size; clear c30 c31; obtain ⟨c30, c31⟩ := cells2 c3; clear c40 c41 c42 c43 c44; obtain ⟨c40, c41, c42, c43, c44⟩ := cells5 c4; clear c50 c51 c52 c53 c54 c55 c56 c57; obtain ⟨c50, c51, c52, c53, c54, c55, c56, c57⟩ := cellsCm c5; clear c60 c61; obtain ⟨c60, c61⟩ := cells2 c6; clear c70 c71 c72 c73 c74 c75; obtain ⟨c70, c71, c72, c73, c74, c75⟩ := cellsRp c7; clear c90 c91 c92 c93 c94 c95; obtain ⟨c90, c91, c92, c93, c94, c95⟩ := cellsRp c9; clear c8; have c8 := c8x; clear c8x; obtain ⟨c80, c81⟩ := cells2 c8) | (clear mk13; refine wpList_store_v rfl 33 _ _ rfl b9 [.int .i64 5, .string N, .int .i64 F, .string B, .int .i64 0, .int .i64 0] rfl rfl sizeRp c9 rfl (oneRp ⟨5, N, F, B, 0, 0⟩) ?_; intro w10 hO10 c9x; clear c90 c91 c92 c93 c94 c95; have hz10 : w9.heap.size ≤ w10.heap.size := (Nat.le_of_eq hO10.1.symm); have hy10 : w10.heap.size ≤ w9.heap.size := (Nat.le_of_eq hO10.1); replace o := o.only hO10 c9 (by decide); replace c3 := vblk_only c3 hO10 (by omega); replace c4 := vblk_only c4 hO10 (by omega); replace c5 := vblk_only c5 hO10 (by omega); replace c6 := vblk_only c6 hO10 (by omega); replace c7 := vblk_only c7 hO10 (by omega); replace c8 := vblk_only c8 hO10 (by omega); replace hB := hB.trans (hO10.2.2 _ (by omega)); replace hzw := hB.size; clear c30 c31; obtain ⟨c30, c31⟩ := cells2 c3; clear c40 c41 c42 c43 c44; obtain ⟨c40, c41, c42, c43, c44⟩ := cells5 c4; clear c50 c51 c52 c53 c54 c55 c56 c57; obtain ⟨c50, c51, c52, c53, c54, c55, c56, c57⟩ := cellsCm c5; clear c60 c61; obtain ⟨c60, c61⟩ := cells2 c6; clear c70 c71 c72 c73 c74 c75; obtain ⟨c70, c71, c72, c73, c74, c75⟩ := cellsRp c7; clear c80 c81; obtain ⟨c80, c81⟩ := cells2 c8; clear c9; have c9 := c9x; clear c9x; obtain ⟨c90, c91, c92, c93, c94, c95⟩ := cellsRp c9) | (clear mk14; refine wpList_store_cell rfl 2 _ _ rfl b9 4 (.int .i64 C) rfl rfl rfl szI1 c9 (by simp) ?_; intro w11 hO11 c9x; clear c90 c91 c92 c93 c94 c95; have hz11 : w10.heap.size ≤ w11.heap.size := (Nat.le_of_eq hO11.1.symm); have hy11 : w11.heap.size ≤ w10.heap.size := (Nat.le_of_eq hO11.1); replace o := o.only hO11 c9 (by decide); replace c3 := vblk_only c3 hO11 (by omega); replace c4 := vblk_only c4 hO11 (by omega); replace c5 := vblk_only c5 hO11 (by omega); replace c6 := vblk_only c6 hO11 (by omega); replace c7 := vblk_only c7 hO11 (by omega); replace c8 := vblk_only c8 hO11 (by omega); replace hB := hB.trans (hO11.2.2 _ (by omega)); replace hzw := hB.size; clear c30 c31; obtain ⟨c30, c31⟩ := cells2 c3; clear c40 c41 c42 c43 c44; obtain ⟨c40, c41, c42, c43, c44⟩ := cells5 c4; clear c50 c51 c52 c53 c54 c55 c56 c57; obtain ⟨c50, c51, c52, c53, c54, c55, c56, c57⟩ := cellsCm c5; clear c60 c61; obtain ⟨c60, c61⟩ := cells2 c6; clear c70 c71 c72 c73 c74 c75; obtain ⟨c70, c71, c72, c73, c74, c75⟩ := cellsRp c7; clear c80 c81; obtain ⟨c80, c81⟩ := cells2 c8; clear c9; have c9 : VBlk w11 b9 33 [.int .i64 5, .string N, .int .i64 F, .string B, .int .i64 C, .int .i64 0] := c9x; clear c9x; obtain ⟨c90, c91, c92, c93, c94, c95⟩ := cellsRp c9) | (fail))
  have hBd : Below w11.heap.size w11 w11.drew := (Below.refl _ _).drew
  have hzd : w11.drew.heap.size ≤ w11.heap.size := Nat.le_refl _
  have hzd2 : w11.heap.size ≤ w11.drew.heap.size := Nat.le_refl _
  replace o := o.grow hBd
  replace c3 := vblk_grow c3 hBd
  clear c30 c31
  obtain ⟨c30, c31⟩ := cells2 c3
  replace c4 := vblk_grow c4 hBd
  clear c40 c41 c42 c43 c44
  obtain ⟨c40, c41, c42, c43, c44⟩ := cells5 c4
  replace c5 := vblk_grow c5 hBd
  clear c50 c51 c52 c53 c54 c55 c56 c57
  obtain ⟨c50, c51, c52, c53, c54, c55, c56, c57⟩ := cellsCm c5
  replace c6 := vblk_grow c6 hBd
  clear c60 c61
  obtain ⟨c60, c61⟩ := cells2 c6
  replace c7 := vblk_grow c7 hBd
  clear c70 c71 c72 c73 c74 c75
  obtain ⟨c70, c71, c72, c73, c74, c75⟩ := cellsRp c7
  replace c8 := vblk_grow c8 hBd
  clear c80 c81
  obtain ⟨c80, c81⟩ := cells2 c8
  replace c9 := vblk_grow c9 hBd
  clear c90 c91 c92 c93 c94 c95
  obtain ⟨c90, c91, c92, c93, c94, c95⟩ := cellsRp c9
  replace hB := hB.trans (hBd.mono (by omega))
  replace hzw := hB.size
  (try simp only [Act.put])
  (try simp only [List.setIfInBounds_toArray, List.set_cons_zero, List.set_cons_succ])
  clear c30 c31
  clear c40 c41 c42 c43 c44
  clear c50 c51 c52 c53 c54 c55 c56 c57
  clear c60 c61
  clear c70 c71 c72 c73 c74 c75
  clear c80 c81
  clear c90 c91 c92 c93 c94 c95
  refine wp_region_held_drew (S := fun w' => w'.cell? ⟨b3, 0, none⟩ = some (.slice A0 n0 k0) ∧ w'.cell? ⟨b3, 1, none⟩ = some (.int .i64 X) ∧ w'.cell? ⟨b9, 0, none⟩ = some (.int .i64 5) ∧ w'.cell? ⟨b9, 1, none⟩ = some (.string N) ∧ w'.cell? ⟨b9, 2, none⟩ = some (.int .i64 F) ∧ w'.cell? ⟨b9, 3, none⟩ = some (.string B) ∧ w'.cell? ⟨b9, 4, none⟩ = some (.int .i64 C) ∧ w'.cell? ⟨b9, 5, none⟩ = some (.int .i64 0)) (by kernel_rfl) (⟨(cells2 c3).1, (cells2 c3).2, cellsRp c9⟩) (fun hHeld => ?_)
  refine wpAnyH_take (i := 0) (oi := { dst := some 20, op := Op.load 31 (Operand.tmp 3), type := 31, pos := "l13_store.go:56", after := #[], guard := none }) (v := ?_) rfl (by kernel_rfl) (by kernel_rfl) (by kernel_rfl) (fun _ _ _ h => h) (Or.inl ⟨by rfl, ?_⟩) (by assumption) ?_
  rotate_left 1
  · intro w' hSw; (try dsimp only at hSw); go_simp; (try with_reducible rfl)
  (try simp only [Act.put, List.setIfInBounds_toArray, List.set_cons_zero, List.set_cons_succ])
  refine wpAnyH_take (i := 1) (oi := { dst := some 21, op := Op.load 33 (Operand.tmp 9), type := 33, pos := "l13_store.go:56", after := #[{ on := 2, ground := Ground.gcOnly Departure.lateStores }], guard := none }) (v := ?_) rfl (by kernel_rfl) (by kernel_rfl) (by kernel_rfl) (fun _ _ _ h => h) (Or.inl ⟨by rfl, ?_⟩) (by assumption) ?_
  rotate_left 1
  · intro w' hSw; (try dsimp only at hSw); go_simp; (try with_reducible rfl)
  (try simp only [Act.put, List.setIfInBounds_toArray, List.set_cons_zero, List.set_cons_succ])
  refine wpAnyH_ready (rs := [2]) (by kernel_rfl) (by simp) ?_
  refine AllReadyH.cons (o := { dst := none, op := Op.store 31 (Operand.tmp 6) (Operand.tmp 20), type := 0, pos := "l13_store.go:56", after := #[{ on := 0, ground := Ground.data }, { on := 0, ground := Ground.phase }, { on := 1, ground := Ground.textOnly Departure.lateStores }], guard := none }) rfl (fun KC hKC => ?_) AllReadyH.nil
  refine step_store_v rfl 31 _ _ rfl b6 [.slice A0 n0 k0, .int .i64 X] rfl rfl sizeBk c6 rfl (oneBk _ _ _ _) ?_
  intro wr2 hO2r c6x
  have hz2r : w11.drew.heap.size ≤ wr2.heap.size := Nat.le_of_eq hO2r.1.symm
  have hy2r : wr2.heap.size ≤ w11.drew.heap.size := Nat.le_of_eq hO2r.1
  (try replace o := o.only hO2r c6 (by decide))
  replace c3 := vblk_only c3 hO2r (by omega)
  replace c4 := vblk_only c4 hO2r (by omega)
  replace c5 := vblk_only c5 hO2r (by omega)
  replace c7 := vblk_only c7 hO2r (by omega)
  replace c8 := vblk_only c8 hO2r (by omega)
  replace c9 := vblk_only c9 hO2r (by omega)
  clear c6
  have c6 := c6x
  clear c6x
  replace hB := hB.trans (hO2r.2.2 _ (by omega))
  replace hzw := hB.size
  refine hKC.out _ _ (⟨(cells2 c3).1, (cells2 c3).2, cellsRp c9⟩) (fun hHeld2 => ?_)
  clear hKC KC hHeld
  have hHeld := hHeld2
  clear hHeld2
  (try simp only [Act.put])
  refine wpAnyH_ready (rs := [3]) (by kernel_rfl) (by simp) ?_
  refine AllReadyH.cons (o := { dst := none, op := Op.store 33 (Operand.tmp 7) (Operand.tmp 21), type := 0, pos := "l13_store.go:56", after := #[{ on := 1, ground := Ground.data }, { on := 2, ground := Ground.chain }, { on := 0, ground := Ground.phase }, { on := 1, ground := Ground.phase }, { on := 2, ground := Ground.phase }], guard := none }) rfl (fun KC hKC => ?_) AllReadyH.nil
  refine step_store_v rfl 33 _ _ rfl b7 [.int .i64 5, .string N, .int .i64 F, .string B, .int .i64 C, .int .i64 0] rfl rfl sizeRp c7 rfl (oneRp ⟨5, N, F, B, C, 0⟩) ?_
  intro wr3 hO3r c7x
  have hz3r : wr2.heap.size ≤ wr3.heap.size := Nat.le_of_eq hO3r.1.symm
  have hy3r : wr3.heap.size ≤ wr2.heap.size := Nat.le_of_eq hO3r.1
  (try replace o := o.only hO3r c7 (by decide))
  replace c3 := vblk_only c3 hO3r (by omega)
  replace c4 := vblk_only c4 hO3r (by omega)
  replace c5 := vblk_only c5 hO3r (by omega)
  replace c6 := vblk_only c6 hO3r (by omega)
  replace c8 := vblk_only c8 hO3r (by omega)
  replace c9 := vblk_only c9 hO3r (by omega)
  clear c7
  have c7 := c7x
  clear c7x
  replace hB := hB.trans (hO3r.2.2 _ (by omega))
  replace hzw := hB.size
  refine hKC.out _ _ (⟨(cells2 c3).1, (cells2 c3).2, cellsRp c9⟩) (fun hHeld2 => ?_)
  clear hKC KC hHeld
  have hHeld := hHeld2
  clear hHeld2
  (try simp only [Act.put])
  refine wpAnyH_done (by kernel_rfl) ?_ _
  go_wp2
  exact row_cc rfl rfl rfl c6 c7 Tryz.underlying31 Tryz.underlying33 sizeBk sizeRp rfl ⟨_, rfl, (o.wide (Nat.le_refl _) (by omega)).top, hB⟩

set_option maxRecDepth 100000 in
set_option maxHeartbeats 2000000 in
theorem clearAll_any (I : List It) (X : Int) (N B : ByteArray) (F C U : Int) (V : Int) (N2 : ByteArray) (F2 U2 : Int) (B2 : ByteArray) (C2 D2 : Int) (Q2 : Bool) (v : Value) (lo : Nat) (w : World) (o : Own encIt w lo w.heap.size v I) (hlo : lo ≤ w.heap.size) :
    Calls Tryz.prog 88 #[.agg #[v, .int .i64 X], .agg #[.string N, .int .i64 F, .string B, .int .i64 C, .int .i64 U], .agg #[.int .i64 V, .string N2, .int .i64 F2, .int .i64 U2, .string B2, .int .i64 C2, .int .i64 D2, .bool Q2]] w fun e w' => PostD ⟨[], X⟩ (rp 9) lo w e w' := by
  obtain ⟨A0, n0, k0, rfl⟩ := o.slice
  have hzw0 : w.heap.size ≤ w.heap.size := Nat.le_refl _
  go_enter Tryz.func88, Tryz.ntmps88
  have mk1 : Hid True := trivial
  have mk2 : Hid True := trivial
  have mk3 : Hid True := trivial
  have mk4 : Hid True := trivial
  have mk5 : Hid True := trivial
  have mk6 : Hid True := trivial
  have mk7 : Hid True := trivial
  go_wp2_with (first | (clear mk1; refine wpList_box_v rfl 31 _ rfl [.slice A0 n0 k0, .int .i64 X] rfl ?_; intro b3 w1 hb3 hwb3 hB1 c3; have hz1 : w.heap.size ≤ w1.heap.size := hB1.size; replace o := o.grow hB1; have hB := hB1; have hzw := hB.size; obtain ⟨c30, c31⟩ := cells2 c3) | (clear mk2; refine wpList_box_v rfl 56 _ rfl [.string N, .int .i64 F, .string B, .int .i64 C, .int .i64 U] rfl ?_; intro b4 w2 hb4 hwb4 hB2 c4; have hz2 : w1.heap.size ≤ w2.heap.size := hB2.size; replace o := o.grow hB2; replace c3 := vblk_grow c3 hB2; replace hB := hB.trans (hB2.mono (by omega)); replace hzw := hB.size; clear c30 c31; obtain ⟨c30, c31⟩ := cells2 c3; obtain ⟨c40, c41, c42, c43, c44⟩ := cells5 c4) | (clear mk3; refine wpList_box_v rfl 37 _ rfl [.int .i64 V, .string N2, .int .i64 F2, .int .i64 U2, .string B2, .int .i64 C2, .int .i64 D2, .bool Q2] rfl ?_; intro b5 w3 hb5 hwb5 hB3 c5; have hz3 : w2.heap.size ≤ w3.heap.size := hB3.size; replace o := o.grow hB3; replace c3 := vblk_grow c3 hB3; replace c4 := vblk_grow c4 hB3; replace hB := hB.trans (hB3.mono (by omega)); replace hzw := hB.size; clear c30 c31; obtain ⟨c30, c31⟩ := cells2 c3; clear c40 c41 c42 c43 c44; obtain ⟨c40, c41, c42, c43, c44⟩ := cells5 c4; obtain ⟨c50, c51, c52, c53, c54, c55, c56, c57⟩ := cellsCm c5) | (clear mk4; refine wpList_alloc_v rfl 31 rfl _ zeroBk ?_; intro b6 w4 hb6 hwb6 hB4 c6; have hz4 : w3.heap.size ≤ w4.heap.size := hB4.size; replace o := o.grow hB4; replace c3 := vblk_grow c3 hB4; replace c4 := vblk_grow c4 hB4; replace c5 := vblk_grow c5 hB4; replace hB := hB.trans (hB4.mono (by omega)); replace hzw := hB.size; clear c30 c31; obtain ⟨c30, c31⟩ := cells2 c3; clear c40 c41 c42 c43 c44; obtain ⟨c40, c41, c42, c43, c44⟩ := cells5 c4; clear c50 c51 c52 c53 c54 c55 c56 c57; obtain ⟨c50, c51, c52, c53, c54, c55, c56, c57⟩ := cellsCm c5; obtain ⟨c60, c61⟩ := cells2 c6) | (clear mk5; refine wpList_alloc_v rfl 33 rfl _ zeroRp ?_; intro b7 w5 hb7 hwb7 hB5 c7; have hz5 : w4.heap.size ≤ w5.heap.size := hB5.size; replace o := o.grow hB5; replace c3 := vblk_grow c3 hB5; replace c4 := vblk_grow c4 hB5; replace c5 := vblk_grow c5 hB5; replace c6 := vblk_grow c6 hB5; replace hB := hB.trans (hB5.mono (by omega)); replace hzw := hB.size; clear c30 c31; obtain ⟨c30, c31⟩ := cells2 c3; clear c40 c41 c42 c43 c44; obtain ⟨c40, c41, c42, c43, c44⟩ := cells5 c4; clear c50 c51 c52 c53 c54 c55 c56 c57; obtain ⟨c50, c51, c52, c53, c54, c55, c56, c57⟩ := cellsCm c5; clear c60 c61; obtain ⟨c60, c61⟩ := cells2 c6; obtain ⟨c70, c71, c72, c73, c74, c75⟩ := cellsRp c7) | (clear mk6; refine wpList_store_v rfl 31 _ _ rfl b6 [.slice none 0 0, .int .i64 X] rfl rfl sizeBk c6 rfl (oneBk _ _ _ _) ?_; intro w6 hO6 c6x; clear c60 c61; have hz6 : w5.heap.size ≤ w6.heap.size := (Nat.le_of_eq hO6.1.symm); have hy6 : w6.heap.size ≤ w5.heap.size := (Nat.le_of_eq hO6.1); replace o := o.only hO6 c6 (by decide); replace c3 := vblk_only c3 hO6 (by omega); replace c4 := vblk_only c4 hO6 (by omega); replace c5 := vblk_only c5 hO6 (by omega); replace c7 := vblk_only c7 hO6 (by omega); replace hB := hB.trans (hO6.2.2 _ (by omega)); replace hzw := hB.size; clear c30 c31; obtain ⟨c30, c31⟩ := cells2 c3; clear c40 c41 c42 c43 c44; obtain ⟨c40, c41, c42, c43, c44⟩ := cells5 c4; clear c50 c51 c52 c53 c54 c55 c56 c57; obtain ⟨c50, c51, c52, c53, c54, c55, c56, c57⟩ := cellsCm c5; clear c70 c71 c72 c73 c74 c75; obtain ⟨c70, c71, c72, c73, c74, c75⟩ := cellsRp c7; clear c6; have c6 := c6x; clear c6x; obtain ⟨c60, c61⟩ := cells2 c6) | (clear mk7; refine wpList_store_v rfl 33 _ _ rfl b7 [.int .i64 9, .string ⟨#[]⟩, .int .i64 0, .string ⟨#[]⟩, .int .i64 0, .int .i64 0] rfl rfl sizeRp c7 rfl (oneRp (rp 9)) ?_; intro w7 hO7 c7x; clear c70 c71 c72 c73 c74 c75; have hz7 : w6.heap.size ≤ w7.heap.size := (Nat.le_of_eq hO7.1.symm); have hy7 : w7.heap.size ≤ w6.heap.size := (Nat.le_of_eq hO7.1); replace o := o.only hO7 c7 (by decide); replace c3 := vblk_only c3 hO7 (by omega); replace c4 := vblk_only c4 hO7 (by omega); replace c5 := vblk_only c5 hO7 (by omega); replace c6 := vblk_only c6 hO7 (by omega); replace hB := hB.trans (hO7.2.2 _ (by omega)); replace hzw := hB.size; clear c30 c31; obtain ⟨c30, c31⟩ := cells2 c3; clear c40 c41 c42 c43 c44; obtain ⟨c40, c41, c42, c43, c44⟩ := cells5 c4; clear c50 c51 c52 c53 c54 c55 c56 c57; obtain ⟨c50, c51, c52, c53, c54, c55, c56, c57⟩ := cellsCm c5; clear c60 c61; obtain ⟨c60, c61⟩ := cells2 c6; clear c7; have c7 := c7x; clear c7x; obtain ⟨c70, c71, c72, c73, c74, c75⟩ := cellsRp c7) | (fail))
  exact row_cc rfl rfl rfl c6 c7 Tryz.underlying31 Tryz.underlying33 sizeBk sizeRp rfl ⟨_, rfl, own_zero _ _ _ _ _, hB⟩

end Go.Proofs.YtjkkjpgebcnhgaaGreatDoor.rg
/- Contracts: the program's deeds that stamp. -/
namespace Go.Proofs.YtjkkjpgebcnhgaaGreatDoor.rg
open Go.ChangeShapes Go.WideShapes Go.ChangeAt Go.RowKit
open Go.Deep Go.Joins
open Go.Proofs.YtjkkjpgebcnhgaaGreatDoor.ce Go.Proofs.YtjkkjpgebcnhgaaGreatDoor.ro Go.Proofs.YtjkkjpgebcnhgaaGreatDoor.cm
set_option linter.unusedVariables false

theorem szSt1 : (Tryz.prog.info? 9).map (·.size) = some 1 := by kernel_rfl
theorem keep_is {b : Bk} (h : StOk b) (i : It) : stR b i = (keepK b i).1 ∧ (keepK b i).2 = rp (if stB b i = true then 1 else 2) := by
  have hs : storeB b = true := storeB_iff.2 h
  unfold stR stB keepK
  rw [hs, if_pos rfl, Bool.true_and]
  cases stampOk b i <;> exact ⟨rfl, rfl⟩
theorem smK_of {I : List It} {X : Int} (h : StOk ⟨I, X⟩) : SmK I := fun x hx => by
  have := itemB_iff.1 (h.bk.1 x hx)
  have hn : x.N.size ≤ 12 := by
    have h2 := this.nm
    simp [nameB] at h2
    omega
  exact ⟨by omega, by have := this.b1; omega⟩
theorem len_of {I : List It} {X : Int} (h : StOk ⟨I, X⟩) : I.length ≤ 20 := h.bk.2.2
/-- a thing is stored: the book and what is told -/
theorem stamped_k (I : List It) (X : Int) (N B : ByteArray) (F C U : Int) (v : Value) (lo : Nat) (w : World) (o : Own encIt w lo w.heap.size v I) (hlo : lo ≤ w.heap.size) (ok : StOk ⟨I, X⟩) (hN : N.size ≤ 1048576) (hBs : B.size ≤ 1048576) :
    Calls Tryz.prog 28 #[.agg #[v, .int .i64 X], .agg #[.string N, .int .i64 F, .string B, .int .i64 C, .int .i64 U]] w fun e w' => ∃ A n k, ∃ y : Bool, e = .returned (.tuple #[.agg #[.slice A n k, .int .i64 (keepK ⟨I, X⟩ ⟨N, F, B, C, U⟩).1.X], .bool y]) ∧ Own encIt w' lo w'.heap.size (.slice A n k) (keepK ⟨I, X⟩ ⟨N, F, B, C, U⟩).1.I ∧ (keepK ⟨I, X⟩ ⟨N, F, B, C, U⟩).2 = rp (if y = true then 1 else 2) ∧ Below w.heap.size w w' := by
  refine (implStamped_any I X N B F C U v w o.rd (smK_of ok) (by have := len_of ok; omega) hN hBs).mono ?_
  rintro e w' ⟨v', rfl, o', hB⟩
  obtain ⟨h1, h2⟩ := keep_is ok ⟨N, F, B, C, U⟩
  rw [h1] at o' ⊢
  obtain ⟨A, n, k, rfl⟩ := o'.slice
  exact ⟨A, n, k, _, rfl, o'.wide hlo (Nat.le_refl _), h2, hB⟩
set_option maxRecDepth 100000 in
set_option maxHeartbeats 2000000 in
theorem stamp_any (I : List It) (X : Int) (N B : ByteArray) (F C U : Int) (v : Value) (lo : Nat) (w : World) (o : Own encIt w lo w.heap.size v I) (hlo : lo ≤ w.heap.size) (ok : StOk ⟨I, X⟩) (hN : N.size ≤ 1048576) (hBs : B.size ≤ 1048576) :
    Calls Tryz.prog 110 #[.agg #[v, .int .i64 X], .agg #[.string N, .int .i64 F, .string B, .int .i64 C, .int .i64 U]] w fun e w' => PostD (keepK ⟨I, X⟩ ⟨N, F, B, C, U⟩).1 (keepK ⟨I, X⟩ ⟨N, F, B, C, U⟩).2 lo w e w' := by
  obtain ⟨A0, n0, k0, rfl⟩ := o.slice
  have hzw0 : w.heap.size ≤ w.heap.size := Nat.le_refl _
  have HS := fun v lo w o h => stamped_k I X N B F C U v lo w o h ok hN hBs
  obtain ⟨⟨⟨J, Y⟩, r⟩, hR⟩ := hid_ex (keepK ⟨I, X⟩ ⟨N, F, B, C, U⟩)
  unfold PostD
  rw [hR.out] at HS ⊢
  have HH : Hid _ := HS
  clear HS hR
  dsimp only at HH ⊢
  go_enter Tryz.func110, Tryz.ntmps110
  have mk1 : Hid True := trivial
  have mk2 : Hid True := trivial
  have mk3 : Hid True := trivial
  have mk4 : Hid True := trivial
  have mk5 : Hid True := trivial
  have mk6 : Hid True := trivial
  have mk7 : Hid True := trivial
  have mk8 : Hid True := trivial
  go_upto_region 2 with (first | (clear mk1; refine wpList_box_v rfl 31 _ rfl [.slice A0 n0 k0, .int .i64 X] rfl ?_; intro b3 w1 hb3 hwb3 hB1 c3; have hz1 : w.heap.size ≤ w1.heap.size := hB1.size; replace o := o.grow hB1; have hB := hB1; have hzw := hB.size; obtain ⟨c30, c31⟩ := cells2 c3) | (clear mk2; refine wpList_box_v rfl 56 _ rfl [.string N, .int .i64 F, .string B, .int .i64 C, .int .i64 U] rfl ?_; intro b4 w2 hb4 hwb4 hB2 c4; have hz2 : w1.heap.size ≤ w2.heap.size := hB2.size; replace o := o.grow hB2; replace c3 := vblk_grow c3 hB2; replace hB := hB.trans (hB2.mono (by omega)); replace hzw := hB.size; clear c30 c31; obtain ⟨c30, c31⟩ := cells2 c3; obtain ⟨c40, c41, c42, c43, c44⟩ := cells5 c4) | (clear mk3; refine wpList_alloc_v rfl 31 rfl _ zeroBk ?_; intro b6 w3 hb6 hwb6 hB3 c6; have hz3 : w2.heap.size ≤ w3.heap.size := hB3.size; replace o := o.grow hB3; replace c3 := vblk_grow c3 hB3; replace c4 := vblk_grow c4 hB3; replace hB := hB.trans (hB3.mono (by omega)); replace hzw := hB.size; clear c30 c31; obtain ⟨c30, c31⟩ := cells2 c3; clear c40 c41 c42 c43 c44; obtain ⟨c40, c41, c42, c43, c44⟩ := cells5 c4; obtain ⟨c60, c61⟩ := cells2 c6) | (clear mk4; refine wpList_alloc_v rfl 33 rfl _ zeroRp ?_; intro b7 w4 hb7 hwb7 hB4 c7; have hz4 : w3.heap.size ≤ w4.heap.size := hB4.size; replace o := o.grow hB4; replace c3 := vblk_grow c3 hB4; replace c4 := vblk_grow c4 hB4; replace c6 := vblk_grow c6 hB4; replace hB := hB.trans (hB4.mono (by omega)); replace hzw := hB.size; clear c30 c31; obtain ⟨c30, c31⟩ := cells2 c3; clear c40 c41 c42 c43 c44; obtain ⟨c40, c41, c42, c43, c44⟩ := cells5 c4; clear c60 c61; obtain ⟨c60, c61⟩ := cells2 c6; obtain ⟨c70, c71, c72, c73, c74, c75⟩ := cellsRp c7) | (clear mk5; refine wpList_load_r rfl 31 _ rfl b3 0 [.slice A0 n0 k0, .int .i64 X] rfl _ Tryz.underlying31 rfl sizeBk c3.range ?_) | (clear mk6; refine wpList_load_r rfl 56 _ rfl b4 0 [.string N, .int .i64 F, .string B, .int .i64 C, .int .i64 U] rfl _ Tryz.underlying56 rfl sizeIt c4.range ?_) | (clear mk7; go_at_call 28; refine (HH.out _ lo _ o.top (by omega)).mono ?_; rintro er w5 ⟨A1, n1, k1, y, rfl, o1, hr, hB5⟩; have hz5 : w4.heap.size ≤ w5.heap.size := hB5.size; replace c3 := vblk_grow c3 hB5; replace c4 := vblk_grow c4 hB5; replace c6 := vblk_grow c6 hB5; replace c7 := vblk_grow c7 hB5; replace hB := hB.trans (hB5.mono (by omega)); replace hzw := hB.size; clear c30 c31; obtain ⟨c30, c31⟩ := cells2 c3; clear c40 c41 c42 c43 c44; obtain ⟨c40, c41, c42, c43, c44⟩ := cells5 c4; clear c60 c61; obtain ⟨c60, c61⟩ := cells2 c6; clear c70 c71 c72 c73 c74 c75; obtain ⟨c70, c71, c72, c73, c74, c75⟩ := cellsRp c7; have hr2 : Hid _ := hr; clear hr) | (clear mk8; refine wpList_store_v rfl 31 _ _ rfl b3 [.slice A1 n1 k1, .int .i64 Y] rfl rfl sizeBk c3 rfl (oneBk _ _ _ _) ?_; intro w6 hO6 c3x; clear c30 c31; have hz6 : w5.heap.size ≤ w6.heap.size := (Nat.le_of_eq hO6.1.symm); have hy6 : w6.heap.size ≤ w5.heap.size := (Nat.le_of_eq hO6.1); replace o1 := o1.only hO6 c3 (by decide); replace c4 := vblk_only c4 hO6 (by omega); replace c6 := vblk_only c6 hO6 (by omega); replace c7 := vblk_only c7 hO6 (by omega); replace hB := hB.trans (hO6.2.2 _ (by omega)); replace hzw := hB.size; clear c40 c41 c42 c43 c44; obtain ⟨c40, c41, c42, c43, c44⟩ := cells5 c4; clear c60 c61; obtain ⟨c60, c61⟩ := cells2 c6; clear c70 c71 c72 c73 c74 c75; obtain ⟨c70, c71, c72, c73, c74, c75⟩ := cellsRp c7; clear c3; have c3 := c3x; clear c3x; obtain ⟨c30, c31⟩ := cells2 c3) | (fail))
  cases y with
  | false =>
    have mk9 : Hid True := trivial
    have mk10 : Hid True := trivial
    have mk11 : Hid True := trivial
    go_wp2_with (first | (clear mk9; refine wpList_load_r rfl 31 _ rfl b3 0 [.slice A1 n1 k1, .int .i64 Y] rfl _ Tryz.underlying31 rfl sizeBk c3.range ?_) | (clear mk10; refine wpList_store_v rfl 31 _ _ rfl b6 [.slice A1 n1 k1, .int .i64 Y] rfl rfl sizeBk c6 rfl (oneBk _ _ _ _) ?_; intro w7 hO7 c6x; clear c60 c61; have hz7 : w6.heap.size ≤ w7.heap.size := (Nat.le_of_eq hO7.1.symm); have hy7 : w7.heap.size ≤ w6.heap.size := (Nat.le_of_eq hO7.1); replace o1 := o1.only hO7 c6 (by decide); replace c4 := vblk_only c4 hO7 (by omega); replace c7 := vblk_only c7 hO7 (by omega); replace c3 := vblk_only c3 hO7 (by omega); replace hB := hB.trans (hO7.2.2 _ (by omega)); replace hzw := hB.size; clear c40 c41 c42 c43 c44; obtain ⟨c40, c41, c42, c43, c44⟩ := cells5 c4; clear c70 c71 c72 c73 c74 c75; obtain ⟨c70, c71, c72, c73, c74, c75⟩ := cellsRp c7; clear c30 c31; obtain ⟨c30, c31⟩ := cells2 c3; clear c6; have c6 := c6x; clear c6x; obtain ⟨c60, c61⟩ := cells2 c6) | (clear mk11; refine wpList_store_v rfl 33 _ _ rfl b7 [.int .i64 2, .string ⟨#[]⟩, .int .i64 0, .string ⟨#[]⟩, .int .i64 0, .int .i64 0] rfl rfl sizeRp c7 rfl (oneRp (rp 2)) ?_; intro w8 hO8 c7x; clear c70 c71 c72 c73 c74 c75; have hz8 : w7.heap.size ≤ w8.heap.size := (Nat.le_of_eq hO8.1.symm); have hy8 : w8.heap.size ≤ w7.heap.size := (Nat.le_of_eq hO8.1); replace o1 := o1.only hO8 c7 (by decide); replace c4 := vblk_only c4 hO8 (by omega); replace c3 := vblk_only c3 hO8 (by omega); replace c6 := vblk_only c6 hO8 (by omega); replace hB := hB.trans (hO8.2.2 _ (by omega)); replace hzw := hB.size; clear c40 c41 c42 c43 c44; obtain ⟨c40, c41, c42, c43, c44⟩ := cells5 c4; clear c30 c31; obtain ⟨c30, c31⟩ := cells2 c3; clear c60 c61; obtain ⟨c60, c61⟩ := cells2 c6; clear c7; have c7 := c7x; clear c7x; obtain ⟨c70, c71, c72, c73, c74, c75⟩ := cellsRp c7) | (fail))
    refine row_cc rfl rfl rfl c6 c7 Tryz.underlying31 Tryz.underlying33 sizeBk sizeRp rfl ⟨_, ?_, (o1.wide (Nat.le_refl _) (by omega)).top, hB⟩
    rw [hr2.out]
    rfl
  | true =>
    have mk9 : Hid True := trivial
    have mk10 : Hid True := trivial
    have mk11 : Hid True := trivial
    go_wp2_with (first | (clear mk9; refine wpList_load_r rfl 31 _ rfl b3 0 [.slice A1 n1 k1, .int .i64 Y] rfl _ Tryz.underlying31 rfl sizeBk c3.range ?_) | (clear mk10; refine wpList_store_v rfl 31 _ _ rfl b6 [.slice A1 n1 k1, .int .i64 Y] rfl rfl sizeBk c6 rfl (oneBk _ _ _ _) ?_; intro w7 hO7 c6x; clear c60 c61; have hz7 : w6.heap.size ≤ w7.heap.size := (Nat.le_of_eq hO7.1.symm); have hy7 : w7.heap.size ≤ w6.heap.size := (Nat.le_of_eq hO7.1); replace o1 := o1.only hO7 c6 (by decide); replace c4 := vblk_only c4 hO7 (by omega); replace c7 := vblk_only c7 hO7 (by omega); replace c3 := vblk_only c3 hO7 (by omega); replace hB := hB.trans (hO7.2.2 _ (by omega)); replace hzw := hB.size; clear c40 c41 c42 c43 c44; obtain ⟨c40, c41, c42, c43, c44⟩ := cells5 c4; clear c70 c71 c72 c73 c74 c75; obtain ⟨c70, c71, c72, c73, c74, c75⟩ := cellsRp c7; clear c30 c31; obtain ⟨c30, c31⟩ := cells2 c3; clear c6; have c6 := c6x; clear c6x; obtain ⟨c60, c61⟩ := cells2 c6) | (clear mk11; refine wpList_store_v rfl 33 _ _ rfl b7 [.int .i64 1, .string ⟨#[]⟩, .int .i64 0, .string ⟨#[]⟩, .int .i64 0, .int .i64 0] rfl rfl sizeRp c7 rfl (oneRp (rp 1)) ?_; intro w8 hO8 c7x; clear c70 c71 c72 c73 c74 c75; have hz8 : w7.heap.size ≤ w8.heap.size := (Nat.le_of_eq hO8.1.symm); have hy8 : w8.heap.size ≤ w7.heap.size := (Nat.le_of_eq hO8.1); replace o1 := o1.only hO8 c7 (by decide); replace c4 := vblk_only c4 hO8 (by omega); replace c3 := vblk_only c3 hO8 (by omega); replace c6 := vblk_only c6 hO8 (by omega); replace hB := hB.trans (hO8.2.2 _ (by omega)); replace hzw := hB.size; clear c40 c41 c42 c43 c44; obtain ⟨c40, c41, c42, c43, c44⟩ := cells5 c4; clear c30 c31; obtain ⟨c30, c31⟩ := cells2 c3; clear c60 c61; obtain ⟨c60, c61⟩ := cells2 c6; clear c7; have c7 := c7x; clear c7x; obtain ⟨c70, c71, c72, c73, c74, c75⟩ := cellsRp c7) | (fail))
    refine row_cc rfl rfl rfl c6 c7 Tryz.underlying31 Tryz.underlying33 sizeBk sizeRp rfl ⟨_, ?_, (o1.wide (Nat.le_refl _) (by omega)).top, hB⟩
    rw [hr2.out]
    rfl

set_option maxRecDepth 100000 in
set_option maxHeartbeats 2000000 in
theorem store_any (I : List It) (X : Int) (N B : ByteArray) (F C U : Int) (V : Int) (N2 : ByteArray) (F2 U2 : Int) (B2 : ByteArray) (C2 D2 : Int) (Q2 : Bool) (v : Value) (lo : Nat) (w : World) (o : Own encIt w lo w.heap.size v I) (hlo : lo ≤ w.heap.size) (ok : StOk ⟨I, X⟩) (hN : N.size ≤ 1048576) (hBs : B.size ≤ 1048576) (hN2 : N2.size ≤ 1048576) (hB2 : B2.size ≤ 1048576) :
    Calls Tryz.prog 79 #[.agg #[v, .int .i64 X], .agg #[.string N, .int .i64 F, .string B, .int .i64 C, .int .i64 U], .agg #[.int .i64 V, .string N2, .int .i64 F2, .int .i64 U2, .string B2, .int .i64 C2, .int .i64 D2, .bool Q2]] w fun e w' => PostD (keepK ⟨I, X⟩ ⟨N2, F2, B2, 0, U2⟩).1 (keepK ⟨I, X⟩ ⟨N2, F2, B2, 0, U2⟩).2 lo w e w' := by
  obtain ⟨A0, n0, k0, rfl⟩ := o.slice
  have hzw0 : w.heap.size ≤ w.heap.size := Nat.le_refl _
  have HS := fun v lo w o h => stamp_any I X N2 B2 F2 0 U2 v lo w o h ok hN2 hB2
  obtain ⟨⟨⟨J, Y⟩, ⟨r1, r2, r3, r4, r5, r6⟩⟩, hR⟩ := hid_ex (keepK ⟨I, X⟩ ⟨N2, F2, B2, 0, U2⟩)
  unfold PostD at HS ⊢
  rw [hR.out] at HS ⊢
  have HH : Hid _ := HS
  clear HS hR
  dsimp only [csRp] at HH ⊢
  have hzw0 : w.heap.size ≤ w.heap.size := Nat.le_refl _
  go_enter Tryz.func79, Tryz.ntmps79
  have mk1 : Hid True := trivial
  have mk2 : Hid True := trivial
  have mk3 : Hid True := trivial
  have mk4 : Hid True := trivial
  have mk5 : Hid True := trivial
  have mk6 : Hid True := trivial
  have mk7 : Hid True := trivial
  have mk8 : Hid True := trivial
  have mk9 : Hid True := trivial
  go_wp2_with (first | (clear mk1; refine wpList_box_v rfl 31 _ rfl [.slice A0 n0 k0, .int .i64 X] rfl ?_; intro b3 w1 hb3 hwb3 hB1 c3; have hz1 : w.heap.size ≤ w1.heap.size := hB1.size; replace o := o.grow hB1; have hB := hB1; have hzw := hB.size; obtain ⟨c30, c31⟩ := cells2 c3) | (clear mk2; refine wpList_box_v rfl 56 _ rfl [.string N, .int .i64 F, .string B, .int .i64 C, .int .i64 U] rfl ?_; intro b4 w2 hb4 hwb4 hB2 c4; have hz2 : w1.heap.size ≤ w2.heap.size := hB2.size; replace o := o.grow hB2; replace c3 := vblk_grow c3 hB2; replace hB := hB.trans (hB2.mono (by omega)); replace hzw := hB.size; clear c30 c31; obtain ⟨c30, c31⟩ := cells2 c3; obtain ⟨c40, c41, c42, c43, c44⟩ := cells5 c4) | (clear mk3; refine wpList_box_v rfl 37 _ rfl [.int .i64 V, .string N2, .int .i64 F2, .int .i64 U2, .string B2, .int .i64 C2, .int .i64 D2, .bool Q2] rfl ?_; intro b5 w3 hb5 hwb5 hB3 c5; have hz3 : w2.heap.size ≤ w3.heap.size := hB3.size; replace o := o.grow hB3; replace c3 := vblk_grow c3 hB3; replace c4 := vblk_grow c4 hB3; replace hB := hB.trans (hB3.mono (by omega)); replace hzw := hB.size; clear c30 c31; obtain ⟨c30, c31⟩ := cells2 c3; clear c40 c41 c42 c43 c44; obtain ⟨c40, c41, c42, c43, c44⟩ := cells5 c4; obtain ⟨c50, c51, c52, c53, c54, c55, c56, c57⟩ := cellsCm c5) | (clear mk4; refine wpList_alloc_v rfl 31 rfl _ zeroBk ?_; intro b6 w4 hb6 hwb6 hB4 c6; have hz4 : w3.heap.size ≤ w4.heap.size := hB4.size; replace o := o.grow hB4; replace c3 := vblk_grow c3 hB4; replace c4 := vblk_grow c4 hB4; replace c5 := vblk_grow c5 hB4; replace hB := hB.trans (hB4.mono (by omega)); replace hzw := hB.size; clear c30 c31; obtain ⟨c30, c31⟩ := cells2 c3; clear c40 c41 c42 c43 c44; obtain ⟨c40, c41, c42, c43, c44⟩ := cells5 c4; clear c50 c51 c52 c53 c54 c55 c56 c57; obtain ⟨c50, c51, c52, c53, c54, c55, c56, c57⟩ := cellsCm c5; obtain ⟨c60, c61⟩ := cells2 c6) | (clear mk5; refine wpList_alloc_v rfl 33 rfl _ zeroRp ?_; intro b7 w5 hb7 hwb7 hB5 c7; have hz5 : w4.heap.size ≤ w5.heap.size := hB5.size; replace o := o.grow hB5; replace c3 := vblk_grow c3 hB5; replace c4 := vblk_grow c4 hB5; replace c5 := vblk_grow c5 hB5; replace c6 := vblk_grow c6 hB5; replace hB := hB.trans (hB5.mono (by omega)); replace hzw := hB.size; clear c30 c31; obtain ⟨c30, c31⟩ := cells2 c3; clear c40 c41 c42 c43 c44; obtain ⟨c40, c41, c42, c43, c44⟩ := cells5 c4; clear c50 c51 c52 c53 c54 c55 c56 c57; obtain ⟨c50, c51, c52, c53, c54, c55, c56, c57⟩ := cellsCm c5; clear c60 c61; obtain ⟨c60, c61⟩ := cells2 c6; obtain ⟨c70, c71, c72, c73, c74, c75⟩ := cellsRp c7) | (clear mk6; refine wpList_load_r rfl 31 _ rfl b3 0 [.slice A0 n0 k0, .int .i64 X] rfl _ Tryz.underlying31 rfl sizeBk c3.range ?_) | (clear mk7; go_at_call 110; refine (HH.out _ lo _ o.top (by omega)).mono ?_; rintro er w6 ⟨v1, rfl, o1, hB6⟩; have hz6 : w5.heap.size ≤ w6.heap.size := hB6.size; replace c3 := vblk_grow c3 hB6; replace c4 := vblk_grow c4 hB6; replace c5 := vblk_grow c5 hB6; replace c6 := vblk_grow c6 hB6; replace c7 := vblk_grow c7 hB6; replace hB := hB.trans (hB6.mono (by omega)); replace hzw := hB.size; clear c30 c31; obtain ⟨c30, c31⟩ := cells2 c3; clear c40 c41 c42 c43 c44; obtain ⟨c40, c41, c42, c43, c44⟩ := cells5 c4; clear c50 c51 c52 c53 c54 c55 c56 c57; obtain ⟨c50, c51, c52, c53, c54, c55, c56, c57⟩ := cellsCm c5; clear c60 c61; obtain ⟨c60, c61⟩ := cells2 c6; clear c70 c71 c72 c73 c74 c75; obtain ⟨c70, c71, c72, c73, c74, c75⟩ := cellsRp c7; obtain ⟨A1, n1, k1, rfl⟩ := o1.slice) | (clear mk8; refine wpList_store_v rfl 31 _ _ rfl b6 [.slice A1 n1 k1, .int .i64 Y] rfl rfl sizeBk c6 rfl (oneBk _ _ _ _) ?_; intro w7 hO7 c6x; clear c60 c61; have hz7 : w6.heap.size ≤ w7.heap.size := (Nat.le_of_eq hO7.1.symm); have hy7 : w7.heap.size ≤ w6.heap.size := (Nat.le_of_eq hO7.1); replace o1 := o1.only hO7 c6 (by decide); replace c3 := vblk_only c3 hO7 (by omega); replace c4 := vblk_only c4 hO7 (by omega); replace c5 := vblk_only c5 hO7 (by omega); replace c7 := vblk_only c7 hO7 (by omega); replace hB := hB.trans (hO7.2.2 _ (by omega)); replace hzw := hB.size; clear c30 c31; obtain ⟨c30, c31⟩ := cells2 c3; clear c40 c41 c42 c43 c44; obtain ⟨c40, c41, c42, c43, c44⟩ := cells5 c4; clear c50 c51 c52 c53 c54 c55 c56 c57; obtain ⟨c50, c51, c52, c53, c54, c55, c56, c57⟩ := cellsCm c5; clear c70 c71 c72 c73 c74 c75; obtain ⟨c70, c71, c72, c73, c74, c75⟩ := cellsRp c7; clear c6; have c6 := c6x; clear c6x; obtain ⟨c60, c61⟩ := cells2 c6) | (clear mk9; refine wpList_store_v rfl 33 _ _ rfl b7 [.int .i64 r1, .string r2, .int .i64 r3, .string r4, .int .i64 r5, .int .i64 r6] rfl rfl sizeRp c7 rfl (oneRp ⟨r1, r2, r3, r4, r5, r6⟩) ?_; intro w8 hO8 c7x; clear c70 c71 c72 c73 c74 c75; have hz8 : w7.heap.size ≤ w8.heap.size := (Nat.le_of_eq hO8.1.symm); have hy8 : w8.heap.size ≤ w7.heap.size := (Nat.le_of_eq hO8.1); replace o1 := o1.only hO8 c7 (by decide); replace c3 := vblk_only c3 hO8 (by omega); replace c4 := vblk_only c4 hO8 (by omega); replace c5 := vblk_only c5 hO8 (by omega); replace c6 := vblk_only c6 hO8 (by omega); replace hB := hB.trans (hO8.2.2 _ (by omega)); replace hzw := hB.size; clear c30 c31; obtain ⟨c30, c31⟩ := cells2 c3; clear c40 c41 c42 c43 c44; obtain ⟨c40, c41, c42, c43, c44⟩ := cells5 c4; clear c50 c51 c52 c53 c54 c55 c56 c57; obtain ⟨c50, c51, c52, c53, c54, c55, c56, c57⟩ := cellsCm c5; clear c60 c61; obtain ⟨c60, c61⟩ := cells2 c6; clear c7; have c7 := c7x; clear c7x; obtain ⟨c70, c71, c72, c73, c74, c75⟩ := cellsRp c7) | (fail))
  exact row_cc rfl rfl rfl c6 c7 Tryz.underlying31 Tryz.underlying33 sizeBk sizeRp rfl ⟨_, rfl, (o1.wide (Nat.le_refl _) (by omega)).top, hB⟩

set_option maxRecDepth 100000 in
set_option maxHeartbeats 2000000 in
theorem storeIfSame_any (I : List It) (X : Int) (N B : ByteArray) (F C U : Int) (V : Int) (N2 : ByteArray) (F2 U2 : Int) (B2 : ByteArray) (C2 D2 : Int) (Q2 : Bool) (v : Value) (lo : Nat) (w : World) (o : Own encIt w lo w.heap.size v I) (hlo : lo ≤ w.heap.size) (ok : StOk ⟨I, X⟩) (hN : N.size ≤ 1048576) (hBs : B.size ≤ 1048576) (hN2 : N2.size ≤ 1048576) (hB2 : B2.size ≤ 1048576) :
    Calls Tryz.prog 83 #[.agg #[v, .int .i64 X], .agg #[.string N, .int .i64 F, .string B, .int .i64 C, .int .i64 U], .agg #[.int .i64 V, .string N2, .int .i64 F2, .int .i64 U2, .string B2, .int .i64 C2, .int .i64 D2, .bool Q2]] w fun e w' => PostD (if C = C2 then keepK ⟨I, X⟩ ⟨N2, F2, B2, 0, U2⟩ else (⟨I, X⟩, rp 3)).1 (if C = C2 then keepK ⟨I, X⟩ ⟨N2, F2, B2, 0, U2⟩ else (⟨I, X⟩, rp 3)).2 lo w e w' := by
  obtain ⟨A0, n0, k0, rfl⟩ := o.slice
  by_cases hc : C = C2
  · subst hc
    have hcc : (C != C) = false := by simp
    rw [if_pos rfl]
    have hzw0 : w.heap.size ≤ w.heap.size := Nat.le_refl _
    have HS := fun v lo w o h => store_any I X N B F C U V N2 F2 U2 B2 C D2 Q2 v lo w o h ok hN hBs hN2 hB2
    obtain ⟨⟨⟨J, Y⟩, ⟨r1, r2, r3, r4, r5, r6⟩⟩, hR⟩ := hid_ex (keepK ⟨I, X⟩ ⟨N2, F2, B2, 0, U2⟩)
    unfold PostD at HS ⊢
    rw [hR.out] at HS ⊢
    have HH : Hid _ := HS
    clear HS hR
    dsimp only [csRp] at HH ⊢
    have hzw0 : w.heap.size ≤ w.heap.size := Nat.le_refl _
    go_enter Tryz.func83, Tryz.ntmps83
    have mk1 : Hid True := trivial
    have mk2 : Hid True := trivial
    have mk3 : Hid True := trivial
    have mk4 : Hid True := trivial
    have mk5 : Hid True := trivial
    have mk6 : Hid True := trivial
    have mk7 : Hid True := trivial
    have mk8 : Hid True := trivial
    have mk9 : Hid True := trivial
    have mk10 : Hid True := trivial
    have mk11 : Hid True := trivial
    go_wp2_with (first | (clear mk1; refine wpList_box_v rfl 31 _ rfl [.slice A0 n0 k0, .int .i64 X] rfl ?_; intro b3 w1 hb3 hwb3 hB1 c3; have hz1 : w.heap.size ≤ w1.heap.size := hB1.size; replace o := o.grow hB1; have hB := hB1; have hzw := hB.size; obtain ⟨c30, c31⟩ := cells2 c3) | (clear mk2; refine wpList_box_v rfl 56 _ rfl [.string N, .int .i64 F, .string B, .int .i64 C, .int .i64 U] rfl ?_; intro b4 w2 hb4 hwb4 hB2 c4; have hz2 : w1.heap.size ≤ w2.heap.size := hB2.size; replace o := o.grow hB2; replace c3 := vblk_grow c3 hB2; replace hB := hB.trans (hB2.mono (by omega)); replace hzw := hB.size; clear c30 c31; obtain ⟨c30, c31⟩ := cells2 c3; obtain ⟨c40, c41, c42, c43, c44⟩ := cells5 c4) | (clear mk3; refine wpList_box_v rfl 37 _ rfl [.int .i64 V, .string N2, .int .i64 F2, .int .i64 U2, .string B2, .int .i64 C, .int .i64 D2, .bool Q2] rfl ?_; intro b5 w3 hb5 hwb5 hB3 c5; have hz3 : w2.heap.size ≤ w3.heap.size := hB3.size; replace o := o.grow hB3; replace c3 := vblk_grow c3 hB3; replace c4 := vblk_grow c4 hB3; replace hB := hB.trans (hB3.mono (by omega)); replace hzw := hB.size; clear c30 c31; obtain ⟨c30, c31⟩ := cells2 c3; clear c40 c41 c42 c43 c44; obtain ⟨c40, c41, c42, c43, c44⟩ := cells5 c4; obtain ⟨c50, c51, c52, c53, c54, c55, c56, c57⟩ := cellsCm c5) | (clear mk4; refine wpList_alloc_v rfl 31 rfl _ zeroBk ?_; intro b6 w4 hb6 hwb6 hB4 c6; have hz4 : w3.heap.size ≤ w4.heap.size := hB4.size; replace o := o.grow hB4; replace c3 := vblk_grow c3 hB4; replace c4 := vblk_grow c4 hB4; replace c5 := vblk_grow c5 hB4; replace hB := hB.trans (hB4.mono (by omega)); replace hzw := hB.size; clear c30 c31; obtain ⟨c30, c31⟩ := cells2 c3; clear c40 c41 c42 c43 c44; obtain ⟨c40, c41, c42, c43, c44⟩ := cells5 c4; clear c50 c51 c52 c53 c54 c55 c56 c57; obtain ⟨c50, c51, c52, c53, c54, c55, c56, c57⟩ := cellsCm c5; obtain ⟨c60, c61⟩ := cells2 c6) | (clear mk5; refine wpList_alloc_v rfl 33 rfl _ zeroRp ?_; intro b7 w5 hb7 hwb7 hB5 c7; have hz5 : w4.heap.size ≤ w5.heap.size := hB5.size; replace o := o.grow hB5; replace c3 := vblk_grow c3 hB5; replace c4 := vblk_grow c4 hB5; replace c5 := vblk_grow c5 hB5; replace c6 := vblk_grow c6 hB5; replace hB := hB.trans (hB5.mono (by omega)); replace hzw := hB.size; clear c30 c31; obtain ⟨c30, c31⟩ := cells2 c3; clear c40 c41 c42 c43 c44; obtain ⟨c40, c41, c42, c43, c44⟩ := cells5 c4; clear c50 c51 c52 c53 c54 c55 c56 c57; obtain ⟨c50, c51, c52, c53, c54, c55, c56, c57⟩ := cellsCm c5; clear c60 c61; obtain ⟨c60, c61⟩ := cells2 c6; obtain ⟨c70, c71, c72, c73, c74, c75⟩ := cellsRp c7) | (clear mk6; refine wpList_load_r rfl 31 _ rfl b3 0 [.slice A0 n0 k0, .int .i64 X] rfl _ Tryz.underlying31 rfl sizeBk c3.range ?_) | (clear mk7; refine wpList_load_r rfl 56 _ rfl b4 0 [.string N, .int .i64 F, .string B, .int .i64 C, .int .i64 U] rfl _ Tryz.underlying56 rfl sizeIt c4.range ?_) | (clear mk8; refine wpList_load_r rfl 37 _ rfl b5 0 [.int .i64 V, .string N2, .int .i64 F2, .int .i64 U2, .string B2, .int .i64 C, .int .i64 D2, .bool Q2] rfl _ Tryz.underlying37 rfl sizeCm c5.range ?_) | (clear mk9; go_at_call 79; refine (HH.out _ lo _ o.top (by omega)).mono ?_; rintro er w6 ⟨v1, rfl, o1, hB6⟩; have hz6 : w5.heap.size ≤ w6.heap.size := hB6.size; replace c3 := vblk_grow c3 hB6; replace c4 := vblk_grow c4 hB6; replace c5 := vblk_grow c5 hB6; replace c6 := vblk_grow c6 hB6; replace c7 := vblk_grow c7 hB6; replace hB := hB.trans (hB6.mono (by omega)); replace hzw := hB.size; clear c30 c31; obtain ⟨c30, c31⟩ := cells2 c3; clear c40 c41 c42 c43 c44; obtain ⟨c40, c41, c42, c43, c44⟩ := cells5 c4; clear c50 c51 c52 c53 c54 c55 c56 c57; obtain ⟨c50, c51, c52, c53, c54, c55, c56, c57⟩ := cellsCm c5; clear c60 c61; obtain ⟨c60, c61⟩ := cells2 c6; clear c70 c71 c72 c73 c74 c75; obtain ⟨c70, c71, c72, c73, c74, c75⟩ := cellsRp c7; obtain ⟨A1, n1, k1, rfl⟩ := o1.slice) | (clear mk10; refine wpList_store_v rfl 31 _ _ rfl b6 [.slice A1 n1 k1, .int .i64 Y] rfl rfl sizeBk c6 rfl (oneBk _ _ _ _) ?_; intro w7 hO7 c6x; clear c60 c61; have hz7 : w6.heap.size ≤ w7.heap.size := (Nat.le_of_eq hO7.1.symm); have hy7 : w7.heap.size ≤ w6.heap.size := (Nat.le_of_eq hO7.1); replace o1 := o1.only hO7 c6 (by decide); replace c3 := vblk_only c3 hO7 (by omega); replace c4 := vblk_only c4 hO7 (by omega); replace c5 := vblk_only c5 hO7 (by omega); replace c7 := vblk_only c7 hO7 (by omega); replace hB := hB.trans (hO7.2.2 _ (by omega)); replace hzw := hB.size; clear c30 c31; obtain ⟨c30, c31⟩ := cells2 c3; clear c40 c41 c42 c43 c44; obtain ⟨c40, c41, c42, c43, c44⟩ := cells5 c4; clear c50 c51 c52 c53 c54 c55 c56 c57; obtain ⟨c50, c51, c52, c53, c54, c55, c56, c57⟩ := cellsCm c5; clear c70 c71 c72 c73 c74 c75; obtain ⟨c70, c71, c72, c73, c74, c75⟩ := cellsRp c7; clear c6; have c6 := c6x; clear c6x; obtain ⟨c60, c61⟩ := cells2 c6) | (clear mk11; refine wpList_store_v rfl 33 _ _ rfl b7 [.int .i64 r1, .string r2, .int .i64 r3, .string r4, .int .i64 r5, .int .i64 r6] rfl rfl sizeRp c7 rfl (oneRp ⟨r1, r2, r3, r4, r5, r6⟩) ?_; intro w8 hO8 c7x; clear c70 c71 c72 c73 c74 c75; have hz8 : w7.heap.size ≤ w8.heap.size := (Nat.le_of_eq hO8.1.symm); have hy8 : w8.heap.size ≤ w7.heap.size := (Nat.le_of_eq hO8.1); replace o1 := o1.only hO8 c7 (by decide); replace c3 := vblk_only c3 hO8 (by omega); replace c4 := vblk_only c4 hO8 (by omega); replace c5 := vblk_only c5 hO8 (by omega); replace c6 := vblk_only c6 hO8 (by omega); replace hB := hB.trans (hO8.2.2 _ (by omega)); replace hzw := hB.size; clear c30 c31; obtain ⟨c30, c31⟩ := cells2 c3; clear c40 c41 c42 c43 c44; obtain ⟨c40, c41, c42, c43, c44⟩ := cells5 c4; clear c50 c51 c52 c53 c54 c55 c56 c57; obtain ⟨c50, c51, c52, c53, c54, c55, c56, c57⟩ := cellsCm c5; clear c60 c61; obtain ⟨c60, c61⟩ := cells2 c6; clear c7; have c7 := c7x; clear c7x; obtain ⟨c70, c71, c72, c73, c74, c75⟩ := cellsRp c7) | (fail))
    exact row_cc rfl rfl rfl c6 c7 Tryz.underlying31 Tryz.underlying33 sizeBk sizeRp rfl ⟨_, rfl, (o1.wide (Nat.le_refl _) (by omega)).top, hB⟩
  have hcc : (C != C2) = true := by simpa using hc
  rw [if_neg hc]
  have hzw0 : w.heap.size ≤ w.heap.size := Nat.le_refl _
  go_enter Tryz.func83, Tryz.ntmps83
  have mk1 : Hid True := trivial
  have mk2 : Hid True := trivial
  have mk3 : Hid True := trivial
  have mk4 : Hid True := trivial
  have mk5 : Hid True := trivial
  have mk6 : Hid True := trivial
  have mk7 : Hid True := trivial
  have mk8 : Hid True := trivial
  go_wp2_with (first | (clear mk1; refine wpList_box_v rfl 31 _ rfl [.slice A0 n0 k0, .int .i64 X] rfl ?_; intro b3 w1 hb3 hwb3 hB1 c3; have hz1 : w.heap.size ≤ w1.heap.size := hB1.size; replace o := o.grow hB1; have hB := hB1; have hzw := hB.size; obtain ⟨c30, c31⟩ := cells2 c3) | (clear mk2; refine wpList_box_v rfl 56 _ rfl [.string N, .int .i64 F, .string B, .int .i64 C, .int .i64 U] rfl ?_; intro b4 w2 hb4 hwb4 hB2 c4; have hz2 : w1.heap.size ≤ w2.heap.size := hB2.size; replace o := o.grow hB2; replace c3 := vblk_grow c3 hB2; replace hB := hB.trans (hB2.mono (by omega)); replace hzw := hB.size; clear c30 c31; obtain ⟨c30, c31⟩ := cells2 c3; obtain ⟨c40, c41, c42, c43, c44⟩ := cells5 c4) | (clear mk3; refine wpList_box_v rfl 37 _ rfl [.int .i64 V, .string N2, .int .i64 F2, .int .i64 U2, .string B2, .int .i64 C2, .int .i64 D2, .bool Q2] rfl ?_; intro b5 w3 hb5 hwb5 hB3 c5; have hz3 : w2.heap.size ≤ w3.heap.size := hB3.size; replace o := o.grow hB3; replace c3 := vblk_grow c3 hB3; replace c4 := vblk_grow c4 hB3; replace hB := hB.trans (hB3.mono (by omega)); replace hzw := hB.size; clear c30 c31; obtain ⟨c30, c31⟩ := cells2 c3; clear c40 c41 c42 c43 c44; obtain ⟨c40, c41, c42, c43, c44⟩ := cells5 c4; obtain ⟨c50, c51, c52, c53, c54, c55, c56, c57⟩ := cellsCm c5) | (clear mk4; refine wpList_alloc_v rfl 31 rfl _ zeroBk ?_; intro b6 w4 hb6 hwb6 hB4 c6; have hz4 : w3.heap.size ≤ w4.heap.size := hB4.size; replace o := o.grow hB4; replace c3 := vblk_grow c3 hB4; replace c4 := vblk_grow c4 hB4; replace c5 := vblk_grow c5 hB4; replace hB := hB.trans (hB4.mono (by omega)); replace hzw := hB.size; clear c30 c31; obtain ⟨c30, c31⟩ := cells2 c3; clear c40 c41 c42 c43 c44; obtain ⟨c40, c41, c42, c43, c44⟩ := cells5 c4; clear c50 c51 c52 c53 c54 c55 c56 c57; obtain ⟨c50, c51, c52, c53, c54, c55, c56, c57⟩ := cellsCm c5; obtain ⟨c60, c61⟩ := cells2 c6) | (clear mk5; refine wpList_alloc_v rfl 33 rfl _ zeroRp ?_; intro b7 w5 hb7 hwb7 hB5 c7; have hz5 : w4.heap.size ≤ w5.heap.size := hB5.size; replace o := o.grow hB5; replace c3 := vblk_grow c3 hB5; replace c4 := vblk_grow c4 hB5; replace c5 := vblk_grow c5 hB5; replace c6 := vblk_grow c6 hB5; replace hB := hB.trans (hB5.mono (by omega)); replace hzw := hB.size; clear c30 c31; obtain ⟨c30, c31⟩ := cells2 c3; clear c40 c41 c42 c43 c44; obtain ⟨c40, c41, c42, c43, c44⟩ := cells5 c4; clear c50 c51 c52 c53 c54 c55 c56 c57; obtain ⟨c50, c51, c52, c53, c54, c55, c56, c57⟩ := cellsCm c5; clear c60 c61; obtain ⟨c60, c61⟩ := cells2 c6; obtain ⟨c70, c71, c72, c73, c74, c75⟩ := cellsRp c7) | (clear mk6; refine wpList_load_r rfl 31 _ rfl b3 0 [.slice A0 n0 k0, .int .i64 X] rfl _ Tryz.underlying31 rfl sizeBk c3.range ?_) | (clear mk7; refine wpList_store_v rfl 31 _ _ rfl b6 [.slice A0 n0 k0, .int .i64 X] rfl rfl sizeBk c6 rfl (oneBk _ _ _ _) ?_; intro w6 hO6 c6x; clear c60 c61; have hz6 : w5.heap.size ≤ w6.heap.size := (Nat.le_of_eq hO6.1.symm); have hy6 : w6.heap.size ≤ w5.heap.size := (Nat.le_of_eq hO6.1); replace o := o.only hO6 c6 (by decide); replace c3 := vblk_only c3 hO6 (by omega); replace c4 := vblk_only c4 hO6 (by omega); replace c5 := vblk_only c5 hO6 (by omega); replace c7 := vblk_only c7 hO6 (by omega); replace hB := hB.trans (hO6.2.2 _ (by omega)); replace hzw := hB.size; clear c30 c31; obtain ⟨c30, c31⟩ := cells2 c3; clear c40 c41 c42 c43 c44; obtain ⟨c40, c41, c42, c43, c44⟩ := cells5 c4; clear c50 c51 c52 c53 c54 c55 c56 c57; obtain ⟨c50, c51, c52, c53, c54, c55, c56, c57⟩ := cellsCm c5; clear c70 c71 c72 c73 c74 c75; obtain ⟨c70, c71, c72, c73, c74, c75⟩ := cellsRp c7; clear c6; have c6 := c6x; clear c6x; obtain ⟨c60, c61⟩ := cells2 c6) | (clear mk8; refine wpList_store_v rfl 33 _ _ rfl b7 [.int .i64 3, .string ⟨#[]⟩, .int .i64 0, .string ⟨#[]⟩, .int .i64 0, .int .i64 0] rfl rfl sizeRp c7 rfl (oneRp (rp 3)) ?_; intro w7 hO7 c7x; clear c70 c71 c72 c73 c74 c75; have hz7 : w6.heap.size ≤ w7.heap.size := (Nat.le_of_eq hO7.1.symm); have hy7 : w7.heap.size ≤ w6.heap.size := (Nat.le_of_eq hO7.1); replace o := o.only hO7 c7 (by decide); replace c3 := vblk_only c3 hO7 (by omega); replace c4 := vblk_only c4 hO7 (by omega); replace c5 := vblk_only c5 hO7 (by omega); replace c6 := vblk_only c6 hO7 (by omega); replace hB := hB.trans (hO7.2.2 _ (by omega)); replace hzw := hB.size; clear c30 c31; obtain ⟨c30, c31⟩ := cells2 c3; clear c40 c41 c42 c43 c44; obtain ⟨c40, c41, c42, c43, c44⟩ := cells5 c4; clear c50 c51 c52 c53 c54 c55 c56 c57; obtain ⟨c50, c51, c52, c53, c54, c55, c56, c57⟩ := cellsCm c5; clear c60 c61; obtain ⟨c60, c61⟩ := cells2 c6; clear c7; have c7 := c7x; clear c7x; obtain ⟨c70, c71, c72, c73, c74, c75⟩ := cellsRp c7) | (fail))
  exact row_cc rfl rfl rfl c6 c7 Tryz.underlying31 Tryz.underlying33 sizeBk sizeRp rfl ⟨_, rfl, (o.wide (Nat.le_refl _) (by omega)).top, hB⟩

end Go.Proofs.YtjkkjpgebcnhgaaGreatDoor.rg
