/- Contracts: the model's Opened, Stored, Doubled, NewSplit. -/
import Derived.Test.YtbialeffdpmcjaaSy5
import Derived.Test.YtbialeffdpmcjaaSy3
namespace Go.Proofs.Ytbialeffdpmcjaa.sx
open Go.ChangeShapes Go.WideShapes Go.ChangeAt Go.RowKit
open Go.Proofs.Ytbialeffdpmcjaa.ce
set_option linter.unusedVariables false

theorem results_cell_tmp2 {fn : Func} {p u : Tmp} {ty : TypeId} (h : fn.results = #[.cell p ty, .tmp u]) (tmps : Array Value) (P : Program) (w : World) :
    (results fn tmps).run P w =
      ((asAddr (tmps.getD p undef)).run P w).andThen fun a w₁ => ((loadVar ty a).run P w₁).andThen fun v w₂ => .ok (.tuple #[v, tmps.getD u undef]) w₂ := by
  simp only [results, h]
  simp [Sem.run_bind, Result.andThen]
theorem row_cell_tmp' {fn : Func} {p u : Tmp} {ty : TypeId} (h : fn.results = #[.cell p ty, .tmp u]) {R : Ending → World → Prop} {a : Act} {w : World} {b : Nat} {t : TypeId} {vs : List Value} {fs : Array Field} {x : Value}
    (hp : a.tmps.getD p undef = .pointer (some ⟨b, 0, none⟩)) (hx : a.tmps.getD u undef = x) (hb : VBlk w b t vs) (hu : Try.prog.underlying ty = some (.struct fs))
    (hi : (Try.prog.info? ty).map (·.size) = some vs.length) (hdf : a.defers = []) (hR : R (.returned (.tuple #[.agg vs.toArray, x])) w) : bodyPost Try.prog fn R .ret a w := by
  have hl := run_loadVar_row (P := Try.prog) w b t ty vs.toArray (0, 0) _ hb hu rfl (by rw [hi]; simp)
  refine bodyPost_ret ?_ hdf hR
  rw [results_cell_tmp2 h, hp, hx]
  simp [asAddr, hl]
theorem wpList_store_n {o : Oper} {a : Act} {w : World} {ops : Array Oper} {rest : List Oper} {Q : Exit → Act → World → Prop} (hgd : o.guard = none) (x y : Operand) (ho : o.op = .store 2 x y) (b j : Nat) (z : Int) (hx : a.eval x = .pointer (some ⟨b, j, none⟩)) (hy : a.eval y = .int .i64 z)
    {t : TypeId} {vs : List Value} (hb : VBlk w b t vs) (hj : j < vs.length)
    (h : ∀ w', Only b w w' → VBlk w' b t (vs.set j (.int .i64 z)) → wpList Try.prog ops Q rest (a.put o.dst undef) w') : wpList Try.prog ops Q (o :: rest) a w := by
  have hc := hb.cell j hj
  have hf : w.frozen? ⟨b, j, none⟩ = false := hb.frozen _
  refine wpList_skip hgd (w' := w.setCell ⟨b, j, none⟩ (.int .i64 z)) ?_ (h _ (only_set _ _ _ _) (hb.set j _))
  unfold execOp
  simp only [ho, hx, hy]
  simp [go_sem, hc, hf]

set_option maxRecDepth 100000 in
set_option maxHeartbeats 4000000 in
theorem specNewSplit_all (w : World) :
    Calls Try.prog 17 #[] w fun e w' => ∃ v', e = .returned (.agg #[.int .i64 1, v']) ∧ OwnI w' w.heap.size w'.heap.size v' [0] ∧ Below w.heap.size w w' := by
  go_enter Try.func17, Try.ntmps17
  go_wp2_with (first | (refine wpList_alloc_v rfl 27 rfl _ zeroSp ?_; intro b1 w1 hb1 hw1 hB1 hV1; have hz1 := hB1.size) | (refine wpList_store_v rfl 27 _ _ rfl b1 [.int .i64 1, .slice (some ⟨w1.heap.size, 0, none⟩) 1 1] rfl rfl sizeSp (hV1.of (heap_alloc_old _ _ hw1)) rfl (by simp [Value.oneCell']) ?_; intro w3 hO3 hV3) | (fail))
  have hBa : Below w1.heap.size w1 (w1.alloc (.cells #[.int .i64 0] 2)) := (Below.refl _ _).alloc (Nat.le_refl _) _
  have ho : OwnI (w1.alloc (.cells #[.int .i64 0] 2)) w1.heap.size (w1.alloc (.cells #[.int .i64 0] 2)).heap.size (.slice (some ⟨w1.heap.size, 0, none⟩) 1 1) [0] :=
    ⟨⟨rfl, .inr ⟨w1.heap.size, 1, #[.int .i64 0], rfl, Nat.le_refl _, heap_alloc_new _ _, Nat.le_refl _, by unfold maxLen; omega, rfl, rfl⟩⟩, fun g hg => by cases hg; simp⟩
  refine row_retv rfl rfl hV3 Try.underlying27 sizeSp rfl ⟨_, rfl, (ho.keep fun j j1 j2 => hO3.2.1 j (by omega)).wide hB1.size (by have := hO3.1; omega), (hB1.trans (hBa.mono hz1)).trans (hO3.2.2 _ hb1)⟩

set_option maxRecDepth 100000 in
set_option maxHeartbeats 4000000 in
theorem specOpened_all (n : Int) (ks : List Int) (hb63 : ∀ k ∈ ks, k ≤ 9223372036854775807) (v : Value) (hi : Nat) (w : World) (hh : hi ≤ w.heap.size) (r : RdI w hi v ks) (b : Int) :
    Calls Try.prog 21 #[.agg #[.int .i64 n, v], .int .i64 b] w fun e w' => ∃ v', e = .returned (.tuple #[.agg #[.int .i64 (opN n ks), v'], .bool (opB n ks b)]) ∧ OwnI w' w.heap.size w'.heap.size v' (opK n ks b) ∧ Below w.heap.size w w' := by
  obtain ⟨a, cap, rfl⟩ := r.form
  have R : Hid (RdI w hi (.slice a ks.length cap) ks) := r
  have K63 : Hid (∀ k ∈ ks, k ≤ 9223372036854775807) := hb63
  clear r hb63
  by_cases hok : splitB n ks = true
  · by_cases hb : 0 ≤ b ∧ b < n
    · obtain ⟨hb0, hb1⟩ := hb
      have e1 : opN n ks = n := if_pos hok
      have e2 : opB n ks b = true := by unfold opB; rw [hok, decide_eq_true hb0, decide_eq_true hb1]; rfl
      have e3 : opK n ks b = opn b.toNat ks b := by unfold opK; rw [if_pos hok, if_pos ⟨hb0, hb1⟩]
      have hD : door n b = b := if_pos ⟨hb0, hb1⟩
      have hne : (b == -1) = false := by rw [beq_eq_false_iff_ne]; omega
      rw [e1, e2, e3]
      have HK : Hid (splitB n ks = true) := hok
      have OK := splitB_iff.1 hok
      have hk1 := OK.pos
      have hk2 := OK.len
      have hn := OK.bd
      have OKH : Hid (SOk n ks) := OK
      clear hok OK
      go_enter Try.func21, Try.ntmps21
      have mk1 : Hid True := trivial
      have mk2 : Hid True := trivial
      have mk3 : Hid True := trivial
      have mk4 : Hid True := trivial
      have mk5 : Hid True := trivial
      have mk6 : Hid True := trivial
      have mk7 : Hid True := trivial
      have mk8 : Hid True := trivial
      go_wp2_with (first | (clear mk1; refine wpList_box_v rfl 27 _ rfl [.int .i64 n, .slice a ks.length cap] rfl ?_; intro b2 w1 hb2 hwb2 hB1 hVb2; have hz1 : w.heap.size ≤ w1.heap.size := hB1.size; have hB := hB1; have hzw := hB.size; have c2 : SV w1 b2 27 (.int .i64 n) (.slice a ks.length cap) := ⟨hVb2⟩; clear hVb2; obtain ⟨c20, c21⟩ := c2.cells) | (clear mk2; refine wpList_alloc_v rfl 27 rfl _ zeroSp ?_; intro b4 w2 hb4 hwb4 hB2 hVb4; have hz2 : w1.heap.size ≤ w2.heap.size := hB2.size; replace c2 := c2.below hB2 (by omega); replace hB := hB.trans (hB2.mono (by omega)); replace hzw := hB.size; clear c20 c21; obtain ⟨c20, c21⟩ := c2.cells; have c4 : SV w2 b4 27 (.int .i64 0) (.slice none 0 0) := ⟨hVb4⟩; clear hVb4; obtain ⟨c40, c41⟩ := c4.cells) | (clear mk3; go_at_call 13; refine (specSplitOk_any n ks _ hi _ (by omega) (R.out.below hB hh)).mono ?_; rintro er w3 ⟨rfl, hB3⟩; have hz3 : w2.heap.size ≤ w3.heap.size := hB3.size; replace c2 := c2.below hB3 (by omega); replace c4 := c4.below hB3 (by omega); replace hB := hB.trans (hB3.mono (by omega)); replace hzw := hB.size; clear c20 c21; obtain ⟨c20, c21⟩ := c2.cells; clear c40 c41; obtain ⟨c40, c41⟩ := c4.cells; rw [HK.out]) | (clear mk4; go_at_call 53; refine (l7Copy_any n ks _ hi _ (by omega) (R.out.below hB hh) hk1 (by omega)).mono ?_; rintro er w4 ⟨v4, rfl, o4, hB4⟩; have hz4 : w3.heap.size ≤ w4.heap.size := hB4.size; replace c2 := c2.below hB4 (by omega); replace c4 := c4.below hB4 (by omega); replace hB := hB.trans (hB4.mono (by omega)); replace hzw := hB.size; clear c20 c21; obtain ⟨c20, c21⟩ := c2.cells; clear c40 c41; obtain ⟨c40, c41⟩ := c4.cells; obtain ⟨ac, nc, kc, rfl⟩ := own_slice o4; have oc := o4) | (clear mk5; refine wpList_alloc_v rfl 27 rfl _ zeroSp ?_; intro b6 w5 hb6 hwb6 hB5 hVb6; have hz5 : w4.heap.size ≤ w5.heap.size := hB5.size; replace oc := oc.below hB5 (by omega); replace c2 := c2.below hB5 (by omega); replace c4 := c4.below hB5 (by omega); replace hB := hB.trans (hB5.mono (by omega)); replace hzw := hB.size; clear c20 c21; obtain ⟨c20, c21⟩ := c2.cells; clear c40 c41; obtain ⟨c40, c41⟩ := c4.cells; have c6 : SV w5 b6 27 (.int .i64 0) (.slice none 0 0) := ⟨hVb6⟩; clear hVb6; obtain ⟨c60, c61⟩ := c6.cells) | (clear mk6; refine wpList_store_v rfl 27 _ _ rfl b6 [.int .i64 n, .slice ac nc kc] rfl rfl sizeSp c6.blk rfl (by simp [Value.oneCell']) ?_; intro w6 hO6 hVb6; have hz6 : w5.heap.size ≤ w6.heap.size := (Nat.le_of_eq hO6.1.symm); replace oc := oc.keep (w' := w6) (fun k g1 g2 => hO6.2.1 k (by omega)); replace c2 := c2.keep (w' := w6) (fun k g1 g2 => hO6.2.1 k (by omega)); replace c4 := c4.keep (w' := w6) (fun k g1 g2 => hO6.2.1 k (by omega)); replace hB := hB.trans (hO6.2.2 _ (by omega)); replace hzw := hB.size; clear c20 c21; obtain ⟨c20, c21⟩ := c2.cells; clear c40 c41; obtain ⟨c40, c41⟩ := c4.cells; replace c6 : SV w6 b6 27 (.int .i64 n) (.slice ac nc kc) := ⟨hVb6⟩; clear hVb6; clear c60 c61; obtain ⟨c60, c61⟩ := c6.cells) | (clear mk7; go_at_call 54; refine (l7Open_any n ks b _ b6 w.heap.size _ _ (by omega) (Nat.le_refl _) hk1 (by omega) (by omega) (oc.wide (by omega) (by omega)) c6.blk).mono ?_; rintro er w7 ⟨⟨u7, rfl⟩, v7, od, hV7, hT7⟩; have hz7 : w6.heap.size ≤ w7.heap.size := hT7.size; replace c2 := c2.keep (w' := w7) (fun k g1 g2 => hT7.keep k (by omega) (by omega)); replace c4 := c4.keep (w' := w7) (fun k g1 g2 => hT7.keep k (by omega) (by omega)); replace hB := hB.trans (hT7.low _ (by omega) (by omega)); replace hzw := hB.size; clear c20 c21; obtain ⟨c20, c21⟩ := c2.cells; clear c40 c41; obtain ⟨c40, c41⟩ := c4.cells; obtain ⟨ad, nd, kd, rfl⟩ := own_slice od; replace c6 : SV w7 b6 27 (.int .i64 n) (.slice ad nd kd) := ⟨hV7⟩; clear c60 c61; obtain ⟨c60, c61⟩ := c6.cells) | (clear mk8; refine wpList_store_v rfl 27 _ _ rfl b4 [.int .i64 n, .slice ad nd kd] rfl rfl sizeSp c4.blk rfl (by simp [Value.oneCell']) ?_; intro w8 hO8 hVb4; have ne8 := ownI_ne od c4.blk; replace od := od.tn ne8 (Nat.le_refl _) (Tn.only hO8); have hz8 : w7.heap.size ≤ w8.heap.size := (Nat.le_of_eq hO8.1.symm); replace c2 := c2.keep (w' := w8) (fun k g1 g2 => hO8.2.1 k (by omega)); replace c6 := c6.keep (w' := w8) (fun k g1 g2 => hO8.2.1 k (by omega)); replace hB := hB.trans (hO8.2.2 _ (by omega)); replace hzw := hB.size; clear c20 c21; obtain ⟨c20, c21⟩ := c2.cells; clear c60 c61; obtain ⟨c60, c61⟩ := c6.cells; replace c4 : SV w8 b4 27 (.int .i64 n) (.slice ad nd kd) := ⟨hVb4⟩; clear c40 c41; obtain ⟨c40, c41⟩ := c4.cells) | (fail))
      exact row_cell_tmp' rfl rfl rfl c4.blk Try.underlying27 sizeSp rfl ⟨_, rfl, od.wide (by omega) (by omega), hB⟩
    · have e1 : opN n ks = n := if_pos hok
      have e2 : opB n ks b = false := by unfold opB; by_cases h0 : 0 ≤ b; (· rw [decide_eq_false (show ¬ b < n from fun h => hb ⟨h0, h⟩)]; simp); (· rw [decide_eq_false h0]; simp)
      have e3 : opK n ks b = ks := by unfold opK; rw [if_pos hok, if_neg hb]
      have hD : door n b = -1 := if_neg hb
      rw [e1, e2, e3]
      have HK : Hid (splitB n ks = true) := hok
      have OK := splitB_iff.1 hok
      have hk1 := OK.pos
      have hk2 := OK.len
      have hn := OK.bd
      have OKH : Hid (SOk n ks) := OK
      clear hok OK
      by_cases hb0 : b < 0
      · clear hD hb
        go_enter Try.func21, Try.ntmps21
        have mk1 : Hid True := trivial
        have mk2 : Hid True := trivial
        have mk3 : Hid True := trivial
        have mk4 : Hid True := trivial
        have mk5 : Hid True := trivial
        have mk6 : Hid True := trivial
        have mk7 : Hid True := trivial
        go_wp2_with (first | (clear mk1; refine wpList_box_v rfl 27 _ rfl [.int .i64 n, .slice a ks.length cap] rfl ?_; intro b2 w1 hb2 hwb2 hB1 hVb2; have hz1 : w.heap.size ≤ w1.heap.size := hB1.size; have hB := hB1; have hzw := hB.size; have c2 : SV w1 b2 27 (.int .i64 n) (.slice a ks.length cap) := ⟨hVb2⟩; clear hVb2; obtain ⟨c20, c21⟩ := c2.cells) | (clear mk2; refine wpList_alloc_v rfl 27 rfl _ zeroSp ?_; intro b4 w2 hb4 hwb4 hB2 hVb4; have hz2 : w1.heap.size ≤ w2.heap.size := hB2.size; replace c2 := c2.below hB2 (by omega); replace hB := hB.trans (hB2.mono (by omega)); replace hzw := hB.size; clear c20 c21; obtain ⟨c20, c21⟩ := c2.cells; have c4 : SV w2 b4 27 (.int .i64 0) (.slice none 0 0) := ⟨hVb4⟩; clear hVb4; obtain ⟨c40, c41⟩ := c4.cells) | (clear mk3; go_at_call 13; refine (specSplitOk_any n ks _ hi _ (by omega) (R.out.below hB hh)).mono ?_; rintro er w3 ⟨rfl, hB3⟩; have hz3 : w2.heap.size ≤ w3.heap.size := hB3.size; replace c2 := c2.below hB3 (by omega); replace c4 := c4.below hB3 (by omega); replace hB := hB.trans (hB3.mono (by omega)); replace hzw := hB.size; clear c20 c21; obtain ⟨c20, c21⟩ := c2.cells; clear c40 c41; obtain ⟨c40, c41⟩ := c4.cells; rw [HK.out]) | (clear mk4; go_at_call 53; refine (l7Copy_any n ks _ hi _ (by omega) (R.out.below hB hh) hk1 (by omega)).mono ?_; rintro er w4 ⟨v4, rfl, o4, hB4⟩; have hz4 : w3.heap.size ≤ w4.heap.size := hB4.size; replace c2 := c2.below hB4 (by omega); replace c4 := c4.below hB4 (by omega); replace hB := hB.trans (hB4.mono (by omega)); replace hzw := hB.size; clear c20 c21; obtain ⟨c20, c21⟩ := c2.cells; clear c40 c41; obtain ⟨c40, c41⟩ := c4.cells; obtain ⟨ac, nc, kc, rfl⟩ := own_slice o4; have oc := o4) | (clear mk5; refine wpList_alloc_v rfl 27 rfl _ zeroSp ?_; intro b6 w5 hb6 hwb6 hB5 hVb6; have hz5 : w4.heap.size ≤ w5.heap.size := hB5.size; replace oc := oc.below hB5 (by omega); replace c2 := c2.below hB5 (by omega); replace c4 := c4.below hB5 (by omega); replace hB := hB.trans (hB5.mono (by omega)); replace hzw := hB.size; clear c20 c21; obtain ⟨c20, c21⟩ := c2.cells; clear c40 c41; obtain ⟨c40, c41⟩ := c4.cells; have c6 : SV w5 b6 27 (.int .i64 0) (.slice none 0 0) := ⟨hVb6⟩; clear hVb6; obtain ⟨c60, c61⟩ := c6.cells) | (clear mk6; refine wpList_store_v rfl 27 _ _ rfl b6 [.int .i64 n, .slice ac nc kc] rfl rfl sizeSp c6.blk rfl (by simp [Value.oneCell']) ?_; intro w6 hO6 hVb6; have hz6 : w5.heap.size ≤ w6.heap.size := (Nat.le_of_eq hO6.1.symm); replace oc := oc.keep (w' := w6) (fun k g1 g2 => hO6.2.1 k (by omega)); replace c2 := c2.keep (w' := w6) (fun k g1 g2 => hO6.2.1 k (by omega)); replace c4 := c4.keep (w' := w6) (fun k g1 g2 => hO6.2.1 k (by omega)); replace hB := hB.trans (hO6.2.2 _ (by omega)); replace hzw := hB.size; clear c20 c21; obtain ⟨c20, c21⟩ := c2.cells; clear c40 c41; obtain ⟨c40, c41⟩ := c4.cells; replace c6 : SV w6 b6 27 (.int .i64 n) (.slice ac nc kc) := ⟨hVb6⟩; clear hVb6; clear c60 c61; obtain ⟨c60, c61⟩ := c6.cells) | (clear mk7; refine wpList_store_v rfl 27 _ _ rfl b4 [.int .i64 n, .slice ac nc kc] rfl rfl sizeSp c4.blk rfl (by simp [Value.oneCell']) ?_; intro w7 hO7 hVb4; have hz7 : w6.heap.size ≤ w7.heap.size := (Nat.le_of_eq hO7.1.symm); replace oc := oc.keep (w' := w7) (fun k g1 g2 => hO7.2.1 k (by omega)); replace c2 := c2.keep (w' := w7) (fun k g1 g2 => hO7.2.1 k (by omega)); replace c6 := c6.keep (w' := w7) (fun k g1 g2 => hO7.2.1 k (by omega)); replace hB := hB.trans (hO7.2.2 _ (by omega)); replace hzw := hB.size; clear c20 c21; obtain ⟨c20, c21⟩ := c2.cells; clear c60 c61; obtain ⟨c60, c61⟩ := c6.cells; replace c4 : SV w7 b4 27 (.int .i64 n) (.slice ac nc kc) := ⟨hVb4⟩; clear hVb4; clear c40 c41; obtain ⟨c40, c41⟩ := c4.cells) | (fail))
        exact row_cell_tmp' rfl rfl rfl c4.blk Try.underlying27 sizeSp rfl ⟨_, rfl, oc.wide (by omega) (by omega), hB⟩
      · have hb1 : n ≤ b := by omega
        clear hb hD
        go_enter Try.func21, Try.ntmps21
        have mk1 : Hid True := trivial
        have mk2 : Hid True := trivial
        have mk3 : Hid True := trivial
        have mk4 : Hid True := trivial
        have mk5 : Hid True := trivial
        have mk6 : Hid True := trivial
        have mk7 : Hid True := trivial
        go_wp2_with (first | (clear mk1; refine wpList_box_v rfl 27 _ rfl [.int .i64 n, .slice a ks.length cap] rfl ?_; intro b2 w1 hb2 hwb2 hB1 hVb2; have hz1 : w.heap.size ≤ w1.heap.size := hB1.size; have hB := hB1; have hzw := hB.size; have c2 : SV w1 b2 27 (.int .i64 n) (.slice a ks.length cap) := ⟨hVb2⟩; clear hVb2; obtain ⟨c20, c21⟩ := c2.cells) | (clear mk2; refine wpList_alloc_v rfl 27 rfl _ zeroSp ?_; intro b4 w2 hb4 hwb4 hB2 hVb4; have hz2 : w1.heap.size ≤ w2.heap.size := hB2.size; replace c2 := c2.below hB2 (by omega); replace hB := hB.trans (hB2.mono (by omega)); replace hzw := hB.size; clear c20 c21; obtain ⟨c20, c21⟩ := c2.cells; have c4 : SV w2 b4 27 (.int .i64 0) (.slice none 0 0) := ⟨hVb4⟩; clear hVb4; obtain ⟨c40, c41⟩ := c4.cells) | (clear mk3; go_at_call 13; refine (specSplitOk_any n ks _ hi _ (by omega) (R.out.below hB hh)).mono ?_; rintro er w3 ⟨rfl, hB3⟩; have hz3 : w2.heap.size ≤ w3.heap.size := hB3.size; replace c2 := c2.below hB3 (by omega); replace c4 := c4.below hB3 (by omega); replace hB := hB.trans (hB3.mono (by omega)); replace hzw := hB.size; clear c20 c21; obtain ⟨c20, c21⟩ := c2.cells; clear c40 c41; obtain ⟨c40, c41⟩ := c4.cells; rw [HK.out]) | (clear mk4; go_at_call 53; refine (l7Copy_any n ks _ hi _ (by omega) (R.out.below hB hh) hk1 (by omega)).mono ?_; rintro er w4 ⟨v4, rfl, o4, hB4⟩; have hz4 : w3.heap.size ≤ w4.heap.size := hB4.size; replace c2 := c2.below hB4 (by omega); replace c4 := c4.below hB4 (by omega); replace hB := hB.trans (hB4.mono (by omega)); replace hzw := hB.size; clear c20 c21; obtain ⟨c20, c21⟩ := c2.cells; clear c40 c41; obtain ⟨c40, c41⟩ := c4.cells; obtain ⟨ac, nc, kc, rfl⟩ := own_slice o4; have oc := o4) | (clear mk5; refine wpList_alloc_v rfl 27 rfl _ zeroSp ?_; intro b6 w5 hb6 hwb6 hB5 hVb6; have hz5 : w4.heap.size ≤ w5.heap.size := hB5.size; replace oc := oc.below hB5 (by omega); replace c2 := c2.below hB5 (by omega); replace c4 := c4.below hB5 (by omega); replace hB := hB.trans (hB5.mono (by omega)); replace hzw := hB.size; clear c20 c21; obtain ⟨c20, c21⟩ := c2.cells; clear c40 c41; obtain ⟨c40, c41⟩ := c4.cells; have c6 : SV w5 b6 27 (.int .i64 0) (.slice none 0 0) := ⟨hVb6⟩; clear hVb6; obtain ⟨c60, c61⟩ := c6.cells) | (clear mk6; refine wpList_store_v rfl 27 _ _ rfl b6 [.int .i64 n, .slice ac nc kc] rfl rfl sizeSp c6.blk rfl (by simp [Value.oneCell']) ?_; intro w6 hO6 hVb6; have hz6 : w5.heap.size ≤ w6.heap.size := (Nat.le_of_eq hO6.1.symm); replace oc := oc.keep (w' := w6) (fun k g1 g2 => hO6.2.1 k (by omega)); replace c2 := c2.keep (w' := w6) (fun k g1 g2 => hO6.2.1 k (by omega)); replace c4 := c4.keep (w' := w6) (fun k g1 g2 => hO6.2.1 k (by omega)); replace hB := hB.trans (hO6.2.2 _ (by omega)); replace hzw := hB.size; clear c20 c21; obtain ⟨c20, c21⟩ := c2.cells; clear c40 c41; obtain ⟨c40, c41⟩ := c4.cells; replace c6 : SV w6 b6 27 (.int .i64 n) (.slice ac nc kc) := ⟨hVb6⟩; clear hVb6; clear c60 c61; obtain ⟨c60, c61⟩ := c6.cells) | (clear mk7; refine wpList_store_v rfl 27 _ _ rfl b4 [.int .i64 n, .slice ac nc kc] rfl rfl sizeSp c4.blk rfl (by simp [Value.oneCell']) ?_; intro w7 hO7 hVb4; have hz7 : w6.heap.size ≤ w7.heap.size := (Nat.le_of_eq hO7.1.symm); replace oc := oc.keep (w' := w7) (fun k g1 g2 => hO7.2.1 k (by omega)); replace c2 := c2.keep (w' := w7) (fun k g1 g2 => hO7.2.1 k (by omega)); replace c6 := c6.keep (w' := w7) (fun k g1 g2 => hO7.2.1 k (by omega)); replace hB := hB.trans (hO7.2.2 _ (by omega)); replace hzw := hB.size; clear c20 c21; obtain ⟨c20, c21⟩ := c2.cells; clear c60 c61; obtain ⟨c60, c61⟩ := c6.cells; replace c4 : SV w7 b4 27 (.int .i64 n) (.slice ac nc kc) := ⟨hVb4⟩; clear hVb4; clear c40 c41; obtain ⟨c40, c41⟩ := c4.cells) | (fail))
        exact row_cell_tmp' rfl rfl rfl c4.blk Try.underlying27 sizeSp rfl ⟨_, rfl, oc.wide (by omega) (by omega), hB⟩
  · have e1 : opN n ks = 0 := if_neg hok
    have e2 : opB n ks b = false := by unfold opB; rw [show splitB n ks = false by simpa using hok]; rfl
    have e3 : opK n ks b = [] := if_neg hok
    rw [e1, e2, e3]
    have HK : Hid (splitB n ks = false) := by unfold Hid; simpa using hok
    clear hok
    go_enter Try.func21, Try.ntmps21
    have mk1 : Hid True := trivial
    have mk2 : Hid True := trivial
    have mk3 : Hid True := trivial
    have mk4 : Hid True := trivial
    go_wp2_with (first | (clear mk1; refine wpList_box_v rfl 27 _ rfl [.int .i64 n, .slice a ks.length cap] rfl ?_; intro b2 w1 hb2 hwb2 hB1 hVb2; have hz1 : w.heap.size ≤ w1.heap.size := hB1.size; have hB := hB1; have hzw := hB.size; have c2 : SV w1 b2 27 (.int .i64 n) (.slice a ks.length cap) := ⟨hVb2⟩; clear hVb2; obtain ⟨c20, c21⟩ := c2.cells) | (clear mk2; refine wpList_alloc_v rfl 27 rfl _ zeroSp ?_; intro b4 w2 hb4 hwb4 hB2 hVb4; have hz2 : w1.heap.size ≤ w2.heap.size := hB2.size; replace c2 := c2.below hB2 (by omega); replace hB := hB.trans (hB2.mono (by omega)); replace hzw := hB.size; clear c20 c21; obtain ⟨c20, c21⟩ := c2.cells; have c4 : SV w2 b4 27 (.int .i64 0) (.slice none 0 0) := ⟨hVb4⟩; clear hVb4; obtain ⟨c40, c41⟩ := c4.cells) | (clear mk3; go_at_call 13; refine (specSplitOk_any n ks _ hi _ (by omega) (R.out.below hB hh)).mono ?_; rintro er w3 ⟨rfl, hB3⟩; have hz3 : w2.heap.size ≤ w3.heap.size := hB3.size; replace c2 := c2.below hB3 (by omega); replace c4 := c4.below hB3 (by omega); replace hB := hB.trans (hB3.mono (by omega)); replace hzw := hB.size; clear c20 c21; obtain ⟨c20, c21⟩ := c2.cells; clear c40 c41; obtain ⟨c40, c41⟩ := c4.cells; rw [HK.out]) | (clear mk4; refine wpList_store_v rfl 27 _ _ rfl b4 [.int .i64 0, .slice none 0 0] rfl rfl sizeSp c4.blk rfl (by simp [Value.oneCell']) ?_; intro w4 hO4 hVb4; have hz4 : w3.heap.size ≤ w4.heap.size := (Nat.le_of_eq hO4.1.symm); replace c2 := c2.keep (w' := w4) (fun k g1 g2 => hO4.2.1 k (by omega)); replace hB := hB.trans (hO4.2.2 _ (by omega)); replace hzw := hB.size; clear c20 c21; obtain ⟨c20, c21⟩ := c2.cells; replace c4 : SV w4 b4 27 (.int .i64 0) (.slice none 0 0) := ⟨hVb4⟩; clear hVb4; clear c40 c41; obtain ⟨c40, c41⟩ := c4.cells) | (fail))
    exact row_cell_tmp' rfl rfl rfl c4.blk Try.underlying27 sizeSp rfl ⟨_, rfl, ownI_none _ _ _, hB⟩

set_option maxRecDepth 100000 in
set_option maxHeartbeats 4000000 in
theorem specDoubled_all (n : Int) (ks : List Int) (hb63 : ∀ k ∈ ks, k ≤ 9223372036854775807) (v : Value) (hi : Nat) (w : World) (hh : hi ≤ w.heap.size) (r : RdI w hi v ks) :
    Calls Try.prog 25 #[.agg #[.int .i64 n, v]] w fun e w' => ∃ v', e = .returned (.tuple #[.agg #[.int .i64 (dbN n ks), v'], .bool (dbB n ks)]) ∧ OwnI w' w.heap.size w'.heap.size v' (dbK n ks) ∧ Below w.heap.size w w' := by
  obtain ⟨a, cap, rfl⟩ := r.form
  have R : Hid (RdI w hi (.slice a ks.length cap) ks) := r
  have K63 : Hid (∀ k ∈ ks, k ≤ 9223372036854775807) := hb63
  clear r hb63
  by_cases hok : splitB n ks = true
  · by_cases h64 : n = 64
    · have e1 : dbN n ks = n := by unfold dbN; rw [if_pos hok, if_pos h64]
      have e2 : dbB n ks = false := by unfold dbB; rw [h64]; simp
      have e3 : dbK n ks = ks := if_pos hok
      rw [e1, e2, e3]
      have h64b : (n == 64) = true := by simpa using h64
      clear h64 e1 e2 e3
      have HK : Hid (splitB n ks = true) := hok
      have OK := splitB_iff.1 hok
      have hk1 := OK.pos
      have hk2 := OK.len
      have hn := OK.bd
      have OKH : Hid (SOk n ks) := OK
      clear hok OK
      go_enter Try.func25, Try.ntmps25
      have mk1 : Hid True := trivial
      have mk2 : Hid True := trivial
      have mk3 : Hid True := trivial
      have mk4 : Hid True := trivial
      have mk5 : Hid True := trivial
      have mk6 : Hid True := trivial
      have mk7 : Hid True := trivial
      go_wp2_with (first | (clear mk1; refine wpList_box_v rfl 27 _ rfl [.int .i64 n, .slice a ks.length cap] rfl ?_; intro b2 w1 hb2 hwb2 hB1 hVb2; have hz1 : w.heap.size ≤ w1.heap.size := hB1.size; have hB := hB1; have hzw := hB.size; have c2 : SV w1 b2 27 (.int .i64 n) (.slice a ks.length cap) := ⟨hVb2⟩; clear hVb2; obtain ⟨c20, c21⟩ := c2.cells) | (clear mk2; refine wpList_alloc_v rfl 27 rfl _ zeroSp ?_; intro b4 w2 hb4 hwb4 hB2 hVb4; have hz2 : w1.heap.size ≤ w2.heap.size := hB2.size; replace c2 := c2.below hB2 (by omega); replace hB := hB.trans (hB2.mono (by omega)); replace hzw := hB.size; clear c20 c21; obtain ⟨c20, c21⟩ := c2.cells; have c4 : SV w2 b4 27 (.int .i64 0) (.slice none 0 0) := ⟨hVb4⟩; clear hVb4; obtain ⟨c40, c41⟩ := c4.cells) | (clear mk3; go_at_call 13; refine (specSplitOk_any n ks _ hi _ (by omega) (R.out.below hB hh)).mono ?_; rintro er w3 ⟨rfl, hB3⟩; have hz3 : w2.heap.size ≤ w3.heap.size := hB3.size; replace c2 := c2.below hB3 (by omega); replace c4 := c4.below hB3 (by omega); replace hB := hB.trans (hB3.mono (by omega)); replace hzw := hB.size; clear c20 c21; obtain ⟨c20, c21⟩ := c2.cells; clear c40 c41; obtain ⟨c40, c41⟩ := c4.cells; rw [HK.out]) | (clear mk4; go_at_call 53; refine (l7Copy_any n ks _ hi _ (by omega) (R.out.below hB hh) hk1 (by omega)).mono ?_; rintro er w4 ⟨v4, rfl, o4, hB4⟩; have hz4 : w3.heap.size ≤ w4.heap.size := hB4.size; replace c2 := c2.below hB4 (by omega); replace c4 := c4.below hB4 (by omega); replace hB := hB.trans (hB4.mono (by omega)); replace hzw := hB.size; clear c20 c21; obtain ⟨c20, c21⟩ := c2.cells; clear c40 c41; obtain ⟨c40, c41⟩ := c4.cells; obtain ⟨ac, nc, kc, rfl⟩ := own_slice o4; have oc := o4) | (clear mk5; refine wpList_alloc_v rfl 27 rfl _ zeroSp ?_; intro b6 w5 hb6 hwb6 hB5 hVb6; have hz5 : w4.heap.size ≤ w5.heap.size := hB5.size; replace oc := oc.below hB5 (by omega); replace c2 := c2.below hB5 (by omega); replace c4 := c4.below hB5 (by omega); replace hB := hB.trans (hB5.mono (by omega)); replace hzw := hB.size; clear c20 c21; obtain ⟨c20, c21⟩ := c2.cells; clear c40 c41; obtain ⟨c40, c41⟩ := c4.cells; have c6 : SV w5 b6 27 (.int .i64 0) (.slice none 0 0) := ⟨hVb6⟩; clear hVb6; obtain ⟨c60, c61⟩ := c6.cells) | (clear mk6; refine wpList_store_v rfl 27 _ _ rfl b6 [.int .i64 n, .slice ac nc kc] rfl rfl sizeSp c6.blk rfl (by simp [Value.oneCell']) ?_; intro w6 hO6 hVb6; have hz6 : w5.heap.size ≤ w6.heap.size := (Nat.le_of_eq hO6.1.symm); replace oc := oc.keep (w' := w6) (fun k g1 g2 => hO6.2.1 k (by omega)); replace c2 := c2.keep (w' := w6) (fun k g1 g2 => hO6.2.1 k (by omega)); replace c4 := c4.keep (w' := w6) (fun k g1 g2 => hO6.2.1 k (by omega)); replace hB := hB.trans (hO6.2.2 _ (by omega)); replace hzw := hB.size; clear c20 c21; obtain ⟨c20, c21⟩ := c2.cells; clear c40 c41; obtain ⟨c40, c41⟩ := c4.cells; replace c6 : SV w6 b6 27 (.int .i64 n) (.slice ac nc kc) := ⟨hVb6⟩; clear hVb6; clear c60 c61; obtain ⟨c60, c61⟩ := c6.cells) | (clear mk7; refine wpList_store_v rfl 27 _ _ rfl b4 [.int .i64 n, .slice ac nc kc] rfl rfl sizeSp c4.blk rfl (by simp [Value.oneCell']) ?_; intro w7 hO7 hVb4; have hz7 : w6.heap.size ≤ w7.heap.size := (Nat.le_of_eq hO7.1.symm); replace oc := oc.keep (w' := w7) (fun k g1 g2 => hO7.2.1 k (by omega)); replace c2 := c2.keep (w' := w7) (fun k g1 g2 => hO7.2.1 k (by omega)); replace c6 := c6.keep (w' := w7) (fun k g1 g2 => hO7.2.1 k (by omega)); replace hB := hB.trans (hO7.2.2 _ (by omega)); replace hzw := hB.size; clear c20 c21; obtain ⟨c20, c21⟩ := c2.cells; clear c60 c61; obtain ⟨c60, c61⟩ := c6.cells; replace c4 : SV w7 b4 27 (.int .i64 n) (.slice ac nc kc) := ⟨hVb4⟩; clear hVb4; clear c40 c41; obtain ⟨c40, c41⟩ := c4.cells) | (fail))
      exact row_cell_tmp' rfl rfl rfl c4.blk Try.underlying27 sizeSp rfl ⟨_, rfl, oc.wide (by omega) (by omega), hB⟩
    · have e1 : dbN n ks = 2 * n := by unfold dbN; rw [if_pos hok, if_neg h64]
      have e2 : dbB n ks = true := by unfold dbB; rw [hok]; simpa using h64
      have e3 : dbK n ks = ks := if_pos hok
      rw [e1, e2, e3]
      have h64b : (n == 64) = false := by simpa using h64
      have HK : Hid (splitB n ks = true) := hok
      have OK := splitB_iff.1 hok
      have hk1 := OK.pos
      have hk2 := OK.len
      have hn := OK.bd
      have OKH : Hid (SOk n ks) := OK
      clear hok OK
      have hw : wrap64 (2 * n) = 2 * n := IntWalk.wrap64_in _ ⟨by omega, by omega⟩
      have hw2 : n * 2 = 2 * n := by omega
      go_enter Try.func25, Try.ntmps25
      have mk1 : Hid True := trivial
      have mk2 : Hid True := trivial
      have mk3 : Hid True := trivial
      have mk4 : Hid True := trivial
      have mk5 : Hid True := trivial
      have mk6 : Hid True := trivial
      have mk7 : Hid True := trivial
      have mk8 : Hid True := trivial
      go_wp2_with (first | (clear mk1; refine wpList_box_v rfl 27 _ rfl [.int .i64 n, .slice a ks.length cap] rfl ?_; intro b2 w1 hb2 hwb2 hB1 hVb2; have hz1 : w.heap.size ≤ w1.heap.size := hB1.size; have hB := hB1; have hzw := hB.size; have c2 : SV w1 b2 27 (.int .i64 n) (.slice a ks.length cap) := ⟨hVb2⟩; clear hVb2; obtain ⟨c20, c21⟩ := c2.cells) | (clear mk2; refine wpList_alloc_v rfl 27 rfl _ zeroSp ?_; intro b4 w2 hb4 hwb4 hB2 hVb4; have hz2 : w1.heap.size ≤ w2.heap.size := hB2.size; replace c2 := c2.below hB2 (by omega); replace hB := hB.trans (hB2.mono (by omega)); replace hzw := hB.size; clear c20 c21; obtain ⟨c20, c21⟩ := c2.cells; have c4 : SV w2 b4 27 (.int .i64 0) (.slice none 0 0) := ⟨hVb4⟩; clear hVb4; obtain ⟨c40, c41⟩ := c4.cells) | (clear mk3; go_at_call 13; refine (specSplitOk_any n ks _ hi _ (by omega) (R.out.below hB hh)).mono ?_; rintro er w3 ⟨rfl, hB3⟩; have hz3 : w2.heap.size ≤ w3.heap.size := hB3.size; replace c2 := c2.below hB3 (by omega); replace c4 := c4.below hB3 (by omega); replace hB := hB.trans (hB3.mono (by omega)); replace hzw := hB.size; clear c20 c21; obtain ⟨c20, c21⟩ := c2.cells; clear c40 c41; obtain ⟨c40, c41⟩ := c4.cells; rw [HK.out]) | (clear mk4; go_at_call 53; refine (l7Copy_any n ks _ hi _ (by omega) (R.out.below hB hh) hk1 (by omega)).mono ?_; rintro er w4 ⟨v4, rfl, o4, hB4⟩; have hz4 : w3.heap.size ≤ w4.heap.size := hB4.size; replace c2 := c2.below hB4 (by omega); replace c4 := c4.below hB4 (by omega); replace hB := hB.trans (hB4.mono (by omega)); replace hzw := hB.size; clear c20 c21; obtain ⟨c20, c21⟩ := c2.cells; clear c40 c41; obtain ⟨c40, c41⟩ := c4.cells; obtain ⟨ac, nc, kc, rfl⟩ := own_slice o4; have oc := o4) | (clear mk5; refine wpList_alloc_v rfl 27 rfl _ zeroSp ?_; intro b6 w5 hb6 hwb6 hB5 hVb6; have hz5 : w4.heap.size ≤ w5.heap.size := hB5.size; replace oc := oc.below hB5 (by omega); replace c2 := c2.below hB5 (by omega); replace c4 := c4.below hB5 (by omega); replace hB := hB.trans (hB5.mono (by omega)); replace hzw := hB.size; clear c20 c21; obtain ⟨c20, c21⟩ := c2.cells; clear c40 c41; obtain ⟨c40, c41⟩ := c4.cells; have c6 : SV w5 b6 27 (.int .i64 0) (.slice none 0 0) := ⟨hVb6⟩; clear hVb6; obtain ⟨c60, c61⟩ := c6.cells) | (clear mk6; refine wpList_store_v rfl 27 _ _ rfl b6 [.int .i64 n, .slice ac nc kc] rfl rfl sizeSp c6.blk rfl (by simp [Value.oneCell']) ?_; intro w6 hO6 hVb6; have hz6 : w5.heap.size ≤ w6.heap.size := (Nat.le_of_eq hO6.1.symm); replace oc := oc.keep (w' := w6) (fun k g1 g2 => hO6.2.1 k (by omega)); replace c2 := c2.keep (w' := w6) (fun k g1 g2 => hO6.2.1 k (by omega)); replace c4 := c4.keep (w' := w6) (fun k g1 g2 => hO6.2.1 k (by omega)); replace hB := hB.trans (hO6.2.2 _ (by omega)); replace hzw := hB.size; clear c20 c21; obtain ⟨c20, c21⟩ := c2.cells; clear c40 c41; obtain ⟨c40, c41⟩ := c4.cells; replace c6 : SV w6 b6 27 (.int .i64 n) (.slice ac nc kc) := ⟨hVb6⟩; clear hVb6; clear c60 c61; obtain ⟨c60, c61⟩ := c6.cells) | (clear mk7; refine wpList_store_n rfl _ _ rfl b6 0 (2 * n) rfl (by first | rfl | (simp [go_sem]; omega)) c6.blk (by simp) ?_; intro w7 hO7 hVb6; have hz7 : w6.heap.size ≤ w7.heap.size := (Nat.le_of_eq hO7.1.symm); replace oc := oc.keep (w' := w7) (fun k g1 g2 => hO7.2.1 k (by omega)); replace c2 := c2.keep (w' := w7) (fun k g1 g2 => hO7.2.1 k (by omega)); replace c4 := c4.keep (w' := w7) (fun k g1 g2 => hO7.2.1 k (by omega)); replace hB := hB.trans (hO7.2.2 _ (by omega)); replace hzw := hB.size; clear c20 c21; obtain ⟨c20, c21⟩ := c2.cells; clear c40 c41; obtain ⟨c40, c41⟩ := c4.cells; replace c6 : SV w7 b6 27 (.int .i64 (2 * n)) (.slice ac nc kc) := ⟨hVb6⟩; clear c60 c61; obtain ⟨c60, c61⟩ := c6.cells) | (clear mk8; refine wpList_store_v rfl 27 _ _ rfl b4 [.int .i64 (2 * n), .slice ac nc kc] rfl rfl sizeSp c4.blk rfl (by simp [Value.oneCell']) ?_; intro w8 hO8 hVb4; have hz8 : w7.heap.size ≤ w8.heap.size := (Nat.le_of_eq hO8.1.symm); replace oc := oc.keep (w' := w8) (fun k g1 g2 => hO8.2.1 k (by omega)); replace c2 := c2.keep (w' := w8) (fun k g1 g2 => hO8.2.1 k (by omega)); replace c6 := c6.keep (w' := w8) (fun k g1 g2 => hO8.2.1 k (by omega)); replace hB := hB.trans (hO8.2.2 _ (by omega)); replace hzw := hB.size; clear c20 c21; obtain ⟨c20, c21⟩ := c2.cells; clear c60 c61; obtain ⟨c60, c61⟩ := c6.cells; replace c4 : SV w8 b4 27 (.int .i64 (2 * n)) (.slice ac nc kc) := ⟨hVb4⟩; clear hVb4; clear c40 c41; obtain ⟨c40, c41⟩ := c4.cells) | (fail))
      exact row_cell_tmp' rfl rfl rfl c4.blk Try.underlying27 sizeSp rfl ⟨_, rfl, oc.wide (by omega) (by omega), hB⟩
  · have e1 : dbN n ks = 0 := if_neg hok
    have e2 : dbB n ks = false := by unfold dbB; rw [show splitB n ks = false by simpa using hok]; rfl
    have e3 : dbK n ks = [] := if_neg hok
    rw [e1, e2, e3]
    have HK : Hid (splitB n ks = false) := by unfold Hid; simpa using hok
    clear hok
    go_enter Try.func25, Try.ntmps25
    have mk1 : Hid True := trivial
    have mk2 : Hid True := trivial
    have mk3 : Hid True := trivial
    have mk4 : Hid True := trivial
    go_wp2_with (first | (clear mk1; refine wpList_box_v rfl 27 _ rfl [.int .i64 n, .slice a ks.length cap] rfl ?_; intro b2 w1 hb2 hwb2 hB1 hVb2; have hz1 : w.heap.size ≤ w1.heap.size := hB1.size; have hB := hB1; have hzw := hB.size; have c2 : SV w1 b2 27 (.int .i64 n) (.slice a ks.length cap) := ⟨hVb2⟩; clear hVb2; obtain ⟨c20, c21⟩ := c2.cells) | (clear mk2; refine wpList_alloc_v rfl 27 rfl _ zeroSp ?_; intro b4 w2 hb4 hwb4 hB2 hVb4; have hz2 : w1.heap.size ≤ w2.heap.size := hB2.size; replace c2 := c2.below hB2 (by omega); replace hB := hB.trans (hB2.mono (by omega)); replace hzw := hB.size; clear c20 c21; obtain ⟨c20, c21⟩ := c2.cells; have c4 : SV w2 b4 27 (.int .i64 0) (.slice none 0 0) := ⟨hVb4⟩; clear hVb4; obtain ⟨c40, c41⟩ := c4.cells) | (clear mk3; go_at_call 13; refine (specSplitOk_any n ks _ hi _ (by omega) (R.out.below hB hh)).mono ?_; rintro er w3 ⟨rfl, hB3⟩; have hz3 : w2.heap.size ≤ w3.heap.size := hB3.size; replace c2 := c2.below hB3 (by omega); replace c4 := c4.below hB3 (by omega); replace hB := hB.trans (hB3.mono (by omega)); replace hzw := hB.size; clear c20 c21; obtain ⟨c20, c21⟩ := c2.cells; clear c40 c41; obtain ⟨c40, c41⟩ := c4.cells; rw [HK.out]) | (clear mk4; refine wpList_store_v rfl 27 _ _ rfl b4 [.int .i64 0, .slice none 0 0] rfl rfl sizeSp c4.blk rfl (by simp [Value.oneCell']) ?_; intro w4 hO4 hVb4; have hz4 : w3.heap.size ≤ w4.heap.size := (Nat.le_of_eq hO4.1.symm); replace c2 := c2.keep (w' := w4) (fun k g1 g2 => hO4.2.1 k (by omega)); replace hB := hB.trans (hO4.2.2 _ (by omega)); replace hzw := hB.size; clear c20 c21; obtain ⟨c20, c21⟩ := c2.cells; replace c4 : SV w4 b4 27 (.int .i64 0) (.slice none 0 0) := ⟨hVb4⟩; clear hVb4; clear c40 c41; obtain ⟨c40, c41⟩ := c4.cells) | (fail))
    exact row_cell_tmp' rfl rfl rfl c4.blk Try.underlying27 sizeSp rfl ⟨_, rfl, ownI_none _ _ _, hB⟩

set_option maxRecDepth 100000 in
set_option maxHeartbeats 4000000 in
theorem specStored_all (n : Int) (ks : List Int) (hb63 : ∀ k ∈ ks, k ≤ 9223372036854775807) (v : Value) (hi : Nat) (w : World) (hh : hi ≤ w.heap.size) (r : RdI w hi v ks) (h : Int) :
    Calls Try.prog 23 #[.agg #[.int .i64 n, v], .int .i64 h] w fun e w' => ∃ v', e = .returned (.tuple #[.agg #[.int .i64 (opN n ks), v'], .bool (stB n ks h)]) ∧ OwnI w' w.heap.size w'.heap.size v' (stK n ks h) ∧ Below w.heap.size w w' := by
  obtain ⟨a, cap, rfl⟩ := r.form
  have R : Hid (RdI w hi (.slice a ks.length cap) ks) := r
  have K63 : Hid (∀ k ∈ ks, k ≤ 9223372036854775807) := hb63
  clear r hb63
  by_cases hok : splitB n ks = true
  · by_cases hf : 0 ≤ h ∧ h ≤ 32767
    · obtain ⟨hf0, hf1⟩ := hf
      cases hA : isAt ks (itk h) with
      | false =>
        have e1 : opN n ks = n := if_pos hok
        have e2 : stB n ks h = true := by unfold stB; rw [hok, decide_eq_true hf0, decide_eq_true hf1, hA]; rfl
        have e3 : stK n ks h = ins (opn (h % n).toNat ks (h % n)) (itk h) := by unfold stK; rw [if_pos hok, if_pos ⟨⟨hf0, hf1⟩, by rw [hA]; exact Bool.false_ne_true⟩]
        rw [e1, e2, e3]
        clear e1 e2 e3
        have HK : Hid (splitB n ks = true) := hok
        have OK := splitB_iff.1 hok
        have hk1 := OK.pos
        have hk2 := OK.len
        have hn := OK.bd
        have OKH : Hid (SOk n ks) := OK
        clear hok OK
        have eik : keyB h 1 = itk h := by rw [keyB_yes h 1 hf0 hf1]; rfl
        obtain ⟨P, hP⟩ := hid_ex (pos (itk h) ks)
        have hm := mod_bd h hn.1
        have hD : hdoor n h = h % n := if_pos ⟨hf0, hf1⟩
        have hne : ((h % n) == -1) = false := by rw [beq_eq_false_iff_ne]; omega
        have hop := opn_ok OKH.out (h % n).toNat hm.2
        have hop1 := hop.pos
        have hop3 := hop.len
        have hop2 : Hid ((opn (h % n).toNat ks (h % n)).Pairwise (· < ·)) := hop.rise
        clear hop
        go_enter Try.func23, Try.ntmps23
        have mk1 : Hid True := trivial
        have mk2 : Hid True := trivial
        have mk3 : Hid True := trivial
        have mk4 : Hid True := trivial
        have mk5 : Hid True := trivial
        have mk6 : Hid True := trivial
        have mk7 : Hid True := trivial
        go_wp2_with (first | (clear mk1; refine wpList_box_v rfl 27 _ rfl [.int .i64 n, .slice a ks.length cap] rfl ?_; intro b2 w1 hb2 hwb2 hB1 hVb2; have hz1 : w.heap.size ≤ w1.heap.size := hB1.size; have hB := hB1; have hzw := hB.size; have c2 : SV w1 b2 27 (.int .i64 n) (.slice a ks.length cap) := ⟨hVb2⟩; clear hVb2; obtain ⟨c20, c21⟩ := c2.cells) | (clear mk2; refine wpList_alloc_v rfl 27 rfl _ zeroSp ?_; intro b4 w2 hb4 hwb4 hB2 hVb4; have hz2 : w1.heap.size ≤ w2.heap.size := hB2.size; replace c2 := c2.below hB2 (by omega); replace hB := hB.trans (hB2.mono (by omega)); replace hzw := hB.size; clear c20 c21; obtain ⟨c20, c21⟩ := c2.cells; have c4 : SV w2 b4 27 (.int .i64 0) (.slice none 0 0) := ⟨hVb4⟩; clear hVb4; obtain ⟨c40, c41⟩ := c4.cells) | (clear mk3; go_at_call 13; refine (specSplitOk_any n ks _ hi _ (by omega) (R.out.below hB hh)).mono ?_; rintro er w3 ⟨rfl, hB3⟩; have hz3 : w2.heap.size ≤ w3.heap.size := hB3.size; replace c2 := c2.below hB3 (by omega); replace c4 := c4.below hB3 (by omega); replace hB := hB.trans (hB3.mono (by omega)); replace hzw := hB.size; clear c20 c21; obtain ⟨c20, c21⟩ := c2.cells; clear c40 c41; obtain ⟨c40, c41⟩ := c4.cells; rw [HK.out]) | (clear mk4; go_at_call 53; refine (l7Copy_any n ks _ hi _ (by omega) (R.out.below hB hh) hk1 (by omega)).mono ?_; rintro er w4 ⟨v4, rfl, o4, hB4⟩; have hz4 : w3.heap.size ≤ w4.heap.size := hB4.size; replace c2 := c2.below hB4 (by omega); replace c4 := c4.below hB4 (by omega); replace hB := hB.trans (hB4.mono (by omega)); replace hzw := hB.size; clear c20 c21; obtain ⟨c20, c21⟩ := c2.cells; clear c40 c41; obtain ⟨c40, c41⟩ := c4.cells; obtain ⟨ac, nc, kc, rfl⟩ := own_slice o4; have oc := o4) | (clear mk5; refine wpList_alloc_v rfl 27 rfl _ zeroSp ?_; intro b6 w5 hb6 hwb6 hB5 hVb6; have hz5 : w4.heap.size ≤ w5.heap.size := hB5.size; replace oc := oc.below hB5 (by omega); replace c2 := c2.below hB5 (by omega); replace c4 := c4.below hB5 (by omega); replace hB := hB.trans (hB5.mono (by omega)); replace hzw := hB.size; clear c20 c21; obtain ⟨c20, c21⟩ := c2.cells; clear c40 c41; obtain ⟨c40, c41⟩ := c4.cells; have c6 : SV w5 b6 27 (.int .i64 0) (.slice none 0 0) := ⟨hVb6⟩; clear hVb6; obtain ⟨c60, c61⟩ := c6.cells) | (clear mk6; refine wpList_store_v rfl 27 _ _ rfl b6 [.int .i64 n, .slice ac nc kc] rfl rfl sizeSp c6.blk rfl (by simp [Value.oneCell']) ?_; intro w6 hO6 hVb6; have hz6 : w5.heap.size ≤ w6.heap.size := (Nat.le_of_eq hO6.1.symm); replace oc := oc.keep (w' := w6) (fun k g1 g2 => hO6.2.1 k (by omega)); replace c2 := c2.keep (w' := w6) (fun k g1 g2 => hO6.2.1 k (by omega)); replace c4 := c4.keep (w' := w6) (fun k g1 g2 => hO6.2.1 k (by omega)); replace hB := hB.trans (hO6.2.2 _ (by omega)); replace hzw := hB.size; clear c20 c21; obtain ⟨c20, c21⟩ := c2.cells; clear c40 c41; obtain ⟨c40, c41⟩ := c4.cells; replace c6 : SV w6 b6 27 (.int .i64 n) (.slice ac nc kc) := ⟨hVb6⟩; clear hVb6; clear c60 c61; obtain ⟨c60, c61⟩ := c6.cells) | (clear mk7; go_at_call 58; refine (fifteen_yes _ hf0 hf1 _).mono ?_; rintro er wq ⟨rfl, hq⟩; subst wq) | (fail))
        have hBd : Below w6.heap.size w6 w6.drew := (Below.refl _ _).drew
        have hzd : w6.drew.heap.size ≤ w6.heap.size := Nat.le_refl _
        have hzd2 : w6.heap.size ≤ w6.drew.heap.size := Nat.le_refl _
        have S1 : (w6.drew.cell? ⟨b2, 0, none⟩ = some (.int .i64 n) ∧ w6.drew.cell? ⟨b2, 1, none⟩ = some (.slice a ks.length cap)) := ⟨c20, c21⟩
        replace oc := oc.below hBd (by omega)
        replace c2 := c2.below hBd (by omega)
        replace c4 := c4.below hBd (by omega)
        replace c6 := c6.below hBd (by omega)
        clear c20 c21
        obtain ⟨c20, c21⟩ := c2.cells
        clear c40 c41
        obtain ⟨c40, c41⟩ := c4.cells
        clear c60 c61
        obtain ⟨c60, c61⟩ := c6.cells
        replace hB := hB.trans (hBd.mono (by omega))
        replace hzw := hB.size
        have mk8 : Hid True := trivial
        have mk9 : Hid True := trivial
        go_region_held3 (fun w' => (w'.cell? ⟨b2, 0, none⟩ = some (.int .i64 n) ∧ w'.cell? ⟨b2, 1, none⟩ = some (.slice a ks.length cap))) (first | assumption | exact S1) (first | (clear mk8; go_at_call 60; refine (specItemKey_any _ _).mono ?_; rintro er wq ⟨rfl, hq⟩; subst wq; rw [eik]) | (clear mk9; go_at_call 59; refine (l7Find_any n ks (itk h) _ hi w6.drew (by omega) (R.out.below hB hh)).mono ?_; rintro er w7 ⟨rfl, hB7⟩; have hz7 : w6.drew.heap.size ≤ w7.heap.size := hB7.size; replace oc := oc.below hB7 (by omega); replace c2 := c2.below hB7 (by omega); replace c4 := c4.below hB7 (by omega); replace c6 := c6.below hB7 (by omega); replace hB := hB.trans (hB7.mono (by omega)); replace hzw := hB.size; clear c20 c21; obtain ⟨c20, c21⟩ := c2.cells; clear c40 c41; obtain ⟨c40, c41⟩ := c4.cells; clear c60 c61; obtain ⟨c60, c61⟩ := c6.cells; rw [hP.out, hA]; have S2 : (w7.cell? ⟨b2, 0, none⟩ = some (.int .i64 n) ∧ w7.cell? ⟨b2, 1, none⟩ = some (.slice a ks.length cap)) := ⟨c20, c21⟩) | (fail))
        clear S1 hBd
        have mk10 : Hid True := trivial
        have mk11 : Hid True := trivial
        have mk12 : Hid True := trivial
        have mk13 : Hid True := trivial
        go_wp2_with (first | (clear mk10; go_at_call 54; refine (l7Open_any n ks (h % n) _ b6 w.heap.size _ _ (by omega) (Nat.le_refl _) hk1 (by omega) (by omega) (oc.wide (by omega) (by omega)) c6.blk).mono ?_; rintro er w8 ⟨⟨u8, rfl⟩, v8, od, hV8, hT8⟩; have hz8 : w7.heap.size ≤ w8.heap.size := hT8.size; replace c2 := c2.keep (w' := w8) (fun k g1 g2 => hT8.keep k (by omega) (by omega)); replace c4 := c4.keep (w' := w8) (fun k g1 g2 => hT8.keep k (by omega) (by omega)); replace hB := hB.trans (hT8.low _ (by omega) (by omega)); replace hzw := hB.size; clear c20 c21; obtain ⟨c20, c21⟩ := c2.cells; clear c40 c41; obtain ⟨c40, c41⟩ := c4.cells; obtain ⟨ad, nd, kd, rfl⟩ := own_slice od; replace c6 : SV w8 b6 27 (.int .i64 n) (.slice ad nd kd) := ⟨hV8⟩; clear c60 c61; obtain ⟨c60, c61⟩ := c6.cells) | (clear mk11; go_at_call 60; refine (specItemKey_any _ _).mono ?_; rintro er wq ⟨rfl, hq⟩; subst wq; rw [eik]) | (clear mk12; go_at_call 61; refine (l7Put_any n (opn (h % n).toNat ks (h % n)) (itk h) _ b6 w.heap.size _ _ (by omega) (Nat.le_refl _) hop1 (by omega) od c6.blk).mono ?_; rintro er w9 ⟨v9, rfl, oe, hV9, hT9⟩; have hz9 : w8.heap.size ≤ w9.heap.size := hT9.size; replace c2 := c2.keep (w' := w9) (fun k g1 g2 => hT9.keep k (by omega) (by omega)); replace c4 := c4.keep (w' := w9) (fun k g1 g2 => hT9.keep k (by omega) (by omega)); replace hB := hB.trans (hT9.low _ (by omega) (by omega)); replace hzw := hB.size; clear c20 c21; obtain ⟨c20, c21⟩ := c2.cells; clear c40 c41; obtain ⟨c40, c41⟩ := c4.cells; obtain ⟨ae, ne, ke, rfl⟩ := own_slice oe; replace c6 : SV w9 b6 27 (.int .i64 n) (.slice ae ne ke) := ⟨hV9⟩; clear c60 c61; obtain ⟨c60, c61⟩ := c6.cells) | (clear mk13; refine wpList_store_v rfl 27 _ _ rfl b4 [.int .i64 n, .slice ae ne ke] rfl rfl sizeSp c4.blk rfl (by simp [Value.oneCell']) ?_; intro w10 hO10 hVb4; have ne10 := ownI_ne oe c4.blk; replace oe := oe.tn ne10 (Nat.le_refl _) (Tn.only hO10); have hz10 : w9.heap.size ≤ w10.heap.size := (Nat.le_of_eq hO10.1.symm); replace c2 := c2.keep (w' := w10) (fun k g1 g2 => hO10.2.1 k (by omega)); replace c6 := c6.keep (w' := w10) (fun k g1 g2 => hO10.2.1 k (by omega)); replace hB := hB.trans (hO10.2.2 _ (by omega)); replace hzw := hB.size; clear c20 c21; obtain ⟨c20, c21⟩ := c2.cells; clear c60 c61; obtain ⟨c60, c61⟩ := c6.cells; replace c4 : SV w10 b4 27 (.int .i64 n) (.slice ae ne ke) := ⟨hVb4⟩; clear c40 c41; obtain ⟨c40, c41⟩ := c4.cells) | (fail))
        exact row_cell_tmp' rfl rfl rfl c4.blk Try.underlying27 sizeSp rfl ⟨_, rfl, oe.wide (by omega) (by omega), hB⟩
      | true =>
        have e1 : opN n ks = n := if_pos hok
        have e2 : stB n ks h = false := by unfold stB; rw [hA]; simp
        have e3 : stK n ks h = ks := by unfold stK; rw [if_pos hok, if_neg (by rw [hA]; simp)]
        rw [e1, e2, e3]
        clear e1 e2 e3
        have HK : Hid (splitB n ks = true) := hok
        have OK := splitB_iff.1 hok
        have hk1 := OK.pos
        have hk2 := OK.len
        have hn := OK.bd
        have OKH : Hid (SOk n ks) := OK
        clear hok OK
        have eik : keyB h 1 = itk h := by rw [keyB_yes h 1 hf0 hf1]; rfl
        obtain ⟨P, hP⟩ := hid_ex (pos (itk h) ks)
        have hm := mod_bd h hn.1
        have hD : hdoor n h = h % n := if_pos ⟨hf0, hf1⟩
        have hne : ((h % n) == -1) = false := by rw [beq_eq_false_iff_ne]; omega
        go_enter Try.func23, Try.ntmps23
        have mk1 : Hid True := trivial
        have mk2 : Hid True := trivial
        have mk3 : Hid True := trivial
        have mk4 : Hid True := trivial
        have mk5 : Hid True := trivial
        have mk6 : Hid True := trivial
        have mk7 : Hid True := trivial
        go_wp2_with (first | (clear mk1; refine wpList_box_v rfl 27 _ rfl [.int .i64 n, .slice a ks.length cap] rfl ?_; intro b2 w1 hb2 hwb2 hB1 hVb2; have hz1 : w.heap.size ≤ w1.heap.size := hB1.size; have hB := hB1; have hzw := hB.size; have c2 : SV w1 b2 27 (.int .i64 n) (.slice a ks.length cap) := ⟨hVb2⟩; clear hVb2; obtain ⟨c20, c21⟩ := c2.cells) | (clear mk2; refine wpList_alloc_v rfl 27 rfl _ zeroSp ?_; intro b4 w2 hb4 hwb4 hB2 hVb4; have hz2 : w1.heap.size ≤ w2.heap.size := hB2.size; replace c2 := c2.below hB2 (by omega); replace hB := hB.trans (hB2.mono (by omega)); replace hzw := hB.size; clear c20 c21; obtain ⟨c20, c21⟩ := c2.cells; have c4 : SV w2 b4 27 (.int .i64 0) (.slice none 0 0) := ⟨hVb4⟩; clear hVb4; obtain ⟨c40, c41⟩ := c4.cells) | (clear mk3; go_at_call 13; refine (specSplitOk_any n ks _ hi _ (by omega) (R.out.below hB hh)).mono ?_; rintro er w3 ⟨rfl, hB3⟩; have hz3 : w2.heap.size ≤ w3.heap.size := hB3.size; replace c2 := c2.below hB3 (by omega); replace c4 := c4.below hB3 (by omega); replace hB := hB.trans (hB3.mono (by omega)); replace hzw := hB.size; clear c20 c21; obtain ⟨c20, c21⟩ := c2.cells; clear c40 c41; obtain ⟨c40, c41⟩ := c4.cells; rw [HK.out]) | (clear mk4; go_at_call 53; refine (l7Copy_any n ks _ hi _ (by omega) (R.out.below hB hh) hk1 (by omega)).mono ?_; rintro er w4 ⟨v4, rfl, o4, hB4⟩; have hz4 : w3.heap.size ≤ w4.heap.size := hB4.size; replace c2 := c2.below hB4 (by omega); replace c4 := c4.below hB4 (by omega); replace hB := hB.trans (hB4.mono (by omega)); replace hzw := hB.size; clear c20 c21; obtain ⟨c20, c21⟩ := c2.cells; clear c40 c41; obtain ⟨c40, c41⟩ := c4.cells; obtain ⟨ac, nc, kc, rfl⟩ := own_slice o4; have oc := o4) | (clear mk5; refine wpList_alloc_v rfl 27 rfl _ zeroSp ?_; intro b6 w5 hb6 hwb6 hB5 hVb6; have hz5 : w4.heap.size ≤ w5.heap.size := hB5.size; replace oc := oc.below hB5 (by omega); replace c2 := c2.below hB5 (by omega); replace c4 := c4.below hB5 (by omega); replace hB := hB.trans (hB5.mono (by omega)); replace hzw := hB.size; clear c20 c21; obtain ⟨c20, c21⟩ := c2.cells; clear c40 c41; obtain ⟨c40, c41⟩ := c4.cells; have c6 : SV w5 b6 27 (.int .i64 0) (.slice none 0 0) := ⟨hVb6⟩; clear hVb6; obtain ⟨c60, c61⟩ := c6.cells) | (clear mk6; refine wpList_store_v rfl 27 _ _ rfl b6 [.int .i64 n, .slice ac nc kc] rfl rfl sizeSp c6.blk rfl (by simp [Value.oneCell']) ?_; intro w6 hO6 hVb6; have hz6 : w5.heap.size ≤ w6.heap.size := (Nat.le_of_eq hO6.1.symm); replace oc := oc.keep (w' := w6) (fun k g1 g2 => hO6.2.1 k (by omega)); replace c2 := c2.keep (w' := w6) (fun k g1 g2 => hO6.2.1 k (by omega)); replace c4 := c4.keep (w' := w6) (fun k g1 g2 => hO6.2.1 k (by omega)); replace hB := hB.trans (hO6.2.2 _ (by omega)); replace hzw := hB.size; clear c20 c21; obtain ⟨c20, c21⟩ := c2.cells; clear c40 c41; obtain ⟨c40, c41⟩ := c4.cells; replace c6 : SV w6 b6 27 (.int .i64 n) (.slice ac nc kc) := ⟨hVb6⟩; clear hVb6; clear c60 c61; obtain ⟨c60, c61⟩ := c6.cells) | (clear mk7; go_at_call 58; refine (fifteen_yes _ hf0 hf1 _).mono ?_; rintro er wq ⟨rfl, hq⟩; subst wq) | (fail))
        have hBd : Below w6.heap.size w6 w6.drew := (Below.refl _ _).drew
        have hzd : w6.drew.heap.size ≤ w6.heap.size := Nat.le_refl _
        have hzd2 : w6.heap.size ≤ w6.drew.heap.size := Nat.le_refl _
        have S1 : (w6.drew.cell? ⟨b2, 0, none⟩ = some (.int .i64 n) ∧ w6.drew.cell? ⟨b2, 1, none⟩ = some (.slice a ks.length cap)) := ⟨c20, c21⟩
        replace oc := oc.below hBd (by omega)
        replace c2 := c2.below hBd (by omega)
        replace c4 := c4.below hBd (by omega)
        replace c6 := c6.below hBd (by omega)
        clear c20 c21
        obtain ⟨c20, c21⟩ := c2.cells
        clear c40 c41
        obtain ⟨c40, c41⟩ := c4.cells
        clear c60 c61
        obtain ⟨c60, c61⟩ := c6.cells
        replace hB := hB.trans (hBd.mono (by omega))
        replace hzw := hB.size
        have mk8 : Hid True := trivial
        have mk9 : Hid True := trivial
        go_region_held3 (fun w' => (w'.cell? ⟨b2, 0, none⟩ = some (.int .i64 n) ∧ w'.cell? ⟨b2, 1, none⟩ = some (.slice a ks.length cap))) (first | assumption | exact S1) (first | (clear mk8; go_at_call 60; refine (specItemKey_any _ _).mono ?_; rintro er wq ⟨rfl, hq⟩; subst wq; rw [eik]) | (clear mk9; go_at_call 59; refine (l7Find_any n ks (itk h) _ hi w6.drew (by omega) (R.out.below hB hh)).mono ?_; rintro er w7 ⟨rfl, hB7⟩; have hz7 : w6.drew.heap.size ≤ w7.heap.size := hB7.size; replace oc := oc.below hB7 (by omega); replace c2 := c2.below hB7 (by omega); replace c4 := c4.below hB7 (by omega); replace c6 := c6.below hB7 (by omega); replace hB := hB.trans (hB7.mono (by omega)); replace hzw := hB.size; clear c20 c21; obtain ⟨c20, c21⟩ := c2.cells; clear c40 c41; obtain ⟨c40, c41⟩ := c4.cells; clear c60 c61; obtain ⟨c60, c61⟩ := c6.cells; rw [hP.out, hA]; have S2 : (w7.cell? ⟨b2, 0, none⟩ = some (.int .i64 n) ∧ w7.cell? ⟨b2, 1, none⟩ = some (.slice a ks.length cap)) := ⟨c20, c21⟩) | (fail))
        clear S1 hBd
        have mk10 : Hid True := trivial
        go_wp2_with (first | (clear mk10; refine wpList_store_v rfl 27 _ _ rfl b4 [.int .i64 n, .slice ac nc kc] rfl rfl sizeSp c4.blk rfl (by simp [Value.oneCell']) ?_; intro w8 hO8 hVb4; have hz8 : w7.heap.size ≤ w8.heap.size := (Nat.le_of_eq hO8.1.symm); replace oc := oc.keep (w' := w8) (fun k g1 g2 => hO8.2.1 k (by omega)); replace c2 := c2.keep (w' := w8) (fun k g1 g2 => hO8.2.1 k (by omega)); replace c6 := c6.keep (w' := w8) (fun k g1 g2 => hO8.2.1 k (by omega)); replace hB := hB.trans (hO8.2.2 _ (by omega)); replace hzw := hB.size; clear c20 c21; obtain ⟨c20, c21⟩ := c2.cells; clear c60 c61; obtain ⟨c60, c61⟩ := c6.cells; replace c4 : SV w8 b4 27 (.int .i64 n) (.slice ac nc kc) := ⟨hVb4⟩; clear hVb4; clear c40 c41; obtain ⟨c40, c41⟩ := c4.cells) | (fail))
        exact row_cell_tmp' rfl rfl rfl c4.blk Try.underlying27 sizeSp rfl ⟨_, rfl, oc.wide (by omega) (by omega), hB⟩
    · have e1 : opN n ks = n := if_pos hok
      have e2 : stB n ks h = false := by unfold stB; by_cases h0 : 0 ≤ h; (· rw [decide_eq_false (show ¬ h ≤ 32767 from fun q => hf ⟨h0, q⟩)]; simp); (· rw [decide_eq_false h0]; simp)
      have e3 : stK n ks h = ks := by unfold stK; rw [if_pos hok, if_neg (fun q => hf q.1)]
      have hD : hdoor n h = -1 := if_neg hf
      rw [e1, e2, e3]
      clear e1 e2 e3
      have HK : Hid (splitB n ks = true) := hok
      have OK := splitB_iff.1 hok
      have hk1 := OK.pos
      have hk2 := OK.len
      have hn := OK.bd
      have OKH : Hid (SOk n ks) := OK
      clear hok OK
      have hfif : h < 0 ∨ 32767 < h := by omega
      go_enter Try.func23, Try.ntmps23
      have mk1 : Hid True := trivial
      have mk2 : Hid True := trivial
      have mk3 : Hid True := trivial
      have mk4 : Hid True := trivial
      have mk5 : Hid True := trivial
      have mk6 : Hid True := trivial
      have mk7 : Hid True := trivial
      have mk8 : Hid True := trivial
      go_wp2_with (first | (clear mk1; refine wpList_box_v rfl 27 _ rfl [.int .i64 n, .slice a ks.length cap] rfl ?_; intro b2 w1 hb2 hwb2 hB1 hVb2; have hz1 : w.heap.size ≤ w1.heap.size := hB1.size; have hB := hB1; have hzw := hB.size; have c2 : SV w1 b2 27 (.int .i64 n) (.slice a ks.length cap) := ⟨hVb2⟩; clear hVb2; obtain ⟨c20, c21⟩ := c2.cells) | (clear mk2; refine wpList_alloc_v rfl 27 rfl _ zeroSp ?_; intro b4 w2 hb4 hwb4 hB2 hVb4; have hz2 : w1.heap.size ≤ w2.heap.size := hB2.size; replace c2 := c2.below hB2 (by omega); replace hB := hB.trans (hB2.mono (by omega)); replace hzw := hB.size; clear c20 c21; obtain ⟨c20, c21⟩ := c2.cells; have c4 : SV w2 b4 27 (.int .i64 0) (.slice none 0 0) := ⟨hVb4⟩; clear hVb4; obtain ⟨c40, c41⟩ := c4.cells) | (clear mk3; go_at_call 13; refine (specSplitOk_any n ks _ hi _ (by omega) (R.out.below hB hh)).mono ?_; rintro er w3 ⟨rfl, hB3⟩; have hz3 : w2.heap.size ≤ w3.heap.size := hB3.size; replace c2 := c2.below hB3 (by omega); replace c4 := c4.below hB3 (by omega); replace hB := hB.trans (hB3.mono (by omega)); replace hzw := hB.size; clear c20 c21; obtain ⟨c20, c21⟩ := c2.cells; clear c40 c41; obtain ⟨c40, c41⟩ := c4.cells; rw [HK.out]) | (clear mk4; go_at_call 53; refine (l7Copy_any n ks _ hi _ (by omega) (R.out.below hB hh) hk1 (by omega)).mono ?_; rintro er w4 ⟨v4, rfl, o4, hB4⟩; have hz4 : w3.heap.size ≤ w4.heap.size := hB4.size; replace c2 := c2.below hB4 (by omega); replace c4 := c4.below hB4 (by omega); replace hB := hB.trans (hB4.mono (by omega)); replace hzw := hB.size; clear c20 c21; obtain ⟨c20, c21⟩ := c2.cells; clear c40 c41; obtain ⟨c40, c41⟩ := c4.cells; obtain ⟨ac, nc, kc, rfl⟩ := own_slice o4; have oc := o4) | (clear mk5; refine wpList_alloc_v rfl 27 rfl _ zeroSp ?_; intro b6 w5 hb6 hwb6 hB5 hVb6; have hz5 : w4.heap.size ≤ w5.heap.size := hB5.size; replace oc := oc.below hB5 (by omega); replace c2 := c2.below hB5 (by omega); replace c4 := c4.below hB5 (by omega); replace hB := hB.trans (hB5.mono (by omega)); replace hzw := hB.size; clear c20 c21; obtain ⟨c20, c21⟩ := c2.cells; clear c40 c41; obtain ⟨c40, c41⟩ := c4.cells; have c6 : SV w5 b6 27 (.int .i64 0) (.slice none 0 0) := ⟨hVb6⟩; clear hVb6; obtain ⟨c60, c61⟩ := c6.cells) | (clear mk6; refine wpList_store_v rfl 27 _ _ rfl b6 [.int .i64 n, .slice ac nc kc] rfl rfl sizeSp c6.blk rfl (by simp [Value.oneCell']) ?_; intro w6 hO6 hVb6; have hz6 : w5.heap.size ≤ w6.heap.size := (Nat.le_of_eq hO6.1.symm); replace oc := oc.keep (w' := w6) (fun k g1 g2 => hO6.2.1 k (by omega)); replace c2 := c2.keep (w' := w6) (fun k g1 g2 => hO6.2.1 k (by omega)); replace c4 := c4.keep (w' := w6) (fun k g1 g2 => hO6.2.1 k (by omega)); replace hB := hB.trans (hO6.2.2 _ (by omega)); replace hzw := hB.size; clear c20 c21; obtain ⟨c20, c21⟩ := c2.cells; clear c40 c41; obtain ⟨c40, c41⟩ := c4.cells; replace c6 : SV w6 b6 27 (.int .i64 n) (.slice ac nc kc) := ⟨hVb6⟩; clear hVb6; clear c60 c61; obtain ⟨c60, c61⟩ := c6.cells) | (clear mk7; go_at_call 58; refine (fifteen_no _ hfif _).mono ?_; rintro er wq ⟨rfl, hq⟩; subst wq) | (clear mk8; refine wpList_store_v rfl 27 _ _ rfl b4 [.int .i64 n, .slice ac nc kc] rfl rfl sizeSp c4.blk rfl (by simp [Value.oneCell']) ?_; intro w7 hO7 hVb4; have hz7 : w6.heap.size ≤ w7.heap.size := (Nat.le_of_eq hO7.1.symm); replace oc := oc.keep (w' := w7) (fun k g1 g2 => hO7.2.1 k (by omega)); replace c2 := c2.keep (w' := w7) (fun k g1 g2 => hO7.2.1 k (by omega)); replace c6 := c6.keep (w' := w7) (fun k g1 g2 => hO7.2.1 k (by omega)); replace hB := hB.trans (hO7.2.2 _ (by omega)); replace hzw := hB.size; clear c20 c21; obtain ⟨c20, c21⟩ := c2.cells; clear c60 c61; obtain ⟨c60, c61⟩ := c6.cells; replace c4 : SV w7 b4 27 (.int .i64 n) (.slice ac nc kc) := ⟨hVb4⟩; clear hVb4; clear c40 c41; obtain ⟨c40, c41⟩ := c4.cells) | (fail))
      exact row_cell_tmp' rfl rfl rfl c4.blk Try.underlying27 sizeSp rfl ⟨_, rfl, oc.wide (by omega) (by omega), hB⟩
  · have e1 : opN n ks = 0 := if_neg hok
    have e2 : stB n ks h = false := by unfold stB; rw [show splitB n ks = false by simpa using hok]; rfl
    have e3 : stK n ks h = [] := if_neg hok
    rw [e1, e2, e3]
    have HK : Hid (splitB n ks = false) := by unfold Hid; simpa using hok
    clear hok
    go_enter Try.func23, Try.ntmps23
    have mk1 : Hid True := trivial
    have mk2 : Hid True := trivial
    have mk3 : Hid True := trivial
    have mk4 : Hid True := trivial
    go_wp2_with (first | (clear mk1; refine wpList_box_v rfl 27 _ rfl [.int .i64 n, .slice a ks.length cap] rfl ?_; intro b2 w1 hb2 hwb2 hB1 hVb2; have hz1 : w.heap.size ≤ w1.heap.size := hB1.size; have hB := hB1; have hzw := hB.size; have c2 : SV w1 b2 27 (.int .i64 n) (.slice a ks.length cap) := ⟨hVb2⟩; clear hVb2; obtain ⟨c20, c21⟩ := c2.cells) | (clear mk2; refine wpList_alloc_v rfl 27 rfl _ zeroSp ?_; intro b4 w2 hb4 hwb4 hB2 hVb4; have hz2 : w1.heap.size ≤ w2.heap.size := hB2.size; replace c2 := c2.below hB2 (by omega); replace hB := hB.trans (hB2.mono (by omega)); replace hzw := hB.size; clear c20 c21; obtain ⟨c20, c21⟩ := c2.cells; have c4 : SV w2 b4 27 (.int .i64 0) (.slice none 0 0) := ⟨hVb4⟩; clear hVb4; obtain ⟨c40, c41⟩ := c4.cells) | (clear mk3; go_at_call 13; refine (specSplitOk_any n ks _ hi _ (by omega) (R.out.below hB hh)).mono ?_; rintro er w3 ⟨rfl, hB3⟩; have hz3 : w2.heap.size ≤ w3.heap.size := hB3.size; replace c2 := c2.below hB3 (by omega); replace c4 := c4.below hB3 (by omega); replace hB := hB.trans (hB3.mono (by omega)); replace hzw := hB.size; clear c20 c21; obtain ⟨c20, c21⟩ := c2.cells; clear c40 c41; obtain ⟨c40, c41⟩ := c4.cells; rw [HK.out]) | (clear mk4; refine wpList_store_v rfl 27 _ _ rfl b4 [.int .i64 0, .slice none 0 0] rfl rfl sizeSp c4.blk rfl (by simp [Value.oneCell']) ?_; intro w4 hO4 hVb4; have hz4 : w3.heap.size ≤ w4.heap.size := (Nat.le_of_eq hO4.1.symm); replace c2 := c2.keep (w' := w4) (fun k g1 g2 => hO4.2.1 k (by omega)); replace hB := hB.trans (hO4.2.2 _ (by omega)); replace hzw := hB.size; clear c20 c21; obtain ⟨c20, c21⟩ := c2.cells; replace c4 : SV w4 b4 27 (.int .i64 0) (.slice none 0 0) := ⟨hVb4⟩; clear hVb4; clear c40 c41; obtain ⟨c40, c41⟩ := c4.cells) | (fail))
    exact row_cell_tmp' rfl rfl rfl c4.blk Try.underlying27 sizeSp rfl ⟨_, rfl, ownI_none _ _ _, hB⟩
end Go.Proofs.Ytbialeffdpmcjaa.sx
