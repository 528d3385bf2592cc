/- Texts laid together: Lw5 Ch5. -/
import Derived.Test.YtapchjkiiifhdaaMg10
import Derived.Lib.SmallJoins
import Derived.Deep.Slices
import Derived.Deep.DeepCutAuto
/- The laws' marks on a sketch from whatever number on. -/
namespace Go.Proofs.Ytapchjkiiifhdaa.sk
open Go.ChangeShapes Go.WideShapes Go.ChangeAt Go.RowKit
set_option linter.unusedVariables false

set_option maxRecDepth 100000 in
theorem markRowsK (R : List (List Int)) (hm : Modest R) (k : Int) (hk0 : 0 ≤ k) (hk1 : k ≤ 8000000) (v : Value) (w : World) (lo hi : Nat) (hown : Own w lo hi v R) :
    Calls Try.prog 133 #[v, .int .i64 k] w fun e w' => e = .returned (.int .i64 (k + sumLen R)) ∧ Own w' lo hi v (markR k R) ∧ Within lo hi w w' := by
  obtain ⟨hRl, a, cap, bo, B, C, rfl, hA0, hoa⟩ := hown
  have hm1 := hm.1
  have hM : Hid (Modest R) := hm
  have hA : Hid (R ≠ [] → a = some ⟨bo, 0, none⟩) := hA0
  have hO : Hid (OwnAt w lo hi bo B C R) := hoa
  clear hA0 hoa hm
  obtain ⟨T, hT⟩ : ∃ T, Hid (T = markR k R) := ⟨_, rfl⟩
  have hTR : Hid (T.length = R.length) := by unfold Hid; rw [hT.out, markR_len]
  go_enter Try.func133, Try.ntmps133
  go_wp2
  go_loopw [1, 5] (fun q v' wr => ∃ i s : Nat, i ≤ R.length ∧ v' = .int .i64 i ∧ q = .int .i64 (k + (s : Int)) ∧ Hid (s = sumLen (R.take i)) ∧ s ≤ 1099511627776 ∧ Hid (OwnAt wr lo hi bo B C (mix T R i)) ∧ Within lo hi w wr) (fun _ v' _ => R.length - (intOf v').toNat)
  case atStart => exact ⟨0, 0, by omega, rfl, by simp, by simp [Hid, sumLen], by omega, by rw [mix_zero]; exact hO, Within.refl _ _ _⟩
  case round =>
    obtain ⟨i, s, hi', rfl, rfl, hs, hsb, hown, hW⟩ := hrel
    by_cases hlt : i < R.length
    · have hne : R ≠ [] := by intro e; rw [e] at hlt; simp at hlt
      obtain rfl := hA.out hne
      have hiT : i < T.length := by rw [hTR.out]; exact hlt
      obtain ⟨xs, hxs⟩ : ∃ xs, R[i] = xs := ⟨_, rfl⟩
      have hxm : xs.length ≤ 1048576 := by rw [← hxs]; exact hM.out.2 _ (List.getElem_mem hlt)
      have him : i < (mix T R i).length := by rw [mix_len T R i hTR.out]; exact hlt
      have hmi : Hid ((mix T R i)[i] = xs) := by unfold Hid; rw [mix_get T R i hTR.out hlt, hxs]
      obtain ⟨r1, r2, r3, r4, r5⟩ := hown.out.row i him xs hmi.out
      have eT : Hid (T[i] = marks (k + (s : Int)) xs.length) := by
        unfold Hid
        have := hT.out; subst this
        rw [markR_get k R i hlt, hxs, hs.out]
      have hs1 : Hid (s + xs.length = sumLen (R.take (i + 1))) := by unfold Hid; rw [sumLen_snoc R i hlt, hxs, hs.out]
      have hsb1 : s + xs.length ≤ 1099511627776 := by rw [hs1.out]; exact sumLen_take_le R hM.out _
      have R5 : Hid (Row wr (B i) xs) := r5
      clear r5 hxs hne
      have hlt' : (i : Int) < R.length := by omega
      go_wp2_with (first | (go_at_call 181; refine (markRow xs (B i) (C i) (k + (s : Int)) (by omega) (by omega) hxm _ R5.out).mono ?_; rintro e w5 ⟨rfl, hr5, hW5⟩; have HR5 : Hid (Row w5 (B i) (marks (k + (s : Int)) xs.length)) := hr5; clear hr5))
      go_roundw
      case rel =>
        have o1 := hown.out.setRow i him (marks (k + (s : Int)) xs.length) (by rw [marks_len, hmi.out]) hW5 HR5.out
        rw [← eT.out, mix_set T R i hTR.out hiT] at o1
        exact ⟨i + 1, s + xs.length, by omega, by go_num, by go_num, hs1, hsb1, o1, hW.trans (hW5.wide r2 (by omega))⟩
      case measure => simp [intOf]; omega
    · have e : i = R.length := by omega
      have ho : OwnAt wr lo hi bo B C T := by rw [← mix_all T R i (by rw [hTR.out]; omega) (by omega)]; exact hown.out
      have HO : Hid _ := ho
      clear ho hown
      go_wp2
      go_ret
      refine ⟨?_, ⟨by rw [markR_len]; exact hRl, a, cap, bo, B, C, by rw [markR_len], fun hn => hA.out (by intro e; apply hn; rw [e]; rfl), by rw [← hT.out]; exact HO.out⟩, hW⟩
      have es : s = sumLen R := by rw [hs.out, e, List.take_length]
      rw [← es]; rfl

set_option maxRecDepth 100000 in
theorem heldRowsK (R : List (List Int)) (hm : Modest R) (k : Int) (hk0 : 0 ≤ k) (hk1 : k ≤ 8000000) (v : Value) (w : World) (lo hi : Nat) (hv : Rd w lo hi v (markR k R)) :
    Calls Try.prog 135 #[v, .int .i64 k] w fun e w' => e = .returned (.int .i64 (k + sumLen R)) ∧ w' = w := by
  obtain ⟨hRl, a, cap, rfl, hrows⟩ := hv
  have hM : Hid (Modest R) := hm
  have hm1 := hm.1
  obtain ⟨b, off, hA0, hC0⟩ := rd_at (n := 0) (c := 0) hrows
  have hA : Hid (markR k R ≠ [] → a = some ⟨b, off, none⟩ ∧ b < hi) := hA0
  have hC : Hid (∀ i (h : i < (markR k R).length), ∃ a' c', w.cell? ⟨b, off + i, none⟩ = some (.slice a' ((markR k R)[i]).length c') ∧ RowR w lo hi a' (markR k R)[i]) := hC0
  clear hA0 hC0 hrows hm hRl
  rw [markR_len]
  go_enter Try.func135, Try.ntmps135
  go_wp2
  go_loop [1, 5] (fun q v' => ∃ i s : Nat, i ≤ R.length ∧ v' = .int .i64 i ∧ q = .int .i64 (k + (s : Int)) ∧ Hid (s = sumLen (R.take i)) ∧ s ≤ 1099511627776) (fun _ v' => R.length - (intOf v').toNat)
  case atStart => exact ⟨0, 0, by omega, rfl, by simp, by simp [Hid, sumLen], by omega⟩
  case round =>
    obtain ⟨i, s, hi', rfl, rfl, hs, hsb⟩ := hrel
    by_cases hlt : i < R.length
    · have him : i < (markR k R).length := by rw [markR_len]; exact hlt
      obtain ⟨ra, rc, hcell, hrow⟩ := hC.out i him
      obtain ⟨rfl, -⟩ := hA.out (by intro e; rw [e] at him; simp at him)
      obtain ⟨n, hn⟩ : ∃ n, (R[i]).length = n := ⟨_, rfl⟩
      have hnm : n ≤ 1048576 := by rw [← hn]; exact hM.out.2 _ (List.getElem_mem hlt)
      rw [markR_get k R i hlt, hn, ← hs.out] at hrow hcell
      rw [marks_len] at hcell
      have hs1 : Hid (s + n = sumLen (R.take (i + 1))) := by unfold Hid; rw [sumLen_snoc R i hlt, hn, hs.out]
      have hsb1 : s + n ≤ 1099511627776 := by rw [hs1.out]; exact sumLen_take_le R hM.out _
      have hRow : Hid (RowR w lo hi ra (marks (k + (s : Int)) n)) := hrow
      clear hrow hn
      have hlt' : (i : Int) < R.length := by omega
      go_wp2_with (first | (go_at_call 182; refine (heldRow n ra rc (k + (s : Int)) (by omega) (by omega) hnm _ lo hi hRow.out).mono ?_; rintro e wq ⟨rfl, hq⟩; subst wq))
      go_round
      case rel => exact ⟨i + 1, s + n, by omega, by go_num, by go_num, hs1, hsb1⟩
      case measure => simp [intOf]; omega
    · have e : i = R.length := by omega
      go_wp2
      go_ret
      have es : s = sumLen R := by rw [hs.out, e, List.take_length]
      exact ⟨by rw [← es]; rfl, rfl⟩

set_option maxRecDepth 100000 in
theorem markSketchK_any (R : List (List Int)) (hm : Modest R) (k : Int) (hk0 : 0 ≤ k) (hk1 : k ≤ 8000000) (v : Value) (adds : Int) (w : World) (lo hi : Nat) (hown : Own w lo hi v R) (hh : hi ≤ w.heap.size) :
    Calls Try.prog 77 #[skv v adds, .int .i64 k] w fun e w' => e = .returned (.int .i64 (k + sumLen R)) ∧ Own w' lo hi v (markR k R) ∧ Within lo hi w w' := by
  have hO : Hid (Own w lo hi v R) := hown
  clear hown
  go_enter Try.func77, Try.ntmps77
  go_wp2_with (first | (refine wpList_box_v rfl 34 _ rfl [v, .int .i64 adds] rfl ?_; intro b1 w1 hb1 hw1 hB1 hV1; have hc0 := hV1.cell 0 (by simp); simp only [List.getElem_cons_zero] at hc0) | (go_at_call 133; refine (markRowsK R hm k hk0 hk1 v _ lo hi (hO.out.below hB1 hh)).mono ?_; rintro e w2 ⟨rfl, ho2, hW2⟩))
  go_ret
  exact ⟨rfl, ho2, (Within.of_below hB1 (Nat.le_refl _)).trans hW2⟩

set_option maxRecDepth 100000 in
theorem heldSketchK_any (R : List (List Int)) (hm : Modest R) (k : Int) (hk0 : 0 ≤ k) (hk1 : k ≤ 8000000) (v : Value) (adds : Int) (w : World) (lo hi : Nat) (hh : hi ≤ w.heap.size) (hv : Rd w lo hi v (markR k R)) :
    Calls Try.prog 79 #[skv v adds, .int .i64 k] w fun e w' => e = .returned (.int .i64 (k + sumLen R)) ∧ Below w.heap.size w w' := by
  have hV : Hid (Rd w lo hi v (markR k R)) := hv
  clear hv
  go_enter Try.func79, Try.ntmps79
  go_wp2_with (first | (refine wpList_box_v rfl 34 _ rfl [v, .int .i64 adds] rfl ?_; intro b1 w1 hb1 hw1 hB1 hV1; have hc0 := hV1.cell 0 (by simp); simp only [List.getElem_cons_zero] at hc0) | (go_at_call 135; refine (heldRowsK R hm k hk0 hk1 v _ lo hi (hV.out.below hB1 hh)).mono ?_; rintro e wq ⟨rfl, hq⟩; subst wq))
  go_ret
  exact ⟨rfl, hB1⟩

end Go.Proofs.Ytapchjkiiifhdaa.sk
/- The laws' marks on whatever choice; whose names: NamesOf of both. -/
namespace Go.Proofs.Ytapchjkiiifhdaa.rg
open Go.ChangeShapes Go.WideShapes Go.ChangeAt Go.RowKit
open Go.Deep Go.Joins
open Go.Proofs.Ytapchjkiiifhdaa.ce Go.Proofs.Ytapchjkiiifhdaa.ro
set_option linter.unusedVariables false
set_option linter.unusedSimpArgs false

section
variable {ops : Array Oper} {rest : List Oper} {o : Oper} {a : Act} {w : World} {Q : Exit → Act → World → Prop}
theorem run_build0s {P : Program} (w : World) (t e : TypeId) (i : TypeInfo) (ht : P.underlying t = some (.slice e)) (hi : P.info? e = some i) : (Instr.buildSlice t 0 #[]).run P w = .ok (.slice (some ⟨w.heap.size, 0, none⟩) 0 0) (w.alloc (.cells #[] e)) := by
  simp [Instr.buildSlice, run_underlying ht, sizeOf, typeInfo, hi, Instr.fill, Result.andThen]
  rw [show Array.map (fun x => (default : Value)) (Array.range 0) = #[] from Array.eq_empty_of_size_eq_zero (by simp)]
  rfl
theorem wpList_build0s (hgd : o.guard = none) (t e : TypeId) (i : TypeInfo) (ho : o.op = .buildSlice t 0 #[]) (ht : Try.prog.underlying t = some (.slice e)) (hi : Try.prog.info? e = some i)
    (h : ∀ (b : Nat) (w' : World), Below w.heap.size w w' → wpList Try.prog ops Q rest (a.put o.dst (.slice (some ⟨b, 0, none⟩) 0 0)) w') : wpList Try.prog ops Q (o :: rest) a w := by
  refine wpList_val hgd (v := .slice (some ⟨w.heap.size, 0, none⟩) 0 0) (w' := w.alloc (.cells #[] e)) ?_ (h _ _ ((Below.refl _ _).alloc (Nat.le_refl _) _))
  simp [execOp, ho, run_build0s w t e i ht hi, Result.andThen]
end
theorem infoStrE : ∃ i, Try.prog.info? 9 = some i := by obtain ⟨i, z, h, -⟩ := infoS.ex; exact ⟨i, h⟩
/-- a choice full of marks -/
def mkA (c : Ch) : Ch := ⟨c.K, mkR c.R, smarks (1 + c.R.N.length + c.R.U.length) c.Q.length, sk.markR ((1 + c.R.N.length + c.R.U.length + c.Q.length : Nat) : Int) c.S, c.D⟩
set_option maxRecDepth 100000 in
set_option maxHeartbeats 4000000 in
theorem markChoice_any (c : Ch) (b : Mod c) (vN vU vQ vS : Value) (lo hi : Nat) (w : World) (o : OwnC w lo hi vN vU vQ vS c) :
    Calls Try.prog 21 #[.agg #[.int .i64 c.K, vN, vU, .int .i64 c.R.A, vQ, vS, .int .i64 c.D], .int .i64 1] w fun e w' => ∃ mm : Int, e = .returned (.int .i64 mm) ∧ 0 ≤ mm ∧ OwnC w' lo hi vN vU vQ vS (mkA c) ∧ Within lo hi w w' := by
  obtain ⟨K, ⟨N, U, A⟩, Q, S, D⟩ := c
  obtain ⟨hN, hU, hQ, hm⟩ := b
  dsimp only at hN hU hQ hm
  obtain ⟨⟨aN1, nN1, kN1, rfl⟩, ⟨aU1, nU1, kU1, rfl⟩, ⟨aQ1, nQ1, kQ1, rfl⟩, ⟨aS1, nS1, kS1, rfl⟩⟩ := o.forms
  obtain ⟨⟨l1, h1, l2, h2, l3, h3, oR, oQ, oS, ⟨e1, e2, e3, e4, e5, e6⟩, e7, e8, e9⟩, sz⟩ := o
  dsimp only at oR oQ oS
  obtain ⟨m1, hm1⟩ : ∃ m : Nat, Hid (m = 1 + N.length + U.length) := ⟨_, rfl⟩
  obtain ⟨m2, hm2⟩ : ∃ m : Nat, Hid (m = m1 + Q.length) := ⟨_, rfl⟩
  have b1' : 1 ≤ m1 ∧ m1 ≤ 3000000 := by have := hm1.out; omega
  have b2' : 1 ≤ m2 ∧ m2 ≤ 5000000 := by have := hm2.out; omega
  have q1 : Hid True := trivial
  go_enter Try.func21, Try.ntmps21
  go_wp2_with (first | (clear q1; refine wpList_box_v rfl 36 _ rfl [.int .i64 K, .slice aN1 nN1 kN1, .slice aU1 nU1 kU1, .int .i64 A, .slice aQ1 nQ1 kQ1, .slice aS1 nS1 kS1, .int .i64 D] rfl ?_; intro b1 w1 hb1 hw1 hB1 V1; replace oR := oR.grow hB1; replace oQ := oQ.grow hB1; replace oS := ownS_grow oS hB1; obtain ⟨c0, c1, c2, c3, c4, c5, c6⟩ := cells7c V1; have hW : Within lo hi w w1 := Within.of_below hB1 (Nat.le_refl _); have hz1 := hB1.size) | (go_at_call 76; refine (markRing_any ⟨N, U, A⟩ m1 hm1.out hN hU _ _ l1 h1 _ oR).mono ?_; rintro e w2 ⟨rfl, oR2, hM2⟩; have hz2 := hM2.size; replace V1 := V1.of (hM2.block _ V1.lt (by omega)); clear c0 c1 c2 c3 c4 c5 c6; obtain ⟨c0, c1, c2, c3, c4, c5, c6⟩ := cells7c V1; clear oR; replace oQ := oQ.within hM2 (by omega); replace oS := sk_within oS hM2 (by omega); replace hW := hW.trans (hM2.wide (by omega) (by omega))) | (go_at_call 30; refine (markTexts_any Q _ l2 h2 m1 (by omega) (by omega) m2 hm2.out _ oQ).mono ?_; rintro e w3 ⟨rfl, oQ3, hM3, -⟩; have hz3 := hM3.size; replace V1 := V1.of (hM3.block _ V1.lt (by omega)); clear c0 c1 c2 c3 c4 c5 c6; obtain ⟨c0, c1, c2, c3, c4, c5, c6⟩ := cells7c V1; clear oQ; have oR3 := oR2.within hM3 (by omega); clear oR2; replace oS := sk_within oS hM3 (by omega); replace hW := hW.trans (hM3.wide (by omega) (by omega))) | (go_at_call 77; refine (sk.markSketchK_any S hm (m2 : Int) (by omega) (by omega) _ D _ l3 h3 oS (sk_hi oS)).mono ?_; rintro e w4 ⟨rfl, oS4, hM4s⟩; have hM4 := within_sk hM4s; have oR4 := oR3.within hM4 (by omega); have oQ4 := oQ3.within hM4 (by omega); replace hW := hW.trans (hM4.wide (by omega) (by omega))) | (fail))
  go_ret
  have E1 := hm1.out
  have E2 := hm2.out
  subst E2
  subst E1
  exact ⟨_, rfl, by omega, ⟨⟨l1, h1, l2, h2, l3, h3, oR4, oQ4, oS4, ⟨e1, e2, e3, e4, e5, e6⟩, e7, e8, e9⟩, Nat.le_trans sz hW.size⟩, hW⟩
/-- whose names are told -/
def nmC (c : Ch) : List ByteArray := if chB c = true then namesH ⟨c.K, c.R, c.Q⟩ else []
theorem chB_len {c : Ch} (h : chB c = true) : c.Q.length ≤ 1000000 ∧ c.R.N.length ≤ 1000000 := by
  unfold chB at h
  simp only [Bool.and_eq_true] at h
  obtain ⟨⟨⟨-, hr⟩, hq⟩, -⟩ := h
  have h1 := (namesB_iff.1 hq).2.2
  have h2 := (ringB_iff.1 hr).le
  omega
theorem nmC_cp (c : Ch) : nmC c = if (cpC c).K = 1 then (cpC c).R.N else (cpC c).Q := by
  unfold nmC cpC
  cases h : chB c with
  | false => rfl
  | true =>
    rw [if_pos rfl, if_pos rfl]
    unfold chB wayB at h
    simp only [Bool.and_eq_true, Bool.or_eq_true, decide_eq_true_eq] at h
    unfold namesH
    dsimp only
    rcases h.2 with ⟨k, -⟩ | ⟨k, -⟩
    · rw [if_neg (by omega), if_pos k]
    · rw [if_pos k, if_neg (by omega)]
set_option maxRecDepth 100000 in
set_option maxHeartbeats 4000000 in
theorem implNamesOf_any (c : Ch) (vN vU vQ vS : Value) (w : World) (h : RdC w vN vU vQ vS c) :
    Calls Try.prog 28 #[.agg #[.int .i64 c.K, vN, vU, .int .i64 c.R.A, vQ, vS, .int .i64 c.D]] w fun e w' => ∃ v, e = .returned v ∧ Own encS w' w.heap.size w'.heap.size v (nmC c) ∧ Below w.heap.size w w' := by
  rw [nmC_cp]
  obtain ⟨K, ⟨N, U, A⟩, Q, S, D⟩ := c
  obtain ⟨aN, cN, rfl⟩ := h.r.n.form
  obtain ⟨aU, cU, rfl⟩ := h.r.u.form
  obtain ⟨aQ, cQ, rfl⟩ := h.q.form
  obtain ⟨aS, cS, rfl⟩ := sk_form h.s

  have R : Hid (RdC w (.slice aN N.length cN) (.slice aU U.length cU) (.slice aQ Q.length cQ) (.slice aS S.length cS) ⟨K, ⟨N, U, A⟩, Q, S, D⟩) := h
  clear h
  obtain ⟨⟨K2, ⟨N2, U2, A2⟩, Q2, S2, D2⟩, hc2⟩ := hid_ex (cpC ⟨K, ⟨N, U, A⟩, Q, S, D⟩)
  obtain ⟨y, hy⟩ := hid_ex (chB ⟨K, ⟨N, U, A⟩, Q, S, D⟩)
  rw [hc2.out]
  dsimp only
  obtain ⟨X, hX⟩ := hid_ex (if K2 = 1 then N2 else Q2)
  rw [hX.out]
  go_enter Try.func28, Try.ntmps28
  go_upto_region 2 with (first | (refine wpList_box_v rfl 36 _ rfl [.int .i64 K, .slice aN N.length cN, .slice aU U.length cU, .int .i64 A, .slice aQ Q.length cQ, .slice aS S.length cS, .int .i64 D] rfl ?_; intro b1 w1 hb1 hw1 hB1 V1; obtain ⟨c10, c11, c12, c13, c14, c15, c16⟩ := cells7c V1; have hz1 := hB1.size) | (go_at_call 71; refine (implChoiceOf_any ⟨K, ⟨N, U, A⟩, Q, S, D⟩ _ _ _ _ _ (R.out.grow hB1)).mono ?_; rintro e w2 hP; unfold PostC at hP; rw [hc2.out, hy.out] at hP; obtain ⟨vN2, vU2, vQ2, vS2, rfl, oC, hB2⟩ := hP; dsimp only; obtain ⟨⟨aN2, nN2, kN2, rfl⟩, ⟨aU2, nU2, kU2, rfl⟩, ⟨aQ2, nQ2, kQ2, rfl⟩, ⟨aS2, nS2, kS2, rfl⟩⟩ := oC.forms; have hB12 := hB1.trans (hB2.mono hz1)) | (refine wpList_alloc_v rfl 36 rfl _ zeroCh ?_; intro b3 w3 hb3 hw3 hB3 V3; have hz12 := hB12.size; have hB13 := hB12.trans (hB3.mono hz12); replace oC := oC.grow hB3; have hz3 := hB3.size) | (refine wpList_store_v rfl 36 _ _ rfl b3 [.int .i64 K2, .slice aN2 nN2 kN2, .slice aU2 nU2 kU2, .int .i64 A2, .slice aQ2 nQ2 kQ2, .slice aS2 nS2 kS2, .int .i64 D2] rfl rfl sizeCh V3 rfl (by simp [Value.oneCell']) ?_; intro w4 hO4 V4; have hB14 := hB13.trans (hO4.2.2 _ (by omega)); replace oC := oC.off hO4 (by omega); obtain ⟨d0, d1, d2, d3, d4, d5, d6⟩ := cells7c V4; have hz4 := Nat.le_of_eq hO4.1.symm) | (fail))
  obtain ⟨⟨l1, h1, l2, h2, l3, h3, oR, oQ, oS, ⟨e1, e2, e3, e4, e5, e6⟩, e7, e8, e9⟩, sz⟩ := oC
  by_cases k1 : K2 = 1
  · have u1 : (K2 == 1) = true := by rw [k1]; rfl
    have eX : X = N2 := by rw [← hX.out, if_pos k1]
    clear k1 hX
    go_wp2
    go_ret
    exact ⟨_, rfl, by first | exact oR.n.wide (by omega) (by omega) | (rw [eX]; exact oR.n.wide (by omega) (by omega)), hB14⟩
  · have u1 : (K2 == 1) = false := by simpa using k1
    have eX : X = Q2 := by rw [← hX.out, if_neg k1]
    clear k1 hX
    go_wp2
    go_ret
    exact ⟨_, rfl, by first | exact oQ.wide (by omega) (by omega) | (rw [eX]; exact oQ.wide (by omega) (by omega)), hB14⟩
set_option maxRecDepth 100000 in
set_option maxHeartbeats 4000000 in
theorem l16Names_any (c : Ch) (vN vU vQ vS : Value) (w : World) (h : RdC w vN vU vQ vS c) (hl : c.Q.length ≤ 1000000 ∧ c.R.N.length ≤ 1000000) :
    Calls Try.prog 89 #[.agg #[.int .i64 c.K, vN, vU, .int .i64 c.R.A, vQ, vS, .int .i64 c.D]] w fun e w' => ∃ v, e = .returned v ∧ Own encS w' w.heap.size w'.heap.size v (namesH ⟨c.K, c.R, c.Q⟩) ∧ Below w.heap.size w w' := by
  obtain ⟨K, ⟨N, U, A⟩, Q, S, D⟩ := c
  obtain ⟨aN, cN, rfl⟩ := h.r.n.form
  obtain ⟨aU, cU, rfl⟩ := h.r.u.form
  obtain ⟨aQ, cQ, rfl⟩ := h.q.form
  obtain ⟨aS, cS, rfl⟩ := sk_form h.s

  have R : Hid (RdC w (.slice aN N.length cN) (.slice aU U.length cU) (.slice aQ Q.length cQ) (.slice aS S.length cS) ⟨K, ⟨N, U, A⟩, Q, S, D⟩) := h
  clear h
  obtain ⟨hlQ, hlN⟩ := hl
  dsimp only at hlQ hlN
  obtain ⟨iS, hiS⟩ := infoStrE
  unfold namesH
  dsimp only
  obtain ⟨X, hX⟩ := hid_ex (if K = 2 then Q else N)
  rw [hX.out]
  go_enter Try.func89, Try.ntmps89
  go_upto_region 1 with (first | (refine wpList_box_v rfl 36 _ rfl [.int .i64 K, .slice aN N.length cN, .slice aU U.length cU, .int .i64 A, .slice aQ Q.length cQ, .slice aS S.length cS, .int .i64 D] rfl ?_; intro b1 w1 hb1 hw1 hB1 V1; obtain ⟨c10, c11, c12, c13, c14, c15, c16⟩ := cells7c V1; have hz1 := hB1.size) | (fail))
  by_cases k2 : K = 2
  · have u2 : (K == 2) = true := by rw [k2]; rfl
    have eX : X = Q := by rw [← hX.out, if_pos k2]
    clear k2 hX
    go_wp2_with (first | (refine wpList_build0s rfl 22 _ iS rfl Try.underlying22 hiS ?_; intro bE w2 hB2; replace V1 := vblk_grow V1 hB2; clear c10 c11 c12 c13 c14 c15 c16; obtain ⟨c10, c11, c12, c13, c14, c15, c16⟩ := cells7c V1; have hBE := hB1.trans (hB2.mono hz1); have hzE := hBE.size) | (at_builtin; refine wpList_append_g infoS rfl _ _ 22 rfl Try.underlying22 w2.heap.size w2.heap.size _ [] rfl (own_zero _ _ _ _ _) (Nat.le_refl _) _ Q rfl (R.out.grow hBE).q (by simp; omega) ?_; intro v3 w3 o3 hT3; rw [List.nil_append] at o3; obtain ⟨a3, n3, k3, rfl⟩ := o3.slice; have hB3 := hT3.low) | (fail))
    go_ret
    exact ⟨_, rfl, by rw [eX]; exact o3.wide hzE (Nat.le_refl _), hBE.trans (hB3.mono hzE)⟩
  · have u2 : (K == 2) = false := by simpa using k2
    have eX : X = N := by rw [← hX.out, if_neg k2]
    clear k2 hX
    go_wp2_with (first | (refine wpList_build0s rfl 22 _ iS rfl Try.underlying22 hiS ?_; intro bE w2 hB2; replace V1 := vblk_grow V1 hB2; clear c10 c11 c12 c13 c14 c15 c16; obtain ⟨c10, c11, c12, c13, c14, c15, c16⟩ := cells7c V1; have hBE := hB1.trans (hB2.mono hz1); have hzE := hBE.size) | (at_builtin; refine wpList_append_g infoS rfl _ _ 22 rfl Try.underlying22 w2.heap.size w2.heap.size _ [] rfl (own_zero _ _ _ _ _) (Nat.le_refl _) _ N rfl (R.out.grow hBE).r.n (by simp; omega) ?_; intro v3 w3 o3 hT3; rw [List.nil_append] at o3; obtain ⟨a3, n3, k3, rfl⟩ := o3.slice; have hB3 := hT3.low) | (fail))
    go_ret
    exact ⟨_, rfl, by rw [eX]; exact o3.wide hzE (Nat.le_refl _), hBE.trans (hB3.mono hzE)⟩
set_option maxRecDepth 100000 in
set_option maxHeartbeats 4000000 in
theorem specNamesOf_any (c : Ch) (vN vU vQ vS : Value) (w : World) (h : RdC w vN vU vQ vS c) :
    Calls Try.prog 27 #[.agg #[.int .i64 c.K, vN, vU, .int .i64 c.R.A, vQ, vS, .int .i64 c.D]] w fun e w' => ∃ v, e = .returned v ∧ Own encS w' w.heap.size w'.heap.size v (nmC c) ∧ Below w.heap.size w w' := by
  obtain ⟨K, ⟨N, U, A⟩, Q, S, D⟩ := c
  obtain ⟨aN, cN, rfl⟩ := h.r.n.form
  obtain ⟨aU, cU, rfl⟩ := h.r.u.form
  obtain ⟨aQ, cQ, rfl⟩ := h.q.form
  obtain ⟨aS, cS, rfl⟩ := sk_form h.s

  have R : Hid (RdC w (.slice aN N.length cN) (.slice aU U.length cU) (.slice aQ Q.length cQ) (.slice aS S.length cS) ⟨K, ⟨N, U, A⟩, Q, S, D⟩) := h
  clear h
  obtain ⟨iS, hiS⟩ := infoStrE
  unfold nmC
  obtain ⟨y, hy⟩ := hid_ex (chB ⟨K, ⟨N, U, A⟩, Q, S, D⟩)
  rw [hy.out]
  cases y with
  | false =>
    go_enter Try.func27, Try.ntmps27
    go_wp2_with (first | (refine wpList_box_v rfl 36 _ rfl [.int .i64 K, .slice aN N.length cN, .slice aU U.length cU, .int .i64 A, .slice aQ Q.length cQ, .slice aS S.length cS, .int .i64 D] rfl ?_; intro b1 w1 hb1 hw1 hB1 V1; obtain ⟨c10, c11, c12, c13, c14, c15, c16⟩ := cells7c V1; have hz1 := hB1.size) | (go_at_call 15; refine (specChoiceOk_any ⟨K, ⟨N, U, A⟩, Q, S, D⟩ _ _ _ _ _ (R.out.grow hB1) false hy).mono ?_; rintro e w2 ⟨rfl, hB2⟩; have hB12 := hB1.trans (hB2.mono hz1); have hz2 := hB12.size) | (refine wpList_build0s rfl 22 _ iS rfl Try.underlying22 hiS ?_; intro bE w3 hB3) | (fail))
    go_ret
    exact ⟨_, rfl, own_zero _ _ _ _ _, hB12.trans (hB3.mono hz2)⟩
  | true =>
    have hl := chB_len hy.out
    go_enter Try.func27, Try.ntmps27
    go_wp2_with (first | (refine wpList_box_v rfl 36 _ rfl [.int .i64 K, .slice aN N.length cN, .slice aU U.length cU, .int .i64 A, .slice aQ Q.length cQ, .slice aS S.length cS, .int .i64 D] rfl ?_; intro b1 w1 hb1 hw1 hB1 V1; obtain ⟨c10, c11, c12, c13, c14, c15, c16⟩ := cells7c V1; have hz1 := hB1.size) | (go_at_call 15; refine (specChoiceOk_any ⟨K, ⟨N, U, A⟩, Q, S, D⟩ _ _ _ _ _ (R.out.grow hB1) true hy).mono ?_; rintro e w2 ⟨rfl, hB2⟩; replace V1 := vblk_grow V1 hB2; clear c10 c11 c12 c13 c14 c15 c16; obtain ⟨c10, c11, c12, c13, c14, c15, c16⟩ := cells7c V1; have hB12 := hB1.trans (hB2.mono hz1); have hz2 := hB12.size) | (go_at_call 89; refine (l16Names_any ⟨K, ⟨N, U, A⟩, Q, S, D⟩ _ _ _ _ _ (R.out.grow hB12) hl).mono ?_; rintro e w3 ⟨v3, rfl, o3, hB3⟩) | (fail))
    go_ret
    exact ⟨_, rfl, o3.wide hz2 (Nat.le_refl _), hB12.trans (hB3.mono hz2)⟩
theorem nmC_len {c : Ch} {X : List ByteArray} (h : nmC c = X) : X.length ≤ 1000000 := by
  subst h
  unfold nmC
  by_cases hb : chB c = true
  · rw [if_pos hb]
    have := chB_len hb
    unfold namesH
    split <;> (dsimp only; omega)
  · rw [if_neg hb]
    show (0 : Nat) ≤ _
    omega
end Go.Proofs.Ytapchjkiiifhdaa.rg
