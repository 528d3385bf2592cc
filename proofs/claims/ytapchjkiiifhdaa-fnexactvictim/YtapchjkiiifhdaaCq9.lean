/- Contracts: the program: who must go. -/
import Derived.Test.YtapchjkiiifhdaaMg16
import Derived.Test.YtapchjkiiifhdaaMg18
import Derived.Test.YtapchjkiiifhdaaMg19
import Derived.Lib.SmallJoins
import Derived.Deep.Slices
import Derived.Deep.RegionHeld3
import Derived.BigQuiet
import Derived.Deep.DeepCutAuto
namespace Go.Proofs.Ytapchjkiiifhdaa.rg
open Go.ChangeShapes Go.WideShapes Go.ChangeAt Go.RowKit
open Go.Deep Go.Joins
open Go.Proofs.Ytapchjkiiifhdaa.ce Go.Proofs.Ytapchjkiiifhdaa.ro
set_option linter.unusedVariables false
set_option linter.unusedSimpArgs false

theorem within_c (x lo hi : Int) (y : Bool) (h : (decide (lo ≤ x) && decide (x ≤ hi)) = y) (w : World) : Calls Try.prog 93 #[.int .i64 x, .int .i64 lo, .int .i64 hi] w fun e w' => e = .returned (.bool y) ∧ w' = w := by
  by_cases h1 : lo ≤ x
  · by_cases h3 : x ≤ hi
    · rw [decide_eq_true h1, decide_eq_true h3] at h
      subst h
      go_enter Try.func93, Try.ntmps93
      go_wp2
      go_ret
      exact ⟨rfl, rfl⟩
    · rw [decide_eq_true h1, decide_eq_false h3] at h
      subst h
      go_enter Try.func93, Try.ntmps93
      go_wp2
      go_ret
      exact ⟨rfl, rfl⟩
  · rw [decide_eq_false h1] at h
    subst h
    go_enter Try.func93, Try.ntmps93
    go_wp2
    go_ret
    exact ⟨rfl, rfl⟩
theorem nil_of_all {q : List ByteArray} {s : ByteArray} (h : othersS q s = []) : ∀ x ∈ q, x = s := fun x hx => Classical.byContradiction fun hx2 => by
  have : x ∈ othersS q s := by unfold othersS; simp [hx, hx2]
  rw [h] at this; simp at this
/-- none is left just where nobody can go -/
theorem others_go {q : List ByteArray} (h : NOk q) (s : ByteArray) : (othersS q s).length = 0 ↔ noneGo q s = true := by
  constructor
  · intro z
    have hall := nil_of_all (List.length_eq_zero_iff.1 z)
    refine noneGo_iff.2 ?_
    match q, h, hall with
    | [], _, _ => exact .inl rfl
    | [a], _, f => exact .inr (by rw [f a (by simp)])
    | a :: b :: r, h, f =>
      have nd := h.2.1
      rw [f a (by simp), f b (by simp)] at nd
      simp at nd
  · intro z
    rcases noneGo_iff.1 z with rfl | rfl
    · rfl
    · unfold othersS; simp
theorem vcC_same {c : Ch} {s : ByteArray} {seed : Int} (h : noneGo (namesH ⟨c.K, c.R, c.Q⟩) s = true ∨ c.K = 2) : vcC c s seed = c := by
  have e : (vicH ⟨c.K, c.R, c.Q⟩ s seed).1.R = c.R := by
    unfold vicH
    by_cases h1 : noneGo (namesH ⟨c.K, c.R, c.Q⟩) s = true
    · rw [if_pos h1]
    · rw [if_neg h1, if_pos (h.resolve_left h1)]
  unfold vcC
  rw [e]
theorem vcS_none {c : Ch} {s : ByteArray} {seed : Int} (h : noneGo (namesH ⟨c.K, c.R, c.Q⟩) s = true) : vcS c s seed = ⟨#[]⟩ := by unfold vcS vicH; rw [if_pos h]
theorem vcS_queue {c : Ch} (hc : chB c = true) {s : ByteArray} {seed : Int} (h : c.K = 2) : vcS c s seed = saS (othersS c.Q s) seed 5 := by
  obtain ⟨-, -, hq, -⟩ := chB_parts hc
  have e : namesH ⟨c.K, c.R, c.Q⟩ = c.Q := by unfold namesH; rw [if_pos h]
  by_cases h1 : noneGo c.Q s = true
  · have z := (others_go hq s).2 h1
    rw [vcS_none (by rw [e]; exact h1), List.length_eq_zero_iff.1 z]
    exact (saS_no (saB_no2 rfl)).symm
  · unfold vcS vicH
    dsimp only
    rw [e, if_neg h1, if_pos h, cut_is hq]
theorem vcS_clock {c : Ch} {s : ByteArray} {seed : Int} (h : c.K = 1) (h1 : noneGo c.R.N s = false) : vcC c s seed = ⟨c.K, vicR c.R s, c.Q, c.S, c.D⟩ ∧ vcS c s seed = atN (vicR c.R s) := by
  have e : namesH ⟨c.K, c.R, c.Q⟩ = c.R.N := by unfold namesH; rw [if_neg (by dsimp only; omega)]
  unfold vcS vcC vicH
  dsimp only
  rw [e, if_neg (by rw [h1]; decide), if_neg (by omega)]
  exact ⟨rfl, rfl⟩
/-- while the sample is taken -/
structure Vq (b4 b5 lr hr lo hi : Nat) (vs4 vs5 : List Value) (vR : Value) (L : List ByteArray) (vN vU vQ vS : Value) (c : Ch) (w0 w : World) : Prop where
  v5 : VBlk w b5 36 vs5
  v4 : VBlk w b4 36 vs4
  rs : Own encS w lr hr vR L
  o : OwnC w lo hi vN vU vQ vS c
  lw : Below w0.heap.size w0 w
theorem Vq.grow {b4 b5 lr hr lo hi : Nat} {vs4 vs5 : List Value} {vR : Value} {L : List ByteArray} {vN vU vQ vS : Value} {c : Ch} {w0 w w' : World} (h : Vq b4 b5 lr hr lo hi vs4 vs5 vR L vN vU vQ vS c w0 w) (hB : Below w.heap.size w w') : Vq b4 b5 lr hr lo hi vs4 vs5 vR L vN vU vQ vS c w0 w' :=
  ⟨vblk_grow h.v5 hB, vblk_grow h.v4 hB, h.rs.grow hB, h.o.grow hB, h.lw.trans (hB.mono h.lw.size)⟩
theorem Vq.put {b4 b5 lr hr lo hi : Nat} {vs4 vs4' vs5 : List Value} {vR : Value} {L : List ByteArray} {vN vU vQ vS : Value} {c : Ch} {w0 w w' : World} (h : Vq b4 b5 lr hr lo hi vs4 vs5 vR L vN vU vQ vS c w0 w) (hO : Only b4 w w') (V : VBlk w' b4 36 vs4') (h1 : b4 ≠ b5 ∧ w0.heap.size ≤ b4 ∧ (b4 < lo ∨ hi ≤ b4)) : Vq b4 b5 lr hr lo hi vs4' vs5 vR L vN vU vQ vS c w0 w' :=
  ⟨vblk_only h.v5 hO (by have := h1.1; omega), V, h.rs.only hO h.v4 (by decide), h.o.off hO h1.2.2, h.lw.trans (hO.2.2 _ h1.2.1)⟩
set_option maxRecDepth 100000 in
set_option maxHeartbeats 4000000 in
theorem implVictim_any (c : Ch) (s : ByteArray) (seed : Int) (vN vU vQ vS : Value) (w : World) (h : RdC w vN vU vQ vS c) :
    Calls Try.prog 33 #[.agg #[.int .i64 c.K, vN, vU, .int .i64 c.R.A, vQ, vS, .int .i64 c.D], .string s, .int .i64 seed] w fun e w' => PostV (vcX c s seed).1 (vcX c s seed).2 w e w' := by
  obtain ⟨K, ⟨N, U, A⟩, Q, S, D⟩ := c
  obtain ⟨aN, cN, rfl⟩ := h.r.n.form
  obtain ⟨aU, cU, rfl⟩ := h.r.u.form
  obtain ⟨aQ, cQ, rfl⟩ := h.q.form
  obtain ⟨aS, cS, rfl⟩ := sk_form h.s
  have R : Hid (RdC w (.slice aN N.length cN) (.slice aU U.length cU) (.slice aQ Q.length cQ) (.slice aS S.length cS) ⟨K, ⟨N, U, A⟩, Q, S, D⟩) := h
  clear h
  have m1 : Hid True := trivial
  have m2 : Hid True := trivial
  have m3 : Hid True := trivial
  have m4 : Hid True := trivial
  have m5 : Hid True := trivial
  obtain ⟨y, hy⟩ := hid_ex (chB ⟨K, ⟨N, U, A⟩, Q, S, D⟩)
  cases y with
  | false =>
    rw [vcX_no1 hy.out]
    have hc2 : Hid (cpC ⟨K, ⟨N, U, A⟩, Q, S, D⟩ = ⟨0, ⟨[], [], 0⟩, [], [], 0⟩) := by unfold Hid cpC; rw [hy.out]; rfl
    go_enter Try.func33, Try.ntmps33
    go_wp2_with (first | (clear m1; refine wpList_box_v rfl 36 _ rfl [.int .i64 K, .slice aN N.length cN, .slice aU U.length cU, .int .i64 A, .slice aQ Q.length cQ, .slice aS S.length cS, .int .i64 D] rfl ?_; intro b1 w1 hb1 hw1 hB1 V1; obtain ⟨c0, c1, c2, c3, c4, c5, c6⟩ := cells7c V1; have hz1 := hB1.size) | (clear m2; refine wpList_alloc_v rfl 36 rfl _ zeroCh ?_; intro b4 w2 hb4 hw4 hB2 V4; replace V1 := vblk_grow V1 hB2; clear c0 c1 c2 c3 c4 c5 c6; obtain ⟨c0, c1, c2, c3, c4, c5, c6⟩ := cells7c V1; have hB12 := hB1.trans (hB2.mono hz1); have hz2 := hB12.size) | (go_at_call 71; refine (implChoiceOf_any ⟨K, ⟨N, U, A⟩, Q, S, D⟩ _ _ _ _ _ (R.out.grow hB12)).mono ?_; rintro e w3 hP; unfold PostC at hP; rw [hc2.out, hy.out] at hP; obtain ⟨vN3, vU3, vQ3, vS3, rfl, o3, hB3⟩ := hP; dsimp only; obtain ⟨⟨aN3, nN3, kN3, rfl⟩, ⟨aU3, nU3, kU3, rfl⟩, ⟨aQ3, nQ3, kQ3, rfl⟩, ⟨aS3, nS3, kS3, rfl⟩⟩ := o3.forms; replace V4 := vblk_grow V4 hB3; have hB13 := hB12.trans (hB3.mono hz2); have hz3 := hB13.size; have hz23 := hB3.size) | (clear m3; refine wpList_alloc_v rfl 36 rfl _ zeroCh ?_; intro b5 w5 hb5 hw5 hB5 V5; replace V4 := vblk_grow V4 hB5; replace o3 := o3.grow hB5; have hB15 := hB13.trans (hB5.mono hz3); have hz5 := hB15.size; have hz35 := hB5.size) | (clear m4; refine wpList_store_v rfl 36 _ _ rfl b5 [.int .i64 0, .slice aN3 nN3 kN3, .slice aU3 nU3 kU3, .int .i64 0, .slice aQ3 nQ3 kQ3, .slice aS3 nS3 kS3, .int .i64 0] rfl rfl sizeCh V5 rfl (by simp [Value.oneCell']) ?_; intro w6 hO6 V6; replace V4 := vblk_only V4 hO6 (by omega); replace o3 := o3.off hO6 (by omega); have hB16 := hB15.trans (hO6.2.2 _ (by omega)); have hz6 := hB16.size; have hz56 := Nat.le_of_eq hO6.1.symm; have hy56 := Nat.le_of_eq hO6.1; obtain ⟨d0, d1, d2, d3, d4, d5, d6⟩ := cells7c V6) | (clear m5; refine wpList_store_v rfl 36 _ _ rfl b4 [.int .i64 0, .slice none 0 0, .slice none 0 0, .int .i64 0, .slice none 0 0, .slice none 0 0, .int .i64 0] rfl rfl sizeCh V4 rfl (by simp [Value.oneCell']) ?_; intro wz hOz Vz; have hBz := hB16.trans (hOz.2.2 _ (by omega))) | (fail))
    exact row_ct (x := .string ⟨#[]⟩) rfl rfl rfl Vz Try.underlying36 sizeCh rfl (postV_no hBz)
  | true =>
    have hc2 : Hid (cpC ⟨K, ⟨N, U, A⟩, Q, S, D⟩ = ⟨K, ⟨N, U, A⟩, Q, S, D⟩) := by unfold Hid cpC; rw [hy.out]; rfl
    obtain ⟨i1, hi1⟩ := hid_ex (decide (0 ≤ seed) && decide (seed ≤ 1000000))
    cases i1 with
    | false =>
      have HI1 : Hid ((decide (0 ≤ seed) && decide (seed ≤ 1000000)) = false) := hi1
      rw [vcX_no2 hi1.out]
      go_enter Try.func33, Try.ntmps33
      go_wp2_with (first | (clear m1; refine wpList_box_v rfl 36 _ rfl [.int .i64 K, .slice aN N.length cN, .slice aU U.length cU, .int .i64 A, .slice aQ Q.length cQ, .slice aS S.length cS, .int .i64 D] rfl ?_; intro b1 w1 hb1 hw1 hB1 V1; obtain ⟨c0, c1, c2, c3, c4, c5, c6⟩ := cells7c V1; have hz1 := hB1.size) | (clear m2; refine wpList_alloc_v rfl 36 rfl _ zeroCh ?_; intro b4 w2 hb4 hw4 hB2 V4; replace V1 := vblk_grow V1 hB2; clear c0 c1 c2 c3 c4 c5 c6; obtain ⟨c0, c1, c2, c3, c4, c5, c6⟩ := cells7c V1; have hB12 := hB1.trans (hB2.mono hz1); have hz2 := hB12.size) | (go_at_call 71; refine (implChoiceOf_any ⟨K, ⟨N, U, A⟩, Q, S, D⟩ _ _ _ _ _ (R.out.grow hB12)).mono ?_; rintro e w3 hP; unfold PostC at hP; rw [hc2.out, hy.out] at hP; obtain ⟨vN3, vU3, vQ3, vS3, rfl, o3, hB3⟩ := hP; dsimp only; obtain ⟨⟨aN3, nN3, kN3, rfl⟩, ⟨aU3, nU3, kU3, rfl⟩, ⟨aQ3, nQ3, kQ3, rfl⟩, ⟨aS3, nS3, kS3, rfl⟩⟩ := o3.forms; replace V4 := vblk_grow V4 hB3; have hB13 := hB12.trans (hB3.mono hz2); have hz3 := hB13.size; have hz23 := hB3.size) | (clear m3; refine wpList_alloc_v rfl 36 rfl _ zeroCh ?_; intro b5 w5 hb5 hw5 hB5 V5; replace V4 := vblk_grow V4 hB5; replace o3 := o3.grow hB5; have hB15 := hB13.trans (hB5.mono hz3); have hz5 := hB15.size; have hz35 := hB5.size) | (clear m4; refine wpList_store_v rfl 36 _ _ rfl b5 [.int .i64 K, .slice aN3 nN3 kN3, .slice aU3 nU3 kU3, .int .i64 A, .slice aQ3 nQ3 kQ3, .slice aS3 nS3 kS3, .int .i64 D] rfl rfl sizeCh V5 rfl (by simp [Value.oneCell']) ?_; intro w6 hO6 V6; replace V4 := vblk_only V4 hO6 (by omega); replace o3 := o3.off hO6 (by omega); have hB16 := hB15.trans (hO6.2.2 _ (by omega)); have hz6 := hB16.size; have hz56 := Nat.le_of_eq hO6.1.symm; have hy56 := Nat.le_of_eq hO6.1; obtain ⟨d0, d1, d2, d3, d4, d5, d6⟩ := cells7c V6) | (go_at_call 93; refine (within_c _ _ _ false HI1.out _).mono ?_; rintro e wq ⟨rfl, hq⟩; subst wq) | (clear m5; refine wpList_store_v rfl 36 _ _ rfl b4 [.int .i64 0, .slice none 0 0, .slice none 0 0, .int .i64 0, .slice none 0 0, .slice none 0 0, .int .i64 0] rfl rfl sizeCh V4 rfl (by simp [Value.oneCell']) ?_; intro wz hOz Vz; have hBz := hB16.trans (hOz.2.2 _ (by omega))) | (fail))
      exact row_ct (x := .string ⟨#[]⟩) rfl rfl rfl Vz Try.underlying36 sizeCh rfl (postV_no hBz)
    | true =>
      have HI1 : Hid ((decide (0 ≤ seed) && decide (seed ≤ 1000000)) = true) := hi1
      rw [vcX_yes hy.out hi1.out]
      dsimp only
      obtain ⟨-, hr, hq, hway⟩ := chB_parts hy.out
      obtain ⟨X, hX⟩ := hid_ex (namesH ⟨K, ⟨N, U, A⟩, Q⟩)
      have HNM : Hid (nmC ⟨K, ⟨N, U, A⟩, Q, S, D⟩ = X) := by unfold Hid nmC; rw [if_pos hy.out]; exact hX.out
      have hl := chB_len hy.out
      have HXL : Hid (X.length ≤ 1000000) := by
        rw [← hX.out]; unfold Hid namesH; split
        · exact hl.1
        · exact hl.2
      have HR : Hid (ROk ⟨N, U, A⟩) := hr
      have HQ : Hid (NOk Q) := hq
      clear hr hq hl
      dsimp only at hway
      by_cases k2 : K = 2
      · have eX : X = Q := by rw [← hX.out]; unfold namesH; rw [if_pos k2]
        have ec : vcC ⟨K, ⟨N, U, A⟩, Q, S, D⟩ s seed = ⟨K, ⟨N, U, A⟩, Q, S, D⟩ := vcC_same (.inr k2)
        have es : vcS ⟨K, ⟨N, U, A⟩, Q, S, D⟩ s seed = saS (othersS Q s) seed 5 := vcS_queue hy.out k2
        rw [ec, es]
        obtain ⟨z2, hz2'⟩ := hid_ex (saS (othersS Q s) seed 5)
        have HSZ : Hid (∀ t ∈ othersS Q s, t.size ≤ 9223372036854775807) := names_sz (others_ok s HQ.out)
        have eX2 := eX.symm
        clear eX
        subst eX2
        have u1 : (K == 2) = true := by rw [k2]; rfl
        clear k2 ec es hway
        rw [hz2'.out]
        go_enter Try.func33, Try.ntmps33
        go_upto_region 6 with (first | (clear m1; refine wpList_box_v rfl 36 _ rfl [.int .i64 K, .slice aN N.length cN, .slice aU U.length cU, .int .i64 A, .slice aQ Q.length cQ, .slice aS S.length cS, .int .i64 D] rfl ?_; intro b1 w1 hb1 hw1 hB1 V1; obtain ⟨c0, c1, c2, c3, c4, c5, c6⟩ := cells7c V1; have hz1 := hB1.size) | (clear m2; refine wpList_alloc_v rfl 36 rfl _ zeroCh ?_; intro b4 w2 hb4 hw4 hB2 V4; replace V1 := vblk_grow V1 hB2; clear c0 c1 c2 c3 c4 c5 c6; obtain ⟨c0, c1, c2, c3, c4, c5, c6⟩ := cells7c V1; have hB12 := hB1.trans (hB2.mono hz1); have hz2 := hB12.size) | (go_at_call 71; refine (implChoiceOf_any ⟨K, ⟨N, U, A⟩, Q, S, D⟩ _ _ _ _ _ (R.out.grow hB12)).mono ?_; rintro e w3 hP; unfold PostC at hP; rw [hc2.out, hy.out] at hP; obtain ⟨vN3, vU3, vQ3, vS3, rfl, o3, hB3⟩ := hP; dsimp only; obtain ⟨⟨aN3, nN3, kN3, rfl⟩, ⟨aU3, nU3, kU3, rfl⟩, ⟨aQ3, nQ3, kQ3, rfl⟩, ⟨aS3, nS3, kS3, rfl⟩⟩ := o3.forms; replace V4 := vblk_grow V4 hB3; have hB13 := hB12.trans (hB3.mono hz2); have hz3 := hB13.size; have hz23 := hB3.size) | (clear m3; refine wpList_alloc_v rfl 36 rfl _ zeroCh ?_; intro b5 w5 hb5 hw5 hB5 V5; replace V4 := vblk_grow V4 hB5; replace o3 := o3.grow hB5; have hB15 := hB13.trans (hB5.mono hz3); have hz5 := hB15.size; have hz35 := hB5.size) | (clear m4; refine wpList_store_v rfl 36 _ _ rfl b5 [.int .i64 K, .slice aN3 nN3 kN3, .slice aU3 nU3 kU3, .int .i64 A, .slice aQ3 nQ3 kQ3, .slice aS3 nS3 kS3, .int .i64 D] rfl rfl sizeCh V5 rfl (by simp [Value.oneCell']) ?_; intro w6 hO6 V6; replace V4 := vblk_only V4 hO6 (by omega); replace o3 := o3.off hO6 (by omega); have hB16 := hB15.trans (hO6.2.2 _ (by omega)); have hz6 := hB16.size; have hz56 := Nat.le_of_eq hO6.1.symm; have hy56 := Nat.le_of_eq hO6.1; obtain ⟨d0, d1, d2, d3, d4, d5, d6⟩ := cells7c V6) | (go_at_call 93; refine (within_c _ _ _ true HI1.out _).mono ?_; rintro e wq ⟨rfl, hq⟩; subst wq) | (go_at_call 28; refine (implNamesOf_any ⟨K, ⟨N, U, A⟩, Q, S, D⟩ _ _ _ _ _ (o3.rd R.out.r.s R.out.qs)).mono ?_; rintro e w7 ⟨v7, rfl, o7, hB7⟩; rw [HNM.out] at o7; obtain ⟨a7, n7, k7, rfl⟩ := o7.slice; replace V4 := vblk_grow V4 hB7; replace V6 := vblk_grow V6 hB7; replace o3 := o3.grow hB7; have hB17 := hB16.trans (hB7.mono hz6); have hz7 := hB17.size; have hz67 := hB7.size) | (go_at_call 94; refine (others_any _ s _ _ o7.rd HXL.out).mono ?_; rintro e w8 ⟨v8, rfl, o8, hB8⟩; obtain ⟨a8, n8, k8, rfl⟩ := o8.slice; replace V4 := vblk_grow V4 hB8; replace V6 := vblk_grow V6 hB8; replace o3 := o3.grow hB8; have hB18 := hB17.trans (hB8.mono hz7); have hz8 := hB18.size; have hz78 := hB8.size; clear d0 d1 d2 d3 d4 d5 d6; obtain ⟨d0, d1, d2, d3, d4, d5, d6⟩ := cells7c V6) | (fail))
        have ST : Hid (Vq b4 b5 _ _ _ _ [.int .i64 0, .slice none 0 0, .slice none 0 0, .int .i64 0, .slice none 0 0, .slice none 0 0, .int .i64 0] [.int .i64 K, .slice aN3 nN3 kN3, .slice aU3 nU3 kU3, .int .i64 A, .slice aQ3 nQ3 kQ3, .slice aS3 nS3 kS3, .int .i64 D] (.slice a8 n8 k8) (othersS Q s) (.slice aN3 nN3 kN3) (.slice aU3 nU3 kU3) (.slice aQ3 nQ3 kQ3) (.slice aS3 nS3 kS3) ⟨K, ⟨N, U, A⟩, Q, S, D⟩ w w8.drew) := (show Vq b4 b5 _ _ _ _ [.int .i64 0, .slice none 0 0, .slice none 0 0, .int .i64 0, .slice none 0 0, .slice none 0 0, .int .i64 0] [.int .i64 K, .slice aN3 nN3 kN3, .slice aU3 nU3 kU3, .int .i64 A, .slice aQ3 nQ3 kQ3, .slice aS3 nS3 kS3, .int .i64 D] (.slice a8 n8 k8) (othersS Q s) _ _ _ _ ⟨K, ⟨N, U, A⟩, Q, S, D⟩ w w8 from ⟨V6, V4, o8, o3, hB18⟩).grow (Below.refl _ _).drew
        have HP : Hid (b4 ≠ b5 ∧ w.heap.size ≤ b4 ∧ (b4 < w2.heap.size ∨ w3.heap.size ≤ b4)) := by unfold Hid; omega
        have VQ := ST.out
        (try simp only [Act.put])
        (try simp only [List.setIfInBounds_toArray, List.set_cons_zero, List.set_cons_succ])
        refine wp_region_held_drew (S := fun w' => w'.cell? ⟨b5, 0, none⟩ = some (.int .i64 K) ∧ w'.cell? ⟨b5, 1, none⟩ = some (.slice aN3 nN3 kN3) ∧ w'.cell? ⟨b5, 2, none⟩ = some (.slice aU3 nU3 kU3) ∧ w'.cell? ⟨b5, 3, none⟩ = some (.int .i64 A) ∧ w'.cell? ⟨b5, 4, none⟩ = some (.slice aQ3 nQ3 kQ3) ∧ w'.cell? ⟨b5, 5, none⟩ = some (.slice aS3 nS3 kS3) ∧ w'.cell? ⟨b5, 6, none⟩ = some (.int .i64 D)) (by kernel_rfl) (cells7c VQ.v5) (fun hHeld => ?_)
        refine wpAnyH_take (i := 0) (oi := { dst := some 32, op := Op.load 36 (Operand.tmp 8), type := 36, pos := "l16_choice.go:120", after := #[], guard := none }) (v := ?_) rfl (by kernel_rfl) (by kernel_rfl) (by kernel_rfl) (fun _ _ _ h => h) (Or.inl ⟨by rfl, ?_⟩) (by assumption) ?_
        rotate_left 1
        · intro w' hSw; (try dsimp only at hSw); go_simp; (try with_reducible rfl)
        (try simp only [Act.put, List.setIfInBounds_toArray, List.set_cons_zero, List.set_cons_succ])
        refine wpAnyH_take (i := 1) (oi := { dst := some 33, op := Op.move (Operand.tmp 10), type := 22, pos := "l16_choice.go:120", after := #[], guard := none }) (v := ?_) rfl (by kernel_rfl) (by kernel_rfl) (by kernel_rfl) (fun _ _ _ h => h) (Or.inl ⟨by rfl, ?_⟩) (by assumption) ?_
        rotate_left 1
        · intro w' hSw; (try dsimp only at hSw); go_simp; (try with_reducible rfl)
        (try simp only [Act.put, List.setIfInBounds_toArray, List.set_cons_zero, List.set_cons_succ])
        refine wpAnyH_take (i := 2) (oi := { dst := some 34, op := Op.move (Operand.tmp 2), type := 2, pos := "l16_choice.go:120", after := #[], guard := none }) (v := ?_) rfl (by kernel_rfl) (by kernel_rfl) (by kernel_rfl) (fun _ _ _ h => h) (Or.inl ⟨by rfl, ?_⟩) (by assumption) ?_
        rotate_left 1
        · intro w' hSw; (try dsimp only at hSw); go_simp; (try with_reducible rfl)
        (try simp only [Act.put, List.setIfInBounds_toArray, List.set_cons_zero, List.set_cons_succ])
        refine wpAnyH_ready (rs := [3]) (by kernel_rfl) (by simp) ?_
        refine AllReadyH.cons (o := { dst := some 35, op := Op.call { callee := Callee.value (Operand.func 95), args := #[Operand.tmp 33, Operand.tmp 34, Operand.const (Value.int IntKind.i64 5)], argTypes := #[22, 2, 2] }, type := 9, pos := "l16_choice.go:120", after := #[{ on := 1, ground := Ground.data }, { on := 2, ground := Ground.data }], guard := none }) rfl (fun KC hKC => ?_) AllReadyH.nil
        go_simp
        go_at_call 95
        refine (implSampled_any _ seed 5 _ _ VQ.rs.rd HSZ.out).mono ?_
        rw [hz2'.out]
        rintro e wr3 ⟨rfl, hBr3⟩
        replace VQ := VQ.grow hBr3
        refine hKC.out _ _ (cells7c VQ.v5) (fun hHeld2 => ?_)
        clear hKC KC hHeld
        have hHeld := hHeld2
        clear hHeld2
        (try simp only [Act.put, List.setIfInBounds_toArray, List.set_cons_zero, List.set_cons_succ])
        refine wpAnyH_ready (rs := [4]) (by kernel_rfl) (by simp) ?_
        refine AllReadyH.cons (o := { dst := none, op := Op.store 36 (Operand.tmp 6) (Operand.tmp 32), type := 0, pos := "l16_choice.go:120", after := #[{ on := 0, ground := Ground.data }, { on := 3, ground := Ground.chain }, { on := 0, ground := Ground.phase }, { on := 1, ground := Ground.textOnly Departure.lateStores }, { on := 2, ground := Ground.textOnly Departure.lateStores }, { on := 3, ground := Ground.textOnly Departure.lateStoresUnsure }], guard := none }) rfl (fun KC hKC => ?_) AllReadyH.nil
        refine step_store_v rfl 36 _ _ rfl b4 [.int .i64 K, .slice aN3 nN3 kN3, .slice aU3 nU3 kU3, .int .i64 A, .slice aQ3 nQ3 kQ3, .slice aS3 nS3 kS3, .int .i64 D] rfl rfl sizeCh VQ.v4 rfl (by simp [Value.oneCell']) ?_
        intro wr4 hOr4 Vr4
        replace VQ := VQ.put hOr4 Vr4 HP.out
        refine hKC.out _ _ (cells7c VQ.v5) (fun hHeld2 => ?_)
        clear hKC KC hHeld
        have hHeld := hHeld2
        clear hHeld2
        (try simp only [Act.put])
        refine wpAnyH_take (i := 5) (oi := { dst := some 7, op := Op.assign (Operand.tmp 35), type := 9, pos := "l16_choice.go:120", after := #[{ on := 3, ground := Ground.data }, { on := 4, ground := Ground.chain }, { on := 0, ground := Ground.phase }, { on := 1, ground := Ground.phase }, { on := 2, ground := Ground.phase }, { on := 3, ground := Ground.phase }, { on := 4, ground := Ground.phase }], guard := none }) (v := ?_) rfl (by kernel_rfl) (by kernel_rfl) (by kernel_rfl) (fun _ _ _ h => h) (Or.inl ⟨by rfl, ?_⟩) (by assumption) ?_
        rotate_left 1
        · intro w' hSw; (try dsimp only at hSw); go_simp; (try with_reducible rfl)
        (try simp only [Act.put, List.setIfInBounds_toArray, List.set_cons_zero, List.set_cons_succ])
        refine wpAnyH_done (by kernel_rfl) ?_ _
        go_wp2
        exact row_ct (x := .string z2) rfl rfl rfl VQ.v4 Try.underlying36 sizeCh rfl ⟨_, _, _, _, rfl, VQ.o.wide (by omega), VQ.lw⟩
      · have k1 : K = 1 := by omega
        have eX : X = N := by rw [← hX.out]; unfold namesH; rw [if_neg k2]
        have u1 : (K == 2) = false := by simpa using k2
        have HN : Hid (NOk N) := ⟨HR.out.nm, HR.out.nd, HR.out.le⟩
        have eX2 := eX.symm
        clear eX
        subst eX2
        cases hg : noneGo N s with
        | true =>
          have eH : noneGo (namesH ⟨K, ⟨N, U, A⟩, Q⟩) s = true := by rw [hX.out]; exact hg
          have ec : vcC ⟨K, ⟨N, U, A⟩, Q, S, D⟩ s seed = ⟨K, ⟨N, U, A⟩, Q, S, D⟩ := vcC_same (.inl eH)
          have es : vcS ⟨K, ⟨N, U, A⟩, Q, S, D⟩ s seed = ⟨#[]⟩ := vcS_none eH
          rw [ec, es]
          have HZ : Hid ((othersS N s).length = 0) := (others_go HN.out s).2 hg
          clear k1 k2 ec es eH hg hway
          go_enter Try.func33, Try.ntmps33
          go_upto_region 7 with (first | (clear m1; refine wpList_box_v rfl 36 _ rfl [.int .i64 K, .slice aN N.length cN, .slice aU U.length cU, .int .i64 A, .slice aQ Q.length cQ, .slice aS S.length cS, .int .i64 D] rfl ?_; intro b1 w1 hb1 hw1 hB1 V1; obtain ⟨c0, c1, c2, c3, c4, c5, c6⟩ := cells7c V1; have hz1 := hB1.size) | (clear m2; refine wpList_alloc_v rfl 36 rfl _ zeroCh ?_; intro b4 w2 hb4 hw4 hB2 V4; replace V1 := vblk_grow V1 hB2; clear c0 c1 c2 c3 c4 c5 c6; obtain ⟨c0, c1, c2, c3, c4, c5, c6⟩ := cells7c V1; have hB12 := hB1.trans (hB2.mono hz1); have hz2 := hB12.size) | (go_at_call 71; refine (implChoiceOf_any ⟨K, ⟨N, U, A⟩, Q, S, D⟩ _ _ _ _ _ (R.out.grow hB12)).mono ?_; rintro e w3 hP; unfold PostC at hP; rw [hc2.out, hy.out] at hP; obtain ⟨vN3, vU3, vQ3, vS3, rfl, o3, hB3⟩ := hP; dsimp only; obtain ⟨⟨aN3, nN3, kN3, rfl⟩, ⟨aU3, nU3, kU3, rfl⟩, ⟨aQ3, nQ3, kQ3, rfl⟩, ⟨aS3, nS3, kS3, rfl⟩⟩ := o3.forms; replace V4 := vblk_grow V4 hB3; have hB13 := hB12.trans (hB3.mono hz2); have hz3 := hB13.size; have hz23 := hB3.size) | (clear m3; refine wpList_alloc_v rfl 36 rfl _ zeroCh ?_; intro b5 w5 hb5 hw5 hB5 V5; replace V4 := vblk_grow V4 hB5; replace o3 := o3.grow hB5; have hB15 := hB13.trans (hB5.mono hz3); have hz5 := hB15.size; have hz35 := hB5.size) | (clear m4; refine wpList_store_v rfl 36 _ _ rfl b5 [.int .i64 K, .slice aN3 nN3 kN3, .slice aU3 nU3 kU3, .int .i64 A, .slice aQ3 nQ3 kQ3, .slice aS3 nS3 kS3, .int .i64 D] rfl rfl sizeCh V5 rfl (by simp [Value.oneCell']) ?_; intro w6 hO6 V6; replace V4 := vblk_only V4 hO6 (by omega); replace o3 := o3.off hO6 (by omega); have hB16 := hB15.trans (hO6.2.2 _ (by omega)); have hz6 := hB16.size; have hz56 := Nat.le_of_eq hO6.1.symm; have hy56 := Nat.le_of_eq hO6.1; obtain ⟨d0, d1, d2, d3, d4, d5, d6⟩ := cells7c V6) | (go_at_call 93; refine (within_c _ _ _ true HI1.out _).mono ?_; rintro e wq ⟨rfl, hq⟩; subst wq) | (go_at_call 28; refine (implNamesOf_any ⟨K, ⟨N, U, A⟩, Q, S, D⟩ _ _ _ _ _ (o3.rd R.out.r.s R.out.qs)).mono ?_; rintro e w7 ⟨v7, rfl, o7, hB7⟩; rw [HNM.out] at o7; obtain ⟨a7, n7, k7, rfl⟩ := o7.slice; replace V4 := vblk_grow V4 hB7; replace V6 := vblk_grow V6 hB7; replace o3 := o3.grow hB7; have hB17 := hB16.trans (hB7.mono hz6); have hz7 := hB17.size; have hz67 := hB7.size) | (go_at_call 94; refine (others_any _ s _ _ o7.rd HXL.out).mono ?_; rintro e w8 ⟨v8, rfl, o8, hB8⟩; obtain ⟨a8, n8, k8, rfl⟩ := o8.slice; replace V4 := vblk_grow V4 hB8; replace V6 := vblk_grow V6 hB8; replace o3 := o3.grow hB8; have hB18 := hB17.trans (hB8.mono hz7); have hz8 := hB18.size; have hz78 := hB8.size; clear d0 d1 d2 d3 d4 d5 d6; obtain ⟨d0, d1, d2, d3, d4, d5, d6⟩ := cells7c V6) | (fail))
          have n80 : n8 = 0 := by have h1 := o8.rd.cap.1; have := HZ.out; omega
          subst n80
          go_wp2_with (first | (refine wpList_store_v rfl 36 _ _ rfl b4 [.int .i64 K, .slice aN3 nN3 kN3, .slice aU3 nU3 kU3, .int .i64 A, .slice aQ3 nQ3 kQ3, .slice aS3 nS3 kS3, .int .i64 D] rfl rfl sizeCh V4 rfl (by simp [Value.oneCell']) ?_; intro wz hOz Vz; have hBz := hB18.trans (hOz.2.2 _ (by omega))) | (fail))
          exact row_ct (x := .string ⟨#[]⟩) rfl rfl rfl Vz Try.underlying36 sizeCh rfl ⟨_, _, _, _, rfl, (o3.off hOz (by omega)).wide (by omega), hBz⟩
        | false =>
          obtain ⟨ec, es⟩ := vcS_clock (c := ⟨K, ⟨N, U, A⟩, Q, S, D⟩) (s := s) (seed := seed) k1 hg
          rw [ec, es]
          have HG : Hid (noneGo N s = false) := hg
          have HZ : Hid ((othersS N s).length ≠ 0) := fun e => by have := (others_go HN.out s).1 e; rw [hg] at this; cases this
          try dsimp only
          obtain ⟨⟨N2, U2, A2⟩, hT⟩ := hid_ex (vicR ⟨N, U, A⟩ s)
          obtain ⟨z2, hz2'⟩ := hid_ex (atN ⟨N2, U2, A2⟩)
          have kT := fun vN vU w (h : RdR w vN vU ⟨N, U, A⟩) => implTurnedPast_any ⟨N, U, A⟩ HR.out s HG.out vN vU w h
          rw [hT.out, hz2'.out] at kT ⊢
          try dsimp only
          have KT : Hid _ := kT
          clear k1 k2 ec es hg hway kT
          go_enter Try.func33, Try.ntmps33
          go_upto_region 7 with (first | (clear m1; refine wpList_box_v rfl 36 _ rfl [.int .i64 K, .slice aN N.length cN, .slice aU U.length cU, .int .i64 A, .slice aQ Q.length cQ, .slice aS S.length cS, .int .i64 D] rfl ?_; intro b1 w1 hb1 hw1 hB1 V1; obtain ⟨c0, c1, c2, c3, c4, c5, c6⟩ := cells7c V1; have hz1 := hB1.size) | (clear m2; refine wpList_alloc_v rfl 36 rfl _ zeroCh ?_; intro b4 w2 hb4 hw4 hB2 V4; replace V1 := vblk_grow V1 hB2; clear c0 c1 c2 c3 c4 c5 c6; obtain ⟨c0, c1, c2, c3, c4, c5, c6⟩ := cells7c V1; have hB12 := hB1.trans (hB2.mono hz1); have hz2 := hB12.size) | (go_at_call 71; refine (implChoiceOf_any ⟨K, ⟨N, U, A⟩, Q, S, D⟩ _ _ _ _ _ (R.out.grow hB12)).mono ?_; rintro e w3 hP; unfold PostC at hP; rw [hc2.out, hy.out] at hP; obtain ⟨vN3, vU3, vQ3, vS3, rfl, o3, hB3⟩ := hP; dsimp only; obtain ⟨⟨aN3, nN3, kN3, rfl⟩, ⟨aU3, nU3, kU3, rfl⟩, ⟨aQ3, nQ3, kQ3, rfl⟩, ⟨aS3, nS3, kS3, rfl⟩⟩ := o3.forms; replace V4 := vblk_grow V4 hB3; have hB13 := hB12.trans (hB3.mono hz2); have hz3 := hB13.size; have hz23 := hB3.size) | (clear m3; refine wpList_alloc_v rfl 36 rfl _ zeroCh ?_; intro b5 w5 hb5 hw5 hB5 V5; replace V4 := vblk_grow V4 hB5; replace o3 := o3.grow hB5; have hB15 := hB13.trans (hB5.mono hz3); have hz5 := hB15.size; have hz35 := hB5.size) | (clear m4; refine wpList_store_v rfl 36 _ _ rfl b5 [.int .i64 K, .slice aN3 nN3 kN3, .slice aU3 nU3 kU3, .int .i64 A, .slice aQ3 nQ3 kQ3, .slice aS3 nS3 kS3, .int .i64 D] rfl rfl sizeCh V5 rfl (by simp [Value.oneCell']) ?_; intro w6 hO6 V6; replace V4 := vblk_only V4 hO6 (by omega); replace o3 := o3.off hO6 (by omega); have hB16 := hB15.trans (hO6.2.2 _ (by omega)); have hz6 := hB16.size; have hz56 := Nat.le_of_eq hO6.1.symm; have hy56 := Nat.le_of_eq hO6.1; obtain ⟨d0, d1, d2, d3, d4, d5, d6⟩ := cells7c V6) | (go_at_call 93; refine (within_c _ _ _ true HI1.out _).mono ?_; rintro e wq ⟨rfl, hq⟩; subst wq) | (go_at_call 28; refine (implNamesOf_any ⟨K, ⟨N, U, A⟩, Q, S, D⟩ _ _ _ _ _ (o3.rd R.out.r.s R.out.qs)).mono ?_; rintro e w7 ⟨v7, rfl, o7, hB7⟩; rw [HNM.out] at o7; obtain ⟨a7, n7, k7, rfl⟩ := o7.slice; replace V4 := vblk_grow V4 hB7; replace V6 := vblk_grow V6 hB7; replace o3 := o3.grow hB7; have hB17 := hB16.trans (hB7.mono hz6); have hz7 := hB17.size; have hz67 := hB7.size) | (go_at_call 94; refine (others_any _ s _ _ o7.rd HXL.out).mono ?_; rintro e w8 ⟨v8, rfl, o8, hB8⟩; obtain ⟨a8, n8, k8, rfl⟩ := o8.slice; replace V4 := vblk_grow V4 hB8; replace V6 := vblk_grow V6 hB8; replace o3 := o3.grow hB8; have hB18 := hB17.trans (hB8.mono hz7); have hz8 := hB18.size; have hz78 := hB8.size; clear d0 d1 d2 d3 d4 d5 d6; obtain ⟨d0, d1, d2, d3, d4, d5, d6⟩ := cells7c V6) | (fail))
          have n80 : (n8 : Int) ≠ 0 := by have h1 := o8.rd.cap.1; have := HZ.out; omega
          have n81 : ((n8 : Int) == 0) = false := by simpa using n80
          obtain ⟨⟨l1, h1, l2, h2, l3, h3, oR, oQ, oS, ⟨e1, e2, e3, e4, e5, e6⟩, e7, e8, e9⟩, sz⟩ := o3
          try dsimp only at oR oQ oS
          go_wp2_with (first | (go_at_call 96; refine (KT.out _ _ _ (oR.rd R.out.r.s)).mono ?_; rintro e w9 ⟨vN9, vU9, rfl, oR9, hB9⟩; obtain ⟨aN9, nN9, kN9, rfl⟩ := oR9.n.slice; obtain ⟨aU9, nU9, kU9, rfl⟩ := oR9.u.slice; replace V4 := vblk_grow V4 hB9; replace V6 := vblk_grow V6 hB9; replace oQ := oQ.grow hB9; replace oS := ownS_grow oS hB9; have hB19 := hB18.trans (hB9.mono hz8); have hz9 := hB9.size; clear d0 d1 d2 d3 d4 d5 d6) | (refine wpList_store_sub rfl 33 _ _ rfl b5 1 [.slice aN9 nN9 kN9, .slice aU9 nU9 kU9, .int .i64 A2] rfl rfl sizeRg V6 (by simp) rfl (by simp [Value.oneCell']) ?_; intro w10 hO10 V10x; have V10 : VBlk w10 b5 36 [.int .i64 K, .slice aN9 nN9 kN9, .slice aU9 nU9 kU9, .int .i64 A2, .slice aQ3 nQ3 kQ3, .slice aS3 nS3 kS3, .int .i64 D] := V10x; clear V10x; obtain ⟨d0, d1, d2, d3, d4, d5, d6⟩ := cells7c V10; replace V4 := vblk_only V4 hO10 (by omega); replace oR9 := oR9.only hO10 V6 (by decide) (by decide); replace oQ := oQ.only hO10 V6 (by decide); replace oS := sk.Own.keep oS (fun k x y => hO10.2.1 k (by omega)) (Nat.le_of_eq hO10.1.symm); have hB110 := hB19.trans (hO10.2.2 _ (by omega)); have hz10 := Nat.le_of_eq hO10.1.symm; have hy10 := Nat.le_of_eq hO10.1) | (refine wpList_store_v rfl 36 _ _ rfl b4 [.int .i64 K, .slice aN9 nN9 kN9, .slice aU9 nU9 kU9, .int .i64 A2, .slice aQ3 nQ3 kQ3, .slice aS3 nS3 kS3, .int .i64 D] rfl rfl sizeCh V4 rfl (by simp [Value.oneCell']) ?_; intro wz hOz Vz; have hBz := hB110.trans (hOz.2.2 _ (by omega))) | (fail))
          have zz := Nat.le_of_eq hOz.1.symm
          exact row_ct (x := .string z2) rfl rfl rfl Vz Try.underlying36 sizeCh rfl ⟨_, _, _, _, rfl, ⟨⟨_, _, l2, h2, l3, h3, oR9.only hOz V4 (by decide) (by decide), oQ.only hOz V4 (by decide), sk.Own.keep oS (fun k x y => hOz.2.1 k (by omega)) zz, ⟨by omega, by omega, by omega, by omega, by omega, by omega⟩, by omega, by omega, e9⟩, Nat.le_refl _⟩, hBz⟩
end Go.Proofs.Ytapchjkiiifhdaa.rg
