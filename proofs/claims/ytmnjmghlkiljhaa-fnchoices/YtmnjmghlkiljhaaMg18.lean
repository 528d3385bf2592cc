/- Texts laid together: Cqi Cqj Qt1 Rt1 Qt2 Like1 Ck1. -/
import Derived.Test.YtmnjmghlkiljhaaMg17
import Derived.Test.YtmnjmghlkiljhaaMg10
import Derived.Test.YtmnjmghlkiljhaaMg11
import Derived.Test.YtmnjmghlkiljhaaCh5
import Derived.Lib.SmallJoins
import Derived.Deep.Slices
import Derived.Deep.RegionHeld3
import Derived.BigQuiet
import Derived.Deep.DeepCutAuto
/- Contracts: the program: who is seen, whole. -/
namespace Go.Proofs.Ytmnjmghlkiljhaa.rg
open Go.ChangeShapes Go.WideShapes Go.ChangeAt Go.RowKit
open Go.Deep Go.Joins
open Go.Proofs.Ytmnjmghlkiljhaa.ce Go.Proofs.Ytmnjmghlkiljhaa.ro
set_option linter.unusedVariables false
set_option linter.unusedSimpArgs false

set_option maxRecDepth 100000 in
set_option maxHeartbeats 4000000 in
theorem implSees_any (c : Ch) (s : ByteArray) (hs : s.size ≤ 9223372036854775807) (vN vU vQ vS : Value) (w : World) (h : RdC w vN vU vQ vS c) :
    Calls Try.prog 9 #[.agg #[.int .i64 c.K, vN, vU, .int .i64 c.R.A, vQ, vS, .int .i64 c.D], .string s] w fun e w' => PostF (seX c s) w e w' := by
  obtain ⟨K, ⟨N, U, A⟩, Q, S, D⟩ := c
  obtain ⟨aN, cN, rfl⟩ := h.r.n.form
  obtain ⟨aU, cU, rfl⟩ := h.r.u.form
  obtain ⟨aQ, cQ, rfl⟩ := h.q.form
  obtain ⟨aS, cS, rfl⟩ := sk_form h.s
  have R : Hid (RdC w (.slice aN N.length cN) (.slice aU U.length cU) (.slice aQ Q.length cQ) (.slice aS S.length cS) ⟨K, ⟨N, U, A⟩, Q, S, D⟩) := h
  clear h
  have m1 : Hid True := trivial
  have m2 : Hid True := trivial
  have m3 : Hid True := trivial
  have m4 : Hid True := trivial
  unfold seX
  obtain ⟨y, hy⟩ := hid_ex (chB ⟨K, ⟨N, U, A⟩, Q, S, D⟩)
  rw [hy.out]
  cases y with
  | false =>
    rw [if_neg (by decide)]
    have hc2 : Hid (cpC ⟨K, ⟨N, U, A⟩, Q, S, D⟩ = ⟨0, ⟨[], [], 0⟩, [], [], 0⟩) := by unfold Hid cpC; rw [hy.out]; rfl
    go_enter Try.func9, Try.ntmps9
    go_wp2_with (first | (clear m1; refine wpList_box_v rfl 32 _ rfl [.int .i64 K, .slice aN N.length cN, .slice aU U.length cU, .int .i64 A, .slice aQ Q.length cQ, .slice aS S.length cS, .int .i64 D] rfl ?_; intro b1 w1 hb1 hw1 hB1 V1; obtain ⟨c0, c1, c2, c3, c4, c5, c6⟩ := cells7c V1; have hz1 := hB1.size) | (clear m2; refine wpList_alloc_v rfl 32 rfl _ zeroCh ?_; intro b4 w2 hb4 hw4 hB2 V4; replace V1 := vblk_grow V1 hB2; clear c0 c1 c2 c3 c4 c5 c6; obtain ⟨c0, c1, c2, c3, c4, c5, c6⟩ := cells7c V1; have hB12 := hB1.trans (hB2.mono hz1); have hz2 := hB12.size) | (go_at_call 49; refine (implChoiceOf_any ⟨K, ⟨N, U, A⟩, Q, S, D⟩ _ _ _ _ _ (R.out.grow hB12)).mono ?_; rintro e w3 hP; unfold PostC at hP; rw [hc2.out, hy.out] at hP; obtain ⟨vN3, vU3, vQ3, vS3, rfl, o3, hB3⟩ := hP; dsimp only; obtain ⟨⟨aN3, nN3, kN3, rfl⟩, ⟨aU3, nU3, kU3, rfl⟩, ⟨aQ3, nQ3, kQ3, rfl⟩, ⟨aS3, nS3, kS3, rfl⟩⟩ := o3.forms; replace V4 := vblk_grow V4 hB3; have hB13 := hB12.trans (hB3.mono hz2); have hz3 := hB13.size; have hz23 := hB3.size) | (clear m3; refine wpList_alloc_v rfl 32 rfl _ zeroCh ?_; intro b5 w5 hb5 hw5 hB5 V5; replace V4 := vblk_grow V4 hB5; replace o3 := o3.grow hB5; have hB15 := hB13.trans (hB5.mono hz3); have hz5 := hB15.size; have hz35 := hB5.size) | (clear m4; refine wpList_store_v rfl 32 _ _ rfl b5 [.int .i64 0, .slice aN3 nN3 kN3, .slice aU3 nU3 kU3, .int .i64 0, .slice aQ3 nQ3 kQ3, .slice aS3 nS3 kS3, .int .i64 0] rfl rfl sizeCh V5 rfl (by simp [Value.oneCell']) ?_; intro w6 hO6 V6; replace V4 := vblk_only V4 hO6 (by omega); replace o3 := o3.off hO6 (by omega); have hB16 := hB15.trans (hO6.2.2 _ (by omega)); have hz6 := hB16.size; have hz56 := Nat.le_of_eq hO6.1.symm; have hy56 := Nat.le_of_eq hO6.1; obtain ⟨d0, d1, d2, d3, d4, d5, d6⟩ := cells7c V6) | (refine wpList_store_v rfl 32 _ _ rfl b4 [.int .i64 0, .slice aN3 nN3 kN3, .slice aU3 nU3 kU3, .int .i64 0, .slice aQ3 nQ3 kQ3, .slice aS3 nS3 kS3, .int .i64 0] rfl rfl sizeCh V4 rfl (by simp [Value.oneCell']) ?_; intro wz hOz Vz; have hBz := hB16.trans (hOz.2.2 _ (by omega))) | (fail))
    exact row_retv rfl rfl Vz Try.underlying32 sizeCh rfl ⟨_, _, _, _, rfl, (o3.off hOz (by omega)).wide (by omega), hBz⟩
  | true =>
    rw [if_pos rfl]
    have hc2 : Hid (cpC ⟨K, ⟨N, U, A⟩, Q, S, D⟩ = ⟨K, ⟨N, U, A⟩, Q, S, D⟩) := by unfold Hid cpC; rw [hy.out]; rfl
    obtain ⟨hsk, hr, hq, hway⟩ := chB_parts hy.out
    dsimp only at hsk hr hq hway
    unfold seC seeH
    dsimp only
    cases hnm : nameB s with
    | false =>
      simp only [Bool.false_eq_true, if_false]
      clear hsk hr hq hway
      go_enter Try.func9, Try.ntmps9
      go_wp2_with (first | (clear m1; refine wpList_box_v rfl 32 _ rfl [.int .i64 K, .slice aN N.length cN, .slice aU U.length cU, .int .i64 A, .slice aQ Q.length cQ, .slice aS S.length cS, .int .i64 D] rfl ?_; intro b1 w1 hb1 hw1 hB1 V1; obtain ⟨c0, c1, c2, c3, c4, c5, c6⟩ := cells7c V1; have hz1 := hB1.size) | (clear m2; refine wpList_alloc_v rfl 32 rfl _ zeroCh ?_; intro b4 w2 hb4 hw4 hB2 V4; replace V1 := vblk_grow V1 hB2; clear c0 c1 c2 c3 c4 c5 c6; obtain ⟨c0, c1, c2, c3, c4, c5, c6⟩ := cells7c V1; have hB12 := hB1.trans (hB2.mono hz1); have hz2 := hB12.size) | (go_at_call 49; refine (implChoiceOf_any ⟨K, ⟨N, U, A⟩, Q, S, D⟩ _ _ _ _ _ (R.out.grow hB12)).mono ?_; rintro e w3 hP; unfold PostC at hP; rw [hc2.out, hy.out] at hP; obtain ⟨vN3, vU3, vQ3, vS3, rfl, o3, hB3⟩ := hP; dsimp only; obtain ⟨⟨aN3, nN3, kN3, rfl⟩, ⟨aU3, nU3, kU3, rfl⟩, ⟨aQ3, nQ3, kQ3, rfl⟩, ⟨aS3, nS3, kS3, rfl⟩⟩ := o3.forms; replace V4 := vblk_grow V4 hB3; have hB13 := hB12.trans (hB3.mono hz2); have hz3 := hB13.size; have hz23 := hB3.size) | (clear m3; refine wpList_alloc_v rfl 32 rfl _ zeroCh ?_; intro b5 w5 hb5 hw5 hB5 V5; replace V4 := vblk_grow V4 hB5; replace o3 := o3.grow hB5; have hB15 := hB13.trans (hB5.mono hz3); have hz5 := hB15.size; have hz35 := hB5.size) | (clear m4; refine wpList_store_v rfl 32 _ _ rfl b5 [.int .i64 K, .slice aN3 nN3 kN3, .slice aU3 nU3 kU3, .int .i64 A, .slice aQ3 nQ3 kQ3, .slice aS3 nS3 kS3, .int .i64 D] rfl rfl sizeCh V5 rfl (by simp [Value.oneCell']) ?_; intro w6 hO6 V6; replace V4 := vblk_only V4 hO6 (by omega); replace o3 := o3.off hO6 (by omega); have hB16 := hB15.trans (hO6.2.2 _ (by omega)); have hz6 := hB16.size; have hz56 := Nat.le_of_eq hO6.1.symm; have hy56 := Nat.le_of_eq hO6.1; obtain ⟨d0, d1, d2, d3, d4, d5, d6⟩ := cells7c V6) | (go_at_call 50; refine (implNameOk_any _ hs _).mono ?_; rintro e wq ⟨rfl, hq⟩; subst wq; rw [hnm]) | (refine wpList_store_v rfl 32 _ _ rfl b4 [.int .i64 K, .slice aN3 nN3 kN3, .slice aU3 nU3 kU3, .int .i64 A, .slice aQ3 nQ3 kQ3, .slice aS3 nS3 kS3, .int .i64 D] rfl rfl sizeCh V4 rfl (by simp [Value.oneCell']) ?_; intro wz hOz Vz; have hBz := hB16.trans (hOz.2.2 _ (by omega))) | (fail))
      exact row_retv rfl rfl Vz Try.underlying32 sizeCh rfl ⟨_, _, _, _, rfl, (o3.off hOz (by omega)).wide (by omega), hBz⟩
    | true =>
      simp only [if_true, eq_self]
      have hk : s.size ≤ 1048576 := by have := (nameB_size hnm).2; omega
      have hRR : sk.addedR S D s = sk.plusR S D s := by unfold sk.addedR sk.plusR; rw [if_pos hsk]
      have hNN : sk.addedN S D = sk.plusN D := by unfold sk.addedN sk.plusN; rw [if_pos hsk]
      obtain ⟨S2, hS2⟩ := hid_ex (sk.plusR S D s)
      obtain ⟨D2, hD2⟩ := hid_ex (sk.plusN D)
      have kA := fun v w hi hh hv => sk.implAdded_any S D s hk v w hi hh hv
      rw [hRR, hNN, hS2.out, hD2.out] at kA
      rw [hS2.out, hD2.out]
      have KA : Hid _ := kA
      have kU := fun vN vU w (h : RdR w vN vU ⟨N, U, A⟩) => usedOrJoined_any ⟨N, U, A⟩ (ringB_iff.2 hr) s hs vN vU w h
      have hTQ : Hid (toR Q s = tqR Q s) := (tq_is hq).2.symm
      clear kA hRR hNN hsk hr hq
      rcases hway with ⟨k1, -⟩ | ⟨k2, -⟩
      · rw [if_neg (by omega : ¬ K = 2)]
        dsimp only
        obtain ⟨⟨N2, U2, A2⟩, hT⟩ := hid_ex (ringSee ⟨N, U, A⟩ s)
        rw [hT.out] at kU ⊢
        have KU : Hid _ := kU
        have u1 : (K == 1) = true := by rw [k1]; rfl
        clear kU k1 hk
        go_enter Try.func9, Try.ntmps9
        go_upto_region 4 with (first | (clear m1; refine wpList_box_v rfl 32 _ rfl [.int .i64 K, .slice aN N.length cN, .slice aU U.length cU, .int .i64 A, .slice aQ Q.length cQ, .slice aS S.length cS, .int .i64 D] rfl ?_; intro b1 w1 hb1 hw1 hB1 V1; obtain ⟨c0, c1, c2, c3, c4, c5, c6⟩ := cells7c V1; have hz1 := hB1.size) | (clear m2; refine wpList_alloc_v rfl 32 rfl _ zeroCh ?_; intro b4 w2 hb4 hw4 hB2 V4; replace V1 := vblk_grow V1 hB2; clear c0 c1 c2 c3 c4 c5 c6; obtain ⟨c0, c1, c2, c3, c4, c5, c6⟩ := cells7c V1; have hB12 := hB1.trans (hB2.mono hz1); have hz2 := hB12.size) | (go_at_call 49; refine (implChoiceOf_any ⟨K, ⟨N, U, A⟩, Q, S, D⟩ _ _ _ _ _ (R.out.grow hB12)).mono ?_; rintro e w3 hP; unfold PostC at hP; rw [hc2.out, hy.out] at hP; obtain ⟨vN3, vU3, vQ3, vS3, rfl, o3, hB3⟩ := hP; dsimp only; obtain ⟨⟨aN3, nN3, kN3, rfl⟩, ⟨aU3, nU3, kU3, rfl⟩, ⟨aQ3, nQ3, kQ3, rfl⟩, ⟨aS3, nS3, kS3, rfl⟩⟩ := o3.forms; replace V4 := vblk_grow V4 hB3; have hB13 := hB12.trans (hB3.mono hz2); have hz3 := hB13.size; have hz23 := hB3.size) | (clear m3; refine wpList_alloc_v rfl 32 rfl _ zeroCh ?_; intro b5 w5 hb5 hw5 hB5 V5; replace V4 := vblk_grow V4 hB5; replace o3 := o3.grow hB5; have hB15 := hB13.trans (hB5.mono hz3); have hz5 := hB15.size; have hz35 := hB5.size) | (clear m4; refine wpList_store_v rfl 32 _ _ rfl b5 [.int .i64 K, .slice aN3 nN3 kN3, .slice aU3 nU3 kU3, .int .i64 A, .slice aQ3 nQ3 kQ3, .slice aS3 nS3 kS3, .int .i64 D] rfl rfl sizeCh V5 rfl (by simp [Value.oneCell']) ?_; intro w6 hO6 V6; replace V4 := vblk_only V4 hO6 (by omega); replace o3 := o3.off hO6 (by omega); have hB16 := hB15.trans (hO6.2.2 _ (by omega)); have hz6 := hB16.size; have hz56 := Nat.le_of_eq hO6.1.symm; have hy56 := Nat.le_of_eq hO6.1; obtain ⟨d0, d1, d2, d3, d4, d5, d6⟩ := cells7c V6) | (go_at_call 50; refine (implNameOk_any _ hs _).mono ?_; rintro e wq ⟨rfl, hq⟩; subst wq; rw [hnm]) | (fail))
        obtain ⟨⟨l1, h1, l2, h2, l3, h3, oR, oQ, oS, ⟨e1, e2, e3, e4, e5, e6⟩, e7, e8, e9⟩, sz⟩ := o3
        try dsimp only at oR oQ oS
        go_wp2_with (first | (go_at_call 51; refine (KA.out _ _ _ (Nat.le_refl _) (oS.rd.wide (Nat.zero_le _) (sk_hi oS))).mono ?_; rintro e w7 ⟨v7, rfl, oS7, hB7⟩; obtain ⟨aS7, nS7, kS7, rfl⟩ := sk.Own.form oS7; replace V4 := vblk_grow V4 hB7; replace V6 := vblk_grow V6 hB7; replace oR := oR.grow hB7; replace oQ := oQ.grow hB7; have hB17 := hB16.trans (hB7.mono hz6); have hz7 := hB17.size; have hz67 := hB7.size; clear d0 d1 d2 d3 d4 d5 d6; obtain ⟨d0, d1, d2, d3, d4, d5, d6⟩ := cells7c V6) | (refine wpList_store_sub rfl 30 _ _ rfl b5 5 [.slice aS7 nS7 kS7, .int .i64 D2] rfl rfl sk.size27 V6 (by simp) rfl (by simp [Value.oneCell']) ?_; intro w8 hO8 V8x; have V8 : VBlk w8 b5 32 [.int .i64 K, .slice aN3 nN3 kN3, .slice aU3 nU3 kU3, .int .i64 A, .slice aQ3 nQ3 kQ3, .slice aS7 nS7 kS7, .int .i64 D2] := V8x; clear V8x; clear d0 d1 d2 d3 d4 d5 d6; obtain ⟨d0, d1, d2, d3, d4, d5, d6⟩ := cells7c V8; replace V4 := vblk_only V4 hO8 (by omega); replace oR := oR.only hO8 V6 (by decide) (by decide); replace oQ := oQ.only hO8 V6 (by decide); replace oS7 := sk.Own.keep oS7 (fun k x y => hO8.2.1 k (by omega)) (Nat.le_of_eq hO8.1.symm); have hB18 := hB17.trans (hO8.2.2 _ (by omega)); have hz8 := hB18.size; have hz78 := Nat.le_of_eq hO8.1.symm; have hy78 := Nat.le_of_eq hO8.1) | (go_at_call 52; refine (KU.out _ _ _ (oR.rd R.out.r.s)).mono ?_; rintro e w9 ⟨vN9, vU9, rfl, oR9, hB9⟩; obtain ⟨aN9, nN9, kN9, rfl⟩ := oR9.n.slice; obtain ⟨aU9, nU9, kU9, rfl⟩ := oR9.u.slice; replace V4 := vblk_grow V4 hB9; replace V8 := vblk_grow V8 hB9; replace oQ := oQ.grow hB9; replace oS7 := ownS_grow oS7 hB9; have hB19 := hB18.trans (hB9.mono hz8); have hz9 := hB19.size; have hz89 := hB9.size) | (refine wpList_store_sub rfl 27 _ _ rfl b5 1 [.slice aN9 nN9 kN9, .slice aU9 nU9 kU9, .int .i64 A2] rfl rfl sizeRg V8 (by simp) rfl (by simp [Value.oneCell']) ?_; intro w10 hO10 V10x; have V10 : VBlk w10 b5 32 [.int .i64 K, .slice aN9 nN9 kN9, .slice aU9 nU9 kU9, .int .i64 A2, .slice aQ3 nQ3 kQ3, .slice aS7 nS7 kS7, .int .i64 D2] := V10x; clear V10x; clear d0 d1 d2 d3 d4 d5 d6; obtain ⟨d0, d1, d2, d3, d4, d5, d6⟩ := cells7c V10; replace V4 := vblk_only V4 hO10 (by omega); replace oR9 := oR9.only hO10 V8 (by decide) (by decide); replace oQ := oQ.only hO10 V8 (by decide); replace oS7 := sk.Own.keep oS7 (fun k x y => hO10.2.1 k (by omega)) (Nat.le_of_eq hO10.1.symm); have hB110 := hB19.trans (hO10.2.2 _ (by omega)); have hz910 := Nat.le_of_eq hO10.1.symm; have hy910 := Nat.le_of_eq hO10.1) | (refine wpList_store_v rfl 32 _ _ rfl b4 [.int .i64 K, .slice aN9 nN9 kN9, .slice aU9 nU9 kU9, .int .i64 A2, .slice aQ3 nQ3 kQ3, .slice aS7 nS7 kS7, .int .i64 D2] rfl rfl sizeCh V4 rfl (by simp [Value.oneCell']) ?_; intro wz hOz Vz; have hBz := hB110.trans (hOz.2.2 _ (by omega))) | (fail))
        have zz := Nat.le_of_eq hOz.1.symm
        exact row_retv rfl rfl Vz Try.underlying32 sizeCh rfl ⟨_, _, _, _, rfl, ⟨⟨_, _, l2, h2, _, _, oR9.only hOz V4 (by decide) (by decide), oQ.only hOz V4 (by decide), sk.Own.keep oS7 (fun k x y => hOz.2.1 k (by omega)) zz, ⟨by omega, by omega, by omega, by omega, by omega, by omega⟩, by omega, by omega, by omega⟩, Nat.le_refl _⟩, hBz⟩
      · rw [if_pos k2]
        dsimp only
        have u1 : (K == 1) = false := by rw [k2]; rfl
        clear kU k2 hk
        go_enter Try.func9, Try.ntmps9
        go_upto_region 4 with (first | (clear m1; refine wpList_box_v rfl 32 _ rfl [.int .i64 K, .slice aN N.length cN, .slice aU U.length cU, .int .i64 A, .slice aQ Q.length cQ, .slice aS S.length cS, .int .i64 D] rfl ?_; intro b1 w1 hb1 hw1 hB1 V1; obtain ⟨c0, c1, c2, c3, c4, c5, c6⟩ := cells7c V1; have hz1 := hB1.size) | (clear m2; refine wpList_alloc_v rfl 32 rfl _ zeroCh ?_; intro b4 w2 hb4 hw4 hB2 V4; replace V1 := vblk_grow V1 hB2; clear c0 c1 c2 c3 c4 c5 c6; obtain ⟨c0, c1, c2, c3, c4, c5, c6⟩ := cells7c V1; have hB12 := hB1.trans (hB2.mono hz1); have hz2 := hB12.size) | (go_at_call 49; refine (implChoiceOf_any ⟨K, ⟨N, U, A⟩, Q, S, D⟩ _ _ _ _ _ (R.out.grow hB12)).mono ?_; rintro e w3 hP; unfold PostC at hP; rw [hc2.out, hy.out] at hP; obtain ⟨vN3, vU3, vQ3, vS3, rfl, o3, hB3⟩ := hP; dsimp only; obtain ⟨⟨aN3, nN3, kN3, rfl⟩, ⟨aU3, nU3, kU3, rfl⟩, ⟨aQ3, nQ3, kQ3, rfl⟩, ⟨aS3, nS3, kS3, rfl⟩⟩ := o3.forms; replace V4 := vblk_grow V4 hB3; have hB13 := hB12.trans (hB3.mono hz2); have hz3 := hB13.size; have hz23 := hB3.size) | (clear m3; refine wpList_alloc_v rfl 32 rfl _ zeroCh ?_; intro b5 w5 hb5 hw5 hB5 V5; replace V4 := vblk_grow V4 hB5; replace o3 := o3.grow hB5; have hB15 := hB13.trans (hB5.mono hz3); have hz5 := hB15.size; have hz35 := hB5.size) | (clear m4; refine wpList_store_v rfl 32 _ _ rfl b5 [.int .i64 K, .slice aN3 nN3 kN3, .slice aU3 nU3 kU3, .int .i64 A, .slice aQ3 nQ3 kQ3, .slice aS3 nS3 kS3, .int .i64 D] rfl rfl sizeCh V5 rfl (by simp [Value.oneCell']) ?_; intro w6 hO6 V6; replace V4 := vblk_only V4 hO6 (by omega); replace o3 := o3.off hO6 (by omega); have hB16 := hB15.trans (hO6.2.2 _ (by omega)); have hz6 := hB16.size; have hz56 := Nat.le_of_eq hO6.1.symm; have hy56 := Nat.le_of_eq hO6.1; obtain ⟨d0, d1, d2, d3, d4, d5, d6⟩ := cells7c V6) | (go_at_call 50; refine (implNameOk_any _ hs _).mono ?_; rintro e wq ⟨rfl, hq⟩; subst wq; rw [hnm]) | (fail))
        obtain ⟨⟨l1, h1, l2, h2, l3, h3, oR, oQ, oS, ⟨e1, e2, e3, e4, e5, e6⟩, e7, e8, e9⟩, sz⟩ := o3
        try dsimp only at oR oQ oS
        go_wp2_with (first | (go_at_call 51; refine (KA.out _ _ _ (Nat.le_refl _) (oS.rd.wide (Nat.zero_le _) (sk_hi oS))).mono ?_; rintro e w7 ⟨v7, rfl, oS7, hB7⟩; obtain ⟨aS7, nS7, kS7, rfl⟩ := sk.Own.form oS7; replace V4 := vblk_grow V4 hB7; replace V6 := vblk_grow V6 hB7; replace oR := oR.grow hB7; replace oQ := oQ.grow hB7; have hB17 := hB16.trans (hB7.mono hz6); have hz7 := hB17.size; have hz67 := hB7.size; clear d0 d1 d2 d3 d4 d5 d6; obtain ⟨d0, d1, d2, d3, d4, d5, d6⟩ := cells7c V6) | (refine wpList_store_sub rfl 30 _ _ rfl b5 5 [.slice aS7 nS7 kS7, .int .i64 D2] rfl rfl sk.size27 V6 (by simp) rfl (by simp [Value.oneCell']) ?_; intro w8 hO8 V8x; have V8 : VBlk w8 b5 32 [.int .i64 K, .slice aN3 nN3 kN3, .slice aU3 nU3 kU3, .int .i64 A, .slice aQ3 nQ3 kQ3, .slice aS7 nS7 kS7, .int .i64 D2] := V8x; clear V8x; clear d0 d1 d2 d3 d4 d5 d6; obtain ⟨d0, d1, d2, d3, d4, d5, d6⟩ := cells7c V8; replace V4 := vblk_only V4 hO8 (by omega); replace oR := oR.only hO8 V6 (by decide) (by decide); replace oQ := oQ.only hO8 V6 (by decide); replace oS7 := sk.Own.keep oS7 (fun k x y => hO8.2.1 k (by omega)) (Nat.le_of_eq hO8.1.symm); have hB18 := hB17.trans (hO8.2.2 _ (by omega)); have hz8 := hB18.size; have hz78 := Nat.le_of_eq hO8.1.symm; have hy78 := Nat.le_of_eq hO8.1) | (go_at_call 53; refine (implTouched_any Q s hs _ _ oQ.rd R.out.qs).mono ?_; rintro e w9 ⟨vQ9, rfl, oQ9, hB9⟩; rw [hTQ.out] at oQ9; obtain ⟨aQ9, nQ9, kQ9, rfl⟩ := oQ9.slice; replace V4 := vblk_grow V4 hB9; replace V8 := vblk_grow V8 hB9; replace oR := oR.grow hB9; replace oS7 := ownS_grow oS7 hB9; have hB19 := hB18.trans (hB9.mono hz8); have hz9 := hB19.size; have hz89 := hB9.size; clear d0 d1 d2 d3 d4 d5 d6; obtain ⟨d0, d1, d2, d3, d4, d5, d6⟩ := cells7c V8) | (refine wpList_store_cc rfl 24 _ _ rfl b5 4 (.slice aQ9 nQ9 kQ9) rfl rfl rfl szSl V8 (by simp) ?_; intro w10 hO10 V10x; have V10 : VBlk w10 b5 32 [.int .i64 K, .slice aN3 nN3 kN3, .slice aU3 nU3 kU3, .int .i64 A, .slice aQ9 nQ9 kQ9, .slice aS7 nS7 kS7, .int .i64 D2] := V10x; clear V10x; clear d0 d1 d2 d3 d4 d5 d6; obtain ⟨d0, d1, d2, d3, d4, d5, d6⟩ := cells7c V10; replace V4 := vblk_only V4 hO10 (by omega); replace oR := oR.only hO10 V8 (by decide) (by decide); replace oQ9 := oQ9.only hO10 V8 (by decide); replace oS7 := sk.Own.keep oS7 (fun k x y => hO10.2.1 k (by omega)) (Nat.le_of_eq hO10.1.symm); have hB110 := hB19.trans (hO10.2.2 _ (by omega)); have hz910 := Nat.le_of_eq hO10.1.symm; have hy910 := Nat.le_of_eq hO10.1) | (refine wpList_store_v rfl 32 _ _ rfl b4 [.int .i64 K, .slice aN3 nN3 kN3, .slice aU3 nU3 kU3, .int .i64 A, .slice aQ9 nQ9 kQ9, .slice aS7 nS7 kS7, .int .i64 D2] rfl rfl sizeCh V4 rfl (by simp [Value.oneCell']) ?_; intro wz hOz Vz; have hBz := hB110.trans (hOz.2.2 _ (by omega))) | (fail))
        have zz := Nat.le_of_eq hOz.1.symm
        exact row_retv rfl rfl Vz Try.underlying32 sizeCh rfl ⟨_, _, _, _, rfl, ⟨⟨l1, h1, _, _, _, _, oR.only hOz V4 (by decide) (by decide), oQ9.only hOz V4 (by decide), sk.Own.keep oS7 (fun k x y => hOz.2.1 k (by omega)) zz, ⟨by omega, by omega, by omega, by omega, by omega, by omega⟩, by omega, by omega, by omega⟩, Nat.le_refl _⟩, hBz⟩
end Go.Proofs.Ytmnjmghlkiljhaa.rg
/- Mathematics: what Sees tells is modest. -/
namespace Go.Proofs.Ytmnjmghlkiljhaa.rg
open Go.ChangeShapes Go.WideShapes Go.ChangeAt Go.RowKit
open Go.Proofs.Ytmnjmghlkiljhaa.ce Go.Proofs.Ytmnjmghlkiljhaa.ro
set_option linter.unusedVariables false
theorem OwnL.below {w w' : World} {lo hi B : Nat} {vN vU vQ vS : Value} {c : Ch} (h : OwnL w lo hi vN vU vQ vS c) (hb : Below B w w') (hB : hi ≤ B) : OwnL w' lo hi vN vU vQ vS c := h.keep (fun k _ y => hb.block k (by omega)) hb.size
theorem plusR_four {R : List (List Int)} (h : sk.Four R) (D : Int) (s : ByteArray) : sk.Four (sk.plusR R D s) := by
  unfold sk.plusR
  split
  · exact sk.halfR_four (sk.addR_four h)
  · exact sk.addR_four h
theorem seX_mod (c : Ch) (s : ByteArray) : Mod (seX c s) ∧ (∀ x ∈ (seX c s).R.N, x.size ≤ 9223372036854775807) ∧ ∀ x ∈ (seX c s).Q, x.size ≤ 9223372036854775807 := by
  unfold seX
  cases h : chB c with
  | false => exact ⟨⟨Nat.zero_le _, Nat.zero_le _, Nat.zero_le _, ⟨Nat.zero_le _, fun xs hx => by cases hx⟩⟩, fun x hx => (by cases hx), fun x hx => (by cases hx)⟩
  | true =>
    rw [if_pos rfl]
    obtain ⟨hsk, hr, hq, hway⟩ := chB_parts h
    have hok := seeH_ok (c := ⟨c.K, c.R, c.Q⟩) ⟨hr, hq, hway⟩ s
    have r1 := hok.r.le
    have r2 := hok.r.us
    have q1 := hok.q.2.2
    have hS : sk.Four (if nameB s = true then sk.plusR c.S c.D s else c.S) := by
      split
      · exact plusR_four hsk.four _ _
      · exact hsk.four
    refine ⟨⟨?_, ?_, ?_, hS.modest⟩, fun x hx => ?_, fun x hx => ?_⟩
    · show (seeH ⟨c.K, c.R, c.Q⟩ s).R.N.length ≤ _; omega
    · show (seeH ⟨c.K, c.R, c.Q⟩ s).R.U.length ≤ _; omega
    · show (seeH ⟨c.K, c.R, c.Q⟩ s).Q.length ≤ _; omega
    · have := nameB_size (hok.r.nm x hx); omega
    · have := nameB_size (hok.q.1 x hx); omega
end Go.Proofs.Ytmnjmghlkiljhaa.rg
/- Contract of the laws' helper hasText, where the text is not there. -/
namespace Go.Proofs.Ytmnjmghlkiljhaa.rg
open Go.ChangeShapes Go.WideShapes Go.ChangeAt Go.RowKit
open Go.Proofs.Ytmnjmghlkiljhaa.ce Go.Proofs.Ytmnjmghlkiljhaa.ro
set_option linter.unusedVariables false

theorem hasText_no (N : List ByteArray) (s : ByteArray) (v : Value) (w : World) (r : Rd encS w v N) (hs : s ∉ N) :
    Calls Try.prog 24 #[v, .string s] w fun e w' => e = .returned (.bool false) ∧ w' = w := by
  have hl := r.len
  obtain ⟨a, cap, rfl⟩ := r.form
  have R : Hid (Rd encS w (.slice a N.length cap) N) := r
  have HS : Hid (s ∉ N) := hs
  clear r hs
  go_enter Try.func24, Try.ntmps24
  go_wp2
  go_loop [5] (fun p => ∃ i : Nat, i ≤ N.length ∧ p = .int .i64 i) (fun p => N.length - (intOf p).toNat)
  case atStart => exact ⟨0, by omega, rfl⟩
  case round =>
    obtain ⟨i, hi1, rfl⟩ := hrel
    by_cases hlt : i < N.length
    · obtain ⟨b, off, rfl, hb, d0⟩ := rdS_cell R.out i hlt
      have hlt' : (i : Int) < (N.length : Int) := by omega
      have hne : N[i] ≠ s := fun e => HS.out (e ▸ List.getElem_mem hlt)
      obtain ⟨z, hz⟩ := hid_ex (N[i])
      rw [hz.out] at d0 hne
      have hbe : (z.toList == s.toList) = false := by simpa using fun e => hne (str_eq e)
      clear hne
      go_wp2
      go_round
      case rel => exact ⟨i + 1, by omega, by go_num⟩
      case measure => simp [intOf]; omega
    · have hlt' : ¬ (i : Int) < (N.length : Int) := by omega
      go_wp2
      go_ret
      exact ⟨rfl, rfl⟩
end Go.Proofs.Ytmnjmghlkiljhaa.rg
/- Contracts of the laws' helpers: like rings; a text that is not in a row. -/
namespace Go.Proofs.Ytmnjmghlkiljhaa.rg
open Go.ChangeShapes Go.WideShapes Go.ChangeAt Go.RowKit
open Go.Proofs.Ytmnjmghlkiljhaa.ce Go.Proofs.Ytmnjmghlkiljhaa.ro
set_option linter.unusedVariables false

set_option maxRecDepth 100000 in
set_option maxHeartbeats 1000000 in
theorem likeRing_any (r : Rg) (vN vU vN' vU' : Value) (w : World) (hn : Rd encS w vN r.N) (hu : Rd encB w vU r.U) (hn' : Rd encS w vN' r.N) (hu' : Rd encB w vU' r.U) :
    Calls Try.prog 59 #[.agg #[vN, vU, .int .i64 r.A], .agg #[vN', vU', .int .i64 r.A]] w fun e w' => e = .returned (.bool true) ∧ Below w.heap.size w w' := by
  have hlU := hu.len
  obtain ⟨a, cap, rfl⟩ := hn.form
  obtain ⟨c, dc, rfl⟩ := hu.form
  obtain ⟨a', cap', rfl⟩ := hn'.form
  obtain ⟨c', dc', rfl⟩ := hu'.form
  have R1 : Hid (Rd encS w (.slice a r.N.length cap) r.N) := hn
  have R2 : Hid (Rd encB w (.slice c r.U.length dc) r.U) := hu
  have R3 : Hid (Rd encS w (.slice a' r.N.length cap') r.N) := hn'
  have R4 : Hid (Rd encB w (.slice c' r.U.length dc') r.U) := hu'
  clear hn hu hn' hu'
  have hAA : (r.A != r.A) = false := by simp
  have hnn : ((r.U.length : Int) != (r.U.length : Int)) = false := by simp
  have m1 : Hid True := trivial
  have m2 : Hid True := trivial
  go_enter Try.func59, Try.ntmps59
  go_wp2_with (first | (clear m1; refine wpList_box_v rfl 27 _ rfl [.slice a r.N.length cap, .slice c r.U.length dc, .int .i64 r.A] rfl ?_; intro b1 w1 hb1 hw1 hB1 V1; have hz1 := hB1.size) | (clear m2; refine wpList_box_v rfl 27 _ rfl [.slice a' r.N.length cap', .slice c' r.U.length dc', .int .i64 r.A] rfl ?_; intro b2 w2 hb2 hw2 hB2 V2; have hz2 := hB2.size; replace V1 := vblk_grow V1 hB2; have hB := hB1.trans (hB2.mono hz1); obtain ⟨c0, c1, c2⟩ := cells3 V1; obtain ⟨d0, d1, d2⟩ := cells3 V2) | (go_at_call 20; refine (likeTexts_any r.N _ _ _ (R1.out.grow hB) (R3.out.grow hB)).mono ?_; rintro e w3 ⟨rfl, hB3⟩; have hz3 := hB3.size; replace V1 := vblk_grow V1 hB3; replace V2 := vblk_grow V2 hB3; replace hB := hB.trans (hB3.mono (by omega)); clear c0 c1 c2 d0 d1 d2; obtain ⟨c0, c1, c2⟩ := cells3 V1; obtain ⟨d0, d1, d2⟩ := cells3 V2) | (fail))
  clear c0 c1 c2 d0 d1 d2
  go_loopw [5] (fun v' wr => ∃ i : Nat, i ≤ r.U.length ∧ v' = .int .i64 i ∧ Below w3.heap.size w3 wr) (fun v' _ => r.U.length - (intOf v').toNat)
  case atStart => exact ⟨0, by omega, rfl, Below.refl _ _⟩
  case round =>
    obtain ⟨i, hi1, rfl, hBr⟩ := hrel
    have hBw := hB.trans (hBr.mono (by omega))
    obtain ⟨c0, c1, c2⟩ := cells3 (vblk_grow V1 hBr)
    obtain ⟨d0, d1, d2⟩ := cells3 (vblk_grow V2 hBr)
    by_cases hlt : i < r.U.length
    · obtain ⟨b, off, rfl, hb, f0⟩ := rdB_cell (R2.out.grow hBw) i hlt
      obtain ⟨b', off', rfl, hb', g0⟩ := rdB_cell (R4.out.grow hBw) i hlt
      obtain ⟨z, hz⟩ := hid_ex (r.U[i])
      rw [hz.out] at f0 g0
      have hlt' : (i : Int) < r.U.length := by omega
      have hzz : (z != z) = false := by simp
      go_wp2
      go_region_held3 (fun w' => w'.cell? ⟨b, off + i, none⟩ = some (.bool z) ∧ w'.cell? ⟨b', off' + i, none⟩ = some (.bool z) ∧ w'.cell? ⟨b1, 1, none⟩ = some (.slice (some ⟨b, off, none⟩) r.U.length dc) ∧ w'.cell? ⟨b2, 1, none⟩ = some (.slice (some ⟨b', off', none⟩) r.U.length dc')) (first | assumption | exact ⟨f0, g0, c1, d1⟩) (fail)
      go_wp2
      go_roundw
      case rel => exact ⟨i + 1, by omega, by go_num, hBr.drew⟩
      case measure => simp [intOf]; omega
    · have hlt' : ¬ (i : Int) < (r.U.length : Int) := by omega
      go_wp2
      go_ret
      exact ⟨rfl, hBw⟩

end Go.Proofs.Ytmnjmghlkiljhaa.rg
/- The laws' helper hasText. -/
namespace Go.Proofs.Ytmnjmghlkiljhaa.rg
open Go.ChangeShapes Go.WideShapes Go.ChangeAt Go.RowKit
open Go.Deep Go.Joins
open Go.Proofs.Ytmnjmghlkiljhaa.ce Go.Proofs.Ytmnjmghlkiljhaa.ro
set_option linter.unusedVariables false

theorem hasText_is (N : List ByteArray) (s : ByteArray) (v : Value) (y : Bool) (hy : Hid (y = true ↔ s ∈ N)) (w : World) (r : Rd encS w v N) :
    Calls Try.prog 24 #[v, .string s] w fun e w' => e = .returned (.bool y) ∧ w' = w := by
  have hl := r.len
  obtain ⟨a, cap, rfl⟩ := r.form
  have R : Hid (Rd encS w (.slice a N.length cap) N) := r
  clear r
  go_enter Try.func24, Try.ntmps24
  go_wp2
  go_loop [5] (fun p => ∃ i : Nat, i ≤ N.length ∧ p = .int .i64 i ∧ Hid (∀ j (h : j < N.length), j < i → N[j] ≠ s)) (fun p => N.length - (intOf p).toNat)
  case atStart => exact ⟨0, by omega, rfl, fun j h hj => by omega⟩
  case round =>
    obtain ⟨i, hi1, rfl, hno⟩ := hrel
    by_cases hlt : i < N.length
    · obtain ⟨b, off, rfl, hb, d0⟩ := rdS_cell R.out i hlt
      have hlt' : (i : Int) < (N.length : Int) := by omega
      by_cases he : N[i] = s
      · have ey : y = true := hy.out.2 (he ▸ List.getElem_mem hlt)
        rw [he] at d0
        have hbe : (s.toList == s.toList) = true := by simp
        subst ey
        clear he
        go_wp2
        go_ret
        exact ⟨rfl, rfl⟩
      · have hno2 : Hid (∀ j (h : j < N.length), j < i + 1 → N[j] ≠ s) := fun j h hj => by
          by_cases q : j = i
          · subst q; exact he
          · exact hno.out j h (by omega)
        obtain ⟨z, hz⟩ := hid_ex (N[i])
        rw [hz.out] at d0 he
        have hbe : (z.toList == s.toList) = false := by simpa using fun e => he (str_eq e)
        clear he
        go_wp2
        go_round
        case rel => exact ⟨i + 1, by omega, by go_num, hno2⟩
        case measure => simp [intOf]; omega
    · have hlt' : ¬ (i : Int) < (N.length : Int) := by omega
      have ey : y = false := by
        cases y with
        | false => rfl
        | true =>
          obtain ⟨j, hj, e⟩ := List.mem_iff_getElem.1 (hy.out.1 rfl)
          exact absurd e (hno.out j hj (by omega))
      subst ey
      go_wp2
      go_ret
      exact ⟨rfl, rfl⟩
end Go.Proofs.Ytmnjmghlkiljhaa.rg
/- Contracts of the laws' likeInts and likeSketch, where both hold the same. -/
namespace Go.Proofs.Ytmnjmghlkiljhaa.sk
open Go.ChangeShapes Go.WideShapes Go.ChangeAt Go.RowKit
set_option linter.unusedVariables false

/-- a row is held against one that holds the same numbers -/
theorem likeRow (xs : List Int) (a a' : Option Addr) (c c' : Nat) (w : World) (lo hi lo' hi' : Nat) (hh : hi ≤ w.heap.size) (hh' : hi' ≤ w.heap.size) (hr : RowR w lo hi a xs) (hr' : RowR w lo' hi' a' xs) :
    Calls Try.prog 105 #[.slice a xs.length c, .slice a' xs.length c'] w fun e w' => e = .returned (.bool true) ∧ Below w.heap.size w w' := by
  have hxm := hr.1
  unfold maxLen at hxm
  have hR1 : Hid (RowR w lo hi a xs) := hr
  have hR2 : Hid (RowR w lo' hi' a' xs) := hr'
  clear hr hr'
  go_enter Try.func105, Try.ntmps105
  go_wp2
  go_loopw [5] (fun v' wr => ∃ i : Nat, i ≤ xs.length ∧ v' = .int .i64 i ∧ Below w.heap.size w wr) (fun v' _ => xs.length - (intOf v').toNat)
  case atStart => exact ⟨0, by omega, rfl, Below.refl _ _⟩
  case round =>
    obtain ⟨i, hi1, rfl, hBr⟩ := hrel
    by_cases hlt : i < xs.length
    · obtain ⟨b, off, rfl, -, hb, hrange⟩ := rd_row hR1.out (by omega)
      obtain ⟨b', off', rfl, -, hb', hrange'⟩ := rd_row hR2.out (by omega)
      obtain ⟨z, hz⟩ : ∃ z, xs[i] = z := ⟨_, rfl⟩
      have hcz : wr.cell? ⟨b, off + i, none⟩ = some (.int .i64 z) := by rw [hBr.cell (by show b < _; omega), range_cell hrange i hlt, hz]
      have hcz' : wr.cell? ⟨b', off' + i, none⟩ = some (.int .i64 z) := by rw [hBr.cell (by show b' < _; omega), range_cell hrange' i hlt, hz]
      have hlt' : (i : Int) < xs.length := by omega
      clear hrange hrange' hz
      go_wp2
      go_region_held3 (fun w' => w'.cell? ⟨b, off + i, none⟩ = some (.int .i64 z) ∧ w'.cell? ⟨b', off' + i, none⟩ = some (.int .i64 z)) (first | assumption | exact ⟨hcz, hcz'⟩) (fail)
      go_wp2
      go_roundw
      case rel => exact ⟨i + 1, by omega, by go_num, hBr.drew⟩
      case measure => simp [intOf]; omega
    · go_wp2
      go_ret
      exact ⟨rfl, hBr⟩

theorem likeSketch_any (R : List (List Int)) (adds : Int) (v v' : Value) (w : World) (lo hi lo' hi' : Nat) (hh : hi ≤ w.heap.size) (hh' : hi' ≤ w.heap.size) (hv : Rd w lo hi v R) (hv' : Rd w lo' hi' v' R) :
    Calls Try.prog 60 #[skv v adds, skv v' adds] w fun e w' => e = .returned (.bool true) ∧ Below w.heap.size w w' := by
  obtain ⟨hRl, a, cap, rfl, hrows⟩ := hv
  obtain ⟨-, a', cap', rfl, hrows'⟩ := hv'
  unfold maxLen at hRl
  obtain ⟨b, off, hA0, hC0⟩ := rd_at (n := 0) (c := 0) hrows
  obtain ⟨b', off', hA0', hC0'⟩ := rd_at (n := 0) (c := 0) hrows'
  have hA : Hid (R ≠ [] → a = some ⟨b, off, none⟩ ∧ b < hi) := hA0
  have hA' : Hid (R ≠ [] → a' = some ⟨b', off', none⟩ ∧ b' < hi') := hA0'
  have hC : Hid (∀ i (h : i < R.length), ∃ a' c', w.cell? ⟨b, off + i, none⟩ = some (.slice a' (R[i]).length c') ∧ RowR w lo hi a' R[i]) := hC0
  have hC' : Hid (∀ i (h : i < R.length), ∃ a' c', w.cell? ⟨b', off' + i, none⟩ = some (.slice a' (R[i]).length c') ∧ RowR w lo' hi' a' R[i]) := hC0'
  clear hA0 hC0 hrows hA0' hC0' hrows'
  have m0 : Hid True := trivial
  go_enter Try.func60, Try.ntmps60
  go_wp2_with (first | (clear m0; refine wpList_box_v rfl 30 _ rfl [.slice a R.length cap, .int .i64 adds] rfl ?_; intro b1 w1 hb1 hw1 hB1 hV1) | (refine wpList_box_v rfl 30 _ rfl [.slice a' R.length cap', .int .i64 adds] rfl ?_; intro b2 w2 hb2 hw2 hB2 hV2; replace hV1 := hV1.below hB2 hw1; have hc0 := hV1.cell 0 (by simp); have hc1 := hV1.cell 1 (by simp); have hd0 := hV2.cell 0 (by simp); have hd1 := hV2.cell 1 (by simp); simp only [List.getElem_cons_zero, List.getElem_cons_succ] at hc0 hc1 hd0 hd1))
  have h1 := hB1.size
  have h2 := hB2.size
  have hB : Below w.heap.size w w2 := hB1.trans (hB2.mono h1)
  clear hc0 hc1 hd0 hd1
  go_loopw [5] (fun q wr => ∃ i : Nat, i ≤ R.length ∧ q = .int .i64 i ∧ VBlk wr b1 30 [.slice a R.length cap, .int .i64 adds] ∧ VBlk wr b2 30 [.slice a' R.length cap', .int .i64 adds] ∧ Below w.heap.size w wr) (fun q _ => R.length - (intOf q).toNat)
  case atStart => exact ⟨0, by omega, rfl, hV1, hV2, hB⟩
  case round =>
    obtain ⟨i, hi1, rfl, hv1, hv2, hBr⟩ := hrel
    have hc0 := hv1.cell 0 (by simp)
    have hd0 := hv2.cell 0 (by simp)
    simp only [List.getElem_cons_zero] at hc0 hd0
    by_cases hlt : i < R.length
    · have hne : R ≠ [] := by intro e; rw [e] at hlt; simp at hlt
      obtain ⟨ra, rc, hcell0, hrow0⟩ := hC.out i hlt
      obtain ⟨ra', rc', hcell0', hrow0'⟩ := hC'.out i hlt
      obtain ⟨rfl, hbh⟩ := hA.out hne
      obtain ⟨rfl, hbh'⟩ := hA'.out hne
      obtain ⟨xs, hxs⟩ : ∃ xs, R[i] = xs := ⟨_, rfl⟩
      rw [hxs] at hcell0 hrow0 hcell0' hrow0'
      have hcell : wr.cell? ⟨b, off + i, none⟩ = some (.slice ra xs.length rc) := by rw [hBr.cell (by show b < _; omega)]; exact hcell0
      have hcell' : wr.cell? ⟨b', off' + i, none⟩ = some (.slice ra' xs.length rc') := by rw [hBr.cell (by show b' < _; omega)]; exact hcell0'
      have hrow : Hid (RowR wr.drew lo hi ra xs) := (hrow0.keep (Same.of_below hBr.drew hh))
      have hrow' : Hid (RowR wr.drew lo' hi' ra' xs) := (hrow0'.keep (Same.of_below hBr.drew hh'))
      clear hcell0 hrow0 hcell0' hrow0' hxs hne
      have hbr := hBr.size
      have lv1 := hv1.lt
      have lv2 := hv2.lt
      have hlt' : (i : Int) < R.length := by omega
      go_wp2
      go_region_held3 (fun w' => w'.cell? ⟨b1, 0, none⟩ = some (.slice (some ⟨b, off, none⟩) R.length cap) ∧ w'.cell? ⟨b2, 0, none⟩ = some (.slice (some ⟨b', off', none⟩) R.length cap') ∧ w'.cell? ⟨b, off + i, none⟩ = some (.slice ra xs.length rc) ∧ w'.cell? ⟨b', off' + i, none⟩ = some (.slice ra' xs.length rc')) (first | assumption | exact ⟨hc0, hd0, hcell, hcell'⟩ | exact ⟨hc5a, hd5a, hc5, hc5'⟩) (first | (go_at_call 105; refine (likeRow xs ra ra' rc rc' wr.drew lo hi lo' hi' (by show hi ≤ wr.heap.size; omega) (by show hi' ≤ wr.heap.size; omega) hrow.out hrow'.out).mono ?_; rintro e w5 ⟨rfl, hB5⟩; have hv15 := VBlk.below (w := wr.drew) hv1 hB5 lv1; have hv25 := VBlk.below (w := wr.drew) hv2 hB5 lv2; have hc5a := hv15.cell 0 (by simp); have hd5a := hv25.cell 0 (by simp); simp only [List.getElem_cons_zero] at hc5a hd5a; have hc5 : w5.cell? ⟨b, off + i, none⟩ = some (.slice ra xs.length rc) := (by rw [hB5.cell (by show b < wr.heap.size; omega)]; exact hcell); have hc5' : w5.cell? ⟨b', off' + i, none⟩ = some (.slice ra' xs.length rc') := (by rw [hB5.cell (by show b' < wr.heap.size; omega)]; exact hcell')) | (fail))
      go_wp2
      go_roundw
      case rel => exact ⟨i + 1, by omega, by go_num, hv15, hv25, hBr.drew.trans (hB5.mono hbr)⟩
      case measure => simp [intOf]; omega
    · go_wp2
      go_ret
      exact ⟨rfl, hBr⟩

end Go.Proofs.Ytmnjmghlkiljhaa.sk
/- The law FnChoices: likeChoice; what Sees, Forgets and NewChoice tell, as it can be read; what the law says of choices. -/
namespace Go.Proofs.Ytmnjmghlkiljhaa.rg
open Go.ChangeShapes Go.WideShapes Go.ChangeAt Go.RowKit
open Go.Deep Go.Joins
open Go.Proofs.Ytmnjmghlkiljhaa.ce Go.Proofs.Ytmnjmghlkiljhaa.ro
set_option linter.unusedVariables false
set_option linter.unusedSimpArgs false

set_option maxRecDepth 100000 in
set_option maxHeartbeats 4000000 in
theorem likeChoice_any (c : Ch) (vN vU vQ vS vN2 vU2 vQ2 vS2 : Value) (w : World) (h : RdC w vN vU vQ vS c) (h2 : RdC w vN2 vU2 vQ2 vS2 c) :
    Calls Try.prog 15 #[.agg #[.int .i64 c.K, vN, vU, .int .i64 c.R.A, vQ, vS, .int .i64 c.D], .agg #[.int .i64 c.K, vN2, vU2, .int .i64 c.R.A, vQ2, vS2, .int .i64 c.D]] w fun e w' => e = .returned (.bool true) ∧ Below w.heap.size w w' := by
  obtain ⟨⟨aN, nN, kN, rfl⟩, ⟨aU, nU, kU, rfl⟩, ⟨aQ, nQ, kQ, rfl⟩, ⟨aS, nS, kS, rfl⟩⟩ := h.forms
  obtain ⟨⟨aN2, nN2, kN2, rfl⟩, ⟨aU2, nU2, kU2, rfl⟩, ⟨aQ2, nQ2, kQ2, rfl⟩, ⟨aS2, nS2, kS2, rfl⟩⟩ := h2.forms
  have R1 : Hid (RdC w (.slice aN nN kN) (.slice aU nU kU) (.slice aQ nQ kQ) (.slice aS nS kS) c) := h
  have R2 : Hid (RdC w (.slice aN2 nN2 kN2) (.slice aU2 nU2 kU2) (.slice aQ2 nQ2 kQ2) (.slice aS2 nS2 kS2) c) := h2
  clear h h2
  have hKK : (c.K == c.K) = true := by simp
  have m1 : Hid True := trivial
  have m2 : Hid True := trivial
  go_enter Try.func15, Try.ntmps15
  go_wp2_with (first | (clear m1; refine wpList_box_v rfl 32 _ rfl [.int .i64 c.K, .slice aN nN kN, .slice aU nU kU, .int .i64 c.R.A, .slice aQ nQ kQ, .slice aS nS kS, .int .i64 c.D] rfl ?_; intro b1 w1 hb1 hw1 hB1 V1; have hz1 := hB1.size) | (clear m2; refine wpList_box_v rfl 32 _ rfl [.int .i64 c.K, .slice aN2 nN2 kN2, .slice aU2 nU2 kU2, .int .i64 c.R.A, .slice aQ2 nQ2 kQ2, .slice aS2 nS2 kS2, .int .i64 c.D] rfl ?_; intro b2 w2 hb2 hw2 hB2 V2; replace V1 := vblk_grow V1 hB2; have hB12 := hB1.trans (hB2.mono hz1); have hz2 := hB12.size; obtain ⟨c0, c1, c2, c3, c4, c5, c6⟩ := cells7c V1; obtain ⟨d0, d1, d2, d3, d4, d5, d6⟩ := cells7c V2) | (go_at_call 59; refine (likeRing_any c.R _ _ _ _ w2 (R1.out.grow hB12).r.n (R1.out.grow hB12).r.u (R2.out.grow hB12).r.n (R2.out.grow hB12).r.u).mono ?_; rintro e w3 ⟨rfl, hB3⟩; replace V1 := vblk_grow V1 hB3; replace V2 := vblk_grow V2 hB3; have hB13 := hB12.trans (hB3.mono hz2); have hz3 := hB13.size; clear c0 c1 c2 c3 c4 c5 c6 d0 d1 d2 d3 d4 d5 d6; obtain ⟨c0, c1, c2, c3, c4, c5, c6⟩ := cells7c V1; obtain ⟨d0, d1, d2, d3, d4, d5, d6⟩ := cells7c V2) | (go_at_call 20; refine (likeTexts_any c.Q _ _ w3 (R1.out.grow hB13).q (R2.out.grow hB13).q).mono ?_; rintro e w4 ⟨rfl, hB4⟩; replace V1 := vblk_grow V1 hB4; replace V2 := vblk_grow V2 hB4; have hB14 := hB13.trans (hB4.mono hz3); have hz4 := hB14.size; clear c0 c1 c2 c3 c4 c5 c6 d0 d1 d2 d3 d4 d5 d6; obtain ⟨c0, c1, c2, c3, c4, c5, c6⟩ := cells7c V1; obtain ⟨d0, d1, d2, d3, d4, d5, d6⟩ := cells7c V2) | (go_at_call 60; refine (sk.likeSketch_any c.S c.D _ _ w4 0 w4.heap.size 0 w4.heap.size (Nat.le_refl _) (Nat.le_refl _) (R1.out.grow hB14).s (R2.out.grow hB14).s).mono ?_; rintro e w5 ⟨rfl, hB5⟩; have hB15 := hB14.trans (hB5.mono hz4)) | (fail))
  go_ret
  exact ⟨rfl, hB15⟩
/-- a choice is told -/
def PostR (c : Ch) (w : World) (e : Ending) (w' : World) : Prop := ∃ aN nN kN aU nU kU aQ nQ kQ aS nS kS, e = .returned (.agg #[.int .i64 c.K, .slice aN nN kN, .slice aU nU kU, .int .i64 c.R.A, .slice aQ nQ kQ, .slice aS nS kS, .int .i64 c.D]) ∧ RdC w' (.slice aN nN kN) (.slice aU nU kU) (.slice aQ nQ kQ) (.slice aS nS kS) c ∧ Below w.heap.size w w'
theorem postR_of {c : Ch} {w w' : World} {e : Ending} {vN vU vQ vS : Value} (he : e = .returned (.agg #[.int .i64 c.K, vN, vU, .int .i64 c.R.A, vQ, vS, .int .i64 c.D])) (r : RdC w' vN vU vQ vS c) (hB : Below w.heap.size w w') : PostR c w e w' := by
  obtain ⟨⟨aN, nN, kN, rfl⟩, ⟨aU, nU, kU, rfl⟩, ⟨aQ, nQ, kQ, rfl⟩, ⟨aS, nS, kS, rfl⟩⟩ := r.forms
  exact ⟨aN, nN, kN, aU, nU, kU, aQ, nQ, kQ, aS, nS, kS, he, r, hB⟩
theorem implSees_r (c : Ch) (s : ByteArray) (hs : s.size ≤ 9223372036854775807) (X : Ch) (hX : Hid (seX c s = X)) (vN vU vQ vS : Value) (w : World) (h : RdC w vN vU vQ vS c) :
    Calls Try.prog 9 #[.agg #[.int .i64 c.K, vN, vU, .int .i64 c.R.A, vQ, vS, .int .i64 c.D], .string s] w fun e w' => PostR X w e w' := by
  refine (implSees_any c s hs vN vU vQ vS w h).mono ?_
  rintro e w' ⟨_, _, _, _, he, o, hB⟩
  rw [hX.out] at he o
  have m := seX_mod c s
  rw [hX.out] at m
  exact postR_of he (o.rd m.2.1 m.2.2) hB
theorem specSees_r (c : Ch) (s : ByteArray) (hs : s.size ≤ 9223372036854775807) (X : Ch) (hX : Hid (seX c s = X)) (vN vU vQ vS : Value) (w : World) (h : RdC w vN vU vQ vS c) :
    Calls Try.prog 16 #[.agg #[.int .i64 c.K, vN, vU, .int .i64 c.R.A, vQ, vS, .int .i64 c.D], .string s] w fun e w' => PostR X w e w' := by
  refine (specSees_any c s hs vN vU vQ vS w h).mono ?_
  rintro e w' ⟨_, _, _, _, he, o, hB⟩
  rw [hX.out] at he o
  have m := seX_mod c s
  rw [hX.out] at m
  exact postR_of he (o.rd m.2.1 m.2.2) hB
theorem implForgets_r (c : Ch) (s : ByteArray) (X : Ch) (hX : Hid (fgX c s = X)) (vN vU vQ vS : Value) (w : World) (h : RdC w vN vU vQ vS c) :
    Calls Try.prog 11 #[.agg #[.int .i64 c.K, vN, vU, .int .i64 c.R.A, vQ, vS, .int .i64 c.D], .string s] w fun e w' => PostR X w e w' := by
  refine (implForgets_any c s vN vU vQ vS w h).mono ?_
  rintro e w' ⟨_, _, _, _, he, o, hB⟩
  rw [hX.out] at he o
  have m := fgX_mod c s
  rw [hX.out] at m
  exact postR_of he (o.rd m.2.1 m.2.2) hB
theorem specForgets_r (c : Ch) (s : ByteArray) (X : Ch) (hX : Hid (fgX c s = X)) (vN vU vQ vS : Value) (w : World) (h : RdC w vN vU vQ vS c) :
    Calls Try.prog 17 #[.agg #[.int .i64 c.K, vN, vU, .int .i64 c.R.A, vQ, vS, .int .i64 c.D], .string s] w fun e w' => PostR X w e w' := by
  refine (specForgets_any c s vN vU vQ vS w h).mono ?_
  rintro e w' ⟨_, _, _, _, he, o, hB⟩
  rw [hX.out] at he o
  have m := fgX_mod c s
  rw [hX.out] at m
  exact postR_of he (o.rd m.2.1 m.2.2) hB
/-- a choice and a yes are told -/
def PostRB (c : Ch) (y : Bool) (w : World) (e : Ending) (w' : World) : Prop := ∃ aN nN kN aU nU kU aQ nQ kQ aS nS kS, e = .returned (.tuple #[.agg #[.int .i64 c.K, .slice aN nN kN, .slice aU nU kU, .int .i64 c.R.A, .slice aQ nQ kQ, .slice aS nS kS, .int .i64 c.D], .bool y]) ∧ RdC w' (.slice aN nN kN) (.slice aU nU kU) (.slice aQ nQ kQ) (.slice aS nS kS) c ∧ Below w.heap.size w w'
theorem newC_no {k : Int} {w : World} {vN vU vQ vS : Value} {lo hi : Nat} (o : OwnC w lo hi vN vU vQ vS (cpC (newC k))) : RdC w vN vU vQ vS (cpC (newC k)) := by
  have hz : (∀ s ∈ (cpC (newC k)).R.N, s.size ≤ 9223372036854775807) ∧ ∀ s ∈ (cpC (newC k)).Q, s.size ≤ 9223372036854775807 := by
    unfold cpC
    split <;> exact ⟨fun s hs => (by cases hs), fun s hs => (by cases hs)⟩
  exact o.rd hz.1 hz.2
theorem implNewChoice_r (k : Int) (Z : Ch) (hZ : Hid (cpC (newC k) = Z)) (y : Bool) (hy : Hid (chB (newC k) = y)) (w : World) : Calls Try.prog 13 #[.int .i64 k] w fun e w' => PostRB Z y w e w' := by
  refine (implNewChoice_any k w).mono ?_
  rintro e w' ⟨_, _, _, _, he, o, hB⟩
  have r := newC_no o
  rw [hZ.out] at he r
  rw [hy.out] at he
  obtain ⟨⟨aN, nN, kN, rfl⟩, ⟨aU, nU, kU, rfl⟩, ⟨aQ, nQ, kQ, rfl⟩, ⟨aS, nS, kS, rfl⟩⟩ := r.forms
  exact ⟨aN, nN, kN, aU, nU, kU, aQ, nQ, kQ, aS, nS, kS, he, r, hB⟩
theorem specNewChoice_r (k : Int) (Z : Ch) (hZ : Hid (cpC (newC k) = Z)) (y : Bool) (hy : Hid (chB (newC k) = y)) (w : World) : Calls Try.prog 23 #[.int .i64 k] w fun e w' => PostRB Z y w e w' := by
  refine (specNewChoice_any k w).mono ?_
  rintro e w' ⟨_, _, _, _, he, o, hB⟩
  have r := newC_no o
  rw [hZ.out] at he r
  rw [hy.out] at he
  obtain ⟨⟨aN, nN, kN, rfl⟩, ⟨aU, nU, kU, rfl⟩, ⟨aQ, nQ, kQ, rfl⟩, ⟨aS, nS, kS, rfl⟩⟩ := r.forms
  exact ⟨aN, nN, kN, aU, nU, kU, aQ, nQ, kQ, aS, nS, kS, he, r, hB⟩
/-! ### what the law says -/
theorem seX_no {c : Ch} {s : ByteArray} (h : chB c = false) : seX c s = Ch.zero := by unfold seX; rw [h]; rfl
theorem seX_yes {c : Ch} {s : ByteArray} (h : chB c = true) : seX c s = seC c s := by unfold seX; rw [h]; rfl
theorem seC_same {c : Ch} {s : ByteArray} (h : nameB s = false) : seC c s = c := by
  unfold seC seeH
  rw [if_neg (by rw [h]; decide), if_neg (by rw [h]; decide), if_neg (by rw [h]; decide)]
theorem nmC_yes {c : Ch} (h : chB c = true) : nmC c = namesH ⟨c.K, c.R, c.Q⟩ := by unfold nmC; rw [if_pos h]
theorem seC_hc (c : Ch) (s : ByteArray) : (⟨(seC c s).K, (seC c s).R, (seC c s).Q⟩ : Hc) = seeH ⟨c.K, c.R, c.Q⟩ s := by
  have e := seeH_K ⟨c.K, c.R, c.Q⟩ s
  rw [← hc_eta (seeH ⟨c.K, c.R, c.Q⟩ s), e]
  rfl
/-- who is forgotten is not there -/
theorem fg_says {c : Ch} {s : ByteArray} (h : chB c = true) : chB (fgX c s) = true ∧ s ∉ nmC (fgX c s) := by
  have e : fgX c s = fgC c s := by unfold fgX; rw [if_pos h]
  rw [e]
  have h2 := fgC_ok h s
  refine ⟨h2, ?_⟩
  rw [nmC_yes h2, fgC_hc]
  exact (forgetH_ok (chB_hok h).2 s).2
/-- who is seen is there, and all others stay -/
theorem se_says {c : Ch} {s : ByteArray} (h : chB c = true) (hn : nameB s = true) : chB (seX c s) = true ∧ (∀ x ∈ nmC c, x ∈ nmC (seX c s)) ∧ (s ∈ nmC (seX c s) ∨ (nmC c).length = 20) ∧ ((seX c s).D = 0 ∨ 0 < sk.estA (seX c s).S (seX c s).D s) := by
  have h2 := seC_ok h s
  rw [seX_yes h, nmC_yes h, nmC_yes h2, seC_hc]
  obtain ⟨h3, h4⟩ := seeH_says (chB_hok h).2 hn
  refine ⟨h2, h3, h4, ?_⟩
  have hok := (chB_hok h).1
  have hok2 := (chB_hok h2).1
  unfold sk.estA
  rw [if_pos hok2]
  unfold seC
  dsimp only
  rw [if_pos hn, if_pos hn]
  unfold sk.plusN sk.plusR
  by_cases e : c.D = 159
  · rw [if_pos e]; exact .inl rfl
  · rw [if_neg e, if_neg e]
    right
    have := (sk.est_add hok.four hok.small s s).2 rfl
    have h0 := (sk.est_bd hok.four hok.small s).1
    omega
end Go.Proofs.Ytmnjmghlkiljhaa.rg
