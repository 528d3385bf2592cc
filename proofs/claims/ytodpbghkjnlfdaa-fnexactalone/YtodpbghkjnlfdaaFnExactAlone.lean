/- For all cells and hands the program's Alone answers as the model's Alone, it writes into nothing that it was given, and its answer owns its memory, behind another call too (the law itself lets off what is over 1048576 cells): the law's call returns true and its arguments read as before; no condition. -/
import Derived.Test.YtodpbghkjnlfdaaMg04
import Derived.Test.YtodpbghkjnlfdaaMg19
import Derived.Test.YtodpbghkjnlfdaaMg21
import Derived.Test.YtodpbghkjnlfdaaPl12
import Derived.Deep.DeepCutAuto
namespace Go.Proofs.Ytodpbghkjnlfdaa.fnExactAlone
open Go.ChangeShapes Go.WideShapes Go.ChangeAt Go.RowKit
open Go.Proofs.Ytodpbghkjnlfdaa.ce
set_option linter.unusedVariables false

theorem own : ownKnob Try.prog.godebug = none := by kernel_rfl
theorem laidOut : laidOutB Try.prog = true := by kernel_rfl

/-! ### the walk -/
set_option maxRecDepth 100000 in
set_option maxHeartbeats 4000000 in
theorem walk (v : Value) (H : List C) (d : Hd) (w : World) (hvv : Rd w w.heap.size v H) :
    Calls Try.prog 6 #[v, .agg (hv d).toArray] w fun e w' => e = .returned (.bool true) ∧ Below w.heap.size w w' := by
  have hl := hvv.len
  obtain ⟨a, cap, rfl⟩ := hvv.form
  have hV : Hid (Rd w w.heap.size (.slice a H.length cap) H) := hvv
  clear hvv
  obtain ⟨k, x, y, s, l, e, o, t⟩ := d
  obtain ⟨Z, hZ⟩ := hid_ex (aloneP H ⟨k, x, y, s, l, e, o, t⟩)
  have hLl0 : Z.1.length ≤ 1048576 := by rw [← hZ.out]; exact aloneP_le H ⟨k, x, y, s, l, e, o, t⟩
  obtain ⟨L, k9, x9, y9, s9, l9, e9, o9, t9⟩ := Z
  have hLl : L.length ≤ 1048576 := hLl0
  clear hLl0
  have E7 : Hid (aloneP H ⟨k, x, y, s, l, e, o, t⟩ = (L, ⟨k9, x9, y9, s9, l9, e9, o9, t9⟩)) := hZ
  clear hZ
  have hsn : ¬ (1 + 4 * (L.length : Int) < 0) := by omega
  have hsd : decide (1 + 4 * (H.length : Int) < 0) = false := decide_eq_false (by omega)
  have hse : ((1 + 4 * (L.length : Int)) != (1 + 4 * (L.length : Int))) = false := by simp
  have m1 : Hid True := trivial
  go_enter Try.func6, Try.ntmps6
  go_wp2_with (first | (clear m1; refine wpList_box_v rfl 24 _ rfl (hv ⟨k, x, y, s, l, e, o, t⟩) rfl ?_; intro b0 w1 hb0 hw1 hB1 hV1; have hz1 := hB1.size; have ha : HArg w1 b0 ⟨k, x, y, s, l, e, o, t⟩ := ⟨hV1⟩) | (go_at_call 9; refine (szCells _ _ _ hl _).mono ?_; rintro er wq ⟨r, rfl, hq, hr⟩; subst wq; by_cases hneg : r < 0) | (fail))
  · go_ret
    exact ⟨rfl, hB1⟩
  clear hV1
  go_cut [6, 7] (fun p6 p7 wc => ∃ b7 : Nat, p7 = .pointer (some ⟨b7, 0, none⟩) ∧ w1.heap.size ≤ b7 ∧ HB wc b7 ⟨k9, x9, y9, s9, l9, e9, o9, t9⟩ ∧ ce.Own wc w1.heap.size wc.heap.size p6 L ∧ Below w1.heap.size w1 wc)
  case first =>
    refine wp_region_held_drew (S := fun w' => HArg w' b0 ⟨k, x, y, s, l, e, o, t⟩) (by kernel_rfl) ha.drew (fun hHeld => ?_)
    refine takeW 0 22 (.slice a H.length cap) rfl (by kernel_rfl) (by kernel_rfl) (by kernel_rfl) (fun _ _ _ h => h) (by kernel_rfl) (fun w' hS => by go_simp) hHeld ?_
    go_frame
    refine takeW 2 24 (.agg #[.int .i64 k, .int .i64 x, .int .i64 y, .int .i64 s, .int .i64 l, .int .i64 e, .int .i64 o, .int .i64 t]) rfl (by kernel_rfl) (by kernel_rfl) (by kernel_rfl) (fun _ _ _ h => h) (by kernel_rfl) (fun w' hS => by obtain ⟨z0, z1, z2, z3, z4, z5, z6, z7⟩ := HArg.cells hS; go_simp) hHeld ?_
    go_frame
    have hBX : Below w1.heap.size w1 w1.drew := (Below.refl _ _).drew
    have hzX : w1.heap.size ≤ w1.drew.heap.size := Nat.le_refl _
    have hzd : w1.heap.size ≤ w1.drew.heap.size := Nat.le_refl _
    refine wpAnyH_ready (rs := [1, 8]) (by kernel_rfl) (by simp) ?_
    refine AllReadyH.cons rfl (fun K hK => ?_) ( AllReadyH.cons rfl (fun K hK => ?_) AllReadyH.nil)
    · go_simp
      go_at_call 11
      refine (toCells_any H _ w.heap.size w1.drew (by omega) (hV.out.below (hB1.trans (hBX.mono (by omega))) (Nat.le_refl _)) (hr (by omega))).mono ?_
      rintro er X1 ⟨va, rfl, hoa, hBY⟩
      have hzY : w1.drew.heap.size ≤ X1.heap.size := hBY.size
      replace hBX : Below w1.heap.size w1 X1 := hBX.trans (hBY.mono (by omega))
      replace hzX : w1.heap.size ≤ X1.heap.size := hBX.size
      refine hK.out _ _ (ha.below hBX (by omega)) (fun hHeld => ?_)
      try go_frame
      have hi1 : X1.heap.size ≤ X1.heap.size := Nat.le_refl _
      refine wpAnyH_ready (rs := [3, 8]) (by kernel_rfl) (by simp) ?_
      refine AllReadyH.cons rfl (fun K hK => ?_) ( AllReadyH.cons rfl (fun K hK => ?_) AllReadyH.nil)
      · go_simp
        go_at_call 12
        refine (toHand_any ⟨k, x, y, s, l, e, o, t⟩ X1).mono ?_
        rintro er X2 ⟨rfl, hBY⟩
        have hzY : X1.heap.size ≤ X2.heap.size := hBY.size
        dsimp only [hv]
        replace hoa := hoa.below hBY (by omega)
        replace hBX : Below w1.heap.size w1 X2 := hBX.trans (hBY.mono (by omega))
        replace hzX : w1.heap.size ≤ X2.heap.size := hBX.size
        refine hK.out _ _ (ha.below hBX (by omega)) (fun hHeld => ?_)
        try go_frame
        refine wpAnyH_ready (rs := [4, 8]) (by kernel_rfl) (by simp) ?_
        refine AllReadyH.cons rfl (fun K hK => ?_) ( AllReadyH.cons rfl (fun K hK => ?_) AllReadyH.nil)
        · go_simp
          go_at_call 22
          refine (specAlone_any H ⟨k, x, y, s, l, e, o, t⟩ _ X1.heap.size X2 (by omega) hoa.rd).mono ?_
          rintro er X3 ⟨vw, he, how, hBY⟩
          have hzY : X2.heap.size ≤ X3.heap.size := hBY.size
          rw [E7.out] at he how
          subst he
          dsimp only [hv]
          replace hBX : Below w1.heap.size w1 X3 := hBX.trans (hBY.mono (by omega))
          replace hzX : w1.heap.size ≤ X3.heap.size := hBX.size
          refine hK.out _ _ (ha.below hBX (by omega)) (fun hHeld => ?_)
          try go_frame
          refine takeW 5 21 (.tuple #[vw, .agg #[.int .i64 k9, .int .i64 x9, .int .i64 y9, .int .i64 s9, .int .i64 l9, .int .i64 e9, .int .i64 o9, .int .i64 t9]]) rfl (by kernel_rfl) (by kernel_rfl) (by kernel_rfl) (fun _ _ _ h => h) (by kernel_rfl) (fun w' hS => by go_simp) hHeld ?_
          go_frame
          refine takeW 6 27 (vw) rfl (by kernel_rfl) (by kernel_rfl) (by kernel_rfl) (fun _ _ _ h => h) (by kernel_rfl) (fun w' hS => by go_simp) hHeld ?_
          go_frame
          refine takeW 7 28 (.agg #[.int .i64 k9, .int .i64 x9, .int .i64 y9, .int .i64 s9, .int .i64 l9, .int .i64 e9, .int .i64 o9, .int .i64 t9]) rfl (by kernel_rfl) (by kernel_rfl) (by kernel_rfl) (fun _ _ _ h => h) (by kernel_rfl) (fun w' hS => by go_simp) hHeld ?_
          go_frame
          refine wpAnyH_ready (rs := [8]) (by kernel_rfl) (by simp) ?_
          refine AllReadyH.cons rfl (fun K hK => ?_) AllReadyH.nil
          refine step_alloc_v rfl 29 rfl _ zeroH ?_
          intro b7 Xa hb7 hw7 hBY hV7
          have hzY : X3.heap.size ≤ Xa.heap.size := hBY.size
          have h7 : HB Xa b7 ⟨0, 0, 0, 0, 0, 0, 0, 0⟩ := ⟨hV7⟩
          replace hb7 : w1.heap.size ≤ b7 ∧ X3.heap.size ≤ b7 := ⟨by omega, hb7⟩
          have hb7x := hb7.2
          replace hb7 := hb7.1
          replace how := how.below hBY (by omega)
          replace hBX : Below w1.heap.size w1 Xa := hBX.trans (hBY.mono (by omega))
          replace hzX : w1.heap.size ≤ Xa.heap.size := hBX.size
          refine hK.out _ _ (ha.below hBX (by omega)) (fun hHeld => ?_)
          try go_frame
          refine takeW 9 6 (vw) rfl (by kernel_rfl) (by kernel_rfl) (by kernel_rfl) (fun _ _ _ h => h) (by kernel_rfl) (fun w' hS => by go_simp) hHeld ?_
          go_frame
          refine wpAnyH_ready (rs := [10]) (by kernel_rfl) (by simp) ?_
          refine AllReadyH.cons rfl (fun K hK => ?_) AllReadyH.nil
          refine step_store_v rfl 29 _ _ rfl b7 (hv ⟨k9, x9, y9, s9, l9, e9, o9, t9⟩) rfl rfl sizeH h7.blk rfl (hv_one _) ?_
          intro Xs hOs hVs
          have hzs := hOs.1
          refine hK.out _ _ (ha.keep fun j j1 j2 => (hOs.2.1 j (by omega)).trans (hBX.block j (by omega))) (fun _ => ?_)
          refine wpAnyH_done (by kernel_rfl) ?_ _
          go_wp2
          go_meet
          case rel => exact ⟨b7, rfl, hb7, ⟨hVs⟩, (how.keep fun j j1 j2 => hOs.2.1 j (by omega)).wide (by omega) (by omega), hBX.trans (hOs.2.2 _ hb7)⟩
        · refine step_alloc_v rfl 29 rfl _ zeroH ?_
          intro b7 Xa hb7 hw7 hBY hV7
          have hzY : X2.heap.size ≤ Xa.heap.size := hBY.size
          have h7 : HB Xa b7 ⟨0, 0, 0, 0, 0, 0, 0, 0⟩ := ⟨hV7⟩
          replace hb7 : w1.heap.size ≤ b7 ∧ X2.heap.size ≤ b7 := ⟨by omega, hb7⟩
          have hb7x := hb7.2
          replace hb7 := hb7.1
          replace hoa := hoa.below hBY (by omega)
          replace hBX : Below w1.heap.size w1 Xa := hBX.trans (hBY.mono (by omega))
          replace hzX : w1.heap.size ≤ Xa.heap.size := hBX.size
          refine hK.out _ _ (ha.below hBX (by omega)) (fun hHeld => ?_)
          try go_frame
          refine wpAnyH_ready (rs := [4]) (by kernel_rfl) (by simp) ?_
          refine AllReadyH.cons rfl (fun K hK => ?_) AllReadyH.nil
          go_simp
          go_at_call 22
          refine (specAlone_any H ⟨k, x, y, s, l, e, o, t⟩ _ X1.heap.size Xa (by omega) hoa.rd).mono ?_
          rintro er X3 ⟨vw, he, how, hBY⟩
          have hzY : Xa.heap.size ≤ X3.heap.size := hBY.size
          rw [E7.out] at he how
          subst he
          dsimp only [hv]
          replace h7 := h7.below hBY (by omega)
          replace hBX : Below w1.heap.size w1 X3 := hBX.trans (hBY.mono (by omega))
          replace hzX : w1.heap.size ≤ X3.heap.size := hBX.size
          refine hK.out _ _ (ha.below hBX (by omega)) (fun hHeld => ?_)
          try go_frame
          refine takeW 5 21 (.tuple #[vw, .agg #[.int .i64 k9, .int .i64 x9, .int .i64 y9, .int .i64 s9, .int .i64 l9, .int .i64 e9, .int .i64 o9, .int .i64 t9]]) rfl (by kernel_rfl) (by kernel_rfl) (by kernel_rfl) (fun _ _ _ h => h) (by kernel_rfl) (fun w' hS => by go_simp) hHeld ?_
          go_frame
          refine takeW 6 27 (vw) rfl (by kernel_rfl) (by kernel_rfl) (by kernel_rfl) (fun _ _ _ h => h) (by kernel_rfl) (fun w' hS => by go_simp) hHeld ?_
          go_frame
          refine takeW 7 28 (.agg #[.int .i64 k9, .int .i64 x9, .int .i64 y9, .int .i64 s9, .int .i64 l9, .int .i64 e9, .int .i64 o9, .int .i64 t9]) rfl (by kernel_rfl) (by kernel_rfl) (by kernel_rfl) (fun _ _ _ h => h) (by kernel_rfl) (fun w' hS => by go_simp) hHeld ?_
          go_frame
          refine takeW 9 6 (vw) rfl (by kernel_rfl) (by kernel_rfl) (by kernel_rfl) (fun _ _ _ h => h) (by kernel_rfl) (fun w' hS => by go_simp) hHeld ?_
          go_frame
          refine wpAnyH_ready (rs := [10]) (by kernel_rfl) (by simp) ?_
          refine AllReadyH.cons rfl (fun K hK => ?_) AllReadyH.nil
          refine step_store_v rfl 29 _ _ rfl b7 (hv ⟨k9, x9, y9, s9, l9, e9, o9, t9⟩) rfl rfl sizeH h7.blk rfl (hv_one _) ?_
          intro Xs hOs hVs
          have hzs := hOs.1
          refine hK.out _ _ (ha.keep fun j j1 j2 => (hOs.2.1 j (by omega)).trans (hBX.block j (by omega))) (fun _ => ?_)
          refine wpAnyH_done (by kernel_rfl) ?_ _
          go_wp2
          go_meet
          case rel => exact ⟨b7, rfl, hb7, ⟨hVs⟩, (how.keep fun j j1 j2 => hOs.2.1 j (by omega)).wide (by omega) (by omega), hBX.trans (hOs.2.2 _ hb7)⟩
      · refine step_alloc_v rfl 29 rfl _ zeroH ?_
        intro b7 Xa hb7 hw7 hBY hV7
        have hzY : X1.heap.size ≤ Xa.heap.size := hBY.size
        have h7 : HB Xa b7 ⟨0, 0, 0, 0, 0, 0, 0, 0⟩ := ⟨hV7⟩
        replace hb7 : w1.heap.size ≤ b7 ∧ X1.heap.size ≤ b7 := ⟨by omega, hb7⟩
        have hb7x := hb7.2
        replace hb7 := hb7.1
        replace hoa := hoa.below hBY (by omega)
        replace hBX : Below w1.heap.size w1 Xa := hBX.trans (hBY.mono (by omega))
        replace hzX : w1.heap.size ≤ Xa.heap.size := hBX.size
        refine hK.out _ _ (ha.below hBX (by omega)) (fun hHeld => ?_)
        try go_frame
        refine wpAnyH_ready (rs := [3]) (by kernel_rfl) (by simp) ?_
        refine AllReadyH.cons rfl (fun K hK => ?_) AllReadyH.nil
        go_simp
        go_at_call 12
        refine (toHand_any ⟨k, x, y, s, l, e, o, t⟩ Xa).mono ?_
        rintro er X2 ⟨rfl, hBY⟩
        have hzY : Xa.heap.size ≤ X2.heap.size := hBY.size
        dsimp only [hv]
        replace hoa := hoa.below hBY (by omega)
        replace h7 := h7.below hBY (by omega)
        replace hBX : Below w1.heap.size w1 X2 := hBX.trans (hBY.mono (by omega))
        replace hzX : w1.heap.size ≤ X2.heap.size := hBX.size
        refine hK.out _ _ (ha.below hBX (by omega)) (fun hHeld => ?_)
        try go_frame
        refine wpAnyH_ready (rs := [4]) (by kernel_rfl) (by simp) ?_
        refine AllReadyH.cons rfl (fun K hK => ?_) AllReadyH.nil
        go_simp
        go_at_call 22
        refine (specAlone_any H ⟨k, x, y, s, l, e, o, t⟩ _ X1.heap.size X2 (by omega) hoa.rd).mono ?_
        rintro er X3 ⟨vw, he, how, hBY⟩
        have hzY : X2.heap.size ≤ X3.heap.size := hBY.size
        rw [E7.out] at he how
        subst he
        dsimp only [hv]
        replace h7 := h7.below hBY (by omega)
        replace hBX : Below w1.heap.size w1 X3 := hBX.trans (hBY.mono (by omega))
        replace hzX : w1.heap.size ≤ X3.heap.size := hBX.size
        refine hK.out _ _ (ha.below hBX (by omega)) (fun hHeld => ?_)
        try go_frame
        refine takeW 5 21 (.tuple #[vw, .agg #[.int .i64 k9, .int .i64 x9, .int .i64 y9, .int .i64 s9, .int .i64 l9, .int .i64 e9, .int .i64 o9, .int .i64 t9]]) rfl (by kernel_rfl) (by kernel_rfl) (by kernel_rfl) (fun _ _ _ h => h) (by kernel_rfl) (fun w' hS => by go_simp) hHeld ?_
        go_frame
        refine takeW 6 27 (vw) rfl (by kernel_rfl) (by kernel_rfl) (by kernel_rfl) (fun _ _ _ h => h) (by kernel_rfl) (fun w' hS => by go_simp) hHeld ?_
        go_frame
        refine takeW 7 28 (.agg #[.int .i64 k9, .int .i64 x9, .int .i64 y9, .int .i64 s9, .int .i64 l9, .int .i64 e9, .int .i64 o9, .int .i64 t9]) rfl (by kernel_rfl) (by kernel_rfl) (by kernel_rfl) (fun _ _ _ h => h) (by kernel_rfl) (fun w' hS => by go_simp) hHeld ?_
        go_frame
        refine takeW 9 6 (vw) rfl (by kernel_rfl) (by kernel_rfl) (by kernel_rfl) (fun _ _ _ h => h) (by kernel_rfl) (fun w' hS => by go_simp) hHeld ?_
        go_frame
        refine wpAnyH_ready (rs := [10]) (by kernel_rfl) (by simp) ?_
        refine AllReadyH.cons rfl (fun K hK => ?_) AllReadyH.nil
        refine step_store_v rfl 29 _ _ rfl b7 (hv ⟨k9, x9, y9, s9, l9, e9, o9, t9⟩) rfl rfl sizeH h7.blk rfl (hv_one _) ?_
        intro Xs hOs hVs
        have hzs := hOs.1
        refine hK.out _ _ (ha.keep fun j j1 j2 => (hOs.2.1 j (by omega)).trans (hBX.block j (by omega))) (fun _ => ?_)
        refine wpAnyH_done (by kernel_rfl) ?_ _
        go_wp2
        go_meet
        case rel => exact ⟨b7, rfl, hb7, ⟨hVs⟩, (how.keep fun j j1 j2 => hOs.2.1 j (by omega)).wide (by omega) (by omega), hBX.trans (hOs.2.2 _ hb7)⟩
    · refine step_alloc_v rfl 29 rfl _ zeroH ?_
      intro b7 Xa hb7 hw7 hBY hV7
      have hzY : w1.drew.heap.size ≤ Xa.heap.size := hBY.size
      have h7 : HB Xa b7 ⟨0, 0, 0, 0, 0, 0, 0, 0⟩ := ⟨hV7⟩
      replace hb7 : w1.heap.size ≤ b7 ∧ w1.drew.heap.size ≤ b7 := ⟨by omega, hb7⟩
      have hb7x := hb7.2
      replace hb7 := hb7.1
      replace hBX : Below w1.heap.size w1 Xa := hBX.trans (hBY.mono (by omega))
      replace hzX : w1.heap.size ≤ Xa.heap.size := hBX.size
      refine hK.out _ _ (ha.below hBX (by omega)) (fun hHeld => ?_)
      try go_frame
      refine wpAnyH_ready (rs := [1]) (by kernel_rfl) (by simp) ?_
      refine AllReadyH.cons rfl (fun K hK => ?_) AllReadyH.nil
      go_simp
      go_at_call 11
      refine (toCells_any H _ w.heap.size Xa (by omega) (hV.out.below (hB1.trans (hBX.mono (by omega))) (Nat.le_refl _)) (hr (by omega))).mono ?_
      rintro er X1 ⟨va, rfl, hoa, hBY⟩
      have hzY : Xa.heap.size ≤ X1.heap.size := hBY.size
      replace h7 := h7.below hBY (by omega)
      replace hBX : Below w1.heap.size w1 X1 := hBX.trans (hBY.mono (by omega))
      replace hzX : w1.heap.size ≤ X1.heap.size := hBX.size
      refine hK.out _ _ (ha.below hBX (by omega)) (fun hHeld => ?_)
      try go_frame
      have hi1 : X1.heap.size ≤ X1.heap.size := Nat.le_refl _
      refine wpAnyH_ready (rs := [3]) (by kernel_rfl) (by simp) ?_
      refine AllReadyH.cons rfl (fun K hK => ?_) AllReadyH.nil
      go_simp
      go_at_call 12
      refine (toHand_any ⟨k, x, y, s, l, e, o, t⟩ X1).mono ?_
      rintro er X2 ⟨rfl, hBY⟩
      have hzY : X1.heap.size ≤ X2.heap.size := hBY.size
      dsimp only [hv]
      replace hoa := hoa.below hBY (by omega)
      replace h7 := h7.below hBY (by omega)
      replace hBX : Below w1.heap.size w1 X2 := hBX.trans (hBY.mono (by omega))
      replace hzX : w1.heap.size ≤ X2.heap.size := hBX.size
      refine hK.out _ _ (ha.below hBX (by omega)) (fun hHeld => ?_)
      try go_frame
      refine wpAnyH_ready (rs := [4]) (by kernel_rfl) (by simp) ?_
      refine AllReadyH.cons rfl (fun K hK => ?_) AllReadyH.nil
      go_simp
      go_at_call 22
      refine (specAlone_any H ⟨k, x, y, s, l, e, o, t⟩ _ X1.heap.size X2 (by omega) hoa.rd).mono ?_
      rintro er X3 ⟨vw, he, how, hBY⟩
      have hzY : X2.heap.size ≤ X3.heap.size := hBY.size
      rw [E7.out] at he how
      subst he
      dsimp only [hv]
      replace h7 := h7.below hBY (by omega)
      replace hBX : Below w1.heap.size w1 X3 := hBX.trans (hBY.mono (by omega))
      replace hzX : w1.heap.size ≤ X3.heap.size := hBX.size
      refine hK.out _ _ (ha.below hBX (by omega)) (fun hHeld => ?_)
      try go_frame
      refine takeW 5 21 (.tuple #[vw, .agg #[.int .i64 k9, .int .i64 x9, .int .i64 y9, .int .i64 s9, .int .i64 l9, .int .i64 e9, .int .i64 o9, .int .i64 t9]]) rfl (by kernel_rfl) (by kernel_rfl) (by kernel_rfl) (fun _ _ _ h => h) (by kernel_rfl) (fun w' hS => by go_simp) hHeld ?_
      go_frame
      refine takeW 6 27 (vw) rfl (by kernel_rfl) (by kernel_rfl) (by kernel_rfl) (fun _ _ _ h => h) (by kernel_rfl) (fun w' hS => by go_simp) hHeld ?_
      go_frame
      refine takeW 7 28 (.agg #[.int .i64 k9, .int .i64 x9, .int .i64 y9, .int .i64 s9, .int .i64 l9, .int .i64 e9, .int .i64 o9, .int .i64 t9]) rfl (by kernel_rfl) (by kernel_rfl) (by kernel_rfl) (fun _ _ _ h => h) (by kernel_rfl) (fun w' hS => by go_simp) hHeld ?_
      go_frame
      refine takeW 9 6 (vw) rfl (by kernel_rfl) (by kernel_rfl) (by kernel_rfl) (fun _ _ _ h => h) (by kernel_rfl) (fun w' hS => by go_simp) hHeld ?_
      go_frame
      refine wpAnyH_ready (rs := [10]) (by kernel_rfl) (by simp) ?_
      refine AllReadyH.cons rfl (fun K hK => ?_) AllReadyH.nil
      refine step_store_v rfl 29 _ _ rfl b7 (hv ⟨k9, x9, y9, s9, l9, e9, o9, t9⟩) rfl rfl sizeH h7.blk rfl (hv_one _) ?_
      intro Xs hOs hVs
      have hzs := hOs.1
      refine hK.out _ _ (ha.keep fun j j1 j2 => (hOs.2.1 j (by omega)).trans (hBX.block j (by omega))) (fun _ => ?_)
      refine wpAnyH_done (by kernel_rfl) ?_ _
      go_wp2
      go_meet
      case rel => exact ⟨b7, rfl, hb7, ⟨hVs⟩, (how.keep fun j j1 j2 => hOs.2.1 j (by omega)).wide (by omega) (by omega), hBX.trans (hOs.2.2 _ hb7)⟩
  case rest =>
    rename World => w2
    obtain ⟨b7, rfl, hb7, h7, how, hBc⟩ := hcut
    have hz2 : w1.heap.size ≤ w2.heap.size := hBc.size
    have hb7w := h7.lt
    replace ha := ha.below hBc (by omega)
    have hB : Below w.heap.size w w2 := hB1.trans (hBc.mono (by omega))
    have hzw := hB.size
    clear hBc
    have mk1 : Hid True := trivial
    have mk2 : Hid True := trivial
    have mk3 : Hid True := trivial
    have mk4 : Hid True := trivial
    have mk5 : Hid True := trivial
    have mk6 : Hid True := trivial
    have mk7 : Hid True := trivial
    have mk8 : Hid True := trivial
    have mk9 : Hid True := trivial
    have mk10 : Hid True := trivial
    have mk11 : Hid True := trivial
    have mk12 : Hid True := trivial
    go_wp2_with (first | (clear mk1; go_at_call 11; refine (toCells_any H _ w.heap.size _ (by omega) (hV.out.below hB (Nat.le_refl _)) (hr (by omega))).mono ?_; rintro er w3 ⟨vx, rfl, hox, hB3⟩; have hz3 : w2.heap.size ≤ w3.heap.size := hB3.size; replace ha := ha.below hB3 (by omega); replace h7 := h7.below hB3 (by omega); replace how := how.below hB3 (by omega); replace hB := hB.trans (hB3.mono (by omega)); replace hzw := hB.size; obtain ⟨ca0, ca1, ca2, ca3, ca4, ca5, ca6, ca7⟩ := ha.cells) | (clear mk2; go_at_call 12; refine (toHand_any ⟨k, x, y, s, l, e, o, t⟩ _).mono ?_; rintro er w4 ⟨rfl, hB4⟩; have hz4 : w3.heap.size ≤ w4.heap.size := hB4.size; replace ha := ha.below hB4 (by omega); replace h7 := h7.below hB4 (by omega); replace how := how.below hB4 (by omega); replace hox := hox.below hB4 (by omega); replace hB := hB.trans (hB4.mono (by omega)); replace hzw := hB.size; clear ca0 ca1 ca2 ca3 ca4 ca5 ca6 ca7; dsimp only [hv]) | (clear mk3; go_at_call 23; refine (implAlone_any H ⟨k, x, y, s, l, e, o, t⟩ _ w3.heap.size _ (by omega) hox.rd).mono ?_; rintro er w5 ⟨vg, he, hog, hB5⟩; rw [E7.out] at he hog; subst he; have hz5 : w4.heap.size ≤ w5.heap.size := hB5.size; replace ha := ha.below hB5 (by omega); replace h7 := h7.below hB5 (by omega); replace how := how.below hB5 (by omega); replace hox := hox.below hB5 (by omega); replace hB := hB.trans (hB5.mono (by omega)); replace hzw := hB.size; dsimp only [hv]) | (refine wpList_alloc_v rfl 29 rfl _ zeroH ?_; intro b10 w6 hb10 hw10 hB6 hV10; have hz6 : w5.heap.size ≤ w6.heap.size := hB6.size; replace ha := ha.below hB6 (by omega); replace h7 := h7.below hB6 (by omega); replace how := how.below hB6 (by omega); replace hox := hox.below hB6 (by omega); replace hog := hog.below hB6 (by omega); replace hB := hB.trans (hB6.mono (by omega)); replace hzw := hB.size; have h10 : HB w6 b10 ⟨0, 0, 0, 0, 0, 0, 0, 0⟩ := ⟨hV10⟩; clear hV10) | (refine wpList_store_v rfl 29 _ _ rfl b10 (hv ⟨k9, x9, y9, s9, l9, e9, o9, t9⟩) rfl rfl sizeH h10.blk rfl (hv_one _) ?_; intro w7 hO7 hVs; have hz7 : w6.heap.size ≤ w7.heap.size := (Nat.le_of_eq hO7.1.symm); replace ha := ha.keep (w' := w7) (fun k g1 g2 => hO7.2.1 k (by omega)); replace h7 := h7.keep (w' := w7) (fun k g1 g2 => hO7.2.1 k (by omega)); replace how := how.keep (w' := w7) (fun k g1 g2 => hO7.2.1 k (by omega)); replace hox := hox.keep (w' := w7) (fun k g1 g2 => hO7.2.1 k (by omega)); replace hog := hog.keep (w' := w7) (fun k g1 g2 => hO7.2.1 k (by omega)); replace hB := hB.trans (hO7.2.2 _ (by omega)); replace hzw := hB.size; replace h10 : HB w7 b10 ⟨k9, x9, y9, s9, l9, e9, o9, t9⟩ := ⟨hVs⟩; clear hVs) | (clear mk4; go_at_call 14; refine (eqCells_any L _ _ w5.heap.size w2.heap.size _ (by omega) (by omega) hog.rd how.rd).mono ?_; rintro er w8 ⟨rfl, hB8⟩; have hz8 : w7.heap.size ≤ w8.heap.size := hB8.size; replace ha := ha.below hB8 (by omega); replace h7 := h7.below hB8 (by omega); replace how := how.below hB8 (by omega); replace hox := hox.below hB8 (by omega); replace hog := hog.below hB8 (by omega); replace h10 := h10.below hB8 (by omega); replace hB := hB.trans (hB8.mono (by omega)); replace hzw := hB.size; obtain ⟨cb0, cb1, cb2, cb3, cb4, cb5, cb6, cb7⟩ := h10.cells; obtain ⟨cc0, cc1, cc2, cc3, cc4, cc5, cc6, cc7⟩ := h7.cells) | (clear mk5; go_at_call 17; refine (eqHand_any ⟨k9, x9, y9, s9, l9, e9, o9, t9⟩ _).mono ?_; rintro er w9 ⟨rfl, hB9⟩; have hz9 : w8.heap.size ≤ w9.heap.size := hB9.size; replace ha := ha.below hB9 (by omega); replace h7 := h7.below hB9 (by omega); replace how := how.below hB9 (by omega); replace hox := hox.below hB9 (by omega); replace hog := hog.below hB9 (by omega); replace h10 := h10.below hB9 (by omega); replace hB := hB.trans (hB9.mono (by omega)); replace hzw := hB.size; clear cb0 cb1 cb2 cb3 cb4 cb5 cb6 cb7 cc0 cc1 cc2 cc3 cc4 cc5 cc6 cc7) | (clear mk6; go_at_call 11; refine (toCells_any H _ w.heap.size _ (by omega) (hV.out.below hB (Nat.le_refl _)) (hr (by omega))).mono ?_; rintro er w10 ⟨vb, rfl, hob, hB10⟩; have hz10 : w9.heap.size ≤ w10.heap.size := hB10.size; replace ha := ha.below hB10 (by omega); replace h7 := h7.below hB10 (by omega); replace how := how.below hB10 (by omega); replace hox := hox.below hB10 (by omega); replace hog := hog.below hB10 (by omega); replace h10 := h10.below hB10 (by omega); replace hB := hB.trans (hB10.mono (by omega)); replace hzw := hB.size) | (clear mk7; go_at_call 14; refine (eqCells_any H _ _ w3.heap.size w10.heap.size _ (by omega) (by omega) hox.rd hob.rd).mono ?_; rintro er w11 ⟨rfl, hB11⟩; have hz11 : w10.heap.size ≤ w11.heap.size := hB11.size; replace ha := ha.below hB11 (by omega); replace h7 := h7.below hB11 (by omega); replace how := how.below hB11 (by omega); replace hox := hox.below hB11 (by omega); replace hog := hog.below hB11 (by omega); replace h10 := h10.below hB11 (by omega); replace hob := hob.below hB11 (by omega); replace hB := hB.trans (hB11.mono (by omega)); replace hzw := hB.size; clear hob) | (clear mk8; go_at_call 20; refine (markCells_any H _ w2.heap.size w3.heap.size _ hox (hr (by omega))).mono ?_; rintro er w12 ⟨rfl, hox12, hM12⟩; have hz12 : w11.heap.size ≤ w12.heap.size := hM12.size; replace ha := ha.keep (w' := w12) (fun k g1 g2 => hM12.block k (by omega) (by omega)); replace h7 := h7.keep (w' := w12) (fun k g1 g2 => hM12.block k (by omega) (by omega)); replace how := how.keep (w' := w12) (fun k g1 g2 => hM12.block k (by omega) (by omega)); replace hog := hog.keep (w' := w12) (fun k g1 g2 => hM12.block k (by omega) (by omega)); replace h10 := h10.keep (w' := w12) (fun k g1 g2 => hM12.block k (by omega) (by omega)); replace hB := hB.trans (hM12.below (by omega) (by omega)); replace hzw := hB.size; clear hox hox12) | (clear mk9; go_at_call 14; refine (eqCells_any L _ _ w5.heap.size w2.heap.size _ (by omega) (by omega) hog.rd how.rd).mono ?_; rintro er w13 ⟨rfl, hB13⟩; have hz13 : w12.heap.size ≤ w13.heap.size := hB13.size; replace ha := ha.below hB13 (by omega); replace h7 := h7.below hB13 (by omega); replace how := how.below hB13 (by omega); replace hog := hog.below hB13 (by omega); replace h10 := h10.below hB13 (by omega); replace hB := hB.trans (hB13.mono (by omega)); replace hzw := hB.size; obtain ⟨cd0, cd1, cd2, cd3, cd4, cd5, cd6, cd7⟩ := h10.cells; obtain ⟨ce0, ce1, ce2, ce3, ce4, ce5, ce6, ce7⟩ := h7.cells) | (clear mk10; go_at_call 17; refine (eqHand_any ⟨k9, x9, y9, s9, l9, e9, o9, t9⟩ _).mono ?_; rintro er w14 ⟨rfl, hB14⟩; have hz14 : w13.heap.size ≤ w14.heap.size := hB14.size; replace ha := ha.below hB14 (by omega); replace h7 := h7.below hB14 (by omega); replace how := how.below hB14 (by omega); replace hog := hog.below hB14 (by omega); replace h10 := h10.below hB14 (by omega); replace hB := hB.trans (hB14.mono (by omega)); replace hzw := hB.size; clear cd0 cd1 cd2 cd3 cd4 cd5 cd6 cd7 ce0 ce1 ce2 ce3 ce4 ce5 ce6 ce7) | (clear mk11; go_at_call 20; refine (markCells_any L _ w4.heap.size w5.heap.size _ hog hLl).mono ?_; rintro er w15 ⟨rfl, hog15, hM15⟩; have hz15 : w14.heap.size ≤ w15.heap.size := hM15.size; replace ha := ha.keep (w' := w15) (fun k g1 g2 => hM15.block k (by omega) (by omega)); replace h7 := h7.keep (w' := w15) (fun k g1 g2 => hM15.block k (by omega) (by omega)); replace how := how.keep (w' := w15) (fun k g1 g2 => hM15.block k (by omega) (by omega)); replace h10 := h10.keep (w' := w15) (fun k g1 g2 => hM15.block k (by omega) (by omega)); replace hB := hB.trans (hM15.below (by omega) (by omega)); replace hzw := hB.size; clear hog; have hog := hog15; clear hog15) | (clear mk12; go_at_call 21; refine (heldCells_any L.length _ w5.heap.size _ hog.rd hLl).mono ?_; rintro er wq ⟨rfl, hq2⟩; subst wq) | (fail))
    have hb01 : b0 + 1 ≤ w15.heap.size := ha.lt
    go_cut [14, 15] (fun p6 p7 wc => ∃ b7 : Nat, p7 = .pointer (some ⟨b7, 0, none⟩) ∧ w15.heap.size ≤ b7 ∧ HB wc b7 ⟨k9, x9, y9, s9, l9, e9, o9, t9⟩ ∧ ce.Own wc w15.heap.size wc.heap.size p6 L ∧ Below w15.heap.size w15 wc)
    case first =>
      refine wp_region_held_drew (S := fun w' => HArg w' b0 ⟨k, x, y, s, l, e, o, t⟩) (by kernel_rfl) ha.drew (fun hHeld => ?_)
      refine takeW 0 82 (.slice a H.length cap) rfl (by kernel_rfl) (by kernel_rfl) (by kernel_rfl) (fun _ _ _ h => h) (by kernel_rfl) (fun w' hS => by go_simp) hHeld ?_
      go_frame
      refine takeW 2 84 (.agg #[.int .i64 k, .int .i64 x, .int .i64 y, .int .i64 s, .int .i64 l, .int .i64 e, .int .i64 o, .int .i64 t]) rfl (by kernel_rfl) (by kernel_rfl) (by kernel_rfl) (fun _ _ _ h => h) (by kernel_rfl) (fun w' hS => by obtain ⟨z0, z1, z2, z3, z4, z5, z6, z7⟩ := HArg.cells hS; go_simp) hHeld ?_
      go_frame
      have hBX : Below w15.heap.size w15 w15.drew := (Below.refl _ _).drew
      have hzX : w15.heap.size ≤ w15.drew.heap.size := Nat.le_refl _
      have hzd : w15.heap.size ≤ w15.drew.heap.size := Nat.le_refl _
      refine wpAnyH_ready (rs := [1, 8]) (by kernel_rfl) (by simp) ?_
      refine AllReadyH.cons rfl (fun K hK => ?_) ( AllReadyH.cons rfl (fun K hK => ?_) AllReadyH.nil)
      · go_simp
        go_at_call 11
        refine (toCells_any H _ w.heap.size w15.drew (by omega) (hV.out.below (hB.trans (hBX.mono (by omega))) (Nat.le_refl _)) (hr (by omega))).mono ?_
        rintro er X1 ⟨va, rfl, hoa, hBY⟩
        have hzY : w15.drew.heap.size ≤ X1.heap.size := hBY.size
        replace hBX : Below w15.heap.size w15 X1 := hBX.trans (hBY.mono (by omega))
        replace hzX : w15.heap.size ≤ X1.heap.size := hBX.size
        refine hK.out _ _ (ha.below hBX (by omega)) (fun hHeld => ?_)
        try go_frame
        have hi1 : X1.heap.size ≤ X1.heap.size := Nat.le_refl _
        refine wpAnyH_ready (rs := [3, 8]) (by kernel_rfl) (by simp) ?_
        refine AllReadyH.cons rfl (fun K hK => ?_) ( AllReadyH.cons rfl (fun K hK => ?_) AllReadyH.nil)
        · go_simp
          go_at_call 12
          refine (toHand_any ⟨k, x, y, s, l, e, o, t⟩ X1).mono ?_
          rintro er X2 ⟨rfl, hBY⟩
          have hzY : X1.heap.size ≤ X2.heap.size := hBY.size
          dsimp only [hv]
          replace hoa := hoa.below hBY (by omega)
          replace hBX : Below w15.heap.size w15 X2 := hBX.trans (hBY.mono (by omega))
          replace hzX : w15.heap.size ≤ X2.heap.size := hBX.size
          refine hK.out _ _ (ha.below hBX (by omega)) (fun hHeld => ?_)
          try go_frame
          refine wpAnyH_ready (rs := [4, 8]) (by kernel_rfl) (by simp) ?_
          refine AllReadyH.cons rfl (fun K hK => ?_) ( AllReadyH.cons rfl (fun K hK => ?_) AllReadyH.nil)
          · go_simp
            go_at_call 23
            refine (implAlone_any H ⟨k, x, y, s, l, e, o, t⟩ _ X1.heap.size X2 (by omega) hoa.rd).mono ?_
            rintro er X3 ⟨vw, he, how, hBY⟩
            have hzY : X2.heap.size ≤ X3.heap.size := hBY.size
            rw [E7.out] at he how
            subst he
            dsimp only [hv]
            replace hBX : Below w15.heap.size w15 X3 := hBX.trans (hBY.mono (by omega))
            replace hzX : w15.heap.size ≤ X3.heap.size := hBX.size
            refine hK.out _ _ (ha.below hBX (by omega)) (fun hHeld => ?_)
            try go_frame
            refine takeW 5 81 (.tuple #[vw, .agg #[.int .i64 k9, .int .i64 x9, .int .i64 y9, .int .i64 s9, .int .i64 l9, .int .i64 e9, .int .i64 o9, .int .i64 t9]]) rfl (by kernel_rfl) (by kernel_rfl) (by kernel_rfl) (fun _ _ _ h => h) (by kernel_rfl) (fun w' hS => by go_simp) hHeld ?_
            go_frame
            refine takeW 6 87 (vw) rfl (by kernel_rfl) (by kernel_rfl) (by kernel_rfl) (fun _ _ _ h => h) (by kernel_rfl) (fun w' hS => by go_simp) hHeld ?_
            go_frame
            refine takeW 7 88 (.agg #[.int .i64 k9, .int .i64 x9, .int .i64 y9, .int .i64 s9, .int .i64 l9, .int .i64 e9, .int .i64 o9, .int .i64 t9]) rfl (by kernel_rfl) (by kernel_rfl) (by kernel_rfl) (fun _ _ _ h => h) (by kernel_rfl) (fun w' hS => by go_simp) hHeld ?_
            go_frame
            refine wpAnyH_ready (rs := [8]) (by kernel_rfl) (by simp) ?_
            refine AllReadyH.cons rfl (fun K hK => ?_) AllReadyH.nil
            refine step_alloc_v rfl 29 rfl _ zeroH ?_
            intro b7 Xa hb7 hw7 hBY hV7
            have hzY : X3.heap.size ≤ Xa.heap.size := hBY.size
            have h7 : HB Xa b7 ⟨0, 0, 0, 0, 0, 0, 0, 0⟩ := ⟨hV7⟩
            replace hb7 : w15.heap.size ≤ b7 ∧ X3.heap.size ≤ b7 := ⟨by omega, hb7⟩
            have hb7x := hb7.2
            replace hb7 := hb7.1
            replace how := how.below hBY (by omega)
            replace hBX : Below w15.heap.size w15 Xa := hBX.trans (hBY.mono (by omega))
            replace hzX : w15.heap.size ≤ Xa.heap.size := hBX.size
            refine hK.out _ _ (ha.below hBX (by omega)) (fun hHeld => ?_)
            try go_frame
            refine takeW 9 14 (vw) rfl (by kernel_rfl) (by kernel_rfl) (by kernel_rfl) (fun _ _ _ h => h) (by kernel_rfl) (fun w' hS => by go_simp) hHeld ?_
            go_frame
            refine wpAnyH_ready (rs := [10]) (by kernel_rfl) (by simp) ?_
            refine AllReadyH.cons rfl (fun K hK => ?_) AllReadyH.nil
            refine step_store_v rfl 29 _ _ rfl b7 (hv ⟨k9, x9, y9, s9, l9, e9, o9, t9⟩) rfl rfl sizeH h7.blk rfl (hv_one _) ?_
            intro Xs hOs hVs
            have hzs := hOs.1
            refine hK.out _ _ (ha.keep fun j j1 j2 => (hOs.2.1 j (by omega)).trans (hBX.block j (by omega))) (fun _ => ?_)
            refine wpAnyH_done (by kernel_rfl) ?_ _
            go_wp2
            go_meet
            case rel => exact ⟨b7, rfl, hb7, ⟨hVs⟩, (how.keep fun j j1 j2 => hOs.2.1 j (by omega)).wide (by omega) (by omega), hBX.trans (hOs.2.2 _ hb7)⟩
          · refine step_alloc_v rfl 29 rfl _ zeroH ?_
            intro b7 Xa hb7 hw7 hBY hV7
            have hzY : X2.heap.size ≤ Xa.heap.size := hBY.size
            have h7 : HB Xa b7 ⟨0, 0, 0, 0, 0, 0, 0, 0⟩ := ⟨hV7⟩
            replace hb7 : w15.heap.size ≤ b7 ∧ X2.heap.size ≤ b7 := ⟨by omega, hb7⟩
            have hb7x := hb7.2
            replace hb7 := hb7.1
            replace hoa := hoa.below hBY (by omega)
            replace hBX : Below w15.heap.size w15 Xa := hBX.trans (hBY.mono (by omega))
            replace hzX : w15.heap.size ≤ Xa.heap.size := hBX.size
            refine hK.out _ _ (ha.below hBX (by omega)) (fun hHeld => ?_)
            try go_frame
            refine wpAnyH_ready (rs := [4]) (by kernel_rfl) (by simp) ?_
            refine AllReadyH.cons rfl (fun K hK => ?_) AllReadyH.nil
            go_simp
            go_at_call 23
            refine (implAlone_any H ⟨k, x, y, s, l, e, o, t⟩ _ X1.heap.size Xa (by omega) hoa.rd).mono ?_
            rintro er X3 ⟨vw, he, how, hBY⟩
            have hzY : Xa.heap.size ≤ X3.heap.size := hBY.size
            rw [E7.out] at he how
            subst he
            dsimp only [hv]
            replace h7 := h7.below hBY (by omega)
            replace hBX : Below w15.heap.size w15 X3 := hBX.trans (hBY.mono (by omega))
            replace hzX : w15.heap.size ≤ X3.heap.size := hBX.size
            refine hK.out _ _ (ha.below hBX (by omega)) (fun hHeld => ?_)
            try go_frame
            refine takeW 5 81 (.tuple #[vw, .agg #[.int .i64 k9, .int .i64 x9, .int .i64 y9, .int .i64 s9, .int .i64 l9, .int .i64 e9, .int .i64 o9, .int .i64 t9]]) rfl (by kernel_rfl) (by kernel_rfl) (by kernel_rfl) (fun _ _ _ h => h) (by kernel_rfl) (fun w' hS => by go_simp) hHeld ?_
            go_frame
            refine takeW 6 87 (vw) rfl (by kernel_rfl) (by kernel_rfl) (by kernel_rfl) (fun _ _ _ h => h) (by kernel_rfl) (fun w' hS => by go_simp) hHeld ?_
            go_frame
            refine takeW 7 88 (.agg #[.int .i64 k9, .int .i64 x9, .int .i64 y9, .int .i64 s9, .int .i64 l9, .int .i64 e9, .int .i64 o9, .int .i64 t9]) rfl (by kernel_rfl) (by kernel_rfl) (by kernel_rfl) (fun _ _ _ h => h) (by kernel_rfl) (fun w' hS => by go_simp) hHeld ?_
            go_frame
            refine takeW 9 14 (vw) rfl (by kernel_rfl) (by kernel_rfl) (by kernel_rfl) (fun _ _ _ h => h) (by kernel_rfl) (fun w' hS => by go_simp) hHeld ?_
            go_frame
            refine wpAnyH_ready (rs := [10]) (by kernel_rfl) (by simp) ?_
            refine AllReadyH.cons rfl (fun K hK => ?_) AllReadyH.nil
            refine step_store_v rfl 29 _ _ rfl b7 (hv ⟨k9, x9, y9, s9, l9, e9, o9, t9⟩) rfl rfl sizeH h7.blk rfl (hv_one _) ?_
            intro Xs hOs hVs
            have hzs := hOs.1
            refine hK.out _ _ (ha.keep fun j j1 j2 => (hOs.2.1 j (by omega)).trans (hBX.block j (by omega))) (fun _ => ?_)
            refine wpAnyH_done (by kernel_rfl) ?_ _
            go_wp2
            go_meet
            case rel => exact ⟨b7, rfl, hb7, ⟨hVs⟩, (how.keep fun j j1 j2 => hOs.2.1 j (by omega)).wide (by omega) (by omega), hBX.trans (hOs.2.2 _ hb7)⟩
        · refine step_alloc_v rfl 29 rfl _ zeroH ?_
          intro b7 Xa hb7 hw7 hBY hV7
          have hzY : X1.heap.size ≤ Xa.heap.size := hBY.size
          have h7 : HB Xa b7 ⟨0, 0, 0, 0, 0, 0, 0, 0⟩ := ⟨hV7⟩
          replace hb7 : w15.heap.size ≤ b7 ∧ X1.heap.size ≤ b7 := ⟨by omega, hb7⟩
          have hb7x := hb7.2
          replace hb7 := hb7.1
          replace hoa := hoa.below hBY (by omega)
          replace hBX : Below w15.heap.size w15 Xa := hBX.trans (hBY.mono (by omega))
          replace hzX : w15.heap.size ≤ Xa.heap.size := hBX.size
          refine hK.out _ _ (ha.below hBX (by omega)) (fun hHeld => ?_)
          try go_frame
          refine wpAnyH_ready (rs := [3]) (by kernel_rfl) (by simp) ?_
          refine AllReadyH.cons rfl (fun K hK => ?_) AllReadyH.nil
          go_simp
          go_at_call 12
          refine (toHand_any ⟨k, x, y, s, l, e, o, t⟩ Xa).mono ?_
          rintro er X2 ⟨rfl, hBY⟩
          have hzY : Xa.heap.size ≤ X2.heap.size := hBY.size
          dsimp only [hv]
          replace hoa := hoa.below hBY (by omega)
          replace h7 := h7.below hBY (by omega)
          replace hBX : Below w15.heap.size w15 X2 := hBX.trans (hBY.mono (by omega))
          replace hzX : w15.heap.size ≤ X2.heap.size := hBX.size
          refine hK.out _ _ (ha.below hBX (by omega)) (fun hHeld => ?_)
          try go_frame
          refine wpAnyH_ready (rs := [4]) (by kernel_rfl) (by simp) ?_
          refine AllReadyH.cons rfl (fun K hK => ?_) AllReadyH.nil
          go_simp
          go_at_call 23
          refine (implAlone_any H ⟨k, x, y, s, l, e, o, t⟩ _ X1.heap.size X2 (by omega) hoa.rd).mono ?_
          rintro er X3 ⟨vw, he, how, hBY⟩
          have hzY : X2.heap.size ≤ X3.heap.size := hBY.size
          rw [E7.out] at he how
          subst he
          dsimp only [hv]
          replace h7 := h7.below hBY (by omega)
          replace hBX : Below w15.heap.size w15 X3 := hBX.trans (hBY.mono (by omega))
          replace hzX : w15.heap.size ≤ X3.heap.size := hBX.size
          refine hK.out _ _ (ha.below hBX (by omega)) (fun hHeld => ?_)
          try go_frame
          refine takeW 5 81 (.tuple #[vw, .agg #[.int .i64 k9, .int .i64 x9, .int .i64 y9, .int .i64 s9, .int .i64 l9, .int .i64 e9, .int .i64 o9, .int .i64 t9]]) rfl (by kernel_rfl) (by kernel_rfl) (by kernel_rfl) (fun _ _ _ h => h) (by kernel_rfl) (fun w' hS => by go_simp) hHeld ?_
          go_frame
          refine takeW 6 87 (vw) rfl (by kernel_rfl) (by kernel_rfl) (by kernel_rfl) (fun _ _ _ h => h) (by kernel_rfl) (fun w' hS => by go_simp) hHeld ?_
          go_frame
          refine takeW 7 88 (.agg #[.int .i64 k9, .int .i64 x9, .int .i64 y9, .int .i64 s9, .int .i64 l9, .int .i64 e9, .int .i64 o9, .int .i64 t9]) rfl (by kernel_rfl) (by kernel_rfl) (by kernel_rfl) (fun _ _ _ h => h) (by kernel_rfl) (fun w' hS => by go_simp) hHeld ?_
          go_frame
          refine takeW 9 14 (vw) rfl (by kernel_rfl) (by kernel_rfl) (by kernel_rfl) (fun _ _ _ h => h) (by kernel_rfl) (fun w' hS => by go_simp) hHeld ?_
          go_frame
          refine wpAnyH_ready (rs := [10]) (by kernel_rfl) (by simp) ?_
          refine AllReadyH.cons rfl (fun K hK => ?_) AllReadyH.nil
          refine step_store_v rfl 29 _ _ rfl b7 (hv ⟨k9, x9, y9, s9, l9, e9, o9, t9⟩) rfl rfl sizeH h7.blk rfl (hv_one _) ?_
          intro Xs hOs hVs
          have hzs := hOs.1
          refine hK.out _ _ (ha.keep fun j j1 j2 => (hOs.2.1 j (by omega)).trans (hBX.block j (by omega))) (fun _ => ?_)
          refine wpAnyH_done (by kernel_rfl) ?_ _
          go_wp2
          go_meet
          case rel => exact ⟨b7, rfl, hb7, ⟨hVs⟩, (how.keep fun j j1 j2 => hOs.2.1 j (by omega)).wide (by omega) (by omega), hBX.trans (hOs.2.2 _ hb7)⟩
      · refine step_alloc_v rfl 29 rfl _ zeroH ?_
        intro b7 Xa hb7 hw7 hBY hV7
        have hzY : w15.drew.heap.size ≤ Xa.heap.size := hBY.size
        have h7 : HB Xa b7 ⟨0, 0, 0, 0, 0, 0, 0, 0⟩ := ⟨hV7⟩
        replace hb7 : w15.heap.size ≤ b7 ∧ w15.drew.heap.size ≤ b7 := ⟨by omega, hb7⟩
        have hb7x := hb7.2
        replace hb7 := hb7.1
        replace hBX : Below w15.heap.size w15 Xa := hBX.trans (hBY.mono (by omega))
        replace hzX : w15.heap.size ≤ Xa.heap.size := hBX.size
        refine hK.out _ _ (ha.below hBX (by omega)) (fun hHeld => ?_)
        try go_frame
        refine wpAnyH_ready (rs := [1]) (by kernel_rfl) (by simp) ?_
        refine AllReadyH.cons rfl (fun K hK => ?_) AllReadyH.nil
        go_simp
        go_at_call 11
        refine (toCells_any H _ w.heap.size Xa (by omega) (hV.out.below (hB.trans (hBX.mono (by omega))) (Nat.le_refl _)) (hr (by omega))).mono ?_
        rintro er X1 ⟨va, rfl, hoa, hBY⟩
        have hzY : Xa.heap.size ≤ X1.heap.size := hBY.size
        replace h7 := h7.below hBY (by omega)
        replace hBX : Below w15.heap.size w15 X1 := hBX.trans (hBY.mono (by omega))
        replace hzX : w15.heap.size ≤ X1.heap.size := hBX.size
        refine hK.out _ _ (ha.below hBX (by omega)) (fun hHeld => ?_)
        try go_frame
        have hi1 : X1.heap.size ≤ X1.heap.size := Nat.le_refl _
        refine wpAnyH_ready (rs := [3]) (by kernel_rfl) (by simp) ?_
        refine AllReadyH.cons rfl (fun K hK => ?_) AllReadyH.nil
        go_simp
        go_at_call 12
        refine (toHand_any ⟨k, x, y, s, l, e, o, t⟩ X1).mono ?_
        rintro er X2 ⟨rfl, hBY⟩
        have hzY : X1.heap.size ≤ X2.heap.size := hBY.size
        dsimp only [hv]
        replace hoa := hoa.below hBY (by omega)
        replace h7 := h7.below hBY (by omega)
        replace hBX : Below w15.heap.size w15 X2 := hBX.trans (hBY.mono (by omega))
        replace hzX : w15.heap.size ≤ X2.heap.size := hBX.size
        refine hK.out _ _ (ha.below hBX (by omega)) (fun hHeld => ?_)
        try go_frame
        refine wpAnyH_ready (rs := [4]) (by kernel_rfl) (by simp) ?_
        refine AllReadyH.cons rfl (fun K hK => ?_) AllReadyH.nil
        go_simp
        go_at_call 23
        refine (implAlone_any H ⟨k, x, y, s, l, e, o, t⟩ _ X1.heap.size X2 (by omega) hoa.rd).mono ?_
        rintro er X3 ⟨vw, he, how, hBY⟩
        have hzY : X2.heap.size ≤ X3.heap.size := hBY.size
        rw [E7.out] at he how
        subst he
        dsimp only [hv]
        replace h7 := h7.below hBY (by omega)
        replace hBX : Below w15.heap.size w15 X3 := hBX.trans (hBY.mono (by omega))
        replace hzX : w15.heap.size ≤ X3.heap.size := hBX.size
        refine hK.out _ _ (ha.below hBX (by omega)) (fun hHeld => ?_)
        try go_frame
        refine takeW 5 81 (.tuple #[vw, .agg #[.int .i64 k9, .int .i64 x9, .int .i64 y9, .int .i64 s9, .int .i64 l9, .int .i64 e9, .int .i64 o9, .int .i64 t9]]) rfl (by kernel_rfl) (by kernel_rfl) (by kernel_rfl) (fun _ _ _ h => h) (by kernel_rfl) (fun w' hS => by go_simp) hHeld ?_
        go_frame
        refine takeW 6 87 (vw) rfl (by kernel_rfl) (by kernel_rfl) (by kernel_rfl) (fun _ _ _ h => h) (by kernel_rfl) (fun w' hS => by go_simp) hHeld ?_
        go_frame
        refine takeW 7 88 (.agg #[.int .i64 k9, .int .i64 x9, .int .i64 y9, .int .i64 s9, .int .i64 l9, .int .i64 e9, .int .i64 o9, .int .i64 t9]) rfl (by kernel_rfl) (by kernel_rfl) (by kernel_rfl) (fun _ _ _ h => h) (by kernel_rfl) (fun w' hS => by go_simp) hHeld ?_
        go_frame
        refine takeW 9 14 (vw) rfl (by kernel_rfl) (by kernel_rfl) (by kernel_rfl) (fun _ _ _ h => h) (by kernel_rfl) (fun w' hS => by go_simp) hHeld ?_
        go_frame
        refine wpAnyH_ready (rs := [10]) (by kernel_rfl) (by simp) ?_
        refine AllReadyH.cons rfl (fun K hK => ?_) AllReadyH.nil
        refine step_store_v rfl 29 _ _ rfl b7 (hv ⟨k9, x9, y9, s9, l9, e9, o9, t9⟩) rfl rfl sizeH h7.blk rfl (hv_one _) ?_
        intro Xs hOs hVs
        have hzs := hOs.1
        refine hK.out _ _ (ha.keep fun j j1 j2 => (hOs.2.1 j (by omega)).trans (hBX.block j (by omega))) (fun _ => ?_)
        refine wpAnyH_done (by kernel_rfl) ?_ _
        go_wp2
        go_meet
        case rel => exact ⟨b7, rfl, hb7, ⟨hVs⟩, (how.keep fun j j1 j2 => hOs.2.1 j (by omega)).wide (by omega) (by omega), hBX.trans (hOs.2.2 _ hb7)⟩
    case rest =>
      rename World => w16
      obtain ⟨b15, rfl, hb15, h15, hoh, hBc⟩ := hcut
      have hz16 : w15.heap.size ≤ w16.heap.size := hBc.size
      have hb15w := h15.lt
      replace ha := ha.below hBc (by omega)
      replace h7 := h7.below hBc (by omega)
      replace how := how.below hBc (by omega)
      replace hog := hog.below hBc (by omega)
      replace hB := hB.trans (hBc.mono (by omega))
      replace hzw := hB.size
      clear hBc
      have mj1 : Hid True := trivial
      have mj2 : Hid True := trivial
      have mj3 : Hid True := trivial
      go_wp2_with (first | (clear mj1; go_at_call 14; refine (eqCells_any L _ _ w16.heap.size w2.heap.size _ (by omega) (by omega) hoh.rd how.rd).mono ?_; rintro er w17 ⟨rfl, hB17⟩; have hz17 : w16.heap.size ≤ w17.heap.size := hB17.size; replace h7 := h7.below hB17 (by omega); replace h15 := h15.below hB17 (by omega); replace hog := hog.below hB17 (by omega); replace hB := hB.trans (hB17.mono (by omega)); replace hzw := hB.size; obtain ⟨cb0, cb1, cb2, cb3, cb4, cb5, cb6, cb7⟩ := h15.cells; obtain ⟨cc0, cc1, cc2, cc3, cc4, cc5, cc6, cc7⟩ := h7.cells) | (clear mj2; go_at_call 17; refine (eqHand_any ⟨k9, x9, y9, s9, l9, e9, o9, t9⟩ _).mono ?_; rintro er w18 ⟨rfl, hB18⟩; have hz18 : w17.heap.size ≤ w18.heap.size := hB18.size; replace h7 := h7.below hB18 (by omega); replace h15 := h15.below hB18 (by omega); replace hog := hog.below hB18 (by omega); replace hB := hB.trans (hB18.mono (by omega)); replace hzw := hB.size; clear cb0 cb1 cb2 cb3 cb4 cb5 cb6 cb7 cc0 cc1 cc2 cc3 cc4 cc5 cc6 cc7) | (clear mj3; go_at_call 21; refine (heldCells_any L.length _ w5.heap.size _ hog.rd hLl).mono ?_; rintro er wq ⟨rfl, hq3⟩; subst wq) | (fail))
      go_ret
      exact ⟨rfl, hB⟩


/-! ### the row, by the frame -/
set_option maxRecDepth 100000 in
theorem lifted (os : Os) (started : os.Started) (H : Type) (enc : TypeId × Value → H) :
    ReturnsInHanded {} Try.checked os 6 .any (Rows.fnExactAloneSpec.pre6 enc Try.prog Try.f6 Rows.fnExactAloneRow.domain false) (Rows.fnExactAloneSpec.post enc Try.prog Try.f6 false true false false) := by
  refine returnsInHanded_of_change (C := Try.checked) own started (by kernel_rfl) Try.func6
    (ChangeSpec.witness6 (enc := enc) (C := Try.checked) false ⟨#[], #[.slice none 0 0, .agg #[.int .i64 0, .int .i64 0, .int .i64 0, .int .i64 0, .int .i64 0, .int .i64 0, .int .i64 0, .int .i64 0]], []⟩ 8 (by kernel_rfl) (by kernel_rfl) (by kernel_rfl) (by kernel_rfl)) ?_
  intro W base args ds gs before hval0 hW hcnd _
  have hval : ∀ (j : Nat) t v, Try.f6.params[j]? = some t → args[j]? = some v → Value.okWide Try.prog W .any base t v := hval0
  have hW' := hW
  obtain ⟨p, q, hA0, hV, rfl, hfz, hnd⟩ := hW
  have hA : DataW.TrodAll enc Try.prog W 0 (fun _ => true) true Try.f6.params.toList args.toList ds p := hA0
  rw [Try.params6] at hA hval
  obtain ⟨v0, vs0, d0, ds0, p0, q0, hargs, rfl, rfl, h0, r0⟩ := trodAll_cons hA
  obtain ⟨v1, vs1, d1, ds1, p1, q1, rfl, rfl, rfl, h1, r1⟩ := trodAll_cons r0
  obtain ⟨rfl, rfl, rfl⟩ := trodAll_nil r1
  obtain rfl : args = #[v0, v1] := by cases args; simp_all
  obtain ⟨rfl, rfl⟩ := trodVars_none hV
  have k0 := h0
  have lt0 : ∀ x ∈ p0, x.block < W.heap.size := by obtain ⟨m, hm⟩ := k0; exact DataW.trod_lt m _ _ _ hm
  obtain ⟨L, hR⟩ := open_cells (hval 0 22 v0 rfl rfl) h0
  have k1 := h1
  have lt1 : ∀ x ∈ p1, x.block < W.heap.size := by obtain ⟨m, hm⟩ := k1; exact DataW.trod_lt m _ _ _ hm
  obtain ⟨hd1, rfl⟩ := open_hand (hval 1 24 v1 rfl rfl) h1
  clear hA0 hval0
  refine (walk v0 L hd1 W hR).mono fun e W' ⟨he, bel⟩ => ?_
  subst he
  exact ⟨_, rfl, _, _, _, [], _, [], hW', trodAll_mk1 (shut_bool Try.underlying4 _), (trodAll_cons_mk (Below.trod laidOut (by kernel_rfl) (of_decide_eq_true (by kernel_rfl)) k0 bel lt0) (trodAll_cons_mk (Below.trod laidOut (by kernel_rfl) (of_decide_eq_true (by kernel_rfl)) k1 bel lt1) trodAll_mk0)), rfl, bel.frame _, fun h => by cases h⟩

theorem over : Rows.fnExactAloneRow.holds Try.pinned (OpenSpec.ofChange Rows.fnExactAloneSpec) :=
  OpenClaim.holds_of_wide 6 Try.f6 rfl rfl rfl rfl rfl rfl rfl ⟨rfl, rfl, rfl, rfl, rfl⟩ rfl rfl rfl rfl rfl (by kernel_rfl) Try.func6 (by kernel_rfl)
    (of_decide_eq_true (by kernel_rfl)) (by unfold Func.isWrapper; first | (rw [if_pos (by decide +kernel)]; kernel_rfl) | (rw [if_neg (by decide +kernel)]; exact ⟨rfl, rfl⟩))
    (fun os started H enc _ => lifted os started H enc)

/-- the statement -/
theorem proved : Rows.FnExactAloneSaid := over
end Go.Proofs.Ytodpbghkjnlfdaa.fnExactAlone

namespace Go.Proofs.Ytodpbghkjnlfdaa
/-- the statement, under its short name -/
theorem fnExactAlone_holds : Rows.FnExactAloneSaid := fnExactAlone.proved
#print axioms fnExactAlone_holds
end Go.Proofs.Ytodpbghkjnlfdaa
