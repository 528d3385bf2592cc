/- Contracts of the model's SketchOk and Estimate. -/
import Derived.Test.YtgdoclaifnnpgaaSk5
namespace Go.Proofs.Ytgdoclaifnnpgaa.sk
open Go.ChangeShapes Go.WideShapes Go.ChangeAt Go.RowKit
set_option linter.unusedVariables false

theorem min_any (a b : Int) (w : World) : Calls Try.prog 58 #[.int .i64 a, .int .i64 b] w fun e w' => e = .returned (.int .i64 (min a b)) ∧ w' = w := by
  by_cases h : a < b
  · have e : Hid (min a b = a) := by unfold Hid; omega
    go_enter Try.func58, Try.ntmps58
    go_wp2
    go_ret
    exact ⟨by rw [e.out]; rfl, rfl⟩
  · have e : Hid (min a b = b) := by unfold Hid; omega
    go_enter Try.func58, Try.ntmps58
    go_wp2
    go_ret
    exact ⟨by rw [e.out]; rfl, rfl⟩

theorem rd_row {w : World} {lo hi : Nat} {a : Option Addr} {xs : List Int} (h : RowR w lo hi a xs) (hn : 0 < xs.length) : ∃ b off, a = some ⟨b, off, none⟩ ∧ lo ≤ b ∧ b < hi ∧ w.rangeAt b off (ints xs) := by
  rcases h.2 with h | h
  · subst h; simp at hn
  · exact h
theorem range_cell {w : World} {b off : Nat} {xs : List Int} (h : w.rangeAt b off (ints xs)) (k : Nat) (hk : k < xs.length) : w.cell? ⟨b, off + k, none⟩ = some (.int .i64 xs[k]) := h k _ (by simp [ints, hk])

set_option maxHeartbeats 1000000 in
theorem specSketchOk_any (R : List (List Int)) (adds : Int) (v : Value) (w : World) (hi : Nat) (hh : hi ≤ w.heap.size) (hv : Rd w 0 hi v R) :
    Calls Try.prog 11 #[skv v adds] w fun e w' => e = .returned (.bool (decide (skOk R adds))) ∧ Below w.heap.size w w' := by
  obtain ⟨hRl, a, cap, rfl, hrows⟩ := hv
  by_cases h4 : R.length = 4
  · have h4i : ((R.length : Int) = 4) := by omega
    by_cases ha : 0 ≤ adds ∧ adds ≤ 159
    · have hda : decide (0 ≤ adds ∧ adds ≤ 159) = true := decide_eq_true ha
      have h4' : Hid (R.length = 4) := h4
      rcases hrows with hnil | ⟨b, off, rfl, -, hbhi, hcells⟩
      · subst hnil; simp at h4
      clear h4
      have hCells : Hid (∀ i (h : i < R.length), ∃ a' c', w.cell? ⟨b, off + i, none⟩ = some (.slice a' (R[i]).length c') ∧ RowR w 0 hi a' R[i]) := hcells
      clear hcells
      go_enter Try.func11, Try.ntmps11
      go_wp2_with (first | (refine wpList_box_v rfl 27 _ rfl [.slice (some ⟨b, off, none⟩) R.length cap, .int .i64 adds] rfl ?_; intro b1 w1 hb1 hw1 hB1 hV1; have hc0 := hV1.cell 0 (by simp); have hc1 := hV1.cell 1 (by simp); simp only [List.getElem_cons_zero, List.getElem_cons_succ] at hc0 hc1) | (go_at_call 32; refine (place.in_any _ _ _ _).mono ?_; rintro e wq ⟨rfl, hq⟩; subst wq))
      go_loop [3] (fun v' => ∃ i : Nat, i ≤ 4 ∧ v' = .int .i64 i ∧ Hid (∀ j (hj : j < R.length), j < i → (R[j]).length = 16 ∧ ∀ x ∈ R[j], 0 ≤ x ∧ x ≤ 15)) (fun v' => 4 - (intOf v').toNat)
      case atStart => exact ⟨0, by omega, rfl, fun j _ h => by omega⟩
      case round =>
        obtain ⟨i, hi4, rfl, hdone⟩ := hrel
        by_cases hlt : i < 4
        · have hiR : i < R.length := by rw [h4'.out]; exact hlt
          obtain ⟨a', c', hcell0, hrow0⟩ := hCells.out i hiR
          obtain ⟨xs, hxs⟩ : ∃ xs, R[i] = xs := ⟨_, rfl⟩
          rw [hxs] at hcell0 hrow0
          have HX : Hid (R[i] = xs) := hxs
          clear hxs
          have hcell : w1.cell? ⟨b, off + i, none⟩ = some (.slice a' xs.length c') := by
            rw [hB1.cell (by show b < _; omega)]; exact hcell0
          have hrow := hrow0.keep (Same.of_below hB1 hh)
          clear hcell0 hrow0
          by_cases h16 : xs.length = 16
          · obtain ⟨fb, foff, rfl, -, hfb, hrange⟩ := rd_row hrow (by omega)
            rw [h16] at hcell
            have hR' : Hid (w1.rangeAt fb foff (ints xs)) := hrange
            have h16' : Hid (xs.length = 16) := h16
            clear hrange h16
            go_wp2
            go_loop [4] (fun v' => ∃ k : Nat, k ≤ 16 ∧ v' = .int .i64 k ∧ Hid (∀ j (hj : j < xs.length), j < k → 0 ≤ xs[j] ∧ xs[j] ≤ 15)) (fun v' => 16 - (intOf v').toNat)
            case atStart => exact ⟨0, by omega, rfl, fun j _ h => by omega⟩
            case round =>
              obtain ⟨k, hk16, rfl, hin⟩ := hrel
              by_cases hk : k < 16
              · obtain ⟨z, hz⟩ : ∃ z, xs[k]'(by rw [h16'.out]; exact hk) = z := ⟨_, rfl⟩
                have hcz := range_cell hR'.out k (by rw [h16'.out]; exact hk)
                rw [hz] at hcz
                have hZ : Hid (xs[k]'(by rw [h16'.out]; exact hk) = z) := hz
                clear hz
                by_cases hzb : 0 ≤ z ∧ z ≤ 15
                · have hdz : decide (0 ≤ z ∧ z ≤ 15) = true := decide_eq_true hzb
                  go_wp2_with (first | (go_at_call 32; refine (place.in_any _ _ _ _).mono ?_; rintro e wq ⟨rfl, hq⟩; subst wq))
                  go_round
                  case rel =>
                    refine ⟨k + 1, by omega, by go_num, fun j hj hjk => ?_⟩
                    by_cases e : j = k
                    · subst e; rw [hZ.out]; exact hzb
                    · exact hin.out j hj (by omega)
                  case measure => simp [intOf]; omega
                · have hdz : decide (0 ≤ z ∧ z ≤ 15) = false := decide_eq_false hzb
                  have hno : Hid (decide (skOk R adds) = false) := decide_eq_false (fun h => hzb (by rw [← hZ.out]; exact h.2.2.2 xs (by rw [← HX.out]; exact List.getElem_mem hiR) _ (List.getElem_mem _)))
                  go_wp2_with (first | (go_at_call 32; refine (place.in_any _ _ _ _).mono ?_; rintro e wq ⟨rfl, hq⟩; subst wq))
                  go_ret
                  exact ⟨by rw [hno.out]; rfl, hB1⟩
              · obtain rfl : k = 16 := by omega
                go_wp2
                go_round
                case rel =>
                  refine ⟨i + 1, by omega, by go_num, fun j hj hji => ?_⟩
                  by_cases e : j = i
                  · subst e; rw [HX.out]; exact ⟨h16'.out, fun x hx => by obtain ⟨q, hq, rfl⟩ := List.getElem_of_mem hx; exact hin.out q hq (by rw [h16'.out] at hq; exact hq)⟩
                  · exact hdone.out j hj (by omega)
                case measure => simp [intOf]; omega
          · have hno : Hid (decide (skOk R adds) = false) := decide_eq_false (fun h => h16 (by rw [← HX.out]; exact h.2.2.1 _ (List.getElem_mem hiR)))
            have h16i : ¬ ((xs.length : Int) = 16) := by omega
            go_wp2
            go_ret
            exact ⟨by rw [hno.out]; rfl, hB1⟩
        · obtain rfl : i = 4 := by omega
          have hyes : Hid (skOk R adds) := ⟨h4'.out, ha, fun ys hy => by obtain ⟨j, hj, rfl⟩ := List.getElem_of_mem hy; exact (hdone.out j hj (by rw [h4'.out] at hj; exact hj)).1, fun ys hy => by obtain ⟨j, hj, rfl⟩ := List.getElem_of_mem hy; exact (hdone.out j hj (by rw [h4'.out] at hj; exact hj)).2⟩
          go_wp2
          go_ret
          exact ⟨by rw [decide_eq_true hyes.out]; rfl, hB1⟩
    · have hda : decide (0 ≤ adds ∧ adds ≤ 159) = false := decide_eq_false ha
      have hno : Hid (decide (skOk R adds) = false) := decide_eq_false (fun h => ha h.2.1)
      clear h4
      go_enter Try.func11, Try.ntmps11
      go_wp2_with (first | (refine wpList_box_v rfl 27 _ rfl [.slice a R.length cap, .int .i64 adds] rfl ?_; intro b1 w1 hb1 hw1 hB1 hV1; have hc0 := hV1.cell 0 (by simp); have hc1 := hV1.cell 1 (by simp); simp only [List.getElem_cons_zero, List.getElem_cons_succ] at hc0 hc1) | (go_at_call 32; refine (place.in_any _ _ _ _).mono ?_; rintro e wq ⟨rfl, hq⟩; subst wq))
      go_ret
      exact ⟨by rw [hno.out]; rfl, hB1⟩
  · have hno : Hid (decide (skOk R adds) = false) := decide_eq_false (fun h => h4 h.1)
    have h4' : ¬ ((R.length : Int) = 4) := by omega
    go_enter Try.func11, Try.ntmps11
    go_wp2_with (first | (refine wpList_box_v rfl 27 _ rfl [.slice a R.length cap, .int .i64 adds] rfl ?_; intro b1 w1 hb1 hw1 hB1 hV1; have hc0 := hV1.cell 0 (by simp); have hc1 := hV1.cell 1 (by simp); simp only [List.getElem_cons_zero, List.getElem_cons_succ] at hc0 hc1) | (go_at_call 32; refine (place.in_any _ _ _ _).mono ?_; rintro e wq ⟨rfl, hq⟩; subst wq))
    go_ret
    exact ⟨by rw [hno.out]; rfl, hB1⟩

set_option maxHeartbeats 1000000 in
theorem l2Estimate_any (R : List (List Int)) (adds : Int) (hR4 : Four R) (key : ByteArray) (hk : key.size ≤ 1048576) (v : Value) (w : World) (hi : Nat) (hh : hi ≤ w.heap.size) (hv : Rd w 0 hi v R) :
    Calls Try.prog 45 #[skv v adds, .string key] w fun e w' => e = .returned (.int .i64 (estN key R 4)) ∧ Below w.heap.size w w' := by
  obtain ⟨hRl, a, cap, rfl, hrows⟩ := hv
  have h4' : Hid (R.length = 4) := hR4.1
  have h4i : ((R.length : Int) = 4) := by have := hR4.1; omega
  rcases hrows with hnil | ⟨b, off, rfl, -, hbhi, hcells⟩
  · subst hnil; simp [Hid] at h4'
  have hCells : Hid (∀ i (h : i < R.length), ∃ a' c', w.cell? ⟨b, off + i, none⟩ = some (.slice a' (R[i]).length c') ∧ RowR w 0 hi a' R[i]) := hcells
  clear hcells
  go_enter Try.func45, Try.ntmps45
  go_wp2_with (first | (refine wpList_box_v rfl 27 _ rfl [.slice (some ⟨b, off, none⟩) R.length cap, .int .i64 adds] rfl ?_; intro b1 w1 hb1 hw1 hB1 hV1))
  go_loopw [5, 6] (fun m v' wr => ∃ i : Nat, i ≤ 4 ∧ v' = .int .i64 i ∧ m = .int .i64 (estN key R i) ∧ VBlk wr b1 27 [.slice (some ⟨b, off, none⟩) R.length cap, .int .i64 adds] ∧ Below w.heap.size w wr) (fun _ v' _ => 4 - (intOf v').toNat)
  case atStart => exact ⟨0, by omega, rfl, rfl, hV1, hB1⟩
  case round =>
    obtain ⟨i, hi4, rfl, rfl, hVr, hBr⟩ := hrel
    by_cases hlt : i < 4
    · have hiR : i < R.length := by rw [hR4.1]; exact hlt
      obtain ⟨a', c', hcell0, hrow0⟩ := hCells.out i hiR
      obtain ⟨xs, hxs⟩ : ∃ xs, R[i] = xs := ⟨_, rfl⟩
      rw [hxs] at hcell0 hrow0
      have hx16 : xs.length = 16 := by rw [← hxs]; exact hR4.2 _ (List.getElem_mem hiR)
      obtain ⟨fb, foff, rfl, -, hfb, hrange⟩ := rd_row hrow0 (by omega)
      rw [hx16] at hcell0
      have hpb := place.placeOf_bd key i
      obtain ⟨p, hp⟩ : ∃ p : Nat, place.placeOf key i = p := ⟨(place.placeOf key i).toNat, by omega⟩
      have hp16 : p < 16 := by omega
      have hpi : (p : Int) < 16 := by omega
      have hP : Hid (place.placeOf key i = p) := hp
      clear hp hpb
      obtain ⟨z, hz⟩ : ∃ z, xs[p]'(by omega) = z := ⟨_, rfl⟩
      have hcz0 := range_cell hrange p (by omega)
      rw [hz] at hcz0
      have hE1 : Hid (estN key R (i + 1) = min (estN key R i) z) := by
        unfold Hid
        rw [estN_succ, hP.out]
        congr 1
        have e1 : R.getD i [] = xs := by rw [List.getD_eq_getElem?_getD, List.getElem?_eq_getElem hiR, hxs]; rfl
        rw [e1, Int.toNat_natCast, List.getD_eq_getElem?_getD, List.getElem?_eq_getElem (by omega), ← hz]; rfl
      obtain ⟨m, hm⟩ : ∃ m, estN key R i = m := ⟨_, rfl⟩
      have hM : Hid (estN key R i = m) := hm
      rw [hm]
      have hcv := hVr.cell 0 (by simp)
      simp only [List.getElem_cons_zero] at hcv
      have hcell : wr.cell? ⟨b, off + i, none⟩ = some (.slice (some ⟨fb, foff, none⟩) 16 c') := by rw [hBr.cell (by show b < _; omega)]; exact hcell0
      have hcz : wr.cell? ⟨fb, foff + p, none⟩ = some (.int .i64 z) := by rw [hBr.cell (by show fb < _; omega)]; exact hcz0
      have lv := hVr.lt
      have hbr := hBr.size
      clear hxs hz hm hcell0 hrow0 hcz0 hrange
      have hilt : (i : Int) < R.length := by omega
      go_wp2
      go_region_held3 (fun w' => w'.cell? ⟨b1, 0, none⟩ = some (.slice (some ⟨b, off, none⟩) R.length cap) ∧ w'.cell? ⟨b, off + i, none⟩ = some (.slice (some ⟨fb, foff, none⟩) 16 c') ∧ w'.cell? ⟨fb, foff + p, none⟩ = some (.int .i64 z)) (first | assumption | exact ⟨hcv, hcell, hcz⟩ | exact ⟨hcv10, hcell10, hcz10⟩) (first | (go_at_call 19; refine (place.spec_in key i (by omega) (by omega) hk _).mono ?_; rintro e w10 ⟨he, hO10⟩; rw [hP.out] at he; subst he; have hB10 := hO10.below; have hV10 := VBlk.below (w := wr.drew) hVr hB10 lv; have hcv10 := hV10.cell 0 (by simp); simp only [List.getElem_cons_zero] at hcv10; have hcell10 : w10.cell? ⟨b, off + i, none⟩ = some (.slice (some ⟨fb, foff, none⟩) 16 c') := (by rw [hB10.cell (by show b < wr.heap.size; omega)]; exact hcell); have hcz10 : w10.cell? ⟨fb, foff + p, none⟩ = some (.int .i64 z) := (by rw [hB10.cell (by show fb < wr.heap.size; omega)]; exact hcz)) | (go_at_call 58; refine (min_any _ _ _).mono ?_; rintro e wq ⟨rfl, hq⟩; subst wq))
      go_wp2
      go_roundw
      case rel =>
        refine ⟨i + 1, by omega, by go_num, ?_, hV10, hBr.drew.trans (hB10.mono hbr)⟩
        rw [hE1.out, hM.out]
      case measure => simp [intOf]; omega
    · obtain rfl : i = 4 := by omega
      go_wp2
      go_ret
      exact ⟨rfl, hBr⟩

theorem specEstimate_any (R : List (List Int)) (adds : Int) (key : ByteArray) (hk : key.size ≤ 1048576) (v : Value) (w : World) (hi : Nat) (hh : hi ≤ w.heap.size) (hv : Rd w 0 hi v R) :
    Calls Try.prog 23 #[skv v adds, .string key] w fun e w' => e = .returned (.int .i64 (estA R adds key)) ∧ Below w.heap.size w w' := by
  have hV : Hid (Rd w 0 hi v R) := hv
  clear hv
  by_cases hok : skOk R adds
  · have hd : decide (skOk R adds) = true := decide_eq_true hok
    have hR4 := hok.four
    have hE : Hid (estA R adds key = estN key R 4) := by simp [Hid, estA, hok]
    clear hok
    go_enter Try.func23, Try.ntmps23
    go_wp2_with (first | (refine wpList_box_v rfl 27 _ rfl [v, .int .i64 adds] rfl ?_; intro b1 w1 hb1 hw1 hB1 hV1; have hc0 := hV1.cell 0 (by simp); have hc1 := hV1.cell 1 (by simp); simp only [List.getElem_cons_zero, List.getElem_cons_succ] at hc0 hc1) | (go_at_call 11; refine (specSketchOk_any R adds v _ hi (by have := hB1.size; omega) (hV.out.below hB1 hh)).mono ?_; rintro e w2 ⟨rfl, hB2⟩; have hV2 := hV1.below hB2 hw1; have hc02 := hV2.cell 0 (by simp); have hc12 := hV2.cell 1 (by simp); simp only [List.getElem_cons_zero, List.getElem_cons_succ] at hc02 hc12) | (go_at_call 45; refine (l2Estimate_any R adds hR4 key hk v _ hi (by have := hB1.size; have := hB2.size; omega) ((hV.out.below hB1 hh).below hB2 (by have := hB1.size; omega))).mono ?_; rintro e w3 ⟨rfl, hB3⟩))
    go_ret
    have h1 := hB1.size
    have h2 := hB2.size
    exact ⟨by rw [hE.out]; rfl, (hB1.trans (hB2.mono h1)).trans (hB3.mono (by omega))⟩
  · have hd : decide (skOk R adds) = false := decide_eq_false hok
    have hE : Hid (estA R adds key = -1) := by simp [Hid, estA, hok]
    go_enter Try.func23, Try.ntmps23
    go_wp2_with (first | (refine wpList_box_v rfl 27 _ rfl [v, .int .i64 adds] rfl ?_; intro b1 w1 hb1 hw1 hB1 hV1; have hc0 := hV1.cell 0 (by simp); have hc1 := hV1.cell 1 (by simp); simp only [List.getElem_cons_zero, List.getElem_cons_succ] at hc0 hc1) | (go_at_call 11; refine (specSketchOk_any R adds v _ hi (by have := hB1.size; omega) (hV.out.below hB1 hh)).mono ?_; rintro e w2 ⟨rfl, hB2⟩))
    go_ret
    exact ⟨by rw [hE.out]; rfl, hB1.trans (hB2.mono hB1.size)⟩

end Go.Proofs.Ytgdoclaifnnpgaa.sk
