/- Contracts: SplitOk, the model's; what it answers is splitB. -/
import Derived.Test.YtbialeffdpmcjaaSy1
namespace Go.Proofs.Ytbialeffdpmcjaa.sx
open Go.ChangeShapes Go.WideShapes Go.ChangeAt Go.RowKit
open Go.Proofs.Ytbialeffdpmcjaa.ce
set_option linter.unusedVariables false

theorem okK_split (n k : Int) (h0 : 0 ≤ k) (h1 : k ≤ 65535) : okK n k = (k % 2 == 1 || decide (rv (k / 2) 15 < n)) := by
  unfold okK; rw [decide_eq_true h0, decide_eq_true h1]; rfl
theorem turn_half (k : Int) (h0 : 0 ≤ k) (h1 : k ≤ 65535) : turn (k / 2) 15 = rv (k / 2) 15 := turn15 _ (by omega) (by omega)
theorem in_yes (x lo hi : Int) (h1 : lo ≤ x) (h2 : x ≤ hi) (w : World) : Calls Try.prog 47 #[.int .i64 x, .int .i64 lo, .int .i64 hi] w fun e w' => e = .returned (.bool true) ∧ w' = w := by
  have h2' : decide (x ≤ hi) = true := decide_eq_true h2
  go_enter Try.func47, Try.ntmps47
  go_wp2
  go_ret
  exact ⟨by first | rfl | simp [h2], rfl⟩
theorem in_no (x lo hi : Int) (h : ¬ (lo ≤ x ∧ x ≤ hi)) (w : World) : Calls Try.prog 47 #[.int .i64 x, .int .i64 lo, .int .i64 hi] w fun e w' => e = .returned (.bool false) ∧ w' = w := by
  by_cases h1 : lo ≤ x
  · have h2 : ¬ x ≤ hi := fun h' => h ⟨h1, h'⟩
    have h2' : decide (x ≤ hi) = false := decide_eq_false h2
    clear h
    go_enter Try.func47, Try.ntmps47
    go_wp2
    go_ret
    exact ⟨by first | rfl | simp [h2], rfl⟩
  · clear h
    go_enter Try.func47, Try.ntmps47
    go_wp2
    go_ret
    exact ⟨rfl, rfl⟩
/-- the key ahead of place i -/
def lastOf (ks : List Int) : Nat → Int
  | 0 => -1
  | i + 1 => ks.getD i 0
theorem drop_ok (n : Int) (ks : List Int) (i : Nat) (h : i < ks.length) : okFrom n (lastOf ks i) (ks.drop i) = (decide (lastOf ks i < ks[i]) && (okK n ks[i] && okFrom n (lastOf ks (i + 1)) (ks.drop (i + 1)))) := by
  rw [List.drop_eq_getElem_cons h, okFrom_cons]
  congr 3
  simp [lastOf, h]

set_option maxRecDepth 100000 in
set_option maxHeartbeats 4000000 in
theorem specSplitOk_any (n : Int) (ks : List Int) (v : Value) (hi : Nat) (w : World) (hh : hi ≤ w.heap.size) (r : RdI w hi v ks) :
    Calls Try.prog 13 #[.agg #[.int .i64 n, v]] w fun e w' => e = .returned (.bool (splitB n ks)) ∧ Below w.heap.size w w' := by
  have hl := r.len
  obtain ⟨a, cap, rfl⟩ := r.form
  have R : Hid (RdI w hi (.slice a ks.length cap) ks) := r
  clear r
  obtain ⟨z, hz⟩ := hid_ex (splitB n ks)
  rw [hz.out]
  have BX : Hid True := trivial
  cases hs : sizeB n with
  | false =>
    have ez : z = false := by rw [← hz.out]; simp [splitB, hs]
    subst ez
    go_enter Try.func13, Try.ntmps13
    go_wp2_with (first | (clear BX; refine wpList_box_v rfl 27 _ rfl [.int .i64 n, .slice a ks.length cap] rfl ?_; intro b1 w1 hb1 hw1 hB1 hV1; obtain ⟨c0, c1⟩ := sp_cells hV1) | (go_at_call 46; refine (l7Size_any _ _).mono ?_; rintro e w' ⟨rfl, rfl⟩; rw [hs]) | (fail))
    go_ret
    exact ⟨rfl, hB1⟩
  | true =>
    by_cases h0 : ks.length = 0
    · have ez : z = false := by
        have := List.eq_nil_of_length_eq_zero h0
        rw [← hz.out]; simp [splitB, this]
      subst ez
      have h0' : ((ks.length : Int) == 0) = true := by simp [h0]
      go_enter Try.func13, Try.ntmps13
      go_wp2_with (first | (clear BX; refine wpList_box_v rfl 27 _ rfl [.int .i64 n, .slice a ks.length cap] rfl ?_; intro b1 w1 hb1 hw1 hB1 hV1; obtain ⟨c0, c1⟩ := sp_cells hV1) | (go_at_call 46; refine (l7Size_any _ _).mono ?_; rintro e w' ⟨rfl, rfl⟩; rw [hs]) | (fail))
      go_ret
      exact ⟨rfl, hB1⟩
    · have h0' : ((ks.length : Int) == 0) = false := by rw [beq_eq_false_iff_ne]; omega
      have hl0 : 0 < ks.length := by omega
      have hl0' : (0 : Int) < (ks.length : Int) := by omega
      obtain ⟨k0, hk0⟩ := hid_ex (ks[0])
      have eh : ks.head? = some k0 := by rw [List.head?_eq_getElem?, List.getElem?_eq_getElem hl0, hk0.out]
      obtain ⟨b, off, rfl, hbh, d0⟩ := R.out.cell 0 hl0
      rw [hk0.out, Nat.add_zero] at d0
      by_cases hk : k0 = 0
      · have hk' : (k0 != 0) = false := by simp [hk]
        have hZ : Hid (okFrom n (lastOf ks 0) (ks.drop 0) = z) := by
          unfold Hid
          rw [← hz.out]
          simp [splitB, hs, eh, hk, lastOf]
        clear eh
        go_enter Try.func13, Try.ntmps13
        go_wp2_with (first | (clear BX; refine wpList_box_v rfl 27 _ rfl [.int .i64 n, .slice (some ⟨b, off, none⟩) ks.length cap] rfl ?_; intro b1 w1 hb1 hw1 hB1 hV1; obtain ⟨c0, c1⟩ := sp_cells hV1; have d1 : w1.cell? ⟨b, off, none⟩ = some (.int .i64 k0) := (by rw [hB1.cell (by show b < w.heap.size; omega)]; exact d0)) | (go_at_call 46; refine (l7Size_any _ _).mono ?_; rintro e w' ⟨rfl, rfl⟩; rw [hs]) | (fail))
        clear d1 d0 c0 c1
        go_loopw [3] (fun p wr => ∃ i : Nat, p = .int .i64 i ∧ i ≤ ks.length ∧ Hid (okFrom n (lastOf ks i) (ks.drop i) = z) ∧ Below w.heap.size w wr ∧ VBlk wr b1 27 [.int .i64 n, .slice (some ⟨b, off, none⟩) ks.length cap]) (fun p _ => ks.length + 1 - (intOf p).toNat)
        case atStart => exact ⟨0, rfl, by omega, hZ, hB1, hV1⟩
        case round =>
          obtain ⟨i, rfl, hi1, hF, hBr, hVr⟩ := hrel
          obtain ⟨c0, c1⟩ := sp_cells hVr
          by_cases hlt : i < ks.length
          · have hlt' : (i : Int) < (ks.length : Int) := by omega
            obtain ⟨b', off', e', hb', d1⟩ := (R.out.below hBr hh).cell i hlt
            cases e'
            rw [drop_ok n ks i hlt] at hF
            obtain ⟨k, hkk⟩ := hid_ex (ks[i])
            rw [hkk.out] at d1 hF
            by_cases hr : 0 ≤ k ∧ k ≤ 65535
            · obtain ⟨hr0, hr1⟩ := hr
              rw [okK_split n k hr0 hr1] at hF
              have et := turn_half k hr0 hr1
              have hrv := rv15 (k / 2)
              obtain ⟨t, hT⟩ := hid_ex (rv (k / 2) 15)
              rw [hT.out] at hF et hrv
              -- the place ahead
              have hprev : Hid (i = 0 ∧ lastOf ks i = -1) ∨ ∃ j y, Hid (i = j + 1) ∧ Hid (lastOf ks i = y) ∧ wr.cell? ⟨b, off + j, none⟩ = some (.int .i64 y) := by
                cases i with
                | zero => exact .inl ⟨rfl, rfl⟩
                | succ j =>
                  refine .inr ⟨j, lastOf ks (j + 1), (rfl : j + 1 = j + 1), (rfl : lastOf ks (j + 1) = _), ?_⟩
                  obtain ⟨b', off', e', hb', d1⟩ := (R.out.below hBr hh).cell j (by omega)
                  cases e'
                  rw [d1]
                  simp [lastOf, show j < ks.length by omega]
              rcases hprev with hp | ⟨j, y, ej, hy, d2⟩
              · have hi0 : decide (0 < i) = false := decide_eq_false (by have := hp.out.1; omega)
                rw [hp.out.2, decide_eq_true (show (-1 : Int) < k by omega)] at hF
                rcases Int.emod_two_eq k with hm | hm
                · have hm' : (k % 2 == 0) = true := by simp [hm]
                  by_cases hn : t < n
                  · have hn' : decide (n ≤ t) = false := decide_eq_false (by omega)
                    have hG : Hid (okFrom n (lastOf ks (i + 1)) (ks.drop (i + 1)) = z) := by unfold Hid; rw [← hF.out]; simp [hn]
                    go_wp2
                    go_big_quiet (first | (go_at_call 47; exact Calls.quiet_of_same (in_yes _ _ _ hr0 hr1 _)) | (go_at_call 43; exact Calls.quiet_of_same (specTurned_any _ _ _)) | (fail))
                    go_wp2
                    go_roundw
                    case rel => exact ⟨i + 1, by go_num, by omega, hG, hBr.trans (below_drewN _ _), hVr.of rfl⟩
                    case measure => simp [intOf]; omega
                  · have hn' : decide (n ≤ t) = true := decide_eq_true (by omega)
                    have ez : z = false := by rw [← hF.out]; simp [hn, hm]
                    subst ez
                    go_wp2
                    go_big_quiet (first | (go_at_call 47; exact Calls.quiet_of_same (in_yes _ _ _ hr0 hr1 _)) | (go_at_call 43; exact Calls.quiet_of_same (specTurned_any _ _ _)) | (fail))
                    go_wp2
                    go_ret
                    exact ⟨rfl, hBr.trans (below_drewN _ _)⟩
                · have hm' : (k % 2 == 0) = false := by simp [hm]
                  have hG : Hid (okFrom n (lastOf ks (i + 1)) (ks.drop (i + 1)) = z) := by unfold Hid; rw [← hF.out]; simp [hm]
                  go_wp2
                  go_big_quiet (first | (go_at_call 47; exact Calls.quiet_of_same (in_yes _ _ _ hr0 hr1 _)) | (go_at_call 43; exact Calls.quiet_of_same (specTurned_any _ _ _)) | (fail))
                  go_wp2
                  go_roundw
                  case rel => exact ⟨i + 1, by go_num, by omega, hG, hBr.trans (below_drewN _ _), hVr.of rfl⟩
                  case measure => simp [intOf]; omega

              · have hi0 : decide (0 < i) = true := decide_eq_true (by have := ej.out; omega)
                have hj : (i : Int) - 1 = (j : Int) := by have := ej.out; omega
                have hjl : (j : Int) < (ks.length : Int) := by omega
                rw [hy.out] at hF
                by_cases hky : k ≤ y
                · have hky' : decide (k ≤ y) = true := decide_eq_true hky
                  have ez : z = false := by rw [← hF.out, decide_eq_false (show ¬ y < k by omega)]; rfl
                  subst ez
                  go_wp2
                  go_big_quiet (first | (go_at_call 47; exact Calls.quiet_of_same (in_yes _ _ _ hr0 hr1 _)) | (go_at_call 43; exact Calls.quiet_of_same (specTurned_any _ _ _)) | (fail))
                  go_wp2
                  go_ret
                  exact ⟨rfl, hBr.trans (below_drewN _ _)⟩
                · have hky' : decide (k ≤ y) = false := decide_eq_false hky
                  rw [decide_eq_true (show y < k by omega)] at hF
                  rcases Int.emod_two_eq k with hm | hm
                  · have hm' : (k % 2 == 0) = true := by simp [hm]
                    by_cases hn : t < n
                    · have hn' : decide (n ≤ t) = false := decide_eq_false (by omega)
                      have hG : Hid (okFrom n (lastOf ks (i + 1)) (ks.drop (i + 1)) = z) := by unfold Hid; rw [← hF.out]; simp [hn]
                      go_wp2
                      go_big_quiet (first | (go_at_call 47; exact Calls.quiet_of_same (in_yes _ _ _ hr0 hr1 _)) | (go_at_call 43; exact Calls.quiet_of_same (specTurned_any _ _ _)) | (fail))
                      go_wp2
                      go_roundw
                      case rel => exact ⟨i + 1, by go_num, by omega, hG, hBr.trans (below_drewN _ _), hVr.of rfl⟩
                      case measure => simp [intOf]; omega
                    · have hn' : decide (n ≤ t) = true := decide_eq_true (by omega)
                      have ez : z = false := by rw [← hF.out]; simp [hn, hm]
                      subst ez
                      go_wp2
                      go_big_quiet (first | (go_at_call 47; exact Calls.quiet_of_same (in_yes _ _ _ hr0 hr1 _)) | (go_at_call 43; exact Calls.quiet_of_same (specTurned_any _ _ _)) | (fail))
                      go_wp2
                      go_ret
                      exact ⟨rfl, hBr.trans (below_drewN _ _)⟩
                  · have hm' : (k % 2 == 0) = false := by simp [hm]
                    have hG : Hid (okFrom n (lastOf ks (i + 1)) (ks.drop (i + 1)) = z) := by unfold Hid; rw [← hF.out]; simp [hm]
                    go_wp2
                    go_big_quiet (first | (go_at_call 47; exact Calls.quiet_of_same (in_yes _ _ _ hr0 hr1 _)) | (go_at_call 43; exact Calls.quiet_of_same (specTurned_any _ _ _)) | (fail))
                    go_wp2
                    go_roundw
                    case rel => exact ⟨i + 1, by go_num, by omega, hG, hBr.trans (below_drewN _ _), hVr.of rfl⟩
                    case measure => simp [intOf]; omega

            · have ez : z = false := by
                rw [← hF.out]
                have : okK n k = false := by
                  cases h : okK n k with
                  | false => rfl
                  | true => simp only [okK, Bool.and_eq_true, decide_eq_true_eq] at h; omega
                rw [this]; simp
              subst ez
              go_wp2
              go_big_quiet (first | (go_at_call 47; exact Calls.quiet_of_same (in_no _ _ _ hr _)) | (go_at_call 43; exact Calls.quiet_of_same (specTurned_any _ _ _)) | (fail))
              go_wp2
              go_ret
              exact ⟨rfl, hBr.trans (below_drewN _ _)⟩
          · have hlt' : ¬ (i : Int) < (ks.length : Int) := by omega
            have ez : z = true := by
              rw [← hF.out, List.drop_eq_nil_of_le (by omega)]; rfl
            subst ez
            go_wp2
            go_ret
            exact ⟨rfl, hBr⟩
      · have hk' : (k0 != 0) = true := by simpa using hk
        have ez : z = false := by rw [← hz.out]; simp [splitB, eh, hk]
        subst ez
        clear eh
        go_enter Try.func13, Try.ntmps13
        go_wp2_with (first | (clear BX; refine wpList_box_v rfl 27 _ rfl [.int .i64 n, .slice (some ⟨b, off, none⟩) ks.length cap] rfl ?_; intro b1 w1 hb1 hw1 hB1 hV1; obtain ⟨c0, c1⟩ := sp_cells hV1; have d1 : w1.cell? ⟨b, off, none⟩ = some (.int .i64 k0) := (by rw [hB1.cell (by show b < w.heap.size; omega)]; exact d0)) | (go_at_call 46; refine (l7Size_any _ _).mono ?_; rintro e w' ⟨rfl, rfl⟩; rw [hs]) | (fail))
        go_ret
        exact ⟨rfl, hB1⟩
end Go.Proofs.Ytbialeffdpmcjaa.sx
