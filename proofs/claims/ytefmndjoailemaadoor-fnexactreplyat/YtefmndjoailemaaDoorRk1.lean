/- Contracts: is a reply right, the model's. -/
import Derived.Test.YtefmndjoailemaaDoorPx1
import Derived.Test.YtefmndjoailemaaDoorRcRp
import Derived.Test.YtefmndjoailemaaDoorRo3
import Derived.BigQuiet
import Derived.Deep.RegionHeld3
namespace Go.Proofs.YtefmndjoailemaaDoor.cm
open Go.ChangeShapes Go.WideShapes Go.ChangeAt Go.RowKit
open Go.Proofs.YtefmndjoailemaaDoor.ce Go.Proofs.YtefmndjoailemaaDoor.ro Go.Proofs.YtefmndjoailemaaDoor.rg
set_option linter.unusedVariables false

theorem int_flip {x : Int} {z : Bool} (h : (x == 0) = z) : ((0 : Int) == x) = z := by
  rw [← h]
  by_cases e : x = 0
  · subst e
    rfl
  · rw [show (x == 0) = false by simpa using e, show ((0 : Int) == x) = false by simp; exact fun q => e q.symm]
theorem l1In_is (x lo hi : Int) (y : Bool) (h : (decide (lo ≤ x) && decide (x ≤ hi)) = y) (w : World) : Calls Tryd.prog 42 #[.int .i64 x, .int .i64 lo, .int .i64 hi] w fun e w' => e = .returned (.bool y) ∧ w' = w := by
  by_cases h0 : lo ≤ x
  · by_cases h1 : x ≤ hi
    · rw [decide_eq_true h0, decide_eq_true h1] at h
      subst h
      go_enter Tryd.func42, Tryd.ntmps42
      go_wp2
      go_ret
      exact ⟨rfl, rfl⟩
    · rw [decide_eq_true h0, decide_eq_false h1] at h
      subst h
      go_enter Tryd.func42, Tryd.ntmps42
      go_wp2
      go_ret
      exact ⟨rfl, rfl⟩
  · rw [decide_eq_false h0] at h
    subst h
    go_enter Tryd.func42, Tryd.ntmps42
    go_wp2
    go_ret
    exact ⟨rfl, rfl⟩
set_option maxRecDepth 10000 in
set_option maxHeartbeats 4000000 in
theorem specReplyOk_any (K : Int) (N : ByteArray) (F : Int) (B : ByteArray) (C M : Int) (y : Bool) (hy : Hid (repB ⟨K, N, F, B, C, M⟩ = y)) (hN : N.size ≤ 9223372036854775807) (hB : B.size ≤ 9223372036854775807) (w : World) :
    Calls Tryd.prog 25 #[.agg #[.int .i64 K, .string N, .int .i64 F, .string B, .int .i64 C, .int .i64 M]] w fun e w' => e = .returned (.bool y) ∧ Below w.heap.size w w' := by
  cases hin : (decide (1 ≤ K) && decide (K ≤ 12)) with
  | false =>
    have hy2 : false = y := by rw [← hy.out]; exact (rep_out (r := ⟨K, N, F, B, C, M⟩) hin).symm
    subst hy2
    go_enter Tryd.func25, Tryd.ntmps25
    go_wp2_with (first | (refine wpList_box_v rfl 35 _ rfl [.int .i64 K, .string N, .int .i64 F, .string B, .int .i64 C, .int .i64 M] rfl ?_; intro b1 w1 hb1 hw1 hB1 V1; obtain ⟨c0, c1, c2, c3, c4, c5⟩ := cellsRp V1; have hz1 := hB1.size) | (go_at_call 42; refine (l1In_is K 1 12 _ hin _).mono ?_; rintro e wq ⟨rfl, hq⟩; subst wq) | (fail))
    go_ret
    exact ⟨rfl, hB1⟩
  | true =>
    have hk : 1 ≤ K ∧ K ≤ 12 := by simpa using hin
    have m0 : Hid True := trivial
    by_cases k5 : K = 5
    · subst k5
      obtain ⟨x1, h1⟩ := hid_ex (nameB N)
      obtain ⟨x2, h2⟩ := hid_ex (decide (0 ≤ F) && decide (F ≤ 65535))
      obtain ⟨x4, h4⟩ := hid_ex (decide (0 ≤ C) && decide (C ≤ 1000000))
      have m1 : Hid True := trivial
      obtain ⟨zM, eM⟩ := hid_ex (M == 0)
      have pM : (M == 0) = zM := eM.out
      have qM : ((0 : Int) == M) = zM := int_flip eM.out
      have hy2 : (x1 && x2 && decide ((B.size : Int) ≤ 64) && x4 && zM) = y := by rw [← h1.out, ← h2.out, ← h4.out, ← eM.out, ← hy.out]; exact rep_val.symm
      clear hy hk
      by_cases h3 : (B.size : Int) ≤ 64
      · rw [decide_eq_true h3] at hy2
        cases x1 with
        | false =>
          subst hy2
          go_enter Tryd.func25, Tryd.ntmps25
          go_wp2_with (first | (refine wpList_box_v rfl 35 _ rfl [.int .i64 5, .string N, .int .i64 F, .string B, .int .i64 C, .int .i64 M] rfl ?_; intro b1 w1 hb1 hw1 hB1 V1; obtain ⟨c0, c1, c2, c3, c4, c5⟩ := cellsRp V1; have hz1 := hB1.size) | (clear m0; go_at_call 42; refine (l1In_is 5 1 12 _ hin _).mono ?_; rintro e wq ⟨rfl, hq⟩; subst wq) | (go_at_call 43; refine (specNameOk_any _ hN _).mono ?_; rintro e wq ⟨rfl, hq⟩; subst wq; rw [h1.out]) | (clear m1; go_at_call 42; refine (l1In_is F 0 65535 _ h2.out _).mono ?_; rintro e wq ⟨rfl, hq⟩; subst wq) | (go_at_call 42; refine (l1In_is C 0 1000000 _ h4.out _).mono ?_; rintro e wq ⟨rfl, hq⟩; subst wq) | (fail))
          go_ret
          exact ⟨rfl, hB1⟩
        | true =>
          cases x2 with
          | false =>
            subst hy2
            go_enter Tryd.func25, Tryd.ntmps25
            go_wp2_with (first | (refine wpList_box_v rfl 35 _ rfl [.int .i64 5, .string N, .int .i64 F, .string B, .int .i64 C, .int .i64 M] rfl ?_; intro b1 w1 hb1 hw1 hB1 V1; obtain ⟨c0, c1, c2, c3, c4, c5⟩ := cellsRp V1; have hz1 := hB1.size) | (clear m0; go_at_call 42; refine (l1In_is 5 1 12 _ hin _).mono ?_; rintro e wq ⟨rfl, hq⟩; subst wq) | (go_at_call 43; refine (specNameOk_any _ hN _).mono ?_; rintro e wq ⟨rfl, hq⟩; subst wq; rw [h1.out]) | (clear m1; go_at_call 42; refine (l1In_is F 0 65535 _ h2.out _).mono ?_; rintro e wq ⟨rfl, hq⟩; subst wq) | (go_at_call 42; refine (l1In_is C 0 1000000 _ h4.out _).mono ?_; rintro e wq ⟨rfl, hq⟩; subst wq) | (fail))
            go_ret
            exact ⟨rfl, hB1⟩
          | true =>
            cases x4 with
            | false =>
              subst hy2
              go_enter Tryd.func25, Tryd.ntmps25
              go_wp2_with (first | (refine wpList_box_v rfl 35 _ rfl [.int .i64 5, .string N, .int .i64 F, .string B, .int .i64 C, .int .i64 M] rfl ?_; intro b1 w1 hb1 hw1 hB1 V1; obtain ⟨c0, c1, c2, c3, c4, c5⟩ := cellsRp V1; have hz1 := hB1.size) | (clear m0; go_at_call 42; refine (l1In_is 5 1 12 _ hin _).mono ?_; rintro e wq ⟨rfl, hq⟩; subst wq) | (go_at_call 43; refine (specNameOk_any _ hN _).mono ?_; rintro e wq ⟨rfl, hq⟩; subst wq; rw [h1.out]) | (clear m1; go_at_call 42; refine (l1In_is F 0 65535 _ h2.out _).mono ?_; rintro e wq ⟨rfl, hq⟩; subst wq) | (go_at_call 42; refine (l1In_is C 0 1000000 _ h4.out _).mono ?_; rintro e wq ⟨rfl, hq⟩; subst wq) | (fail))
              go_ret
              exact ⟨rfl, hB1⟩
            | true =>
              cases zM with
              | false =>
                subst hy2
                go_enter Tryd.func25, Tryd.ntmps25
                go_wp2_with (first | (refine wpList_box_v rfl 35 _ rfl [.int .i64 5, .string N, .int .i64 F, .string B, .int .i64 C, .int .i64 M] rfl ?_; intro b1 w1 hb1 hw1 hB1 V1; obtain ⟨c0, c1, c2, c3, c4, c5⟩ := cellsRp V1; have hz1 := hB1.size) | (clear m0; go_at_call 42; refine (l1In_is 5 1 12 _ hin _).mono ?_; rintro e wq ⟨rfl, hq⟩; subst wq) | (go_at_call 43; refine (specNameOk_any _ hN _).mono ?_; rintro e wq ⟨rfl, hq⟩; subst wq; rw [h1.out]) | (clear m1; go_at_call 42; refine (l1In_is F 0 65535 _ h2.out _).mono ?_; rintro e wq ⟨rfl, hq⟩; subst wq) | (go_at_call 42; refine (l1In_is C 0 1000000 _ h4.out _).mono ?_; rintro e wq ⟨rfl, hq⟩; subst wq) | (fail))
                go_ret
                exact ⟨rfl, hB1⟩
              | true =>
                subst hy2
                go_enter Tryd.func25, Tryd.ntmps25
                go_wp2_with (first | (refine wpList_box_v rfl 35 _ rfl [.int .i64 5, .string N, .int .i64 F, .string B, .int .i64 C, .int .i64 M] rfl ?_; intro b1 w1 hb1 hw1 hB1 V1; obtain ⟨c0, c1, c2, c3, c4, c5⟩ := cellsRp V1; have hz1 := hB1.size) | (clear m0; go_at_call 42; refine (l1In_is 5 1 12 _ hin _).mono ?_; rintro e wq ⟨rfl, hq⟩; subst wq) | (go_at_call 43; refine (specNameOk_any _ hN _).mono ?_; rintro e wq ⟨rfl, hq⟩; subst wq; rw [h1.out]) | (clear m1; go_at_call 42; refine (l1In_is F 0 65535 _ h2.out _).mono ?_; rintro e wq ⟨rfl, hq⟩; subst wq) | (go_at_call 42; refine (l1In_is C 0 1000000 _ h4.out _).mono ?_; rintro e wq ⟨rfl, hq⟩; subst wq) | (fail))
                go_ret
                exact ⟨rfl, hB1⟩
      · rw [decide_eq_false h3, Bool.and_false, Bool.false_and, Bool.false_and] at hy2
        cases x1 with
        | false =>
          subst hy2
          go_enter Tryd.func25, Tryd.ntmps25
          go_wp2_with (first | (refine wpList_box_v rfl 35 _ rfl [.int .i64 5, .string N, .int .i64 F, .string B, .int .i64 C, .int .i64 M] rfl ?_; intro b1 w1 hb1 hw1 hB1 V1; obtain ⟨c0, c1, c2, c3, c4, c5⟩ := cellsRp V1; have hz1 := hB1.size) | (clear m0; go_at_call 42; refine (l1In_is 5 1 12 _ hin _).mono ?_; rintro e wq ⟨rfl, hq⟩; subst wq) | (go_at_call 43; refine (specNameOk_any _ hN _).mono ?_; rintro e wq ⟨rfl, hq⟩; subst wq; rw [h1.out]) | (clear m1; go_at_call 42; refine (l1In_is F 0 65535 _ h2.out _).mono ?_; rintro e wq ⟨rfl, hq⟩; subst wq) | (fail))
          go_ret
          exact ⟨rfl, hB1⟩
        | true =>
          cases x2 with
          | false =>
            subst hy2
            go_enter Tryd.func25, Tryd.ntmps25
            go_wp2_with (first | (refine wpList_box_v rfl 35 _ rfl [.int .i64 5, .string N, .int .i64 F, .string B, .int .i64 C, .int .i64 M] rfl ?_; intro b1 w1 hb1 hw1 hB1 V1; obtain ⟨c0, c1, c2, c3, c4, c5⟩ := cellsRp V1; have hz1 := hB1.size) | (clear m0; go_at_call 42; refine (l1In_is 5 1 12 _ hin _).mono ?_; rintro e wq ⟨rfl, hq⟩; subst wq) | (go_at_call 43; refine (specNameOk_any _ hN _).mono ?_; rintro e wq ⟨rfl, hq⟩; subst wq; rw [h1.out]) | (clear m1; go_at_call 42; refine (l1In_is F 0 65535 _ h2.out _).mono ?_; rintro e wq ⟨rfl, hq⟩; subst wq) | (fail))
            go_ret
            exact ⟨rfl, hB1⟩
          | true =>
            subst hy2
            go_enter Tryd.func25, Tryd.ntmps25
            go_wp2_with (first | (refine wpList_box_v rfl 35 _ rfl [.int .i64 5, .string N, .int .i64 F, .string B, .int .i64 C, .int .i64 M] rfl ?_; intro b1 w1 hb1 hw1 hB1 V1; obtain ⟨c0, c1, c2, c3, c4, c5⟩ := cellsRp V1; have hz1 := hB1.size) | (clear m0; go_at_call 42; refine (l1In_is 5 1 12 _ hin _).mono ?_; rintro e wq ⟨rfl, hq⟩; subst wq) | (go_at_call 43; refine (specNameOk_any _ hN _).mono ?_; rintro e wq ⟨rfl, hq⟩; subst wq; rw [h1.out]) | (clear m1; go_at_call 42; refine (l1In_is F 0 65535 _ h2.out _).mono ?_; rintro e wq ⟨rfl, hq⟩; subst wq) | (fail))
            go_ret
            exact ⟨rfl, hB1⟩
    · have k5' : (K == 5) = false := by simpa using k5
      by_cases k6 : K = 6
      · subst k6
        obtain ⟨x1, h1⟩ := hid_ex (decide (0 ≤ M) && decide (M ≤ 999999999))
        obtain ⟨zN, eN⟩ := hid_ex (emB N)
        obtain ⟨pN, qN, rN⟩ := emB_facts eN.out
        obtain ⟨zF, eF⟩ := hid_ex (F == 0)
        have pF : (F == 0) = zF := eF.out
        have qF : ((0 : Int) == F) = zF := int_flip eF.out
        obtain ⟨zB, eB⟩ := hid_ex (emB B)
        obtain ⟨pB, qB, rB⟩ := emB_facts eB.out
        obtain ⟨zC, eC⟩ := hid_ex (C == 0)
        have pC : (C == 0) = zC := eC.out
        have qC : ((0 : Int) == C) = zC := int_flip eC.out
        have hy2 : (x1 && (zN && zF && zB && zC)) = y := by rw [← h1.out, ← eN.out, ← eF.out, ← eB.out, ← eC.out, ← hy.out]; exact rep_num.symm
        clear hy hk
        cases x1 with
        | false =>
          subst hy2
          go_enter Tryd.func25, Tryd.ntmps25
          go_wp2_with (first | (refine wpList_box_v rfl 35 _ rfl [.int .i64 6, .string N, .int .i64 F, .string B, .int .i64 C, .int .i64 M] rfl ?_; intro b1 w1 hb1 hw1 hB1 V1; obtain ⟨c0, c1, c2, c3, c4, c5⟩ := cellsRp V1; have hz1 := hB1.size) | (clear m0; go_at_call 42; refine (l1In_is 6 1 12 _ hin _).mono ?_; rintro e wq ⟨rfl, hq⟩; subst wq) | (go_at_call 42; refine (l1In_is M 0 999999999 _ h1.out _).mono ?_; rintro e wq ⟨rfl, hq⟩; subst wq) | (fail))
          go_ret
          exact ⟨rfl, hB1⟩
        | true =>
          cases zN with
          | false =>
            subst hy2
            go_enter Tryd.func25, Tryd.ntmps25
            go_wp2_with (first | (refine wpList_box_v rfl 35 _ rfl [.int .i64 6, .string N, .int .i64 F, .string B, .int .i64 C, .int .i64 M] rfl ?_; intro b1 w1 hb1 hw1 hB1 V1; obtain ⟨c0, c1, c2, c3, c4, c5⟩ := cellsRp V1; have hz1 := hB1.size) | (refine wpList_load_r rfl 35 _ rfl b1 0 [.int .i64 6, .string N, .int .i64 F, .string B, .int .i64 C, .int .i64 M] rfl _ Tryd.underlying35 rfl sizeRp V1.range ?_) | (clear m0; go_at_call 42; refine (l1In_is 6 1 12 _ hin _).mono ?_; rintro e wq ⟨rfl, hq⟩; subst wq) | (go_at_call 42; refine (l1In_is M 0 999999999 _ h1.out _).mono ?_; rintro e wq ⟨rfl, hq⟩; subst wq) | (fail))
            go_ret
            exact ⟨rfl, hB1⟩
          | true =>
            cases zF with
            | false =>
              subst hy2
              go_enter Tryd.func25, Tryd.ntmps25
              go_wp2_with (first | (refine wpList_box_v rfl 35 _ rfl [.int .i64 6, .string N, .int .i64 F, .string B, .int .i64 C, .int .i64 M] rfl ?_; intro b1 w1 hb1 hw1 hB1 V1; obtain ⟨c0, c1, c2, c3, c4, c5⟩ := cellsRp V1; have hz1 := hB1.size) | (refine wpList_load_r rfl 35 _ rfl b1 0 [.int .i64 6, .string N, .int .i64 F, .string B, .int .i64 C, .int .i64 M] rfl _ Tryd.underlying35 rfl sizeRp V1.range ?_) | (clear m0; go_at_call 42; refine (l1In_is 6 1 12 _ hin _).mono ?_; rintro e wq ⟨rfl, hq⟩; subst wq) | (go_at_call 42; refine (l1In_is M 0 999999999 _ h1.out _).mono ?_; rintro e wq ⟨rfl, hq⟩; subst wq) | (fail))
              go_ret
              exact ⟨rfl, hB1⟩
            | true =>
              cases zB with
              | false =>
                subst hy2
                go_enter Tryd.func25, Tryd.ntmps25
                go_wp2_with (first | (refine wpList_box_v rfl 35 _ rfl [.int .i64 6, .string N, .int .i64 F, .string B, .int .i64 C, .int .i64 M] rfl ?_; intro b1 w1 hb1 hw1 hB1 V1; obtain ⟨c0, c1, c2, c3, c4, c5⟩ := cellsRp V1; have hz1 := hB1.size) | (refine wpList_load_r rfl 35 _ rfl b1 0 [.int .i64 6, .string N, .int .i64 F, .string B, .int .i64 C, .int .i64 M] rfl _ Tryd.underlying35 rfl sizeRp V1.range ?_) | (clear m0; go_at_call 42; refine (l1In_is 6 1 12 _ hin _).mono ?_; rintro e wq ⟨rfl, hq⟩; subst wq) | (go_at_call 42; refine (l1In_is M 0 999999999 _ h1.out _).mono ?_; rintro e wq ⟨rfl, hq⟩; subst wq) | (fail))
                go_ret
                exact ⟨rfl, hB1⟩
              | true =>
                cases zC with
                | false =>
                  subst hy2
                  go_enter Tryd.func25, Tryd.ntmps25
                  go_wp2_with (first | (refine wpList_box_v rfl 35 _ rfl [.int .i64 6, .string N, .int .i64 F, .string B, .int .i64 C, .int .i64 M] rfl ?_; intro b1 w1 hb1 hw1 hB1 V1; obtain ⟨c0, c1, c2, c3, c4, c5⟩ := cellsRp V1; have hz1 := hB1.size) | (refine wpList_load_r rfl 35 _ rfl b1 0 [.int .i64 6, .string N, .int .i64 F, .string B, .int .i64 C, .int .i64 M] rfl _ Tryd.underlying35 rfl sizeRp V1.range ?_) | (clear m0; go_at_call 42; refine (l1In_is 6 1 12 _ hin _).mono ?_; rintro e wq ⟨rfl, hq⟩; subst wq) | (go_at_call 42; refine (l1In_is M 0 999999999 _ h1.out _).mono ?_; rintro e wq ⟨rfl, hq⟩; subst wq) | (fail))
                  go_ret
                  exact ⟨rfl, hB1⟩
                | true =>
                  subst hy2
                  go_enter Tryd.func25, Tryd.ntmps25
                  go_wp2_with (first | (refine wpList_box_v rfl 35 _ rfl [.int .i64 6, .string N, .int .i64 F, .string B, .int .i64 C, .int .i64 M] rfl ?_; intro b1 w1 hb1 hw1 hB1 V1; obtain ⟨c0, c1, c2, c3, c4, c5⟩ := cellsRp V1; have hz1 := hB1.size) | (refine wpList_load_r rfl 35 _ rfl b1 0 [.int .i64 6, .string N, .int .i64 F, .string B, .int .i64 C, .int .i64 M] rfl _ Tryd.underlying35 rfl sizeRp V1.range ?_) | (clear m0; go_at_call 42; refine (l1In_is 6 1 12 _ hin _).mono ?_; rintro e wq ⟨rfl, hq⟩; subst wq) | (go_at_call 42; refine (l1In_is M 0 999999999 _ h1.out _).mono ?_; rintro e wq ⟨rfl, hq⟩; subst wq) | (fail))
                  go_ret
                  exact ⟨rfl, hB1⟩
      · have k6' : (K == 6) = false := by simpa using k6
        obtain ⟨zN, eN⟩ := hid_ex (emB N)
        obtain ⟨pN, qN, rN⟩ := emB_facts eN.out
        obtain ⟨zF, eF⟩ := hid_ex (F == 0)
        have pF : (F == 0) = zF := eF.out
        have qF : ((0 : Int) == F) = zF := int_flip eF.out
        obtain ⟨zB, eB⟩ := hid_ex (emB B)
        obtain ⟨pB, qB, rB⟩ := emB_facts eB.out
        obtain ⟨zC, eC⟩ := hid_ex (C == 0)
        have pC : (C == 0) = zC := eC.out
        have qC : ((0 : Int) == C) = zC := int_flip eC.out
        obtain ⟨zM, eM⟩ := hid_ex (M == 0)
        have pM : (M == 0) = zM := eM.out
        have qM : ((0 : Int) == M) = zM := int_flip eM.out
        have hy2 : (zN && zF && zB && zC && zM) = y := by rw [← eN.out, ← eF.out, ← eB.out, ← eC.out, ← eM.out, ← hy.out]; exact (rep_bare hk.1 hk.2 k5 k6).symm
        have hKK : (K == K) = true := by simp
        clear hy hk k5 k6
        cases zN with
        | false =>
          subst hy2
          go_enter Tryd.func25, Tryd.ntmps25
          go_wp2_with (first | (refine wpList_box_v rfl 35 _ rfl [.int .i64 K, .string N, .int .i64 F, .string B, .int .i64 C, .int .i64 M] rfl ?_; intro b1 w1 hb1 hw1 hB1 V1; obtain ⟨c0, c1, c2, c3, c4, c5⟩ := cellsRp V1; have hz1 := hB1.size) | (refine wpList_load_r rfl 35 _ rfl b1 0 [.int .i64 K, .string N, .int .i64 F, .string B, .int .i64 C, .int .i64 M] rfl _ Tryd.underlying35 rfl sizeRp V1.range ?_) | (go_at_call 42; refine (l1In_is K 1 12 _ hin _).mono ?_; rintro e wq ⟨rfl, hq⟩; subst wq) | (fail))
          go_ret
          exact ⟨rfl, hB1⟩
        | true =>
          cases zF with
          | false =>
            subst hy2
            go_enter Tryd.func25, Tryd.ntmps25
            go_wp2_with (first | (refine wpList_box_v rfl 35 _ rfl [.int .i64 K, .string N, .int .i64 F, .string B, .int .i64 C, .int .i64 M] rfl ?_; intro b1 w1 hb1 hw1 hB1 V1; obtain ⟨c0, c1, c2, c3, c4, c5⟩ := cellsRp V1; have hz1 := hB1.size) | (refine wpList_load_r rfl 35 _ rfl b1 0 [.int .i64 K, .string N, .int .i64 F, .string B, .int .i64 C, .int .i64 M] rfl _ Tryd.underlying35 rfl sizeRp V1.range ?_) | (go_at_call 42; refine (l1In_is K 1 12 _ hin _).mono ?_; rintro e wq ⟨rfl, hq⟩; subst wq) | (fail))
            go_ret
            exact ⟨rfl, hB1⟩
          | true =>
            cases zB with
            | false =>
              subst hy2
              go_enter Tryd.func25, Tryd.ntmps25
              go_wp2_with (first | (refine wpList_box_v rfl 35 _ rfl [.int .i64 K, .string N, .int .i64 F, .string B, .int .i64 C, .int .i64 M] rfl ?_; intro b1 w1 hb1 hw1 hB1 V1; obtain ⟨c0, c1, c2, c3, c4, c5⟩ := cellsRp V1; have hz1 := hB1.size) | (refine wpList_load_r rfl 35 _ rfl b1 0 [.int .i64 K, .string N, .int .i64 F, .string B, .int .i64 C, .int .i64 M] rfl _ Tryd.underlying35 rfl sizeRp V1.range ?_) | (go_at_call 42; refine (l1In_is K 1 12 _ hin _).mono ?_; rintro e wq ⟨rfl, hq⟩; subst wq) | (fail))
              go_ret
              exact ⟨rfl, hB1⟩
            | true =>
              cases zC with
              | false =>
                subst hy2
                go_enter Tryd.func25, Tryd.ntmps25
                go_wp2_with (first | (refine wpList_box_v rfl 35 _ rfl [.int .i64 K, .string N, .int .i64 F, .string B, .int .i64 C, .int .i64 M] rfl ?_; intro b1 w1 hb1 hw1 hB1 V1; obtain ⟨c0, c1, c2, c3, c4, c5⟩ := cellsRp V1; have hz1 := hB1.size) | (refine wpList_load_r rfl 35 _ rfl b1 0 [.int .i64 K, .string N, .int .i64 F, .string B, .int .i64 C, .int .i64 M] rfl _ Tryd.underlying35 rfl sizeRp V1.range ?_) | (go_at_call 42; refine (l1In_is K 1 12 _ hin _).mono ?_; rintro e wq ⟨rfl, hq⟩; subst wq) | (fail))
                go_ret
                exact ⟨rfl, hB1⟩
              | true =>
                cases zM with
                | false =>
                  subst hy2
                  go_enter Tryd.func25, Tryd.ntmps25
                  go_wp2_with (first | (refine wpList_box_v rfl 35 _ rfl [.int .i64 K, .string N, .int .i64 F, .string B, .int .i64 C, .int .i64 M] rfl ?_; intro b1 w1 hb1 hw1 hB1 V1; obtain ⟨c0, c1, c2, c3, c4, c5⟩ := cellsRp V1; have hz1 := hB1.size) | (refine wpList_load_r rfl 35 _ rfl b1 0 [.int .i64 K, .string N, .int .i64 F, .string B, .int .i64 C, .int .i64 M] rfl _ Tryd.underlying35 rfl sizeRp V1.range ?_) | (go_at_call 42; refine (l1In_is K 1 12 _ hin _).mono ?_; rintro e wq ⟨rfl, hq⟩; subst wq) | (fail))
                  go_ret
                  exact ⟨rfl, hB1⟩
                | true =>
                  subst hy2
                  go_enter Tryd.func25, Tryd.ntmps25
                  go_wp2_with (first | (refine wpList_box_v rfl 35 _ rfl [.int .i64 K, .string N, .int .i64 F, .string B, .int .i64 C, .int .i64 M] rfl ?_; intro b1 w1 hb1 hw1 hB1 V1; obtain ⟨c0, c1, c2, c3, c4, c5⟩ := cellsRp V1; have hz1 := hB1.size) | (refine wpList_load_r rfl 35 _ rfl b1 0 [.int .i64 K, .string N, .int .i64 F, .string B, .int .i64 C, .int .i64 M] rfl _ Tryd.underlying35 rfl sizeRp V1.range ?_) | (go_at_call 42; refine (l1In_is K 1 12 _ hin _).mono ?_; rintro e wq ⟨rfl, hq⟩; subst wq) | (fail))
                  go_ret
                  exact ⟨rfl, hB1⟩
end Go.Proofs.YtefmndjoailemaaDoor.cm
