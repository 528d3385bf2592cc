/- Contracts: the program's shapes of replies; is a reply right. -/
import Derived.Test.YtefmndjoailemaaDoorRk1
import Derived.Test.YtefmndjoailemaaDoorRg1
import Derived.Test.YtefmndjoailemaaDoorRg2
import Derived.BigQuiet
import Derived.Deep.RegionHeld3
import Derived.Deep.DeepCutAuto
namespace Go.Proofs.YtefmndjoailemaaDoor.cm
open Go.ChangeShapes Go.WideShapes Go.ChangeAt Go.RowKit
open Go.Deep Go.Joins
open Go.Proofs.YtefmndjoailemaaDoor.ce Go.Proofs.YtefmndjoailemaaDoor.ro Go.Proofs.YtefmndjoailemaaDoor.rg
set_option linter.unusedVariables false

theorem with_is (x lo hi : Int) (y : Bool) (h : (decide (lo ≤ x) && decide (x ≤ hi)) = y) (w : World) : Calls Tryd.prog 34 #[.int .i64 x, .int .i64 lo, .int .i64 hi] w fun e w' => e = .returned (.bool y) ∧ w' = w := by
  by_cases h0 : lo ≤ x
  · by_cases h1 : x ≤ hi
    · rw [decide_eq_true h0, decide_eq_true h1] at h
      subst h
      go_enter Tryd.func34, Tryd.ntmps34
      go_wp2
      go_ret
      exact ⟨rfl, rfl⟩
    · rw [decide_eq_true h0, decide_eq_false h1] at h
      subst h
      go_enter Tryd.func34, Tryd.ntmps34
      go_wp2
      go_ret
      exact ⟨rfl, rfl⟩
  · rw [decide_eq_false h0] at h
    subst h
    go_enter Tryd.func34, Tryd.ntmps34
    go_wp2
    go_ret
    exact ⟨rfl, rfl⟩
set_option maxRecDepth 10000 in
set_option maxHeartbeats 1000000 in
theorem shapeOf_out (K : Int) (N : ByteArray) (F : Int) (B : ByteArray) (C M : Int) (hin : (decide (1 ≤ K) && decide (K ≤ 12)) = false) (w : World) : Calls Tryd.prog 29 #[.agg #[.int .i64 K, .string N, .int .i64 F, .string B, .int .i64 C, .int .i64 M]] w fun e w' => e = .returned (.nilIface) ∧ Below w.heap.size w w' := by
  go_enter Tryd.func29, Tryd.ntmps29
  go_wp2_with (first | (refine wpList_box_v rfl 35 _ rfl [.int .i64 K, .string N, .int .i64 F, .string B, .int .i64 C, .int .i64 M] rfl ?_; intro b1 w1 hb1 hw1 hB1 V1; obtain ⟨c0, c1, c2, c3, c4, c5⟩ := cellsRp V1; have hz1 := hB1.size) | (go_at_call 34; refine (with_is K 1 12 _ hin _).mono ?_; rintro e wq ⟨rfl, hq⟩; subst wq) | (fail))
  go_ret
  exact ⟨rfl, hB1⟩
set_option maxRecDepth 10000 in
set_option maxHeartbeats 1000000 in
theorem shapeOf_val (N : ByteArray) (F : Int) (B : ByteArray) (C M : Int)  (w : World) : Calls Tryd.prog 29 #[.agg #[.int .i64 5, .string N, .int .i64 F, .string B, .int .i64 C, .int .i64 M]] w fun e w' => e = .returned (.iface 75 (.agg #[.string N, .int .i64 F, .string B, .int .i64 C])) ∧ Below w.heap.size w w' := by
  go_enter Tryd.func29, Tryd.ntmps29
  go_wp2_with (first | (refine wpList_box_v rfl 35 _ rfl [.int .i64 5, .string N, .int .i64 F, .string B, .int .i64 C, .int .i64 M] rfl ?_; intro b1 w1 hb1 hw1 hB1 V1; obtain ⟨c0, c1, c2, c3, c4, c5⟩ := cellsRp V1; have hz1 := hB1.size) | (go_at_call 34; refine (with_is 5 1 12 true (by decide) _).mono ?_; rintro e wq ⟨rfl, hq⟩; subst wq) | (fail))
  go_ret
  exact ⟨rfl, hB1⟩
set_option maxRecDepth 10000 in
set_option maxHeartbeats 1000000 in
theorem shapeOf_num (N : ByteArray) (F : Int) (B : ByteArray) (C M : Int)  (w : World) : Calls Tryd.prog 29 #[.agg #[.int .i64 6, .string N, .int .i64 F, .string B, .int .i64 C, .int .i64 M]] w fun e w' => e = .returned (.iface 73 (.int .i64 M)) ∧ Below w.heap.size w w' := by
  go_enter Tryd.func29, Tryd.ntmps29
  go_wp2_with (first | (refine wpList_box_v rfl 35 _ rfl [.int .i64 6, .string N, .int .i64 F, .string B, .int .i64 C, .int .i64 M] rfl ?_; intro b1 w1 hb1 hw1 hB1 V1; obtain ⟨c0, c1, c2, c3, c4, c5⟩ := cellsRp V1; have hz1 := hB1.size) | (go_at_call 34; refine (with_is 6 1 12 true (by decide) _).mono ?_; rintro e wq ⟨rfl, hq⟩; subst wq) | (fail))
  go_ret
  exact ⟨rfl, hB1⟩
set_option maxRecDepth 10000 in
set_option maxHeartbeats 1000000 in
theorem shapeOf_bare (K : Int) (N : ByteArray) (F : Int) (B : ByteArray) (C M : Int) (hin : (decide (1 ≤ K) && decide (K ≤ 12)) = true) (k5 : (K == 5) = false) (k6 : (K == 6) = false) (w : World) : Calls Tryd.prog 29 #[.agg #[.int .i64 K, .string N, .int .i64 F, .string B, .int .i64 C, .int .i64 M]] w fun e w' => e = .returned (.iface 71 (.int .i64 K)) ∧ Below w.heap.size w w' := by
  go_enter Tryd.func29, Tryd.ntmps29
  go_wp2_with (first | (refine wpList_box_v rfl 35 _ rfl [.int .i64 K, .string N, .int .i64 F, .string B, .int .i64 C, .int .i64 M] rfl ?_; intro b1 w1 hb1 hw1 hB1 V1; obtain ⟨c0, c1, c2, c3, c4, c5⟩ := cellsRp V1; have hz1 := hB1.size) | (go_at_call 34; refine (with_is K 1 12 _ hin _).mono ?_; rintro e wq ⟨rfl, hq⟩; subst wq) | (fail))
  go_ret
  exact ⟨rfl, hB1⟩
set_option maxRecDepth 10000 in
set_option maxHeartbeats 1000000 in
theorem right_nil   (w : World) : Calls Tryd.prog 36 #[.nilIface] w fun e w' => e = .returned (.bool false) ∧ w' = w := by
  have aB : ∀ w : World, (Instr.typeAssert .nilIface 51 71 true).run Tryd.prog w = .ok (.tuple #[.int .i64 0, .bool false]) w := fun _ => by kernel_rfl
  have aN : ∀ w : World, (Instr.typeAssert .nilIface 51 73 true).run Tryd.prog w = .ok (.tuple #[.int .i64 0, .bool false]) w := fun _ => by kernel_rfl
  have aV : ∀ w : World, (Instr.typeAssert .nilIface 51 75 true).run Tryd.prog w = .ok (.tuple #[.agg #[.string ⟨#[]⟩, .int .i64 0, .string ⟨#[]⟩, .int .i64 0], .bool false]) w := fun _ => by kernel_rfl
  go_enter Tryd.func36, Tryd.ntmps36
  go_wp2_with (fail)
  go_ret
  exact ⟨rfl, rfl⟩
set_option maxRecDepth 10000 in
set_option maxHeartbeats 1000000 in
theorem right_bare (K : Int)  (w : World) : Calls Tryd.prog 36 #[.iface 71 (.int .i64 K)] w fun e w' => e = .returned (.bool true) ∧ w' = w := by
  have aB : ∀ w : World, (Instr.typeAssert (.iface 71 (.int .i64 K)) 51 71 true).run Tryd.prog w = .ok (.tuple #[.int .i64 K, .bool true]) w := fun _ => by kernel_rfl
  go_enter Tryd.func36, Tryd.ntmps36
  go_wp2_with (fail)
  go_ret
  exact ⟨rfl, rfl⟩
set_option maxRecDepth 10000 in
set_option maxHeartbeats 1000000 in
theorem right_num (M : Int) (y : Bool) (hm : (decide (0 ≤ M) && decide (M ≤ 999999999)) = y) (w : World) : Calls Tryd.prog 36 #[.iface 73 (.int .i64 M)] w fun e w' => e = .returned (.bool y) ∧ w' = w := by
  have aB : ∀ w : World, (Instr.typeAssert (.iface 73 (.int .i64 M)) 51 71 true).run Tryd.prog w = .ok (.tuple #[.int .i64 0, .bool false]) w := fun _ => by kernel_rfl
  have aN : ∀ w : World, (Instr.typeAssert (.iface 73 (.int .i64 M)) 51 73 true).run Tryd.prog w = .ok (.tuple #[.int .i64 M, .bool true]) w := fun _ => by kernel_rfl
  go_enter Tryd.func36, Tryd.ntmps36
  go_wp2_with (first | (go_at_call 34; refine (with_is M 0 999999999 _ hm _).mono ?_; rintro e wq ⟨rfl, hq⟩; subst wq) | (fail))
  go_ret
  exact ⟨rfl, rfl⟩
set_option maxRecDepth 10000 in
set_option maxHeartbeats 1000000 in
theorem right_val (N : ByteArray) (F : Int) (B : ByteArray) (C : Int) (y : Bool) (hy : Hid ((nameB N && (decide (0 ≤ F) && decide (F ≤ 65535)) && decide ((B.size : Int) ≤ 64) && (decide (0 ≤ C) && decide (C ≤ 1000000))) = y)) (hN : N.size ≤ 9223372036854775807) (hB : B.size ≤ 9223372036854775807) (w : World) : Calls Tryd.prog 36 #[.iface 75 (.agg #[.string N, .int .i64 F, .string B, .int .i64 C])] w fun e w' => e = .returned (.bool y) ∧ Below w.heap.size w w' := by
  have aB : ∀ w : World, (Instr.typeAssert (.iface 75 (.agg #[.string N, .int .i64 F, .string B, .int .i64 C])) 51 71 true).run Tryd.prog w = .ok (.tuple #[.int .i64 0, .bool false]) w := fun _ => by kernel_rfl
  have aN : ∀ w : World, (Instr.typeAssert (.iface 75 (.agg #[.string N, .int .i64 F, .string B, .int .i64 C])) 51 73 true).run Tryd.prog w = .ok (.tuple #[.int .i64 0, .bool false]) w := fun _ => by kernel_rfl
  have aV : ∀ w : World, (Instr.typeAssert (.iface 75 (.agg #[.string N, .int .i64 F, .string B, .int .i64 C])) 51 75 true).run Tryd.prog w = .ok (.tuple #[.agg #[.string N, .int .i64 F, .string B, .int .i64 C], .bool true]) w := fun _ => by kernel_rfl
  obtain ⟨x1, h1⟩ := hid_ex (nameB N)
  obtain ⟨x2, h2⟩ := hid_ex (decide (0 ≤ F) && decide (F ≤ 65535))
  obtain ⟨x4, h4⟩ := hid_ex (decide (0 ≤ C) && decide (C ≤ 1000000))
  have m1 : Hid True := trivial
  have hy2 : (x1 && x2 && decide ((B.size : Int) ≤ 64) && x4) = y := by rw [← h1.out, ← h2.out, ← h4.out, ← hy.out]
  clear hy
  by_cases h3 : (B.size : Int) ≤ 64
  · rw [decide_eq_true h3] at hy2
    cases x1 with
    | false =>
      subst hy2
      go_enter Tryd.func36, Tryd.ntmps36
      go_wp2_with (first | (go_at_call 53; refine (implNameOk_any _ hN _).mono ?_; rintro e wq ⟨rfl, hq⟩; subst wq; rw [h1.out]) | (clear m1; go_at_call 34; refine (with_is F 0 65535 _ h2.out _).mono ?_; rintro e wq ⟨rfl, hq⟩; subst wq) | (go_at_call 34; refine (with_is C 0 1000000 _ h4.out _).mono ?_; rintro e wq ⟨rfl, hq⟩; subst wq) | (fail))
      go_ret
      exact ⟨rfl, (Below.refl _ w).alloc (Nat.le_refl _) _⟩
    | true =>
      cases x2 with
      | false =>
        subst hy2
        go_enter Tryd.func36, Tryd.ntmps36
        go_wp2_with (first | (go_at_call 53; refine (implNameOk_any _ hN _).mono ?_; rintro e wq ⟨rfl, hq⟩; subst wq; rw [h1.out]) | (clear m1; go_at_call 34; refine (with_is F 0 65535 _ h2.out _).mono ?_; rintro e wq ⟨rfl, hq⟩; subst wq) | (go_at_call 34; refine (with_is C 0 1000000 _ h4.out _).mono ?_; rintro e wq ⟨rfl, hq⟩; subst wq) | (fail))
        go_ret
        exact ⟨rfl, (Below.refl _ w).alloc (Nat.le_refl _) _⟩
      | true =>
        cases x4 with
        | false =>
          subst hy2
          go_enter Tryd.func36, Tryd.ntmps36
          go_wp2_with (first | (go_at_call 53; refine (implNameOk_any _ hN _).mono ?_; rintro e wq ⟨rfl, hq⟩; subst wq; rw [h1.out]) | (clear m1; go_at_call 34; refine (with_is F 0 65535 _ h2.out _).mono ?_; rintro e wq ⟨rfl, hq⟩; subst wq) | (go_at_call 34; refine (with_is C 0 1000000 _ h4.out _).mono ?_; rintro e wq ⟨rfl, hq⟩; subst wq) | (fail))
          go_ret
          exact ⟨rfl, (Below.refl _ w).alloc (Nat.le_refl _) _⟩
        | true =>
          subst hy2
          go_enter Tryd.func36, Tryd.ntmps36
          go_wp2_with (first | (go_at_call 53; refine (implNameOk_any _ hN _).mono ?_; rintro e wq ⟨rfl, hq⟩; subst wq; rw [h1.out]) | (clear m1; go_at_call 34; refine (with_is F 0 65535 _ h2.out _).mono ?_; rintro e wq ⟨rfl, hq⟩; subst wq) | (go_at_call 34; refine (with_is C 0 1000000 _ h4.out _).mono ?_; rintro e wq ⟨rfl, hq⟩; subst wq) | (fail))
          go_ret
          exact ⟨rfl, (Below.refl _ w).alloc (Nat.le_refl _) _⟩
  · rw [decide_eq_false h3, Bool.and_false, Bool.false_and] at hy2
    cases x1 with
    | false =>
      subst hy2
      go_enter Tryd.func36, Tryd.ntmps36
      go_wp2_with (first | (go_at_call 53; refine (implNameOk_any _ hN _).mono ?_; rintro e wq ⟨rfl, hq⟩; subst wq; rw [h1.out]) | (clear m1; go_at_call 34; refine (with_is F 0 65535 _ h2.out _).mono ?_; rintro e wq ⟨rfl, hq⟩; subst wq) | (fail))
      go_ret
      exact ⟨rfl, (Below.refl _ w).alloc (Nat.le_refl _) _⟩
    | true =>
      cases x2 with
      | false =>
        subst hy2
        go_enter Tryd.func36, Tryd.ntmps36
        go_wp2_with (first | (go_at_call 53; refine (implNameOk_any _ hN _).mono ?_; rintro e wq ⟨rfl, hq⟩; subst wq; rw [h1.out]) | (clear m1; go_at_call 34; refine (with_is F 0 65535 _ h2.out _).mono ?_; rintro e wq ⟨rfl, hq⟩; subst wq) | (fail))
        go_ret
        exact ⟨rfl, (Below.refl _ w).alloc (Nat.le_refl _) _⟩
      | true =>
        subst hy2
        go_enter Tryd.func36, Tryd.ntmps36
        go_wp2_with (first | (go_at_call 53; refine (implNameOk_any _ hN _).mono ?_; rintro e wq ⟨rfl, hq⟩; subst wq; rw [h1.out]) | (clear m1; go_at_call 34; refine (with_is F 0 65535 _ h2.out _).mono ?_; rintro e wq ⟨rfl, hq⟩; subst wq) | (fail))
        go_ret
        exact ⟨rfl, (Below.refl _ w).alloc (Nat.le_refl _) _⟩
set_option maxRecDepth 10000 in
set_option maxHeartbeats 1000000 in
theorem reply_bare (K : Int) (w : World) : Calls Tryd.prog 140 #[.int .i64 K] w fun e w' => e = .returned (.agg #[.int .i64 K, .string ⟨#[]⟩, .int .i64 0, .string ⟨#[]⟩, .int .i64 0, .int .i64 0]) ∧ Below w.heap.size w w' := by
  go_enter Tryd.func140, Tryd.ntmps140
  go_wp2_with (first | (refine wpList_alloc_v rfl 35 rfl _ zeroRp ?_; intro b2 w2 hb2 hw2 hB2 V2; have hz2 := hB2.size) | (refine wpList_store_v rfl 35 _ _ rfl b2 [.int .i64 K, .string ⟨#[]⟩, .int .i64 0, .string ⟨#[]⟩, .int .i64 0, .int .i64 0] rfl rfl sizeRp V2 rfl (oneRp ⟨K, ⟨#[]⟩, 0, ⟨#[]⟩, 0, 0⟩) ?_; intro w9 hO9 V9) | (fail))
  exact row_retv rfl rfl V9 Tryd.underlying35 sizeRp rfl ⟨rfl, hB2.trans (hO9.2.2 _ (by omega))⟩
set_option maxRecDepth 10000 in
set_option maxHeartbeats 1000000 in
theorem reply_numbered (M : Int) (w : World) : Calls Tryd.prog 141 #[.int .i64 M] w fun e w' => e = .returned (.agg #[.int .i64 6, .string ⟨#[]⟩, .int .i64 0, .string ⟨#[]⟩, .int .i64 0, .int .i64 M]) ∧ Below w.heap.size w w' := by
  go_enter Tryd.func141, Tryd.ntmps141
  go_wp2_with (first | (refine wpList_alloc_v rfl 35 rfl _ zeroRp ?_; intro b2 w2 hb2 hw2 hB2 V2; have hz2 := hB2.size) | (refine wpList_store_v rfl 35 _ _ rfl b2 [.int .i64 6, .string ⟨#[]⟩, .int .i64 0, .string ⟨#[]⟩, .int .i64 0, .int .i64 M] rfl rfl sizeRp V2 rfl (oneRp ⟨6, ⟨#[]⟩, 0, ⟨#[]⟩, 0, M⟩) ?_; intro w9 hO9 V9) | (fail))
  exact row_retv rfl rfl V9 Tryd.underlying35 sizeRp rfl ⟨rfl, hB2.trans (hO9.2.2 _ (by omega))⟩
set_option maxRecDepth 10000 in
set_option maxHeartbeats 1000000 in
theorem reply_valued (N : ByteArray) (F : Int) (B : ByteArray) (C : Int) (w : World) : Calls Tryd.prog 142 #[.agg #[.string N, .int .i64 F, .string B, .int .i64 C]] w fun e w' => e = .returned (.agg #[.int .i64 5, .string N, .int .i64 F, .string B, .int .i64 C, .int .i64 0]) ∧ Below w.heap.size w w' := by
  go_enter Tryd.func142, Tryd.ntmps142
  go_wp2_with (first | (refine wpList_box_v rfl 75 _ rfl [.string N, .int .i64 F, .string B, .int .i64 C] rfl ?_; intro b1 w1 hb1 hw1 hB1 V1; have hz1 := hB1.size) | (refine wpList_alloc_v rfl 35 rfl _ zeroRp ?_; intro b2 w2 hb2 hw2 hB2 V2; have hz2 := hB2.size; have V1b := vblk_grow V1 hB2; have y0 := V1b.cell 0 (by simp); have y1 := V1b.cell 1 (by simp); have y2 := V1b.cell 2 (by simp); have y3 := V1b.cell 3 (by simp); simp only [List.getElem_cons_zero, List.getElem_cons_succ] at y0 y1 y2 y3) | (refine wpList_store_v rfl 35 _ _ rfl b2 [.int .i64 5, .string N, .int .i64 F, .string B, .int .i64 C, .int .i64 0] rfl rfl sizeRp V2 rfl (oneRp ⟨5, N, F, B, C, 0⟩) ?_; intro w9 hO9 V9) | (fail))
  exact row_retv rfl rfl V9 Tryd.underlying35 sizeRp rfl ⟨rfl, (hB1.trans (hB2.mono hz1)).trans (hO9.2.2 _ (by omega))⟩
end Go.Proofs.YtefmndjoailemaaDoor.cm
