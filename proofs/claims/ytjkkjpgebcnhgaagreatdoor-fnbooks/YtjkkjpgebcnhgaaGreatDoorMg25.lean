/- Texts laid together: Rk1 Rk2 Rk3 Rk4 Rk5 Rk6 Sm4 Ds1. -/
import Derived.Test.YtjkkjpgebcnhgaaGreatDoorPx1
import Derived.Test.YtjkkjpgebcnhgaaGreatDoorMg10
import Derived.Test.YtjkkjpgebcnhgaaGreatDoorMg00
import Derived.Test.YtjkkjpgebcnhgaaGreatDoorMg12
import Derived.Test.YtjkkjpgebcnhgaaGreatDoorMg13
import Derived.Test.YtjkkjpgebcnhgaaGreatDoorMg03
import Derived.Test.YtjkkjpgebcnhgaaGreatDoorDd0
import Derived.Test.YtjkkjpgebcnhgaaGreatDoorMg20
import Derived.BigQuiet
import Derived.Deep.RegionHeld3
import Derived.Deep.DeepCutAuto
import Derived.Lib.SmallJoins
import Derived.Deep.Slices
/- Contracts: is a reply right, the model's. -/
namespace Go.Proofs.YtjkkjpgebcnhgaaGreatDoor.cm
open Go.ChangeShapes Go.WideShapes Go.ChangeAt Go.RowKit
open Go.Proofs.YtjkkjpgebcnhgaaGreatDoor.ce Go.Proofs.YtjkkjpgebcnhgaaGreatDoor.ro Go.Proofs.YtjkkjpgebcnhgaaGreatDoor.rg
set_option linter.unusedVariables false

theorem int_flip {x : Int} {z : Bool} (h : (x == 0) = z) : ((0 : Int) == x) = z := by
  rw [← h]
  by_cases e : x = 0
  · subst e
    rfl
  · rw [show (x == 0) = false by simpa using e, show ((0 : Int) == x) = false by simp; exact fun q => e q.symm]
end Go.Proofs.YtjkkjpgebcnhgaaGreatDoor.cm
/- Contracts: the program's shapes of replies; is a reply right. -/
namespace Go.Proofs.YtjkkjpgebcnhgaaGreatDoor.cm
open Go.ChangeShapes Go.WideShapes Go.ChangeAt Go.RowKit
open Go.Deep Go.Joins
open Go.Proofs.YtjkkjpgebcnhgaaGreatDoor.ce Go.Proofs.YtjkkjpgebcnhgaaGreatDoor.ro Go.Proofs.YtjkkjpgebcnhgaaGreatDoor.rg
set_option linter.unusedVariables false

theorem with_is (x lo hi : Int) (y : Bool) (h : (decide (lo ≤ x) && decide (x ≤ hi)) = y) (w : World) : Calls Tryz.prog 37 #[.int .i64 x, .int .i64 lo, .int .i64 hi] w fun e w' => e = .returned (.bool y) ∧ w' = w := by
  by_cases h0 : lo ≤ x
  · by_cases h1 : x ≤ hi
    · rw [decide_eq_true h0, decide_eq_true h1] at h
      subst h
      go_enter Tryz.func37, Tryz.ntmps37
      go_wp2
      go_ret
      exact ⟨rfl, rfl⟩
    · rw [decide_eq_true h0, decide_eq_false h1] at h
      subst h
      go_enter Tryz.func37, Tryz.ntmps37
      go_wp2
      go_ret
      exact ⟨rfl, rfl⟩
  · rw [decide_eq_false h0] at h
    subst h
    go_enter Tryz.func37, Tryz.ntmps37
    go_wp2
    go_ret
    exact ⟨rfl, rfl⟩
set_option maxRecDepth 10000 in
set_option maxHeartbeats 1000000 in
theorem shapeOf_out (K : Int) (N : ByteArray) (F : Int) (B : ByteArray) (C M : Int) (hin : (decide (1 ≤ K) && decide (K ≤ 12)) = false) (w : World) : Calls Tryz.prog 58 #[.agg #[.int .i64 K, .string N, .int .i64 F, .string B, .int .i64 C, .int .i64 M]] w fun e w' => e = .returned (.nilIface) ∧ Below w.heap.size w w' := by
  go_enter Tryz.func58, Tryz.ntmps58
  go_wp2_with (first | (refine wpList_box_v rfl 33 _ rfl [.int .i64 K, .string N, .int .i64 F, .string B, .int .i64 C, .int .i64 M] rfl ?_; intro b1 w1 hb1 hw1 hB1 V1; obtain ⟨c0, c1, c2, c3, c4, c5⟩ := cellsRp V1; have hz1 := hB1.size) | (go_at_call 37; refine (with_is K 1 12 _ hin _).mono ?_; rintro e wq ⟨rfl, hq⟩; subst wq) | (fail))
  go_ret
  exact ⟨rfl, hB1⟩
set_option maxRecDepth 10000 in
set_option maxHeartbeats 1000000 in
theorem shapeOf_val (N : ByteArray) (F : Int) (B : ByteArray) (C M : Int)  (w : World) : Calls Tryz.prog 58 #[.agg #[.int .i64 5, .string N, .int .i64 F, .string B, .int .i64 C, .int .i64 M]] w fun e w' => e = .returned (.iface 125 (.agg #[.string N, .int .i64 F, .string B, .int .i64 C])) ∧ Below w.heap.size w w' := by
  go_enter Tryz.func58, Tryz.ntmps58
  go_wp2_with (first | (refine wpList_box_v rfl 33 _ rfl [.int .i64 5, .string N, .int .i64 F, .string B, .int .i64 C, .int .i64 M] rfl ?_; intro b1 w1 hb1 hw1 hB1 V1; obtain ⟨c0, c1, c2, c3, c4, c5⟩ := cellsRp V1; have hz1 := hB1.size) | (go_at_call 37; refine (with_is 5 1 12 true (by decide) _).mono ?_; rintro e wq ⟨rfl, hq⟩; subst wq) | (fail))
  go_ret
  exact ⟨rfl, hB1⟩
set_option maxRecDepth 10000 in
set_option maxHeartbeats 1000000 in
theorem shapeOf_num (N : ByteArray) (F : Int) (B : ByteArray) (C M : Int)  (w : World) : Calls Tryz.prog 58 #[.agg #[.int .i64 6, .string N, .int .i64 F, .string B, .int .i64 C, .int .i64 M]] w fun e w' => e = .returned (.iface 123 (.int .i64 M)) ∧ Below w.heap.size w w' := by
  go_enter Tryz.func58, Tryz.ntmps58
  go_wp2_with (first | (refine wpList_box_v rfl 33 _ rfl [.int .i64 6, .string N, .int .i64 F, .string B, .int .i64 C, .int .i64 M] rfl ?_; intro b1 w1 hb1 hw1 hB1 V1; obtain ⟨c0, c1, c2, c3, c4, c5⟩ := cellsRp V1; have hz1 := hB1.size) | (go_at_call 37; refine (with_is 6 1 12 true (by decide) _).mono ?_; rintro e wq ⟨rfl, hq⟩; subst wq) | (fail))
  go_ret
  exact ⟨rfl, hB1⟩
set_option maxRecDepth 10000 in
set_option maxHeartbeats 1000000 in
theorem shapeOf_bare (K : Int) (N : ByteArray) (F : Int) (B : ByteArray) (C M : Int) (hin : (decide (1 ≤ K) && decide (K ≤ 12)) = true) (k5 : (K == 5) = false) (k6 : (K == 6) = false) (w : World) : Calls Tryz.prog 58 #[.agg #[.int .i64 K, .string N, .int .i64 F, .string B, .int .i64 C, .int .i64 M]] w fun e w' => e = .returned (.iface 126 (.int .i64 K)) ∧ Below w.heap.size w w' := by
  go_enter Tryz.func58, Tryz.ntmps58
  go_wp2_with (first | (refine wpList_box_v rfl 33 _ rfl [.int .i64 K, .string N, .int .i64 F, .string B, .int .i64 C, .int .i64 M] rfl ?_; intro b1 w1 hb1 hw1 hB1 V1; obtain ⟨c0, c1, c2, c3, c4, c5⟩ := cellsRp V1; have hz1 := hB1.size) | (go_at_call 37; refine (with_is K 1 12 _ hin _).mono ?_; rintro e wq ⟨rfl, hq⟩; subst wq) | (fail))
  go_ret
  exact ⟨rfl, hB1⟩
set_option maxRecDepth 10000 in
set_option maxHeartbeats 1000000 in
theorem right_nil   (w : World) : Calls Tryz.prog 59 #[.nilIface] w fun e w' => e = .returned (.bool false) ∧ w' = w := by
  have aB : ∀ w : World, (Instr.typeAssert .nilIface 89 126 true).run Tryz.prog w = .ok (.tuple #[.int .i64 0, .bool false]) w := fun _ => by kernel_rfl
  have aN : ∀ w : World, (Instr.typeAssert .nilIface 89 123 true).run Tryz.prog w = .ok (.tuple #[.int .i64 0, .bool false]) w := fun _ => by kernel_rfl
  have aV : ∀ w : World, (Instr.typeAssert .nilIface 89 125 true).run Tryz.prog w = .ok (.tuple #[.agg #[.string ⟨#[]⟩, .int .i64 0, .string ⟨#[]⟩, .int .i64 0], .bool false]) w := fun _ => by kernel_rfl
  go_enter Tryz.func59, Tryz.ntmps59
  go_wp2_with (fail)
  go_ret
  exact ⟨rfl, rfl⟩
set_option maxRecDepth 10000 in
set_option maxHeartbeats 1000000 in
theorem right_bare (K : Int)  (w : World) : Calls Tryz.prog 59 #[.iface 126 (.int .i64 K)] w fun e w' => e = .returned (.bool true) ∧ w' = w := by
  have aB : ∀ w : World, (Instr.typeAssert (.iface 126 (.int .i64 K)) 89 126 true).run Tryz.prog w = .ok (.tuple #[.int .i64 K, .bool true]) w := fun _ => by kernel_rfl
  go_enter Tryz.func59, Tryz.ntmps59
  go_wp2_with (fail)
  go_ret
  exact ⟨rfl, rfl⟩
set_option maxRecDepth 10000 in
set_option maxHeartbeats 1000000 in
theorem right_num (M : Int) (y : Bool) (hm : (decide (0 ≤ M) && decide (M ≤ 999999999)) = y) (w : World) : Calls Tryz.prog 59 #[.iface 123 (.int .i64 M)] w fun e w' => e = .returned (.bool y) ∧ w' = w := by
  have aB : ∀ w : World, (Instr.typeAssert (.iface 123 (.int .i64 M)) 89 126 true).run Tryz.prog w = .ok (.tuple #[.int .i64 0, .bool false]) w := fun _ => by kernel_rfl
  have aN : ∀ w : World, (Instr.typeAssert (.iface 123 (.int .i64 M)) 89 123 true).run Tryz.prog w = .ok (.tuple #[.int .i64 M, .bool true]) w := fun _ => by kernel_rfl
  go_enter Tryz.func59, Tryz.ntmps59
  go_wp2_with (first | (go_at_call 37; refine (with_is M 0 999999999 _ hm _).mono ?_; rintro e wq ⟨rfl, hq⟩; subst wq) | (fail))
  go_ret
  exact ⟨rfl, rfl⟩
set_option maxRecDepth 10000 in
set_option maxHeartbeats 1000000 in
theorem right_val (N : ByteArray) (F : Int) (B : ByteArray) (C : Int) (y : Bool) (hy : Hid ((nameB N && (decide (0 ≤ F) && decide (F ≤ 65535)) && decide ((B.size : Int) ≤ 64) && (decide (0 ≤ C) && decide (C ≤ 1000000))) = y)) (hN : N.size ≤ 9223372036854775807) (hB : B.size ≤ 9223372036854775807) (w : World) : Calls Tryz.prog 59 #[.iface 125 (.agg #[.string N, .int .i64 F, .string B, .int .i64 C])] w fun e w' => e = .returned (.bool y) ∧ Below w.heap.size w w' := by
  have aB : ∀ w : World, (Instr.typeAssert (.iface 125 (.agg #[.string N, .int .i64 F, .string B, .int .i64 C])) 89 126 true).run Tryz.prog w = .ok (.tuple #[.int .i64 0, .bool false]) w := fun _ => by kernel_rfl
  have aN : ∀ w : World, (Instr.typeAssert (.iface 125 (.agg #[.string N, .int .i64 F, .string B, .int .i64 C])) 89 123 true).run Tryz.prog w = .ok (.tuple #[.int .i64 0, .bool false]) w := fun _ => by kernel_rfl
  have aV : ∀ w : World, (Instr.typeAssert (.iface 125 (.agg #[.string N, .int .i64 F, .string B, .int .i64 C])) 89 125 true).run Tryz.prog w = .ok (.tuple #[.agg #[.string N, .int .i64 F, .string B, .int .i64 C], .bool true]) w := fun _ => by kernel_rfl
  obtain ⟨x1, h1⟩ := hid_ex (nameB N)
  obtain ⟨x2, h2⟩ := hid_ex (decide (0 ≤ F) && decide (F ≤ 65535))
  obtain ⟨x4, h4⟩ := hid_ex (decide (0 ≤ C) && decide (C ≤ 1000000))
  have m1 : Hid True := trivial
  have hy2 : (x1 && x2 && decide ((B.size : Int) ≤ 64) && x4) = y := by rw [← h1.out, ← h2.out, ← h4.out, ← hy.out]
  clear hy
  by_cases h3 : (B.size : Int) ≤ 64
  · rw [decide_eq_true h3] at hy2
    cases x1 with
    | false =>
      subst hy2
      go_enter Tryz.func59, Tryz.ntmps59
      go_wp2_with (first | (go_at_call 100; refine (implNameOk_any _ hN _).mono ?_; rintro e wq ⟨rfl, hq⟩; subst wq; rw [h1.out]) | (clear m1; go_at_call 37; refine (with_is F 0 65535 _ h2.out _).mono ?_; rintro e wq ⟨rfl, hq⟩; subst wq) | (go_at_call 37; refine (with_is C 0 1000000 _ h4.out _).mono ?_; rintro e wq ⟨rfl, hq⟩; subst wq) | (fail))
      go_ret
      exact ⟨rfl, (Below.refl _ w).alloc (Nat.le_refl _) _⟩
    | true =>
      cases x2 with
      | false =>
        subst hy2
        go_enter Tryz.func59, Tryz.ntmps59
        go_wp2_with (first | (go_at_call 100; refine (implNameOk_any _ hN _).mono ?_; rintro e wq ⟨rfl, hq⟩; subst wq; rw [h1.out]) | (clear m1; go_at_call 37; refine (with_is F 0 65535 _ h2.out _).mono ?_; rintro e wq ⟨rfl, hq⟩; subst wq) | (go_at_call 37; refine (with_is C 0 1000000 _ h4.out _).mono ?_; rintro e wq ⟨rfl, hq⟩; subst wq) | (fail))
        go_ret
        exact ⟨rfl, (Below.refl _ w).alloc (Nat.le_refl _) _⟩
      | true =>
        cases x4 with
        | false =>
          subst hy2
          go_enter Tryz.func59, Tryz.ntmps59
          go_wp2_with (first | (go_at_call 100; refine (implNameOk_any _ hN _).mono ?_; rintro e wq ⟨rfl, hq⟩; subst wq; rw [h1.out]) | (clear m1; go_at_call 37; refine (with_is F 0 65535 _ h2.out _).mono ?_; rintro e wq ⟨rfl, hq⟩; subst wq) | (go_at_call 37; refine (with_is C 0 1000000 _ h4.out _).mono ?_; rintro e wq ⟨rfl, hq⟩; subst wq) | (fail))
          go_ret
          exact ⟨rfl, (Below.refl _ w).alloc (Nat.le_refl _) _⟩
        | true =>
          subst hy2
          go_enter Tryz.func59, Tryz.ntmps59
          go_wp2_with (first | (go_at_call 100; refine (implNameOk_any _ hN _).mono ?_; rintro e wq ⟨rfl, hq⟩; subst wq; rw [h1.out]) | (clear m1; go_at_call 37; refine (with_is F 0 65535 _ h2.out _).mono ?_; rintro e wq ⟨rfl, hq⟩; subst wq) | (go_at_call 37; refine (with_is C 0 1000000 _ h4.out _).mono ?_; rintro e wq ⟨rfl, hq⟩; subst wq) | (fail))
          go_ret
          exact ⟨rfl, (Below.refl _ w).alloc (Nat.le_refl _) _⟩
  · rw [decide_eq_false h3, Bool.and_false, Bool.false_and] at hy2
    cases x1 with
    | false =>
      subst hy2
      go_enter Tryz.func59, Tryz.ntmps59
      go_wp2_with (first | (go_at_call 100; refine (implNameOk_any _ hN _).mono ?_; rintro e wq ⟨rfl, hq⟩; subst wq; rw [h1.out]) | (clear m1; go_at_call 37; refine (with_is F 0 65535 _ h2.out _).mono ?_; rintro e wq ⟨rfl, hq⟩; subst wq) | (fail))
      go_ret
      exact ⟨rfl, (Below.refl _ w).alloc (Nat.le_refl _) _⟩
    | true =>
      cases x2 with
      | false =>
        subst hy2
        go_enter Tryz.func59, Tryz.ntmps59
        go_wp2_with (first | (go_at_call 100; refine (implNameOk_any _ hN _).mono ?_; rintro e wq ⟨rfl, hq⟩; subst wq; rw [h1.out]) | (clear m1; go_at_call 37; refine (with_is F 0 65535 _ h2.out _).mono ?_; rintro e wq ⟨rfl, hq⟩; subst wq) | (fail))
        go_ret
        exact ⟨rfl, (Below.refl _ w).alloc (Nat.le_refl _) _⟩
      | true =>
        subst hy2
        go_enter Tryz.func59, Tryz.ntmps59
        go_wp2_with (first | (go_at_call 100; refine (implNameOk_any _ hN _).mono ?_; rintro e wq ⟨rfl, hq⟩; subst wq; rw [h1.out]) | (clear m1; go_at_call 37; refine (with_is F 0 65535 _ h2.out _).mono ?_; rintro e wq ⟨rfl, hq⟩; subst wq) | (fail))
        go_ret
        exact ⟨rfl, (Below.refl _ w).alloc (Nat.le_refl _) _⟩
set_option maxRecDepth 10000 in
set_option maxHeartbeats 1000000 in
theorem reply_bare (K : Int) (w : World) : Calls Tryz.prog 179 #[.int .i64 K] w fun e w' => e = .returned (.agg #[.int .i64 K, .string ⟨#[]⟩, .int .i64 0, .string ⟨#[]⟩, .int .i64 0, .int .i64 0]) ∧ Below w.heap.size w w' := by
  go_enter Tryz.func179, Tryz.ntmps179
  go_wp2_with (first | (refine wpList_alloc_v rfl 33 rfl _ zeroRp ?_; intro b2 w2 hb2 hw2 hB2 V2; have hz2 := hB2.size) | (refine wpList_store_v rfl 33 _ _ rfl b2 [.int .i64 K, .string ⟨#[]⟩, .int .i64 0, .string ⟨#[]⟩, .int .i64 0, .int .i64 0] rfl rfl sizeRp V2 rfl (oneRp ⟨K, ⟨#[]⟩, 0, ⟨#[]⟩, 0, 0⟩) ?_; intro w9 hO9 V9) | (fail))
  exact row_retv rfl rfl V9 Tryz.underlying33 sizeRp rfl ⟨rfl, hB2.trans (hO9.2.2 _ (by omega))⟩
set_option maxRecDepth 10000 in
set_option maxHeartbeats 1000000 in
theorem reply_numbered (M : Int) (w : World) : Calls Tryz.prog 176 #[.int .i64 M] w fun e w' => e = .returned (.agg #[.int .i64 6, .string ⟨#[]⟩, .int .i64 0, .string ⟨#[]⟩, .int .i64 0, .int .i64 M]) ∧ Below w.heap.size w w' := by
  go_enter Tryz.func176, Tryz.ntmps176
  go_wp2_with (first | (refine wpList_alloc_v rfl 33 rfl _ zeroRp ?_; intro b2 w2 hb2 hw2 hB2 V2; have hz2 := hB2.size) | (refine wpList_store_v rfl 33 _ _ rfl b2 [.int .i64 6, .string ⟨#[]⟩, .int .i64 0, .string ⟨#[]⟩, .int .i64 0, .int .i64 M] rfl rfl sizeRp V2 rfl (oneRp ⟨6, ⟨#[]⟩, 0, ⟨#[]⟩, 0, M⟩) ?_; intro w9 hO9 V9) | (fail))
  exact row_retv rfl rfl V9 Tryz.underlying33 sizeRp rfl ⟨rfl, hB2.trans (hO9.2.2 _ (by omega))⟩
set_option maxRecDepth 10000 in
set_option maxHeartbeats 1000000 in
theorem reply_valued (N : ByteArray) (F : Int) (B : ByteArray) (C : Int) (w : World) : Calls Tryz.prog 178 #[.agg #[.string N, .int .i64 F, .string B, .int .i64 C]] w fun e w' => e = .returned (.agg #[.int .i64 5, .string N, .int .i64 F, .string B, .int .i64 C, .int .i64 0]) ∧ Below w.heap.size w w' := by
  go_enter Tryz.func178, Tryz.ntmps178
  go_wp2_with (first | (refine wpList_box_v rfl 125 _ rfl [.string N, .int .i64 F, .string B, .int .i64 C] rfl ?_; intro b1 w1 hb1 hw1 hB1 V1; have hz1 := hB1.size) | (refine wpList_alloc_v rfl 33 rfl _ zeroRp ?_; intro b2 w2 hb2 hw2 hB2 V2; have hz2 := hB2.size; have V1b := vblk_grow V1 hB2; have y0 := V1b.cell 0 (by simp); have y1 := V1b.cell 1 (by simp); have y2 := V1b.cell 2 (by simp); have y3 := V1b.cell 3 (by simp); simp only [List.getElem_cons_zero, List.getElem_cons_succ] at y0 y1 y2 y3) | (refine wpList_store_v rfl 33 _ _ rfl b2 [.int .i64 5, .string N, .int .i64 F, .string B, .int .i64 C, .int .i64 0] rfl rfl sizeRp V2 rfl (oneRp ⟨5, N, F, B, C, 0⟩) ?_; intro w9 hO9 V9) | (fail))
  exact row_retv rfl rfl V9 Tryz.underlying33 sizeRp rfl ⟨rfl, (hB1.trans (hB2.mono hz1)).trans (hO9.2.2 _ (by omega))⟩
end Go.Proofs.YtjkkjpgebcnhgaaGreatDoor.cm
/- Contracts: is a reply right, the program's. -/
namespace Go.Proofs.YtjkkjpgebcnhgaaGreatDoor.cm
open Go.ChangeShapes Go.WideShapes Go.ChangeAt Go.RowKit
open Go.Deep Go.Joins
open Go.Proofs.YtjkkjpgebcnhgaaGreatDoor.ce Go.Proofs.YtjkkjpgebcnhgaaGreatDoor.ro Go.Proofs.YtjkkjpgebcnhgaaGreatDoor.rg
set_option linter.unusedVariables false

set_option maxRecDepth 100000 in
set_option maxHeartbeats 4000000 in
theorem okI_out (K : Int) (N : ByteArray) (F : Int) (B : ByteArray) (C M : Int) (hin : (decide (1 ≤ K) && decide (K ≤ 12)) = false) (w : World) : Calls Tryz.prog 24 #[.agg #[.int .i64 K, .string N, .int .i64 F, .string B, .int .i64 C, .int .i64 M]] w fun e w' => e = .returned (.bool false) ∧ Below w.heap.size w w' := by
  go_enter Tryz.func24, Tryz.ntmps24
  go_upto_region 2 with (first | (refine wpList_box_v rfl 33 _ rfl [.int .i64 K, .string N, .int .i64 F, .string B, .int .i64 C, .int .i64 M] rfl ?_; intro b1 w1 hb1 hw1 hB1 V1; obtain ⟨c0, c1, c2, c3, c4, c5⟩ := cellsRp V1; have hz1 := hB1.size) | (refine wpList_load_r rfl 33 _ rfl b1 0 [.int .i64 K, .string N, .int .i64 F, .string B, .int .i64 C, .int .i64 M] rfl _ Tryz.underlying33 rfl sizeRp V1.range ?_) | (go_at_call 58; refine (shapeOf_out K N F B C M hin _).mono ?_; rintro e w2 ⟨rfl, hB2⟩; have hz2 := hB2.size; have V1b := vblk_grow V1 hB2) | (fail))
  have hV : Hid (VBlk w2 b1 33 [.int .i64 K, .string N, .int .i64 F, .string B, .int .i64 C, .int .i64 M]) := V1b
  clear c0 c1 c2 c3 c4 c5
  refine wp_region_held_drew (S := fun w' => w'.cell? ⟨b1, 0, none⟩ = some (.int .i64 K) ∧ w'.cell? ⟨b1, 1, none⟩ = some (.string N) ∧ w'.cell? ⟨b1, 2, none⟩ = some (.int .i64 F) ∧ w'.cell? ⟨b1, 3, none⟩ = some (.string B) ∧ w'.cell? ⟨b1, 4, none⟩ = some (.int .i64 C) ∧ w'.cell? ⟨b1, 5, none⟩ = some (.int .i64 M)) (by kernel_rfl) (cellsRp (w := w2.drew) hV.out) (fun hHeld => ?_)
  refine wpAnyH_take (i := 0) (oi := { dst := some 6, op := Op.move (Operand.tmp 3), type := 89, pos := "l12_reply.go:159", after := #[], guard := none }) (v := ?_) rfl (by kernel_rfl) (by kernel_rfl) (by kernel_rfl) (fun _ _ _ h => h) (Or.inl ⟨by rfl, ?_⟩) (by assumption) ?_
  rotate_left 1
  · intro w' hSw; (try dsimp only at hSw); go_simp; (try with_reducible rfl)
  (try simp only [Act.put, List.setIfInBounds_toArray, List.set_cons_zero, List.set_cons_succ])
  refine wpAnyH_ready (rs := [1]) (by kernel_rfl) (by simp) ?_
  refine AllReadyH.cons (o := { dst := some 7, op := Op.call { callee := Callee.value (Operand.func 59), args := #[Operand.tmp 6], argTypes := #[89] }, type := 4, pos := "l12_reply.go:159", after := #[{ on := 0, ground := Ground.data }], guard := none }) rfl (fun KC hKC => ?_) AllReadyH.nil
  go_simp
  go_at_call 59
  refine (right_nil _).mono ?_
  rintro e w3 ⟨rfl, hq3⟩
  subst w3
  have hV3 : Hid (VBlk w2.drew b1 33 [.int .i64 K, .string N, .int .i64 F, .string B, .int .i64 C, .int .i64 M]) := hV
  have hB3 : Below w.heap.size w w2.drew := (hB1.trans (hB2.mono hz1)).drew
  refine hKC.out _ _ (cellsRp hV3.out) (fun hHeld2 => ?_)
  clear hKC KC hHeld
  have hHeld := hHeld2
  clear hHeld2
  (try simp only [Act.put, List.setIfInBounds_toArray, List.set_cons_zero, List.set_cons_succ])
  refine wpAnyH_take (i := 2) (oi := { dst := some 8, op := Op.move (Operand.tmp 7), type := 4, pos := "l12_reply.go:159", after := #[{ on := 1, ground := Ground.data }, { on := 1, ground := Ground.chain }], guard := none }) (v := ?_) rfl (by kernel_rfl) (by kernel_rfl) (by kernel_rfl) (fun _ _ _ h => h) (Or.inl ⟨by rfl, ?_⟩) (by assumption) ?_
  rotate_left 1
  · intro w' hSw; (try dsimp only at hSw); go_simp; (try with_reducible rfl)
  (try simp only [Act.put, List.setIfInBounds_toArray, List.set_cons_zero, List.set_cons_succ])
  refine wpAnyH_take (i := 3) (oi := { dst := some 9, op := Op.move (Operand.tmp 3), type := 89, pos := "l12_reply.go:159", after := #[{ on := 2, ground := Ground.guard }], guard := some (2, true) }) (v := undef) rfl (by kernel_rfl) (by kernel_rfl) (by kernel_rfl) (fun _ _ _ h => h) (Or.inr ⟨by rfl, rfl⟩) (by assumption) ?_
  (try simp only [Act.put, List.setIfInBounds_toArray, List.set_cons_zero, List.set_cons_succ])
  refine wpAnyH_take (i := 4) (oi := { dst := some 10, op := Op.call { callee := Callee.invoke (Operand.tmp 9) "loop.example/g00401/impl.reply", args := #[], argTypes := #[] }, type := 33, pos := "l12_reply.go:159", after := #[{ on := 3, ground := Ground.data }, { on := 2, ground := Ground.chain }, { on := 2, ground := Ground.guard }], guard := some (2, true) }) (v := undef) rfl (by kernel_rfl) (by kernel_rfl) (by kernel_rfl) (fun _ _ _ h => h) (Or.inr ⟨by rfl, rfl⟩) (by assumption) ?_
  (try simp only [Act.put, List.setIfInBounds_toArray, List.set_cons_zero, List.set_cons_succ])
  refine wpAnyH_take (i := 5) (oi := { dst := some 11, op := Op.load 33 (Operand.tmp 1), type := 33, pos := "l12_reply.go:159", after := #[{ on := 2, ground := Ground.guard }], guard := some (2, true) }) (v := undef) rfl (by kernel_rfl) (by kernel_rfl) (by kernel_rfl) (fun _ _ _ h => h) (Or.inr ⟨by rfl, rfl⟩) (by assumption) ?_
  (try simp only [Act.put, List.setIfInBounds_toArray, List.set_cons_zero, List.set_cons_succ])
  refine wpAnyH_take (i := 6) (oi := { dst := some 12, op := Op.binOp BinOp.eql 33 (Operand.tmp 10) (Operand.tmp 11) 33, type := 4, pos := "l12_reply.go:159", after := #[{ on := 4, ground := Ground.data }, { on := 5, ground := Ground.data }, { on := 2, ground := Ground.guard }], guard := some (2, true) }) (v := undef) rfl (by kernel_rfl) (by kernel_rfl) (by kernel_rfl) (fun _ _ _ h => h) (Or.inr ⟨by rfl, rfl⟩) (by assumption) ?_
  (try simp only [Act.put, List.setIfInBounds_toArray, List.set_cons_zero, List.set_cons_succ])
  refine wpAnyH_take (i := 7) (oi := { dst := some 13, op := Op.pick (Operand.tmp 8) (Operand.tmp 12) (Operand.const (Value.bool false)), type := 4, pos := "l12_reply.go:159", after := #[{ on := 2, ground := Ground.data }, { on := 6, ground := Ground.data }], guard := none }) (v := ?_) rfl (by kernel_rfl) (by kernel_rfl) (by kernel_rfl) (fun _ _ _ h => h) (Or.inl ⟨by rfl, ?_⟩) (by assumption) ?_
  rotate_left 1
  · intro w' hSw; (try dsimp only at hSw); go_simp; (try with_reducible rfl)
  (try simp only [Act.put, List.setIfInBounds_toArray, List.set_cons_zero, List.set_cons_succ])
  refine wpAnyH_take (i := 8) (oi := { dst := some 2, op := Op.assign (Operand.tmp 13), type := 4, pos := "l12_reply.go:159", after := #[{ on := 7, ground := Ground.data }, { on := 4, ground := Ground.chain }, { on := 0, ground := Ground.phase }, { on := 1, ground := Ground.phase }, { on := 2, ground := Ground.phase }, { on := 3, ground := Ground.phase }, { on := 4, ground := Ground.phase }, { on := 5, ground := Ground.phase }, { on := 6, ground := Ground.phase }, { on := 7, ground := Ground.phase }], guard := none }) (v := ?_) rfl (by kernel_rfl) (by kernel_rfl) (by kernel_rfl) (fun _ _ _ h => h) (Or.inl ⟨by rfl, ?_⟩) (by assumption) ?_
  rotate_left 1
  · intro w' hSw; (try dsimp only at hSw); go_simp; (try with_reducible rfl)
  (try simp only [Act.put, List.setIfInBounds_toArray, List.set_cons_zero, List.set_cons_succ])
  refine wpAnyH_done (by kernel_rfl) ?_ _
  go_wp2
  go_ret
  exact ⟨rfl, hB3⟩
set_option maxRecDepth 100000 in
set_option maxHeartbeats 4000000 in
theorem okI_bare (K : Int) (N : ByteArray) (F : Int) (B : ByteArray) (C M : Int) (y : Bool) (hy : Hid ((emB N && (F == 0) && emB B && (C == 0) && (M == 0)) = y)) (hin : (decide (1 ≤ K) && decide (K ≤ 12)) = true) (k5' : (K == 5) = false) (k6' : (K == 6) = false) (w : World) : Calls Tryz.prog 24 #[.agg #[.int .i64 K, .string N, .int .i64 F, .string B, .int .i64 C, .int .i64 M]] w fun e w' => e = .returned (.bool y) ∧ Below w.heap.size w w' := by
  obtain ⟨zN, eN⟩ := hid_ex (emB N)
  obtain ⟨pN, qN, rN⟩ := emB_facts eN.out
  obtain ⟨zF, eF⟩ := hid_ex (F == 0)
  have pF : (F == 0) = zF := eF.out
  have qF : ((0 : Int) == F) = zF := int_flip eF.out
  obtain ⟨zB, eB⟩ := hid_ex (emB B)
  obtain ⟨pB, qB, rB⟩ := emB_facts eB.out
  obtain ⟨zC, eC⟩ := hid_ex (C == 0)
  have pC : (C == 0) = zC := eC.out
  have qC : ((0 : Int) == C) = zC := int_flip eC.out
  obtain ⟨zM, eM⟩ := hid_ex (M == 0)
  have pM : (M == 0) = zM := eM.out
  have qM : ((0 : Int) == M) = zM := int_flip eM.out
  have hy3 : Hid ((zN && zF && zB && zC && zM) = y) := by unfold Hid; rw [← eN.out, ← eF.out, ← eB.out, ← eC.out, ← eM.out]; exact hy.out
  have sK : (K == K) = true := by simp
  clear hy
  have hM : ∀ w : World, (method 299 126 (.int .i64 K) "loop.example/g00401/impl.reply").run Tryz.prog w = .ok (179, .int .i64 K) w := fun w => by kernel_rfl
  have hC : ∀ (args : Array Value) (w : World), (callFunc 179 args).run Tryz.prog w = .ok (.enter 179 args) w := fun args w => by kernel_rfl
  go_enter Tryz.func24, Tryz.ntmps24
  go_upto_region 2 with (first | (refine wpList_box_v rfl 33 _ rfl [.int .i64 K, .string N, .int .i64 F, .string B, .int .i64 C, .int .i64 M] rfl ?_; intro b1 w1 hb1 hw1 hB1 V1; obtain ⟨c0, c1, c2, c3, c4, c5⟩ := cellsRp V1; have hz1 := hB1.size) | (refine wpList_load_r rfl 33 _ rfl b1 0 [.int .i64 K, .string N, .int .i64 F, .string B, .int .i64 C, .int .i64 M] rfl _ Tryz.underlying33 rfl sizeRp V1.range ?_) | (go_at_call 58; refine (shapeOf_bare K N F B C M hin k5' k6' _).mono ?_; rintro e w2 ⟨rfl, hB2⟩; have hz2 := hB2.size; have V1b := vblk_grow V1 hB2) | (fail))
  have hV : Hid (VBlk w2 b1 33 [.int .i64 K, .string N, .int .i64 F, .string B, .int .i64 C, .int .i64 M]) := V1b
  clear c0 c1 c2 c3 c4 c5
  refine wp_region_held_drew (S := fun w' => w'.cell? ⟨b1, 0, none⟩ = some (.int .i64 K) ∧ w'.cell? ⟨b1, 1, none⟩ = some (.string N) ∧ w'.cell? ⟨b1, 2, none⟩ = some (.int .i64 F) ∧ w'.cell? ⟨b1, 3, none⟩ = some (.string B) ∧ w'.cell? ⟨b1, 4, none⟩ = some (.int .i64 C) ∧ w'.cell? ⟨b1, 5, none⟩ = some (.int .i64 M)) (by kernel_rfl) (cellsRp (w := w2.drew) hV.out) (fun hHeld => ?_)
  refine wpAnyH_take (i := 0) (oi := { dst := some 6, op := Op.move (Operand.tmp 3), type := 89, pos := "l12_reply.go:159", after := #[], guard := none }) (v := ?_) rfl (by kernel_rfl) (by kernel_rfl) (by kernel_rfl) (fun _ _ _ h => h) (Or.inl ⟨by rfl, ?_⟩) (by assumption) ?_
  rotate_left 1
  · intro w' hSw; (try dsimp only at hSw); go_simp; (try with_reducible rfl)
  (try simp only [Act.put, List.setIfInBounds_toArray, List.set_cons_zero, List.set_cons_succ])
  refine wpAnyH_ready (rs := [1]) (by kernel_rfl) (by simp) ?_
  refine AllReadyH.cons (o := { dst := some 7, op := Op.call { callee := Callee.value (Operand.func 59), args := #[Operand.tmp 6], argTypes := #[89] }, type := 4, pos := "l12_reply.go:159", after := #[{ on := 0, ground := Ground.data }], guard := none }) rfl (fun KC hKC => ?_) AllReadyH.nil
  go_simp
  go_at_call 59
  refine (right_bare K _).mono ?_
  rintro e w3 ⟨rfl, hq3⟩
  subst w3
  have hV3 : Hid (VBlk w2.drew b1 33 [.int .i64 K, .string N, .int .i64 F, .string B, .int .i64 C, .int .i64 M]) := hV
  have hB3 : Below w.heap.size w w2.drew := (hB1.trans (hB2.mono hz1)).drew
  refine hKC.out _ _ (cellsRp hV3.out) (fun hHeld2 => ?_)
  clear hKC KC hHeld
  have hHeld := hHeld2
  clear hHeld2
  (try simp only [Act.put, List.setIfInBounds_toArray, List.set_cons_zero, List.set_cons_succ])
  refine wpAnyH_take (i := 2) (oi := { dst := some 8, op := Op.move (Operand.tmp 7), type := 4, pos := "l12_reply.go:159", after := #[{ on := 1, ground := Ground.data }, { on := 1, ground := Ground.chain }], guard := none }) (v := ?_) rfl (by kernel_rfl) (by kernel_rfl) (by kernel_rfl) (fun _ _ _ h => h) (Or.inl ⟨by rfl, ?_⟩) (by assumption) ?_
  rotate_left 1
  · intro w' hSw; (try dsimp only at hSw); go_simp; (try with_reducible rfl)
  (try simp only [Act.put, List.setIfInBounds_toArray, List.set_cons_zero, List.set_cons_succ])
  refine wpAnyH_take (i := 3) (oi := { dst := some 9, op := Op.move (Operand.tmp 3), type := 89, pos := "l12_reply.go:159", after := #[{ on := 2, ground := Ground.guard }], guard := some (2, true) }) (v := ?_) rfl (by kernel_rfl) (by kernel_rfl) (by kernel_rfl) (fun _ _ _ h => h) (Or.inl ⟨by rfl, ?_⟩) (by assumption) ?_
  rotate_left 1
  · intro w' hSw; (try dsimp only at hSw); go_simp; (try with_reducible rfl)
  (try simp only [Act.put, List.setIfInBounds_toArray, List.set_cons_zero, List.set_cons_succ])
  refine wpAnyH_take (i := 5) (oi := { dst := some 11, op := Op.load 33 (Operand.tmp 1), type := 33, pos := "l12_reply.go:159", after := #[{ on := 2, ground := Ground.guard }], guard := some (2, true) }) (v := ?_) rfl (by kernel_rfl) (by kernel_rfl) (by kernel_rfl) (fun _ _ _ h => h) (Or.inl ⟨by rfl, ?_⟩) (by assumption) ?_
  rotate_left 1
  · intro w' hSw; (try dsimp only at hSw); go_simp; (try with_reducible rfl)
  (try simp only [Act.put, List.setIfInBounds_toArray, List.set_cons_zero, List.set_cons_succ])
  refine wpAnyH_ready (rs := [4]) (by kernel_rfl) (by simp) ?_
  refine AllReadyH.cons (o := { dst := some 10, op := Op.call { callee := Callee.invoke (Operand.tmp 9) "loop.example/g00401/impl.reply", args := #[], argTypes := #[] }, type := 33, pos := "l12_reply.go:159", after := #[{ on := 3, ground := Ground.data }, { on := 2, ground := Ground.chain }, { on := 2, ground := Ground.guard }], guard := some (2, true) }) rfl (fun KC hKC => ?_) AllReadyH.nil
  go_simp
  go_at_call 179
  refine (reply_bare K _).mono ?_
  rintro e w4 ⟨rfl, hq4⟩
  have hV4 := vblk_grow hV3.out hq4
  have hB4 : Below w.heap.size w w4 := hB3.trans (hq4.mono hB3.size)
  refine hKC.out _ _ (cellsRp hV4) (fun hHeld2 => ?_)
  clear hKC KC hHeld
  have hHeld := hHeld2
  clear hHeld2
  (try simp only [Act.put, List.setIfInBounds_toArray, List.set_cons_zero, List.set_cons_succ])
  refine wpAnyH_take (i := 6) (oi := { dst := some 12, op := Op.binOp BinOp.eql 33 (Operand.tmp 10) (Operand.tmp 11) 33, type := 4, pos := "l12_reply.go:159", after := #[{ on := 4, ground := Ground.data }, { on := 5, ground := Ground.data }, { on := 2, ground := Ground.guard }], guard := some (2, true) }) (v := .bool (zN && zF && zB && zC && zM)) rfl (by kernel_rfl) (by kernel_rfl) (by kernel_rfl) (fun _ _ _ h => h) (Or.inl ⟨by rfl, ?_⟩) (by assumption) ?_
  · intro w' hSw
    (try dsimp only at hSw)
    go_simp
    cases zN <;> cases zF <;> cases zB <;> cases zC <;> cases zM <;> first | rfl | simp
  (try simp only [Act.put, List.setIfInBounds_toArray, List.set_cons_zero, List.set_cons_succ])
  refine wpAnyH_take (i := 7) (oi := { dst := some 13, op := Op.pick (Operand.tmp 8) (Operand.tmp 12) (Operand.const (Value.bool false)), type := 4, pos := "l12_reply.go:159", after := #[{ on := 2, ground := Ground.data }, { on := 6, ground := Ground.data }], guard := none }) (v := ?_) rfl (by kernel_rfl) (by kernel_rfl) (by kernel_rfl) (fun _ _ _ h => h) (Or.inl ⟨by rfl, ?_⟩) (by assumption) ?_
  rotate_left 1
  · intro w' hSw; (try dsimp only at hSw); go_simp; (try with_reducible rfl)
  (try simp only [Act.put, List.setIfInBounds_toArray, List.set_cons_zero, List.set_cons_succ])
  refine wpAnyH_take (i := 8) (oi := { dst := some 2, op := Op.assign (Operand.tmp 13), type := 4, pos := "l12_reply.go:159", after := #[{ on := 7, ground := Ground.data }, { on := 4, ground := Ground.chain }, { on := 0, ground := Ground.phase }, { on := 1, ground := Ground.phase }, { on := 2, ground := Ground.phase }, { on := 3, ground := Ground.phase }, { on := 4, ground := Ground.phase }, { on := 5, ground := Ground.phase }, { on := 6, ground := Ground.phase }, { on := 7, ground := Ground.phase }], guard := none }) (v := ?_) rfl (by kernel_rfl) (by kernel_rfl) (by kernel_rfl) (fun _ _ _ h => h) (Or.inl ⟨by rfl, ?_⟩) (by assumption) ?_
  rotate_left 1
  · intro w' hSw; (try dsimp only at hSw); go_simp; (try with_reducible rfl)
  (try simp only [Act.put, List.setIfInBounds_toArray, List.set_cons_zero, List.set_cons_succ])
  refine wpAnyH_done (by kernel_rfl) ?_ _
  go_wp2
  go_ret
  refine ⟨?_, hB4⟩
  rw [← hy3.out]
  cases zN <;> cases zF <;> cases zB <;> cases zC <;> cases zM <;> rfl
end Go.Proofs.YtjkkjpgebcnhgaaGreatDoor.cm
/- Contracts: is a reply right, the program's. -/
namespace Go.Proofs.YtjkkjpgebcnhgaaGreatDoor.cm
open Go.ChangeShapes Go.WideShapes Go.ChangeAt Go.RowKit
open Go.Deep Go.Joins
open Go.Proofs.YtjkkjpgebcnhgaaGreatDoor.ce Go.Proofs.YtjkkjpgebcnhgaaGreatDoor.ro Go.Proofs.YtjkkjpgebcnhgaaGreatDoor.rg
set_option linter.unusedVariables false

set_option maxRecDepth 100000 in
set_option maxHeartbeats 4000000 in
theorem okI_num (N : ByteArray) (F : Int) (B : ByteArray) (C M : Int) (y : Bool) (hy : Hid (((decide (0 ≤ M) && decide (M ≤ 999999999)) && (emB N && (F == 0) && emB B && (C == 0))) = y)) (w : World) : Calls Tryz.prog 24 #[.agg #[.int .i64 6, .string N, .int .i64 F, .string B, .int .i64 C, .int .i64 M]] w fun e w' => e = .returned (.bool y) ∧ Below w.heap.size w w' := by
  obtain ⟨x1, h1⟩ := hid_ex (decide (0 ≤ M) && decide (M ≤ 999999999))
  obtain ⟨zN, eN⟩ := hid_ex (emB N)
  obtain ⟨pN, qN, rN⟩ := emB_facts eN.out
  obtain ⟨zF, eF⟩ := hid_ex (F == 0)
  have pF : (F == 0) = zF := eF.out
  have qF : ((0 : Int) == F) = zF := int_flip eF.out
  obtain ⟨zB, eB⟩ := hid_ex (emB B)
  obtain ⟨pB, qB, rB⟩ := emB_facts eB.out
  obtain ⟨zC, eC⟩ := hid_ex (C == 0)
  have pC : (C == 0) = zC := eC.out
  have qC : ((0 : Int) == C) = zC := int_flip eC.out
  have hy2 : (x1 && (zN && zF && zB && zC)) = y := by rw [← h1.out, ← eN.out, ← eF.out, ← eB.out, ← eC.out]; exact hy.out
  have sM : (M == M) = true := by simp
  clear hy
  have hM : ∀ w : World, (method 299 123 (.int .i64 M) "loop.example/g00401/impl.reply").run Tryz.prog w = .ok (176, .int .i64 M) w := fun w => by kernel_rfl
  have hC : ∀ (args : Array Value) (w : World), (callFunc 176 args).run Tryz.prog w = .ok (.enter 176 args) w := fun args w => by kernel_rfl
  cases x1 with
  | false =>
    subst hy2
    go_enter Tryz.func24, Tryz.ntmps24
    go_upto_region 2 with (first | (refine wpList_box_v rfl 33 _ rfl [.int .i64 6, .string N, .int .i64 F, .string B, .int .i64 C, .int .i64 M] rfl ?_; intro b1 w1 hb1 hw1 hB1 V1; obtain ⟨c0, c1, c2, c3, c4, c5⟩ := cellsRp V1; have hz1 := hB1.size) | (refine wpList_load_r rfl 33 _ rfl b1 0 [.int .i64 6, .string N, .int .i64 F, .string B, .int .i64 C, .int .i64 M] rfl _ Tryz.underlying33 rfl sizeRp V1.range ?_) | (go_at_call 58; refine (shapeOf_num N F B C M _).mono ?_; rintro e w2 ⟨rfl, hB2⟩; have hz2 := hB2.size; have V1b := vblk_grow V1 hB2) | (fail))
    have hV : Hid (VBlk w2 b1 33 [.int .i64 6, .string N, .int .i64 F, .string B, .int .i64 C, .int .i64 M]) := V1b
    clear c0 c1 c2 c3 c4 c5
    refine wp_region_held_drew (S := fun w' => w'.cell? ⟨b1, 0, none⟩ = some (.int .i64 6) ∧ w'.cell? ⟨b1, 1, none⟩ = some (.string N) ∧ w'.cell? ⟨b1, 2, none⟩ = some (.int .i64 F) ∧ w'.cell? ⟨b1, 3, none⟩ = some (.string B) ∧ w'.cell? ⟨b1, 4, none⟩ = some (.int .i64 C) ∧ w'.cell? ⟨b1, 5, none⟩ = some (.int .i64 M)) (by kernel_rfl) (cellsRp (w := w2.drew) hV.out) (fun hHeld => ?_)
    refine wpAnyH_take (i := 0) (oi := { dst := some 6, op := Op.move (Operand.tmp 3), type := 89, pos := "l12_reply.go:159", after := #[], guard := none }) (v := ?_) rfl (by kernel_rfl) (by kernel_rfl) (by kernel_rfl) (fun _ _ _ h => h) (Or.inl ⟨by rfl, ?_⟩) (by assumption) ?_
    rotate_left 1
    · intro w' hSw; (try dsimp only at hSw); go_simp; (try with_reducible rfl)
    (try simp only [Act.put, List.setIfInBounds_toArray, List.set_cons_zero, List.set_cons_succ])
    refine wpAnyH_ready (rs := [1]) (by kernel_rfl) (by simp) ?_
    refine AllReadyH.cons (o := { dst := some 7, op := Op.call { callee := Callee.value (Operand.func 59), args := #[Operand.tmp 6], argTypes := #[89] }, type := 4, pos := "l12_reply.go:159", after := #[{ on := 0, ground := Ground.data }], guard := none }) rfl (fun KC hKC => ?_) AllReadyH.nil
    go_simp
    go_at_call 59
    refine (right_num M _ h1.out _).mono ?_
    rintro e w3 ⟨rfl, hq3⟩
    subst w3
    have hV3 : Hid (VBlk w2.drew b1 33 [.int .i64 6, .string N, .int .i64 F, .string B, .int .i64 C, .int .i64 M]) := hV
    have hB3 : Below w.heap.size w w2.drew := (hB1.trans (hB2.mono hz1)).drew
    refine hKC.out _ _ (cellsRp hV3.out) (fun hHeld2 => ?_)
    clear hKC KC hHeld
    have hHeld := hHeld2
    clear hHeld2
    (try simp only [Act.put, List.setIfInBounds_toArray, List.set_cons_zero, List.set_cons_succ])
    refine wpAnyH_take (i := 2) (oi := { dst := some 8, op := Op.move (Operand.tmp 7), type := 4, pos := "l12_reply.go:159", after := #[{ on := 1, ground := Ground.data }, { on := 1, ground := Ground.chain }], guard := none }) (v := ?_) rfl (by kernel_rfl) (by kernel_rfl) (by kernel_rfl) (fun _ _ _ h => h) (Or.inl ⟨by rfl, ?_⟩) (by assumption) ?_
    rotate_left 1
    · intro w' hSw; (try dsimp only at hSw); go_simp; (try with_reducible rfl)
    (try simp only [Act.put, List.setIfInBounds_toArray, List.set_cons_zero, List.set_cons_succ])
    refine wpAnyH_take (i := 3) (oi := { dst := some 9, op := Op.move (Operand.tmp 3), type := 89, pos := "l12_reply.go:159", after := #[{ on := 2, ground := Ground.guard }], guard := some (2, true) }) (v := undef) rfl (by kernel_rfl) (by kernel_rfl) (by kernel_rfl) (fun _ _ _ h => h) (Or.inr ⟨by rfl, rfl⟩) (by assumption) ?_
    (try simp only [Act.put, List.setIfInBounds_toArray, List.set_cons_zero, List.set_cons_succ])
    refine wpAnyH_take (i := 4) (oi := { dst := some 10, op := Op.call { callee := Callee.invoke (Operand.tmp 9) "loop.example/g00401/impl.reply", args := #[], argTypes := #[] }, type := 33, pos := "l12_reply.go:159", after := #[{ on := 3, ground := Ground.data }, { on := 2, ground := Ground.chain }, { on := 2, ground := Ground.guard }], guard := some (2, true) }) (v := undef) rfl (by kernel_rfl) (by kernel_rfl) (by kernel_rfl) (fun _ _ _ h => h) (Or.inr ⟨by rfl, rfl⟩) (by assumption) ?_
    (try simp only [Act.put, List.setIfInBounds_toArray, List.set_cons_zero, List.set_cons_succ])
    refine wpAnyH_take (i := 5) (oi := { dst := some 11, op := Op.load 33 (Operand.tmp 1), type := 33, pos := "l12_reply.go:159", after := #[{ on := 2, ground := Ground.guard }], guard := some (2, true) }) (v := undef) rfl (by kernel_rfl) (by kernel_rfl) (by kernel_rfl) (fun _ _ _ h => h) (Or.inr ⟨by rfl, rfl⟩) (by assumption) ?_
    (try simp only [Act.put, List.setIfInBounds_toArray, List.set_cons_zero, List.set_cons_succ])
    refine wpAnyH_take (i := 6) (oi := { dst := some 12, op := Op.binOp BinOp.eql 33 (Operand.tmp 10) (Operand.tmp 11) 33, type := 4, pos := "l12_reply.go:159", after := #[{ on := 4, ground := Ground.data }, { on := 5, ground := Ground.data }, { on := 2, ground := Ground.guard }], guard := some (2, true) }) (v := undef) rfl (by kernel_rfl) (by kernel_rfl) (by kernel_rfl) (fun _ _ _ h => h) (Or.inr ⟨by rfl, rfl⟩) (by assumption) ?_
    (try simp only [Act.put, List.setIfInBounds_toArray, List.set_cons_zero, List.set_cons_succ])
    refine wpAnyH_take (i := 7) (oi := { dst := some 13, op := Op.pick (Operand.tmp 8) (Operand.tmp 12) (Operand.const (Value.bool false)), type := 4, pos := "l12_reply.go:159", after := #[{ on := 2, ground := Ground.data }, { on := 6, ground := Ground.data }], guard := none }) (v := ?_) rfl (by kernel_rfl) (by kernel_rfl) (by kernel_rfl) (fun _ _ _ h => h) (Or.inl ⟨by rfl, ?_⟩) (by assumption) ?_
    rotate_left 1
    · intro w' hSw; (try dsimp only at hSw); go_simp; (try with_reducible rfl)
    (try simp only [Act.put, List.setIfInBounds_toArray, List.set_cons_zero, List.set_cons_succ])
    refine wpAnyH_take (i := 8) (oi := { dst := some 2, op := Op.assign (Operand.tmp 13), type := 4, pos := "l12_reply.go:159", after := #[{ on := 7, ground := Ground.data }, { on := 4, ground := Ground.chain }, { on := 0, ground := Ground.phase }, { on := 1, ground := Ground.phase }, { on := 2, ground := Ground.phase }, { on := 3, ground := Ground.phase }, { on := 4, ground := Ground.phase }, { on := 5, ground := Ground.phase }, { on := 6, ground := Ground.phase }, { on := 7, ground := Ground.phase }], guard := none }) (v := ?_) rfl (by kernel_rfl) (by kernel_rfl) (by kernel_rfl) (fun _ _ _ h => h) (Or.inl ⟨by rfl, ?_⟩) (by assumption) ?_
    rotate_left 1
    · intro w' hSw; (try dsimp only at hSw); go_simp; (try with_reducible rfl)
    (try simp only [Act.put, List.setIfInBounds_toArray, List.set_cons_zero, List.set_cons_succ])
    refine wpAnyH_done (by kernel_rfl) ?_ _
    go_wp2
    go_ret
    exact ⟨rfl, hB3⟩
  | true =>
    go_enter Tryz.func24, Tryz.ntmps24
    go_upto_region 2 with (first | (refine wpList_box_v rfl 33 _ rfl [.int .i64 6, .string N, .int .i64 F, .string B, .int .i64 C, .int .i64 M] rfl ?_; intro b1 w1 hb1 hw1 hB1 V1; obtain ⟨c0, c1, c2, c3, c4, c5⟩ := cellsRp V1; have hz1 := hB1.size) | (refine wpList_load_r rfl 33 _ rfl b1 0 [.int .i64 6, .string N, .int .i64 F, .string B, .int .i64 C, .int .i64 M] rfl _ Tryz.underlying33 rfl sizeRp V1.range ?_) | (go_at_call 58; refine (shapeOf_num N F B C M _).mono ?_; rintro e w2 ⟨rfl, hB2⟩; have hz2 := hB2.size; have V1b := vblk_grow V1 hB2) | (fail))
    have hV : Hid (VBlk w2 b1 33 [.int .i64 6, .string N, .int .i64 F, .string B, .int .i64 C, .int .i64 M]) := V1b
    clear c0 c1 c2 c3 c4 c5
    refine wp_region_held_drew (S := fun w' => w'.cell? ⟨b1, 0, none⟩ = some (.int .i64 6) ∧ w'.cell? ⟨b1, 1, none⟩ = some (.string N) ∧ w'.cell? ⟨b1, 2, none⟩ = some (.int .i64 F) ∧ w'.cell? ⟨b1, 3, none⟩ = some (.string B) ∧ w'.cell? ⟨b1, 4, none⟩ = some (.int .i64 C) ∧ w'.cell? ⟨b1, 5, none⟩ = some (.int .i64 M)) (by kernel_rfl) (cellsRp (w := w2.drew) hV.out) (fun hHeld => ?_)
    refine wpAnyH_take (i := 0) (oi := { dst := some 6, op := Op.move (Operand.tmp 3), type := 89, pos := "l12_reply.go:159", after := #[], guard := none }) (v := ?_) rfl (by kernel_rfl) (by kernel_rfl) (by kernel_rfl) (fun _ _ _ h => h) (Or.inl ⟨by rfl, ?_⟩) (by assumption) ?_
    rotate_left 1
    · intro w' hSw; (try dsimp only at hSw); go_simp; (try with_reducible rfl)
    (try simp only [Act.put, List.setIfInBounds_toArray, List.set_cons_zero, List.set_cons_succ])
    refine wpAnyH_ready (rs := [1]) (by kernel_rfl) (by simp) ?_
    refine AllReadyH.cons (o := { dst := some 7, op := Op.call { callee := Callee.value (Operand.func 59), args := #[Operand.tmp 6], argTypes := #[89] }, type := 4, pos := "l12_reply.go:159", after := #[{ on := 0, ground := Ground.data }], guard := none }) rfl (fun KC hKC => ?_) AllReadyH.nil
    go_simp
    go_at_call 59
    refine (right_num M _ h1.out _).mono ?_
    rintro e w3 ⟨rfl, hq3⟩
    subst w3
    have hV3 : Hid (VBlk w2.drew b1 33 [.int .i64 6, .string N, .int .i64 F, .string B, .int .i64 C, .int .i64 M]) := hV
    have hB3 : Below w.heap.size w w2.drew := (hB1.trans (hB2.mono hz1)).drew
    refine hKC.out _ _ (cellsRp hV3.out) (fun hHeld2 => ?_)
    clear hKC KC hHeld
    have hHeld := hHeld2
    clear hHeld2
    (try simp only [Act.put, List.setIfInBounds_toArray, List.set_cons_zero, List.set_cons_succ])
    refine wpAnyH_take (i := 2) (oi := { dst := some 8, op := Op.move (Operand.tmp 7), type := 4, pos := "l12_reply.go:159", after := #[{ on := 1, ground := Ground.data }, { on := 1, ground := Ground.chain }], guard := none }) (v := ?_) rfl (by kernel_rfl) (by kernel_rfl) (by kernel_rfl) (fun _ _ _ h => h) (Or.inl ⟨by rfl, ?_⟩) (by assumption) ?_
    rotate_left 1
    · intro w' hSw; (try dsimp only at hSw); go_simp; (try with_reducible rfl)
    (try simp only [Act.put, List.setIfInBounds_toArray, List.set_cons_zero, List.set_cons_succ])
    refine wpAnyH_take (i := 3) (oi := { dst := some 9, op := Op.move (Operand.tmp 3), type := 89, pos := "l12_reply.go:159", after := #[{ on := 2, ground := Ground.guard }], guard := some (2, true) }) (v := ?_) rfl (by kernel_rfl) (by kernel_rfl) (by kernel_rfl) (fun _ _ _ h => h) (Or.inl ⟨by rfl, ?_⟩) (by assumption) ?_
    rotate_left 1
    · intro w' hSw; (try dsimp only at hSw); go_simp; (try with_reducible rfl)
    (try simp only [Act.put, List.setIfInBounds_toArray, List.set_cons_zero, List.set_cons_succ])
    refine wpAnyH_take (i := 5) (oi := { dst := some 11, op := Op.load 33 (Operand.tmp 1), type := 33, pos := "l12_reply.go:159", after := #[{ on := 2, ground := Ground.guard }], guard := some (2, true) }) (v := ?_) rfl (by kernel_rfl) (by kernel_rfl) (by kernel_rfl) (fun _ _ _ h => h) (Or.inl ⟨by rfl, ?_⟩) (by assumption) ?_
    rotate_left 1
    · intro w' hSw; (try dsimp only at hSw); go_simp; (try with_reducible rfl)
    (try simp only [Act.put, List.setIfInBounds_toArray, List.set_cons_zero, List.set_cons_succ])
    refine wpAnyH_ready (rs := [4]) (by kernel_rfl) (by simp) ?_
    refine AllReadyH.cons (o := { dst := some 10, op := Op.call { callee := Callee.invoke (Operand.tmp 9) "loop.example/g00401/impl.reply", args := #[], argTypes := #[] }, type := 33, pos := "l12_reply.go:159", after := #[{ on := 3, ground := Ground.data }, { on := 2, ground := Ground.chain }, { on := 2, ground := Ground.guard }], guard := some (2, true) }) rfl (fun KC hKC => ?_) AllReadyH.nil
    go_simp
    go_at_call 176
    refine (reply_numbered M _).mono ?_
    rintro e w4 ⟨rfl, hq4⟩
    have hV4 := vblk_grow hV3.out hq4
    have hB4 : Below w.heap.size w w4 := hB3.trans (hq4.mono hB3.size)
    refine hKC.out _ _ (cellsRp hV4) (fun hHeld2 => ?_)
    clear hKC KC hHeld
    have hHeld := hHeld2
    clear hHeld2
    (try simp only [Act.put, List.setIfInBounds_toArray, List.set_cons_zero, List.set_cons_succ])
    refine wpAnyH_take (i := 6) (oi := { dst := some 12, op := Op.binOp BinOp.eql 33 (Operand.tmp 10) (Operand.tmp 11) 33, type := 4, pos := "l12_reply.go:159", after := #[{ on := 4, ground := Ground.data }, { on := 5, ground := Ground.data }, { on := 2, ground := Ground.guard }], guard := some (2, true) }) (v := .bool (zN && zF && zB && zC)) rfl (by kernel_rfl) (by kernel_rfl) (by kernel_rfl) (fun _ _ _ h => h) (Or.inl ⟨by rfl, ?_⟩) (by assumption) ?_
    · intro w' hSw
      (try dsimp only at hSw)
      go_simp
      cases zN <;> cases zF <;> cases zB <;> cases zC <;> first | rfl | simp
    (try simp only [Act.put, List.setIfInBounds_toArray, List.set_cons_zero, List.set_cons_succ])
    refine wpAnyH_take (i := 7) (oi := { dst := some 13, op := Op.pick (Operand.tmp 8) (Operand.tmp 12) (Operand.const (Value.bool false)), type := 4, pos := "l12_reply.go:159", after := #[{ on := 2, ground := Ground.data }, { on := 6, ground := Ground.data }], guard := none }) (v := ?_) rfl (by kernel_rfl) (by kernel_rfl) (by kernel_rfl) (fun _ _ _ h => h) (Or.inl ⟨by rfl, ?_⟩) (by assumption) ?_
    rotate_left 1
    · intro w' hSw; (try dsimp only at hSw); go_simp; (try with_reducible rfl)
    (try simp only [Act.put, List.setIfInBounds_toArray, List.set_cons_zero, List.set_cons_succ])
    refine wpAnyH_take (i := 8) (oi := { dst := some 2, op := Op.assign (Operand.tmp 13), type := 4, pos := "l12_reply.go:159", after := #[{ on := 7, ground := Ground.data }, { on := 4, ground := Ground.chain }, { on := 0, ground := Ground.phase }, { on := 1, ground := Ground.phase }, { on := 2, ground := Ground.phase }, { on := 3, ground := Ground.phase }, { on := 4, ground := Ground.phase }, { on := 5, ground := Ground.phase }, { on := 6, ground := Ground.phase }, { on := 7, ground := Ground.phase }], guard := none }) (v := ?_) rfl (by kernel_rfl) (by kernel_rfl) (by kernel_rfl) (fun _ _ _ h => h) (Or.inl ⟨by rfl, ?_⟩) (by assumption) ?_
    rotate_left 1
    · intro w' hSw; (try dsimp only at hSw); go_simp; (try with_reducible rfl)
    (try simp only [Act.put, List.setIfInBounds_toArray, List.set_cons_zero, List.set_cons_succ])
    refine wpAnyH_done (by kernel_rfl) ?_ _
    go_wp2
    go_ret
    refine ⟨?_, hB4⟩
    rw [← hy2]
    cases zN <;> cases zF <;> cases zB <;> cases zC <;> rfl
end Go.Proofs.YtjkkjpgebcnhgaaGreatDoor.cm
/- Contracts: is a reply right, the program's. -/
namespace Go.Proofs.YtjkkjpgebcnhgaaGreatDoor.cm
open Go.ChangeShapes Go.WideShapes Go.ChangeAt Go.RowKit
open Go.Deep Go.Joins
open Go.Proofs.YtjkkjpgebcnhgaaGreatDoor.ce Go.Proofs.YtjkkjpgebcnhgaaGreatDoor.ro Go.Proofs.YtjkkjpgebcnhgaaGreatDoor.rg
set_option linter.unusedVariables false

set_option maxRecDepth 100000 in
set_option maxHeartbeats 4000000 in
theorem okI_val (N : ByteArray) (F : Int) (B : ByteArray) (C M : Int) (y : Bool) (hy : Hid (((nameB N && (decide (0 ≤ F) && decide (F ≤ 65535)) && decide ((B.size : Int) ≤ 64) && (decide (0 ≤ C) && decide (C ≤ 1000000))) && (M == 0)) = y)) (hN : N.size ≤ 9223372036854775807) (hB : B.size ≤ 9223372036854775807) (w : World) : Calls Tryz.prog 24 #[.agg #[.int .i64 5, .string N, .int .i64 F, .string B, .int .i64 C, .int .i64 M]] w fun e w' => e = .returned (.bool y) ∧ Below w.heap.size w w' := by
  obtain ⟨x1, h1⟩ := hid_ex (nameB N && (decide (0 ≤ F) && decide (F ≤ 65535)) && decide ((B.size : Int) ≤ 64) && (decide (0 ≤ C) && decide (C ≤ 1000000)))
  obtain ⟨zM, eM⟩ := hid_ex (M == 0)
  have pM : (M == 0) = zM := eM.out
  have qM : ((0 : Int) == M) = zM := int_flip eM.out
  have hy2 : (x1 && zM) = y := by rw [← h1.out, ← eM.out]; exact hy.out
  clear hy
  have sN : (N.toList == N.toList) = true := by simp
  have sB : (B.toList == B.toList) = true := by simp
  have sF : (F == F) = true := by simp
  have sC : (C == C) = true := by simp
  have hM : ∀ w : World, (method 299 125 (.agg #[.string N, .int .i64 F, .string B, .int .i64 C]) "loop.example/g00401/impl.reply").run Tryz.prog w = .ok (178, .agg #[.string N, .int .i64 F, .string B, .int .i64 C]) w := fun w => by kernel_rfl
  have hC : ∀ (args : Array Value) (w : World), (callFunc 178 args).run Tryz.prog w = .ok (.enter 178 args) w := fun args w => by kernel_rfl
  cases x1 with
  | false =>
    subst hy2
    go_enter Tryz.func24, Tryz.ntmps24
    go_upto_region 2 with (first | (refine wpList_box_v rfl 33 _ rfl [.int .i64 5, .string N, .int .i64 F, .string B, .int .i64 C, .int .i64 M] rfl ?_; intro b1 w1 hb1 hw1 hB1 V1; obtain ⟨c0, c1, c2, c3, c4, c5⟩ := cellsRp V1; have hz1 := hB1.size) | (refine wpList_load_r rfl 33 _ rfl b1 0 [.int .i64 5, .string N, .int .i64 F, .string B, .int .i64 C, .int .i64 M] rfl _ Tryz.underlying33 rfl sizeRp V1.range ?_) | (go_at_call 58; refine (shapeOf_val N F B C M _).mono ?_; rintro e w2 ⟨rfl, hB2⟩; have hz2 := hB2.size; have V1b := vblk_grow V1 hB2) | (fail))
    have hV : Hid (VBlk w2 b1 33 [.int .i64 5, .string N, .int .i64 F, .string B, .int .i64 C, .int .i64 M]) := V1b
    clear c0 c1 c2 c3 c4 c5
    refine wp_region_held_drew (S := fun w' => w'.cell? ⟨b1, 0, none⟩ = some (.int .i64 5) ∧ w'.cell? ⟨b1, 1, none⟩ = some (.string N) ∧ w'.cell? ⟨b1, 2, none⟩ = some (.int .i64 F) ∧ w'.cell? ⟨b1, 3, none⟩ = some (.string B) ∧ w'.cell? ⟨b1, 4, none⟩ = some (.int .i64 C) ∧ w'.cell? ⟨b1, 5, none⟩ = some (.int .i64 M)) (by kernel_rfl) (cellsRp (w := w2.drew) hV.out) (fun hHeld => ?_)
    refine wpAnyH_take (i := 0) (oi := { dst := some 6, op := Op.move (Operand.tmp 3), type := 89, pos := "l12_reply.go:159", after := #[], guard := none }) (v := ?_) rfl (by kernel_rfl) (by kernel_rfl) (by kernel_rfl) (fun _ _ _ h => h) (Or.inl ⟨by rfl, ?_⟩) (by assumption) ?_
    rotate_left 1
    · intro w' hSw; (try dsimp only at hSw); go_simp; (try with_reducible rfl)
    (try simp only [Act.put, List.setIfInBounds_toArray, List.set_cons_zero, List.set_cons_succ])
    refine wpAnyH_ready (rs := [1]) (by kernel_rfl) (by simp) ?_
    refine AllReadyH.cons (o := { dst := some 7, op := Op.call { callee := Callee.value (Operand.func 59), args := #[Operand.tmp 6], argTypes := #[89] }, type := 4, pos := "l12_reply.go:159", after := #[{ on := 0, ground := Ground.data }], guard := none }) rfl (fun KC hKC => ?_) AllReadyH.nil
    go_simp
    go_at_call 59
    refine (right_val N F B C _ h1 hN hB _).mono ?_
    rintro e w3 ⟨rfl, hq3⟩
    have hV3 : Hid (VBlk w3 b1 33 [.int .i64 5, .string N, .int .i64 F, .string B, .int .i64 C, .int .i64 M]) := vblk_grow (w := w2.drew) hV.out hq3
    have hB3 : Below w.heap.size w w3 := (hB1.trans (hB2.mono hz1)).drew.trans (hq3.mono (by show w.heap.size ≤ w2.drew.heap.size; have : w2.drew.heap.size = w2.heap.size := rfl; omega))
    refine hKC.out _ _ (cellsRp hV3.out) (fun hHeld2 => ?_)
    clear hKC KC hHeld
    have hHeld := hHeld2
    clear hHeld2
    (try simp only [Act.put, List.setIfInBounds_toArray, List.set_cons_zero, List.set_cons_succ])
    refine wpAnyH_take (i := 2) (oi := { dst := some 8, op := Op.move (Operand.tmp 7), type := 4, pos := "l12_reply.go:159", after := #[{ on := 1, ground := Ground.data }, { on := 1, ground := Ground.chain }], guard := none }) (v := ?_) rfl (by kernel_rfl) (by kernel_rfl) (by kernel_rfl) (fun _ _ _ h => h) (Or.inl ⟨by rfl, ?_⟩) (by assumption) ?_
    rotate_left 1
    · intro w' hSw; (try dsimp only at hSw); go_simp; (try with_reducible rfl)
    (try simp only [Act.put, List.setIfInBounds_toArray, List.set_cons_zero, List.set_cons_succ])
    refine wpAnyH_take (i := 3) (oi := { dst := some 9, op := Op.move (Operand.tmp 3), type := 89, pos := "l12_reply.go:159", after := #[{ on := 2, ground := Ground.guard }], guard := some (2, true) }) (v := undef) rfl (by kernel_rfl) (by kernel_rfl) (by kernel_rfl) (fun _ _ _ h => h) (Or.inr ⟨by rfl, rfl⟩) (by assumption) ?_
    (try simp only [Act.put, List.setIfInBounds_toArray, List.set_cons_zero, List.set_cons_succ])
    refine wpAnyH_take (i := 4) (oi := { dst := some 10, op := Op.call { callee := Callee.invoke (Operand.tmp 9) "loop.example/g00401/impl.reply", args := #[], argTypes := #[] }, type := 33, pos := "l12_reply.go:159", after := #[{ on := 3, ground := Ground.data }, { on := 2, ground := Ground.chain }, { on := 2, ground := Ground.guard }], guard := some (2, true) }) (v := undef) rfl (by kernel_rfl) (by kernel_rfl) (by kernel_rfl) (fun _ _ _ h => h) (Or.inr ⟨by rfl, rfl⟩) (by assumption) ?_
    (try simp only [Act.put, List.setIfInBounds_toArray, List.set_cons_zero, List.set_cons_succ])
    refine wpAnyH_take (i := 5) (oi := { dst := some 11, op := Op.load 33 (Operand.tmp 1), type := 33, pos := "l12_reply.go:159", after := #[{ on := 2, ground := Ground.guard }], guard := some (2, true) }) (v := undef) rfl (by kernel_rfl) (by kernel_rfl) (by kernel_rfl) (fun _ _ _ h => h) (Or.inr ⟨by rfl, rfl⟩) (by assumption) ?_
    (try simp only [Act.put, List.setIfInBounds_toArray, List.set_cons_zero, List.set_cons_succ])
    refine wpAnyH_take (i := 6) (oi := { dst := some 12, op := Op.binOp BinOp.eql 33 (Operand.tmp 10) (Operand.tmp 11) 33, type := 4, pos := "l12_reply.go:159", after := #[{ on := 4, ground := Ground.data }, { on := 5, ground := Ground.data }, { on := 2, ground := Ground.guard }], guard := some (2, true) }) (v := undef) rfl (by kernel_rfl) (by kernel_rfl) (by kernel_rfl) (fun _ _ _ h => h) (Or.inr ⟨by rfl, rfl⟩) (by assumption) ?_
    (try simp only [Act.put, List.setIfInBounds_toArray, List.set_cons_zero, List.set_cons_succ])
    refine wpAnyH_take (i := 7) (oi := { dst := some 13, op := Op.pick (Operand.tmp 8) (Operand.tmp 12) (Operand.const (Value.bool false)), type := 4, pos := "l12_reply.go:159", after := #[{ on := 2, ground := Ground.data }, { on := 6, ground := Ground.data }], guard := none }) (v := ?_) rfl (by kernel_rfl) (by kernel_rfl) (by kernel_rfl) (fun _ _ _ h => h) (Or.inl ⟨by rfl, ?_⟩) (by assumption) ?_
    rotate_left 1
    · intro w' hSw; (try dsimp only at hSw); go_simp; (try with_reducible rfl)
    (try simp only [Act.put, List.setIfInBounds_toArray, List.set_cons_zero, List.set_cons_succ])
    refine wpAnyH_take (i := 8) (oi := { dst := some 2, op := Op.assign (Operand.tmp 13), type := 4, pos := "l12_reply.go:159", after := #[{ on := 7, ground := Ground.data }, { on := 4, ground := Ground.chain }, { on := 0, ground := Ground.phase }, { on := 1, ground := Ground.phase }, { on := 2, ground := Ground.phase }, { on := 3, ground := Ground.phase }, { on := 4, ground := Ground.phase }, { on := 5, ground := Ground.phase }, { on := 6, ground := Ground.phase }, { on := 7, ground := Ground.phase }], guard := none }) (v := ?_) rfl (by kernel_rfl) (by kernel_rfl) (by kernel_rfl) (fun _ _ _ h => h) (Or.inl ⟨by rfl, ?_⟩) (by assumption) ?_
    rotate_left 1
    · intro w' hSw; (try dsimp only at hSw); go_simp; (try with_reducible rfl)
    (try simp only [Act.put, List.setIfInBounds_toArray, List.set_cons_zero, List.set_cons_succ])
    refine wpAnyH_done (by kernel_rfl) ?_ _
    go_wp2
    go_ret
    exact ⟨rfl, hB3⟩
  | true =>
    go_enter Tryz.func24, Tryz.ntmps24
    go_upto_region 2 with (first | (refine wpList_box_v rfl 33 _ rfl [.int .i64 5, .string N, .int .i64 F, .string B, .int .i64 C, .int .i64 M] rfl ?_; intro b1 w1 hb1 hw1 hB1 V1; obtain ⟨c0, c1, c2, c3, c4, c5⟩ := cellsRp V1; have hz1 := hB1.size) | (refine wpList_load_r rfl 33 _ rfl b1 0 [.int .i64 5, .string N, .int .i64 F, .string B, .int .i64 C, .int .i64 M] rfl _ Tryz.underlying33 rfl sizeRp V1.range ?_) | (go_at_call 58; refine (shapeOf_val N F B C M _).mono ?_; rintro e w2 ⟨rfl, hB2⟩; have hz2 := hB2.size; have V1b := vblk_grow V1 hB2) | (fail))
    have hV : Hid (VBlk w2 b1 33 [.int .i64 5, .string N, .int .i64 F, .string B, .int .i64 C, .int .i64 M]) := V1b
    clear c0 c1 c2 c3 c4 c5
    refine wp_region_held_drew (S := fun w' => w'.cell? ⟨b1, 0, none⟩ = some (.int .i64 5) ∧ w'.cell? ⟨b1, 1, none⟩ = some (.string N) ∧ w'.cell? ⟨b1, 2, none⟩ = some (.int .i64 F) ∧ w'.cell? ⟨b1, 3, none⟩ = some (.string B) ∧ w'.cell? ⟨b1, 4, none⟩ = some (.int .i64 C) ∧ w'.cell? ⟨b1, 5, none⟩ = some (.int .i64 M)) (by kernel_rfl) (cellsRp (w := w2.drew) hV.out) (fun hHeld => ?_)
    refine wpAnyH_take (i := 0) (oi := { dst := some 6, op := Op.move (Operand.tmp 3), type := 89, pos := "l12_reply.go:159", after := #[], guard := none }) (v := ?_) rfl (by kernel_rfl) (by kernel_rfl) (by kernel_rfl) (fun _ _ _ h => h) (Or.inl ⟨by rfl, ?_⟩) (by assumption) ?_
    rotate_left 1
    · intro w' hSw; (try dsimp only at hSw); go_simp; (try with_reducible rfl)
    (try simp only [Act.put, List.setIfInBounds_toArray, List.set_cons_zero, List.set_cons_succ])
    refine wpAnyH_ready (rs := [1]) (by kernel_rfl) (by simp) ?_
    refine AllReadyH.cons (o := { dst := some 7, op := Op.call { callee := Callee.value (Operand.func 59), args := #[Operand.tmp 6], argTypes := #[89] }, type := 4, pos := "l12_reply.go:159", after := #[{ on := 0, ground := Ground.data }], guard := none }) rfl (fun KC hKC => ?_) AllReadyH.nil
    go_simp
    go_at_call 59
    refine (right_val N F B C _ h1 hN hB _).mono ?_
    rintro e w3 ⟨rfl, hq3⟩
    have hV3 : Hid (VBlk w3 b1 33 [.int .i64 5, .string N, .int .i64 F, .string B, .int .i64 C, .int .i64 M]) := vblk_grow (w := w2.drew) hV.out hq3
    have hB3 : Below w.heap.size w w3 := (hB1.trans (hB2.mono hz1)).drew.trans (hq3.mono (by show w.heap.size ≤ w2.drew.heap.size; have : w2.drew.heap.size = w2.heap.size := rfl; omega))
    refine hKC.out _ _ (cellsRp hV3.out) (fun hHeld2 => ?_)
    clear hKC KC hHeld
    have hHeld := hHeld2
    clear hHeld2
    (try simp only [Act.put, List.setIfInBounds_toArray, List.set_cons_zero, List.set_cons_succ])
    refine wpAnyH_take (i := 2) (oi := { dst := some 8, op := Op.move (Operand.tmp 7), type := 4, pos := "l12_reply.go:159", after := #[{ on := 1, ground := Ground.data }, { on := 1, ground := Ground.chain }], guard := none }) (v := ?_) rfl (by kernel_rfl) (by kernel_rfl) (by kernel_rfl) (fun _ _ _ h => h) (Or.inl ⟨by rfl, ?_⟩) (by assumption) ?_
    rotate_left 1
    · intro w' hSw; (try dsimp only at hSw); go_simp; (try with_reducible rfl)
    (try simp only [Act.put, List.setIfInBounds_toArray, List.set_cons_zero, List.set_cons_succ])
    refine wpAnyH_take (i := 3) (oi := { dst := some 9, op := Op.move (Operand.tmp 3), type := 89, pos := "l12_reply.go:159", after := #[{ on := 2, ground := Ground.guard }], guard := some (2, true) }) (v := ?_) rfl (by kernel_rfl) (by kernel_rfl) (by kernel_rfl) (fun _ _ _ h => h) (Or.inl ⟨by rfl, ?_⟩) (by assumption) ?_
    rotate_left 1
    · intro w' hSw; (try dsimp only at hSw); go_simp; (try with_reducible rfl)
    (try simp only [Act.put, List.setIfInBounds_toArray, List.set_cons_zero, List.set_cons_succ])
    refine wpAnyH_take (i := 5) (oi := { dst := some 11, op := Op.load 33 (Operand.tmp 1), type := 33, pos := "l12_reply.go:159", after := #[{ on := 2, ground := Ground.guard }], guard := some (2, true) }) (v := ?_) rfl (by kernel_rfl) (by kernel_rfl) (by kernel_rfl) (fun _ _ _ h => h) (Or.inl ⟨by rfl, ?_⟩) (by assumption) ?_
    rotate_left 1
    · intro w' hSw; (try dsimp only at hSw); go_simp; (try with_reducible rfl)
    (try simp only [Act.put, List.setIfInBounds_toArray, List.set_cons_zero, List.set_cons_succ])
    refine wpAnyH_ready (rs := [4]) (by kernel_rfl) (by simp) ?_
    refine AllReadyH.cons (o := { dst := some 10, op := Op.call { callee := Callee.invoke (Operand.tmp 9) "loop.example/g00401/impl.reply", args := #[], argTypes := #[] }, type := 33, pos := "l12_reply.go:159", after := #[{ on := 3, ground := Ground.data }, { on := 2, ground := Ground.chain }, { on := 2, ground := Ground.guard }], guard := some (2, true) }) rfl (fun KC hKC => ?_) AllReadyH.nil
    go_simp
    go_at_call 178
    refine (reply_valued N F B C _).mono ?_
    rintro e w4 ⟨rfl, hq4⟩
    have hV4 := vblk_grow hV3.out hq4
    have hB4 : Below w.heap.size w w4 := hB3.trans (hq4.mono hB3.size)
    refine hKC.out _ _ (cellsRp hV4) (fun hHeld2 => ?_)
    clear hKC KC hHeld
    have hHeld := hHeld2
    clear hHeld2
    (try simp only [Act.put, List.setIfInBounds_toArray, List.set_cons_zero, List.set_cons_succ])
    refine wpAnyH_take (i := 6) (oi := { dst := some 12, op := Op.binOp BinOp.eql 33 (Operand.tmp 10) (Operand.tmp 11) 33, type := 4, pos := "l12_reply.go:159", after := #[{ on := 4, ground := Ground.data }, { on := 5, ground := Ground.data }, { on := 2, ground := Ground.guard }], guard := some (2, true) }) (v := .bool (zM)) rfl (by kernel_rfl) (by kernel_rfl) (by kernel_rfl) (fun _ _ _ h => h) (Or.inl ⟨by rfl, ?_⟩) (by assumption) ?_
    · intro w' hSw
      (try dsimp only at hSw)
      go_simp
      cases zM <;> first | rfl | simp
    (try simp only [Act.put, List.setIfInBounds_toArray, List.set_cons_zero, List.set_cons_succ])
    refine wpAnyH_take (i := 7) (oi := { dst := some 13, op := Op.pick (Operand.tmp 8) (Operand.tmp 12) (Operand.const (Value.bool false)), type := 4, pos := "l12_reply.go:159", after := #[{ on := 2, ground := Ground.data }, { on := 6, ground := Ground.data }], guard := none }) (v := ?_) rfl (by kernel_rfl) (by kernel_rfl) (by kernel_rfl) (fun _ _ _ h => h) (Or.inl ⟨by rfl, ?_⟩) (by assumption) ?_
    rotate_left 1
    · intro w' hSw; (try dsimp only at hSw); go_simp; (try with_reducible rfl)
    (try simp only [Act.put, List.setIfInBounds_toArray, List.set_cons_zero, List.set_cons_succ])
    refine wpAnyH_take (i := 8) (oi := { dst := some 2, op := Op.assign (Operand.tmp 13), type := 4, pos := "l12_reply.go:159", after := #[{ on := 7, ground := Ground.data }, { on := 4, ground := Ground.chain }, { on := 0, ground := Ground.phase }, { on := 1, ground := Ground.phase }, { on := 2, ground := Ground.phase }, { on := 3, ground := Ground.phase }, { on := 4, ground := Ground.phase }, { on := 5, ground := Ground.phase }, { on := 6, ground := Ground.phase }, { on := 7, ground := Ground.phase }], guard := none }) (v := ?_) rfl (by kernel_rfl) (by kernel_rfl) (by kernel_rfl) (fun _ _ _ h => h) (Or.inl ⟨by rfl, ?_⟩) (by assumption) ?_
    rotate_left 1
    · intro w' hSw; (try dsimp only at hSw); go_simp; (try with_reducible rfl)
    (try simp only [Act.put, List.setIfInBounds_toArray, List.set_cons_zero, List.set_cons_succ])
    refine wpAnyH_done (by kernel_rfl) ?_ _
    go_wp2
    go_ret
    refine ⟨?_, hB4⟩
    rw [← hy2]
    cases zM <;> rfl
end Go.Proofs.YtjkkjpgebcnhgaaGreatDoor.cm
/- Contracts: is a reply right, the program's, of whatever kind. -/
namespace Go.Proofs.YtjkkjpgebcnhgaaGreatDoor.cm
open Go.ChangeShapes Go.WideShapes Go.ChangeAt Go.RowKit
open Go.Proofs.YtjkkjpgebcnhgaaGreatDoor.ce Go.Proofs.YtjkkjpgebcnhgaaGreatDoor.ro Go.Proofs.YtjkkjpgebcnhgaaGreatDoor.rg
set_option linter.unusedVariables false

theorem implReplyOk_any (K : Int) (N : ByteArray) (F : Int) (B : ByteArray) (C M : Int) (y : Bool) (hy : Hid (repB ⟨K, N, F, B, C, M⟩ = y)) (hN : N.size ≤ 9223372036854775807) (hB : B.size ≤ 9223372036854775807) (w : World) :
    Calls Tryz.prog 24 #[.agg #[.int .i64 K, .string N, .int .i64 F, .string B, .int .i64 C, .int .i64 M]] w fun e w' => e = .returned (.bool y) ∧ Below w.heap.size w w' := by
  cases hin : (decide (1 ≤ K) && decide (K ≤ 12)) with
  | false =>
    have hy2 : false = y := by rw [← hy.out]; exact (rep_out (r := ⟨K, N, F, B, C, M⟩) hin).symm
    subst hy2
    exact okI_out K N F B C M hin w
  | true =>
    have hk : 1 ≤ K ∧ K ≤ 12 := by simpa using hin
    by_cases k5 : K = 5
    · subst k5
      exact okI_val N F B C M y (by have := hy.out; rw [rep_val] at this; exact this) hN hB w
    · by_cases k6 : K = 6
      · subst k6
        exact okI_num N F B C M y (by have := hy.out; rw [rep_num] at this; exact this) w
      · exact okI_bare K N F B C M y (by have := hy.out; rw [rep_bare hk.1 hk.2 k5 k6] at this; exact this) hin (by simpa using k5) (by simpa using k6) w
end Go.Proofs.YtjkkjpgebcnhgaaGreatDoor.cm
/- The model's l13Stamp: nothing but the book's variable is turned. -/
namespace Go.Proofs.YtjkkjpgebcnhgaaGreatDoor.rg
open Go.ChangeShapes Go.WideShapes Go.ChangeAt Go.RowKit
open Go.Deep Go.Joins
open Go.Proofs.YtjkkjpgebcnhgaaGreatDoor.ce Go.Proofs.YtjkkjpgebcnhgaaGreatDoor.ro Go.Proofs.YtjkkjpgebcnhgaaGreatDoor.draw
set_option linter.unusedVariables false

set_option maxRecDepth 100000 in
set_option maxHeartbeats 4000000 in
theorem l13Stamp_on (I : List It) (X : Int) (N B : ByteArray) (F C U : Int) (b0 lo n K : Nat) (A : Option Addr) (y : Bool) (hy : Hid (stampOk ⟨I, X⟩ ⟨N, F, B, C, U⟩ = y)) (w : World) (V : VBlk w b0 31 [.slice A n K, .int .i64 X]) (hlo : lo ≤ b0) (o : Own encIt w lo w.heap.size (.slice A n K) I)
    (hl : I.length ≤ 1000000) (hX0 : 1 ≤ X) (hX1 : X ≤ 1000000) (hN : N.size ≤ 1048576) (hBs : B.size ≤ 1048576) :
    Calls Tryz.prog 63 #[.pointer (some ⟨b0, 0, none⟩), .agg #[.string N, .int .i64 F, .string B, .int .i64 C, .int .i64 U]] w fun e w' => e = .returned (.bool y) ∧ ∃ A' n' K', VBlk w' b0 31 [.slice A' n' K', .int .i64 (if y = true then nextX X else X)] ∧ Own encIt w' lo w'.heap.size (.slice A' n' K') (if y = true then putL I ⟨N, F, B, X, U⟩ else I) ∧ Onb b0 w w' := by
  have hlt0 := V.lt
  have hy' : (itemB ⟨N, F, B, X, U⟩ && decide (((putL I ⟨N, F, B, X, U⟩).length : Int) ≤ 20)) = y := hy.out
  obtain ⟨x, hx⟩ := hid_ex (itemB ⟨N, F, B, X, U⟩)
  obtain ⟨P, hP⟩ := hid_ex (putL I ⟨N, F, B, X, U⟩)
  rw [hx.out, hP.out] at hy'
  rw [hP.out]
  have HY : Hid ((x && decide ((P.length : Int) ≤ 20)) = y) := hy'
  have O : Hid (Own encIt w lo w.heap.size (.slice A n K) I) := o
  have VV : Hid (VBlk w b0 31 [.slice A n K, .int .i64 X]) := V
  clear hy' hy o V
  go_enter Tryz.func63, Tryz.ntmps63
  go_upto_region 2 with (first | (refine wpList_box_v rfl 56 _ rfl [.string N, .int .i64 F, .string B, .int .i64 C, .int .i64 U] rfl ?_; intro b1 w1 hb1 hw1 hB1 V1; have hz1 := hB1.size; have V0 := vblk_grow VV.out hB1; obtain ⟨c00, c01⟩ := cells2 V0) | (refine wpList_store_cell rfl 2 _ _ rfl b1 3 (.int .i64 X) rfl rfl rfl szI1 V1 (by simp) ?_; intro w2 hO2 V2) | (fail))
  have hne : b0 ≠ b1 := by omega
  have W0 : Hid (VBlk w2 b0 31 [.slice A n K, .int .i64 X]) := vblk_only V0 hO2 hne
  have W1 : Hid (VBlk w2 b1 56 [.string N, .int .i64 F, .string B, .int .i64 X, .int .i64 U]) := V2
  have hB2 : Hid (Below w.heap.size w w2) := hB1.trans (hO2.2.2 _ hb1)
  have O2 : Hid (Own encIt w2 lo w.heap.size (.slice A n K) I) := (O.out.grow hB1).below (hO2.2.2 w.heap.size hb1) (Nat.le_refl _)
  have hz2 := hB2.out.size
  clear V0 V1 V2 c00 c01 hO2
  have S1 : w2.drew.cell? ⟨b0, 0, none⟩ = some (.slice A n K) ∧ w2.drew.cell? ⟨b1, 0, none⟩ = some (.string N) ∧ w2.drew.cell? ⟨b1, 1, none⟩ = some (.int .i64 F) ∧ w2.drew.cell? ⟨b1, 2, none⟩ = some (.string B) ∧ w2.drew.cell? ⟨b1, 3, none⟩ = some (.int .i64 X) ∧ w2.drew.cell? ⟨b1, 4, none⟩ = some (.int .i64 U) := ⟨(cells2 W0.out).1, cells5 W1.out⟩
  go_region_held3 (fun w' => w'.cell? ⟨b0, 0, none⟩ = some (.slice A n K) ∧ w'.cell? ⟨b1, 0, none⟩ = some (.string N) ∧ w'.cell? ⟨b1, 1, none⟩ = some (.int .i64 F) ∧ w'.cell? ⟨b1, 2, none⟩ = some (.string B) ∧ w'.cell? ⟨b1, 3, none⟩ = some (.int .i64 X) ∧ w'.cell? ⟨b1, 4, none⟩ = some (.int .i64 U)) (first | with_reducible assumption | with_reducible exact S1 | (fail)) (first | (go_at_call 107; refine (l10Put_own I _ lo w.heap.size N B F X U _ (O2.out.grow (Below.refl _ _).drew) hl).mono ?_; rintro e w3 ⟨v5, rfl, o5, hB3⟩; rw [hP.out] at o5; have S2 : w3.cell? ⟨b0, 0, none⟩ = some (.slice A n K) ∧ w3.cell? ⟨b1, 0, none⟩ = some (.string N) ∧ w3.cell? ⟨b1, 1, none⟩ = some (.int .i64 F) ∧ w3.cell? ⟨b1, 2, none⟩ = some (.string B) ∧ w3.cell? ⟨b1, 3, none⟩ = some (.int .i64 X) ∧ w3.cell? ⟨b1, 4, none⟩ = some (.int .i64 U) := ⟨(cells2 (vblk_grow W0.out ((Below.refl _ _).drew.trans hB3))).1, cells5 (vblk_grow W1.out ((Below.refl _ _).drew.trans hB3))⟩; obtain ⟨A5, n5, K5, rfl⟩ := o5.slice) | (fail))
  have hB23 : Below w2.heap.size w2 w3 := (Below.refl _ _).drew.trans hB3
  have hz3 := hB23.size
  have q5 : Hid (n5 = P.length) := o5.rd.cap.1
  have O5 : Hid (Own encIt w3 w2.heap.size w3.heap.size (.slice A5 n5 K5) P) := o5
  have Y0 : Hid (VBlk w3 b0 31 [.slice A n K, .int .i64 X]) := vblk_grow W0.out hB23
  have O3 : Hid (Own encIt w3 lo w.heap.size (.slice A n K) I) := O2.out.grow hB23
  have hB3w : Hid (Below w.heap.size w w3) := hB2.out.trans (hB23.mono hz2)
  obtain ⟨s0, s1, s2, s3, s4, s5⟩ := S2
  clear o5 S1 hB3
  cases x with
  | false =>
    have ey : y = false := by rw [← HY.out]; rfl
    subst ey
    go_wp2_with (first | (go_at_call 99; refine (specItemOk_any N B F X U false hx (by omega) (by omega) _).mono ?_; rintro e w4 ⟨rfl, hB4⟩) | (fail))
    go_ret
    exact ⟨rfl, A, n, K, vblk_grow Y0.out hB4, (O3.out.grow hB4).wide (Nat.le_refl _) (by have := hB4.size; omega), Onb.below (hB3w.out.trans (hB4.mono hB3w.out.size))⟩
  | true =>
    by_cases hn : P.length ≤ 20
    · have ey : y = true := by rw [← HY.out]; simp; omega
      subst ey
      have hn' : ¬ (20 : Int) < (n5 : Int) := by have := q5.out; omega
      have ew : IntKind.i64.wrap (X + 1) = X + 1 := by rw [IntKind.wrap_i64]; omega
      by_cases hm : (1000000 : Int) < X + 1
      · have en : nextX X = 1 := by unfold nextX; rw [if_pos hm]
        have k1 : Hid True := trivial
        have k2 : Hid True := trivial
        go_wp2_with (first | (go_at_call 99; refine (specItemOk_any N B F X U true hx (by omega) (by omega) _).mono ?_; rintro e w4 ⟨rfl, hB4⟩; have Y4 := vblk_grow Y0.out hB4) | (clear k1; refine wpList_store_cell rfl 29 _ _ rfl b0 0 (.slice A5 n5 K5) rfl rfl rfl szL1 Y4 (by simp) ?_; intro w5 hO5 V5; have c51 := (cells2 V5).2) | (clear k2; refine wpList_store_cell rfl 2 _ _ rfl b0 1 (.int .i64 (X + 1)) rfl (by first | rfl | simp [ew] | (go_simp)) rfl szI1 V5 (by simp) ?_; intro w6 hO6 V6; have c61 := (cells2 V6).2) | (refine wpList_store_cell rfl 2 _ _ rfl b0 1 (.int .i64 1) rfl rfl rfl szI1 V6 (by simp) ?_; intro w7 hO7 V7) | (fail))
        go_ret
        exact ⟨rfl, A5, n5, K5, (by first | exact V7 | (rw [en]; exact V7)), ((((O5.out.grow hB4).only hO5 Y4 (by decide)).only hO6 V5 (by decide)).only hO7 V6 (by decide)).wide (by omega) (by have := hB4.size; have := (hO5.2.2 0 (by omega)).size; have := (hO6.2.2 0 (by omega)).size; have := (hO7.2.2 0 (by omega)).size; omega), (((Onb.below (hB3w.out.trans (hB4.mono hB3w.out.size))).trans (Onb.only hO5)).trans (Onb.only hO6)).trans (Onb.only hO7)⟩
      · have en : nextX X = X + 1 := by unfold nextX; rw [if_neg hm]
        have k1 : Hid True := trivial
        go_wp2_with (first | (go_at_call 99; refine (specItemOk_any N B F X U true hx (by omega) (by omega) _).mono ?_; rintro e w4 ⟨rfl, hB4⟩; have Y4 := vblk_grow Y0.out hB4) | (clear k1; refine wpList_store_cell rfl 29 _ _ rfl b0 0 (.slice A5 n5 K5) rfl rfl rfl szL1 Y4 (by simp) ?_; intro w5 hO5 V5; have c51 := (cells2 V5).2) | (refine wpList_store_cell rfl 2 _ _ rfl b0 1 (.int .i64 (X + 1)) rfl (by first | rfl | simp [ew] | (go_simp)) rfl szI1 V5 (by simp) ?_; intro w6 hO6 V6; have c61 := (cells2 V6).2) | (fail))
        go_ret
        exact ⟨rfl, A5, n5, K5, (by first | exact V6 | (rw [en]; exact V6)), (((O5.out.grow hB4).only hO5 Y4 (by decide)).only hO6 V5 (by decide)).wide (by omega) (by have := hB4.size; have := (hO5.2.2 0 (by omega)).size; have := (hO6.2.2 0 (by omega)).size; omega), ((Onb.below (hB3w.out.trans (hB4.mono hB3w.out.size))).trans (Onb.only hO5)).trans (Onb.only hO6)⟩
    · have ey : y = false := by rw [← HY.out]; simp; omega
      subst ey
      have hn' : (20 : Int) < (n5 : Int) := by have := q5.out; omega
      go_wp2_with (first | (go_at_call 99; refine (specItemOk_any N B F X U true hx (by omega) (by omega) _).mono ?_; rintro e w4 ⟨rfl, hB4⟩) | (fail))
      go_ret
      exact ⟨rfl, A, n, K, vblk_grow Y0.out hB4, (O3.out.grow hB4).wide (Nat.le_refl _) (by have := hB4.size; omega), Onb.below (hB3w.out.trans (hB4.mono hB3w.out.size))⟩
end Go.Proofs.YtjkkjpgebcnhgaaGreatDoor.rg
/- The model's l13Keep, l13Drop; what a call may turn besides the book's variable. -/
namespace Go.Proofs.YtjkkjpgebcnhgaaGreatDoor.rg
open Go.ChangeShapes Go.WideShapes Go.ChangeAt Go.RowKit
open Go.Deep Go.Joins
open Go.Proofs.YtjkkjpgebcnhgaaGreatDoor.ce Go.Proofs.YtjkkjpgebcnhgaaGreatDoor.ro Go.Proofs.YtjkkjpgebcnhgaaGreatDoor.cm
set_option linter.unusedVariables false

/-- but for the book's variable and rows of things from lo on all variables stay -/
structure Onk (q lo : Nat) (w w' : World) : Prop where
  size : w.heap.size ≤ w'.heap.size
  keep : ∀ (k : Nat) (cur : Array Value) (t' : TypeId) (f : Nat × Nat), w.heap[k]? = some (.cells cur t' f) → k ≠ q → t' ≠ 56 → w'.heap[k]? = w.heap[k]?
  low : ∀ B, B ≤ q → B ≤ lo → B ≤ w.heap.size → Below B w w'
theorem Onk.refl (q lo : Nat) (w : World) : Onk q lo w w := ⟨Nat.le_refl _, fun _ _ _ _ _ _ _ => rfl, fun _ _ _ _ => Below.refl _ _⟩
theorem Onk.trans {q lo : Nat} {x y z : World} (h : Onk q lo x y) (k : Onk q lo y z) : Onk q lo x z :=
  ⟨Nat.le_trans h.size k.size, fun j cur t' f hj hq ht => (k.keep j cur t' f (by rw [h.keep j cur t' f hj hq ht]; exact hj) hq ht).trans (h.keep j cur t' f hj hq ht), fun B h1 h2 h3 => (h.low B h1 h2 h3).trans (k.low B h1 h2 (Nat.le_trans h3 h.size))⟩
theorem Onk.of_below {q lo : Nat} {w w' : World} (h : Below w.heap.size w w') : Onk q lo w w' := ⟨h.size, fun k cur t' f hk _ _ => h.block k (Array.getElem?_eq_some_iff.1 hk).1, fun B _ _ hB => h.mono hB⟩
theorem Onk.of_onb {q lo : Nat} {w w' : World} (h : Onb q w w') : Onk q lo w w' := ⟨h.size, fun k cur t' f hk hq _ => h.keep k (Array.getElem?_eq_some_iff.1 hk).1 hq, fun B h1 _ h3 => h.low B h1 h3⟩
theorem Onk.only {q lo : Nat} {w w' : World} (h : Only q w w') : Onk q lo w w' := .of_onb (Onb.only h)
/-- a variable that is younger than w0 is written -/
theorem Onk.new {q lo b : Nat} {w0 w w' : World} (k : Onk q lo w0 w) (h : Only b w w') (hb : w0.heap.size ≤ b) : Onk q lo w0 w' :=
  ⟨Nat.le_trans k.size (Nat.le_of_eq h.1.symm), fun j cur t' f hj hq ht => (h.2.1 j (fun e => by have := (Array.getElem?_eq_some_iff.1 hj).1; omega)).trans (k.keep j cur t' f hj hq ht), fun B h1 h2 h3 => (k.low B h1 h2 h3).trans (h.2.2 B (by omega))⟩
/-- a row of things from lo on is written -/
theorem Onk.row {q lo g : Nat} {w w' : World} (h : Only g w w') (hg : lo ≤ g) {cur : Array Value} (hc : w.heap[g]? = some (.cells cur 56 (0, 0))) : Onk q lo w w' :=
  ⟨Nat.le_of_eq h.1.symm, fun j cur' t' f hj hq ht => h.2.1 j (fun e => by rw [e, hc] at hj; simp at hj; exact ht hj.2.1.symm), fun B _ h2 _ => h.2.2 B (by omega)⟩
theorem Onk.vblk {q lo b : Nat} {w w' : World} {t : TypeId} {vs : List Value} (h : Onk q lo w w') (hb : VBlk w b t vs) (hn : b ≠ q) (ht : t ≠ 56) : VBlk w' b t vs := hb.of (h.keep b _ t _ hb hn ht)
theorem with_key {G T : Prop} (main : T → G) (key : T) : G := main key
def PostM (b : Bk) (r : Rp) (b0 lo : Nat) (w : World) (e : Ending) (w' : World) : Prop := e = .returned (.agg (csRp r).toArray) ∧ ∃ A n k, VBlk w' b0 31 [.slice A n k, .int .i64 b.X] ∧ Own encIt w' lo w'.heap.size (.slice A n k) b.I ∧ Onk b0 lo w w'
set_option maxRecDepth 100000 in
set_option maxHeartbeats 4000000 in
theorem l13Keep_any (I : List It) (X : Int) (N B : ByteArray) (F C U : Int) (b0 lo n0 k0 : Nat) (A0 : Option Addr) (w : World) (c0 : VBlk w b0 31 [.slice A0 n0 k0, .int .i64 X]) (hlo : lo ≤ b0) (o : Own encIt w lo w.heap.size (.slice A0 n0 k0) I) (ok : StOk ⟨I, X⟩) (hN : N.size ≤ 1048576) (hBs : B.size ≤ 1048576) :
    Calls Tryz.prog 65 #[.pointer (some ⟨b0, 0, none⟩), .agg #[.string N, .int .i64 F, .string B, .int .i64 C, .int .i64 U]] w fun e w' => PostM (keepK ⟨I, X⟩ ⟨N, F, B, C, U⟩).1 (keepK ⟨I, X⟩ ⟨N, F, B, C, U⟩).2 b0 lo w e w' := by
  have hx0 := ok.x0
  have hx1 := ok.x1
  have hl20 := len_of ok
  dsimp only at hx0 hx1
  clear ok
  obtain ⟨y, hy⟩ := hid_ex (stampOk ⟨I, X⟩ ⟨N, F, B, C, U⟩)
  cases y with
  | false =>
    have e : (keepK ⟨I, X⟩ ⟨N, F, B, C, U⟩) = (⟨I, X⟩, rp 2) := by unfold keepK; rw [hy.out]; rfl
    rw [e]
    clear e
    have hK := Onk.refl b0 lo w
    have hlt0 := c0.lt
    have hzw0 : w.heap.size ≤ w.heap.size := Nat.le_refl _
    go_enter Tryz.func65, Tryz.ntmps65
    obtain ⟨c00, c01⟩ := cells2 c0
    have mk1 : Hid True := trivial
    have mk2 : Hid True := trivial
    have mk3 : Hid True := trivial
    have mk4 : Hid True := trivial
    have mk5 : Hid True := trivial
    go_wp2_with (first | (clear mk1; refine wpList_box_v rfl 56 _ rfl [.string N, .int .i64 F, .string B, .int .i64 C, .int .i64 U] rfl ?_; intro b3 w1 hb3 hwb3 hB1 c3; have hz1 : w.heap.size ≤ w1.heap.size := hB1.size; replace o := o.grow hB1; replace c0 := vblk_grow c0 hB1; replace hK := hK.trans (Onk.of_below hB1); clear c00 c01; obtain ⟨c00, c01⟩ := cells2 c0; obtain ⟨c30, c31, c32, c33, c34⟩ := cells5 c3) | (clear mk2; refine wpList_alloc_v rfl 33 rfl _ zeroRp ?_; intro b4 w2 hb4 hwb4 hB2 c4; have hz2 : w1.heap.size ≤ w2.heap.size := hB2.size; replace o := o.grow hB2; replace c0 := vblk_grow c0 hB2; replace c3 := vblk_grow c3 hB2; replace hK := hK.trans (Onk.of_below hB2); clear c00 c01; obtain ⟨c00, c01⟩ := cells2 c0; clear c30 c31 c32 c33 c34; obtain ⟨c30, c31, c32, c33, c34⟩ := cells5 c3; obtain ⟨c40, c41, c42, c43, c44, c45⟩ := cellsRp c4) | (clear mk3; refine wpList_load_r rfl 56 _ rfl b3 0 [.string N, .int .i64 F, .string B, .int .i64 C, .int .i64 U] rfl _ Tryz.underlying56 rfl sizeIt c3.range ?_) | (clear mk4; go_at_call 63; refine (l13Stamp_on I X N B F C U b0 lo n0 k0 A0 false hy _ c0 hlo (o.wide (Nat.le_refl _) (by omega)) (by omega) hx0 hx1 hN hBs).mono ?_; rintro er w3 ⟨rfl, A1, n1, k1, c0n, o1, hQ3⟩; have hM3 : Onk b0 lo _ _ := Onk.of_onb hQ3; have hz3 : w2.heap.size ≤ w3.heap.size := hM3.size; replace c4 := hM3.vblk c4 (by omega) (by decide); replace hK := hK.trans hM3; clear c0 c00 c01 c30 c31 c32 c33 c34 c3; have c0 := c0n; clear c0n; clear c40 c41 c42 c43 c44 c45; obtain ⟨c40, c41, c42, c43, c44, c45⟩ := cellsRp c4) | (clear mk5; refine wpList_store_v rfl 33 _ _ rfl b4 [.int .i64 2, .string ⟨#[]⟩, .int .i64 0, .string ⟨#[]⟩, .int .i64 0, .int .i64 0] rfl rfl sizeRp c4 rfl (oneRp (rp 2)) ?_; intro w4 hO4 c4x; clear c40 c41 c42 c43 c44 c45; have hz4 : w3.heap.size ≤ w4.heap.size := (Nat.le_of_eq hO4.1.symm); have hy4 : w4.heap.size ≤ w3.heap.size := (Nat.le_of_eq hO4.1); replace o1 := o1.only hO4 c4 (by decide); replace c0 := vblk_only c0 hO4 (by omega); replace hK := hK.new hO4 (by omega); clear c4; have c4 := c4x; clear c4x; obtain ⟨c40, c41, c42, c43, c44, c45⟩ := cellsRp c4) | (fail))
    exact row_retv rfl rfl c4 Tryz.underlying33 sizeRp rfl ⟨rfl, A1, n1, k1, c0, (o1.wide (Nat.le_refl _) (by omega)).top, hK⟩

  | true =>
    have e : (keepK ⟨I, X⟩ ⟨N, F, B, C, U⟩) = (stampR ⟨I, X⟩ ⟨N, F, B, C, U⟩, rp 1) := by unfold keepK; rw [hy.out]; rfl
    rw [e]
    clear e
    have e2 : stampR ⟨I, X⟩ ⟨N, F, B, C, U⟩ = ⟨putL I ⟨N, F, B, X, U⟩, nextX X⟩ := rfl
    rw [e2]
    clear e2
    have hK := Onk.refl b0 lo w
    have hlt0 := c0.lt
    have hzw0 : w.heap.size ≤ w.heap.size := Nat.le_refl _
    go_enter Tryz.func65, Tryz.ntmps65
    obtain ⟨c00, c01⟩ := cells2 c0
    have mk1 : Hid True := trivial
    have mk2 : Hid True := trivial
    have mk3 : Hid True := trivial
    have mk4 : Hid True := trivial
    have mk5 : Hid True := trivial
    go_wp2_with (first | (clear mk1; refine wpList_box_v rfl 56 _ rfl [.string N, .int .i64 F, .string B, .int .i64 C, .int .i64 U] rfl ?_; intro b3 w1 hb3 hwb3 hB1 c3; have hz1 : w.heap.size ≤ w1.heap.size := hB1.size; replace o := o.grow hB1; replace c0 := vblk_grow c0 hB1; replace hK := hK.trans (Onk.of_below hB1); clear c00 c01; obtain ⟨c00, c01⟩ := cells2 c0; obtain ⟨c30, c31, c32, c33, c34⟩ := cells5 c3) | (clear mk2; refine wpList_alloc_v rfl 33 rfl _ zeroRp ?_; intro b4 w2 hb4 hwb4 hB2 c4; have hz2 : w1.heap.size ≤ w2.heap.size := hB2.size; replace o := o.grow hB2; replace c0 := vblk_grow c0 hB2; replace c3 := vblk_grow c3 hB2; replace hK := hK.trans (Onk.of_below hB2); clear c00 c01; obtain ⟨c00, c01⟩ := cells2 c0; clear c30 c31 c32 c33 c34; obtain ⟨c30, c31, c32, c33, c34⟩ := cells5 c3; obtain ⟨c40, c41, c42, c43, c44, c45⟩ := cellsRp c4) | (clear mk3; refine wpList_load_r rfl 56 _ rfl b3 0 [.string N, .int .i64 F, .string B, .int .i64 C, .int .i64 U] rfl _ Tryz.underlying56 rfl sizeIt c3.range ?_) | (clear mk4; go_at_call 63; refine (l13Stamp_on I X N B F C U b0 lo n0 k0 A0 true hy _ c0 hlo (o.wide (Nat.le_refl _) (by omega)) (by omega) hx0 hx1 hN hBs).mono ?_; rintro er w3 ⟨rfl, A1, n1, k1, c0n, o1, hQ3⟩; have hM3 : Onk b0 lo _ _ := Onk.of_onb hQ3; have hz3 : w2.heap.size ≤ w3.heap.size := hM3.size; replace c4 := hM3.vblk c4 (by omega) (by decide); replace hK := hK.trans hM3; clear c0 c00 c01 c30 c31 c32 c33 c34 c3; have c0 := c0n; clear c0n; clear c40 c41 c42 c43 c44 c45; obtain ⟨c40, c41, c42, c43, c44, c45⟩ := cellsRp c4) | (clear mk5; refine wpList_store_v rfl 33 _ _ rfl b4 [.int .i64 1, .string ⟨#[]⟩, .int .i64 0, .string ⟨#[]⟩, .int .i64 0, .int .i64 0] rfl rfl sizeRp c4 rfl (oneRp (rp 1)) ?_; intro w4 hO4 c4x; clear c40 c41 c42 c43 c44 c45; have hz4 : w3.heap.size ≤ w4.heap.size := (Nat.le_of_eq hO4.1.symm); have hy4 : w4.heap.size ≤ w3.heap.size := (Nat.le_of_eq hO4.1); replace o1 := o1.only hO4 c4 (by decide); replace c0 := vblk_only c0 hO4 (by omega); replace hK := hK.new hO4 (by omega); clear c4; have c4 := c4x; clear c4x; obtain ⟨c40, c41, c42, c43, c44, c45⟩ := cellsRp c4) | (fail))
    exact row_retv rfl rfl c4 Tryz.underlying33 sizeRp rfl ⟨rfl, A1, n1, k1, c0, (o1.wide (Nat.le_refl _) (by omega)).top, hK⟩

end Go.Proofs.YtjkkjpgebcnhgaaGreatDoor.rg
