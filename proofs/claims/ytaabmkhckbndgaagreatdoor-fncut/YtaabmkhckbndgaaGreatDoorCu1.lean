/- Contracts of the model's small questions on verbs. -/
import Derived.Test.YtaabmkhckbndgaaGreatDoorRcCm
import Derived.Test.YtaabmkhckbndgaaGreatDoorMg02
namespace Go.Proofs.YtaabmkhckbndgaaGreatDoor.cm
open Go.ChangeShapes Go.WideShapes Go.ChangeAt Go.RowKit
open Go.Proofs.YtaabmkhckbndgaaGreatDoor.ce Go.Proofs.YtaabmkhckbndgaaGreatDoor.ro Go.Proofs.YtaabmkhckbndgaaGreatDoor.rg
set_option linter.unusedVariables false

theorem l11Sized_is (v : Int) (y : Bool) (h : sized v = y) (w : World) : Calls Tryz.prog 69 #[.int .i64 v] w fun e w' => e = .returned (.bool y) ∧ w' = w := by
  have h2 : Hid ((decide (3 ≤ v) && decide (v ≤ 8)) = y) := h
  clear h
  go_enter Tryz.func69, Tryz.ntmps69
  go_wp2_with (first | (go_at_call 72; refine (in_is v 3 8 y h2.out _).mono ?_; rintro e wq ⟨rfl, hq⟩; subst wq) | (fail))
  go_ret
  exact ⟨rfl, rfl⟩
theorem l11Full_is (v : Int) (y : Bool) (h : full v = y) (w : World) : Calls Tryz.prog 74 #[.int .i64 v] w fun e w' => e = .returned (.bool y) ∧ w' = w := by
  unfold full at h
  obtain ⟨x, hx⟩ := hid_ex (decide (3 ≤ v) && decide (v ≤ 5))
  rw [hx.out] at h
  by_cases h8 : v = 8
  · have e8 : (v == 8) = true := by simpa using h8
    rw [decide_eq_true h8] at h
    cases x
    all_goals
      clear h8
      subst h
      go_enter Tryz.func74, Tryz.ntmps74
      go_wp2_with (first | (go_at_call 72; refine (in_is v 3 5 _ hx.out _).mono ?_; rintro e wq ⟨rfl, hq⟩; subst wq) | (fail))
      go_ret
      exact ⟨rfl, rfl⟩
  · have e8 : (v == 8) = false := by simpa using h8
    rw [decide_eq_false h8] at h
    cases x
    all_goals
      clear h8
      subst h
      go_enter Tryz.func74, Tryz.ntmps74
      go_wp2_with (first | (go_at_call 72; refine (in_is v 3 5 _ hx.out _).mono ?_; rintro e wq ⟨rfl, hq⟩; subst wq) | (fail))
      go_ret
      exact ⟨rfl, rfl⟩
/-- new things lie in a block of their own -/
theorem rd_lit {α : Type} {E : Enc α} (w : World) (xs : List α) (n : Nat) (cs : Array Value) (hn : n = xs.length) (hm : n ≤ 1048576) (h : E.row xs = cs.toList) : Rd E (w.alloc (.cells cs E.t)) (.slice (some ⟨w.heap.size, 0, none⟩) n n) xs := by
  subst hn
  refine ⟨_, xs.length, rfl, Nat.le_refl _, by unfold maxLen; omega, fun _ => ⟨w.heap.size, 0, rfl, by simp, fun j u hj => ?_⟩⟩
  rw [h] at hj
  rw [cell_of_row _ _ _ _ _ _ (heap_alloc_new w (.cells cs E.t))]
  simpa using hj
/-- the words of the verbs -/
def vtx : List ByteArray := verbs.map tx
theorem l11Words_any (w : World) : Calls Tryz.prog 67 #[] w fun e w' => ∃ v, e = .returned v ∧ Rd encS w' v vtx ∧ Below w.heap.size w w' := by
  go_enter Tryz.func67, Tryz.ntmps67
  go_wp2
  go_ret
  exact ⟨_, rfl, rd_lit (E := encS) w vtx 13 _ rfl (by omega) rfl, (Below.refl _ w).alloc (Nat.le_refl _) _⟩
end Go.Proofs.YtaabmkhckbndgaaGreatDoor.cm
