/- Contracts: the program's walkable, leftRight, hereRight. -/
import Derived.Test.YtnjeepmbkogaeaaIh1
import Derived.Test.YtnjeepmbkogaeaaIt7
namespace Go.Proofs.Ytnjeepmbkogaeaa.ce
open Go.ChangeShapes Go.WideShapes Go.ChangeAt Go.RowKit
set_option linter.unusedVariables false
open Go.Proofs.Ytnjeepmbkogaeaa.it

/-- where a hand may stand -/
def wlk (H : List C) (p : Int) : Prop := has H p ∧ ((nth H p).gone = true ∨ p ∈ chain H)
instance (H : List C) (p : Int) : Decidable (wlk H p) := by unfold wlk; infer_instance

theorem walkable_any (H : List C) (hok : heapOk H) (p : Int) (v : Value) (hi : Nat) (w : World) (hh : hi ≤ w.heap.size) (r : Rd w hi v H) :
    Calls Try.prog 63 #[v, .int .i64 p] w fun e w' => e = .returned (.bool (decide (wlk H p))) ∧ Below w.heap.size w w' := by
  have hl := r.len
  obtain ⟨a, cap, rfl⟩ := r.form
  have R : Hid (Rd w hi (.slice a H.length cap) H) := r
  have HO : Hid (heapOk H) := hok
  clear r hok
  obtain ⟨z, hz⟩ := hid_ex (decide (wlk H p))
  rw [hz.out]
  by_cases hp : has H p
  · have hd : Hid (decide (has H p) = true) := decide_eq_true hp
    obtain ⟨i, rfl⟩ : ∃ i : Nat, p = i := ⟨p.toNat, by have := hp.1; omega⟩
    have hi1 : i < H.length := by have := hp.2; omega
    have hi1' : (i : Int) < H.length := by omega
    have en := nth_nat H i hi1
    obtain ⟨b, off, rfl, hbh, c0, c1, c2, c3⟩ := R.out.cell i hi1
    cases hg : (H[i]).gone with
    | true =>
      rw [hg] at c3
      have ez : z = true := by rw [← hz.out]; exact decide_eq_true ⟨hp, .inl (by rw [en]; exact hg)⟩
      clear hp
      subst ez
      go_enter Try.func63, Try.ntmps63
      go_wp2_with (first | (go_at_call 64; refine (has_any H (i : Int) _ _ hl _).mono ?_; rintro e wq ⟨rfl, hq⟩; subst wq; rw [hd.out]) | (fail))
      go_ret
      exact ⟨rfl, Below.refl _ _⟩
    | false =>
      rw [hg] at c3
      have ez : Hid (decide ((i : Int) ∈ chain H) = z) := by
        unfold Hid
        rw [← hz.out]
        simp [wlk, hp, en, hg]
      clear hp
      go_enter Try.func63, Try.ntmps63
      go_wp2_with (first | (go_at_call 64; refine (has_any H (i : Int) _ _ hl _).mono ?_; rintro e wq ⟨rfl, hq⟩; subst wq; rw [hd.out]) | (go_at_call 65; refine (inChain_any H HO.out (i : Int) _ hi _ hh R.out).mono ?_; rintro e w1 ⟨he, hB1⟩; rw [ez.out] at he; subst he) | (fail))
      go_ret
      exact ⟨rfl, hB1⟩
  · have hd : Hid (decide (has H p) = false) := decide_eq_false hp
    have ez : z = false := by rw [← hz.out]; exact decide_eq_false fun h => hp h.1
    clear hp
    subst ez
    go_enter Try.func63, Try.ntmps63
    go_wp2_with (first | (go_at_call 64; refine (has_any H p _ _ hl _).mono ?_; rintro e wq ⟨rfl, hq⟩; subst wq; rw [hd.out]) | (fail))
    go_ret
    exact ⟨rfl, Below.refl _ _⟩
end Go.Proofs.Ytnjeepmbkogaeaa.ce
