/- What the laws of chapter 8 draw, first part: a number as a text; a name, or what is none. -/
import Derived.Test.YtlakpibiojdgeaaRs2
import Derived.Test.YtlakpibiojdgeaaDrawS
import Derived.Deep.LoopGhost
namespace Go.Proofs.Ytlakpibiojdgeaa.rg
open Go.ChangeShapes Go.WideShapes Go.ChangeAt Go.RowKit
open Go.Proofs.Ytlakpibiojdgeaa.ce Go.Proofs.Ytlakpibiojdgeaa.ro
set_option linter.unusedVariables false

/-- what l8DrawName may tell besides names -/
def odd4 : List ByteArray := [⟨#[]⟩, ⟨#[65]⟩, ⟨#[48, 49, 50, 51, 52, 53, 54, 55, 56, 57, 97, 98, 99]⟩, ⟨#[122, 122]⟩]
theorem odd4_small : ∀ s ∈ odd4, s.size ≤ 13 := by
  intro s hs
  simp only [odd4, List.mem_cons, List.not_mem_nil, or_false] at hs
  rcases hs with rfl | rfl | rfl | rfl <;> decide
open Go.Proofs.Ytlakpibiojdgeaa.draw in
theorem l8DrawName_any (w0 w : World) (p : Nat) (a0 : Option Addr) (len cap : Nat) (hc : Cur w p a0 len cap) (hg : w0.grownBy w (some p)) :
    Calls Try.prog 41 #[.pointer (some ⟨p, 0, none⟩)] w fun e w' => ∃ s : ByteArray, e = .returned (.string s) ∧ s.size ≤ 13 ∧ Cur w' p a0 len cap ∧ w0.grownBy w' (some p) := by
  go_enter Try.func41, Try.ntmps41
  go_wp2_with (first | (go_at_call 43; refine (once_from w0 w p a0 len cap 12 (by omega) hc hg).mono ?_; rintro e w1 ⟨x, rfl, hc1, hg1⟩; cases x) | (go_at_call 50; refine (name_from w0 w1 p a0 len cap hc1 hg1).mono ?_; rintro e w2 ⟨s, rfl, hs, hc2, hg2⟩) | (go_at_call 42; refine (below_names w0 w1 p a0 len cap odd4 _ 4 13 rfl (by omega) odd4_small hc1 hg1).mono ?_; rintro e w2 ⟨x, s, rfl, hx0, hx1, hcell, hs, hc2, hg2⟩; obtain ⟨k, hk⟩ : ∃ k : Nat, x = k := ⟨x.toNat, by omega⟩; subst hk; rw [Int.toNat_natCast] at hcell) | (fail))
  all_goals
    go_ret
    exact ⟨s, rfl, by omega, hc2, hg2⟩
end Go.Proofs.Ytlakpibiojdgeaa.rg
