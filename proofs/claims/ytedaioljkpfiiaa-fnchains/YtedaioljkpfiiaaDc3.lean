/- What the laws of chapter 4 draw. -/
import Derived.Test.YtedaioljkpfiiaaDc2
namespace Go.Proofs.Ytedaioljkpfiiaa.draw
open Go.ChangeShapes Go.WideShapes Go.ChangeAt Go.RowKit
open Go.Proofs.Ytedaioljkpfiiaa.ce
set_option linter.unusedVariables false

theorem drawHeapOk_any (w : World) (a0 : Option Addr) (len cap : Nat) (hcode : CodeAt w a0 len) :
    Calls Try.prog 37 #[.slice a0 len cap] w fun e w' => ∃ (v : Value) (H : List C), e = .returned v ∧ Dr w w' v H := by
  have HC : Hid (CodeAt w a0 len) := hcode
  clear hcode
  go_enter Try.func37, Try.ntmps37
  go_wp2_with (first | (go_at_call 38; refine (new_cur _ _ _ _ HC.out).mono ?_; rintro er w1 ⟨p, rfl, hp, hc1, hB1⟩) | (go_at_call 39; refine (l3DrawAny_any _ p a0 len cap hc1).mono ?_; rintro er w2 ⟨v, rfl, H, d2⟩) | (fail))
  go_ret
  exact ⟨_, H, rfl, d2.dr hB1 hp⟩
theorem drawChain_any (w : World) (a0 : Option Addr) (len cap : Nat) (hcode : CodeAt w a0 len) :
    Calls Try.prog 24 #[.slice a0 len cap] w fun e w' => ∃ (v : Value) (H : List C), e = .returned v ∧ Dr w w' v H := by
  have HC : Hid (CodeAt w a0 len) := hcode
  clear hcode
  go_enter Try.func24, Try.ntmps24
  go_wp2_with (first | (go_at_call 37; refine (drawHeapOk_any _ a0 len cap HC.out).mono ?_; rintro er w1 ⟨v, H, rfl, d1⟩) | (fail))
  go_ret
  exact ⟨_, H, rfl, d1⟩
theorem drawValueAt_any (w : World) (a0 : Option Addr) (len cap : Nat) (hcode : CodeAt w a0 len) :
    Calls Try.prog 25 #[.slice a0 len cap] w fun e w' => ∃ (v : Value) (k : Int) (H : List C), e = .returned (.tuple #[v, .int .i64 k]) ∧ Dr w w' v H := by
  have HC : Hid (CodeAt w a0 len) := hcode
  clear hcode
  go_enter Try.func25, Try.ntmps25
  go_wp2_with (first | (go_at_call 38; refine (new_cur _ _ _ _ HC.out).mono ?_; rintro er w1 ⟨p, rfl, hp, hc1, hB1⟩) | (go_at_call 39; refine (l3DrawAny_any _ p a0 len cap hc1).mono ?_; rintro er w2 ⟨v, rfl, H, d2⟩) | (go_at_call 40; refine (below_from w2 _ p a0 len cap _ (by omega) d2.cur (World.grownBy.refl _ _)).mono ?_; rintro er w3 ⟨x3, rfl, hx30, hx31, hc3, hg3⟩; have d3 := d2.drawn hg3 hc3) | (fail))
  go_ret2
  exact ⟨_, _, H, rfl, d3.dr hB1 hp⟩
end Go.Proofs.Ytedaioljkpfiiaa.draw
