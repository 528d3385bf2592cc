/- Contracts of the laws' own pick and big. -/
import Derived.Test.YtgdoclaifnnpgaaDraw1
namespace Go.Proofs.Ytgdoclaifnnpgaa.draw
open Go.ChangeShapes Go.WideShapes Go.ChangeAt Go.RowKit
set_option linter.unusedVariables false

theorem pick_any (w : World) (a0 : Option Addr) (len cap : Nat) (x n : Int) (hl : len ≤ 4096) (hx0 : 0 ≤ x) (hx1 : x ≤ 1000) (hn0 : 1 ≤ n) (hn1 : n ≤ 1000) (hcode : CodeAt w a0 len) :
    Calls Try.prog 30 #[.slice a0 len cap, .int .i64 x, .int .i64 n] w fun e w' => ∃ r : Int, e = .returned (.int .i64 r) ∧ 0 ≤ r ∧ r < n ∧ w' = w := by
  have hC : Hid (CodeAt w a0 len) := hcode
  clear hcode
  go_enter Try.func30, Try.ntmps30
  go_wp2
  go_loop [7, 8] (fun q i => ∃ (k : Nat) (z : Int), k ≤ len ∧ i = .int .i64 k ∧ q = .int .i64 z ∧ 0 ≤ z ∧ z ≤ 10000000) (fun _ i => len - (intOf i).toNat)
  case atStart => exact ⟨0, _, Nat.zero_le _, rfl, rfl, by omega, by omega⟩
  case round =>
    obtain ⟨k, z, hk, rfl, rfl, hz0, hz1⟩ := hrel
    by_cases hlt : k < len
    · rcases hC.out.2 with h0 | ⟨b, off, rfl, hbs, hcell⟩
      · omega
      obtain ⟨c, hc, h1, h2⟩ := hcell k hlt
      clear hcell
      have hlt' : (k : Int) < (len : Int) := by omega
      go_wp2
      go_round
      case rel =>
        refine ⟨k + 1, (z * 239 + c + x) % 1000003, by omega, by go_num, by first | rfl | go_num, by omega, by omega⟩
      case measure => simp [intOf]; omega
    · go_wp2
      go_ret
      exact ⟨_, rfl, Int.emod_nonneg _ (by omega), Int.emod_lt_of_pos _ (by omega), rfl⟩

end Go.Proofs.Ytgdoclaifnnpgaa.draw
