/- What the laws of chapter 1 draw: whatever the bytes, each draw returns, its numbers lie within their bounds, and nothing that was there is written. -/
import Derived.Test.YtmbmnodfcenjbaaDrawText
namespace Go.Proofs.Ytmbmnodfcenjbaa.draw
open Go.ChangeShapes Go.WideShapes Go.ChangeAt Go.RowKit
set_option linter.unusedVariables false

set_option maxHeartbeats 400000 in
theorem drawTurned_any (w : World) (a0 : Option Addr) (len cap : Nat) (hcode : CodeAt w a0 len) :
    Calls Try.prog 6 #[.slice a0 len cap] w fun e w' => ∃ n b : Int, e = .returned (.tuple #[.int .i64 n, .int .i64 b]) ∧ 0 ≤ b ∧ b ≤ 17 ∧ Below w.heap.size w w' := by
  go_enter Try.func6, Try.ntmps6
  go_wp2_with (go_at_call 20; refine (new_cur _ _ _ _ hcode).mono ?_; rintro e w1 ⟨p, rfl, hp, hc, hB⟩)
  have hg := World.grownBy.refl w1 (some p)
  go_wp2_with (first | (go_at_call 21; refine (from_from w1 _ p a0 len cap _ _ (by omega) (by omega) (by omega) (by assumption) (by assumption)).mono ?_; rintro e w2 ⟨b, rfl, hb0, hb1, hc2, hg2⟩) | (go_at_call 23; refine (once_from w1 _ p a0 len cap _ (by omega) (by assumption) (by assumption)).mono ?_; rintro e w4 ⟨y, rfl, hc4, hg4⟩) | (go_at_call 22; refine (below_from w1 _ p a0 len cap _ (by omega) (by assumption) (by assumption)).mono ?_; rintro e w3 ⟨x, rfl, hx0, hx1, hc3, hg3⟩))
  · go_wp2_with (go_at_call 22; refine (below_lit w1 _ p a0 len cap [-1, 65535, 65536, 4611686018427387904] _ 4 (-1) 4611686018427387904 rfl (by omega) (by decide) (by assumption) (by assumption)).mono ?_; rintro e w5 ⟨x5, v5, rfl, g50, g51, cell5, b5, b6, hc5, hg5⟩)
    go_ret2
    exact ⟨_, _, rfl, hb0, hb1, hB.grown hg5 hB.size (fun k hk => by cases hk; exact hp)⟩
  · go_ret2
    exact ⟨_, _, rfl, hb0, hb1, hB.grown hg4 hB.size (fun k hk => by cases hk; exact hp)⟩

theorem drawHash_any (w : World) (a0 : Option Addr) (len cap : Nat) (hcode : CodeAt w a0 len) :
    Calls Try.prog 8 #[.slice a0 len cap] w fun e w' => ∃ t : ByteArray, e = .returned (.string t) ∧ t.size ≤ 1000 ∧ Below w.heap.size w w' := by
  go_enter Try.func8, Try.ntmps8
  go_wp2_with (go_at_call 20; refine (new_cur _ _ _ _ hcode).mono ?_; rintro e w1 ⟨p, rfl, hp, hc, hB⟩)
  have hg := World.grownBy.refl w1 (some p)
  go_wp2_with (go_at_call 27; refine (drawText_from w1 _ p a0 len cap _ _ (by decide) (by decide) (by decide) (by decide) hc hg).mono ?_; rintro e w2 ⟨t, rfl, ht, hc2, hg2⟩)
  go_ret
  exact ⟨_, rfl, ht, hB.grown hg2 hB.size (fun k hk => by cases hk; exact hp)⟩

theorem hash_from (w0 w : World) (p : Nat) (a0 : Option Addr) (len cap : Nat) (hc : Cur w p a0 len cap) (hg : w0.grownBy w (some p)) :
    Calls Try.prog 29 #[.pointer (some ⟨p, 0, none⟩)] w fun e w' => ∃ x : Int, e = .returned (.int .i64 x) ∧ -1 ≤ x ∧ x ≤ 4611686018427387904 ∧ Cur w' p a0 len cap ∧ w0.grownBy w' (some p) := by
  go_enter Try.func29, Try.ntmps29
  go_wp2_with (first | (go_at_call 23; refine (once_from w0 _ p a0 len cap _ (by omega) hc hg).mono ?_; rintro e w4 ⟨y, rfl, hc4, hg4⟩) | (go_at_call 22; refine (below_from w0 _ p a0 len cap _ (by omega) (by assumption) (by assumption)).mono ?_; rintro e w3 ⟨x, rfl, hx0, hx1, hc3, hg3⟩))
  · go_wp2_with (go_at_call 22; refine (below_lit w0 _ p a0 len cap [-1, 32767, 32768, 4611686018427387904] _ 4 (-1) 4611686018427387904 rfl (by omega) (by decide) (by assumption) (by assumption)).mono ?_; rintro e w5 ⟨x5, v5, rfl, g50, g51, cell5, b5, b6, hc5, hg5⟩)
    go_ret
    exact ⟨_, rfl, b5, b6, hc5, hg5⟩
  · go_ret
    exact ⟨_, rfl, by omega, by omega, hc3, hg3⟩

theorem drawItemKey_any (w : World) (a0 : Option Addr) (len cap : Nat) (hcode : CodeAt w a0 len) :
    Calls Try.prog 12 #[.slice a0 len cap] w fun e w' => ∃ x : Int, e = .returned (.int .i64 x) ∧ -1 ≤ x ∧ x ≤ 4611686018427387904 ∧ Below w.heap.size w w' := by
  go_enter Try.func12, Try.ntmps12
  go_wp2_with (go_at_call 20; refine (new_cur _ _ _ _ hcode).mono ?_; rintro e w1 ⟨p, rfl, hp, hc, hB⟩)
  have hg := World.grownBy.refl w1 (some p)
  go_wp2_with (go_at_call 29; refine (hash_from w1 _ p a0 len cap hc hg).mono ?_; rintro e w2 ⟨x, rfl, h1, h2, hc2, hg2⟩)
  go_ret
  exact ⟨_, rfl, h1, h2, hB.grown hg2 hB.size (fun k hk => by cases hk; exact hp)⟩


theorem code_below {w w1 : World} {a0 : Option Addr} {len : Nat} (h : CodeAt w a0 len) (hB : Below w.heap.size w w1) : CodeAt w1 a0 len := by
  refine ⟨h.1, ?_⟩
  rcases h.2 with h0 | ⟨b, off, e, hl, hc⟩
  · exact .inl h0
  · refine .inr ⟨b, off, e, Nat.lt_of_lt_of_le hl hB.size, fun k hk => ?_⟩
    obtain ⟨c, hcell, h1, h2⟩ := hc k hk
    exact ⟨c, by rw [hB.cell hl]; exact hcell, h1, h2⟩
end Go.Proofs.Ytmbmnodfcenjbaa.draw
