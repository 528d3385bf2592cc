/- What the laws of chapter 2 draw, first part: a cursor stays while new memory is written; names; places. -/
import Derived.Test.YtekladbkhplchaaDraw1
namespace Go.Proofs.Ytekladbkhplchaa.draw
open Go.ChangeShapes Go.WideShapes Go.ChangeAt Go.RowKit
set_option linter.unusedVariables false

theorem cur_below {w w' : World} {p : Nat} {a0 : Option Addr} {len cap L : Nat} (h : Cur w p a0 len cap) (hB : Below L w w') (hL : p < L) : Cur w' p a0 len cap := by
  obtain ⟨hp, hcode, hb, i, h, hi, c0, c1, c2, f1, f2⟩ := h
  refine ⟨Nat.lt_of_lt_of_le hp hB.size, ⟨hcode.1, ?_⟩, hb, i, h, hi, ?_, ?_, ?_, ?_, ?_⟩
  · rcases hcode.2 with h0 | ⟨b, off, e, hbs, hcell⟩
    · exact .inl h0
    · rcases hb b off e with h0 | hbp
      · exact .inl h0
      · refine .inr ⟨b, off, e, Nat.lt_of_lt_of_le hbs hB.size, fun k hk => ?_⟩
        obtain ⟨c, hc, h1, h2⟩ := hcell k hk
        exact ⟨c, by rw [hB.cell (by show b < L; omega)]; exact hc, h1, h2⟩
  · rw [hB.cell hL]; exact c0
  · rw [hB.cell hL]; exact c1
  · rw [hB.cell hL]; exact c2
  · rw [hB.frozen hL]; exact f1
  · rw [hB.frozen hL]; exact f2
theorem gb_below {w a b : World} {p L : Nat} (h : w.grownBy a (some p)) (hB : Below L a b) (hL : w.heap.size ≤ L) : w.grownBy b (some p) :=
  ⟨hB.os.trans h.os, hB.tape.trans h.tape, hB.output.trans h.output, Nat.le_trans h.size hB.size, fun k hk hn => (hB.block k (by omega)).trans (h.block k hk hn)⟩

/-- a number drawn as a place in a row of texts that lies new -/
theorem below_names (w0 w : World) (p : Nat) (a0 : Option Addr) (len cap : Nat) (ss : List ByteArray) (t : TypeId) (n : Int) (m : Nat) (hn : n = ss.length) (h1 : 1 ≤ n) (hall : ∀ s ∈ ss, s.size ≤ m) (hc : Cur w p a0 len cap) (hg : w0.grownBy w (some p)) :
    Calls Try.prog 49 #[.pointer (some ⟨p, 0, none⟩), .int .i64 n] (w.alloc (.cells (ss.map Value.string).toArray t)) fun e w' => ∃ (x : Int) (s : ByteArray), e = .returned (.int .i64 x) ∧ 0 ≤ x ∧ x < n ∧ w'.cell? ⟨w.heap.size, x.toNat, none⟩ = some (.string s) ∧ s.size ≤ m ∧ Cur w' p a0 len cap ∧ w0.grownBy w' (some p) := by
  have hp := hc.1
  refine (below_from (w.alloc (.cells (ss.map Value.string).toArray t)) _ p a0 len cap n h1 (cur_alloc hc _) (World.grownBy.refl _ _)).mono ?_
  rintro e w' ⟨x, rfl, g0, g1, hc', hg'⟩
  have hk : x.toNat < ss.length := by omega
  refine ⟨x, ss[x.toNat], rfl, g0, g1, ?_, hall _ (List.getElem_mem hk), hc', gb_trans (gb_alloc hg _) hg'⟩
  rw [gb_cell hg' (by simp) (by omega)]
  simp [hk]

/-- the eight names -/
def names : List ByteArray := [⟨#[97]⟩, ⟨#[98]⟩, ⟨#[99]⟩, ⟨#[100, 100]⟩, ⟨#[101, 49]⟩, ⟨#[102, 45]⟩, ⟨#[103]⟩, ⟨#[104]⟩]
theorem names_small : ∀ s ∈ names, s.size ≤ 2 := by
  intro s hs
  simp only [names, List.mem_cons, List.not_mem_nil, or_false] at hs
  rcases hs with rfl | rfl | rfl | rfl | rfl | rfl | rfl | rfl <;> decide

theorem name_from (w0 w : World) (p : Nat) (a0 : Option Addr) (len cap : Nat) (hc : Cur w p a0 len cap) (hg : w0.grownBy w (some p)) :
    Calls Try.prog 88 #[.pointer (some ⟨p, 0, none⟩)] w fun e w' => ∃ s : ByteArray, e = .returned (.string s) ∧ s.size ≤ 2 ∧ Cur w' p a0 len cap ∧ w0.grownBy w' (some p) := by
  go_enter Try.func88, Try.ntmps88
  go_wp2_with (first | (go_at_call 49; refine (below_names w0 w p a0 len cap names _ 8 2 rfl (by omega) names_small hc hg).mono ?_; rintro e w1 ⟨x, s, rfl, hx0, hx1, hcell, hs, hc1, hg1⟩; obtain ⟨k, hk⟩ : ∃ k : Nat, x = k := ⟨x.toNat, by omega⟩; subst hk; rw [Int.toNat_natCast] at hcell) | (fail))
  go_ret
  exact ⟨s, rfl, hs, hc1, hg1⟩

end Go.Proofs.Ytekladbkhplchaa.draw
