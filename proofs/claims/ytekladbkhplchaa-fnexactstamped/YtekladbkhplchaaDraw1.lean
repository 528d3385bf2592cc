/- Contracts of the model's drawing functions: whatever the bytes, each call returns a number within its bounds, writes to the cursor's own block alone, and leaves the cursor well formed. -/
import Derived.Test.YtekladbkhplchaaRows
import Derived.WalkKit
import Derived.ProofKit
import Derived.OpenShut
import Derived.Below
import Derived.OwnWalk
import Derived.Deep.QuietTactic
import Derived.BigQuiet
namespace Go.Proofs.Ytekladbkhplchaa.draw
open Go.ChangeShapes Go.WideShapes Go.ChangeAt Go.RowKit
set_option linter.unusedVariables false

/-- the bytes of the code, as they lie in memory -/
def CodeAt (w : World) (a0 : Option Addr) (len : Nat) : Prop :=
  len ≤ 9223372036854775806 ∧ (len = 0 ∨ ∃ b off, a0 = some ⟨b, off, none⟩ ∧ b < w.heap.size ∧ ∀ k, k < len → ∃ c : Int, w.cell? ⟨b, off + k, none⟩ = some (.int .u8 c) ∧ 0 ≤ c ∧ c ≤ 255)

/-- a cursor over the code lies in block p -/
def Cur (w : World) (p : Nat) (a0 : Option Addr) (len cap : Nat) : Prop :=
  p < w.heap.size ∧ CodeAt w a0 len ∧ (∀ b off, a0 = some ⟨b, off, none⟩ → len = 0 ∨ b < p) ∧
  ∃ (i : Nat) (h : Int), i ≤ len ∧ w.cell? ⟨p, 0, none⟩ = some (.slice a0 len cap) ∧ w.cell? ⟨p, 1, none⟩ = some (.int .i64 i) ∧ w.cell? ⟨p, 2, none⟩ = some (.int .i64 h) ∧
    w.frozen? ⟨p, 1, none⟩ = false ∧ w.frozen? ⟨p, 2, none⟩ = false

theorem gb_set (w : World) (a : Addr) (v : Value) : w.grownBy (w.setCell a v) (some a.block) :=
  ⟨rfl, rfl, rfl, by simp, fun k hk hne => Below.heap_setCell _ _ _ _ (fun h => hne (by rw [h]))⟩
theorem gb_drewN {w w' : World} {r : Option Nat} (h : w.grownBy w' r) (n : Nat) : w.grownBy (w'.drewN n) r := ⟨h.os, h.tape, h.output, h.size, h.block⟩
theorem gb_trans {w w1 w2 : World} {r : Option Nat} (h : w.grownBy w1 r) (k : w1.grownBy w2 r) : w.grownBy w2 r :=
  ⟨k.os.trans h.os, k.tape.trans h.tape, k.output.trans h.output, Nat.le_trans h.size k.size, fun i hi hn => (k.block i (Nat.lt_of_lt_of_le hi h.size) hn).trans (h.block i hi hn)⟩
theorem gb_cell {w w' : World} {p : Nat} (h : w.grownBy w' (some p)) {b : Nat} (hb : b < w.heap.size) (hne : b ≠ p) (o : Nat) : w'.cell? ⟨b, o, none⟩ = w.cell? ⟨b, o, none⟩ :=
  World.cell?_of_block (h.block b hb (fun e => hne (by cases e; rfl)))

theorem code_kept {w w' : World} {a0 : Option Addr} {len p : Nat} (h : CodeAt w a0 len) (hb : ∀ b off, a0 = some ⟨b, off, none⟩ → len = 0 ∨ b < p) (g : w.grownBy w' (some p)) : CodeAt w' a0 len := by
  refine ⟨h.1, ?_⟩
  rcases h.2 with h0 | ⟨b, off, e, hl, hc⟩
  · exact .inl h0
  rcases hb b off e with h0 | hbp
  · exact .inl h0
  · refine .inr ⟨b, off, e, Nat.lt_of_lt_of_le hl g.size, fun k hk => ?_⟩
    obtain ⟨c, hcell, h1, h2⟩ := hc k hk
    exact ⟨c, by rw [gb_cell g hl (by omega)]; exact hcell, h1, h2⟩

/-- a low byte, whatever number it is taken of -/
theorem and255 (x : Int) : 0 ≤ bits .and .i64 x 255 ∧ bits .and .i64 x 255 ≤ 255 := by
  have h : bits .and .i64 x 255 = IntKind.i64.wrap (((BitVec.ofInt 64 x).toNat &&& 255 : Nat) : Int) := by
    unfold bits
    simp only [BitVec.toNat_and]
    rfl
  have g : (BitVec.ofInt 64 x).toNat &&& 255 ≤ 255 := Nat.and_le_right
  rw [h, IntKind.wrap_i64]
  omega

set_option maxHeartbeats 1000000 in
theorem byte_end (w : World) (p : Nat) (a0 : Option Addr) (len cap i : Nat) (h : Int) (hi : ¬ i < len)
    (c0 : w.cell? ⟨p, 0, none⟩ = some (.slice a0 len cap)) (c1 : w.cell? ⟨p, 1, none⟩ = some (.int .i64 i)) (c2 : w.cell? ⟨p, 2, none⟩ = some (.int .i64 h))
    (f1 : w.frozen? ⟨p, 1, none⟩ = false) (f2 : w.frozen? ⟨p, 2, none⟩ = false) :
    Calls Try.prog 72 #[.pointer (some ⟨p, 0, none⟩)] w fun e w' => ∃ x h' : Int, e = .returned (.int .i64 x) ∧ 0 ≤ x ∧ x ≤ 255 ∧ ∃ n, w' = (w.setCell ⟨p, 2, none⟩ (.int .i64 h')).drewN n := by
  go_enter Try.func72, Try.ntmps72
  go_wp2
  go_quiet (fail)
  go_wp2
  go_quiet (fail)
  go_wp2
  go_ret
  exact ⟨_, wrap64 (wrap64 (h * 6364136223846793005) + 1442695040888963407), rfl, (and255 _).1, (and255 _).2, _, World.drewN_drewN _ _ _⟩

set_option maxHeartbeats 1000000 in
theorem byte_in (w : World) (p b off : Nat) (len cap i : Nat) (h c : Int) (hi : i < len) (hl : len ≤ 9223372036854775806) (hbp : b < p)
    (c0 : w.cell? ⟨p, 0, none⟩ = some (.slice (some ⟨b, off, none⟩) len cap)) (c1 : w.cell? ⟨p, 1, none⟩ = some (.int .i64 i)) (c2 : w.cell? ⟨p, 2, none⟩ = some (.int .i64 h))
    (f1 : w.frozen? ⟨p, 1, none⟩ = false) (f2 : w.frozen? ⟨p, 2, none⟩ = false) (hc : w.cell? ⟨b, off + i, none⟩ = some (.int .u8 c)) (h1 : 0 ≤ c) (h2 : c ≤ 255) :
    Calls Try.prog 72 #[.pointer (some ⟨p, 0, none⟩)] w fun e w' => ∃ x h' : Int, e = .returned (.int .i64 x) ∧ 0 ≤ x ∧ x ≤ 255 ∧ ∃ n, w' = ((w.setCell ⟨p, 2, none⟩ (.int .i64 h')).drewN n).setCell ⟨p, 1, none⟩ (.int .i64 ((i : Int) + 1)) := by
  have hlt : (i : Int) < (len : Int) := by omega
  have hne : b ≠ p := by omega
  have hnp : p ≠ b := by omega
  go_enter Try.func72, Try.ntmps72
  go_wp2
  go_quiet (fail)
  go_wp2
  go_quiet (fail)
  go_wp2
  go_quiet (fail)
  go_wp2
  go_ret
  exact ⟨_, wrap64 (wrap64 (h * 6364136223846793005) + 1442695040888963407), rfl, (and255 _).1, (and255 _).2, _, rfl⟩

theorem byte_any (w : World) (p : Nat) (a0 : Option Addr) (len cap : Nat) (hc : Cur w p a0 len cap) :
    Calls Try.prog 72 #[.pointer (some ⟨p, 0, none⟩)] w fun e w' => ∃ x : Int, e = .returned (.int .i64 x) ∧ 0 ≤ x ∧ x ≤ 255 ∧ Cur w' p a0 len cap ∧ w.grownBy w' (some p) := by
  obtain ⟨hp, hcode, hb, i, h, hi, c0, c1, c2, f1, f2⟩ := hc
  by_cases hlt : i < len
  · rcases hcode.2 with h0 | ⟨b, off, rfl, hbs, hcell⟩
    · omega
    obtain ⟨c, hc, h1, h2⟩ := hcell i hlt
    have hbp : b < p := by have := hb b off rfl; omega
    refine (byte_in w p b off len cap i h c hlt hcode.1 hbp c0 c1 c2 f1 f2 hc h1 h2).mono ?_
    rintro e w' ⟨x, h', rfl, g1, g2, n, rfl⟩
    have g0 : w.grownBy ((w.setCell ⟨p, 2, none⟩ (.int .i64 h')).drewN n) (some p) := gb_drewN (gb_set w ⟨p, 2, none⟩ (.int .i64 h')) n
    have g3 : ((w.setCell ⟨p, 2, none⟩ (.int .i64 h')).drewN n).grownBy (((w.setCell ⟨p, 2, none⟩ (.int .i64 h')).drewN n).setCell ⟨p, 1, none⟩ (.int .i64 ((i : Int) + 1))) (some p) := gb_set _ ⟨p, 1, none⟩ _
    have hg := gb_trans g0 g3
    refine ⟨x, rfl, g1, g2, ⟨Nat.lt_of_lt_of_le hp hg.size, code_kept hcode hb hg, hb, i + 1, h', by omega, ?_, ?_, ?_, ?_, ?_⟩, hg⟩
    · rw [World.cell?_setCell_other _ _ _ _ (by simp), World.cell?_drewN, World.cell?_setCell_other _ _ _ _ (by simp)]; exact c0
    · exact World.cell?_setCell_same _ _ _ (u := .int .i64 i) (by rw [World.cell?_drewN, World.cell?_setCell_other _ _ _ _ (by simp)]; exact c1)
    · rw [World.cell?_setCell_other _ _ _ _ (by simp), World.cell?_drewN]; exact World.cell?_setCell_same _ _ _ c2
    · rw [World.frozen?_setCell, World.frozen?_drewN, World.frozen?_setCell]; exact f1
    · rw [World.frozen?_setCell, World.frozen?_drewN, World.frozen?_setCell]; exact f2
  · refine (byte_end w p a0 len cap i h hlt c0 c1 c2 f1 f2).mono ?_
    rintro e w' ⟨x, h', rfl, g1, g2, n, rfl⟩
    have hg : w.grownBy ((w.setCell ⟨p, 2, none⟩ (.int .i64 h')).drewN n) (some p) := gb_drewN (gb_set w ⟨p, 2, none⟩ (.int .i64 h')) n
    refine ⟨x, rfl, g1, g2, ⟨Nat.lt_of_lt_of_le hp hg.size, code_kept hcode hb hg, hb, i, h', hi, ?_, ?_, ?_, ?_, ?_⟩, hg⟩
    · rw [World.cell?_drewN, World.cell?_setCell_other _ _ _ _ (by simp)]; exact c0
    · rw [World.cell?_drewN, World.cell?_setCell_other _ _ _ _ (by simp)]; exact c1
    · rw [World.cell?_drewN]; exact World.cell?_setCell_same _ _ _ c2
    · rw [World.frozen?_drewN, World.frozen?_setCell]; exact f1
    · rw [World.frozen?_drewN, World.frozen?_setCell]; exact f2

theorem byte_from (w0 w : World) (p : Nat) (a0 : Option Addr) (len cap : Nat) (hc : Cur w p a0 len cap) (hg : w0.grownBy w (some p)) :
    Calls Try.prog 72 #[.pointer (some ⟨p, 0, none⟩)] w fun e w' => ∃ x : Int, e = .returned (.int .i64 x) ∧ 0 ≤ x ∧ x ≤ 255 ∧ Cur w' p a0 len cap ∧ w0.grownBy w' (some p) :=
  (byte_any w p a0 len cap hc).mono fun e w' ⟨x, h1, h2, h3, h4, h5⟩ => ⟨x, h1, h2, h3, h4, gb_trans hg h5⟩

set_option maxHeartbeats 1000000 in
theorem below_from (w0 w : World) (p : Nat) (a0 : Option Addr) (len cap : Nat) (n : Int) (hn : 1 ≤ n) (hc : Cur w p a0 len cap) (hg : w0.grownBy w (some p)) :
    Calls Try.prog 49 #[.pointer (some ⟨p, 0, none⟩), .int .i64 n] w fun e w' => ∃ x : Int, e = .returned (.int .i64 x) ∧ 0 ≤ x ∧ x < n ∧ Cur w' p a0 len cap ∧ w0.grownBy w' (some p) := by
  by_cases h : n ≤ 256
  · go_enter Try.func49, Try.ntmps49
    go_wp2_with (go_at_call 72; refine (byte_from w0 _ p a0 len cap (by assumption) (by assumption)).mono ?_; rintro e w1 ⟨x, rfl, hx0, hx1, hc1, hg1⟩)
    go_ret
    exact ⟨_, rfl, Int.emod_nonneg _ (by omega), Int.emod_lt_of_pos _ (by omega), by assumption, by assumption⟩
  · go_enter Try.func49, Try.ntmps49
    go_wp2_with (go_at_call 72; refine (byte_from w0 _ p a0 len cap (by assumption) (by assumption)).mono ?_; rintro e w1 ⟨x, rfl, hx0, hx1, hc1, hg1⟩)
    go_ret
    exact ⟨_, rfl, Int.emod_nonneg _ (by omega), Int.emod_lt_of_pos _ (by omega), by assumption, by assumption⟩

theorem once_from (w0 w : World) (p : Nat) (a0 : Option Addr) (len cap : Nat) (n : Int) (hn : 1 ≤ n) (hc : Cur w p a0 len cap) (hg : w0.grownBy w (some p)) :
    Calls Try.prog 71 #[.pointer (some ⟨p, 0, none⟩), .int .i64 n] w fun e w' => ∃ x : Bool, e = .returned (.bool x) ∧ Cur w' p a0 len cap ∧ w0.grownBy w' (some p) := by
  go_enter Try.func71, Try.ntmps71
  go_wp2_with (go_at_call 49; refine (below_from w0 _ p a0 len cap _ hn (by assumption) (by assumption)).mono ?_; rintro e w1 ⟨x, rfl, hx0, hx1, hc1, hg1⟩)
  go_ret
  exact ⟨_, rfl, by assumption, by assumption⟩

/-! ### a new cursor -/
theorem new_any (w : World) (a0 : Option Addr) (len cap : Nat) (hcode : CodeAt w a0 len) :
    Calls Try.prog 47 #[.slice a0 len cap] w fun e w' => ∃ h : Int, e = .returned (.pointer (some ⟨w.heap.size, 0, none⟩)) ∧ w' = w.alloc (.cells #[.slice a0 len cap, .int .i64 0, .int .i64 h] 92) := by
  have hl := hcode.1
  go_enter Try.func47, Try.ntmps47
  go_wp2
  go_loop [3, 4] (fun o i => ∃ (k : Nat) (z : Int), k ≤ len ∧ i = .int .i64 k ∧ o = .int .i64 z) (fun _ i => len - (intOf i).toNat)
  case atStart => exact ⟨0, _, Nat.zero_le _, rfl, rfl⟩
  case round =>
    obtain ⟨k, z, hk, rfl, rfl⟩ := hrel
    by_cases hlt : k < len
    · rcases hcode.2 with h0 | ⟨b, off, rfl, hbs, hcell⟩
      · omega
      obtain ⟨c, hc, h1, h2⟩ := hcell k hlt
      clear hcell hcode
      have hlt' : (k : Int) < (len : Int) := by omega
      go_wp2
      go_round
      case rel => exact ⟨k + 1, _, by omega, by go_num, rfl⟩
      case measure => simp [intOf]; omega
    · go_wp2
      go_ret
      exact ⟨rfl, z, rfl⟩

theorem new_cur (w : World) (a0 : Option Addr) (len cap : Nat) (hcode : CodeAt w a0 len) :
    Calls Try.prog 47 #[.slice a0 len cap] w fun e w' => ∃ p : Nat, e = .returned (.pointer (some ⟨p, 0, none⟩)) ∧ w.heap.size ≤ p ∧ Cur w' p a0 len cap ∧ Below w.heap.size w w' := by
  refine (new_any w a0 len cap hcode).mono ?_
  rintro e w' ⟨h, rfl, rfl⟩
  have hb : Below w.heap.size w (w.alloc (.cells #[.slice a0 len cap, .int .i64 0, .int .i64 h] 92)) := (Below.refl _ _).alloc (Nat.le_refl _) _
  refine ⟨w.heap.size, rfl, Nat.le_refl _, ⟨by simp, ⟨hcode.1, ?_⟩, ?_, 0, h, Nat.zero_le _, by simp, by simp, by simp, by simp, by simp⟩, hb⟩
  · rcases hcode.2 with h0 | ⟨b, off, rfl, hbs, hcell⟩
    · exact .inl h0
    · refine .inr ⟨b, off, rfl, by simp; omega, fun k hk => ?_⟩
      obtain ⟨c, hc, h1, h2⟩ := hcell k hk
      exact ⟨c, by rw [hb.cell hbs]; exact hc, h1, h2⟩
  · intro b off e
    rcases hcode.2 with h0 | ⟨b', off', e', hbs, hcell⟩
    · exact .inl h0
    · rw [e'] at e; cases e; exact .inr hbs

/-! ### what chapter 1's laws draw -/
theorem cur_alloc {w : World} {p : Nat} {a0 : Option Addr} {len cap : Nat} (h : Cur w p a0 len cap) (o : Obj) : Cur (w.alloc o) p a0 len cap := by
  obtain ⟨hp, hcode, hb, i, h, hi, c0, c1, c2, f1, f2⟩ := h
  have hB : Below w.heap.size w (w.alloc o) := (Below.refl _ _).alloc (Nat.le_refl _) _
  refine ⟨by simp; omega, ⟨hcode.1, ?_⟩, hb, i, h, hi, ?_, ?_, ?_, ?_, ?_⟩
  · rcases hcode.2 with h0 | ⟨b, off, rfl, hbs, hcell⟩
    · exact .inl h0
    · refine .inr ⟨b, off, rfl, by simp; omega, fun k hk => ?_⟩
      obtain ⟨c, hc, h1, h2⟩ := hcell k hk
      exact ⟨c, by rw [hB.cell hbs]; exact hc, h1, h2⟩
  · rw [hB.cell hp]; exact c0
  · rw [hB.cell hp]; exact c1
  · rw [hB.cell hp]; exact c2
  · rw [hB.frozen hp]; exact f1
  · rw [hB.frozen hp]; exact f2
theorem cur_drewN {w : World} {p : Nat} {a0 : Option Addr} {len cap : Nat} (h : Cur w p a0 len cap) (n : Nat) : Cur (w.drewN n) p a0 len cap := h
theorem gb_alloc {w w' : World} {r : Option Nat} (h : w.grownBy w' r) (o : Obj) : w.grownBy (w'.alloc o) r :=
  ⟨h.os, h.tape, h.output, Nat.le_trans h.size (by simp), fun k hk hn => (Below.heap_alloc _ _ _ (Nat.lt_of_lt_of_le hk h.size)).trans (h.block k hk hn)⟩


/-- a number drawn as a place in a row of numbers that lies new -/
theorem below_lit (w0 w : World) (p : Nat) (a0 : Option Addr) (len cap : Nat) (xs : List Int) (t : TypeId) (n lo hi : Int) (hn : n = xs.length) (h1 : 1 ≤ n) (hall : ∀ x ∈ xs, lo ≤ x ∧ x ≤ hi) (hc : Cur w p a0 len cap) (hg : w0.grownBy w (some p)) :
    Calls Try.prog 49 #[.pointer (some ⟨p, 0, none⟩), .int .i64 n] (w.alloc (.cells (xs.map (Value.int .i64)).toArray t)) fun e w' => ∃ x v : Int, e = .returned (.int .i64 x) ∧ 0 ≤ x ∧ x < n ∧ w'.cell? ⟨w.heap.size, x.toNat, none⟩ = some (.int .i64 v) ∧ lo ≤ v ∧ v ≤ hi ∧ Cur w' p a0 len cap ∧ w0.grownBy w' (some p) := by
  have hp := hc.1
  refine (below_from (w.alloc (.cells (xs.map (Value.int .i64)).toArray t)) _ p a0 len cap n h1 (cur_alloc hc _) (World.grownBy.refl _ _)).mono ?_
  rintro e w' ⟨x, rfl, g0, g1, hc', hg'⟩
  have hk : x.toNat < xs.length := by omega
  refine ⟨x, xs[x.toNat], rfl, g0, g1, ?_, (hall _ (List.getElem_mem hk)).1, (hall _ (List.getElem_mem hk)).2, hc', gb_trans (gb_alloc hg _) hg'⟩
  rw [gb_cell hg' (by simp) (by omega)]
  simp [hk]
end Go.Proofs.Ytekladbkhplchaa.draw
