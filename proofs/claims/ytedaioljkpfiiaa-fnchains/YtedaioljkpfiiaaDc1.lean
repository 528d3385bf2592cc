/- What the laws of chapter 3 draw: heaps. -/
import Derived.Test.YtedaioljkpfiiaaDraw1
import Derived.Test.YtedaioljkpfiiaaHd5
import Derived.Test.YtedaioljkpfiiaaCl1
namespace Go.Proofs.Ytedaioljkpfiiaa.draw
open Go.ChangeShapes Go.WideShapes Go.ChangeAt Go.RowKit
open Go.Proofs.Ytedaioljkpfiiaa.ce
set_option linter.unusedVariables false

theorem code_below {w w1 : World} {B : Nat} {a0 : Option Addr} {len p : Nat} (h : CodeAt w a0 len) (hb : ∀ b off, a0 = some ⟨b, off, none⟩ → len = 0 ∨ b < p) (hB : Below B w w1) (hp : p ≤ B) : CodeAt w1 a0 len := by
  refine ⟨h.1, ?_⟩
  rcases h.2 with h0 | ⟨b, off, e, hl, hc⟩
  · exact .inl h0
  rcases hb b off e with h0 | hbp
  · exact .inl h0
  · refine .inr ⟨b, off, e, Nat.lt_of_lt_of_le hl hB.size, fun k hk => ?_⟩
    obtain ⟨c, hcell, h1, h2⟩ := hc k hk
    exact ⟨c, by rw [hB.cell (by show b < B; omega)]; exact hcell, h1, h2⟩
theorem cur_below {w w1 : World} {B p : Nat} {a0 : Option Addr} {len cap : Nat} (h : Cur w p a0 len cap) (hB : Below B w w1) (hp : p < B) : Cur w1 p a0 len cap := by
  obtain ⟨hps, hcode, hb, i, hh, hi, c0, c1, c2, f1, f2⟩ := h
  refine ⟨Nat.lt_of_lt_of_le hps hB.size, code_below hcode hb hB (by omega), hb, i, hh, hi, ?_, ?_, ?_, ?_, ?_⟩
  · rw [hB.cell hp]; exact c0
  · rw [hB.cell hp]; exact c1
  · rw [hB.cell hp]; exact c2
  · rw [hB.frozen hp]; exact f1
  · rw [hB.frozen hp]; exact f2
theorem gb_below {w0 w w1 : World} {B : Nat} {r : Option Nat} (h : w0.grownBy w r) (hB : Below B w w1) (hs : w0.heap.size ≤ B) : w0.grownBy w1 r :=
  ⟨hB.os.trans h.os, hB.tape.trans h.tape, hB.output.trans h.output, Nat.le_trans h.size hB.size, fun k hk hn => (hB.block k (by omega)).trans (h.block k hk hn)⟩

/-- the state in which a heap is being drawn -/
structure Ds (w0 w : World) (p : Nat) (a0 : Option Addr) (len cap : Nat) (v : Value) (H : List C) : Prop where
  own : Own w w0.heap.size w.heap.size v H
  good : good H
  cur : Cur w p a0 len cap
  gb : w0.grownBy w (some p)
  pw : p < w0.heap.size
theorem Ds.drawn {w0 w w' : World} {p : Nat} {a0 : Option Addr} {len cap : Nat} {v : Value} {H : List C} (h : Ds w0 w p a0 len cap v H) (g : w.grownBy w' (some p)) (hc : Cur w' p a0 len cap) : Ds w0 w' p a0 len cap v H :=
  ⟨(h.own.keep fun k h1 h2 => g.block k h2 (fun e => by have := h.pw; cases e; omega)).wide (Nat.le_refl _) g.size, h.good, hc, gb_trans h.gb g, h.pw⟩
theorem Ds.anew {w0 w w' : World} {p : Nat} {a0 : Option Addr} {len cap : Nat} {v v' : Value} {H H' : List C} (h : Ds w0 w p a0 len cap v H) (ow : Own w' w.heap.size w'.heap.size v' H') (hg : ce.good H') (hB : Below w.heap.size w w') : Ds w0 w' p a0 len cap v' H' :=
  ⟨ow.wide h.gb.size (Nat.le_refl _), hg, cur_below h.cur hB h.cur.1, gb_below h.gb hB h.gb.size, h.pw⟩
theorem Ds.within {w0 w w' : World} {p : Nat} {a0 : Option Addr} {len cap : Nat} {v : Value} {H H' : List C} (h : Ds w0 w p a0 len cap v H) (ow : Own w' w0.heap.size w.heap.size v H') (hg : ce.good H') (hW : Within w0.heap.size w.heap.size w w') : Ds w0 w' p a0 len cap v H' := by
  have hB : Below w0.heap.size w w' := hW.below (Nat.le_refl _) h.gb.size
  exact ⟨ow.wide (Nat.le_refl _) hW.size, hg, cur_below h.cur hB h.pw, gb_below h.gb hB (Nat.le_refl _), h.pw⟩
theorem good_new : ce.good [c0] := ⟨by simp, fun c hc => by simp at hc; subst hc; simp [c0]⟩

set_option maxHeartbeats 1000000 in
theorem l3Draw_any (w : World) (p : Nat) (a0 : Option Addr) (len cap : Nat) (hc : Cur w p a0 len cap) :
    Calls Try.prog 46 #[.pointer (some ⟨p, 0, none⟩)] w fun e w' => ∃ v, e = .returned v ∧ ∃ H, Ds w w' p a0 len cap v H := by
  have hp := hc.1
  have HC : Hid (Cur w p a0 len cap) := hc
  clear hc
  go_enter Try.func46, Try.ntmps46
  go_wp2_with (first | (go_at_call 50; refine (specNewHeap_any _).mono ?_; rintro er w1 ⟨v1, rfl, ho1, hB1⟩; have ds1 : Ds w w1 p a0 len cap v1 [c0] := ⟨ho1, good_new, cur_below HC.out hB1 hp, gb_below (World.grownBy.refl _ _) hB1 (Nat.le_refl _), hp⟩) | (go_at_call 40; refine (below_from w1 _ p a0 len cap _ (by omega) ds1.cur (World.grownBy.refl _ _)).mono ?_; rintro er w2 ⟨x, rfl, hx0, hx1, hc2, hg2⟩; have ds2 := ds1.drawn hg2 hc2) | (fail))
  obtain ⟨m0, rfl⟩ : ∃ m : Nat, x = m := ⟨x.toNat, by omega⟩
  go_loopw [3, 4] (fun h n wr => ∃ (m : Nat) (H : List C), m ≤ 5 ∧ n = .int .i64 m ∧ Ds w wr p a0 len cap h H) (fun _ n _ => (intOf n).toNat)
  case atStart => exact ⟨m0, _, by omega, rfl, ds2⟩
  case round =>
    obtain ⟨m, H, hm, rfl, ds⟩ := hrel
    have D : Hid (Ds w wr p a0 len cap u3 H) := ds
    clear ds
    by_cases hpos : 0 < m
    · have hpos' : (0 : Int) < m := by omega
      have m1 : Hid True := trivial
      go_wp2_with (first | (clear m1; go_at_call 40; refine (below_from wr _ p a0 len cap _ (by omega) D.out.cur (World.grownBy.refl _ _)).mono ?_; rintro er w4 ⟨x4, rfl, hx40, hx41, hc4, hg4⟩; have d4 := D.out.drawn hg4 hc4) | (go_at_call 40; refine (below_from w4 _ p a0 len cap _ (by omega) d4.cur (World.grownBy.refl _ _)).mono ?_; rintro er w5 ⟨x5, rfl, hx50, hx51, hc5, hg5⟩; have d5 := d4.drawn hg5 hc5) | (go_at_call 51; refine (l5Alone_any H ⟨1, 1 + x4, x5, 0, -1, -1, -1, 0⟩ _ w5.heap.size _ (Nat.le_refl _) d5.own.rd d5.good ⟨rfl, .inl rfl, ⟨by simp, by simp; omega⟩, ⟨by simp, by simp; omega⟩⟩).mono ?_; rintro er w6 ⟨v6, H6, d6, rfl, ho6, hg6, hB6⟩; have ds6 := d5.anew ho6 hg6 hB6) | (fail))
      go_roundw
      case rel => exact ⟨m - 1, H6, by omega, by congr 1; omega, ds6⟩
      case measure => simp [intOf]; omega
    · have hpos' : ¬ ((0 : Int) < m) := by omega
      obtain ⟨g, cap', rfl, hg1, hg2', -⟩ := D.out.own.form D.out.good.1.1
      have hln := D.out.good.1
      have hl := D.out.own.fit
      go_wp2_with (first | (go_at_call 40; refine (below_from wr _ p a0 len cap _ (by omega) D.out.cur (World.grownBy.refl _ _)).mono ?_; rintro er w4 ⟨x4, rfl, hx40, hx41, hc4, hg4⟩; have d4 := D.out.drawn hg4 hc4) | (fail))
      obtain ⟨n0, rfl⟩ : ∃ n : Nat, x4 = n := ⟨x4.toNat, by omega⟩
      obtain ⟨N, hN⟩ := hid_ex H.length
      rw [hN.out] at d4 ⊢
      have hN1 : 1 ≤ N ∧ N ≤ 40 := by rw [← hN.out]; exact hln
      clear hN hln hl D hm hpos hpos'
      go_loopw [5] (fun n wz => ∃ (k : Nat) (L : List C), k ≤ 2 ∧ n = .int .i64 k ∧ L.length = N ∧ Ds w wz p a0 len cap (.slice (some ⟨g, 0, none⟩) N cap') L) (fun n _ => (intOf n).toNat)
      case atStart => exact ⟨n0, H, by omega, rfl, d4.own.len.symm, d4⟩
      case round =>
        obtain ⟨k, L, hk, rfl, hLN, ds⟩ := hrel
        have D : Hid (Ds w wr p a0 len cap (.slice (some ⟨g, 0, none⟩) N cap') L) := ds
        have HL : Hid (L.length = N) := hLN
        clear ds hLN
        by_cases hpos : 0 < k
        · have hpos' : (0 : Int) < k := by omega
          have m1 : Hid True := trivial
          have m2 : Hid True := trivial
          go_wp2_with (first | (clear m1; go_at_call 40; refine (below_from wr _ p a0 len cap _ (by omega) D.out.cur (World.grownBy.refl _ _)).mono ?_; rintro er w5 ⟨x5, rfl, hx50, hx51, hc5, hg5⟩; have d5 := D.out.drawn hg5 hc5) | (clear m2; go_at_call 52; refine (l3Strike_any L x5 (-1) _ w.heap.size w5.heap.size _ d5.own (by rw [HL.out]; omega)).mono ?_; rintro er w6 ⟨rfl, ho6, hW6⟩; have d6 := d5.within ho6 (good_strike1 d5.good _ _) hW6) | (go_at_call 40; refine (below_from w6 _ p a0 len cap _ (by omega) d6.cur (World.grownBy.refl _ _)).mono ?_; rintro er w7 ⟨x7, rfl, hx70, hx71, hc7, hg7⟩; have d7 := d6.drawn hg7 hc7; obtain ⟨i, rfl⟩ : ∃ i : Nat, x7 = i := ⟨x7.toNat, by omega⟩; have hi7 : i < (strike1 L x5 (-1)).length := (by rw [strike1_len, HL.out]; omega); obtain ⟨-, -, y2, -⟩ := d7.own.cell i hi7; have hiN : (i : Int) < N := hx71) | (go_at_call 52; refine (l3Strike_any (strike1 L x5 (-1)) (i : Int) _ _ w.heap.size w7.heap.size _ d7.own (by rw [strike1_len, HL.out]; omega)).mono ?_; rintro er w8 ⟨rfl, ho8, hW8⟩; have d8 := d7.within ho8 (good_strike1 d7.good _ _) hW8) | (fail))
          go_roundw
          case rel => exact ⟨k - 1, _, by omega, by congr 1; omega, by rw [strike1_len, strike1_len, HL.out], d8⟩
          case measure => simp [intOf]; omega
        · have hpos' : ¬ ((0 : Int) < k) := by omega
          go_wp2
          go_ret
          exact ⟨_, rfl, L, D.out⟩

end Go.Proofs.Ytedaioljkpfiiaa.draw
