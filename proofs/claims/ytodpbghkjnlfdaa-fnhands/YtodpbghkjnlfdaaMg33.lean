/- Texts laid together: Hd5 Dc1 Dc2 Hw1 Hw2 Dw1 Cw0 Dw2. -/
import Derived.Test.YtodpbghkjnlfdaaHd4
import Derived.Test.YtodpbghkjnlfdaaMg04
import Derived.Test.YtodpbghkjnlfdaaMg30
import Derived.Test.YtodpbghkjnlfdaaMg21
import Derived.Test.YtodpbghkjnlfdaaMg19
/- Contract of l5Alone for a hand that puts. -/
namespace Go.Proofs.Ytodpbghkjnlfdaa.ce
open Go.ChangeShapes Go.WideShapes Go.ChangeAt Go.RowKit
set_option linter.unusedVariables false

set_option maxHeartbeats 1000000 in
theorem l5Alone_any (H : List C) (d : Hd) (v : Value) (hi : Nat) (w : World) (hh : hi ≤ w.heap.size) (r : Rd w hi v H) (hgood : good H) (hfits : Fits H.length d) :
    Calls Try.prog 50 #[v, .agg (hv d).toArray] w fun e w' => ∃ v' H' d', e = .returned (.tuple #[v', .agg (hv d').toArray]) ∧ Own w' w.heap.size w'.heap.size v' H' ∧ good H' ∧ Below w.heap.size w w' := by
  obtain ⟨a, cap, rfl⟩ := r.form
  have R : Hid (Rd w hi (.slice a H.length cap) H) := r
  have GD : Hid (good H) := hgood
  have FT : Hid (Fits H.length d) := hfits
  have h1 := hgood.1.1
  have h2 : H.length ≤ 1048576 := by have := hgood.1.2; omega
  clear r hgood hfits
  go_enter Try.func50, Try.ntmps50
  go_wp2_with (first | (refine wpList_box_v rfl 29 _ rfl (hv d) rfl ?_; intro b3 w1 hb3 hw1 hB1 hV1) | (refine wpList_alloc_v rfl 29 rfl _ zeroH ?_; intro b5 w2 hb5 hw2 hB2 hV2) | (go_at_call 48; refine (l3Copy_any H _ hi _ (by have := hB1.size; have := hB2.size; omega) ((R.out.below hB1 hh).below hB2 (by have := hB1.size; omega)) h1 h2).mono ?_; rintro er w3 ⟨v3, rfl, hO3, hB3⟩) | (fail))
  have z1 := hB1.size
  have z2 := hB2.size
  have z3 := hB3.size
  have mo3 : Mo w3 w2.heap.size b3 v3 H d := ⟨hO3, ⟨(hV1.below hB2 hw1).below hB3 (by omega)⟩, by omega, z3, GD.out, FT.out⟩
  have hV5 := hV2.below hB3 hw2
  go_loopw [6, 7] (fun v' n wr => ∃ (m : Nat) (H' : List C) (d' : Hd), m ≤ 400 ∧ n = .int .i64 m ∧ Mo wr w2.heap.size b3 v' H' d' ∧ Mv w2.heap.size b3 w3 wr) (fun _ n _ => 400 - (intOf n).toNat)
  case atStart => exact ⟨0, H, d, by omega, rfl, mo3, Mv.refl _ _ _⟩
  case round =>
    obtain ⟨m, H', d', hm, rfl, mo, mv⟩ := hrel
    obtain ⟨k, x, y, s, l, e, o, t⟩ := d'
    obtain ⟨c0, c1, c2, c3, c4, c5, c6, c7⟩ := mo.hand.cells
    have hb35 : b5 ≠ b3 := by omega
    have hV6 := hV5.of (mv.block b5 hw2 hb35)
    have hB6 : HB wr b5 ⟨0, 0, 0, 0, 0, 0, 0, 0⟩ := ⟨hV6⟩
    obtain ⟨q0, q1, q2, q3, q4, q5, q6, q7⟩ := hB6.cells
    obtain ⟨g0, g1, g2, g3, g4, g5, g6, g7⟩ := hB6.fz
    have HB6 : Hid (HB wr b5 ⟨0, 0, 0, 0, 0, 0, 0, 0⟩) := hB6
    clear hB6 hV6
    have M : Hid (Mo wr w2.heap.size b3 u6 H' ⟨k, x, y, s, l, e, o, t⟩) := mo
    have MV : Hid (Mv w2.heap.size b3 w3 wr) := mv
    clear mo mv
    by_cases hlt : m < 400
    · have hlt' : (m : Int) < 400 := by omega
      by_cases h5 : s = 5
      · subst h5
        go_wp2
        have S0 : wr.drew.cell? ⟨b3, 0, none⟩ = some (.int .i64 k) ∧ wr.drew.cell? ⟨b3, 1, none⟩ = some (.int .i64 x) ∧ wr.drew.cell? ⟨b3, 2, none⟩ = some (.int .i64 y) ∧ wr.drew.cell? ⟨b3, 3, none⟩ = some (.int .i64 5) ∧ wr.drew.cell? ⟨b3, 4, none⟩ = some (.int .i64 l) ∧ wr.drew.cell? ⟨b3, 5, none⟩ = some (.int .i64 e) ∧ wr.drew.cell? ⟨b3, 6, none⟩ = some (.int .i64 o) ∧ wr.drew.cell? ⟨b3, 7, none⟩ = some (.int .i64 t) := ⟨c0, c1, c2, c3, c4, c5, c6, c7⟩
        go_region
        go_wp2
        obtain ⟨hb8, hO8⟩ := fill8 HB6.out k x y 5 l e o t
        refine row_tmp_cell rfl rfl rfl hb8.blk Try.underlying29 sizeH rfl ⟨_, H', ⟨k, x, y, 5, l, e, o, t⟩, rfl, (M.out.own.only hO8 hw2).wide (by omega) (Nat.le_of_eq hO8.1.symm), M.out.good, ?_⟩
        exact (((hB1.trans (hB2.mono z1)).trans (hB3.mono (by omega))).trans (MV.out.below (by omega) (by omega))).trans (hO8.2.2 _ (by omega))
      · have f5 : (s == 5) = false := by simpa using h5
        have f5' : (s != 5) = true := by simpa using h5
        go_wp2_with (first | (go_at_call 47; refine (l5Move_any H' _ _ w2.heap.size b3 _ M.out h5).mono ?_; rintro er w4 ⟨v4, H4, d4, rfl, m4, mv4⟩) | (fail))
        go_roundw
        case rel => exact ⟨m + 1, H4, d4, by omega, by go_num, m4, MV.out.trans mv4⟩
        case measure => simp [intOf]; omega
    · have hlt' : ¬ ((m : Int) < 400) := by omega
      go_wp2
      have S0 : wr.drew.cell? ⟨b3, 0, none⟩ = some (.int .i64 k) ∧ wr.drew.cell? ⟨b3, 1, none⟩ = some (.int .i64 x) ∧ wr.drew.cell? ⟨b3, 2, none⟩ = some (.int .i64 y) ∧ wr.drew.cell? ⟨b3, 3, none⟩ = some (.int .i64 s) ∧ wr.drew.cell? ⟨b3, 4, none⟩ = some (.int .i64 l) ∧ wr.drew.cell? ⟨b3, 5, none⟩ = some (.int .i64 e) ∧ wr.drew.cell? ⟨b3, 6, none⟩ = some (.int .i64 o) ∧ wr.drew.cell? ⟨b3, 7, none⟩ = some (.int .i64 t) := ⟨c0, c1, c2, c3, c4, c5, c6, c7⟩
      go_region
      go_wp2
      obtain ⟨hb8, hO8⟩ := fill8 HB6.out k x y s l e o t
      refine row_tmp_cell rfl rfl rfl hb8.blk Try.underlying29 sizeH rfl ⟨_, H', ⟨k, x, y, s, l, e, o, t⟩, rfl, (M.out.own.only hO8 hw2).wide (by omega) (Nat.le_of_eq hO8.1.symm), M.out.good, ?_⟩
      exact (((hB1.trans (hB2.mono z1)).trans (hB3.mono (by omega))).trans (MV.out.below (by omega) (by omega))).trans (hO8.2.2 _ (by omega))

end Go.Proofs.Ytodpbghkjnlfdaa.ce
/- What the laws of chapter 3 draw: heaps. -/
namespace Go.Proofs.Ytodpbghkjnlfdaa.draw
open Go.ChangeShapes Go.WideShapes Go.ChangeAt Go.RowKit
open Go.Proofs.Ytodpbghkjnlfdaa.ce
set_option linter.unusedVariables false

theorem code_below {w w1 : World} {B : Nat} {a0 : Option Addr} {len p : Nat} (h : CodeAt w a0 len) (hb : ∀ b off, a0 = some ⟨b, off, none⟩ → len = 0 ∨ b < p) (hB : Below B w w1) (hp : p ≤ B) : CodeAt w1 a0 len := by
  refine ⟨h.1, ?_⟩
  rcases h.2 with h0 | ⟨b, off, e, hl, hc⟩
  · exact .inl h0
  rcases hb b off e with h0 | hbp
  · exact .inl h0
  · refine .inr ⟨b, off, e, Nat.lt_of_lt_of_le hl hB.size, fun k hk => ?_⟩
    obtain ⟨c, hcell, h1, h2⟩ := hc k hk
    exact ⟨c, by rw [hB.cell (by show b < B; omega)]; exact hcell, h1, h2⟩
theorem cur_below {w w1 : World} {B p : Nat} {a0 : Option Addr} {len cap : Nat} (h : Cur w p a0 len cap) (hB : Below B w w1) (hp : p < B) : Cur w1 p a0 len cap := by
  obtain ⟨hps, hcode, hb, i, hh, hi, c0, c1, c2, f1, f2⟩ := h
  refine ⟨Nat.lt_of_lt_of_le hps hB.size, code_below hcode hb hB (by omega), hb, i, hh, hi, ?_, ?_, ?_, ?_, ?_⟩
  · rw [hB.cell hp]; exact c0
  · rw [hB.cell hp]; exact c1
  · rw [hB.cell hp]; exact c2
  · rw [hB.frozen hp]; exact f1
  · rw [hB.frozen hp]; exact f2
theorem gb_below {w0 w w1 : World} {B : Nat} {r : Option Nat} (h : w0.grownBy w r) (hB : Below B w w1) (hs : w0.heap.size ≤ B) : w0.grownBy w1 r :=
  ⟨hB.os.trans h.os, hB.tape.trans h.tape, hB.output.trans h.output, Nat.le_trans h.size hB.size, fun k hk hn => (hB.block k (by omega)).trans (h.block k hk hn)⟩

/-- the state in which a heap is being drawn -/
structure Ds (w0 w : World) (p : Nat) (a0 : Option Addr) (len cap : Nat) (v : Value) (H : List C) : Prop where
  own : ce.Own w w0.heap.size w.heap.size v H
  good : good H
  cur : Cur w p a0 len cap
  gb : w0.grownBy w (some p)
  pw : p < w0.heap.size
theorem Ds.drawn {w0 w w' : World} {p : Nat} {a0 : Option Addr} {len cap : Nat} {v : Value} {H : List C} (h : Ds w0 w p a0 len cap v H) (g : w.grownBy w' (some p)) (hc : Cur w' p a0 len cap) : Ds w0 w' p a0 len cap v H :=
  ⟨(h.own.keep fun k h1 h2 => g.block k h2 (fun e => by have := h.pw; cases e; omega)).wide (Nat.le_refl _) g.size, h.good, hc, gb_trans h.gb g, h.pw⟩
theorem Ds.anew {w0 w w' : World} {p : Nat} {a0 : Option Addr} {len cap : Nat} {v v' : Value} {H H' : List C} (h : Ds w0 w p a0 len cap v H) (ow : ce.Own w' w.heap.size w'.heap.size v' H') (hg : ce.good H') (hB : Below w.heap.size w w') : Ds w0 w' p a0 len cap v' H' :=
  ⟨ow.wide h.gb.size (Nat.le_refl _), hg, cur_below h.cur hB h.cur.1, gb_below h.gb hB h.gb.size, h.pw⟩
theorem Ds.within {w0 w w' : World} {p : Nat} {a0 : Option Addr} {len cap : Nat} {v : Value} {H H' : List C} (h : Ds w0 w p a0 len cap v H) (ow : ce.Own w' w0.heap.size w.heap.size v H') (hg : ce.good H') (hW : Within w0.heap.size w.heap.size w w') : Ds w0 w' p a0 len cap v H' := by
  have hB : Below w0.heap.size w w' := hW.below (Nat.le_refl _) h.gb.size
  exact ⟨ow.wide (Nat.le_refl _) hW.size, hg, cur_below h.cur hB h.pw, gb_below h.gb hB (Nat.le_refl _), h.pw⟩
theorem good_new : ce.good [c0] := ⟨by simp, fun c hc => by simp at hc; subst hc; simp [c0]⟩

set_option maxHeartbeats 1000000 in
theorem l3Draw_any (w : World) (p : Nat) (a0 : Option Addr) (len cap : Nat) (hc : Cur w p a0 len cap) :
    Calls Try.prog 89 #[.pointer (some ⟨p, 0, none⟩)] w fun e w' => ∃ v, e = .returned v ∧ ∃ H, Ds w w' p a0 len cap v H := by
  have hp := hc.1
  have HC : Hid (Cur w p a0 len cap) := hc
  clear hc
  go_enter Try.func89, Try.ntmps89
  go_wp2_with (first | (go_at_call 45; refine (specNewHeap_any _).mono ?_; rintro er w1 ⟨v1, rfl, ho1, hB1⟩; have ds1 : Ds w w1 p a0 len cap v1 [c0] := ⟨ho1, good_new, cur_below HC.out hB1 hp, gb_below (World.grownBy.refl _ _) hB1 (Nat.le_refl _), hp⟩) | (go_at_call 54; refine (below_from w1 _ p a0 len cap _ (by omega) ds1.cur (World.grownBy.refl _ _)).mono ?_; rintro er w2 ⟨x, rfl, hx0, hx1, hc2, hg2⟩; have ds2 := ds1.drawn hg2 hc2) | (fail))
  obtain ⟨m0, rfl⟩ : ∃ m : Nat, x = m := ⟨x.toNat, by omega⟩
  go_loopw [3, 4] (fun h n wr => ∃ (m : Nat) (H : List C), m ≤ 5 ∧ n = .int .i64 m ∧ Ds w wr p a0 len cap h H) (fun _ n _ => (intOf n).toNat)
  case atStart => exact ⟨m0, _, by omega, rfl, ds2⟩
  case round =>
    obtain ⟨m, H, hm, rfl, ds⟩ := hrel
    have D : Hid (Ds w wr p a0 len cap u3 H) := ds
    clear ds
    by_cases hpos : 0 < m
    · have hpos' : (0 : Int) < m := by omega
      have m1 : Hid True := trivial
      go_wp2_with (first | (clear m1; go_at_call 54; refine (below_from wr _ p a0 len cap _ (by omega) D.out.cur (World.grownBy.refl _ _)).mono ?_; rintro er w4 ⟨x4, rfl, hx40, hx41, hc4, hg4⟩; have d4 := D.out.drawn hg4 hc4) | (go_at_call 54; refine (below_from w4 _ p a0 len cap _ (by omega) d4.cur (World.grownBy.refl _ _)).mono ?_; rintro er w5 ⟨x5, rfl, hx50, hx51, hc5, hg5⟩; have d5 := d4.drawn hg5 hc5) | (go_at_call 50; refine (l5Alone_any H ⟨1, 1 + x4, x5, 0, -1, -1, -1, 0⟩ _ w5.heap.size _ (Nat.le_refl _) d5.own.rd d5.good ⟨rfl, .inl rfl, ⟨by simp, by simp; omega⟩, ⟨by simp, by simp; omega⟩⟩).mono ?_; rintro er w6 ⟨v6, H6, d6, rfl, ho6, hg6, hB6⟩; have ds6 := d5.anew ho6 hg6 hB6) | (fail))
      go_roundw
      case rel => exact ⟨m - 1, H6, by omega, by congr 1; omega, ds6⟩
      case measure => simp [intOf]; omega
    · have hpos' : ¬ ((0 : Int) < m) := by omega
      obtain ⟨g, cap', rfl, hg1, hg2', -⟩ := D.out.own.form D.out.good.1.1
      have hln := D.out.good.1
      have hl := D.out.own.fit
      go_wp2_with (first | (go_at_call 54; refine (below_from wr _ p a0 len cap _ (by omega) D.out.cur (World.grownBy.refl _ _)).mono ?_; rintro er w4 ⟨x4, rfl, hx40, hx41, hc4, hg4⟩; have d4 := D.out.drawn hg4 hc4) | (fail))
      obtain ⟨n0, rfl⟩ : ∃ n : Nat, x4 = n := ⟨x4.toNat, by omega⟩
      obtain ⟨N, hN⟩ := hid_ex H.length
      rw [hN.out] at d4 ⊢
      have hN1 : 1 ≤ N ∧ N ≤ 40 := by rw [← hN.out]; exact hln
      clear hN hln hl D hm hpos hpos'
      go_loopw [5] (fun n wz => ∃ (k : Nat) (L : List C), k ≤ 2 ∧ n = .int .i64 k ∧ L.length = N ∧ Ds w wz p a0 len cap (.slice (some ⟨g, 0, none⟩) N cap') L) (fun n _ => (intOf n).toNat)
      case atStart => exact ⟨n0, H, by omega, rfl, d4.own.len.symm, d4⟩
      case round =>
        obtain ⟨k, L, hk, rfl, hLN, ds⟩ := hrel
        have D : Hid (Ds w wr p a0 len cap (.slice (some ⟨g, 0, none⟩) N cap') L) := ds
        have HL : Hid (L.length = N) := hLN
        clear ds hLN
        by_cases hpos : 0 < k
        · have hpos' : (0 : Int) < k := by omega
          have m1 : Hid True := trivial
          have m2 : Hid True := trivial
          go_wp2_with (first | (clear m1; go_at_call 54; refine (below_from wr _ p a0 len cap _ (by omega) D.out.cur (World.grownBy.refl _ _)).mono ?_; rintro er w5 ⟨x5, rfl, hx50, hx51, hc5, hg5⟩; have d5 := D.out.drawn hg5 hc5) | (clear m2; go_at_call 70; refine (l3Strike_any L x5 (-1) _ w.heap.size w5.heap.size _ d5.own (by rw [HL.out]; omega)).mono ?_; rintro er w6 ⟨rfl, ho6, hW6⟩; have d6 := d5.within ho6 (good_strike1 d5.good _ _) hW6) | (go_at_call 54; refine (below_from w6 _ p a0 len cap _ (by omega) d6.cur (World.grownBy.refl _ _)).mono ?_; rintro er w7 ⟨x7, rfl, hx70, hx71, hc7, hg7⟩; have d7 := d6.drawn hg7 hc7; obtain ⟨i, rfl⟩ : ∃ i : Nat, x7 = i := ⟨x7.toNat, by omega⟩; have hi7 : i < (strike1 L x5 (-1)).length := (by rw [strike1_len, HL.out]; omega); obtain ⟨-, -, y2, -⟩ := d7.own.cell i hi7; have hiN : (i : Int) < N := hx71) | (go_at_call 70; refine (l3Strike_any (strike1 L x5 (-1)) (i : Int) _ _ w.heap.size w7.heap.size _ d7.own (by rw [strike1_len, HL.out]; omega)).mono ?_; rintro er w8 ⟨rfl, ho8, hW8⟩; have d8 := d7.within ho8 (good_strike1 d7.good _ _) hW8) | (fail))
          go_roundw
          case rel => exact ⟨k - 1, _, by omega, by congr 1; omega, by rw [strike1_len, strike1_len, HL.out], d8⟩
          case measure => simp [intOf]; omega
        · have hpos' : ¬ ((0 : Int) < k) := by omega
          go_wp2
          go_ret
          exact ⟨_, rfl, L, D.out⟩

end Go.Proofs.Ytodpbghkjnlfdaa.draw
/- What the laws of chapter 3 draw: heaps that may be wrong, and the arguments beside them. -/
namespace Go.Proofs.Ytodpbghkjnlfdaa.draw
open Go.ChangeShapes Go.WideShapes Go.ChangeAt Go.RowKit
open Go.Proofs.Ytodpbghkjnlfdaa.ce
set_option linter.unusedVariables false

/-- a heap, right or not, has been drawn -/
structure Dn (w0 w : World) (p : Nat) (a0 : Option Addr) (len cap : Nat) (v : Value) (H : List C) : Prop where
  own : ce.Own w w0.heap.size w.heap.size v H
  le : H.length ≤ 40
  cur : Cur w p a0 len cap
  gb : w0.grownBy w (some p)
  pw : p < w0.heap.size
theorem Ds.dn {w0 w : World} {p : Nat} {a0 : Option Addr} {len cap : Nat} {v : Value} {H : List C} (h : Ds w0 w p a0 len cap v H) : Dn w0 w p a0 len cap v H := ⟨h.own, h.good.1.2, h.cur, h.gb, h.pw⟩
theorem Dn.drawn {w0 w w' : World} {p : Nat} {a0 : Option Addr} {len cap : Nat} {v : Value} {H : List C} (h : Dn w0 w p a0 len cap v H) (g : w.grownBy w' (some p)) (hc : Cur w' p a0 len cap) : Dn w0 w' p a0 len cap v H :=
  ⟨(h.own.keep fun k h1 h2 => g.block k h2 (fun e => by have := h.pw; cases e; omega)).wide (Nat.le_refl _) g.size, h.le, hc, gb_trans h.gb g, h.pw⟩
theorem Dn.set {w0 w : World} {p g cap' : Nat} {a0 : Option Addr} {len cap : Nat} {H : List C} (h : Dn w0 w p a0 len cap (.slice (some ⟨g, 0, none⟩) H.length cap') H) (i : Nat) (hi : i < H.length) (j : Nat) (hj : j < 4) (u : Value) (c : C) (hc : cv c = (cv H[i]).set j u) (hg : w0.heap.size ≤ g) :
    Dn w0 (w.setCell ⟨g, i * 4 + j, none⟩ u) p a0 len cap (.slice (some ⟨g, 0, none⟩) H.length cap') (H.set i c) := by
  have hB : Below w0.heap.size w (w.setCell ⟨g, i * 4 + j, none⟩ u) := (Below.refl _ _).setCell hg _
  exact ⟨(h.own.set i hi j hj u c hc).wide (Nat.le_refl _) (by simp), by rw [List.length_set]; exact h.le, cur_below h.cur hB h.pw, gb_below h.gb hB (Nat.le_refl _), h.pw⟩

theorem drawAt_from (w0 w : World) (p : Nat) (a0 : Option Addr) (len cap : Nat) (hc : Cur w p a0 len cap) (hg : w0.grownBy w (some p)) :
    Calls Try.prog 85 #[.pointer (some ⟨p, 0, none⟩)] w fun e w' => ∃ x : Int, e = .returned (.int .i64 x) ∧ -1 ≤ x ∧ x ≤ 6 ∧ Cur w' p a0 len cap ∧ w0.grownBy w' (some p) := by
  go_enter Try.func85, Try.ntmps85
  go_wp2_with (go_at_call 53; refine (from_from w0 _ p a0 len cap _ _ (by omega) (by omega) (by omega) (by assumption) (by assumption)).mono ?_; rintro e w1 ⟨x, rfl, hx0, hx1, hc1, hg1⟩)
  go_ret
  exact ⟨_, rfl, by omega, by omega, by assumption, by assumption⟩

theorem results_tmp4 {fn : Func} {t u v x : Tmp} (h : fn.results = #[.tmp t, .tmp u, .tmp v, .tmp x]) (tmps : Array Value) (P : Program) (w : World) :
    (results fn tmps).run P w = .ok (.tuple #[tmps.getD t undef, tmps.getD u undef, tmps.getD v undef, tmps.getD x undef]) w := by
  simp [results, h]

/-- cells that were drawn, as a law reads them -/
structure Dr (w w' : World) (v : Value) (H : List C) : Prop where
  rd : Rd w' w'.heap.size v H
  le : H.length ≤ 40
  bel : Below w.heap.size w w'
theorem Dn.dr {w w1 w' : World} {p : Nat} {a0 : Option Addr} {len cap : Nat} {v : Value} {H : List C} (h : Dn w1 w' p a0 len cap v H) (hB : Below w.heap.size w w1) (hp : w.heap.size ≤ p) : Dr w w' v H :=
  ⟨h.own.rd, h.le, Below.grown hB h.gb hB.size (fun k hk => by cases hk; exact hp)⟩

end Go.Proofs.Ytodpbghkjnlfdaa.draw
/- Hands in a row that the call made: how they are owned, one more behind them, one of them turned. -/
namespace Go.Proofs.Ytodpbghkjnlfdaa.ce
open Go.ChangeShapes Go.WideShapes Go.ChangeAt Go.RowKit
set_option linter.unusedVariables false

def hvs (ds : List Hd) : List Value := ds.flatMap hv
theorem hvs_len (ds : List Hd) : (hvs ds).length = ds.length * 8 := by
  induction ds with
  | nil => rfl
  | cons d ds ih => simp only [hvs, List.flatMap_cons, List.length_append, List.length_cons] at ih ⊢; rw [ih, hv_len]; omega
theorem hvs_one (ds : List Hd) : ∀ v ∈ hvs ds, v.oneCell' = true := by
  intro v hv'
  obtain ⟨d, -, hd⟩ := List.mem_flatMap.1 hv'
  exact hv_one d v hd
theorem hvs_append (a b : List Hd) : hvs (a ++ b) = hvs a ++ hvs b := by simp [hvs]
theorem hvs_single (d : Hd) : hvs [d] = hv d := by simp [hvs]
/-- the hands ds lie in a row of their own in a block from lo up to hi -/
structure OwnH (w : World) (lo hi : Nat) (v : Value) (ds : List Hd) : Prop where
  row : w.ownsRow lo 29 8 v ds.length (hvs ds)
  top : ∀ g, v.ownBlock = some g → g < hi
theorem ownH_none (w : World) (lo hi : Nat) : OwnH w lo hi (.slice none 0 0) [] := ⟨World.ownsRow_nil w lo _ 8, fun g h => by cases h⟩
theorem OwnH.keep {w w' : World} {lo hi : Nat} {v : Value} {ds : List Hd} (o : OwnH w lo hi v ds) (s : ∀ k, lo ≤ k → k < hi → w'.heap[k]? = w.heap[k]?) : OwnH w' lo hi v ds := by
  refine ⟨⟨o.row.1, ?_⟩, o.top⟩
  rcases o.row.2 with h | ⟨g, cap, cur, rfl, hg, hb, h⟩
  · exact .inl h
  · exact .inr ⟨g, cap, cur, rfl, hg, by rw [s g hg (o.top g rfl)]; exact hb, h⟩
/-- it is enough that its own block stays -/
theorem OwnH.keepB {w w' : World} {lo hi : Nat} {v : Value} {ds : List Hd} (o : OwnH w lo hi v ds) (s : ∀ k, v.ownBlock = some k → w'.heap[k]? = w.heap[k]?) : OwnH w' lo hi v ds := by
  refine ⟨⟨o.row.1, ?_⟩, o.top⟩
  rcases o.row.2 with h | ⟨g, cap, cur, rfl, hg, hb, h⟩
  · exact .inl h
  · exact .inr ⟨g, cap, cur, rfl, hg, by rw [s g rfl]; exact hb, h⟩
theorem OwnH.below {w w' : World} {lo hi B : Nat} {v : Value} {ds : List Hd} (o : OwnH w lo hi v ds) (hb : Below B w w') (hB : hi ≤ B) : OwnH w' lo hi v ds := o.keep fun k _ h2 => hb.block k (by omega)
theorem OwnH.wide {w : World} {lo hi lo' hi' : Nat} {v : Value} {ds : List Hd} (o : OwnH w lo hi v ds) (h1 : lo' ≤ lo) (h2 : hi ≤ hi') : OwnH w lo' hi' v ds := by
  refine ⟨⟨o.row.1, ?_⟩, fun g hg => by have := o.top g hg; omega⟩
  rcases o.row.2 with h | ⟨g, cap, cur, rfl, hg, hb, h⟩
  · exact .inl h
  · exact .inr ⟨g, cap, cur, rfl, by omega, hb, h⟩
theorem OwnH.lo {w : World} {lo hi : Nat} {v : Value} {ds : List Hd} (o : OwnH w lo hi v ds) (g : Nat) (hg : v.ownBlock = some g) : lo ≤ g ∧ g < hi ∧ g < w.heap.size := by
  rcases o.row.2 with ⟨rfl, -⟩ | ⟨g', cap, cur, rfl, hg', hb, h⟩
  · cases hg
  · cases hg
    exact ⟨hg', o.top _ rfl, (Array.getElem?_eq_some_iff.1 hb).1⟩
theorem OwnH.len {w : World} {lo hi : Nat} {v : Value} {ds : List Hd} (o : OwnH w lo hi v ds) : ∃ a cap, v = .slice a ds.length cap := by
  rcases o.row.2 with ⟨rfl, h0⟩ | ⟨g', cap, cur, rfl, hg', hb, h⟩
  · exact ⟨none, 0, by rw [h0]⟩
  · exact ⟨_, cap, rfl⟩
/-- a row of hands that are there -/
theorem OwnH.form {w : World} {lo hi : Nat} {v : Value} {ds : List Hd} (o : OwnH w lo hi v ds) (h1 : 1 ≤ ds.length) :
    ∃ g cap sp, v = .slice (some ⟨g, 0, none⟩) ds.length cap ∧ lo ≤ g ∧ g < hi ∧ g < w.heap.size ∧ VBlk w g 29 (hvs ds ++ sp) ∧ ds.length ≤ cap ∧ cap ≤ maxLen ∧ (hvs ds ++ sp).length = cap * 8 := by
  rcases o.row.2 with ⟨_, h0⟩ | ⟨g, cap, cur, rfl, hg, hb, hc1, hc2, hc3, htk⟩
  · omega
  · have e : hvs ds ++ cur.toList.drop (ds.length * 8) = cur.toList := by rw [← htk]; exact List.take_append_drop _ _
    refine ⟨g, cap, cur.toList.drop (ds.length * 8), rfl, hg, o.top g rfl, (Array.getElem?_eq_some_iff.1 hb).1, ?_, hc1, hc2, ?_⟩
    · rw [e]; unfold VBlk; rw [hb]
    · rw [e]; simpa using hc3
theorem ownH_of {w : World} {lo hi g cap : Nat} {ds : List Hd} {sp : List Value} (hb : VBlk w g 29 (hvs ds ++ sp)) (h1 : lo ≤ g) (h2 : g < hi) (hc1 : ds.length ≤ cap) (hc2 : cap ≤ maxLen) (hl : (hvs ds ++ sp).length = cap * 8) :
    OwnH w lo hi (.slice (some ⟨g, 0, none⟩) ds.length cap) ds := by
  refine ⟨⟨hvs_len ds, .inr ⟨g, cap, (hvs ds ++ sp).toArray, rfl, h1, hb, hc1, hc2, by simpa using hl, ?_⟩⟩, fun k hk => by cases hk; exact h2⟩
  rw [← hvs_len ds]
  simp
theorem infoH : ∃ i : TypeInfo, Try.prog.info? 29 = some i ∧ i.zero = some (.agg (hv ⟨0, 0, 0, 0, 0, 0, 0, 0⟩).toArray) ∧ i.size = 8 ∧ i.bytes = 64 := by
  have h : (Try.prog.info? 29).map (fun i => (i.zero, i.size, i.bytes)) = some (some (.agg (hv ⟨0, 0, 0, 0, 0, 0, 0, 0⟩).toArray), 8, 64) := by kernel_rfl
  obtain ⟨i, hi, hz⟩ := Option.map_eq_some_iff.1 h
  simp only [Prod.mk.injEq] at hz
  exact ⟨i, hi, hz.1, hz.2.1, hz.2.2⟩
/-- one hand more, in a region that draws its order -/
theorem step_append_h {o : Oper} {a : Act} {w : World} {ops : Array Oper} {K : Act → World → Prop} {Q : Exit → Act → World → Prop} {E : Prop} (hgd : o.guard = none) (s x : Operand) (t : TypeId) (ho : o.op = .call { callee := .builtin .append, args := #[s, x], argTypes := #[t, t] }) (ht : Try.prog.underlying t = some (.slice 29))
    (lo hi : Nat) (v : Value) (ds : List Hd) (hs : a.eval s = v) (hown : OwnH w lo hi v ds) (hlo : lo ≤ w.heap.size) (b : Nat) (d : Hd) (hx : a.eval x = .slice (some ⟨b, 0, none⟩) 1 1) (hr : w.rangeAt b 0 (hv d)) (hlen : ds.length ≤ 1000)
    (h : ∀ v' w', OwnH w' lo w'.heap.size v' (ds ++ [d]) → w.grownBy w' v.ownBlock → K (a.put o.dst v') w') :
    if Region.wanted o (yielded ops a.tmps) = true then Oper.wp Try.prog o a w K Q else E := by
  have hw : Region.wanted o (yielded ops a.tmps) = true := by simp [Region.wanted, hgd]
  rw [if_pos hw]
  obtain ⟨i0, hi0, hz0, hz1, hz2⟩ := infoH
  refine wp_append_own w s x t ho lo 29 i0 _ 8 64 ht hi0 hz0 hz1 hz2 rfl (by decide) v ds.length (hvs ds) hs hown.row ⟨b, 0, none⟩ 1 1 (hv d) hx rfl (fun j u hj => by rw [Addr.add_mid]; exact hr j u hj) (hv_one d) (by unfold maxLen; omega) (by omega) hlo ?_
  intro v' w' h2 h3 h4
  rw [← hvs_single d, ← hvs_append] at h2
  exact h v' w' ⟨by rw [List.length_append]; exact h2, fun g hg => (h2.lt g hg).2⟩ h3
/-- the hand number i of a row -/
theorem hvs_split (ds : List Hd) (i : Nat) (hi : i < ds.length) : hvs ds = hvs (ds.take i) ++ hv ds[i] ++ hvs (ds.drop (i + 1)) := by
  conv => lhs; rw [← List.take_append_drop i ds, List.drop_eq_getElem_cons hi]
  rw [hvs_append, show ds[i] :: ds.drop (i + 1) = [ds[i]] ++ ds.drop (i + 1) from rfl, hvs_append, hvs_single, List.append_assoc]
theorem hvs_set (ds : List Hd) (i : Nat) (hi : i < ds.length) (d : Hd) : hvs (ds.set i d) = hvs (ds.take i) ++ hv d ++ hvs (ds.drop (i + 1)) := by
  rw [List.set_eq_take_append_cons_drop, if_pos hi, hvs_append, show d :: ds.drop (i + 1) = [d] ++ ds.drop (i + 1) from rfl, hvs_append, hvs_single, List.append_assoc]
theorem HA.of_row {w : World} {g : Nat} {ds : List Hd} {sp : List Value} (h : VBlk w g 29 (hvs ds ++ sp)) (i : Nat) (hi : i < ds.length) : HA w g (8 * i) 29 (hvs (ds.take i)) (hvs (ds.drop (i + 1)) ++ sp) ds[i] := by
  refine ⟨?_, by rw [hvs_len, List.length_take]; omega⟩
  rw [hvs_split ds i hi] at h
  simpa [List.append_assoc] using h
theorem HA.to_row {w : World} {g : Nat} {ds : List Hd} {sp : List Value} {d : Hd} {i : Nat} (hi : i < ds.length) (h : HA w g (8 * i) 29 (hvs (ds.take i)) (hvs (ds.drop (i + 1)) ++ sp) d) : VBlk w g 29 (hvs (ds.set i d) ++ sp) := by
  rw [hvs_set ds i hi d]
  simpa [List.append_assoc] using h.blk
end Go.Proofs.Ytodpbghkjnlfdaa.ce
/- A hand that is in bounds stays so, and so does every other one beside it: plain mathematics. -/
namespace Go.Proofs.Ytodpbghkjnlfdaa.ce
open Go.ChangeShapes Go.WideShapes Go.ChangeAt Go.RowKit
set_option linter.unusedVariables false

theorem Bd.le {n n' : Nat} {d : Hd} (h : Bd n d) (hn : n ≤ n') : Bd n' d := ⟨h.kind, h.step, h.here, by have := h.hern; omega, h.mark, by rcases h.own with q | q; (· exact .inl q); (· exact .inr (by omega))⟩
theorem bd_done {n : Nat} {d : Hd} (h : Bd n d) (hn : 1 ≤ n) (yes : Bool) : Bd n (doneD d yes) := ⟨h.kind, by simp [doneD], fun q => by simp [doneD] at q, by show (-1 : Int) < n; omega, fun q => by simp [doneD] at q, h.own⟩
theorem bd_start {n : Nat} {d : Hd} (h : Bd n d) (hn : 1 ≤ n) : Bd n (startD d) := ⟨h.kind, by simp [startD], fun q => by simp [startD] at q, by show (-1 : Int) < n; omega, fun q => by simp [startD] at q, h.own⟩
/-- what a move does to bounds -/
structure Bnd (H : List C) (H' : List C) (d' : Hd) : Prop where
  good : good H'
  bd : Bd H'.length d'
  le : H.length ≤ H'.length
theorem nth_next {H : List C} (hg : good H) (p : Int) (h0 : 0 ≤ p) (h1 : p < (H.length : Int)) : -1 ≤ (nth H p).next ∧ (nth H p).next < (H.length : Int) := nth_fit hg p ⟨h0, h1⟩

theorem move_bd {H : List C} {d : Hd} (hg : good H) (bd : Bd H.length d) : Bnd H (move H d).1 (move H d).2 := by
  have h1 := hg.1.1
  have hk := bd.kind; have hs := bd.step; have hh := bd.here; have hn := bd.hern; have hm := bd.mark; have ho := bd.own
  have same : ∀ d', Bd H.length d' → Bnd H H d' := fun d' q => ⟨hg, q, Nat.le_refl _⟩
  unfold move
  by_cases s0 : d.step = 0
  · rw [if_pos s0]
    have := nth_next hg 0 (by omega) (by omega)
    exact same _ ⟨hk, by simp, fun _ => by show (nth H 0).next = -1 ∨ 0 ≤ (nth H 0).next; omega, this.2, fun q => by simp at q, ho⟩
  rw [if_neg s0]
  by_cases s1 : d.step = 1
  · rw [if_pos s1]
    have hh1 := hh (.inl s1)
    unfold moveW
    by_cases hst : stops H d
    · rw [if_pos hst]
      exact same _ ⟨hk, by simp, fun _ => hh1, hn, fun q => by simp at q, ho⟩
    · rw [if_neg hst]
      have hne : ¬ d.here = -1 := fun q => hst (.inl q)
      have nx := nth_next hg d.here (by omega) hn
      by_cases hgn : (nth H d.here).gone = true
      · rw [if_pos hgn]
        by_cases hsw : swapOk H d.left d.here (nth H d.here).next
        · rw [if_pos hsw]
          refine ⟨good_swapH hg _ _ nx, ?_, by rw [swapH_len]; exact Nat.le_refl _⟩
          rw [swapH_len]
          exact ⟨hk, hs, fun _ => by show (nth H d.here).next = -1 ∨ 0 ≤ (nth H d.here).next; omega, nx.2, fun q => by simp [s1] at q, ho⟩
        · rw [if_neg hsw]; exact same _ (bd_start bd h1)
      · rw [if_neg hgn]
        exact same _ ⟨hk, hs, fun _ => by show (nth H d.here).next = -1 ∨ 0 ≤ (nth H d.here).next; omega, nx.2, fun q => by simp [s1] at q, ho⟩
  rw [if_neg s1]
  by_cases s2 : d.step = 2
  · rw [if_pos s2]
    have hh1 := hh (.inr s2)
    unfold moveA
    by_cases k3 : d.kind = 3
    · rw [if_pos k3]; exact same _ (bd_done bd h1 _)
    rw [if_neg k3]
    by_cases kf : d.kind = 1 ∧ found H d ∨ d.kind = 2 ∧ ¬ found H d
    · rw [if_pos kf]; exact same _ (bd_done bd h1 _)
    rw [if_neg kf]
    by_cases k1 : d.kind = 1
    · rw [if_pos k1]
      unfold movePut
      by_cases own : d.own < 0
      · rw [if_pos own]
        by_cases fn : freshN H d.key d.value d.here < 0
        · rw [if_pos fn]; exact same _ (bd_done bd h1 _)
        · rw [if_neg fn]
          have hok : heapOk H := Decidable.byContradiction fun q => fn (by unfold freshN; rw [if_neg q]; omega)
          have hfo : freshOk H d.key d.value d.here := Decidable.byContradiction fun q => fn (by unfold freshN; rw [if_pos hok, if_neg q]; omega)
          have eH : freshH H d.key d.value d.here = H ++ [cell d.key d.value d.here] := by unfold freshH; rw [if_pos hok, if_pos hfo]
          have eN : freshN H d.key d.value d.here = (H.length : Int) := by unfold freshN; rw [if_pos hok, if_pos hfo]
          rw [eH, eN]
          refine ⟨good_ok hfo, ?_, by simp⟩
          rw [List.length_append, List.length_singleton]
          exact ⟨hk, by simp, fun q => by simp at q, by show d.here < _; omega, fun q => by simp at q, .inr (by show (H.length : Int) < ((H.length + 1 : Nat) : Int); omega)⟩
      · rw [if_neg own]
        refine ⟨good_swapH hg _ _ ⟨by omega, hn⟩, ?_, by rw [swapH_len]; exact Nat.le_refl _⟩
        rw [swapH_len]
        exact ⟨hk, by simp, fun q => by simp at q, hn, fun q => by simp at q, ho⟩
    · rw [if_neg k1]
      have hf : found H d := Decidable.byContradiction fun q => kf (.inr ⟨by omega, q⟩)
      exact same _ ⟨hk, by simp, fun q => by simp at q, hn, fun _ => hf.1, ho⟩
  rw [if_neg s2]
  by_cases s3 : d.step = 3
  · rw [if_pos s3]
    unfold moveL
    by_cases hsw : swapOk H d.left d.here d.own
    · rw [if_pos hsw]
      have q := leads_fit h1 hsw.2
      refine ⟨good_swapH hg _ _ q, ?_, by rw [swapH_len]; exact Nat.le_refl _⟩
      rw [swapH_len]; exact bd_done bd h1 _
    · rw [if_neg hsw]; exact same _ (bd_start bd h1)
  rw [if_neg s3]
  by_cases s4 : d.step = 4
  · rw [if_pos s4]
    unfold moveM
    by_cases hgn : (nth H d.here).gone = true
    · rw [if_pos hgn]; exact same _ (bd_start bd h1)
    · rw [if_neg hgn]
      refine ⟨good_strike1 hg _ _, ?_, by rw [strike1_len]; exact Nat.le_refl _⟩
      rw [strike1_len]; exact bd_done bd h1 _
  rw [if_neg s4]
  exact same _ bd
end Go.Proofs.Ytodpbghkjnlfdaa.ce
/- What the laws of chapters 5 and 6 draw: a new hand. -/
namespace Go.Proofs.Ytodpbghkjnlfdaa.draw
open Go.ChangeShapes Go.WideShapes Go.ChangeAt Go.RowKit
open Go.Proofs.Ytodpbghkjnlfdaa.ce
set_option linter.unusedVariables false

/-- a hand that has not begun -/
structure NewH (d : Hd) : Prop where
  kind : d.kind = 1 ∨ d.kind = 2 ∨ d.kind = 3
  key : 1 ≤ d.key ∧ d.key ≤ 6
  value : 0 ≤ d.value ∧ d.value < 50
  step : d.step = 0
  left : d.left = -1
  here : d.here = -1
  own : d.own = -1
  told : d.told = 0
theorem NewH.bd {d : Hd} (h : NewH d) (n : Nat) (hn : 1 ≤ n) : Bd n d := ⟨h.kind, .inl h.step, fun q => by have := h.step; omega, by have := h.here; omega, fun q => by have := h.step; omega, .inl (by have := h.own; omega)⟩

theorem gb_only {w0 w w' : World} {r : Option Nat} {b : Nat} (h : w0.grownBy w r) (o : Only b w w') (hb : w0.heap.size ≤ b) : w0.grownBy w' r := gb_below h (o.2.2 _ hb) (Nat.le_refl _)
theorem cur_only {w w' : World} {p b : Nat} {a0 : Option Addr} {len cap : Nat} (h : Cur w p a0 len cap) (o : Only b w w') (hb : p < b) : Cur w' p a0 len cap := cur_below h (o.2.2 _ (Nat.le_refl _)) hb

set_option maxHeartbeats 1000000 in
theorem l5DrawHand_any (w : World) (p : Nat) (a0 : Option Addr) (len cap : Nat) (hc : Cur w p a0 len cap) :
    Calls Try.prog 83 #[.pointer (some ⟨p, 0, none⟩)] w fun e w' => ∃ d, e = .returned (.agg (hv d).toArray) ∧ NewH d ∧ Cur w' p a0 len cap ∧ w.grownBy w' (some p) := by
  have hp := hc.1
  have HC : Hid (Cur w p a0 len cap) := hc
  clear hc
  have m1 : Hid True := trivial
  have m2 : Hid True := trivial
  go_enter Try.func83, Try.ntmps83
  go_wp2_with (first | (refine wpList_alloc_v rfl 29 rfl _ zeroH ?_; intro b2 w1 hb2 hw1 hB1 hV1; have hz1 := hB1.size; have hc1 := cur_below HC.out hB1 hp; have hg1 : w.grownBy w1 (some p) := gb_below (World.grownBy.refl _ _) hB1 (Nat.le_refl _)) | (clear m1; go_at_call 54; refine (below_from w1 w1 p a0 len cap _ (by omega) hc1 (World.grownBy.refl _ _)).mono ?_; rintro er w2 ⟨x2, rfl, x20, x21, hc2, hg2⟩) | (clear m2; go_at_call 54; refine (below_from w1 w2 p a0 len cap _ (by omega) hc2 hg2).mono ?_; rintro er w3 ⟨x3, rfl, x30, x31, hc3, hg3⟩) | (go_at_call 54; refine (below_from w1 w3 p a0 len cap _ (by omega) hc3 hg3).mono ?_; rintro er w4 ⟨x4, rfl, x40, x41, hc4, hg4⟩) | (refine wpList_store_v rfl 29 _ _ rfl b2 (hv ⟨1 + x2, 1 + x3, x4, 0, -1, -1, -1, 0⟩) rfl rfl sizeH (hV1.of (hg4.block b2 hw1 (fun q => by cases q; omega))) rfl (hv_one _) ?_; intro w5 hO5 hV5) | (fail))
  refine row_retv rfl rfl hV5 Try.underlying29 sizeH rfl ⟨_, rfl, ⟨by show 1 + x2 = 1 ∨ 1 + x2 = 2 ∨ 1 + x2 = 3; omega, by show 1 ≤ 1 + x3 ∧ 1 + x3 ≤ 6; omega, ⟨x40, x41⟩, rfl, rfl, rfl, rfl, rfl⟩, cur_only hc4 hO5 (by omega), gb_only (gb_trans hg1 hg4) hO5 hb2⟩
end Go.Proofs.Ytodpbghkjnlfdaa.draw
/- A crew's variable: its size, its zero, its cells stored; rows of cells and rows of hands lie apart. -/
namespace Go.Proofs.Ytodpbghkjnlfdaa.ce
open Go.ChangeShapes Go.WideShapes Go.ChangeAt Go.RowKit
set_option linter.unusedVariables false

theorem sizeCr : (Try.prog.info? 92).map (·.size) = some 2 := by kernel_rfl
theorem zeroCr (w : World) : (zeroValue 92).run Try.prog w = .ok (.agg [Value.slice none 0 0, .slice none 0 0].toArray) w := Try.zeroValue92 w

theorem own_keepB {w w' : World} {lo hi : Nat} {v : Value} {H : List C} (o : Own w lo hi v H) (s : ∀ k, v.ownBlock = some k → w'.heap[k]? = w.heap[k]?) : Own w' lo hi v H := by
  refine ⟨⟨o.row.1, ?_⟩, o.top⟩
  rcases o.row.2 with h | ⟨g, cap, cur, rfl, hg, hb, h⟩
  · exact .inl h
  · exact .inr ⟨g, cap, cur, rfl, hg, by rw [s g rfl]; exact hb, h⟩
theorem own_lo {w : World} {lo hi : Nat} {v : Value} {H : List C} (o : Own w lo hi v H) (g : Nat) (hg : v.ownBlock = some g) : lo ≤ g ∧ g < hi ∧ g < w.heap.size := by
  rcases o.row.2 with ⟨rfl, -⟩ | ⟨g', cap, cur, rfl, hg', hb, h⟩
  · cases hg
  · cases hg
    exact ⟨hg', o.top _ rfl, (Array.getElem?_eq_some_iff.1 hb).1⟩

/-- one cell of the crew's variable is stored -/
theorem step_store_1 {o : Oper} {a : Act} {w : World} {ops : Array Oper} {K : Act → World → Prop} {Q : Exit → Act → World → Prop} {E : Prop} (hgd : o.guard = none) (x y : Operand) (ho : o.op = .store 90 x y) (b j : Nat) (va : Option Addr) (vn vc : Nat) (hx : a.eval x = .pointer (some ⟨b, j, none⟩)) (hy : a.eval y = .slice va vn vc)
    {t : TypeId} {vs : List Value} (hb : VBlk w b t vs) (hj : j < vs.length)
    (h : ∀ w', Only b w w' → VBlk w' b t (vs.set j (.slice va vn vc)) → K (a.put o.dst undef) w') :
    if Region.wanted o (yielded ops a.tmps) = true then Oper.wp Try.prog o a w K Q else E := by
  have hw : Region.wanted o (yielded ops a.tmps) = true := by simp [Region.wanted, hgd]
  rw [if_pos hw]
  have hc := hb.cell j hj
  have hf : w.frozen? ⟨b, j, none⟩ = false := hb.frozen _
  have hr : (execOp a.eval o).run Try.prog w = .ok .skip (w.setCell ⟨b, j, none⟩ (.slice va vn vc)) := by
    unfold execOp
    simp only [ho, hx, hy]
    simp [go_sem, hc, hf]
  unfold Oper.wp
  rw [hr]
  exact h _ (only_set _ _ _ _) (hb.set j _)
theorem wpList_store_1 {o : Oper} {a : Act} {w : World} {ops : Array Oper} {rest : List Oper} {Q : Exit → Act → World → Prop} (hgd : o.guard = none) (x y : Operand) (ho : o.op = .store 27 x y) (b j : Nat) (va : Option Addr) (vn vc : Nat) (hx : a.eval x = .pointer (some ⟨b, j, none⟩)) (hy : a.eval y = .slice va vn vc)
    {t : TypeId} {vs : List Value} (hb : VBlk w b t vs) (hj : j < vs.length)
    (h : ∀ w', Only b w w' → VBlk w' b t (vs.set j (.slice va vn vc)) → wpList Try.prog ops Q rest (a.put o.dst undef) w') : wpList Try.prog ops Q (o :: rest) a w := by
  have hc := hb.cell j hj
  have hf : w.frozen? ⟨b, j, none⟩ = false := hb.frozen _
  refine wpList_none hgd (w' := w.setCell ⟨b, j, none⟩ (.slice va vn vc)) ?_ (h _ (only_set _ _ _ _) (hb.set j _))
  unfold execOp
  simp only [ho, hx, hy]
  simp [go_sem, hc, hf]
theorem step_store_c {o : Oper} {a : Act} {w : World} {ops : Array Oper} {K : Act → World → Prop} {Q : Exit → Act → World → Prop} {E : Prop} (hgd : o.guard = none) (x y : Operand) (ho : o.op = .store 27 x y) (b j : Nat) (va : Option Addr) (vn vc : Nat) (hx : a.eval x = .pointer (some ⟨b, j, none⟩)) (hy : a.eval y = .slice va vn vc)
    {t : TypeId} {vs : List Value} (hb : VBlk w b t vs) (hj : j < vs.length)
    (h : ∀ w', Only b w w' → VBlk w' b t (vs.set j (.slice va vn vc)) → K (a.put o.dst undef) w') :
    if Region.wanted o (yielded ops a.tmps) = true then Oper.wp Try.prog o a w K Q else E := by
  have hw : Region.wanted o (yielded ops a.tmps) = true := by simp [Region.wanted, hgd]
  rw [if_pos hw]
  have hc := hb.cell j hj
  have hf : w.frozen? ⟨b, j, none⟩ = false := hb.frozen _
  have hr : (execOp a.eval o).run Try.prog w = .ok .skip (w.setCell ⟨b, j, none⟩ (.slice va vn vc)) := by
    unfold execOp
    simp only [ho, hx, hy]
    simp [go_sem, hc, hf]
  unfold Oper.wp
  rw [hr]
  exact h _ (only_set _ _ _ _) (hb.set j _)
theorem ownH_type {w : World} {lo hi : Nat} {v : Value} {ds : List Hd} (o : OwnH w lo hi v ds) (q : Nat) (hq : v.ownBlock = some q) : ∃ cur, w.heap[q]? = some (.cells cur 29 (0, 0)) := by
  rcases o.row.2 with ⟨rfl, -⟩ | ⟨g', cap, cur, rfl, hg', hb, h⟩
  · cases hq
  · cases hq; exact ⟨cur, hb⟩
theorem own_type {w : World} {lo hi : Nat} {v : Value} {H : List C} (o : Own w lo hi v H) (q : Nat) (hq : v.ownBlock = some q) : ∃ cur, w.heap[q]? = some (.cells cur 54 (0, 0)) := by
  rcases o.row.2 with ⟨rfl, -⟩ | ⟨g', cap, cur, rfl, hg', hb, h⟩
  · cases hq
  · cases hq; exact ⟨cur, hb⟩
theorem apart_hd {w : World} {lo hi lo' hi' : Nat} {vH vD : Value} {H : List C} {ds : List Hd} (o : Own w lo hi vH H) (o' : OwnH w lo' hi' vD ds) (g : Nat) (h1 : vH.ownBlock = some g) (h2 : vD.ownBlock = some g) : False := by
  obtain ⟨c1, e1⟩ := own_type o g h1
  obtain ⟨c2, e2⟩ := ownH_type o' g h2
  rw [e1] at e2
  simp only [Option.some.injEq, Obj.cells.injEq] at e2
  exact absurd e2.2.1 (by decide)
theorem apart_db {w : World} {lo hi : Nat} {vD : Value} {ds : List Hd} {b : Nat} {vs : List Value} (o : OwnH w lo hi vD ds) (hc : VBlk w b 92 vs) (q : Nat) (hq : vD.ownBlock = some q) : q ≠ b := by
  rintro rfl
  obtain ⟨c2, e2⟩ := ownH_type o q hq
  unfold VBlk at hc
  rw [hc] at e2
  simp only [Option.some.injEq, Obj.cells.injEq] at e2
  exact absurd e2.2.1 (by decide)
theorem apart_hb {w : World} {lo hi : Nat} {vH : Value} {H : List C} {b : Nat} {vs : List Value} (o : Own w lo hi vH H) (hc : VBlk w b 92 vs) (q : Nat) (hq : vH.ownBlock = some q) : q ≠ b := by
  rintro rfl
  obtain ⟨c2, e2⟩ := own_type o q hq
  unfold VBlk at hc
  rw [hc] at e2
  simp only [Option.some.injEq, Obj.cells.injEq] at e2
  exact absurd e2.2.1 (by decide)
/-- heap cells that lie in one block -/
theorem own_block {w : World} {lo hi g n cg : Nat} {H : List C} (o : Own w lo hi (.slice (some ⟨g, 0, none⟩) n cg) H) : Own w.drew g (g + 1) (.slice (some ⟨g, 0, none⟩) n cg) H := by
  refine ⟨⟨o.row.1, ?_⟩, fun k hk => by cases hk; exact Nat.lt_succ_self _⟩
  rcases o.row.2 with ⟨h, -⟩ | ⟨g', cap, cur, e, hg, hb, h⟩
  · cases h
  · cases e
    exact .inr ⟨g, _, cur, rfl, Nat.le_refl _, hb, h⟩
end Go.Proofs.Ytodpbghkjnlfdaa.ce
/- A crew's variable while a crew is drawn. -/
namespace Go.Proofs.Ytodpbghkjnlfdaa.draw
open Go.ChangeShapes Go.WideShapes Go.ChangeAt Go.RowKit
open Go.Proofs.Ytodpbghkjnlfdaa.ce
set_option linter.unusedVariables false

/-- a crew lies in its variable b; its heap and its hands are rows of their own -/
structure Cn (w0 w : World) (b p : Nat) (a0 : Option Addr) (len cap : Nat) (vH : Value) (H : List C) (vD : Value) (ds : List Hd) : Prop where
  crew : VBlk w b 92 [vH, vD]
  heap : ce.Own w w0.heap.size w.heap.size vH H
  hands : OwnH w w0.heap.size w.heap.size vD ds
  hb : ∀ g, vH.ownBlock = some g → g ≠ b
  db : ∀ q, vD.ownBlock = some q → q ≠ b
  hd : ∀ g, vH.ownBlock = some g → vD.ownBlock = some g → False
  blo : w0.heap.size ≤ b
  cur : Cur w p a0 len cap
  gb : w0.grownBy w (some p)
  pw : p < w0.heap.size
theorem Cn.z {w0 w : World} {b p : Nat} {a0 : Option Addr} {len cap : Nat} {vH vD : Value} {H : List C} {ds : List Hd} (c : Cn w0 w b p a0 len cap vH H vD ds) : w0.heap.size ≤ w.heap.size := c.gb.size
/-- a draw -/
theorem Cn.drawn {w0 w w' : World} {b p : Nat} {a0 : Option Addr} {len cap : Nat} {vH vD : Value} {H : List C} {ds : List Hd} (c : Cn w0 w b p a0 len cap vH H vD ds) (g : w.grownBy w' (some p)) (hc : Cur w' p a0 len cap) : Cn w0 w' b p a0 len cap vH H vD ds := by
  have hp := c.pw
  have hz := c.z
  have hb := c.blo
  refine ⟨c.crew.of (g.block b c.crew.lt (fun e => by cases e; omega)), (own_keepB c.heap fun k hk => ?_).wide (Nat.le_refl _) g.size, (c.hands.keepB fun k hk => ?_).wide (Nat.le_refl _) g.size, c.hb, c.db, c.hd, hb, hc, gb_trans c.gb g, hp⟩
  · have := own_lo c.heap k hk
    exact g.block k this.2.2 (fun e => by cases e; omega)
  · have := c.hands.lo k hk
    exact g.block k this.2.2 (fun e => by cases e; omega)
/-- a call that turns nothing that was there -/
theorem Cn.below {w0 w w' : World} {b p : Nat} {a0 : Option Addr} {len cap : Nat} {vH vD : Value} {H : List C} {ds : List Hd} (c : Cn w0 w b p a0 len cap vH H vD ds) (hB : Below w.heap.size w w') : Cn w0 w' b p a0 len cap vH H vD ds :=
  ⟨c.crew.of (hB.block b c.crew.lt), (c.heap.below hB (Nat.le_refl _)).wide (Nat.le_refl _) hB.size, (c.hands.below hB (Nat.le_refl _)).wide (Nat.le_refl _) hB.size, c.hb, c.db, c.hd, c.blo, cur_below c.cur hB (by have := c.cur.1; exact this), gb_below c.gb hB c.z, c.pw⟩
/-- one hand more, and the crew's variable knows -/
theorem Cn.appended {w0 w w' w'' : World} {b p : Nat} {a0 : Option Addr} {len cap : Nat} {vH vD v' : Value} {H : List C} {ds ds' : List Hd} (c : Cn w0 w b p a0 len cap vH H vD ds) (g : w.grownBy w' vD.ownBlock) (ho : OwnH w' w0.heap.size w'.heap.size v' ds') (hO : Only b w' w'') (hc : VBlk w'' b 92 [vH, v']) : Cn w0 w'' b p a0 len cap vH H v' ds' := by
  have hz := c.z
  have hp := c.pw
  have hb := c.blo
  have crew' : VBlk w' b 92 [vH, vD] := c.crew.of (g.block b c.crew.lt (fun e => c.db b e.symm rfl))
  have heap' : ce.Own w' w0.heap.size w.heap.size vH H := own_keepB c.heap fun k hk => g.block k (own_lo c.heap k hk).2.2 (fun e => c.hd k hk e.symm)
  have hB0 : Below w0.heap.size w w' := below_grown g hz (fun k hk => (c.hands.lo k hk).1)
  have db' := fun q hq => apart_db ho crew' q hq
  refine ⟨hc, (own_keepB heap' fun k hk => hO.2.1 k (c.hb k hk)).wide (Nat.le_refl _) (by rw [hO.1]; exact g.size), (ho.keepB fun k hk => hO.2.1 k (db' k hk)).wide (Nat.le_refl _) (Nat.le_of_eq hO.1.symm), c.hb, db', fun k h1 h2 => apart_hd heap' ho k h1 h2, hb, ?_, ?_, hp⟩
  · exact cur_only (cur_below c.cur hB0 hp) hO (by omega)
  · exact gb_only (gb_below c.gb hB0 (Nat.le_refl _)) hO hb
/-- the crew's hands are others by now -/
theorem Cn.turnD {w0 w w' : World} {b p : Nat} {a0 : Option Addr} {len cap : Nat} {vH vD vD' : Value} {H : List C} {ds ds' : List Hd} (c : Cn w0 w b p a0 len cap vH H vD ds) (hO : Only b w w') (hc : VBlk w' b 92 [vH, vD']) (hh : OwnH w w0.heap.size w.heap.size vD' ds') (h1 : ∀ q, vD'.ownBlock = some q → q ≠ b) (h2 : ∀ g, vH.ownBlock = some g → vD'.ownBlock = some g → False) : Cn w0 w' b p a0 len cap vH H vD' ds' :=
  ⟨hc, (own_keepB c.heap fun k hk => hO.2.1 k (c.hb k hk)).wide (Nat.le_refl _) (Nat.le_of_eq hO.1.symm), (hh.keepB fun k hk => hO.2.1 k (h1 k hk)).wide (Nat.le_refl _) (Nat.le_of_eq hO.1.symm), c.hb, h1, h2, c.blo, cur_only c.cur hO (by have := c.pw; have := c.blo; omega), gb_only c.gb hO c.blo, c.pw⟩
/-- the crew's heap is another by now -/
theorem Cn.turnH {w0 w w' : World} {b p : Nat} {a0 : Option Addr} {len cap : Nat} {vH vD vH' : Value} {H H' : List C} {ds : List Hd} (c : Cn w0 w b p a0 len cap vH H vD ds) (hO : Only b w w') (hc : VBlk w' b 92 [vH', vD]) (hh : ce.Own w w0.heap.size w.heap.size vH' H') (h1 : ∀ q, vH'.ownBlock = some q → q ≠ b) (h2 : ∀ g, vH'.ownBlock = some g → vD.ownBlock = some g → False) : Cn w0 w' b p a0 len cap vH' H' vD ds :=
  ⟨hc, (own_keepB hh fun k hk => hO.2.1 k (h1 k hk)).wide (Nat.le_refl _) (Nat.le_of_eq hO.1.symm), (c.hands.keepB fun k hk => hO.2.1 k (c.db k hk)).wide (Nat.le_refl _) (Nat.le_of_eq hO.1.symm), h1, c.db, h2, c.blo, cur_only c.cur hO (by have := c.pw; have := c.blo; omega), gb_only c.gb hO c.blo, c.pw⟩
end Go.Proofs.Ytodpbghkjnlfdaa.draw
