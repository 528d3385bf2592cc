/- Texts laid together: Hd5 Dc1 Dc2 Hw2 Dw1 Dw2 Dw3 Dw4 Dw5 Dw6. -/
import Derived.Test.YthjkhghlhjndmaaHd4
import Derived.Test.YthjkhghlhjndmaaMg04
import Derived.Test.YthjkhghlhjndmaaMg28
import Derived.Test.YthjkhghlhjndmaaMg07
import Derived.Deep.DeepCutAuto
/- Contract of l5Alone for a hand that puts. -/
namespace Go.Proofs.Ythjkhghlhjndmaa.ce
open Go.ChangeShapes Go.WideShapes Go.ChangeAt Go.RowKit
set_option linter.unusedVariables false

set_option maxHeartbeats 1000000 in
theorem l5Alone_any (H : List C) (d : Hd) (v : Value) (hi : Nat) (w : World) (hh : hi ≤ w.heap.size) (r : Rd w hi v H) (hgood : good H) (hfits : Fits H.length d) :
    Calls Try.prog 109 #[v, .agg (hv d).toArray] w fun e w' => ∃ v' H' d', e = .returned (.tuple #[v', .agg (hv d').toArray]) ∧ Own w' w.heap.size w'.heap.size v' H' ∧ good H' ∧ Below w.heap.size w w' := by
  obtain ⟨a, cap, rfl⟩ := r.form
  have R : Hid (Rd w hi (.slice a H.length cap) H) := r
  have GD : Hid (good H) := hgood
  have FT : Hid (Fits H.length d) := hfits
  have h1 := hgood.1.1
  have h2 : H.length ≤ 1048576 := by have := hgood.1.2; omega
  clear r hgood hfits
  go_enter Try.func109, Try.ntmps109
  go_wp2_with (first | (refine wpList_box_v rfl 58 _ rfl (hv d) rfl ?_; intro b3 w1 hb3 hw1 hB1 hV1) | (refine wpList_alloc_v rfl 58 rfl _ zeroH ?_; intro b5 w2 hb5 hw2 hB2 hV2) | (go_at_call 87; refine (l3Copy_any H _ hi _ (by have := hB1.size; have := hB2.size; omega) ((R.out.below hB1 hh).below hB2 (by have := hB1.size; omega)) h1 h2).mono ?_; rintro er w3 ⟨v3, rfl, hO3, hB3⟩) | (fail))
  have z1 := hB1.size
  have z2 := hB2.size
  have z3 := hB3.size
  have mo3 : Mo w3 w2.heap.size b3 v3 H d := ⟨hO3, ⟨(hV1.below hB2 hw1).below hB3 (by omega)⟩, by omega, z3, GD.out, FT.out⟩
  have hV5 := hV2.below hB3 hw2
  go_loopw [6, 7] (fun v' n wr => ∃ (m : Nat) (H' : List C) (d' : Hd), m ≤ 400 ∧ n = .int .i64 m ∧ Mo wr w2.heap.size b3 v' H' d' ∧ Mv w2.heap.size b3 w3 wr) (fun _ n _ => 400 - (intOf n).toNat)
  case atStart => exact ⟨0, H, d, by omega, rfl, mo3, Mv.refl _ _ _⟩
  case round =>
    obtain ⟨m, H', d', hm, rfl, mo, mv⟩ := hrel
    obtain ⟨k, x, y, s, l, e, o, t⟩ := d'
    obtain ⟨c0, c1, c2, c3, c4, c5, c6, c7⟩ := mo.hand.cells
    have hb35 : b5 ≠ b3 := by omega
    have hV6 := hV5.of (mv.block b5 hw2 hb35)
    have hB6 : HB wr b5 ⟨0, 0, 0, 0, 0, 0, 0, 0⟩ := ⟨hV6⟩
    obtain ⟨q0, q1, q2, q3, q4, q5, q6, q7⟩ := hB6.cells
    obtain ⟨g0, g1, g2, g3, g4, g5, g6, g7⟩ := hB6.fz
    have HB6 : Hid (HB wr b5 ⟨0, 0, 0, 0, 0, 0, 0, 0⟩) := hB6
    clear hB6 hV6
    have M : Hid (Mo wr w2.heap.size b3 u6 H' ⟨k, x, y, s, l, e, o, t⟩) := mo
    have MV : Hid (Mv w2.heap.size b3 w3 wr) := mv
    clear mo mv
    by_cases hlt : m < 400
    · have hlt' : (m : Int) < 400 := by omega
      by_cases h5 : s = 5
      · subst h5
        go_wp2
        have S0 : wr.drew.cell? ⟨b3, 0, none⟩ = some (.int .i64 k) ∧ wr.drew.cell? ⟨b3, 1, none⟩ = some (.int .i64 x) ∧ wr.drew.cell? ⟨b3, 2, none⟩ = some (.int .i64 y) ∧ wr.drew.cell? ⟨b3, 3, none⟩ = some (.int .i64 5) ∧ wr.drew.cell? ⟨b3, 4, none⟩ = some (.int .i64 l) ∧ wr.drew.cell? ⟨b3, 5, none⟩ = some (.int .i64 e) ∧ wr.drew.cell? ⟨b3, 6, none⟩ = some (.int .i64 o) ∧ wr.drew.cell? ⟨b3, 7, none⟩ = some (.int .i64 t) := ⟨c0, c1, c2, c3, c4, c5, c6, c7⟩
        go_region
        go_wp2
        obtain ⟨hb8, hO8⟩ := fill8 HB6.out k x y 5 l e o t
        refine row_tmp_cell rfl rfl rfl hb8.blk Try.underlying58 sizeH rfl ⟨_, H', ⟨k, x, y, 5, l, e, o, t⟩, rfl, (M.out.own.only hO8 hw2).wide (by omega) (Nat.le_of_eq hO8.1.symm), M.out.good, ?_⟩
        exact (((hB1.trans (hB2.mono z1)).trans (hB3.mono (by omega))).trans (MV.out.below (by omega) (by omega))).trans (hO8.2.2 _ (by omega))
      · have f5 : (s == 5) = false := by simpa using h5
        have f5' : (s != 5) = true := by simpa using h5
        go_wp2_with (first | (go_at_call 90; refine (l5Move_any H' _ _ w2.heap.size b3 _ M.out h5).mono ?_; rintro er w4 ⟨v4, H4, d4, rfl, m4, mv4⟩) | (fail))
        go_roundw
        case rel => exact ⟨m + 1, H4, d4, by omega, by go_num, m4, MV.out.trans mv4⟩
        case measure => simp [intOf]; omega
    · have hlt' : ¬ ((m : Int) < 400) := by omega
      go_wp2
      have S0 : wr.drew.cell? ⟨b3, 0, none⟩ = some (.int .i64 k) ∧ wr.drew.cell? ⟨b3, 1, none⟩ = some (.int .i64 x) ∧ wr.drew.cell? ⟨b3, 2, none⟩ = some (.int .i64 y) ∧ wr.drew.cell? ⟨b3, 3, none⟩ = some (.int .i64 s) ∧ wr.drew.cell? ⟨b3, 4, none⟩ = some (.int .i64 l) ∧ wr.drew.cell? ⟨b3, 5, none⟩ = some (.int .i64 e) ∧ wr.drew.cell? ⟨b3, 6, none⟩ = some (.int .i64 o) ∧ wr.drew.cell? ⟨b3, 7, none⟩ = some (.int .i64 t) := ⟨c0, c1, c2, c3, c4, c5, c6, c7⟩
      go_region
      go_wp2
      obtain ⟨hb8, hO8⟩ := fill8 HB6.out k x y s l e o t
      refine row_tmp_cell rfl rfl rfl hb8.blk Try.underlying58 sizeH rfl ⟨_, H', ⟨k, x, y, s, l, e, o, t⟩, rfl, (M.out.own.only hO8 hw2).wide (by omega) (Nat.le_of_eq hO8.1.symm), M.out.good, ?_⟩
      exact (((hB1.trans (hB2.mono z1)).trans (hB3.mono (by omega))).trans (MV.out.below (by omega) (by omega))).trans (hO8.2.2 _ (by omega))

end Go.Proofs.Ythjkhghlhjndmaa.ce
/- What the laws of chapter 3 draw: heaps. -/
namespace Go.Proofs.Ythjkhghlhjndmaa.draw
open Go.ChangeShapes Go.WideShapes Go.ChangeAt Go.RowKit
open Go.Proofs.Ythjkhghlhjndmaa.ce
set_option linter.unusedVariables false

theorem code_below {w w1 : World} {B : Nat} {a0 : Option Addr} {len p : Nat} (h : CodeAt w a0 len) (hb : ∀ b off, a0 = some ⟨b, off, none⟩ → len = 0 ∨ b < p) (hB : Below B w w1) (hp : p ≤ B) : CodeAt w1 a0 len := by
  refine ⟨h.1, ?_⟩
  rcases h.2 with h0 | ⟨b, off, e, hl, hc⟩
  · exact .inl h0
  rcases hb b off e with h0 | hbp
  · exact .inl h0
  · refine .inr ⟨b, off, e, Nat.lt_of_lt_of_le hl hB.size, fun k hk => ?_⟩
    obtain ⟨c, hcell, h1, h2⟩ := hc k hk
    exact ⟨c, by rw [hB.cell (by show b < B; omega)]; exact hcell, h1, h2⟩
theorem cur_below {w w1 : World} {B p : Nat} {a0 : Option Addr} {len cap : Nat} (h : Cur w p a0 len cap) (hB : Below B w w1) (hp : p < B) : Cur w1 p a0 len cap := by
  obtain ⟨hps, hcode, hb, i, hh, hi, c0, c1, c2, f1, f2⟩ := h
  refine ⟨Nat.lt_of_lt_of_le hps hB.size, code_below hcode hb hB (by omega), hb, i, hh, hi, ?_, ?_, ?_, ?_, ?_⟩
  · rw [hB.cell hp]; exact c0
  · rw [hB.cell hp]; exact c1
  · rw [hB.cell hp]; exact c2
  · rw [hB.frozen hp]; exact f1
  · rw [hB.frozen hp]; exact f2
theorem gb_below {w0 w w1 : World} {B : Nat} {r : Option Nat} (h : w0.grownBy w r) (hB : Below B w w1) (hs : w0.heap.size ≤ B) : w0.grownBy w1 r :=
  ⟨hB.os.trans h.os, hB.tape.trans h.tape, hB.output.trans h.output, Nat.le_trans h.size hB.size, fun k hk hn => (hB.block k (by omega)).trans (h.block k hk hn)⟩

/-- the state in which a heap is being drawn -/
structure Ds (w0 w : World) (p : Nat) (a0 : Option Addr) (len cap : Nat) (v : Value) (H : List C) : Prop where
  own : ce.Own w w0.heap.size w.heap.size v H
  good : good H
  cur : Cur w p a0 len cap
  gb : w0.grownBy w (some p)
  pw : p < w0.heap.size
theorem Ds.drawn {w0 w w' : World} {p : Nat} {a0 : Option Addr} {len cap : Nat} {v : Value} {H : List C} (h : Ds w0 w p a0 len cap v H) (g : w.grownBy w' (some p)) (hc : Cur w' p a0 len cap) : Ds w0 w' p a0 len cap v H :=
  ⟨(h.own.keep fun k h1 h2 => g.block k h2 (fun e => by have := h.pw; cases e; omega)).wide (Nat.le_refl _) g.size, h.good, hc, gb_trans h.gb g, h.pw⟩
theorem Ds.anew {w0 w w' : World} {p : Nat} {a0 : Option Addr} {len cap : Nat} {v v' : Value} {H H' : List C} (h : Ds w0 w p a0 len cap v H) (ow : ce.Own w' w.heap.size w'.heap.size v' H') (hg : ce.good H') (hB : Below w.heap.size w w') : Ds w0 w' p a0 len cap v' H' :=
  ⟨ow.wide h.gb.size (Nat.le_refl _), hg, cur_below h.cur hB h.cur.1, gb_below h.gb hB h.gb.size, h.pw⟩
theorem Ds.within {w0 w w' : World} {p : Nat} {a0 : Option Addr} {len cap : Nat} {v : Value} {H H' : List C} (h : Ds w0 w p a0 len cap v H) (ow : ce.Own w' w0.heap.size w.heap.size v H') (hg : ce.good H') (hW : Within w0.heap.size w.heap.size w w') : Ds w0 w' p a0 len cap v H' := by
  have hB : Below w0.heap.size w w' := hW.below (Nat.le_refl _) h.gb.size
  exact ⟨ow.wide (Nat.le_refl _) hW.size, hg, cur_below h.cur hB h.pw, gb_below h.gb hB (Nat.le_refl _), h.pw⟩
theorem good_new : ce.good [c0] := ⟨by simp, fun c hc => by simp at hc; subst hc; simp [c0]⟩

set_option maxHeartbeats 1000000 in
theorem l3Draw_any (w : World) (p : Nat) (a0 : Option Addr) (len cap : Nat) (hc : Cur w p a0 len cap) :
    Calls Try.prog 105 #[.pointer (some ⟨p, 0, none⟩)] w fun e w' => ∃ v, e = .returned v ∧ ∃ H, Ds w w' p a0 len cap v H := by
  have hp := hc.1
  have HC : Hid (Cur w p a0 len cap) := hc
  clear hc
  go_enter Try.func105, Try.ntmps105
  go_wp2_with (first | (go_at_call 51; refine (specNewHeap_any _).mono ?_; rintro er w1 ⟨v1, rfl, ho1, hB1⟩; have ds1 : Ds w w1 p a0 len cap v1 [c0] := ⟨ho1, good_new, cur_below HC.out hB1 hp, gb_below (World.grownBy.refl _ _) hB1 (Nat.le_refl _), hp⟩) | (go_at_call 73; refine (below_from w1 _ p a0 len cap _ (by omega) ds1.cur (World.grownBy.refl _ _)).mono ?_; rintro er w2 ⟨x, rfl, hx0, hx1, hc2, hg2⟩; have ds2 := ds1.drawn hg2 hc2) | (fail))
  obtain ⟨m0, rfl⟩ : ∃ m : Nat, x = m := ⟨x.toNat, by omega⟩
  go_loopw [3, 4] (fun h n wr => ∃ (m : Nat) (H : List C), m ≤ 5 ∧ n = .int .i64 m ∧ Ds w wr p a0 len cap h H) (fun _ n _ => (intOf n).toNat)
  case atStart => exact ⟨m0, _, by omega, rfl, ds2⟩
  case round =>
    obtain ⟨m, H, hm, rfl, ds⟩ := hrel
    have D : Hid (Ds w wr p a0 len cap u3 H) := ds
    clear ds
    by_cases hpos : 0 < m
    · have hpos' : (0 : Int) < m := by omega
      have m1 : Hid True := trivial
      go_wp2_with (first | (clear m1; go_at_call 73; refine (below_from wr _ p a0 len cap _ (by omega) D.out.cur (World.grownBy.refl _ _)).mono ?_; rintro er w4 ⟨x4, rfl, hx40, hx41, hc4, hg4⟩; have d4 := D.out.drawn hg4 hc4) | (go_at_call 73; refine (below_from w4 _ p a0 len cap _ (by omega) d4.cur (World.grownBy.refl _ _)).mono ?_; rintro er w5 ⟨x5, rfl, hx50, hx51, hc5, hg5⟩; have d5 := d4.drawn hg5 hc5) | (go_at_call 109; refine (l5Alone_any H ⟨1, 1 + x4, x5, 0, -1, -1, -1, 0⟩ _ w5.heap.size _ (Nat.le_refl _) d5.own.rd d5.good ⟨rfl, .inl rfl, ⟨by simp, by simp; omega⟩, ⟨by simp, by simp; omega⟩⟩).mono ?_; rintro er w6 ⟨v6, H6, d6, rfl, ho6, hg6, hB6⟩; have ds6 := d5.anew ho6 hg6 hB6) | (fail))
      go_roundw
      case rel => exact ⟨m - 1, H6, by omega, by congr 1; omega, ds6⟩
      case measure => simp [intOf]; omega
    · have hpos' : ¬ ((0 : Int) < m) := by omega
      obtain ⟨g, cap', rfl, hg1, hg2', -⟩ := D.out.own.form D.out.good.1.1
      have hln := D.out.good.1
      have hl := D.out.own.fit
      go_wp2_with (first | (go_at_call 73; refine (below_from wr _ p a0 len cap _ (by omega) D.out.cur (World.grownBy.refl _ _)).mono ?_; rintro er w4 ⟨x4, rfl, hx40, hx41, hc4, hg4⟩; have d4 := D.out.drawn hg4 hc4) | (fail))
      obtain ⟨n0, rfl⟩ : ∃ n : Nat, x4 = n := ⟨x4.toNat, by omega⟩
      obtain ⟨N, hN⟩ := hid_ex H.length
      rw [hN.out] at d4 ⊢
      have hN1 : 1 ≤ N ∧ N ≤ 40 := by rw [← hN.out]; exact hln
      clear hN hln hl D hm hpos hpos'
      go_loopw [5] (fun n wz => ∃ (k : Nat) (L : List C), k ≤ 2 ∧ n = .int .i64 k ∧ L.length = N ∧ Ds w wz p a0 len cap (.slice (some ⟨g, 0, none⟩) N cap') L) (fun n _ => (intOf n).toNat)
      case atStart => exact ⟨n0, H, by omega, rfl, d4.own.len.symm, d4⟩
      case round =>
        obtain ⟨k, L, hk, rfl, hLN, ds⟩ := hrel
        have D : Hid (Ds w wr p a0 len cap (.slice (some ⟨g, 0, none⟩) N cap') L) := ds
        have HL : Hid (L.length = N) := hLN
        clear ds hLN
        by_cases hpos : 0 < k
        · have hpos' : (0 : Int) < k := by omega
          have m1 : Hid True := trivial
          have m2 : Hid True := trivial
          go_wp2_with (first | (clear m1; go_at_call 73; refine (below_from wr _ p a0 len cap _ (by omega) D.out.cur (World.grownBy.refl _ _)).mono ?_; rintro er w5 ⟨x5, rfl, hx50, hx51, hc5, hg5⟩; have d5 := D.out.drawn hg5 hc5) | (clear m2; go_at_call 104; refine (l3Strike_any L x5 (-1) _ w.heap.size w5.heap.size _ d5.own (by rw [HL.out]; omega)).mono ?_; rintro er w6 ⟨rfl, ho6, hW6⟩; have d6 := d5.within ho6 (good_strike1 d5.good _ _) hW6) | (go_at_call 73; refine (below_from w6 _ p a0 len cap _ (by omega) d6.cur (World.grownBy.refl _ _)).mono ?_; rintro er w7 ⟨x7, rfl, hx70, hx71, hc7, hg7⟩; have d7 := d6.drawn hg7 hc7; obtain ⟨i, rfl⟩ : ∃ i : Nat, x7 = i := ⟨x7.toNat, by omega⟩; have hi7 : i < (strike1 L x5 (-1)).length := (by rw [strike1_len, HL.out]; omega); obtain ⟨-, -, y2, -⟩ := d7.own.cell i hi7; have hiN : (i : Int) < N := hx71) | (go_at_call 104; refine (l3Strike_any (strike1 L x5 (-1)) (i : Int) _ _ w.heap.size w7.heap.size _ d7.own (by rw [strike1_len, HL.out]; omega)).mono ?_; rintro er w8 ⟨rfl, ho8, hW8⟩; have d8 := d7.within ho8 (good_strike1 d7.good _ _) hW8) | (fail))
          go_roundw
          case rel => exact ⟨k - 1, _, by omega, by congr 1; omega, by rw [strike1_len, strike1_len, HL.out], d8⟩
          case measure => simp [intOf]; omega
        · have hpos' : ¬ ((0 : Int) < k) := by omega
          go_wp2
          go_ret
          exact ⟨_, rfl, L, D.out⟩

end Go.Proofs.Ythjkhghlhjndmaa.draw
/- What the laws of chapter 3 draw: heaps that may be wrong, and the arguments beside them. -/
namespace Go.Proofs.Ythjkhghlhjndmaa.draw
open Go.ChangeShapes Go.WideShapes Go.ChangeAt Go.RowKit
open Go.Proofs.Ythjkhghlhjndmaa.ce
set_option linter.unusedVariables false

/-- a heap, right or not, has been drawn -/
structure Dn (w0 w : World) (p : Nat) (a0 : Option Addr) (len cap : Nat) (v : Value) (H : List C) : Prop where
  own : ce.Own w w0.heap.size w.heap.size v H
  le : H.length ≤ 40
  cur : Cur w p a0 len cap
  gb : w0.grownBy w (some p)
  pw : p < w0.heap.size
theorem Ds.dn {w0 w : World} {p : Nat} {a0 : Option Addr} {len cap : Nat} {v : Value} {H : List C} (h : Ds w0 w p a0 len cap v H) : Dn w0 w p a0 len cap v H := ⟨h.own, h.good.1.2, h.cur, h.gb, h.pw⟩
theorem Dn.drawn {w0 w w' : World} {p : Nat} {a0 : Option Addr} {len cap : Nat} {v : Value} {H : List C} (h : Dn w0 w p a0 len cap v H) (g : w.grownBy w' (some p)) (hc : Cur w' p a0 len cap) : Dn w0 w' p a0 len cap v H :=
  ⟨(h.own.keep fun k h1 h2 => g.block k h2 (fun e => by have := h.pw; cases e; omega)).wide (Nat.le_refl _) g.size, h.le, hc, gb_trans h.gb g, h.pw⟩
theorem Dn.set {w0 w : World} {p g cap' : Nat} {a0 : Option Addr} {len cap : Nat} {H : List C} (h : Dn w0 w p a0 len cap (.slice (some ⟨g, 0, none⟩) H.length cap') H) (i : Nat) (hi : i < H.length) (j : Nat) (hj : j < 4) (u : Value) (c : C) (hc : cv c = (cv H[i]).set j u) (hg : w0.heap.size ≤ g) :
    Dn w0 (w.setCell ⟨g, i * 4 + j, none⟩ u) p a0 len cap (.slice (some ⟨g, 0, none⟩) H.length cap') (H.set i c) := by
  have hB : Below w0.heap.size w (w.setCell ⟨g, i * 4 + j, none⟩ u) := (Below.refl _ _).setCell hg _
  exact ⟨(h.own.set i hi j hj u c hc).wide (Nat.le_refl _) (by simp), by rw [List.length_set]; exact h.le, cur_below h.cur hB h.pw, gb_below h.gb hB (Nat.le_refl _), h.pw⟩

set_option maxHeartbeats 1000000 in
theorem l3DrawAny_any (w : World) (p : Nat) (a0 : Option Addr) (len cap : Nat) (hc : Cur w p a0 len cap) :
    Calls Try.prog 92 #[.pointer (some ⟨p, 0, none⟩)] w fun e w' => ∃ v, e = .returned v ∧ ∃ H, Dn w w' p a0 len cap v H := by
  have HC : Hid (Cur w p a0 len cap) := hc
  clear hc
  have m1 : Hid True := trivial
  have m2 : Hid True := trivial
  go_enter Try.func92, Try.ntmps92
  go_wp2_with (first | (go_at_call 105; refine (l3Draw_any _ p a0 len cap HC.out).mono ?_; rintro er w1 ⟨v1, rfl, H, ds1⟩; obtain ⟨g, cap', rfl, hg1, hg2, -⟩ := ds1.own.form ds1.good.1.1; have hl := ds1.own.fit; have hln := ds1.good.1) | (go_at_call 68; refine (once_from w1 _ p a0 len cap _ (by omega) ds1.cur (World.grownBy.refl _ _)).mono ?_; rintro er w2 ⟨y, rfl, hc2, hg2⟩; have d2 := ds1.dn.drawn hg2 hc2; cases y) | (clear m1; go_at_call 73; refine (below_from w2 _ p a0 len cap _ (by omega) d2.cur (World.grownBy.refl _ _)).mono ?_; rintro er w3 ⟨x3, rfl, hx30, hx31, hc3, hg3⟩; have d3 := d2.drawn hg3 hc3; obtain ⟨j, rfl⟩ : ∃ j : Nat, x3 = j := ⟨x3.toNat, by omega⟩; have hj : j < H.length := (by omega)) | (clear m2; go_at_call 73; refine (below_from w3 _ p a0 len cap _ (by omega) d3.cur (World.grownBy.refl _ _)).mono ?_; rintro er w4 ⟨s, rfl, hs0, hs1, hc4, hg4⟩; have d4 := d3.drawn hg4 hc4; obtain ⟨y0, y1, y2, y3⟩ := d4.own.cell j hj; have z0 := d4.own.frozen (j * 4); have z2 := d4.own.frozen (j * 4 + 2); have z3 := d4.own.frozen (j * 4 + 3); rcases (by omega : s = 0 ∨ s = 1 ∨ s = 2 ∨ s = 3) with k0 | k1 | k2 | k3) | (clear k0; go_at_call 73; refine (below_lit w4 w4 p a0 len cap [-1, 0, 5, 65535, 65536] _ 5 (-1) 65536 rfl (by omega) (by intro x hx; simp at hx; omega) d4.cur (World.grownBy.refl _ _)).mono ?_; rintro er w5 ⟨x5, n5, rfl, hx50, hx51, hcell5, -, -, hc5, hg5⟩; have d5 := d4.drawn hg5 hc5; obtain ⟨i5, rfl⟩ : ∃ i : Nat, x5 = i := ⟨x5.toNat, by omega⟩; simp only [Int.toNat_natCast] at hcell5; obtain ⟨t0, t1, t2, t3⟩ := d5.own.cell j hj; have tz := d5.own.frozen (j * 4)) | (clear k1; go_at_call 73; refine (below_lit w4 w4 p a0 len cap [-2, -1, 0, 1, 40] _ 5 (-2) 65536 rfl (by omega) (by intro x hx; simp at hx; omega) d4.cur (World.grownBy.refl _ _)).mono ?_; rintro er w5 ⟨x5, n5, rfl, hx50, hx51, hcell5, -, -, hc5, hg5⟩; have d5 := d4.drawn hg5 hc5; obtain ⟨i5, rfl⟩ : ∃ i : Nat, x5 = i := ⟨x5.toNat, by omega⟩; simp only [Int.toNat_natCast] at hcell5; obtain ⟨t0, t1, t2, t3⟩ := d5.own.cell j hj; have tz := d5.own.frozen (j * 4 + 2)) | (fail))
  · go_ret
    exact ⟨_, rfl, H, d2⟩
  · go_ret
    exact ⟨_, rfl, _, d5.set j hj 0 (by omega) (.int .i64 n5) { H[j] with key := n5 } rfl hg1⟩
  · go_ret
    exact ⟨_, rfl, _, d5.set j hj 2 (by omega) (.int .i64 n5) { H[j] with next := n5 } rfl hg1⟩
  · go_ret
    exact ⟨_, rfl, _, d4.set j hj 3 (by omega) (.bool !(H[j]).gone) { H[j] with gone := !(H[j]).gone } rfl hg1⟩
  · go_ret
    exact ⟨_, rfl, [], ⟨(own_empty w4).wide d4.gb.size (by simp), by simp, cur_alloc d4.cur _, gb_alloc d4.gb _, d4.pw⟩⟩

theorem drawAt_from (w0 w : World) (p : Nat) (a0 : Option Addr) (len cap : Nat) (hc : Cur w p a0 len cap) (hg : w0.grownBy w (some p)) :
    Calls Try.prog 106 #[.pointer (some ⟨p, 0, none⟩)] w fun e w' => ∃ x : Int, e = .returned (.int .i64 x) ∧ -1 ≤ x ∧ x ≤ 6 ∧ Cur w' p a0 len cap ∧ w0.grownBy w' (some p) := by
  go_enter Try.func106, Try.ntmps106
  go_wp2_with (go_at_call 66; refine (from_from w0 _ p a0 len cap _ _ (by omega) (by omega) (by omega) (by assumption) (by assumption)).mono ?_; rintro e w1 ⟨x, rfl, hx0, hx1, hc1, hg1⟩)
  go_ret
  exact ⟨_, rfl, by omega, by omega, by assumption, by assumption⟩

theorem results_tmp4 {fn : Func} {t u v x : Tmp} (h : fn.results = #[.tmp t, .tmp u, .tmp v, .tmp x]) (tmps : Array Value) (P : Program) (w : World) :
    (results fn tmps).run P w = .ok (.tuple #[tmps.getD t undef, tmps.getD u undef, tmps.getD v undef, tmps.getD x undef]) w := by
  simp [results, h]

/-- cells that were drawn, as a law reads them -/
structure Dr (w w' : World) (v : Value) (H : List C) : Prop where
  rd : Rd w' w'.heap.size v H
  le : H.length ≤ 40
  bel : Below w.heap.size w w'
theorem Dn.dr {w w1 w' : World} {p : Nat} {a0 : Option Addr} {len cap : Nat} {v : Value} {H : List C} (h : Dn w1 w' p a0 len cap v H) (hB : Below w.heap.size w w1) (hp : w.heap.size ≤ p) : Dr w w' v H :=
  ⟨h.own.rd, h.le, Below.grown hB h.gb hB.size (fun k hk => by cases hk; exact hp)⟩

end Go.Proofs.Ythjkhghlhjndmaa.draw
/- A hand that is in bounds stays so, and so does every other one beside it: plain mathematics. -/
namespace Go.Proofs.Ythjkhghlhjndmaa.ce
open Go.ChangeShapes Go.WideShapes Go.ChangeAt Go.RowKit
set_option linter.unusedVariables false

theorem Bd.le {n n' : Nat} {d : Hd} (h : Bd n d) (hn : n ≤ n') : Bd n' d := ⟨h.kind, h.step, h.here, by have := h.hern; omega, h.mark, by rcases h.own with q | q; (· exact .inl q); (· exact .inr (by omega))⟩
theorem bd_done {n : Nat} {d : Hd} (h : Bd n d) (hn : 1 ≤ n) (yes : Bool) : Bd n (doneD d yes) := ⟨h.kind, by simp [doneD], fun q => by simp [doneD] at q, by show (-1 : Int) < n; omega, fun q => by simp [doneD] at q, h.own⟩
theorem bd_start {n : Nat} {d : Hd} (h : Bd n d) (hn : 1 ≤ n) : Bd n (startD d) := ⟨h.kind, by simp [startD], fun q => by simp [startD] at q, by show (-1 : Int) < n; omega, fun q => by simp [startD] at q, h.own⟩
/-- what a move does to bounds -/
structure Bnd (H : List C) (H' : List C) (d' : Hd) : Prop where
  good : good H'
  bd : Bd H'.length d'
  le : H.length ≤ H'.length
theorem nth_next {H : List C} (hg : good H) (p : Int) (h0 : 0 ≤ p) (h1 : p < (H.length : Int)) : -1 ≤ (nth H p).next ∧ (nth H p).next < (H.length : Int) := nth_fit hg p ⟨h0, h1⟩

theorem move_bd {H : List C} {d : Hd} (hg : good H) (bd : Bd H.length d) : Bnd H (move H d).1 (move H d).2 := by
  have h1 := hg.1.1
  have hk := bd.kind; have hs := bd.step; have hh := bd.here; have hn := bd.hern; have hm := bd.mark; have ho := bd.own
  have same : ∀ d', Bd H.length d' → Bnd H H d' := fun d' q => ⟨hg, q, Nat.le_refl _⟩
  unfold move
  by_cases s0 : d.step = 0
  · rw [if_pos s0]
    have := nth_next hg 0 (by omega) (by omega)
    exact same _ ⟨hk, by simp, fun _ => by show (nth H 0).next = -1 ∨ 0 ≤ (nth H 0).next; omega, this.2, fun q => by simp at q, ho⟩
  rw [if_neg s0]
  by_cases s1 : d.step = 1
  · rw [if_pos s1]
    have hh1 := hh (.inl s1)
    unfold moveW
    by_cases hst : stops H d
    · rw [if_pos hst]
      exact same _ ⟨hk, by simp, fun _ => hh1, hn, fun q => by simp at q, ho⟩
    · rw [if_neg hst]
      have hne : ¬ d.here = -1 := fun q => hst (.inl q)
      have nx := nth_next hg d.here (by omega) hn
      by_cases hgn : (nth H d.here).gone = true
      · rw [if_pos hgn]
        by_cases hsw : swapOk H d.left d.here (nth H d.here).next
        · rw [if_pos hsw]
          refine ⟨good_swapH hg _ _ nx, ?_, by rw [swapH_len]; exact Nat.le_refl _⟩
          rw [swapH_len]
          exact ⟨hk, hs, fun _ => by show (nth H d.here).next = -1 ∨ 0 ≤ (nth H d.here).next; omega, nx.2, fun q => by simp [s1] at q, ho⟩
        · rw [if_neg hsw]; exact same _ (bd_start bd h1)
      · rw [if_neg hgn]
        exact same _ ⟨hk, hs, fun _ => by show (nth H d.here).next = -1 ∨ 0 ≤ (nth H d.here).next; omega, nx.2, fun q => by simp [s1] at q, ho⟩
  rw [if_neg s1]
  by_cases s2 : d.step = 2
  · rw [if_pos s2]
    have hh1 := hh (.inr s2)
    unfold moveA
    by_cases k3 : d.kind = 3
    · rw [if_pos k3]; exact same _ (bd_done bd h1 _)
    rw [if_neg k3]
    by_cases kf : d.kind = 1 ∧ found H d ∨ d.kind = 2 ∧ ¬ found H d
    · rw [if_pos kf]; exact same _ (bd_done bd h1 _)
    rw [if_neg kf]
    by_cases k1 : d.kind = 1
    · rw [if_pos k1]
      unfold movePut
      by_cases own : d.own < 0
      · rw [if_pos own]
        by_cases fn : freshN H d.key d.value d.here < 0
        · rw [if_pos fn]; exact same _ (bd_done bd h1 _)
        · rw [if_neg fn]
          have hok : heapOk H := Decidable.byContradiction fun q => fn (by unfold freshN; rw [if_neg q]; omega)
          have hfo : freshOk H d.key d.value d.here := Decidable.byContradiction fun q => fn (by unfold freshN; rw [if_pos hok, if_neg q]; omega)
          have eH : freshH H d.key d.value d.here = H ++ [cell d.key d.value d.here] := by unfold freshH; rw [if_pos hok, if_pos hfo]
          have eN : freshN H d.key d.value d.here = (H.length : Int) := by unfold freshN; rw [if_pos hok, if_pos hfo]
          rw [eH, eN]
          refine ⟨good_ok hfo, ?_, by simp⟩
          rw [List.length_append, List.length_singleton]
          exact ⟨hk, by simp, fun q => by simp at q, by show d.here < _; omega, fun q => by simp at q, .inr (by show (H.length : Int) < ((H.length + 1 : Nat) : Int); omega)⟩
      · rw [if_neg own]
        refine ⟨good_swapH hg _ _ ⟨by omega, hn⟩, ?_, by rw [swapH_len]; exact Nat.le_refl _⟩
        rw [swapH_len]
        exact ⟨hk, by simp, fun q => by simp at q, hn, fun q => by simp at q, ho⟩
    · rw [if_neg k1]
      have hf : found H d := Decidable.byContradiction fun q => kf (.inr ⟨by omega, q⟩)
      exact same _ ⟨hk, by simp, fun q => by simp at q, hn, fun _ => hf.1, ho⟩
  rw [if_neg s2]
  by_cases s3 : d.step = 3
  · rw [if_pos s3]
    unfold moveL
    by_cases hsw : swapOk H d.left d.here d.own
    · rw [if_pos hsw]
      have q := leads_fit h1 hsw.2
      refine ⟨good_swapH hg _ _ q, ?_, by rw [swapH_len]; exact Nat.le_refl _⟩
      rw [swapH_len]; exact bd_done bd h1 _
    · rw [if_neg hsw]; exact same _ (bd_start bd h1)
  rw [if_neg s3]
  by_cases s4 : d.step = 4
  · rw [if_pos s4]
    unfold moveM
    by_cases hgn : (nth H d.here).gone = true
    · rw [if_pos hgn]; exact same _ (bd_start bd h1)
    · rw [if_neg hgn]
      refine ⟨good_strike1 hg _ _, ?_, by rw [strike1_len]; exact Nat.le_refl _⟩
      rw [strike1_len]; exact bd_done bd h1 _
  rw [if_neg s4]
  exact same _ bd
end Go.Proofs.Ythjkhghlhjndmaa.ce
/- What the laws of chapters 5 and 6 draw: a new hand. -/
namespace Go.Proofs.Ythjkhghlhjndmaa.draw
open Go.ChangeShapes Go.WideShapes Go.ChangeAt Go.RowKit
open Go.Proofs.Ythjkhghlhjndmaa.ce
set_option linter.unusedVariables false

/-- a hand that has not begun -/
structure NewH (d : Hd) : Prop where
  kind : d.kind = 1 ∨ d.kind = 2 ∨ d.kind = 3
  key : 1 ≤ d.key ∧ d.key ≤ 6
  value : 0 ≤ d.value ∧ d.value < 50
  step : d.step = 0
  left : d.left = -1
  here : d.here = -1
  own : d.own = -1
  told : d.told = 0
theorem NewH.bd {d : Hd} (h : NewH d) (n : Nat) (hn : 1 ≤ n) : Bd n d := ⟨h.kind, .inl h.step, fun q => by have := h.step; omega, by have := h.here; omega, fun q => by have := h.step; omega, .inl (by have := h.own; omega)⟩

theorem gb_only {w0 w w' : World} {r : Option Nat} {b : Nat} (h : w0.grownBy w r) (o : Only b w w') (hb : w0.heap.size ≤ b) : w0.grownBy w' r := gb_below h (o.2.2 _ hb) (Nat.le_refl _)
theorem cur_only {w w' : World} {p b : Nat} {a0 : Option Addr} {len cap : Nat} (h : Cur w p a0 len cap) (o : Only b w w') (hb : p < b) : Cur w' p a0 len cap := cur_below h (o.2.2 _ (Nat.le_refl _)) hb

set_option maxHeartbeats 1000000 in
theorem l5DrawHand_any (w : World) (p : Nat) (a0 : Option Addr) (len cap : Nat) (hc : Cur w p a0 len cap) :
    Calls Try.prog 69 #[.pointer (some ⟨p, 0, none⟩)] w fun e w' => ∃ d, e = .returned (.agg (hv d).toArray) ∧ NewH d ∧ Cur w' p a0 len cap ∧ w.grownBy w' (some p) := by
  have hp := hc.1
  have HC : Hid (Cur w p a0 len cap) := hc
  clear hc
  have m1 : Hid True := trivial
  have m2 : Hid True := trivial
  go_enter Try.func69, Try.ntmps69
  go_wp2_with (first | (refine wpList_alloc_v rfl 58 rfl _ zeroH ?_; intro b2 w1 hb2 hw1 hB1 hV1; have hz1 := hB1.size; have hc1 := cur_below HC.out hB1 hp; have hg1 : w.grownBy w1 (some p) := gb_below (World.grownBy.refl _ _) hB1 (Nat.le_refl _)) | (clear m1; go_at_call 73; refine (below_from w1 w1 p a0 len cap _ (by omega) hc1 (World.grownBy.refl _ _)).mono ?_; rintro er w2 ⟨x2, rfl, x20, x21, hc2, hg2⟩) | (clear m2; go_at_call 73; refine (below_from w1 w2 p a0 len cap _ (by omega) hc2 hg2).mono ?_; rintro er w3 ⟨x3, rfl, x30, x31, hc3, hg3⟩) | (go_at_call 73; refine (below_from w1 w3 p a0 len cap _ (by omega) hc3 hg3).mono ?_; rintro er w4 ⟨x4, rfl, x40, x41, hc4, hg4⟩) | (refine wpList_store_v rfl 58 _ _ rfl b2 (hv ⟨1 + x2, 1 + x3, x4, 0, -1, -1, -1, 0⟩) rfl rfl sizeH (hV1.of (hg4.block b2 hw1 (fun q => by cases q; omega))) rfl (hv_one _) ?_; intro w5 hO5 hV5) | (fail))
  refine row_retv rfl rfl hV5 Try.underlying58 sizeH rfl ⟨_, rfl, ⟨by show 1 + x2 = 1 ∨ 1 + x2 = 2 ∨ 1 + x2 = 3; omega, by show 1 ≤ 1 + x3 ∧ 1 + x3 ≤ 6; omega, ⟨x40, x41⟩, rfl, rfl, rfl, rfl, rfl⟩, cur_only hc4 hO5 (by omega), gb_only (gb_trans hg1 hg4) hO5 hb2⟩
end Go.Proofs.Ythjkhghlhjndmaa.draw
/- A crew's variable while a crew is drawn. -/
namespace Go.Proofs.Ythjkhghlhjndmaa.draw
open Go.ChangeShapes Go.WideShapes Go.ChangeAt Go.RowKit
open Go.Proofs.Ythjkhghlhjndmaa.ce
set_option linter.unusedVariables false

/-- a crew lies in its variable b; its heap and its hands are rows of their own -/
structure Cn (w0 w : World) (b p : Nat) (a0 : Option Addr) (len cap : Nat) (vH : Value) (H : List C) (vD : Value) (ds : List Hd) : Prop where
  crew : VBlk w b 31 [vH, vD]
  heap : ce.Own w w0.heap.size w.heap.size vH H
  hands : OwnH w w0.heap.size w.heap.size vD ds
  hb : ∀ g, vH.ownBlock = some g → g ≠ b
  db : ∀ q, vD.ownBlock = some q → q ≠ b
  hd : ∀ g, vH.ownBlock = some g → vD.ownBlock = some g → False
  blo : w0.heap.size ≤ b
  cur : Cur w p a0 len cap
  gb : w0.grownBy w (some p)
  pw : p < w0.heap.size
theorem Cn.z {w0 w : World} {b p : Nat} {a0 : Option Addr} {len cap : Nat} {vH vD : Value} {H : List C} {ds : List Hd} (c : Cn w0 w b p a0 len cap vH H vD ds) : w0.heap.size ≤ w.heap.size := c.gb.size
/-- a draw -/
theorem Cn.drawn {w0 w w' : World} {b p : Nat} {a0 : Option Addr} {len cap : Nat} {vH vD : Value} {H : List C} {ds : List Hd} (c : Cn w0 w b p a0 len cap vH H vD ds) (g : w.grownBy w' (some p)) (hc : Cur w' p a0 len cap) : Cn w0 w' b p a0 len cap vH H vD ds := by
  have hp := c.pw
  have hz := c.z
  have hb := c.blo
  refine ⟨c.crew.of (g.block b c.crew.lt (fun e => by cases e; omega)), (own_keepB c.heap fun k hk => ?_).wide (Nat.le_refl _) g.size, (c.hands.keepB fun k hk => ?_).wide (Nat.le_refl _) g.size, c.hb, c.db, c.hd, hb, hc, gb_trans c.gb g, hp⟩
  · have := own_lo c.heap k hk
    exact g.block k this.2.2 (fun e => by cases e; omega)
  · have := c.hands.lo k hk
    exact g.block k this.2.2 (fun e => by cases e; omega)
/-- a call that turns nothing that was there -/
theorem Cn.below {w0 w w' : World} {b p : Nat} {a0 : Option Addr} {len cap : Nat} {vH vD : Value} {H : List C} {ds : List Hd} (c : Cn w0 w b p a0 len cap vH H vD ds) (hB : Below w.heap.size w w') : Cn w0 w' b p a0 len cap vH H vD ds :=
  ⟨c.crew.of (hB.block b c.crew.lt), (c.heap.below hB (Nat.le_refl _)).wide (Nat.le_refl _) hB.size, (c.hands.below hB (Nat.le_refl _)).wide (Nat.le_refl _) hB.size, c.hb, c.db, c.hd, c.blo, cur_below c.cur hB (by have := c.cur.1; exact this), gb_below c.gb hB c.z, c.pw⟩
/-- one hand more, and the crew's variable knows -/
theorem Cn.appended {w0 w w' w'' : World} {b p : Nat} {a0 : Option Addr} {len cap : Nat} {vH vD v' : Value} {H : List C} {ds ds' : List Hd} (c : Cn w0 w b p a0 len cap vH H vD ds) (g : w.grownBy w' vD.ownBlock) (ho : OwnH w' w0.heap.size w'.heap.size v' ds') (hO : Only b w' w'') (hc : VBlk w'' b 31 [vH, v']) : Cn w0 w'' b p a0 len cap vH H v' ds' := by
  have hz := c.z
  have hp := c.pw
  have hb := c.blo
  have crew' : VBlk w' b 31 [vH, vD] := c.crew.of (g.block b c.crew.lt (fun e => c.db b e.symm rfl))
  have heap' : ce.Own w' w0.heap.size w.heap.size vH H := own_keepB c.heap fun k hk => g.block k (own_lo c.heap k hk).2.2 (fun e => c.hd k hk e.symm)
  have hB0 : Below w0.heap.size w w' := below_grown g hz (fun k hk => (c.hands.lo k hk).1)
  have db' := fun q hq => apart_db ho crew' q hq
  refine ⟨hc, (own_keepB heap' fun k hk => hO.2.1 k (c.hb k hk)).wide (Nat.le_refl _) (by rw [hO.1]; exact g.size), (ho.keepB fun k hk => hO.2.1 k (db' k hk)).wide (Nat.le_refl _) (Nat.le_of_eq hO.1.symm), c.hb, db', fun k h1 h2 => apart_hd heap' ho k h1 h2, hb, ?_, ?_, hp⟩
  · exact cur_only (cur_below c.cur hB0 hp) hO (by omega)
  · exact gb_only (gb_below c.gb hB0 (Nat.le_refl _)) hO hb
/-- the crew's hands are others by now -/
theorem Cn.turnD {w0 w w' : World} {b p : Nat} {a0 : Option Addr} {len cap : Nat} {vH vD vD' : Value} {H : List C} {ds ds' : List Hd} (c : Cn w0 w b p a0 len cap vH H vD ds) (hO : Only b w w') (hc : VBlk w' b 31 [vH, vD']) (hh : OwnH w w0.heap.size w.heap.size vD' ds') (h1 : ∀ q, vD'.ownBlock = some q → q ≠ b) (h2 : ∀ g, vH.ownBlock = some g → vD'.ownBlock = some g → False) : Cn w0 w' b p a0 len cap vH H vD' ds' :=
  ⟨hc, (own_keepB c.heap fun k hk => hO.2.1 k (c.hb k hk)).wide (Nat.le_refl _) (Nat.le_of_eq hO.1.symm), (hh.keepB fun k hk => hO.2.1 k (h1 k hk)).wide (Nat.le_refl _) (Nat.le_of_eq hO.1.symm), c.hb, h1, h2, c.blo, cur_only c.cur hO (by have := c.pw; have := c.blo; omega), gb_only c.gb hO c.blo, c.pw⟩
/-- the crew's heap is another by now -/
theorem Cn.turnH {w0 w w' : World} {b p : Nat} {a0 : Option Addr} {len cap : Nat} {vH vD vH' : Value} {H H' : List C} {ds : List Hd} (c : Cn w0 w b p a0 len cap vH H vD ds) (hO : Only b w w') (hc : VBlk w' b 31 [vH', vD]) (hh : ce.Own w w0.heap.size w.heap.size vH' H') (h1 : ∀ q, vH'.ownBlock = some q → q ≠ b) (h2 : ∀ g, vH'.ownBlock = some g → vD.ownBlock = some g → False) : Cn w0 w' b p a0 len cap vH' H' vD ds :=
  ⟨hc, (own_keepB hh fun k hk => hO.2.1 k (h1 k hk)).wide (Nat.le_refl _) (Nat.le_of_eq hO.1.symm), (c.hands.keepB fun k hk => hO.2.1 k (c.db k hk)).wide (Nat.le_refl _) (Nat.le_of_eq hO.1.symm), h1, c.db, h2, c.blo, cur_only c.cur hO (by have := c.pw; have := c.blo; omega), gb_only c.gb hO c.blo, c.pw⟩
end Go.Proofs.Ythjkhghlhjndmaa.draw
/- What the laws draw: a new crew. -/
namespace Go.Proofs.Ythjkhghlhjndmaa.draw
open Go.ChangeShapes Go.WideShapes Go.ChangeAt Go.RowKit
open Go.Proofs.Ythjkhghlhjndmaa.ce
set_option linter.unusedVariables false

/-- a crew as a call hands it back -/
structure Cr (w0 w : World) (p : Nat) (a0 : Option Addr) (len cap : Nat) (vH : Value) (H : List C) (vD : Value) (ds : List Hd) : Prop where
  heap : ce.Own w w0.heap.size w.heap.size vH H
  hands : OwnH w w0.heap.size w.heap.size vD ds
  hd : ∀ g, vH.ownBlock = some g → vD.ownBlock = some g → False
  cur : Cur w p a0 len cap
  gb : w0.grownBy w (some p)

set_option maxRecDepth 100000 in
set_option maxHeartbeats 2000000 in
theorem l6New_any (w : World) (p : Nat) (a0 : Option Addr) (len cap : Nat) (hc : Cur w p a0 len cap) :
    Calls Try.prog 67 #[.pointer (some ⟨p, 0, none⟩)] w fun e w' => ∃ vH vD, e = .returned (.agg #[vH, vD]) ∧ ∃ ds, Cr w w' p a0 len cap vH [c0] vD ds ∧ ds.length ≤ 4 ∧ ∀ d ∈ ds, NewH d := by
  have hp := hc.1
  have HC : Hid (Cur w p a0 len cap) := hc
  clear hc
  have m1 : Hid True := trivial
  have m2 : Hid True := trivial
  go_enter Try.func67, Try.ntmps67
  go_upto_region 2 with (first | (clear m1; refine wpList_alloc_v rfl 31 rfl _ zeroCr ?_; intro b2 w1 hb2 hw1 hB1 hV1; have hz1 := hB1.size; have hc1 := cur_below HC.out hB1 hp; have hg1 : w.grownBy w1 (some p) := gb_below (World.grownBy.refl _ _) hB1 (Nat.le_refl _)) | (go_at_call 51; refine (specNewHeap_any _).mono ?_; rintro er w2 ⟨v2, rfl, ho2, hB2⟩; have hz2 := hB2.size; obtain ⟨g, cg, rfl, hg1', hg2', -⟩ := ho2.form (by simp)) | (refine wpList_alloc_v rfl 31 rfl _ zeroCr ?_; intro b3 w3 hb3 hw3 hB3 hV3; have hz3 := hB3.size) | (clear m2; refine wpList_store_v rfl 31 _ _ rfl b3 [.slice (some ⟨g, 0, none⟩) 1 cg, .slice none 0 0] rfl rfl sizeCr hV3 rfl (by simp [Value.oneCell']) ?_; intro w4 hO4 hV4; have hz4 := hO4.1) | (fail))
  have cn4 : Cn w1 w4 b3 p a0 len cap (.slice (some ⟨g, 0, none⟩) 1 cg) [c0] (.slice none 0 0) [] := ⟨hV4, ((ho2.below hB3 (Nat.le_refl _)).keep fun j j1 j2 => hO4.2.1 j (by omega)).wide (Nat.le_refl _) (by omega), ownH_none _ _ _, fun j hj => (by cases hj; show g ≠ b3; omega), fun j hj => (by cases hj), fun j _ hj => (by cases hj), by omega, cur_only (cur_below (cur_below hc1 hB2 (by omega)) hB3 (by omega)) hO4 (by omega), gb_only (gb_below (gb_below (World.grownBy.refl _ _) hB2 (Nat.le_refl _)) hB3 (by omega)) hO4 (by omega), by omega⟩
  go_wp2_with (first | (go_at_call 73; refine (below_from w4 w4 p a0 len cap _ (by omega) cn4.cur (World.grownBy.refl _ _)).mono ?_; rintro er w5 ⟨x5, rfl, x50, x51, hc5, hg5⟩; have cn5 := cn4.drawn hg5 hc5) | (fail))
  obtain ⟨m0, rfl⟩ : ∃ m : Nat, x5 = m := ⟨x5.toNat, by omega⟩
  go_loopw [4] (fun n wr => ∃ (m : Nat) (ds : List Hd) (vD : Value), n = .int .i64 m ∧ ds.length + m ≤ 4 ∧ (∀ d ∈ ds, NewH d) ∧ Cn w1 wr b3 p a0 len cap (.slice (some ⟨g, 0, none⟩) 1 cg) [c0] vD ds) (fun n _ => (intOf n).toNat)
  case atStart => exact ⟨m0, [], _, rfl, by simp; omega, by simp, cn5⟩
  case round =>
    obtain ⟨m, ds, vD, rfl, hm, hnew, cn⟩ := hrel
    obtain ⟨va, vc, rfl⟩ := cn.hands.len
    have CN : Hid (Cn w1 wr b3 p a0 len cap (.slice (some ⟨g, 0, none⟩) 1 cg) [c0] (.slice va ds.length vc) ds) := cn
    have NW : Hid (∀ d ∈ ds, NewH d) := hnew
    have hcr1 := cn.crew.cell 1 (by simp)
    simp only [List.getElem_cons_succ, List.getElem_cons_zero] at hcr1
    have HV1 : Hid (VBlk w1 b2 31 [.slice none 0 0, .slice none 0 0]) := hV1
    have HG1 : Hid (w.grownBy w1 (some p)) := hg1
    clear cn hnew cn4 cn5 hV1 hg1 hc1 hg5 hc5 hV4 hO4 hV3 hB3 hB2 ho2
    by_cases hpos : 0 < m
    · have hpos' : (0 : Int) < m := by omega
      go_wp2
      refine wp_region_held_drew (S := fun _ => True) (by kernel_rfl) trivial (fun hHeld => ?_)
      refine takeW 0 13 (.pointer (some ⟨b3, 1, none⟩)) rfl (by kernel_rfl) (by kernel_rfl) (by kernel_rfl) (fun _ _ _ h => h) (by kernel_rfl) (fun w' hS => by go_simp) hHeld ?_
      go_frame
      refine takeW 2 15 (.pointer (some ⟨p, 0, none⟩)) rfl (by kernel_rfl) (by kernel_rfl) (by kernel_rfl) (fun _ _ _ h => h) (by kernel_rfl) (fun w' hS => by go_simp) hHeld ?_
      go_frame
      have cnd := CN.out.below (Below.refl _ _).drew
      refine wpAnyH_ready (rs := [1, 3]) (by kernel_rfl) (by simp) ?_
      refine AllReadyH.cons rfl (fun K hK => ?_) ( AllReadyH.cons rfl (fun K hK => ?_) AllReadyH.nil)
      · have hcr := cnd.crew.cell 1 (by simp)
        simp only [List.getElem_cons_succ, List.getElem_cons_zero] at hcr
        go_simp
        refine hK.out _ _ trivial (fun _ => ?_)
        try go_frame
        clear hcr
        refine wpAnyH_ready (rs := [3]) (by kernel_rfl) (by simp) ?_
        refine AllReadyH.cons rfl (fun K hK => ?_) AllReadyH.nil
        go_simp
        go_at_call 69
        refine (l5DrawHand_any wr.drew p a0 len cap cnd.cur).mono ?_
        rintro er w6 ⟨d6, rfl, hn6, hc6, hg6⟩
        have cn6 := cnd.drawn hg6 hc6
        obtain ⟨k, x, y, s, l, e, o, t⟩ := d6
        dsimp only [hv]
        refine hK.out _ _ trivial (fun _ => ?_)
        try go_frame
        refine wpAnyH_ready (rs := [4]) (by kernel_rfl) (by simp) ?_
        refine AllReadyH.cons rfl (fun K hK => ?_) AllReadyH.nil
        go_simp
        have hB7 : Below w6.heap.size w6 (w6.alloc (.cells #[.int .i64 k, .int .i64 x, .int .i64 y, .int .i64 s, .int .i64 l, .int .i64 e, .int .i64 o, .int .i64 t] 58)) := (Below.refl _ _).alloc (Nat.le_refl _) _
        have hr7 : VBlk (w6.alloc (.cells #[.int .i64 k, .int .i64 x, .int .i64 y, .int .i64 s, .int .i64 l, .int .i64 e, .int .i64 o, .int .i64 t] 58)) w6.heap.size 58 (hv ⟨k, x, y, s, l, e, o, t⟩) := heap_alloc_new _ _
        obtain ⟨w7, hw7⟩ : ∃ w7, w6.alloc (.cells #[.int .i64 k, .int .i64 x, .int .i64 y, .int .i64 s, .int .i64 l, .int .i64 e, .int .i64 o, .int .i64 t] 58) = w7 := ⟨_, rfl⟩
        rw [hw7] at hB7 hr7 ⊢
        have cn7 := cn6.below hB7
        refine hK.out _ _ trivial (fun _ => ?_)
        try go_frame
        refine wpAnyH_ready (rs := [5]) (by kernel_rfl) (by simp) ?_
        refine AllReadyH.cons rfl (fun K3 hK3 => ?_) AllReadyH.nil
        refine step_append_h rfl _ _ 29 rfl Try.underlying29 w1.heap.size w7.heap.size (.slice va ds.length vc) ds rfl cn7.hands cn7.z w6.heap.size ⟨k, x, y, s, l, e, o, t⟩ rfl hr7.range (by omega) ?_
        intro v8 w8 ho8 hg8
        obtain ⟨va8, vc8, rfl⟩ := ho8.len
        have crew8 : VBlk w8 b3 31 [.slice (some ⟨g, 0, none⟩) 1 cg, .slice va ds.length vc] := cn7.crew.of (hg8.block b3 cn7.crew.lt (fun q => cn7.db b3 q.symm rfl))
        refine hK3.out _ _ trivial (fun _ => ?_)
        try go_frame
        refine takeW 6 19 (.pointer (some ⟨b3, 1, none⟩)) rfl (by kernel_rfl) (by kernel_rfl) (by kernel_rfl) (fun _ _ _ h => h) (by kernel_rfl) (fun w' hS => by go_simp) trivial ?_
        go_frame
        refine wpAnyH_ready (rs := [7]) (by kernel_rfl) (by simp) ?_
        refine AllReadyH.cons rfl (fun K4 hK4 => ?_) AllReadyH.nil
        refine step_store_1 rfl _ _ rfl b3 1 va8 (ds ++ [(⟨k, x, y, s, l, e, o, t⟩ : Hd)]).length vc8 rfl rfl crew8 (by simp) ?_
        intro w9 hO9 hV9
        have cn9 := cn7.appended hg8 ho8 hO9 hV9
        refine hK4.out _ _ trivial (fun _ => ?_)
        refine wpAnyH_done (by kernel_rfl) ?_ _
        go_wp2
        go_roundw
        case rel => exact ⟨m - 1, ds ++ [⟨k, x, y, s, l, e, o, t⟩], _, by congr 1; omega, by simp; omega, fun d hd => by rcases List.mem_append.1 hd with q | q; (· exact NW.out d q); (· rw [List.mem_singleton.1 q]; exact hn6), cn9⟩
        case measure => simp [intOf]; omega
      · go_simp
        go_at_call 69
        refine (l5DrawHand_any wr.drew p a0 len cap cnd.cur).mono ?_
        rintro er w6 ⟨d6, rfl, hn6, hc6, hg6⟩
        have cn6 := cnd.drawn hg6 hc6
        obtain ⟨k, x, y, s, l, e, o, t⟩ := d6
        dsimp only [hv]
        refine hK.out _ _ trivial (fun _ => ?_)
        try go_frame
        refine wpAnyH_ready (rs := [1, 4]) (by kernel_rfl) (by simp) ?_
        refine AllReadyH.cons rfl (fun K hK => ?_) ( AllReadyH.cons rfl (fun K hK => ?_) AllReadyH.nil)
        · have hcr := cn6.crew.cell 1 (by simp)
          simp only [List.getElem_cons_succ, List.getElem_cons_zero] at hcr
          go_simp
          refine hK.out _ _ trivial (fun _ => ?_)
          try go_frame
          clear hcr
          refine wpAnyH_ready (rs := [4]) (by kernel_rfl) (by simp) ?_
          refine AllReadyH.cons rfl (fun K hK => ?_) AllReadyH.nil
          go_simp
          have hB7 : Below w6.heap.size w6 (w6.alloc (.cells #[.int .i64 k, .int .i64 x, .int .i64 y, .int .i64 s, .int .i64 l, .int .i64 e, .int .i64 o, .int .i64 t] 58)) := (Below.refl _ _).alloc (Nat.le_refl _) _
          have hr7 : VBlk (w6.alloc (.cells #[.int .i64 k, .int .i64 x, .int .i64 y, .int .i64 s, .int .i64 l, .int .i64 e, .int .i64 o, .int .i64 t] 58)) w6.heap.size 58 (hv ⟨k, x, y, s, l, e, o, t⟩) := heap_alloc_new _ _
          obtain ⟨w7, hw7⟩ : ∃ w7, w6.alloc (.cells #[.int .i64 k, .int .i64 x, .int .i64 y, .int .i64 s, .int .i64 l, .int .i64 e, .int .i64 o, .int .i64 t] 58) = w7 := ⟨_, rfl⟩
          rw [hw7] at hB7 hr7 ⊢
          have cn7 := cn6.below hB7
          refine hK.out _ _ trivial (fun _ => ?_)
          try go_frame
          refine wpAnyH_ready (rs := [5]) (by kernel_rfl) (by simp) ?_
          refine AllReadyH.cons rfl (fun K3 hK3 => ?_) AllReadyH.nil
          refine step_append_h rfl _ _ 29 rfl Try.underlying29 w1.heap.size w7.heap.size (.slice va ds.length vc) ds rfl cn7.hands cn7.z w6.heap.size ⟨k, x, y, s, l, e, o, t⟩ rfl hr7.range (by omega) ?_
          intro v8 w8 ho8 hg8
          obtain ⟨va8, vc8, rfl⟩ := ho8.len
          have crew8 : VBlk w8 b3 31 [.slice (some ⟨g, 0, none⟩) 1 cg, .slice va ds.length vc] := cn7.crew.of (hg8.block b3 cn7.crew.lt (fun q => cn7.db b3 q.symm rfl))
          refine hK3.out _ _ trivial (fun _ => ?_)
          try go_frame
          refine takeW 6 19 (.pointer (some ⟨b3, 1, none⟩)) rfl (by kernel_rfl) (by kernel_rfl) (by kernel_rfl) (fun _ _ _ h => h) (by kernel_rfl) (fun w' hS => by go_simp) trivial ?_
          go_frame
          refine wpAnyH_ready (rs := [7]) (by kernel_rfl) (by simp) ?_
          refine AllReadyH.cons rfl (fun K4 hK4 => ?_) AllReadyH.nil
          refine step_store_1 rfl _ _ rfl b3 1 va8 (ds ++ [(⟨k, x, y, s, l, e, o, t⟩ : Hd)]).length vc8 rfl rfl crew8 (by simp) ?_
          intro w9 hO9 hV9
          have cn9 := cn7.appended hg8 ho8 hO9 hV9
          refine hK4.out _ _ trivial (fun _ => ?_)
          refine wpAnyH_done (by kernel_rfl) ?_ _
          go_wp2
          go_roundw
          case rel => exact ⟨m - 1, ds ++ [⟨k, x, y, s, l, e, o, t⟩], _, by congr 1; omega, by simp; omega, fun d hd => by rcases List.mem_append.1 hd with q | q; (· exact NW.out d q); (· rw [List.mem_singleton.1 q]; exact hn6), cn9⟩
          case measure => simp [intOf]; omega
        · go_simp
          have hB7 : Below w6.heap.size w6 (w6.alloc (.cells #[.int .i64 k, .int .i64 x, .int .i64 y, .int .i64 s, .int .i64 l, .int .i64 e, .int .i64 o, .int .i64 t] 58)) := (Below.refl _ _).alloc (Nat.le_refl _) _
          have hr7 : VBlk (w6.alloc (.cells #[.int .i64 k, .int .i64 x, .int .i64 y, .int .i64 s, .int .i64 l, .int .i64 e, .int .i64 o, .int .i64 t] 58)) w6.heap.size 58 (hv ⟨k, x, y, s, l, e, o, t⟩) := heap_alloc_new _ _
          obtain ⟨w7, hw7⟩ : ∃ w7, w6.alloc (.cells #[.int .i64 k, .int .i64 x, .int .i64 y, .int .i64 s, .int .i64 l, .int .i64 e, .int .i64 o, .int .i64 t] 58) = w7 := ⟨_, rfl⟩
          rw [hw7] at hB7 hr7 ⊢
          have cn7 := cn6.below hB7
          refine hK.out _ _ trivial (fun _ => ?_)
          try go_frame
          refine wpAnyH_ready (rs := [1]) (by kernel_rfl) (by simp) ?_
          refine AllReadyH.cons rfl (fun K hK => ?_) AllReadyH.nil
          have hcr := cn7.crew.cell 1 (by simp)
          simp only [List.getElem_cons_succ, List.getElem_cons_zero] at hcr
          go_simp
          refine hK.out _ _ trivial (fun _ => ?_)
          try go_frame
          clear hcr
          refine wpAnyH_ready (rs := [5]) (by kernel_rfl) (by simp) ?_
          refine AllReadyH.cons rfl (fun K3 hK3 => ?_) AllReadyH.nil
          refine step_append_h rfl _ _ 29 rfl Try.underlying29 w1.heap.size w7.heap.size (.slice va ds.length vc) ds rfl cn7.hands cn7.z w6.heap.size ⟨k, x, y, s, l, e, o, t⟩ rfl hr7.range (by omega) ?_
          intro v8 w8 ho8 hg8
          obtain ⟨va8, vc8, rfl⟩ := ho8.len
          have crew8 : VBlk w8 b3 31 [.slice (some ⟨g, 0, none⟩) 1 cg, .slice va ds.length vc] := cn7.crew.of (hg8.block b3 cn7.crew.lt (fun q => cn7.db b3 q.symm rfl))
          refine hK3.out _ _ trivial (fun _ => ?_)
          try go_frame
          refine takeW 6 19 (.pointer (some ⟨b3, 1, none⟩)) rfl (by kernel_rfl) (by kernel_rfl) (by kernel_rfl) (fun _ _ _ h => h) (by kernel_rfl) (fun w' hS => by go_simp) trivial ?_
          go_frame
          refine wpAnyH_ready (rs := [7]) (by kernel_rfl) (by simp) ?_
          refine AllReadyH.cons rfl (fun K4 hK4 => ?_) AllReadyH.nil
          refine step_store_1 rfl _ _ rfl b3 1 va8 (ds ++ [(⟨k, x, y, s, l, e, o, t⟩ : Hd)]).length vc8 rfl rfl crew8 (by simp) ?_
          intro w9 hO9 hV9
          have cn9 := cn7.appended hg8 ho8 hO9 hV9
          refine hK4.out _ _ trivial (fun _ => ?_)
          refine wpAnyH_done (by kernel_rfl) ?_ _
          go_wp2
          go_roundw
          case rel => exact ⟨m - 1, ds ++ [⟨k, x, y, s, l, e, o, t⟩], _, by congr 1; omega, by simp; omega, fun d hd => by rcases List.mem_append.1 hd with q | q; (· exact NW.out d q); (· rw [List.mem_singleton.1 q]; exact hn6), cn9⟩
          case measure => simp [intOf]; omega
    · have hpos' : ¬ ((0 : Int) < m) := by omega
      have hl4 : ds.length ≤ 4 := by omega
      clear hm hpos
      have hcr0 := CN.out.crew.cell 0 (by simp)
      simp only [List.getElem_cons_zero] at hcr0
      by_cases h2 : 1 < ds.length
      · have h2' : ((1 : Int) < (ds.length : Int)) := by omega
        go_wp2_with (first | (go_at_call 68; refine (once_from wr wr p a0 len cap _ (by omega) CN.out.cur (World.grownBy.refl _ _)).mono ?_; rintro er w6 ⟨y6, rfl, hc6, hg6⟩; have cn6 := CN.out.drawn hg6 hc6; have hcr60 := cn6.crew.cell 0 (by simp); have hcr61 := cn6.crew.cell 1 (by simp); simp only [List.getElem_cons_zero, List.getElem_cons_succ] at hcr60 hcr61; cases y6) | (refine wpList_store_v rfl 31 _ _ rfl b2 [.slice (some ⟨g, 0, none⟩) 1 cg, .slice va ds.length vc] rfl rfl sizeCr (HV1.out.of (cn6.gb.block b2 hw1 (fun q => by cases q; omega))) rfl (by simp [Value.oneCell']) ?_; intro wA hOA hVA; have hzA := hOA.1) | (fail))
        · exact row_retv rfl rfl hVA Try.underlying31 sizeCr rfl ⟨.slice (some ⟨g, 0, none⟩) 1 cg, .slice va ds.length vc, rfl, ds, ⟨((cn6.heap.keep fun j j1 j2 => hOA.2.1 j (by omega)).wide (by omega) (by omega)), ((cn6.hands.keep fun j j1 j2 => hOA.2.1 j (by omega)).wide (by omega) (by omega)), cn6.hd, cur_only cn6.cur hOA (by omega), gb_only (gb_trans HG1.out cn6.gb) hOA (by omega)⟩, hl4, NW.out⟩
        · obtain ⟨q, cq, sp, e9, hq1, hq2, hq3, hVq, hcq1, hcq2, hcq3⟩ := cn6.hands.form (by omega)
          cases e9
          match ds, h2 with
          | d0 :: d1 :: r, _ =>
            have y1 := hVq.cell 1 (by simp [hvs, hv])
            have y9 := hVq.cell 9 (by simp [hvs, hv])
            have yf : w6.frozen? ⟨q, 9, none⟩ = false := hVq.frozen _
            have ey1 : Hid ((hvs (d0 :: d1 :: r) ++ sp)[1]'(by simp [hvs, hv]) = .int .i64 d0.key) := by unfold Hid; simp [hvs, hv]
            rw [ey1.out] at y1
            have hVq' : VBlk (w6.setCell ⟨q, 9, none⟩ (.int .i64 d0.key)) q 58 (hvs (d0 :: { d1 with key := d0.key } :: r) ++ sp) := by
              have := hVq.set 9 (.int .i64 d0.key)
              rw [show (hvs (d0 :: d1 :: r) ++ sp).set 9 (.int .i64 d0.key) = hvs (d0 :: { d1 with key := d0.key } :: r) ++ sp by simp [hvs, hv]] at this
              exact this
            have hO6 := only_set w6 q 9 (.int .i64 d0.key)
            have hdq : ∀ k, k = q → k ≠ b3 := fun k hk => by subst hk; exact cn6.db _ rfl
            have crew7 : VBlk (w6.setCell ⟨q, 9, none⟩ (.int .i64 d0.key)) b3 31 [.slice (some ⟨g, 0, none⟩) 1 cg, .slice (some ⟨q, 0, none⟩) (d0 :: d1 :: r).length vc] := cn6.crew.of (hO6.2.1 b3 (fun z => hdq b3 z rfl))
            have hng : g ≠ q := fun z => cn6.hd g rfl (by rw [z]; rfl)
            have cn7 : Cn w1 (w6.setCell ⟨q, 9, none⟩ (.int .i64 d0.key)).drew b3 p a0 len cap (.slice (some ⟨g, 0, none⟩) 1 cg) [c0] (.slice (some ⟨q, 0, none⟩) (d0 :: { d1 with key := d0.key } :: r).length vc) (d0 :: { d1 with key := d0.key } :: r) :=
              Cn.below ⟨crew7, (own_keepB cn6.heap fun k hk => hO6.2.1 k (by cases hk; exact hng)).wide (Nat.le_refl _) (Nat.le_of_eq hO6.1.symm), (ownH_of hVq' hq1 (by simpa using hq3) hcq1 hcq2 (by simpa [hvs_len] using hcq3)), cn6.hb, cn6.db, cn6.hd, cn6.blo, cur_only cn6.cur hO6 (by omega), gb_only cn6.gb hO6 hq1, cn6.pw⟩ (Below.refl _ _).drew
            have new7 : ∀ d ∈ (d0 :: { d1 with key := d0.key } :: r : List Hd), NewH d := by
              intro d hd
              have n0 := NW.out d0 (by simp)
              have n1 := NW.out d1 (by simp)
              rcases List.mem_cons.1 hd with z | z
              · rw [z]; exact n0
              · rcases List.mem_cons.1 z with z | z
                · rw [z]; exact ⟨n1.kind, n0.key, n1.value, n1.step, n1.left, n1.here, n1.own, n1.told⟩
                · exact NW.out d (by simp [z])
            have l7 : (d0 :: { d1 with key := d0.key } :: r : List Hd).length ≤ 4 := by simpa using hl4
            have C7 : Hid (Cn w1 (w6.setCell ⟨q, 9, none⟩ (.int .i64 d0.key)).drew b3 p a0 len cap (.slice (some ⟨g, 0, none⟩) 1 cg) [c0] (.slice (some ⟨q, 0, none⟩) (d0 :: { d1 with key := d0.key } :: r).length vc) (d0 :: { d1 with key := d0.key } :: r)) := cn7
            have N7 : Hid (∀ d ∈ (d0 :: { d1 with key := d0.key } :: r : List Hd), NewH d) := new7
            obtain ⟨w7, hw7⟩ : ∃ w7, (w6.setCell ⟨q, 9, none⟩ (.int .i64 d0.key)).drew = w7 := ⟨_, rfl⟩
            have R7 := hw7
            go_region
            rw [hw7] at C7
            clear new7 cn7 crew7 hVq' hVq y1 y9 yf hw7 R7 hcr60 hcr61 hO6
            have hcr70 := C7.out.crew.cell 0 (by simp)
            have hcr71 := C7.out.crew.cell 1 (by simp)
            simp only [List.getElem_cons_zero, List.getElem_cons_succ] at hcr70 hcr71
            go_wp2_with (first | (refine wpList_store_v rfl 31 _ _ rfl b2 [.slice (some ⟨g, 0, none⟩) 1 cg, .slice (some ⟨q, 0, none⟩) (d0 :: { d1 with key := d0.key } :: r).length vc] rfl rfl sizeCr (HV1.out.of (C7.out.gb.block b2 hw1 (fun q => by cases q; omega))) rfl (by simp [Value.oneCell']) ?_; intro wE hOE hVE; have hzE := hOE.1) | (fail))
            exact row_retv rfl rfl hVE Try.underlying31 sizeCr rfl ⟨.slice (some ⟨g, 0, none⟩) 1 cg, .slice (some ⟨q, 0, none⟩) (d0 :: { d1 with key := d0.key } :: r).length vc, rfl, (d0 :: { d1 with key := d0.key } :: r), ⟨((C7.out.heap.keep fun j j1 j2 => hOE.2.1 j (by omega)).wide (by omega) (by omega)), ((C7.out.hands.keep fun j j1 j2 => hOE.2.1 j (by omega)).wide (by omega) (by omega)), C7.out.hd, cur_only C7.out.cur hOE (by omega), gb_only (gb_trans HG1.out C7.out.gb) hOE (by omega)⟩, l7, N7.out⟩
      · have h2' : ¬ ((1 : Int) < (ds.length : Int)) := by omega
        go_wp2_with (first | (refine wpList_store_v rfl 31 _ _ rfl b2 [.slice (some ⟨g, 0, none⟩) 1 cg, .slice va ds.length vc] rfl rfl sizeCr (HV1.out.of (CN.out.gb.block b2 hw1 (fun q => by cases q; omega))) rfl (by simp [Value.oneCell']) ?_; intro wB hOB hVB; have hzB := hOB.1) | (fail))
        exact row_retv rfl rfl hVB Try.underlying31 sizeCr rfl ⟨.slice (some ⟨g, 0, none⟩) 1 cg, .slice va ds.length vc, rfl, ds, ⟨((CN.out.heap.keep fun j j1 j2 => hOB.2.1 j (by omega)).wide (by omega) (by omega)), ((CN.out.hands.keep fun j j1 j2 => hOB.2.1 j (by omega)).wide (by omega) (by omega)), CN.out.hd, cur_only CN.out.cur hOB (by omega), gb_only (gb_trans HG1.out CN.out.gb) hOB (by omega)⟩, hl4, NW.out⟩
end Go.Proofs.Ythjkhghlhjndmaa.draw
/- The model's pick in a crew's own variable. -/
namespace Go.Proofs.Ythjkhghlhjndmaa.draw
open Go.ChangeShapes Go.WideShapes Go.ChangeAt Go.RowKit
open Go.Proofs.Ythjkhghlhjndmaa.ce
set_option linter.unusedVariables false

theorem pick_cn {w0 w w2 w3 : World} {b p g q cg cq i g2 cap2 : Nat} {a0 : Option Addr} {len cap : Nat} {H H2 : List C} {ds : List Hd} {sp : List Value} {d2 : Hd} (c : Cn w0 w b p a0 len cap (.slice (some ⟨g, 0, none⟩) H.length cg) H (.slice (some ⟨q, 0, none⟩) ds.length cq) ds) (hi : i < ds.length)
    (hVq : VBlk w q 58 (hvs ds ++ sp)) (hq1 : w0.heap.size ≤ q) (hcq1 : ds.length ≤ cq) (hcq2 : cq ≤ maxLen) (hcq3 : (hvs ds ++ sp).length = cq * 8)
    (me : Me w2 (b + 1) g2 q (i * 8) 58 (hvs (ds.take i)) (hvs (ds.drop (i + 1)) ++ sp) (.slice (some ⟨g2, 0, none⟩) H2.length cap2) H2 d2) (mv : Mw (b + 1) q w.drew w2) (hO : Only b w2 w3) (hV : VBlk w3 b 31 [.slice (some ⟨g2, 0, none⟩) H2.length cap2, .slice (some ⟨q, 0, none⟩) ds.length cq]) :
    Cn w0 w3 b p a0 len cap (.slice (some ⟨g2, 0, none⟩) H2.length cap2) H2 (.slice (some ⟨q, 0, none⟩) ds.length cq) (ds.set i d2) := by
  have hp := c.pw
  have hb := c.blo
  have hz := c.z
  have hqb : q ≠ b := c.db q rfl
  have hgl := me.glo
  have hgw := me.gw
  have hsz : w.heap.size ≤ w2.heap.size := mv.size
  have hz3 := hO.1
  have hB : Below w0.heap.size w w2 := by
    have := mv.below (B := w0.heap.size) (by omega) hq1
    exact ⟨this.os, this.tape, this.output, this.size, this.block⟩
  have hqw : q < w.heap.size := (c.hands.lo q rfl).2.2
  have hrow : VBlk w3 q 58 (hvs (ds.set i d2) ++ sp) := by
    have h8 := me.hand
    rw [Nat.mul_comm i 8] at h8
    exact (HA.to_row hi h8).of (hO.2.1 q hqb)
  have own3 : ce.Own w3 w0.heap.size w3.heap.size (.slice (some ⟨g2, 0, none⟩) H2.length cap2) H2 := (own_keepB me.own fun k hk => hO.2.1 k (by cases hk; show g2 ≠ b; omega)).wide (by omega) (by omega)
  have hands3 : OwnH w3 w0.heap.size w3.heap.size (.slice (some ⟨q, 0, none⟩) (ds.set i d2).length cq) (ds.set i d2) := ownH_of hrow hq1 (by omega) (by simpa using hcq1) hcq2 (by simpa [hvs_len] using hcq3)
  rw [List.length_set] at hands3
  exact ⟨hV, own3, hands3, fun k hk => (by cases hk; show g2 ≠ b; omega), fun k hk => (by cases hk; exact hqb), fun k h1 h2 => apart_hd own3 hands3 k h1 h2, hb, cur_only (cur_below c.cur hB hp) hO (by omega), gb_only (gb_below c.gb hB (Nat.le_refl _)) hO hb, hp⟩

set_option maxRecDepth 100000 in
set_option maxHeartbeats 2000000 in
theorem l6Pick_any (w0 w : World) (b p : Nat) (a0 : Option Addr) (len cap : Nat) (vH : Value) (H : List C) (vD : Value) (ds : List Hd) (c : Cn w0 w b p a0 len cap vH H vD ds) (hgb : ∀ g, vH.ownBlock = some g → b < g) (hlen : 1 ≤ H.length ∧ H.length ≤ 40) (hl : ds.length ≤ 1000) (i : Nat) (hi : i < ds.length) (bd : Bd H.length ds[i]) :
    Calls Try.prog 61 #[.pointer (some ⟨b, 0, none⟩), .int .i64 (i : Int)] w fun e w' => ∃ y : Bool, e = .returned (.bool y) ∧ ∃ vH', Cn w0 w' b p a0 len cap vH' (pickH H ds i hi) vD (pickD H ds i hi) ∧ ∀ g, vH'.ownBlock = some g → b < g := by
  obtain ⟨q, cq, sp, rfl, hq1, hq2, hq3, hVq, hcq1, hcq2, hcq3⟩ := c.hands.form (by omega)
  obtain ⟨g, cg, rfl, hg1, hg2, -⟩ := c.heap.form hlen.1
  have hha := HA.of_row hVq i hi
  have hcr0 := c.crew.cell 0 (by simp)
  have hcr1 := c.crew.cell 1 (by simp)
  simp only [List.getElem_cons_zero, List.getElem_cons_succ] at hcr0 hcr1
  obtain ⟨d, hd⟩ : ∃ d, ds[i] = d := ⟨_, rfl⟩
  rw [hd] at hha bd
  have CN : Hid (Cn w0 w b p a0 len cap (.slice (some ⟨g, 0, none⟩) H.length cg) H (.slice (some ⟨q, 0, none⟩) ds.length cq) ds) := c
  have BD : Hid (Bd H.length d) := bd
  have VQ : Hid (VBlk w q 58 (hvs ds ++ sp)) := hVq
  have HAH : Hid (HA w q (8 * i) 58 (hvs (ds.take i)) (hvs (ds.drop (i + 1)) ++ sp) d) := hha
  have hi' : (i : Int) < (ds.length : Int) := by omega
  have hst := hha.cell 3 (by omega)
  have hst' : w.cell? ⟨q, i * 8 + 3, none⟩ = some (.int .i64 d.step) := by rw [Nat.mul_comm i 8]; exact hst
  have hbg : b < g := hgb g rfl
  have GL : Hid (1 ≤ H.length ∧ H.length ≤ 40) := hlen
  have hqb : b ≠ q := fun z => c.db q rfl z.symm
  have hgq : g ≠ q := fun z => c.hd g rfl (by rw [z]; rfl)
  have hbw : b < w.heap.size := c.crew.lt
  clear hst c bd hVq hha hgb
  by_cases h5 : d.step = 5
  · have g5 : (d.step == 5) = true := by simpa using h5
    have e1 : Hid (pickH H ds i hi = H) := if_pos (by rw [hd]; exact h5)
    have e2 : Hid (pickD H ds i hi = ds) := if_pos (by rw [hd]; exact h5)
    rw [e1.out, e2.out]
    clear h5 hd
    go_enter Try.func61, Try.ntmps61
    go_wp2
    go_ret
    exact ⟨_, rfl, _, CN.out, fun k hk => by cases hk; exact hbg⟩
  · have g5 : (d.step == 5) = false := by simpa using h5
    have e1 : Hid (pickH H ds i hi = (ce.move H d).1) := by unfold Hid pickH; rw [if_neg (by rw [hd]; exact h5), hd]
    have e2 : Hid (pickD H ds i hi = ds.set i (ce.move H d).2) := by unfold Hid pickD; rw [if_neg (by rw [hd]; exact h5), hd]
    rw [e1.out, e2.out]
    clear h5 hd
    go_enter Try.func61, Try.ntmps61
    go_wp2
    refine wp_region_held_drew (S := fun _ => True) (by kernel_rfl) trivial (fun hHeld => ?_)
    refine takeW 0 27 (.pointer (some ⟨b, 0, none⟩)) rfl (by kernel_rfl) (by kernel_rfl) (by kernel_rfl) (fun _ _ _ h => h) (by kernel_rfl) (fun w' hS => by go_simp) hHeld ?_
    go_frame
    refine takeW 1 28 (.pointer (some ⟨b, 0, none⟩)) rfl (by kernel_rfl) (by kernel_rfl) (by kernel_rfl) (fun _ _ _ h => h) (by kernel_rfl) (fun w' hS => by go_simp) hHeld ?_
    go_frame
    refine takeW 2 29 (.pointer (some ⟨b, 0, none⟩)) rfl (by kernel_rfl) (by kernel_rfl) (by kernel_rfl) (fun _ _ _ h => h) (by kernel_rfl) (fun w' hS => by go_simp) hHeld ?_
    go_frame
    refine takeW 3 30 (.pointer (some ⟨b, 0, none⟩)) rfl (by kernel_rfl) (by kernel_rfl) (by kernel_rfl) (fun _ _ _ h => h) (by kernel_rfl) (fun w' hS => by go_simp) hHeld ?_
    go_frame
    refine takeW 5 32 (.pointer (some ⟨b, 0, none⟩)) rfl (by kernel_rfl) (by kernel_rfl) (by kernel_rfl) (fun _ _ _ h => h) (by kernel_rfl) (fun w' hS => by go_simp) hHeld ?_
    go_frame
    refine takeW 6 33 (.pointer (some ⟨b, 0, none⟩)) rfl (by kernel_rfl) (by kernel_rfl) (by kernel_rfl) (fun _ _ _ h => h) (by kernel_rfl) (fun w' hS => by go_simp) hHeld ?_
    go_frame
    refine takeW 7 34 (.pointer (some ⟨b, 1, none⟩)) rfl (by kernel_rfl) (by kernel_rfl) (by kernel_rfl) (fun _ _ _ h => h) (by kernel_rfl) (fun w' hS => by go_simp) hHeld ?_
    go_frame
    refine takeW 9 36 (.int .i64 (i : Int)) rfl (by kernel_rfl) (by kernel_rfl) (by kernel_rfl) (fun _ _ _ h => h) (by kernel_rfl) (fun w' hS => by go_simp) hHeld ?_
    go_frame
    have hcr0d : w.drew.cell? ⟨b, 0, none⟩ = some (.slice (some ⟨g, 0, none⟩) H.length cg) := hcr0
    have hcr1d : w.drew.cell? ⟨b, 1, none⟩ = some (.slice (some ⟨q, 0, none⟩) ds.length cq) := hcr1
    refine wpAnyH_ready (rs := [4, 8]) (by kernel_rfl) (by simp) ?_
    refine AllReadyH.cons rfl (fun K hK => ?_) ( AllReadyH.cons rfl (fun K hK => ?_) AllReadyH.nil)
    · go_simp
      refine hK.out _ _ trivial (fun _ => ?_)
      try go_frame
      refine wpAnyH_ready (rs := [8]) (by kernel_rfl) (by simp) ?_
      refine AllReadyH.cons rfl (fun K hK => ?_) AllReadyH.nil
      go_simp
      refine hK.out _ _ trivial (fun _ => ?_)
      try go_frame
      refine takeW 10 37 (.pointer (some ⟨q, i * 8, none⟩)) rfl (by kernel_rfl) (by kernel_rfl) (by kernel_rfl) (fun _ _ _ h => h) (by kernel_rfl) (fun w' hS => by go_simp) trivial ?_
      go_frame
      refine wpAnyH_ready (rs := [11]) (by kernel_rfl) (by simp) ?_
      refine AllReadyH.cons rfl (fun K hK => ?_) AllReadyH.nil
      go_simp
      go_at_call 90
      have me : Me w.drew (b + 1) g q (i * 8) 58 (hvs (ds.take i)) (hvs (ds.drop (i + 1)) ++ sp) (.slice (some ⟨g, 0, none⟩) H.length cg) H d := ⟨own_block CN.out.heap, by omega, hgq, by show g < w.heap.size; omega, by rw [Nat.mul_comm i 8]; exact ⟨HAH.out.blk, HAH.out.off⟩, by show b + 1 ≤ w.heap.size; exact hbw, GL.out⟩
      refine (l5MoveA H d (.slice (some ⟨g, 0, none⟩) H.length cg) (b + 1) g q (i * 8) 58 _ _ w.drew me BD.out).mono ?_
      rintro er w2 ⟨v2, g2, rfl, me2, mv2⟩
      obtain ⟨cap2, rfl⟩ := me2.form
      have crew2 : VBlk w2 b 31 [.slice (some ⟨g, 0, none⟩) H.length cg, .slice (some ⟨q, 0, none⟩) ds.length cq] := CN.out.crew.of (mv2.block b (by omega) hqb)
      refine hK.out _ _ trivial (fun _ => ?_)
      try go_frame
      refine takeW 12 39 (.pointer (some ⟨b, 0, none⟩)) rfl (by kernel_rfl) (by kernel_rfl) (by kernel_rfl) (fun _ _ _ h => h) (by kernel_rfl) (fun w' hS => by go_simp) trivial ?_
      go_frame
      refine takeW 13 40 (.pointer (some ⟨b, 0, none⟩)) rfl (by kernel_rfl) (by kernel_rfl) (by kernel_rfl) (fun _ _ _ h => h) (by kernel_rfl) (fun w' hS => by go_simp) trivial ?_
      go_frame
      refine wpAnyH_ready (rs := [14]) (by kernel_rfl) (by simp) ?_
      refine AllReadyH.cons rfl (fun K2 hK2 => ?_) AllReadyH.nil
      refine step_store_c rfl _ _ rfl b 0 (some ⟨g2, 0, none⟩) (ce.move H d).1.length cap2 rfl rfl crew2 (by simp) ?_
      intro w3 hO3 hV3
      refine hK2.out _ _ trivial (fun _ => ?_)
      refine wpAnyH_done (by kernel_rfl) ?_ _
      go_wp2
      go_ret
      exact ⟨_, rfl, _, pick_cn CN.out hi VQ.out hq1 hcq1 hcq2 hcq3 me2 mv2 hO3 hV3, fun k hk => by cases hk; have := me2.glo; show b < g2; omega⟩
    · go_simp
      refine hK.out _ _ trivial (fun _ => ?_)
      try go_frame
      refine takeW 10 37 (.pointer (some ⟨q, i * 8, none⟩)) rfl (by kernel_rfl) (by kernel_rfl) (by kernel_rfl) (fun _ _ _ h => h) (by kernel_rfl) (fun w' hS => by go_simp) trivial ?_
      go_frame
      refine wpAnyH_ready (rs := [4]) (by kernel_rfl) (by simp) ?_
      refine AllReadyH.cons rfl (fun K hK => ?_) AllReadyH.nil
      go_simp
      refine hK.out _ _ trivial (fun _ => ?_)
      try go_frame
      refine wpAnyH_ready (rs := [11]) (by kernel_rfl) (by simp) ?_
      refine AllReadyH.cons rfl (fun K hK => ?_) AllReadyH.nil
      go_simp
      go_at_call 90
      have me : Me w.drew (b + 1) g q (i * 8) 58 (hvs (ds.take i)) (hvs (ds.drop (i + 1)) ++ sp) (.slice (some ⟨g, 0, none⟩) H.length cg) H d := ⟨own_block CN.out.heap, by omega, hgq, by show g < w.heap.size; omega, by rw [Nat.mul_comm i 8]; exact ⟨HAH.out.blk, HAH.out.off⟩, by show b + 1 ≤ w.heap.size; exact hbw, GL.out⟩
      refine (l5MoveA H d (.slice (some ⟨g, 0, none⟩) H.length cg) (b + 1) g q (i * 8) 58 _ _ w.drew me BD.out).mono ?_
      rintro er w2 ⟨v2, g2, rfl, me2, mv2⟩
      obtain ⟨cap2, rfl⟩ := me2.form
      have crew2 : VBlk w2 b 31 [.slice (some ⟨g, 0, none⟩) H.length cg, .slice (some ⟨q, 0, none⟩) ds.length cq] := CN.out.crew.of (mv2.block b (by omega) hqb)
      refine hK.out _ _ trivial (fun _ => ?_)
      try go_frame
      refine takeW 12 39 (.pointer (some ⟨b, 0, none⟩)) rfl (by kernel_rfl) (by kernel_rfl) (by kernel_rfl) (fun _ _ _ h => h) (by kernel_rfl) (fun w' hS => by go_simp) trivial ?_
      go_frame
      refine takeW 13 40 (.pointer (some ⟨b, 0, none⟩)) rfl (by kernel_rfl) (by kernel_rfl) (by kernel_rfl) (fun _ _ _ h => h) (by kernel_rfl) (fun w' hS => by go_simp) trivial ?_
      go_frame
      refine wpAnyH_ready (rs := [14]) (by kernel_rfl) (by simp) ?_
      refine AllReadyH.cons rfl (fun K2 hK2 => ?_) AllReadyH.nil
      refine step_store_c rfl _ _ rfl b 0 (some ⟨g2, 0, none⟩) (ce.move H d).1.length cap2 rfl rfl crew2 (by simp) ?_
      intro w3 hO3 hV3
      refine hK2.out _ _ trivial (fun _ => ?_)
      refine wpAnyH_done (by kernel_rfl) ?_ _
      go_wp2
      go_ret
      exact ⟨_, rfl, _, pick_cn CN.out hi VQ.out hq1 hcq1 hcq2 hcq3 me2 mv2 hO3 hV3, fun k hk => by cases hk; have := me2.glo; show b < g2; omega⟩
end Go.Proofs.Ythjkhghlhjndmaa.draw
/- What the laws draw: a crew under way. -/
namespace Go.Proofs.Ythjkhghlhjndmaa.draw
open Go.ChangeShapes Go.WideShapes Go.ChangeAt Go.RowKit
open Go.Proofs.Ythjkhghlhjndmaa.ce
set_option linter.unusedVariables false

/-- heap and hands that may be moved -/
structure Fit (H : List C) (ds : List Hd) : Prop where
  good : ce.good H
  le : ds.length ≤ 4
  bd : ∀ d ∈ ds, Bd H.length d
theorem Fit.pick {H : List C} {ds : List Hd} (f : Fit H ds) (i : Nat) (hi : i < ds.length) : Fit (pickH H ds i hi) (pickD H ds i hi) ∧ (pickD H ds i hi).length = ds.length := by
  unfold pickH pickD
  by_cases h5 : ds[i].step = 5
  · rw [if_pos h5, if_pos h5]; exact ⟨f, rfl⟩
  · rw [if_neg h5, if_neg h5]
    have hb := move_bd f.good (f.bd _ (List.getElem_mem hi))
    refine ⟨⟨hb.good, by rw [List.length_set]; exact f.le, fun d hd => ?_⟩, by rw [List.length_set]⟩
    rcases List.mem_or_eq_of_mem_set hd with q | q
    · exact (f.bd d q).le hb.le
    · rw [q]; exact hb.bd

set_option maxRecDepth 100000 in
set_option maxHeartbeats 2000000 in
theorem l6Draw_any (w : World) (p : Nat) (a0 : Option Addr) (len cap : Nat) (hc : Cur w p a0 len cap) :
    Calls Try.prog 91 #[.pointer (some ⟨p, 0, none⟩)] w fun e w' => ∃ vH vD, e = .returned (.agg #[vH, vD]) ∧ ∃ H ds, Cr w w' p a0 len cap vH H vD ds ∧ Fit H ds := by
  have hp := hc.1
  have HC : Hid (Cur w p a0 len cap) := hc
  clear hc
  have m1 : Hid True := trivial
  have m2 : Hid True := trivial
  go_enter Try.func91, Try.ntmps91
  go_upto_region 3 with (first | (clear m1; refine wpList_alloc_v rfl 31 rfl _ zeroCr ?_; intro b2 w1 hb2 hw1 hB1 hV1; have hz1 := hB1.size; have hc1 := cur_below HC.out hB1 hp; have hg1 : w.grownBy w1 (some p) := gb_below (World.grownBy.refl _ _) hB1 (Nat.le_refl _)) | (go_at_call 67; refine (l6New_any _ p a0 len cap hc1).mono ?_; rintro er w2 ⟨vH2, vD, rfl, ds, cr2, hl4, hnew⟩; have hz2 := cr2.gb.size; obtain ⟨va, vc, rfl⟩ := cr2.hands.len; obtain ⟨gH, cH, rfl, -, -, -⟩ := cr2.heap.form (by simp)) | (refine wpList_alloc_v rfl 31 rfl _ zeroCr ?_; intro b3 w3 hb3 hw3 hB3 hV3; have hz3 := hB3.size) | (clear m2; refine wpList_store_v rfl 31 _ _ rfl b3 [.slice (some ⟨gH, 0, none⟩) 1 cH, .slice va ds.length vc] rfl rfl sizeCr hV3 rfl (by simp [Value.oneCell']) ?_; intro w4 hO4 hV4; have hz4 := hO4.1; have hc4 := cur_only (cur_below cr2.cur hB3 cr2.cur.1) hO4 (by have := cr2.cur.1; omega)) | (go_at_call 105; refine (l3Draw_any w4 p a0 len cap hc4).mono ?_; rintro er w5 ⟨v5, rfl, H5, ds5⟩; have hz5 := ds5.gb.size; obtain ⟨g, cg, rfl, hgl, hgh, -⟩ := ds5.own.form ds5.good.1.1) | (refine wpList_store_1 rfl _ _ rfl b3 0 (some ⟨g, 0, none⟩) H5.length cg rfl rfl (hV4.of (ds5.gb.block b3 (by omega) (fun q => by cases q; omega))) (by simp) ?_; intro w6 hO6 hV6; have hz6 := hO6.1) | (fail))
  have hands5 : OwnH w5 w1.heap.size w2.heap.size (.slice va ds.length vc) ds := ((cr2.hands.below hB3 (Nat.le_refl _)).keep fun j j1 j2 => hO4.2.1 j (by omega)).keep fun j j1 j2 => ds5.gb.block j (by omega) (fun q => by cases q; omega)
  have hands6 : OwnH w6 w1.heap.size w6.heap.size (.slice va ds.length vc) ds := (hands5.keep fun j j1 j2 => hO6.2.1 j (by omega)).wide (Nat.le_refl _) (by omega)
  have heap6 : ce.Own w6 w1.heap.size w6.heap.size (.slice (some ⟨g, 0, none⟩) H5.length cg) H5 := (ds5.own.keep fun j j1 j2 => hO6.2.1 j (by omega)).wide (by omega) (by omega)
  have gb4 : w1.grownBy w4 (some p) := gb_only (gb_below cr2.gb hB3 (by omega)) hO4 (by omega)
  have cn6 : Cn w1 w6 b3 p a0 len cap (.slice (some ⟨g, 0, none⟩) H5.length cg) H5 (.slice va ds.length vc) ds := ⟨hV6, heap6, hands6, fun k hk => apart_hb heap6 hV6 k hk, fun k hk => apart_db hands6 hV6 k hk, fun k h1 h2 => apart_hd heap6 hands6 k h1 h2, by omega, cur_only ds5.cur hO6 (by omega), gb_only (gb_trans gb4 ds5.gb) hO6 (by omega), by omega⟩
  have ft6 : Fit H5 ds := ⟨ds5.good, hl4, fun d hd => (hnew d hd).bd _ ds5.good.1.1⟩
  have hgb6 : b3 < g := by omega
  have HV1 : Hid (VBlk w1 b2 31 [.slice none 0 0, .slice none 0 0]) := hV1
  have HG1 : Hid (w.grownBy w1 (some p)) := hg1
  clear hands5 hands6 heap6 hV1 hg1 hc1 cr2 hnew hB3 hV3 hV4 hc4 hO4 hV6 hO6 gb4
  go_wp2_with (first | (go_at_call 73; refine (below_from w6 w6 p a0 len cap _ (by omega) cn6.cur (World.grownBy.refl _ _)).mono ?_; rintro er w7 ⟨x7, rfl, x70, x71, hc7, hg7⟩; have cn7 := cn6.drawn hg7 hc7) | (fail))
  obtain ⟨m0, rfl⟩ : ∃ m : Nat, x7 = m := ⟨x7.toNat, by omega⟩
  obtain ⟨N, hN⟩ := hid_ex ds.length
  rw [hN.out] at cn7 hl4
  go_loopw [4] (fun n wr => ∃ (m : Nat) (H : List C) (vH : Value) (es : List Hd), n = .int .i64 m ∧ m ≤ 49 ∧ es.length = N ∧ Fit H es ∧ Cn w1 wr b3 p a0 len cap vH H (.slice va N vc) es ∧ ∀ k, vH.ownBlock = some k → b3 < k) (fun n _ => (intOf n).toNat)
  case atStart => exact ⟨m0, H5, _, ds, rfl, by omega, hN.out, ft6, cn7, fun k hk => by cases hk; exact hgb6⟩
  case round =>
    obtain ⟨m, H, vH, es, rfl, hm, hes, ft, cn, hgb⟩ := hrel
    have CN : Hid (Cn w1 wr b3 p a0 len cap vH H (.slice va N vc) es) := cn
    have FT : Hid (Fit H es) := ft
    have GB : Hid (∀ k, vH.ownBlock = some k → b3 < k) := hgb
    have HE : Hid (es.length = N) := hes
    obtain ⟨gv, cv', rfl, -, -, -⟩ := cn.heap.form ft.good.1.1
    have hcr0 := cn.crew.cell 0 (by simp)
    have hcr1 := cn.crew.cell 1 (by simp)
    simp only [List.getElem_cons_zero, List.getElem_cons_succ] at hcr0 hcr1
    clear cn ft hgb hes cn6 cn7 ft6 ds5
    by_cases hpos : 0 < m
    · have hpos' : (0 : Int) < m := by omega
      by_cases hN0 : 0 < N
      · have hN0' : (0 : Int) < (N : Int) := by omega
        have hN1 : (N : Int) ≤ 4 := by omega
        go_wp2_with (first | (go_at_call 73; refine (below_from wr wr p a0 len cap _ (by omega) CN.out.cur (World.grownBy.refl _ _)).mono ?_; rintro er w8 ⟨x8, rfl, x80, x81, hc8, hg8⟩; have cn8 := CN.out.drawn hg8 hc8; obtain ⟨i, rfl⟩ : ∃ i : Nat, x8 = i := ⟨x8.toNat, by omega⟩; have hi : i < es.length := (by rw [HE.out]; omega)) | (go_at_call 61; refine (l6Pick_any w1 w8 b3 p a0 len cap _ H _ es cn8 GB.out FT.out.good.1 (by have := FT.out.le; omega) i hi (FT.out.bd _ (List.getElem_mem hi))).mono ?_; rintro er w9 ⟨y9, rfl, vH9, cn9, hgb9⟩) | (fail))
        go_roundw
        case rel => exact ⟨m - 1, _, vH9, _, by congr 1; omega, by omega, by rw [(FT.out.pick i hi).2, HE.out], (FT.out.pick i hi).1, cn9, hgb9⟩
        case measure => simp [intOf]; omega
      · have hN0' : ¬ ((0 : Int) < (N : Int)) := by omega
        go_wp2_with (first | (refine wpList_store_v rfl 31 _ _ rfl b2 [.slice (some ⟨gv, 0, none⟩) H.length cv', .slice va N vc] rfl rfl sizeCr (HV1.out.of (CN.out.gb.block b2 hw1 (fun q => by cases q; omega))) rfl (by simp [Value.oneCell']) ?_; intro wA hOA hVA; have hzA := hOA.1) | (fail))
        exact row_retv rfl rfl hVA Try.underlying31 sizeCr rfl ⟨.slice (some ⟨gv, 0, none⟩) H.length cv', .slice va N vc, rfl, H, es, ⟨((CN.out.heap.keep fun j j1 j2 => hOA.2.1 j (by omega)).wide (by omega) (by omega)), ((CN.out.hands.keep fun j j1 j2 => hOA.2.1 j (by omega)).wide (by omega) (by omega)), CN.out.hd, cur_only CN.out.cur hOA (by omega), gb_only (gb_trans HG1.out CN.out.gb) hOA (by omega)⟩, FT.out⟩
    · have hpos' : ¬ ((0 : Int) < m) := by omega
      go_wp2_with (first | (refine wpList_store_v rfl 31 _ _ rfl b2 [.slice (some ⟨gv, 0, none⟩) H.length cv', .slice va N vc] rfl rfl sizeCr (HV1.out.of (CN.out.gb.block b2 hw1 (fun q => by cases q; omega))) rfl (by simp [Value.oneCell']) ?_; intro wB hOB hVB; have hzB := hOB.1) | (fail))
      exact row_retv rfl rfl hVB Try.underlying31 sizeCr rfl ⟨.slice (some ⟨gv, 0, none⟩) H.length cv', .slice va N vc, rfl, H, es, ⟨((CN.out.heap.keep fun j j1 j2 => hOB.2.1 j (by omega)).wide (by omega) (by omega)), ((CN.out.hands.keep fun j j1 j2 => hOB.2.1 j (by omega)).wide (by omega) (by omega)), CN.out.hd, cur_only CN.out.cur hOB (by omega), gb_only (gb_trans HG1.out CN.out.gb) hOB (by omega)⟩, FT.out⟩
end Go.Proofs.Ythjkhghlhjndmaa.draw
/- What the laws draw: a heap and a hand beside it. -/
namespace Go.Proofs.Ythjkhghlhjndmaa.draw
open Go.ChangeShapes Go.WideShapes Go.ChangeAt Go.RowKit
open Go.Proofs.Ythjkhghlhjndmaa.ce
set_option linter.unusedVariables false

/-- a heap in a crew's variable, a hand in its own -/
structure Ls (w0 w : World) (b3 b4 b6 p : Nat) (a0 : Option Addr) (len cap : Nat) (vH : Value) (H : List C) (vD : Value) (d : Hd) : Prop where
  crew : VBlk w b4 31 [vH, vD]
  heap : ce.Own w w0.heap.size w.heap.size vH H
  hand : HB w b6 d
  res : HB w b3 ⟨0, 0, 0, 0, 0, 0, 0, 0⟩
  lo : w0.heap.size ≤ b3 ∧ w0.heap.size ≤ b4 ∧ w0.heap.size ≤ b6
  ne : b3 ≠ b4 ∧ b3 ≠ b6 ∧ b4 ≠ b6
  hb : ∀ k, vH.ownBlock = some k → k ≠ b3 ∧ k ≠ b6
  cur : Cur w p a0 len cap
  gb : w0.grownBy w (some p)
  pw : p < w0.heap.size
theorem Ls.drawn {w0 w w' : World} {b3 b4 b6 p : Nat} {a0 : Option Addr} {len cap : Nat} {vH vD : Value} {H : List C} {d : Hd} (c : Ls w0 w b3 b4 b6 p a0 len cap vH H vD d) (g : w.grownBy w' (some p)) (hc : Cur w' p a0 len cap) : Ls w0 w' b3 b4 b6 p a0 len cap vH H vD d := by
  have hp := c.pw
  obtain ⟨l3, l4, l6⟩ := c.lo
  refine ⟨c.crew.of (g.block b4 c.crew.lt (fun e => by cases e; omega)), (own_keepB c.heap fun k hk => ?_).wide (Nat.le_refl _) g.size, c.hand.of (g.block b6 c.hand.lt (fun e => by cases e; omega)), c.res.of (g.block b3 c.res.lt (fun e => by cases e; omega)), c.lo, c.ne, c.hb, hc, gb_trans c.gb g, hp⟩
  have := own_lo c.heap k hk
  exact g.block k this.2.2 (fun e => by cases e; omega)
theorem Ls.turn {w0 w w' : World} {b3 b4 b6 p : Nat} {a0 : Option Addr} {len cap : Nat} {vH vD : Value} {H : List C} {d d' : Hd} (c : Ls w0 w b3 b4 b6 p a0 len cap vH H vD d) (hO : Only b6 w w') (hb : HB w' b6 d') : Ls w0 w' b3 b4 b6 p a0 len cap vH H vD d' := by
  have hp := c.pw
  obtain ⟨l3, l4, l6⟩ := c.lo
  obtain ⟨n1, n2, n3⟩ := c.ne
  exact ⟨c.crew.of (hO.2.1 b4 n3), (own_keepB c.heap fun k hk => hO.2.1 k (c.hb k hk).2).wide (Nat.le_refl _) (Nat.le_of_eq hO.1.symm), hb, c.res.of (hO.2.1 b3 n2), c.lo, c.ne, c.hb, cur_only c.cur hO (by omega), gb_only c.gb hO l6, hp⟩
theorem apart_ch {w : World} {lo hi : Nat} {vH : Value} {H : List C} {b : Nat} {d : Hd} (o : ce.Own w lo hi vH H) (hc : HB w b d) (q : Nat) (hq : vH.ownBlock = some q) : q ≠ b := by
  rintro rfl
  obtain ⟨c2, e2⟩ := own_type o q hq
  have := hc.blk
  unfold VBlk at this
  rw [this] at e2
  simp only [Option.some.injEq, Obj.cells.injEq] at e2
  exact absurd e2.2.1 (by decide)

theorem row_cells {w : World} {q : Nat} {ds : List Hd} {sp : List Value} (h : VBlk w q 58 (hvs ds ++ sp)) (i : Nat) (hi : i < ds.length) {k x y s l e o t : Int} (hd : ds[i] = ⟨k, x, y, s, l, e, o, t⟩) :
    w.cell? ⟨q, i * 8, none⟩ = some (.int .i64 k) ∧ w.cell? ⟨q, i * 8 + 1, none⟩ = some (.int .i64 x) ∧ w.cell? ⟨q, i * 8 + 2, none⟩ = some (.int .i64 y) ∧ w.cell? ⟨q, i * 8 + 3, none⟩ = some (.int .i64 s) ∧ w.cell? ⟨q, i * 8 + 4, none⟩ = some (.int .i64 l) ∧ w.cell? ⟨q, i * 8 + 5, none⟩ = some (.int .i64 e) ∧ w.cell? ⟨q, i * 8 + 6, none⟩ = some (.int .i64 o) ∧ w.cell? ⟨q, i * 8 + 7, none⟩ = some (.int .i64 t) := by
  have ha := HA.of_row h i hi
  rw [hd, Nat.mul_comm 8 i] at ha
  exact ha.cells

set_option maxRecDepth 100000 in
set_option maxHeartbeats 4000000 in
theorem l5Draw_any (w : World) (p : Nat) (a0 : Option Addr) (len cap : Nat) (hc : Cur w p a0 len cap) :
    Calls Try.prog 93 #[.pointer (some ⟨p, 0, none⟩)] w fun er w' => ∃ (v : Value) (d : Hd), er = .returned (.tuple #[v, .agg (hv d).toArray]) ∧ ∃ H, ce.Own w' w.heap.size w'.heap.size v H ∧ (1 ≤ H.length ∧ H.length ≤ 40) ∧ Cur w' p a0 len cap ∧ w.grownBy w' (some p) := by
  have hp := hc.1
  have HC : Hid (Cur w p a0 len cap) := hc
  clear hc
  go_enter Try.func93, Try.ntmps93
  go_upto_region 2 with (first | (refine wpList_alloc_v rfl 58 rfl _ zeroH ?_; intro b3 w1 hb3 hw1 hB1 hV1; have hz1 := hB1.size; have hc1 := cur_below HC.out hB1 hp) | (go_at_call 91; refine (l6Draw_any _ p a0 len cap hc1).mono ?_; rintro er w2 ⟨vH2, vD, rfl, H, ds, cr2, ft⟩; have hz2 := cr2.gb.size; obtain ⟨va, vc, rfl⟩ := cr2.hands.len; obtain ⟨g, cg, rfl, hgl, hgh, -⟩ := cr2.heap.form ft.good.1.1) | (refine wpList_alloc_v rfl 31 rfl _ zeroCr ?_; intro b4 w3 hb4 hw3 hB3 hV3; have hz3 := hB3.size) | (refine wpList_store_v rfl 31 _ _ rfl b4 [.slice (some ⟨g, 0, none⟩) H.length cg, .slice va ds.length vc] rfl rfl sizeCr hV3 rfl (by simp [Value.oneCell']) ?_; intro w4 hO4 hV4; have hz4 := hO4.1) | (fail))
  have hc4 : Cur w4 p a0 len cap := cur_only (cur_below cr2.cur hB3 cr2.cur.1) hO4 (by have := cr2.cur.1; omega)
  have gb4 : w1.grownBy w4 (some p) := gb_only (gb_below cr2.gb hB3 (by omega)) hO4 (by omega)
  have heap4 : ce.Own w4 w1.heap.size w2.heap.size (.slice (some ⟨g, 0, none⟩) H.length cg) H := (cr2.heap.below hB3 (Nat.le_refl _)).keep fun j j1 j2 => hO4.2.1 j (by omega)
  have hands4 : OwnH w4 w1.heap.size w2.heap.size (.slice va ds.length vc) ds := (cr2.hands.below hB3 (Nat.le_refl _)).keep fun j j1 j2 => hO4.2.1 j (by omega)
  have res4 : HB w4 b3 ⟨0, 0, 0, 0, 0, 0, 0, 0⟩ := ⟨hV1.of (gb4.block b3 hw1 (fun q => by cases q; omega))⟩
  have gbw : w.grownBy w1 (some p) := gb_below (World.grownBy.refl _ _) hB1 (Nat.le_refl _)
  have gbw4 : w.grownBy w4 (some p) := gb_trans gbw gb4
  have hln := ft.good.1
  have hl4 := ft.le
  have hcr0 := hV4.cell 0 (by simp)
  have hcr1 := hV4.cell 1 (by simp)
  simp only [List.getElem_cons_zero, List.getElem_cons_succ] at hcr0 hcr1
  have C4 : Hid (Cur w4 p a0 len cap ∧ w.grownBy w4 (some p)) := ⟨hc4, gbw4⟩
  have H4 : Hid (ce.Own w4 w1.heap.size w2.heap.size (.slice (some ⟨g, 0, none⟩) H.length cg) H) := heap4
  have D4 : Hid (OwnH w4 w1.heap.size w2.heap.size (.slice va ds.length vc) ds) := hands4
  have R4 : Hid (HB w4 b3 ⟨0, 0, 0, 0, 0, 0, 0, 0⟩) := res4
  have V4 : Hid (VBlk w4 b4 31 [.slice (some ⟨g, 0, none⟩) H.length cg, .slice va ds.length vc]) := hV4
  clear hc4 gb4 heap4 hands4 res4 gbw gbw4 hV4 hO4 hV3 hB3 cr2 ft hV1 hc1
  by_cases h0 : ds.length = 0
  · have h0' : ((ds.length : Int) == 0) = true := by simp [h0]
    go_wp2
    refine wp_region_held_drew (S := fun w' => w'.cell? ⟨b4, 0, none⟩ = some (.slice (some ⟨g, 0, none⟩) H.length cg)) (by kernel_rfl) hcr0 (fun hHeld => ?_)
    refine takeW 0 14 (.pointer (some ⟨b4, 0, none⟩)) rfl (by kernel_rfl) (by kernel_rfl) (by kernel_rfl) (fun _ _ _ h => h) (by kernel_rfl) (fun w' hS => by go_simp) hHeld ?_
    go_frame
    refine takeW 1 15 (.slice (some ⟨g, 0, none⟩) H.length cg) rfl (by kernel_rfl) (by kernel_rfl) (by kernel_rfl) (fun _ _ _ h => h) (by kernel_rfl) (fun w' hS => by go_simp) hHeld ?_
    go_frame
    refine takeW 2 16 (.pointer (some ⟨p, 0, none⟩)) rfl (by kernel_rfl) (by kernel_rfl) (by kernel_rfl) (fun _ _ _ h => h) (by kernel_rfl) (fun w' hS => by go_simp) hHeld ?_
    go_frame
    refine wpAnyH_ready (rs := [3]) (by kernel_rfl) (by simp) ?_
    refine AllReadyH.cons rfl (fun K hK => ?_) AllReadyH.nil
    go_simp
    go_at_call 69
    refine (l5DrawHand_any w4.drew p a0 len cap (cur_below C4.out.1 ((Below.refl w4.heap.size w4).drew) C4.out.1.1)).mono ?_
    rintro er w5 ⟨d5, rfl, hn5, hc5, hg5⟩
    have hz5 : w4.heap.size ≤ w5.heap.size := hg5.size
    obtain ⟨k, x, y, s, l, e, o, t⟩ := d5
    have hcr5 : w5.cell? ⟨b4, 0, none⟩ = some (.slice (some ⟨g, 0, none⟩) H.length cg) := (World.cell?_of_block (w := w4.drew) (w' := w5) (a := ⟨b4, 0, none⟩) (hg5.block b4 (by show b4 < w4.heap.size; omega) (fun q => by cases q; omega))).trans hcr0
    dsimp only [hv]
    refine hK.out _ _ hcr5 (fun hHeld5 => ?_)
    try go_frame
    refine takeW 4 2 (.slice (some ⟨g, 0, none⟩) H.length cg) rfl (by kernel_rfl) (by kernel_rfl) (by kernel_rfl) (fun _ _ _ h => h) (by kernel_rfl) (fun w' hS => by go_simp) hHeld5 ?_
    go_frame
    refine wpAnyH_ready (rs := [5]) (by kernel_rfl) (by simp) ?_
    refine AllReadyH.cons rfl (fun K2 hK2 => ?_) AllReadyH.nil
    refine step_store_v rfl 58 _ _ rfl b3 (hv ⟨k, x, y, s, l, e, o, t⟩) rfl rfl sizeH (R4.out.blk.of (hg5.block b3 (by show b3 < w4.heap.size; omega) (fun q => by cases q; omega))) rfl (hv_one _) ?_
    intro w6 hO6 hV6
    have hz6 := hO6.1
    refine hK2.out _ _ ((World.cell?_of_block (w := w5) (w' := w6) (a := ⟨b4, 0, none⟩) (hO6.2.1 b4 (by omega))).trans hcr5) (fun _ => ?_)
    refine wpAnyH_done (by kernel_rfl) ?_ _
    go_wp2
    have heap6 : ce.Own w6 w1.heap.size w2.heap.size (.slice (some ⟨g, 0, none⟩) H.length cg) H := (H4.out.keep (w' := w5) fun j j1 j2 => hg5.block j (by show j < w4.heap.size; omega) (fun q => by cases q; omega)).keep fun j j1 j2 => hO6.2.1 j (by omega)
    exact row_tmp_cell rfl rfl rfl hV6 Try.underlying58 sizeH rfl ⟨_, ⟨k, x, y, s, l, e, o, t⟩, rfl, H, heap6.wide (by omega) (by omega), hln, cur_only hc5 hO6 (by omega), gb_only (gb_trans (gb_below C4.out.2 ((Below.refl w4.heap.size w4).drew) C4.out.2.size) hg5) hO6 hb3⟩
  · have h0' : ((ds.length : Int) == 0) = false := by rw [beq_eq_false_iff_ne]; omega
    obtain ⟨q, cq, sp, e9, hq1, hq2, hq3, hVq, -, -, -⟩ := D4.out.form (by omega)
    cases e9
    have VQ : Hid (VBlk w4 q 58 (hvs ds ++ sp)) := hVq
    have hq4 : q ≠ b4 := by omega
    clear hVq D4
    go_wp2
    go_cut [6] (fun p6 wc => ∃ (b6 : Nat) (d : Hd), p6 = .pointer (some ⟨b6, 0, none⟩) ∧ Ls w wc b3 b4 b6 p a0 len cap (.slice (some ⟨g, 0, none⟩) H.length cg) H (.slice (some ⟨q, 0, none⟩) ds.length vc) d)
    case first =>
      refine wp_region_held_drew (S := fun w' => VBlk w' q 58 (hvs ds ++ sp) ∧ w'.cell? ⟨b4, 1, none⟩ = some (.slice (some ⟨q, 0, none⟩) ds.length vc)) (by kernel_rfl) ⟨VQ.out.drew, hcr1⟩ (fun hHeld => ?_)
      refine takeW 0 18 (.pointer (some ⟨b4, 1, none⟩)) rfl (by kernel_rfl) (by kernel_rfl) (by kernel_rfl) (fun _ _ _ h => h) (by kernel_rfl) (fun w' hS => by go_simp) hHeld ?_
      go_frame
      refine takeW 1 19 (.slice (some ⟨q, 0, none⟩) ds.length vc) rfl (by kernel_rfl) (by kernel_rfl) (by kernel_rfl) (fun _ _ _ h => h) (by kernel_rfl) (fun w' hS => by have z := hS.2; go_simp) hHeld ?_
      go_frame
      refine takeW 2 20 (.pointer (some ⟨p, 0, none⟩)) rfl (by kernel_rfl) (by kernel_rfl) (by kernel_rfl) (fun _ _ _ h => h) (by kernel_rfl) (fun w' hS => by go_simp) hHeld ?_
      go_frame
      refine takeW 3 21 (.int .i64 (ds.length : Int)) rfl (by kernel_rfl) (by kernel_rfl) (by kernel_rfl) (fun _ _ _ h => h) (by kernel_rfl) (fun w' hS => by go_simp) hHeld ?_
      go_frame
      refine wpAnyH_ready (rs := [4, 7]) (by kernel_rfl) (by simp) ?_
      refine consM rfl (fun K hK => ?_) (consM rfl (fun K hK => ?_) AllReadyH.nil)
      · have hHeldX := hHeld
        have cX : Cur w4.drew p a0 len cap := cur_below C4.out.1 ((Below.refl w4.heap.size w4).drew) C4.out.1.1
        have hzd : w4.drew.heap.size = w4.heap.size := rfl
        go_simp
        go_at_call 73
        refine (below_from w4.drew w4.drew p a0 len cap _ (by omega) cX (World.grownBy.refl _ _)).mono ?_
        rintro er w5 ⟨x9, rfl, x90, x91, cY, hgY⟩
        have hzY : w4.drew.heap.size ≤ w5.heap.size := hgY.size
        obtain ⟨i, rfl⟩ : ∃ i : Nat, x9 = i := ⟨x9.toNat, by omega⟩
        have hi : i < ds.length := by omega
        have hi' : (i : Int) < (ds.length : Int) := x91
        obtain ⟨d, hd⟩ : ∃ d, ds[i] = d := ⟨_, rfl⟩
        obtain ⟨k, x, y, s, l, e, o, t⟩ := d
        have kY : ∀ j, w4.drew.heap.size > j → j ≠ p → w5.heap[j]? = w4.drew.heap[j]? := fun j j1 j2 => hgY.block j j1 (fun z => by cases z; exact j2 rfl)
        have S5 : VBlk w5 q 58 (hvs ds ++ sp) ∧ w5.cell? ⟨b4, 1, none⟩ = some (.slice (some ⟨q, 0, none⟩) ds.length vc) := ⟨hHeldX.1.of (kY q (by show q < w4.drew.heap.size; omega) (by omega)), (World.cell?_of_block (w := w4.drew) (w' := w5) (a := ⟨b4, 1, none⟩) (kY b4 (by show b4 < w4.drew.heap.size; omega) (by omega))).trans hHeldX.2⟩
        refine hK.out _ _ S5 (fun _ => ?_)
        try go_frame
        refine takeW 5 23 (.pointer (some ⟨q, i * 8, none⟩)) rfl (by kernel_rfl) (by kernel_rfl) (by kernel_rfl) (fun _ _ _ h => h) (by kernel_rfl) (fun w' hS => by go_simp) S5 ?_
        go_frame
        refine takeW 6 24 (.agg #[.int .i64 k, .int .i64 x, .int .i64 y, .int .i64 s, .int .i64 l, .int .i64 e, .int .i64 o, .int .i64 t]) rfl (by kernel_rfl) (by kernel_rfl) (by kernel_rfl) (fun _ _ _ h => h) (by kernel_rfl) (fun w' hS => by obtain ⟨z0, z1, z2, z3, z4, z5, z6, z7⟩ := row_cells hS.1 i hi hd; go_simp) S5 ?_
        go_frame
        refine wpAnyH_ready (rs := [7]) (by kernel_rfl) (by simp) ?_
        refine consM rfl (fun K2 hK2 => ?_) AllReadyH.nil
        refine step_alloc_v (a := ⟨_, []⟩) rfl 58 rfl _ zeroH ?_
        intro b6 w6 hb6 hw6 hB6 hV6
        have hz6 := hB6.size
        have S6 : VBlk w6 q 58 (hvs ds ++ sp) ∧ w6.cell? ⟨b4, 1, none⟩ = some (.slice (some ⟨q, 0, none⟩) ds.length vc) := ⟨S5.1.of (hB6.block q (by omega)), (World.cell?_of_block (w := w5) (w' := w6) (a := ⟨b4, 1, none⟩) (hB6.block b4 (by omega))).trans S5.2⟩
        refine hK2.out _ _ S6 (fun _ => ?_)
        try go_frame
        refine wpAnyH_ready (rs := [8]) (by kernel_rfl) (by simp) ?_
        refine consM rfl (fun K3 hK3 => ?_) AllReadyH.nil
        refine step_store_v (a := ⟨_, []⟩) rfl 58 _ _ rfl b6 (hv ⟨k, x, y, s, l, e, o, t⟩) rfl rfl sizeH hV6 rfl (hv_one _) ?_
        intro w7 hO7 hV7
        have hz7 := hO7.1
        have heap6 : ce.Own w6 w1.heap.size w2.heap.size (.slice (some ⟨g, 0, none⟩) H.length cg) H := (H4.out.keep (w' := w5) fun j j1 j2 => kY j (by show j < w4.heap.size; omega) (by omega)).below hB6 (by omega)
        have lsF : Ls w w7 b3 b4 b6 p a0 len cap (.slice (some ⟨g, 0, none⟩) H.length cg) H (.slice (some ⟨q, 0, none⟩) ds.length vc) ⟨k, x, y, s, l, e, o, t⟩ := ⟨((V4.out.of (w' := w5) (kY b4 (by show b4 < w4.heap.size; omega) (by omega))).of (hB6.block b4 (by omega))).of (hO7.2.1 b4 (by omega)), (heap6.keep fun j j1 j2 => hO7.2.1 j (by omega)).wide (by omega) (by omega), ⟨hV7⟩, ((R4.out.of (w' := w5) (kY b3 (by show b3 < w4.heap.size; omega) (by omega))).of (hB6.block b3 (by omega))).of (hO7.2.1 b3 (by omega)), ⟨by omega, by omega, by omega⟩, ⟨by omega, by omega, by omega⟩, fun k hk => (by cases hk; exact ⟨by show g ≠ b3; omega, by show g ≠ b6; omega⟩), cur_only (cur_below cY hB6 cY.1) hO7 (by omega), gb_only (gb_below (gb_trans (gb_below C4.out.2 ((Below.refl w4.heap.size w4).drew) C4.out.2.size) hgY) hB6 (by omega)) hO7 (by omega), hp⟩
        refine hK3.out _ _ ⟨S6.1.of (hO7.2.1 q (by omega)), (World.cell?_of_block (w := w6) (w' := w7) (a := ⟨b4, 1, none⟩) (hO7.2.1 b4 (by omega))).trans S6.2⟩ (fun _ => ?_)
        refine wpAnyH_done (by kernel_rfl) ?_ _
        go_wp2
        go_meet
        case rel => exact ⟨b6, ⟨k, x, y, s, l, e, o, t⟩, rfl, lsF⟩
      · refine step_alloc_v (a := ⟨_, []⟩) rfl 58 rfl _ zeroH ?_
        intro b6 w5 hb6 hw5 hB5 hV5
        have hz5 : w4.heap.size ≤ w5.heap.size := hB5.size
        have hb6' : w4.heap.size ≤ b6 := hb6
        have hHeldX : VBlk w5 q 58 (hvs ds ++ sp) ∧ w5.cell? ⟨b4, 1, none⟩ = some (.slice (some ⟨q, 0, none⟩) ds.length vc) := ⟨hHeld.1.of (hB5.block q (by show q < w4.heap.size; omega)), (World.cell?_of_block (w := w4.drew) (w' := w5) (a := ⟨b4, 1, none⟩) (hB5.block b4 (by show b4 < w4.heap.size; omega))).trans hHeld.2⟩
        refine hK.out _ _ hHeldX (fun _ => ?_)
        try go_frame
        have cX : Cur w5 p a0 len cap := cur_below (cur_below C4.out.1 ((Below.refl w4.heap.size w4).drew) C4.out.1.1) hB5 (by show p < w4.heap.size; omega)
        refine wpAnyH_ready (rs := [4]) (by kernel_rfl) (by simp) ?_
        refine consM rfl (fun K2 hK2 => ?_) AllReadyH.nil
        go_simp
        go_at_call 73
        refine (below_from w5 w5 p a0 len cap _ (by omega) cX (World.grownBy.refl _ _)).mono ?_
        rintro er w6 ⟨x9, rfl, x90, x91, cY, hgY⟩
        have hzY : w5.heap.size ≤ w6.heap.size := hgY.size
        obtain ⟨i, rfl⟩ : ∃ i : Nat, x9 = i := ⟨x9.toNat, by omega⟩
        have hi : i < ds.length := by omega
        have hi' : (i : Int) < (ds.length : Int) := x91
        obtain ⟨d, hd⟩ : ∃ d, ds[i] = d := ⟨_, rfl⟩
        obtain ⟨k, x, y, s, l, e, o, t⟩ := d
        have kY : ∀ j, w5.heap.size > j → j ≠ p → w6.heap[j]? = w5.heap[j]? := fun j j1 j2 => hgY.block j j1 (fun z => by cases z; exact j2 rfl)
        have S6 : VBlk w6 q 58 (hvs ds ++ sp) ∧ w6.cell? ⟨b4, 1, none⟩ = some (.slice (some ⟨q, 0, none⟩) ds.length vc) := ⟨hHeldX.1.of (kY q (by show q < w5.heap.size; omega) (by omega)), (World.cell?_of_block (w := w5) (w' := w6) (a := ⟨b4, 1, none⟩) (kY b4 (by show b4 < w5.heap.size; omega) (by omega))).trans hHeldX.2⟩
        refine hK2.out _ _ S6 (fun _ => ?_)
        try go_frame
        refine takeW 5 23 (.pointer (some ⟨q, i * 8, none⟩)) rfl (by kernel_rfl) (by kernel_rfl) (by kernel_rfl) (fun _ _ _ h => h) (by kernel_rfl) (fun w' hS => by go_simp) S6 ?_
        go_frame
        refine takeW 6 24 (.agg #[.int .i64 k, .int .i64 x, .int .i64 y, .int .i64 s, .int .i64 l, .int .i64 e, .int .i64 o, .int .i64 t]) rfl (by kernel_rfl) (by kernel_rfl) (by kernel_rfl) (fun _ _ _ h => h) (by kernel_rfl) (fun w' hS => by obtain ⟨z0, z1, z2, z3, z4, z5, z6, z7⟩ := row_cells hS.1 i hi hd; go_simp) S6 ?_
        go_frame
        refine wpAnyH_ready (rs := [8]) (by kernel_rfl) (by simp) ?_
        refine consM rfl (fun K3 hK3 => ?_) AllReadyH.nil
        refine step_store_v (a := ⟨_, []⟩) rfl 58 _ _ rfl b6 (hv ⟨k, x, y, s, l, e, o, t⟩) rfl rfl sizeH (hV5.of (kY b6 hw5 (by omega))) rfl (hv_one _) ?_
        intro w7 hO7 hV7
        have hz7 := hO7.1
        have heap5 : ce.Own w5 w1.heap.size w2.heap.size (.slice (some ⟨g, 0, none⟩) H.length cg) H := H4.out.keep (w' := w5) fun j j1 j2 => hB5.block j (by show j < w4.heap.size; omega)
        have heap6 : ce.Own w6 w1.heap.size w2.heap.size (.slice (some ⟨g, 0, none⟩) H.length cg) H := heap5.keep (w' := w6) fun j j1 j2 => kY j (by omega) (by omega)
        have lsF : Ls w w7 b3 b4 b6 p a0 len cap (.slice (some ⟨g, 0, none⟩) H.length cg) H (.slice (some ⟨q, 0, none⟩) ds.length vc) ⟨k, x, y, s, l, e, o, t⟩ := ⟨((V4.out.of (w' := w5) (hB5.block b4 (by show b4 < w4.heap.size; omega))).of (kY b4 (by omega) (by omega))).of (hO7.2.1 b4 (by omega)), (heap6.keep fun j j1 j2 => hO7.2.1 j (by omega)).wide (by omega) (by omega), ⟨hV7⟩, ((R4.out.of (w' := w5) (hB5.block b3 (by show b3 < w4.heap.size; omega))).of (kY b3 (by omega) (by omega))).of (hO7.2.1 b3 (by omega)), ⟨by omega, by omega, by omega⟩, ⟨by omega, by omega, by omega⟩, fun k hk => (by cases hk; exact ⟨by show g ≠ b3; omega, by show g ≠ b6; omega⟩), cur_only cY hO7 (by omega), gb_only (gb_trans (gb_below (gb_below C4.out.2 ((Below.refl w4.heap.size w4).drew) C4.out.2.size) hB5 (by have := C4.out.2.size; show w.heap.size ≤ w4.heap.size; omega)) hgY) hO7 (by omega), hp⟩
        refine hK3.out _ _ ⟨S6.1.of (hO7.2.1 q (by omega)), (World.cell?_of_block (w := w6) (w' := w7) (a := ⟨b4, 1, none⟩) (hO7.2.1 b4 (by omega))).trans S6.2⟩ (fun _ => ?_)
        refine wpAnyH_done (by kernel_rfl) ?_ _
        go_wp2
        go_meet
        case rel => exact ⟨b6, ⟨k, x, y, s, l, e, o, t⟩, rfl, lsF⟩
    case rest =>
      rename World => w8
      obtain ⟨b6, d8, rfl, ls8⟩ := hcut
      obtain ⟨k, x, y, s, l, e, o, t⟩ := d8
      go_upto_if 26 with (first | (go_at_call 68; refine (once_from w8 w8 p a0 len cap _ (by omega) ls8.cur (World.grownBy.refl _ _)).mono ?_; rintro er w9 ⟨y9, rfl, hc9, hg9⟩; have ls9 := ls8.drawn hg9 hc9) | (fail))
      go_cut [6] (fun p6 wc => p6 = .pointer (some ⟨b6, 0, none⟩) ∧ ∃ d, Ls w wc b3 b4 b6 p a0 len cap (.slice (some ⟨g, 0, none⟩) H.length cg) H (.slice (some ⟨q, 0, none⟩) ds.length vc) d)
      case first =>
        cases y9
        · go_wp2
          go_meet
          case rel => exact ⟨rfl, _, ls9⟩
        go_wp2_with (first | (go_at_call 73; refine (below_from w9 w9 p a0 len cap _ (by omega) ls9.cur (World.grownBy.refl _ _)).mono ?_; rintro er w10 ⟨x10, rfl, x100, x101, hc10, hg10⟩; have ls10 := ls9.drawn hg10 hc10; rcases (by omega : x10 = 0 ∨ x10 = 1 ∨ x10 = 2 ∨ x10 = 3 ∨ x10 = 4) with k0 | k1 | k2 | k3 | k4) | (clear k0; go_at_call 66; refine (from_from w10 w10 p a0 len cap _ _ (by omega) (by omega) (by omega) ls10.cur (World.grownBy.refl _ _)).mono ?_; rintro er w11 ⟨x11, rfl, -, -, hc11, hg11⟩; have ls11 := ls10.drawn hg11 hc11) | (clear k1; go_at_call 106; refine (drawAt_from w10 w10 p a0 len cap ls10.cur (World.grownBy.refl _ _)).mono ?_; rintro er w11 ⟨x11, rfl, -, -, hc11, hg11⟩; have ls11 := ls10.drawn hg11 hc11) | (clear k2; go_at_call 106; refine (drawAt_from w10 w10 p a0 len cap ls10.cur (World.grownBy.refl _ _)).mono ?_; rintro er w11 ⟨x11, rfl, -, -, hc11, hg11⟩; have ls11 := ls10.drawn hg11 hc11) | (clear k3; go_at_call 106; refine (drawAt_from w10 w10 p a0 len cap ls10.cur (World.grownBy.refl _ _)).mono ?_; rintro er w11 ⟨x11, rfl, -, -, hc11, hg11⟩; have ls11 := ls10.drawn hg11 hc11) | (clear k4; go_at_call 66; refine (from_from w10 w10 p a0 len cap _ _ (by omega) (by omega) (by omega) ls10.cur (World.grownBy.refl _ _)).mono ?_; rintro er w11 ⟨x11, rfl, -, -, hc11, hg11⟩; have ls11 := ls10.drawn hg11 hc11) | (refine wpList_store_f rfl _ _ rfl b6 3 x11 rfl rfl ⟨k, x, y, x11, l, e, o, t⟩ (by omega) ls11.hand rfl ?_; intro w12 hO12 hb12; have ls12 := ls11.turn hO12 hb12) | (refine wpList_store_f rfl _ _ rfl b6 4 x11 rfl rfl ⟨k, x, y, s, x11, e, o, t⟩ (by omega) ls11.hand rfl ?_; intro w12 hO12 hb12; have ls12 := ls11.turn hO12 hb12) | (refine wpList_store_f rfl _ _ rfl b6 5 x11 rfl rfl ⟨k, x, y, s, l, x11, o, t⟩ (by omega) ls11.hand rfl ?_; intro w12 hO12 hb12; have ls12 := ls11.turn hO12 hb12) | (refine wpList_store_f rfl _ _ rfl b6 6 x11 rfl rfl ⟨k, x, y, s, l, e, x11, t⟩ (by omega) ls11.hand rfl ?_; intro w12 hO12 hb12; have ls12 := ls11.turn hO12 hb12) | (refine wpList_store_f rfl _ _ rfl b6 7 x11 rfl rfl ⟨k, x, y, s, l, e, o, x11⟩ (by omega) ls11.hand rfl ?_; intro w12 hO12 hb12; have ls12 := ls11.turn hO12 hb12) | (fail))
        all_goals (go_meet; case rel => exact ⟨rfl, _, ls12⟩)
      case rest =>
        rename World => w13
        obtain ⟨rfl, d9, ls9⟩ := hcut
        obtain ⟨k9, x9, y9, s9, l9, e9, o9, t9⟩ := d9
        have hcr9 := ls9.crew.cell 0 (by simp)
        simp only [List.getElem_cons_zero] at hcr9
        obtain ⟨c0, c1, c2, c3, c4, c5, c6, c7⟩ := ls9.hand.cells
        obtain ⟨q0, q1, q2, q3, q4, q5, q6, q7⟩ := ls9.res.cells
        obtain ⟨f0, f1, f2, f3, f4, f5, f6, f7⟩ := ls9.res.fz
        have LS9 : Hid (Ls w w13 b3 b4 b6 p a0 len cap (.slice (some ⟨g, 0, none⟩) H.length cg) H (.slice (some ⟨q, 0, none⟩) ds.length vc) ⟨k9, x9, y9, s9, l9, e9, o9, t9⟩) := ls9
        obtain ⟨n1, n2, n3⟩ := ls9.ne
        have n4 := Ne.symm n1
        have n5 := Ne.symm n2
        clear ls9 ls8
        go_wp2
        go_region
        go_wp2
        obtain ⟨hb8, hO8⟩ := fill8 LS9.out.res k9 x9 y9 s9 l9 e9 o9 t9
        exact row_tmp_cell rfl rfl rfl hb8.blk Try.underlying58 sizeH rfl ⟨_, ⟨k9, x9, y9, s9, l9, e9, o9, t9⟩, rfl, H, (own_keepB LS9.out.heap fun k hk => hO8.2.1 k (LS9.out.hb k hk).1).wide (Nat.le_refl _) (by have := hO8.1; omega), hln, cur_only LS9.out.cur hO8 (by omega), gb_only LS9.out.gb hO8 hb3⟩
end Go.Proofs.Ythjkhghlhjndmaa.draw
