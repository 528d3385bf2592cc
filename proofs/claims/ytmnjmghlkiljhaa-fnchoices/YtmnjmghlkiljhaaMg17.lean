/- Texts laid together: Draw2 Draw3 Dk2 Dk3 Dk4 Cq4 Cqg Cqh. -/
import Derived.Test.YtmnjmghlkiljhaaMg14
import Derived.Test.YtmnjmghlkiljhaaMg01
import Derived.Test.YtmnjmghlkiljhaaRe3
import Derived.Test.YtmnjmghlkiljhaaQe1
import Derived.Test.YtmnjmghlkiljhaaMg11
import Derived.Test.YtmnjmghlkiljhaaMg13
import Derived.Test.YtmnjmghlkiljhaaMg10
import Derived.Test.YtmnjmghlkiljhaaMg09
import Derived.Deep.DeepCutAuto
import Derived.Lib.SmallJoins
import Derived.Deep.Slices
import Derived.Deep.RegionHeld3
import Derived.BigQuiet
/- What the laws of chapter 2 draw, second part: sketches. -/
namespace Go.Proofs.Ytmnjmghlkiljhaa.draw
open Go.ChangeShapes Go.WideShapes Go.ChangeAt Go.RowKit
open Go.Proofs.Ytmnjmghlkiljhaa.sk
set_option linter.unusedVariables false

theorem own_gb {w w' : World} {lo hi bo p : Nat} {B C : Nat → Nat} {R : List (List Int)} (h : OwnAt w lo hi bo B C R) (g : w.grownBy w' (some p)) (hp : p < lo) : OwnAt w' lo hi bo B C R :=
  h.keep (fun k h1 h2 => g.block k (by have := h.2.1; omega) (fun e => by cases e; omega)) g.size
theorem vblk_gb {w w' : World} {b p : Nat} {t : TypeId} {vs : List Value} (h : VBlk w b t vs) (g : w.grownBy w' (some p)) (hp : b ≠ p) : VBlk w' b t vs := h.grown g (fun e => hp (by cases e; rfl))

/-- the state in which a sketch is being drawn -/
structure St (w0 w : World) (p : Nat) (a0 : Option Addr) (len cap lo hi ps bo b2 sc : Nat) (B C : Nat → Nat) (R : List (List Int)) (adds : Int) : Prop where
  res : VBlk w b2 30 [.slice none 0 0, .int .i64 0]
  var : VBlk w ps 30 [.slice (some ⟨bo, 0, none⟩) 4 sc, .int .i64 adds]
  own : OwnAt w lo hi bo B C R
  four : Four R
  cur : Cur w p a0 len cap
  gb : w0.grownBy w (some p)
  pw : p < w0.heap.size
  b2lo : w0.heap.size ≤ b2
  b2hi : b2 < lo
  pshi : hi ≤ ps
  lohi : lo ≤ hi
theorem St.ne {w0 w : World} {p : Nat} {a0 : Option Addr} {len cap lo hi ps bo b2 sc : Nat} {B C : Nat → Nat} {R : List (List Int)} {adds : Int} (h : St w0 w p a0 len cap lo hi ps bo b2 sc B C R adds) : p < lo ∧ b2 ≠ p ∧ ps ≠ p ∧ ps ≠ b2 ∧ w0.heap.size ≤ ps := by
  have h1 := h.pw; have h2 := h.b2lo; have h3 := h.b2hi; have h4 := h.pshi; have h5 := h.lohi
  omega
theorem St.drawn {w0 w w' : World} {p : Nat} {a0 : Option Addr} {len cap lo hi ps bo b2 sc : Nat} {B C : Nat → Nat} {R : List (List Int)} {adds : Int} (h : St w0 w p a0 len cap lo hi ps bo b2 sc B C R adds) (g : w.grownBy w' (some p)) (hc : Cur w' p a0 len cap) : St w0 w' p a0 len cap lo hi ps bo b2 sc B C R adds := by
  obtain ⟨n1, n2, n3, n4, n5⟩ := h.ne
  exact ⟨vblk_gb h.res g n2, vblk_gb h.var g n3, own_gb h.own g n1, h.four, hc, gb_trans h.gb g, h.pw, h.b2lo, h.b2hi, h.pshi, h.lohi⟩
theorem St.adds {w0 w : World} {p : Nat} {a0 : Option Addr} {len cap lo hi ps bo b2 sc : Nat} {B C : Nat → Nat} {R : List (List Int)} {adds : Int} (h : St w0 w p a0 len cap lo hi ps bo b2 sc B C R adds) (x : Int) : St w0 (w.setCell ⟨ps, 1, none⟩ (.int .i64 x)) p a0 len cap lo hi ps bo b2 sc B C R x := by
  obtain ⟨n1, n2, n3, n4, n5⟩ := h.ne
  have hB : Below ps w (w.setCell ⟨ps, 1, none⟩ (.int .i64 x)) := (Below.refl _ _).setCell (by show ps ≤ ps; exact Nat.le_refl _) _
  have h4 := h.pshi
  have h5 := h.lohi
  exact ⟨h.res.of (heap_setCell_other _ _ _ _ (fun e => n4 e.symm)), h.var.set 1 _, h.own.keep (fun k g1 g2 => heap_setCell_other _ _ _ _ (by show k ≠ ps; omega)) (by simp), h.four, cur_below h.cur hB (by omega), gb_below h.gb hB n5, h.pw, h.b2lo, h.b2hi, h.pshi, h.lohi⟩
theorem St.added {w0 w w' : World} {p : Nat} {a0 : Option Addr} {len cap lo hi ps bo b2 sc : Nat} {B C : Nat → Nat} {R R' : List (List Int)} {adds adds' : Int} (h : St w0 w p a0 len cap lo hi ps bo b2 sc B C R adds) (hB : Below lo w w') (hv : VBlk w' ps 30 [.slice (some ⟨bo, 0, none⟩) 4 sc, .int .i64 adds']) (ho : OwnAt w' lo hi bo B C R') (h4 : Four R') : St w0 w' p a0 len cap lo hi ps bo b2 sc B C R' adds' := by
  obtain ⟨n1, n2, n3, n4, n5⟩ := h.ne
  have q1 := h.b2lo; have q2 := h.b2hi
  exact ⟨h.res.below hB h.b2hi, hv, ho, h4, cur_below h.cur hB n1, gb_below h.gb hB (by omega), h.pw, h.b2lo, h.b2hi, h.pshi, h.lohi⟩

theorem plusR_four {R : List (List Int)} {adds : Int} {key : ByteArray} (h : Four R) : Four (plusR R adds key) := by
  unfold plusR; split
  · exact halfR_four (addR_four h)
  · exact addR_four h
theorem plusR_small (R : List (List Int)) (adds : Int) (key : ByteArray) : Small (plusR R adds key) := by
  unfold plusR; split
  · intro xs hx y hy
    obtain ⟨ys, hys, rfl⟩ := List.mem_map.1 hx
    obtain ⟨z, hz, rfl⟩ := List.mem_map.1 hy
    have := addR_small key R ys hys z hz
    unfold half; omega
  · exact addR_small key R
theorem plusN_bd {adds : Int} (h : 0 ≤ adds ∧ adds ≤ 159) : 0 ≤ plusN adds ∧ plusN adds ≤ 159 := by unfold plusN; split <;> omega
theorem zeros_small : Small zeros := fun xs hx y hy => by
  have e := List.eq_of_mem_replicate hx
  rw [e] at hy
  have := List.eq_of_mem_replicate hy
  omega

theorem four_set {R : List (List Int)} (h : Four R) (hi : 1 < R.length) (x : Int) : Four (R.set 1 ((R[1]).set 3 x)) := by
  refine ⟨by simp [h.1], fun xs hx => ?_⟩
  rcases List.mem_or_eq_of_mem_set hx with h1 | rfl
  · exact h.2 xs h1
  · simp only [List.length_set]; exact h.2 _ (List.getElem_mem hi)

/-- a sketch has been drawn: it lies in block ps, the result's block is still zero -/
structure Fin (w0 w : World) (p : Nat) (a0 : Option Addr) (len cap ps b2 : Nat) (v : Value) (adds : Int) (R : List (List Int)) : Prop where
  res : VBlk w b2 30 [.slice none 0 0, .int .i64 0]
  var : VBlk w ps 30 [v, .int .i64 adds]
  rd : Rd w (b2 + 1) ps v R
  cur : Cur w p a0 len cap
  gb : w0.grownBy w (some p)
  pw : p < w0.heap.size
  b2lo : w0.heap.size ≤ b2
  pslo : b2 < ps
theorem St.fin {w0 w : World} {p : Nat} {a0 : Option Addr} {len cap lo hi ps bo b2 sc : Nat} {B C : Nat → Nat} {R : List (List Int)} {adds : Int} (h : St w0 w p a0 len cap lo hi ps bo b2 sc B C R adds) : Fin w0 w p a0 len cap ps b2 (.slice (some ⟨bo, 0, none⟩) 4 sc) adds R := by
  have h4 := h.four.1
  have q1 := h.b2hi; have q2 := h.pshi; have q3 := h.lohi
  have ow : sk.Own w lo hi (.slice (some ⟨bo, 0, none⟩) 4 sc) R := ⟨by rw [h4]; unfold maxLen; omega, _, _, bo, B, C, by rw [h4], fun _ => rfl, h.own⟩
  exact ⟨h.res, h.var, ow.rd.wide (by omega) (by omega), h.cur, h.gb, h.pw, h.b2lo, by omega⟩
theorem St.set {w0 w : World} {p : Nat} {a0 : Option Addr} {len cap lo hi ps bo b2 sc : Nat} {B C : Nat → Nat} {R : List (List Int)} {adds : Int} (h : St w0 w p a0 len cap lo hi ps bo b2 sc B C R adds) (x : Int) : ∃ R', St w0 (w.setCell ⟨B 1, 3, none⟩ (.int .i64 x)) p a0 len cap lo hi ps bo b2 sc B C R' adds := by
  obtain ⟨n1, n2, n3, n4, n5⟩ := h.ne
  have h4 := h.four.1
  have h1 : 1 < R.length := by omega
  have h16 := h.four.2 _ (List.getElem_mem h1)
  obtain ⟨r1, r2, r3, r4, r5⟩ := h.own.row 1 h1 _ rfl
  have hB : Below lo w (w.setCell ⟨B 1, 3, none⟩ (.int .i64 x)) := (Below.refl _ _).setCell (by show lo ≤ B 1; exact r2) _
  have q1 := h.b2hi; have q2 := h.pshi; have q3 := h.lohi
  refine ⟨_, h.added hB (h.var.of (heap_setCell_other _ _ _ _ (by show ps ≠ B 1; omega))) (h.own.set 1 h1 3 (by omega) x) (four_set h.four h1 x)⟩
theorem St.alloc {w0 w : World} {p : Nat} {a0 : Option Addr} {len cap lo hi ps bo b2 sc : Nat} {B C : Nat → Nat} {R : List (List Int)} {adds : Int} (h : St w0 w p a0 len cap lo hi ps bo b2 sc B C R adds) (o : Obj) : St w0 (w.alloc o) p a0 len cap lo hi ps bo b2 sc B C R adds :=
  h.drawn (gb_alloc (World.grownBy.refl _ _) o) (cur_alloc h.cur o)
theorem St.drew {w0 w : World} {p : Nat} {a0 : Option Addr} {len cap lo hi ps bo b2 sc : Nat} {B C : Nat → Nat} {R : List (List Int)} {adds : Int} (h : St w0 w p a0 len cap lo hi ps bo b2 sc B C R adds) : St w0 w.drew p a0 len cap lo hi ps bo b2 sc B C R adds :=
  ⟨h.res, h.var, h.own.keep (fun _ _ _ => rfl) (Nat.le_refl _), h.four, h.cur, ⟨h.gb.os, h.gb.tape, h.gb.output, h.gb.size, h.gb.block⟩, h.pw, h.b2lo, h.b2hi, h.pshi, h.lohi⟩
/-- what is read on the way to row 1, place 3 -/
theorem St.reads {w0 w : World} {p : Nat} {a0 : Option Addr} {len cap lo hi ps bo b2 sc : Nat} {B C : Nat → Nat} {R : List (List Int)} {adds : Int} (h : St w0 w p a0 len cap lo hi ps bo b2 sc B C R adds) :
    w.cell? ⟨ps, 0, none⟩ = some (.slice (some ⟨bo, 0, none⟩) 4 sc) ∧ w.cell? ⟨bo, 1, none⟩ = some (.slice (some ⟨B 1, 0, none⟩) 16 (C 1)) ∧ (∃ z, w.cell? ⟨B 1, 3, none⟩ = some (.int .i64 z)) ∧ w.frozen? ⟨B 1, 3, none⟩ = false := by
  have h4 := h.four.1
  have h1 : 1 < R.length := by omega
  have h16 := h.four.2 _ (List.getElem_mem h1)
  obtain ⟨r1, r2, r3, r4, r5⟩ := h.own.row 1 h1 _ rfl
  have c0 := h.var.cell 0 (by simp)
  simp only [List.getElem_cons_zero] at c0
  rw [h16] at r1
  exact ⟨c0, r1, ⟨_, r5.cell 3 (by omega)⟩, r5.frozen 3 (by omega)⟩

/-- three of the four rows -/
theorem St.three {w0 w : World} {p : Nat} {a0 : Option Addr} {len cap lo hi ps bo b2 sc : Nat} {B C : Nat → Nat} {R : List (List Int)} {adds : Int} (h : St w0 w p a0 len cap lo hi ps bo b2 sc B C R adds) (o c : Nat) (ho : o ≤ 1) :
    Fin w0 (w.setCell ⟨ps, 0, none⟩ (.slice (some ⟨bo, o, none⟩) 3 c)) p a0 len cap ps b2 (.slice (some ⟨bo, o, none⟩) 3 c) adds ((R.drop o).take 3) := by
  obtain ⟨n1, n2, n3, n4, n5⟩ := h.ne
  have h4 := h.four.1
  have q1 := h.b2hi; have q2 := h.pshi; have q3 := h.lohi
  have hB : Below ps w (w.setCell ⟨ps, 0, none⟩ (.slice (some ⟨bo, o, none⟩) 3 c)) := (Below.refl _ _).setCell (by show ps ≤ ps; exact Nat.le_refl _) _
  have hl : ((R.drop o).take 3).length = 3 := by simp; omega
  refine ⟨h.res.of (heap_setCell_other _ _ _ _ (fun e => n4 e.symm)), h.var.set 0 _, ⟨by rw [hl]; unfold maxLen; omega, _, c, by rw [hl], .inr ⟨bo, o, rfl, ?_, ?_, fun i hi => ?_⟩⟩, cur_below h.cur hB (by omega), gb_below h.gb hB n5, h.pw, h.b2lo, by omega⟩
  · have := h.own.1 (by intro e; rw [e] at h4; simp at h4); omega
  · have := h.own.1 (by intro e; rw [e] at h4; simp at h4); omega
  · have hi3 : i < 3 := by omega
    have hio : o + i < R.length := by omega
    have e : ((R.drop o).take 3)[i] = R[o + i] := by simp
    obtain ⟨r1, r2, r3, r4, r5⟩ := h.own.row (o + i) hio _ rfl
    have hlen := h.four.2 _ (List.getElem_mem hio)
    have hbo := h.own.1 (by intro e; rw [e] at h4; simp at h4)
    rw [e]
    refine ⟨_, _, by rw [hB.cell (by show bo < ps; omega)]; exact r1, by rw [hlen]; unfold maxLen; omega, .inr ⟨B (o + i), 0, rfl, by omega, by omega, range_of r5.2.1 (hB.block _ (by omega))⟩⟩

theorem lit3 (w : World) (a b c : Int) (t : TypeId) (k : Nat) (hk : k < 3) : ∃ v, (w.alloc (.cells #[.int .i64 a, .int .i64 b, .int .i64 c] t)).cell? ⟨w.heap.size, k, none⟩ = some (.int .i64 v) := by
  rcases (by omega : k = 0 ∨ k = 1 ∨ k = 2) with rfl | rfl | rfl
  · exact ⟨a, by simp⟩
  · exact ⟨b, by simp⟩
  · exact ⟨c, by simp⟩

set_option maxHeartbeats 4000000 in
theorem l2Draw_any (w : World) (p : Nat) (a0 : Option Addr) (len cap : Nat) (hc : Cur w p a0 len cap) :
    Calls Try.prog 90 #[.pointer (some ⟨p, 0, none⟩)] w fun e w' => ∃ (v : Value) (adds : Int) (R : List (List Int)), e = .returned (skv v adds) ∧ Rd w' w.heap.size w'.heap.size v R ∧ Cur w' p a0 len cap ∧ w.grownBy w' (some p) := by
  have hp := hc.1
  have m1 : Hid True := trivial
  have hz4 : Hid (zeros.length = 4) := rfl
  go_enter Try.func90, Try.ntmps90
  go_wp2_with (first | (clear m1; refine wpList_alloc_v rfl 30 rfl _ zero27 ?_; intro b2 w1 hb2 hw1 hB1 hV2) | (go_at_call 68; refine (specNewSketch_any _).mono ?_; rintro e w2 ⟨v, rfl, hown, hB2⟩; obtain ⟨hRl, va, sc, bo, B, C, rfl, hva, hoa⟩ := hown; obtain rfl := hva (by decide); have hoa' : Hid (OwnAt w2 w1.heap.size w2.heap.size bo B C zeros) := hoa; clear hoa hva; rw [hz4.out]) | (refine wpList_alloc_v rfl 30 rfl _ zero27 ?_; intro ps w3 hps hw3 hB3 hV3) | (refine wpList_store_v rfl 30 _ _ rfl ps [.slice (some ⟨bo, 0, none⟩) 4 sc, .int .i64 0] rfl rfl size27 hV3 rfl (by simp [Value.oneCell']) ?_; intro w4 hO4 hV4; have h1 := hB1.size; have h2 := hB2.size; have h3 := hB3.size; have h4 := hO4.1; have HS : Hid (St w w4 p a0 len cap w1.heap.size w2.heap.size ps bo b2 sc B C zeros 0) := ⟨((hV2.below hB2 hw1).below hB3 (by omega)).of (hO4.2.1 b2 (by omega)), hV4, (hoa'.out.keep (Same.of_below hB3 (Nat.le_refl _)) hB3.size).keep (fun k g1 g2 => hO4.2.1 k (by omega)) (by omega), zeros_four, (cur_below (cur_below (cur_below (cur_below hc hB1 hp) hB2 (by omega)) hB3 (by omega)) (hO4.2.2 _ (Nat.le_refl _)) (by omega)), gb_below (gb_below (gb_below (gb_below (World.grownBy.refl _ _) hB1 (Nat.le_refl _)) hB2 h1) hB3 (by omega)) (hO4.2.2 _ (Nat.le_refl _)) (by omega), hp, hb2, hw1, hps, h2⟩; clear hV4 hV3 hV2 hoa'; obtain ⟨lo, hlo⟩ : ∃ lo, Hid (lo = w1.heap.size) := ⟨_, rfl⟩; obtain ⟨hi, hhi⟩ : ∃ hi, Hid (hi = w2.heap.size) := ⟨_, rfl⟩; rw [← hlo.out, ← hhi.out] at HS; clear h1 h2 h3 h4 hO4 hB1 hB2 hB3 hlo hhi hb2 hw1 hps hw3) | (go_at_call 73; refine (below_from w4 _ p a0 len cap _ (by omega) HS.out.cur (World.grownBy.refl _ _)).mono ?_; rintro e w5 ⟨x, rfl, hx0, hx1, hc5, hg5⟩; have HS5 := HS.out.drawn hg5 hc5; obtain ⟨x, rfl⟩ : ∃ k : Nat, x = k := ⟨x.toNat, by omega⟩) | (fail))
  go_loopw [4] (fun v' wr => ∃ (n : Nat) (R : List (List Int)) (adds : Int), n ≤ 39 ∧ v' = .int .i64 n ∧ Hid (St w wr p a0 len cap lo hi ps bo b2 sc B C R adds) ∧ Hid (Small R) ∧ 0 ≤ adds ∧ adds ≤ 159) (fun v' _ => (intOf v').toNat)
  case atStart => exact ⟨x, _, _, by omega, rfl, HS5, zeros_small, by omega, by omega⟩
  case round =>
    clear HS HS5 hc5 hg5 hx0 hx1 hc
    obtain ⟨n, R, adds, hn, rfl, hS, hsm, had⟩ := hrel
    by_cases hn0 : 0 < n
    · have hn0' : (0 : Int) < (n : Int) := by omega
      go_wp2_with (first | (go_at_call 86; refine (name_from wr _ p a0 len cap hS.out.cur (World.grownBy.refl _ _)).mono ?_; rintro e w6 ⟨s, rfl, hs, hc6, hg6⟩; have hS6 : Hid _ := hS.out.drawn hg6 hc6) | (go_at_call 108; refine (l2Add_any R hS6.out.four hsm.out adds had s (by omega) _ lo lo hi ps bo B C sc hS6.out.var hS6.out.own (by have := hS6.out.pshi; have := hS6.out.lohi; omega) (Nat.le_refl _) (.inr hS6.out.pshi)).mono ?_; rintro e w7 ⟨u, rfl, hv7, ho7, hB7⟩; have hS7 : Hid _ := hS6.out.added hB7 hv7 ho7 (plusR_four hS6.out.four); clear ho7 hv7) | (fail))
      go_roundw
      case rel => exact ⟨n - 1, _, _, by omega, by go_num, hS7, plusR_small _ _ _, plusN_bd had⟩
      case measure => simp [intOf]; omega
    · have hn0' : ¬ (0 : Int) < (n : Int) := by omega
      go_upto_if 16 with (first | (go_at_call 87; refine (once_from wr _ p a0 len cap _ (by omega) hS.out.cur (World.grownBy.refl _ _)).mono ?_; rintro e w6 ⟨y, rfl, hc6, hg6⟩; have hS6 : Hid _ := hS.out.drawn hg6 hc6) | (fail))
      go_cut [] (fun wc => ∃ adds', Hid (St w wc p a0 len cap lo hi ps bo b2 sc B C R adds'))
      case first =>
        have hf := hS6.out.var.frozen 1
        have hc1 := hS6.out.var.cell 1 (by simp)
        simp only [List.getElem_cons_zero, List.getElem_cons_succ] at hc1
        go_wp2_with (first | (go_at_call 73; refine (below_from w6 _ p a0 len cap _ (by omega) hS6.out.cur (World.grownBy.refl _ _)).mono ?_; rintro e w7 ⟨x, rfl, hx0, hx1, hc7, hg7⟩; have hS7 : Hid _ := hS6.out.drawn hg7 hc7; have hf7 := hS7.out.var.frozen 1; have hc17 := hS7.out.var.cell 1 (by simp); simp only [List.getElem_cons_zero, List.getElem_cons_succ] at hc17) | (fail))
        · go_meet
          case rel => exact ⟨_, hS7.out.adds _⟩
        · go_meet
          case rel => exact ⟨_, hS6⟩
      case rest =>
        obtain ⟨adds2, hS2⟩ := hcut
        clear hS hS6 hc6 hg6
        go_upto_if 22 with (first | (go_at_call 87; refine (once_from wc _ p a0 len cap _ (by omega) hS2.out.cur (World.grownBy.refl _ _)).mono ?_; rintro e w6 ⟨y, rfl, hc6, hg6⟩; have hS6 : Hid _ := hS2.out.drawn hg6 hc6) | (fail))
        go_cut [] (fun wd => ∃ v adds R, (∃ a n c, v = .slice a n c) ∧ Hid (Fin w wd p a0 len cap ps b2 v adds R))
        case first =>
          go_upto_if 25 with (first | (go_at_call 73; refine (below_from w6 _ p a0 len cap _ (by omega) hS6.out.cur (World.grownBy.refl _ _)).mono ?_; rintro e w7 ⟨x, rfl, hx0, hx1, hc7, hg7⟩; have hS7 : Hid _ := hS6.out.drawn hg7 hc7) | (fail))
          · rcases (by omega : x = 0 ∨ x = 1 ∨ x = 2) with rfl | rfl | rfl
            · have hSd : Hid (St w w7.drew p a0 len cap lo hi ps bo b2 sc B C R adds2) := hS7.out.drew
              have hSb : Hid (St w (w7.alloc (.cells #[.int .i64 (-1), .int .i64 15, .int .i64 16] 2)) p a0 len cap lo hi ps bo b2 sc B C R adds2) := hS7.out.alloc _
              have hSa : Hid (St w (w7.alloc (.cells #[.int .i64 (-1), .int .i64 15, .int .i64 16] 2)).drew p a0 len cap lo hi ps bo b2 sc B C R adds2) := hSb.out.drew
              obtain ⟨c1, c2, ⟨z, c3⟩, c4⟩ := hSd.out.reads
              obtain ⟨d1, d2, ⟨z2, d3⟩, d4⟩ := hSa.out.reads
              obtain ⟨i1, i2, ⟨z3, i3⟩, i4⟩ := hSb.out.reads
              have npp : p < w7.heap.size := hS7.out.cur.1
              go_wp2
              go_region_law (first | (go_simp; go_at_call 73; refine (below_from _ _ p a0 len cap _ (by omega) (by first | exact hSd.out.cur | exact hSa.out.cur) (World.grownBy.refl _ _)).mono ?_; rintro e w8 ⟨x8, rfl, g0, g1, hc8, hg8⟩; obtain ⟨k8, rfl⟩ : ∃ k : Nat, x8 = k := ⟨x8.toNat, by omega⟩; (first | (have hS8 : Hid _ := hSd.out.drawn hg8 hc8; obtain ⟨v8, lit8⟩ := lit3 w8 (-1) 15 16 2 k8 (by omega); have hS8a : Hid _ := hS8.out.alloc (.cells #[.int .i64 (-1), .int .i64 15, .int .i64 16] 2); obtain ⟨f1, f2, ⟨z9, f3⟩, f4⟩ := hS8a.out.reads) | (have hS8 : Hid _ := hSa.out.drawn hg8 hc8; obtain ⟨v8, lit80⟩ := lit3 w7 (-1) 15 16 2 k8 (by omega); have lit8 : w8.cell? ⟨w7.heap.size, k8, none⟩ = some (.int .i64 v8) := (gb_cell hg8 (by simp) (by omega) k8).trans lit80; clear lit80)); obtain ⟨e1, e2, ⟨z8, e3⟩, e4⟩ := hS8.out.reads; dsimp only) | (fail))
              all_goals
                go_wp2
                go_meet
                case rel =>
                  first
                  | (obtain ⟨R', hR'⟩ := hS8a.out.set v8; exact ⟨_, _, R', ⟨_, _, _, rfl⟩, hR'.fin⟩)
                  | (obtain ⟨R', hR'⟩ := hS8.out.set v8; exact ⟨_, _, R', ⟨_, _, _, rfl⟩, hR'.fin⟩)
            · have c0 := hS7.out.var.cell 0 (by simp)
              have f0 := hS7.out.var.frozen 0
              simp only [List.getElem_cons_zero] at c0
              go_wp2
              · go_meet
                case rel => exact ⟨_, _, _, ⟨_, _, _, rfl⟩, hS7.out.three 0 _ (by omega)⟩
              · go_meet
                case rel => exact ⟨_, _, _, ⟨_, _, _, rfl⟩, hS7.out.three 1 _ (by omega)⟩
            · have c0 := hS7.out.var.cell 1 (by simp)
              simp only [List.getElem_cons_zero, List.getElem_cons_succ] at c0
              go_wp2_with (first | (go_at_call 73; refine (below_lit w7 _ p a0 len cap [-1, 159, 160] _ 3 (-1) 160 rfl (by omega) (by decide) hS7.out.cur (World.grownBy.refl _ _)).mono ?_; rintro e w8 ⟨x8, v8, rfl, g80, g81, cell8, b8, b9, hc8, hg8⟩; obtain ⟨k8, rfl⟩ : ∃ k : Nat, x8 = k := ⟨x8.toNat, by omega⟩; rw [Int.toNat_natCast] at cell8; have hS8 : Hid _ := hS7.out.drawn hg8 hc8; have f8 := hS8.out.var.frozen 1; have c8 := hS8.out.var.cell 1 (by simp); simp only [List.getElem_cons_zero, List.getElem_cons_succ] at c8) | (fail))
              go_meet
              case rel => exact ⟨_, _, _, ⟨_, _, _, rfl⟩, (hS8.out.adds v8).fin⟩
          · go_meet
            case rel => exact ⟨_, _, _, ⟨_, _, _, rfl⟩, hS6.out.fin⟩
        case rest =>
          obtain ⟨v, adds3, R3, ⟨va, vn, vc, rfl⟩, hF⟩ := hcut
          have hV := hF.out.res
          have hs := hF.out.var
          have hc0 := hs.cell 0 (by simp)
          have hc1 := hs.cell 1 (by simp)
          simp only [List.getElem_cons_zero, List.getElem_cons_succ] at hc0 hc1
          go_wp2_with (first | (refine wpList_store_v rfl 30 _ _ rfl b2 [.slice va vn vc, .int .i64 adds3] rfl rfl size27 hV rfl (by simp [Value.oneCell']) ?_; intro w8 hO8 hV8) | (fail))
          have q1 := hF.out.b2lo
          have q2 := hF.out.pslo
          have q3 := hF.out.pw
          have q4 := hs.lt
          have q5 := hO8.1
          refine row_retv rfl rfl hV8 Try.underlying30 size27 rfl ⟨_, _, R3, rfl, ?_, cur_below hF.out.cur (hO8.2.2 _ (Nat.le_refl _)) (by omega), gb_below hF.out.gb (hO8.2.2 _ (Nat.le_refl _)) q1⟩
          exact (hF.out.rd.keep (fun k g1 g2 => hO8.2.1 k (by omega))).wide (by omega) (by omega)

end Go.Proofs.Ytmnjmghlkiljhaa.draw
/- What the laws of chapter 2 draw, third part: a sketch and a name. -/
namespace Go.Proofs.Ytmnjmghlkiljhaa.draw
open Go.ChangeShapes Go.WideShapes Go.ChangeAt Go.RowKit
open Go.Proofs.Ytmnjmghlkiljhaa.sk
set_option linter.unusedVariables false

theorem row_ret2v {fn : Func} {p u : Tmp} {ty : TypeId} (h : fn.results = #[.cell p ty, .tmp u]) {R : Ending → World → Prop} {a : Act} {w : World} {b : Nat} {t : TypeId} {vs : List Value} {fs : Array Field} {x : Value}
    (hp : a.tmps.getD p undef = .pointer (some ⟨b, 0, none⟩)) (hx : a.tmps.getD u undef = x) (hb : VBlk w b t vs) (hu : Try.prog.underlying ty = some (.struct fs))
    (hi : (Try.prog.info? ty).map (·.size) = some vs.length) (hdf : a.defers = []) (hR : R (.returned (.tuple #[.agg vs.toArray, x])) w) : bodyPost Try.prog fn R .ret a w := by
  refine bodyPost_ret ?_ hdf hR
  rw [results_cell_tmp h, hp, hx]
  have hl := run_loadVar_row (P := Try.prog) w b t ty vs.toArray (0, 0) _ hb hu rfl (by rw [hi]; simp)
  simp [asAddr, hl]

theorem code_below' {w w1 : World} {a0 : Option Addr} {len : Nat} (h : CodeAt w a0 len) (hB : Below w.heap.size w w1) : CodeAt w1 a0 len := by
  refine ⟨h.1, ?_⟩
  rcases h.2 with h0 | ⟨b, off, e, hl, hc⟩
  · exact .inl h0
  · refine .inr ⟨b, off, e, Nat.lt_of_lt_of_le hl hB.size, fun k hk => ?_⟩
    obtain ⟨c, hcell, h1, h2⟩ := hc k hk
    exact ⟨c, by rw [hB.cell hl]; exact hcell, h1, h2⟩

end Go.Proofs.Ytmnjmghlkiljhaa.draw
/- While a choice is drawn: its variable, the cursor; what is seen and forgotten keeps a choice right. -/
namespace Go.Proofs.Ytmnjmghlkiljhaa.rg
open Go.ChangeShapes Go.WideShapes Go.ChangeAt Go.RowKit
open Go.Proofs.Ytmnjmghlkiljhaa.ce Go.Proofs.Ytmnjmghlkiljhaa.ro Go.Proofs.Ytmnjmghlkiljhaa.draw
set_option linter.unusedVariables false

theorem chB_of {c : Ch} (h1 : sk.skOk c.S c.D) (h2 : HOk ⟨c.K, c.R, c.Q⟩) : chB c = true := by
  unfold chB wayB
  rw [decide_eq_true h1, ringB_iff.2 h2.r, namesB_iff.2 h2.q]
  rcases h2.way with ⟨a, b⟩ | ⟨a, b⟩ <;> dsimp only at a b <;> simp [a, b]
theorem chB_hok {c : Ch} (h : chB c = true) : sk.skOk c.S c.D ∧ HOk ⟨c.K, c.R, c.Q⟩ := by
  obtain ⟨a, b, d, e⟩ := chB_parts h
  exact ⟨a, b, d, e⟩
theorem plus_ok {S : List (List Int)} {D : Int} (s : ByteArray) (h : sk.skOk S D) : sk.skOk (sk.plusR S D s) (sk.plusN D) := by
  have := sk.added_ok (key := s) h
  unfold sk.addedR sk.addedN at this
  rw [if_pos h, if_pos h] at this
  exact this
theorem hc_eta (c : Hc) : (⟨c.K, c.R, c.Q⟩ : Hc) = c := by cases c; rfl
theorem seeH_K (c : Hc) (s : ByteArray) : (seeH c s).K = c.K := by unfold seeH; split <;> (try split) <;> rfl
theorem forgetH_K (c : Hc) (s : ByteArray) : (forgetH c s).K = c.K := by unfold forgetH; split <;> rfl
theorem seC_ok {c : Ch} (h : chB c = true) (s : ByteArray) : chB (seC c s) = true := by
  obtain ⟨h1, h2⟩ := chB_hok h
  refine chB_of ?_ ?_
  · unfold seC
    dsimp only
    split
    · exact plus_ok s h1
    · exact h1
  · have := seeH_ok h2 s
    have e := seeH_K ⟨c.K, c.R, c.Q⟩ s
    show HOk ⟨c.K, (seeH ⟨c.K, c.R, c.Q⟩ s).R, (seeH ⟨c.K, c.R, c.Q⟩ s).Q⟩
    have e2 : (⟨c.K, (seeH ⟨c.K, c.R, c.Q⟩ s).R, (seeH ⟨c.K, c.R, c.Q⟩ s).Q⟩ : Hc) = seeH ⟨c.K, c.R, c.Q⟩ s := by
      rw [← hc_eta (seeH ⟨c.K, c.R, c.Q⟩ s), e]
    rw [e2]; exact this
theorem fgC_hc (c : Ch) (s : ByteArray) : (⟨(fgC c s).K, (fgC c s).R, (fgC c s).Q⟩ : Hc) = forgetH ⟨c.K, c.R, c.Q⟩ s := by
  have e := forgetH_K ⟨c.K, c.R, c.Q⟩ s
  rw [← hc_eta (forgetH ⟨c.K, c.R, c.Q⟩ s), e]
  rfl
theorem fgC_ok {c : Ch} (h : chB c = true) (s : ByteArray) : chB (fgC c s) = true := by
  obtain ⟨h1, h2⟩ := chB_hok h
  exact chB_of h1 (by rw [fgC_hc]; exact (forgetH_ok h2 s).1)
theorem chB_sizes {c : Ch} (h : chB c = true) : (∀ s ∈ c.R.N, s.size ≤ 2000) ∧ (∀ s ∈ c.Q, s.size ≤ 2000) := by
  obtain ⟨-, b, d, -⟩ := chB_parts h
  exact ⟨fun s hs => by have := (nameB_size (b.nm s hs)).2; omega, fun s hs => by have := (nameB_size (d.1 s hs)).2; omega⟩

abbrev z7 : List Value := [.int .i64 0, .slice none 0 0, .slice none 0 0, .int .i64 0, .slice none 0 0, .slice none 0 0, .int .i64 0]
abbrev c7 (c : Ch) (vN vU vQ vS : Value) : List Value := [.int .i64 c.K, vN, vU, .int .i64 c.R.A, vQ, vS, .int .i64 c.D]
/-- while a right choice is drawn: the cursor in p, the answer's variable b2, the choice's b3 -/
structure Dh (w : World) (p : Nat) (a0 : Option Addr) (len cap b2 b3 lo m0 m : Nat) (vN vU vQ vS : Value) (c : Ch) (wr : World) : Prop where
  hp : p < w.heap.size
  hb : w.heap.size ≤ b2 ∧ b2 < lo ∧ m0 ≤ b3 ∧ b3 < m
  cur : Cur wr p a0 len cap
  gb : w.grownBy wr (some p)
  o : OwnO wr lo m0 m wr.heap.size vN vU vQ vS c
  v3 : VBlk wr b3 32 (c7 c vN vU vQ vS)
  v2 : VBlk wr b2 32 z7
  ok : chB c = true
section
variable {w : World} {p : Nat} {a0 : Option Addr} {len cap b2 b3 lo m0 m : Nat} {vN vU vQ vS : Value} {c : Ch} {wr w' : World}
theorem Dh.step (D : Dh w p a0 len cap b2 b3 lo m0 m vN vU vQ vS c wr) (hB : Below lo wr w') {vN' vU' vQ' : Value} {c' : Ch} (o : OwnO w' lo m0 m w'.heap.size vN' vU' vQ' vS c') (v3 : VBlk w' b3 32 (c7 c' vN' vU' vQ' vS)) (ok : chB c' = true) : Dh w p a0 len cap b2 b3 lo m0 m vN' vU' vQ' vS c' w' := by
  have hp := D.hp
  have hb := D.hb
  exact ⟨D.hp, D.hb, draw.cur_below D.cur hB (by omega), draw.gb_below D.gb hB (by omega), o, v3, D.v2.below hB hb.2.1, ok⟩
theorem Dh.went (D : Dh w p a0 len cap b2 b3 lo m0 m vN vU vQ vS c wr) (hc : Cur w' p a0 len cap) (hg : wr.grownBy w' (some p)) : Dh w p a0 len cap b2 b3 lo m0 m vN vU vQ vS c w' := by
  have hp := D.hp
  have hb := D.hb
  have hl := D.o.lm
  have k : ∀ g, w.heap.size ≤ g → g < wr.heap.size → w'.heap[g]? = wr.heap[g]? := fun g h1 h2 => hg.block g h2 (fun e => by cases e; omega)
  exact ⟨D.hp, D.hb, hc, gb_trans D.gb hg, (D.o.keep (fun g h => k g (by omega) (by omega)) hg.size).wide, D.v3.of (k b3 (by omega) D.v3.lt), D.v2.of (k b2 (by omega) D.v2.lt), D.ok⟩
theorem Dh.see (D : Dh w p a0 len cap b2 b3 lo m0 m vN vU vQ vS c wr) {s : ByteArray} {vN' vU' vQ' : Value} (o : OwnO w' lo m0 m w'.heap.size vN' vU' vQ' vS (seC c s)) (v3 : VBlk w' b3 32 [.int .i64 c.K, vN', vU', .int .i64 (seC c s).R.A, vQ', vS, .int .i64 (seC c s).D]) (t : Tw lo wr.heap.size b3 wr w') : Dh w p a0 len cap b2 b3 lo m0 m vN' vU' vQ' vS (seC c s) w' := by
  have hb := D.hb
  have hl := D.o.lm
  exact D.step (t.below (Nat.le_refl _) (by omega) (by omega)) o v3 (seC_ok D.ok s)
theorem Dh.forget (D : Dh w p a0 len cap b2 b3 lo m0 m vN vU vQ vS c wr) {s : ByteArray} {vN' vU' vQ' : Value} (o : OwnO w' lo m0 m w'.heap.size vN' vU' vQ' vS (fgC c s)) (v3 : VBlk w' b3 32 [.int .i64 c.K, vN', vU', .int .i64 (fgC c s).R.A, vQ', vS, .int .i64 c.D]) (t : Off b3 wr w') : Dh w p a0 len cap b2 b3 lo m0 m vN' vU' vQ' vS (fgC c s) w' := by
  have hb := D.hb
  have hl := D.o.lm
  exact D.step (t.below (by omega) (by omega)) o v3 (fgC_ok D.ok s)
end
/-- whatever choice is drawn -/
structure Dx (w : World) (p : Nat) (a0 : Option Addr) (len cap b2 b3 : Nat) (vN vU vQ vS : Value) (c : Ch) (wr : World) : Prop where
  hp : p < w.heap.size
  hb : w.heap.size ≤ b2 ∧ b2 < b3
  cur : Cur wr p a0 len cap
  gb : w.grownBy wr (some p)
  n : OwnR wr w.heap.size wr.heap.size vN vU c.R
  q : Own encS wr w.heap.size wr.heap.size vQ c.Q
  s : ∃ l h, b2 < l ∧ sk.Rd wr l h vS c.S ∧ l ≤ h ∧ h ≤ wr.heap.size ∧ (h ≤ b3 ∨ b3 < l)
  sz : (∀ s ∈ c.R.N, s.size ≤ 2000) ∧ (∀ s ∈ c.Q, s.size ≤ 2000)
  v3 : VBlk wr b3 32 (c7 c vN vU vQ vS)
  v2 : VBlk wr b2 32 z7
section
variable {w : World} {p : Nat} {a0 : Option Addr} {len cap b2 b3 lo m0 m : Nat} {vN vU vQ vS : Value} {c : Ch} {wr w' : World}
theorem Dh.dx (D : Dh w p a0 len cap b2 b3 lo m0 m vN vU vQ vS c wr) : Dx w p a0 len cap b2 b3 vN vU vQ vS c wr := by
  have hb := D.hb
  have hl := D.o.lm
  exact ⟨D.hp, by omega, D.cur, D.gb, D.o.r.wide (by omega) (Nat.le_refl _), D.o.q.wide (by omega) (Nat.le_refl _), ⟨lo, m0, by omega, D.o.s.rd, by omega, by omega, .inl (by omega)⟩, chB_sizes D.ok, D.v3, D.v2⟩
theorem Dx.went (D : Dx w p a0 len cap b2 b3 vN vU vQ vS c wr) (hc : Cur w' p a0 len cap) (hg : wr.grownBy w' (some p)) : Dx w p a0 len cap b2 b3 vN vU vQ vS c w' := by
  have hp := D.hp
  have hb := D.hb
  have hz := hg.size
  have k : ∀ g, w.heap.size ≤ g → g < wr.heap.size → w'.heap[g]? = wr.heap[g]? := fun g h1 h2 => hg.block g h2 (fun e => by cases e; omega)
  obtain ⟨l, h, e1, e2, e3, e4, e5⟩ := D.s
  exact ⟨D.hp, D.hb, hc, gb_trans D.gb hg, (ownR_keep D.n fun g h1 h2 => k g h1 h2).wide (Nat.le_refl _) hz, (D.q.keep fun g h1 h2 => k g h1 h2).wide (Nat.le_refl _) hz, ⟨l, h, e1, sk.Rd.keep e2 (fun g h1 h2 => k g (by omega) (by omega)), e3, by omega, e5⟩, D.sz, D.v3.of (k b3 (by omega) D.v3.lt), D.v2.of (k b2 (by omega) D.v2.lt)⟩
/-- the variable has been written -/
theorem Dx.put (D : Dx w p a0 len cap b2 b3 vN vU vQ vS c wr) (hO : Only b3 wr w') {vN' vU' vQ' vS' : Value} {c' : Ch} (v3 : VBlk w' b3 32 (c7 c' vN' vU' vQ' vS')) (n : OwnR wr w.heap.size wr.heap.size vN' vU' c'.R) (q : Own encS wr w.heap.size wr.heap.size vQ' c'.Q) (s : ∃ l h, b2 < l ∧ sk.Rd wr l h vS' c'.S ∧ l ≤ h ∧ h ≤ wr.heap.size ∧ (h ≤ b3 ∨ b3 < l)) (sz : (∀ s ∈ c'.R.N, s.size ≤ 2000) ∧ (∀ s ∈ c'.Q, s.size ≤ 2000)) : Dx w p a0 len cap b2 b3 vN' vU' vQ' vS' c' w' := by
  have hp := D.hp
  have hb := D.hb
  have e := hO.1
  obtain ⟨l, h, e1, e2, e3, e4, e5⟩ := s
  exact ⟨D.hp, D.hb, draw.cur_below D.cur (hO.2.2 b3 (Nat.le_refl _)) (by omega), draw.gb_below D.gb (hO.2.2 b3 (Nat.le_refl _)) (by omega), ⟨(n.n.only hO D.v3 (by decide)).wide (Nat.le_refl _) (by omega), (n.u.only hO D.v3 (by decide)).wide (Nat.le_refl _) (by omega)⟩, (q.only hO D.v3 (by decide)).wide (Nat.le_refl _) (by omega), ⟨l, h, e1, sk.Rd.keep e2 (fun g h1 h2 => hO.2.1 g (by omega)), e3, by omega, e5⟩, sz, v3, vblk_only D.v2 hO (by omega)⟩
/-- a choice whose memory lies in a known part -/
structure LdC (w : World) (lo hi : Nat) (vN vU vQ vS : Value) (c : Ch) : Prop where
  n : OwnR w lo hi vN vU c.R
  q : Own encS w lo hi vQ c.Q
  s : sk.Rd w lo hi vS c.S
  hh : hi ≤ w.heap.size
  sz : (∀ s ∈ c.R.N, s.size ≤ 2000) ∧ (∀ s ∈ c.Q, s.size ≤ 2000)
theorem LdC.keep {w w' : World} {lo hi : Nat} {vN vU vQ vS : Value} {c : Ch} (h : LdC w lo hi vN vU vQ vS c) (s : ∀ k, lo ≤ k → k < hi → w'.heap[k]? = w.heap[k]?) (hs : w.heap.size ≤ w'.heap.size) : LdC w' lo hi vN vU vQ vS c :=
  ⟨ownR_keep h.n s, h.q.keep s, sk.Rd.keep h.s s, Nat.le_trans h.hh hs, h.sz⟩
theorem LdC.grow {w w' : World} {lo hi : Nat} {vN vU vQ vS : Value} {c : Ch} (h : LdC w lo hi vN vU vQ vS c) (hb : Below w.heap.size w w') : LdC w' lo hi vN vU vQ vS c := h.keep (fun k _ y => hb.block k (by have := h.hh; omega)) hb.size
theorem LdC.went {w w' : World} {lo hi p : Nat} {vN vU vQ vS : Value} {c : Ch} (h : LdC w lo hi vN vU vQ vS c) (hp : p < lo) (hg : w.grownBy w' (some p)) : LdC w' lo hi vN vU vQ vS c :=
  h.keep (fun k x y => hg.block k (by have := h.hh; omega) (fun e => by cases e; omega)) hg.size
theorem LdC.wide {w : World} {lo hi lo' hi' : Nat} {vN vU vQ vS : Value} {c : Ch} (h : LdC w lo hi vN vU vQ vS c) (h1 : lo' ≤ lo) (h2 : hi ≤ hi') (h3 : hi' ≤ w.heap.size) : LdC w lo' hi' vN vU vQ vS c := ⟨h.n.wide h1 h2, h.q.wide h1 h2, h.s.wide h1 h2, h3, h.sz⟩
theorem LdC.rd {w : World} {lo hi : Nat} {vN vU vQ vS : Value} {c : Ch} (h : LdC w lo hi vN vU vQ vS c) : RdC w vN vU vQ vS c :=
  ⟨h.n.rd (fun s hs => by have := h.sz.1 s hs; omega), h.q.rd, fun s hs => (by have := h.sz.2 s hs; omega), h.s.wide (Nat.zero_le _) h.hh⟩
theorem LdC.forms {w : World} {lo hi : Nat} {vN vU vQ vS : Value} {c : Ch} (h : LdC w lo hi vN vU vQ vS c) : (∃ a n k, vN = .slice a n k) ∧ (∃ a n k, vU = .slice a n k) ∧ (∃ a n k, vQ = .slice a n k) ∧ ∃ a n k, vS = .slice a n k := by
  obtain ⟨a, k, e⟩ := sk_form h.s
  exact ⟨h.n.n.slice, h.n.u.slice, h.q.slice, a, _, k, e⟩
/-- a choice has been drawn -/
structure Gc (w : World) (p : Nat) (a0 : Option Addr) (len cap : Nat) (vN vU vQ vS : Value) (c : Ch) (w' : World) : Prop where
  o : LdC w' w.heap.size w'.heap.size vN vU vQ vS c
  cur : Cur w' p a0 len cap
  gb : w.grownBy w' (some p)
theorem Dx.got (D : Dx w p a0 len cap b2 b3 vN vU vQ vS c wr) (hO : Only b2 wr w') : Gc w p a0 len cap vN vU vQ vS c w' := by
  have hp := D.hp
  have hb := D.hb
  have e := hO.1
  obtain ⟨l, h, e1, e2, e3, e4, e5⟩ := D.s
  have n : OwnR w' w.heap.size w'.heap.size vN vU c.R := ⟨(D.n.n.only hO D.v2 (by decide)).wide (Nat.le_refl _) (by omega), (D.n.u.only hO D.v2 (by decide)).wide (Nat.le_refl _) (by omega)⟩
  exact ⟨⟨n, (D.q.only hO D.v2 (by decide)).wide (Nat.le_refl _) (by omega), (sk.Rd.keep e2 (fun g h1 h2 => hO.2.1 g (by omega))).wide (by omega) (by omega), Nat.le_refl _, D.sz⟩, draw.cur_below D.cur (hO.2.2 b2 (Nat.le_refl _)) (by omega), draw.gb_below D.gb (hO.2.2 b2 (Nat.le_refl _)) (by omega)⟩
end
end Go.Proofs.Ytmnjmghlkiljhaa.rg
/- What the laws of chapter 16 draw: a choice, with a name; a kind. -/
namespace Go.Proofs.Ytmnjmghlkiljhaa.rg
open Go.ChangeShapes Go.WideShapes Go.ChangeAt Go.RowKit
open Go.Deep Go.Joins
open Go.Proofs.Ytmnjmghlkiljhaa.ce Go.Proofs.Ytmnjmghlkiljhaa.ro Go.Proofs.Ytmnjmghlkiljhaa.draw
set_option linter.unusedVariables false
set_option linter.unusedSimpArgs false

theorem dh_new {w w2 w3 w4 w5 : World} {p : Nat} {a0 : Option Addr} {len cap b2 b3 : Nat} {v : Value} {k : Int} (hc : Cur w p a0 len cap) (hp : p < w.heap.size) (hk : k = 1 ∨ k = 2) (hb2 : w.heap.size ≤ b2) (hb2' : b2 < w2.heap.size) (hb3 : w3.heap.size ≤ b3) (hw4 : b3 < w4.heap.size) (hz2 : w.heap.size ≤ w2.heap.size) (hg2 : w.grownBy w2 (some p)) (hc2 : Cur w2 p a0 len cap) (hB3 : Below w2.heap.size w2 w3) (hB4 : Below w3.heap.size w3 w4) (hO5 : Only b3 w4 w5)
    (V5 : VBlk w5 b3 32 [.int .i64 k, .slice none 0 0, .slice none 0 0, .int .i64 0, .slice none 0 0, v, .int .i64 0]) (V2 : VBlk w4 b2 32 z7) (o3 : sk.Own w4 w2.heap.size w3.heap.size v sk.zeros) : Dh w p a0 len cap b2 b3 w2.heap.size w3.heap.size w5.heap.size (.slice none 0 0) (.slice none 0 0) (.slice none 0 0) v (newC k) w5 := by
  have e5 := hO5.1
  have hz3 := hB3.size
  have hz4 := hB4.size
  have hB : Below w2.heap.size w2 w5 := (hB3.trans (hB4.mono hz3)).trans (hO5.2.2 _ (by omega))
  exact ⟨hp, ⟨hb2, hb2', hb3, by omega⟩, draw.cur_below hc2 hB (by omega), draw.gb_below hg2 hB hz2, ownO_new hk (sk.Own.keep o3 (fun j h1 h2 => hO5.2.1 j (by omega)) (by omega)) hz3 (by omega) _ (by omega) (Nat.le_refl _), V5, vblk_only V2 hO5 (by omega), by rw [newC_ok]; rcases hk with rfl | rfl <;> rfl⟩
set_option maxRecDepth 100000 in
set_option maxHeartbeats 8000000 in
theorem l16Draw_any (w : World) (p : Nat) (a0 : Option Addr) (len cap : Nat) (hc : Cur w p a0 len cap) :
    Calls Try.prog 47 #[.pointer (some ⟨p, 0, none⟩)] w fun e w' => ∃ vN vU vQ vS c, e = .returned (.agg #[.int .i64 c.K, vN, vU, .int .i64 c.R.A, vQ, vS, .int .i64 c.D]) ∧ Gc w p a0 len cap vN vU vQ vS c w' := by
  have HC : Hid (Cur w p a0 len cap) := hc
  have hpl := hc.1
  clear hc
  have m1 : Hid True := trivial
  have m2 : Hid True := trivial
  go_enter Try.func47, Try.ntmps47
  go_wp2_with (first | (clear m1; refine wpList_alloc_v rfl 32 rfl _ zeroCh ?_; intro b2 w1 hb2 hw2 hB1 V2; have hz1 := hB1.size; have hc1 : Hid (Cur w1 p a0 len cap) := draw.cur_below HC.out hB1 hpl; have hg1 : Hid (w.grownBy w1 (some p)) := draw.gb_below (World.grownBy.refl _ _) hB1 (Nat.le_refl _)) | (clear m2; go_at_call 73; refine (below_from w1 w1 p a0 len cap 2 (by omega) hc1.out (World.grownBy.refl _ _)).mono ?_; rintro e w2 ⟨x, rfl, hx0, hx1, hc2, hg2⟩; replace V2 := draw.vblk_gb V2 hg2 (by omega); have hz2 := hg2.size; have HG2 : Hid (w.grownBy w2 (some p)) := gb_trans hg1.out hg2) | (go_at_call 23; refine (specNewChoiceO_any (1 + x) (by omega) w2).mono ?_; rintro e w3 ⟨v3, rfl, o3, hB3⟩; obtain ⟨aS, nS, kS, rfl⟩ := sk.Own.form o3; replace V2 := vblk_grow V2 hB3; have hz3 := hB3.size) | (refine wpList_alloc_v rfl 32 rfl _ zeroCh ?_; intro b3 w4 hb3 hw4 hB4 V3; replace V2 := vblk_grow V2 hB4; have hz4 := hB4.size; replace o3 := o3.below hB4 (Nat.le_refl _)) | (refine wpList_store_v rfl 32 _ _ rfl b3 [.int .i64 (1 + x), .slice none 0 0, .slice none 0 0, .int .i64 0, .slice none 0 0, .slice aS nS kS, .int .i64 0] rfl rfl sizeCh V3 rfl (by simp [Value.oneCell']) ?_; intro w5 hO5 V5; have D0 : Hid (Dh w p a0 len cap b2 b3 w2.heap.size w3.heap.size w5.heap.size (.slice none 0 0) (.slice none 0 0) (.slice none 0 0) (.slice aS nS kS) (newC (1 + x)) w5) := by (have q1 : 1 + x = 1 ∨ 1 + x = 2 := by omega); (have q2 : b2 < w2.heap.size := by omega); (have q3 : w.heap.size ≤ w2.heap.size := by omega); exact dh_new HC.out hpl q1 hb2 q2 hb3 hw4 q3 HG2.out hc2 hB3 hB4 hO5 V5 V2 o3) | (go_at_call 73; refine (below_from w5 w5 p a0 len cap 14 (by omega) D0.out.cur (World.grownBy.refl _ _)).mono ?_; rintro e w6 ⟨y, rfl, hy0, hy1, hc6, hg6⟩; have D1 := D0.out.went hc6 hg6; obtain ⟨k0, hk0⟩ : ∃ k : Nat, y = k := ⟨y.toNat, by omega⟩; subst hk0) | (fail))
  have hlo : ∃ lo m0 m c, Hid (Dh w p a0 len cap b2 b3 lo m0 m (.slice none 0 0) (.slice none 0 0) (.slice none 0 0) (.slice aS nS kS) c w6) := ⟨_, _, _, _, D1⟩
  clear D0 D1 V2 V3 V5 o3 hc1 hg1 HG2 hc2 hg2 hB1 hB3 hB4 hO5 hc6 hg6 hz1 hz2 hz3 hz4 hb2 hb3 hw2 hw4
  obtain ⟨lo, m0, m, c0, D2⟩ := hlo
  go_loopw [5] (fun v wr => ∃ (k : Nat) (vN vU vQ : Value) (c : Ch), v = .int .i64 k ∧ k ≤ 13 ∧ Hid (Dh w p a0 len cap b2 b3 lo m0 m vN vU vQ (.slice aS nS kS) c wr)) (fun v _ => (intOf v).toNat)
  case atStart => exact ⟨k0, _, _, _, c0, rfl, by omega, D2⟩
  case round =>
    clear D2
    obtain ⟨k, vN, vU, vQ, c, rfl, hk, D⟩ := hrel
    by_cases hk0 : 0 < k
    · have hk0' : (0 : Int) < (k : Int) := by omega
      have n1 : Hid True := trivial
      go_wp2_with (first | (clear n1; go_at_call 86; refine (name_from wr wr p a0 len cap D.out.cur (World.grownBy.refl _ _)).mono ?_; rintro e w7 ⟨s, rfl, hs, hc7, hg7⟩; have D7 := D.out.went hc7 hg7) | (go_at_call 62; refine (l16SeeO_any c D7.ok s (by omega) vN vU vQ _ b3 lo m0 m w7.heap.size w7 D7.o (.inr D7.hb.2.2) D7.v3).mono ?_; rintro e w8 ⟨⟨u8, rfl⟩, vN8, vU8, vQ8, o8, V8, T8⟩; have D8 : Hid (Dh w p a0 len cap b2 b3 lo m0 m vN8 vU8 vQ8 (.slice aS nS kS) (seC c s) w8) := D7.see o8 V8 T8; clear o8 V8 T8 D7) | (go_at_call 87; refine (once_from w8 w8 p a0 len cap 6 (by omega) D8.out.cur (World.grownBy.refl _ _)).mono ?_; rintro e w9 ⟨y, rfl, hc9, hg9⟩; have D9 : Hid (Dh w p a0 len cap b2 b3 lo m0 m vN8 vU8 vQ8 (.slice aS nS kS) (seC c s) w9) := D8.out.went hc9 hg9; clear D8; cases y) | (go_at_call 86; refine (name_from w9 w9 p a0 len cap D9.out.cur (World.grownBy.refl _ _)).mono ?_; rintro e w10 ⟨s2, rfl, hs2, hc10, hg10⟩; have D10 := D9.out.went hc10 hg10) | (go_at_call 63; refine (l16ForgetO_any (seC c s) D10.ok s2 vN8 vU8 vQ8 _ b3 lo m0 m w10.heap.size w10 D10.o (.inr D10.hb.2.2) D10.v3).mono ?_; rintro e w11 ⟨⟨u11, rfl⟩, vN11, vU11, vQ11, o11, V11, T11⟩; have D11 : Hid (Dh w p a0 len cap b2 b3 lo m0 m vN11 vU11 vQ11 (.slice aS nS kS) (fgC (seC c s) s2) w11) := D10.forget o11 V11 T11; clear o11 V11 T11 D10) | (fail))
      · go_roundw
        case rel => exact ⟨k - 1, vN8, vU8, vQ8, _, by simp; omega, by omega, D9⟩
        case measure => simp [intOf]; omega
      · go_roundw
        case rel => exact ⟨k - 1, vN11, vU11, vQ11, _, by simp; omega, by omega, D11⟩
        case measure => simp [intOf]; omega
    · have hk0' : ¬ (0 : Int) < (k : Int) := by omega
      have DX0 : Hid (Dx w p a0 len cap b2 b3 vN vU vQ (.slice aS nS kS) c wr) := D.out.dx
      clear D
      obtain ⟨aN, nN, kN, rfl⟩ := DX0.out.n.n.slice
      obtain ⟨aU, nU, kU, rfl⟩ := DX0.out.n.u.slice
      obtain ⟨aQ, nQ, kQ, rfl⟩ := DX0.out.q.slice
      obtain ⟨K, ⟨N, U, A⟩, Q, S, E⟩ := c
      go_upto_if 28 with (first | (go_at_call 87; refine (once_from wr wr p a0 len cap 10 (by omega) DX0.out.cur (World.grownBy.refl _ _)).mono ?_; rintro e w7 ⟨y, rfl, hc7, hg7⟩; have D7 : Hid (Dx w p a0 len cap b2 b3 (.slice aN nN kN) (.slice aU nU kU) (.slice aQ nQ kQ) (.slice aS nS kS) ⟨K, ⟨N, U, A⟩, Q, S, E⟩ w7) := DX0.out.went hc7 hg7) | (fail))
      clear DX0
      cases y with
      | false =>
        obtain ⟨c0, c1, c2, c3, c4, c5, c6⟩ := cells7c D7.out.v3
        have v2z := D7.out.v2
        go_wp2_with (first | (refine wpList_store_v rfl 32 _ _ rfl b2 [.int .i64 K, .slice aN nN kN, .slice aU nU kU, .int .i64 A, .slice aQ nQ kQ, .slice aS nS kS, .int .i64 E] rfl rfl sizeCh v2z rfl (by simp [Value.oneCell']) ?_; intro w19 hO19 V19) | (fail))
        exact row_retv rfl rfl V19 Try.underlying32 sizeCh rfl ⟨_, _, _, _, ⟨K, ⟨N, U, A⟩, Q, S, E⟩, rfl, D7.out.got hO19⟩
      | true =>
        go_upto_region 10 with (first | (go_at_call 73; refine (below_from w7 w7 p a0 len cap 4 (by omega) D7.out.cur (World.grownBy.refl _ _)).mono ?_; rintro e w8 ⟨y, rfl, hy0, hy1, hc8, hg8⟩; have D8 : Hid (Dx w p a0 len cap b2 b3 (.slice aN nN kN) (.slice aU nU kU) (.slice aQ nQ kQ) (.slice aS nS kS) ⟨K, ⟨N, U, A⟩, Q, S, E⟩ w8) := D7.out.went hc8 hg8) | (fail))
        clear D7
        have v38 := D8.out.v3
        obtain hy | hy | hy | hy : y = 0 ∨ y = 1 ∨ y = 2 ∨ y = 3 := by omega
        · subst hy
          go_wp2_with (first | (go_at_call 56; refine (from_from w8 w8 p a0 len cap 0 3 (by omega) (by omega) (by omega) D8.out.cur (World.grownBy.refl _ _)).mono ?_; rintro e w9 ⟨z, rfl, hz0, hz1, hc9, hg9⟩; have D9 : Hid (Dx w p a0 len cap b2 b3 (.slice aN nN kN) (.slice aU nU kU) (.slice aQ nQ kQ) (.slice aS nS kS) ⟨K, ⟨N, U, A⟩, Q, S, E⟩ w9) := D8.out.went hc9 hg9; have v39 := D9.out.v3) | (refine wpList_store_n rfl _ _ rfl b3 0 z rfl rfl v39 (by simp) ?_; intro w10 hO10 V10x; have V10 : VBlk w10 b3 32 [.int .i64 z, .slice aN nN kN, .slice aU nU kU, .int .i64 A, .slice aQ nQ kQ, .slice aS nS kS, .int .i64 E] := V10x; have D10 : Hid (Dx w p a0 len cap b2 b3 (.slice aN nN kN) (.slice aU nU kU) (.slice aQ nQ kQ) (.slice aS nS kS) ⟨z, ⟨N, U, A⟩, Q, S, E⟩ w10) := D9.out.put hO10 V10 D9.out.n D9.out.q D9.out.s D9.out.sz; obtain ⟨c0, c1, c2, c3, c4, c5, c6⟩ := cells7c V10) | (refine wpList_store_v rfl 32 _ _ rfl b2 [.int .i64 z, .slice aN nN kN, .slice aU nU kU, .int .i64 A, .slice aQ nQ kQ, .slice aS nS kS, .int .i64 E] rfl rfl sizeCh D10.out.v2 rfl (by simp [Value.oneCell']) ?_; intro w19 hO19 V19) | (fail))
          exact row_retv rfl rfl V19 Try.underlying32 sizeCh rfl ⟨_, _, _, _, ⟨z, ⟨N, U, A⟩, Q, S, E⟩, rfl, D10.out.got hO19⟩
        · subst hy
          go_wp2_with (first | (go_at_call 88; refine (l8Draw_any w8 p a0 len cap D8.out.cur).mono ?_; rintro e w9 ⟨vN2, vU2, ⟨N2, U2, A2⟩, rfl, G9⟩; have D9 : Hid (Dx w p a0 len cap b2 b3 (.slice aN nN kN) (.slice aU nU kU) (.slice aQ nQ kQ) (.slice aS nS kS) ⟨K, ⟨N, U, A⟩, Q, S, E⟩ w9) := D8.out.went G9.cur G9.gb; have v39 := D9.out.v3; have oR9 : Hid (OwnR w9 w.heap.size w9.heap.size vN2 vU2 ⟨N2, U2, A2⟩) := G9.o.wide D8.out.gb.size (Nat.le_refl _); obtain ⟨aN2, nN2, kN2, rfl⟩ := G9.o.n.slice; obtain ⟨aU2, nU2, kU2, rfl⟩ := G9.o.u.slice; have sR9 : Hid (∀ s ∈ N2, s.size ≤ 2000) := G9.s.s) | (refine wpList_store_sub rfl 27 _ _ rfl b3 1 [.slice aN2 nN2 kN2, .slice aU2 nU2 kU2, .int .i64 A2] rfl rfl sizeRg v39 (by simp) rfl (by simp [Value.oneCell']) ?_; intro w10 hO10 V10x; have V10 : VBlk w10 b3 32 [.int .i64 K, .slice aN2 nN2 kN2, .slice aU2 nU2 kU2, .int .i64 A2, .slice aQ nQ kQ, .slice aS nS kS, .int .i64 E] := V10x; have D10 : Hid (Dx w p a0 len cap b2 b3 (.slice aN2 nN2 kN2) (.slice aU2 nU2 kU2) (.slice aQ nQ kQ) (.slice aS nS kS) ⟨K, ⟨N2, U2, A2⟩, Q, S, E⟩ w10) := D9.out.put hO10 V10 oR9.out D9.out.q D9.out.s ⟨sR9.out, D9.out.sz.2⟩; obtain ⟨c0, c1, c2, c3, c4, c5, c6⟩ := cells7c V10) | (refine wpList_store_v rfl 32 _ _ rfl b2 [.int .i64 K, .slice aN2 nN2 kN2, .slice aU2 nU2 kU2, .int .i64 A2, .slice aQ nQ kQ, .slice aS nS kS, .int .i64 E] rfl rfl sizeCh D10.out.v2 rfl (by simp [Value.oneCell']) ?_; intro w19 hO19 V19) | (fail))
          exact row_retv rfl rfl V19 Try.underlying32 sizeCh rfl ⟨_, _, _, _, ⟨K, ⟨N2, U2, A2⟩, Q, S, E⟩, rfl, D10.out.got hO19⟩
        · subst hy
          go_wp2_with (first | (go_at_call 89; refine (l9Draw_any w8 p a0 len cap D8.out.cur).mono ?_; rintro e w9 ⟨vQ2, Q2, rfl, G9, -⟩; have D9 : Hid (Dx w p a0 len cap b2 b3 (.slice aN nN kN) (.slice aU nU kU) (.slice aQ nQ kQ) (.slice aS nS kS) ⟨K, ⟨N, U, A⟩, Q, S, E⟩ w9) := D8.out.went G9.cur G9.gb; have v39 := D9.out.v3; have oQ9 : Hid (Own encS w9 w.heap.size w9.heap.size vQ2 Q2) := G9.o.wide D8.out.gb.size (Nat.le_refl _); obtain ⟨aQ2, nQ2, kQ2, rfl⟩ := G9.o.slice; have sQ9 : Hid (∀ s ∈ Q2, s.size ≤ 2000) := G9.s) | (refine wpList_store_cc rfl 24 _ _ rfl b3 4 (.slice aQ2 nQ2 kQ2) rfl rfl rfl szSl v39 (by simp) ?_; intro w10 hO10 V10x; have V10 : VBlk w10 b3 32 [.int .i64 K, .slice aN nN kN, .slice aU nU kU, .int .i64 A, .slice aQ2 nQ2 kQ2, .slice aS nS kS, .int .i64 E] := V10x; have D10 : Hid (Dx w p a0 len cap b2 b3 (.slice aN nN kN) (.slice aU nU kU) (.slice aQ2 nQ2 kQ2) (.slice aS nS kS) ⟨K, ⟨N, U, A⟩, Q2, S, E⟩ w10) := D9.out.put hO10 V10 D9.out.n oQ9.out D9.out.s ⟨D9.out.sz.1, sQ9.out⟩; obtain ⟨c0, c1, c2, c3, c4, c5, c6⟩ := cells7c V10) | (refine wpList_store_v rfl 32 _ _ rfl b2 [.int .i64 K, .slice aN nN kN, .slice aU nU kU, .int .i64 A, .slice aQ2 nQ2 kQ2, .slice aS nS kS, .int .i64 E] rfl rfl sizeCh D10.out.v2 rfl (by simp [Value.oneCell']) ?_; intro w19 hO19 V19) | (fail))
          exact row_retv rfl rfl V19 Try.underlying32 sizeCh rfl ⟨_, _, _, _, ⟨K, ⟨N, U, A⟩, Q2, S, E⟩, rfl, D10.out.got hO19⟩
        · subst hy
          go_wp2_with (first | (go_at_call 90; refine (l2Draw_any w8 p a0 len cap D8.out.cur).mono ?_; rintro e w9 ⟨vS2, E2, S2, rfl, rS9, hc9, hg9⟩; have D9 : Hid (Dx w p a0 len cap b2 b3 (.slice aN nN kN) (.slice aU nU kU) (.slice aQ nQ kQ) (.slice aS nS kS) ⟨K, ⟨N, U, A⟩, Q, S, E⟩ w9) := D8.out.went hc9 hg9; have v39 := D9.out.v3; have hs9 : Hid (∃ l h, b2 < l ∧ sk.Rd w9 l h vS2 S2 ∧ l ≤ h ∧ h ≤ w9.heap.size ∧ (h ≤ b3 ∨ b3 < l)) := ⟨w8.heap.size, w9.heap.size, by have := D8.out.v2.lt; omega, rS9, hg9.size, Nat.le_refl _, .inr D8.out.v3.lt⟩; obtain ⟨aS2, kS2, rfl⟩ := sk_form rS9; obtain ⟨nS2, hnS2⟩ := hid_ex S2.length; rw [hnS2.out] at hs9 ⊢) | (refine wpList_store_sub rfl 30 _ _ rfl b3 5 [.slice aS2 nS2 kS2, .int .i64 E2] rfl rfl sk.size27 v39 (by simp) rfl (by simp [Value.oneCell']) ?_; intro w10 hO10 V10x; have V10 : VBlk w10 b3 32 [.int .i64 K, .slice aN nN kN, .slice aU nU kU, .int .i64 A, .slice aQ nQ kQ, .slice aS2 nS2 kS2, .int .i64 E2] := V10x; have D10 : Hid (Dx w p a0 len cap b2 b3 (.slice aN nN kN) (.slice aU nU kU) (.slice aQ nQ kQ) (.slice aS2 nS2 kS2) ⟨K, ⟨N, U, A⟩, Q, S2, E2⟩ w10) := D9.out.put hO10 V10 D9.out.n D9.out.q hs9.out D9.out.sz; obtain ⟨c0, c1, c2, c3, c4, c5, c6⟩ := cells7c V10) | (refine wpList_store_v rfl 32 _ _ rfl b2 [.int .i64 K, .slice aN nN kN, .slice aU nU kU, .int .i64 A, .slice aQ nQ kQ, .slice aS2 nS2 kS2, .int .i64 E2] rfl rfl sizeCh D10.out.v2 rfl (by simp [Value.oneCell']) ?_; intro w19 hO19 V19) | (fail))
          exact row_retv rfl rfl V19 Try.underlying32 sizeCh rfl ⟨_, _, _, _, ⟨K, ⟨N, U, A⟩, Q, S2, E2⟩, rfl, D10.out.got hO19⟩
end Go.Proofs.Ytmnjmghlkiljhaa.rg
/- What the laws of chapter 16 draw: a choice, with a name; a kind. -/
namespace Go.Proofs.Ytmnjmghlkiljhaa.rg
open Go.ChangeShapes Go.WideShapes Go.ChangeAt Go.RowKit
open Go.Deep Go.Joins
open Go.Proofs.Ytmnjmghlkiljhaa.draw
set_option linter.unusedSimpArgs false
open Go.Proofs.Ytmnjmghlkiljhaa.ce Go.Proofs.Ytmnjmghlkiljhaa.ro Go.Proofs.Ytmnjmghlkiljhaa.rg
set_option linter.unusedVariables false

theorem gbc_low {w w2 w3 : World} {p : Nat} (hB : Below w.heap.size w w2) (hp : w.heap.size ≤ p) (hg : w2.grownBy w3 (some p)) : Below w.heap.size w w3 := hB.grown hg hB.size (fun k hk => by cases hk; exact hp)
theorem gbc_vblk {w2 w3 : World} {p b : Nat} {t : TypeId} {vs : List Value} (hv : VBlk w2 b t vs) (hn : b ≠ p) (hg : w2.grownBy w3 (some p)) : VBlk w3 b t vs := hv.of (hg.block b hv.lt (fun e => by cases e; exact hn rfl))
theorem codec_below {w w' : World} {a0 : Option Addr} {len : Nat} (h : CodeAt w a0 len) (hB : Below w.heap.size w w') : CodeAt w' a0 len := by
  refine ⟨h.1, ?_⟩
  rcases h.2 with h0 | ⟨b, off, e, hl, hc⟩
  · exact .inl h0
  · refine .inr ⟨b, off, e, Nat.lt_of_lt_of_le hl hB.size, fun k hk => ?_⟩
    obtain ⟨c, hcell, h1, h2⟩ := hc k hk
    exact ⟨c, by rw [hB.cell hl]; exact hcell, h1, h2⟩
set_option maxRecDepth 100000 in
set_option maxHeartbeats 4000000 in
theorem drawSees_any (w : World) (a0 : Option Addr) (len cap : Nat) (hcode : CodeAt w a0 len) :
    Calls Try.prog 8 #[.slice a0 len cap] w fun e w' => ∃ vN vU vQ vS c s, e = .returned (.tuple #[.agg #[.int .i64 c.K, vN, vU, .int .i64 c.R.A, vQ, vS, .int .i64 c.D], .string s]) ∧ s.size ≤ 13 ∧ LdC w' w.heap.size w'.heap.size vN vU vQ vS c ∧ Below w.heap.size w w' := by
  have HC : Hid (CodeAt w a0 len) := hcode
  clear hcode
  have hzw0 : w.heap.size ≤ w.heap.size := Nat.le_refl _
  go_enter Try.func8, Try.ntmps8
  have mk1 : Hid True := trivial
  have mk2 : Hid True := trivial
  have mk3 : Hid True := trivial
  have mk4 : Hid True := trivial
  have mk5 : Hid True := trivial
  go_upto_region 3 with (first | (clear mk1; refine wpList_alloc_v rfl 32 rfl _ zeroCh ?_; intro b1 w1 hb1 hwb1 hB1 c1; have hz1 : w.heap.size ≤ w1.heap.size := hB1.size; have hB := hB1; have hzw := hB.size; obtain ⟨c10, c11, c12, c13, c14, c15, c16⟩ := cells7c c1) | (clear mk2; go_at_call 46; refine (new_cur w1 _ _ _ (codec_below HC.out hB)).mono ?_; rintro er w2 ⟨p, rfl, hp, hcur, hB2⟩; have hpl := hcur.1; have hz2 : w1.heap.size ≤ w2.heap.size := hB2.size; replace c1 := vblk_grow c1 hB2; replace hB := hB.trans (hB2.mono (by omega)); replace hzw := hB.size; clear c10 c11 c12 c13 c14 c15 c16; obtain ⟨c10, c11, c12, c13, c14, c15, c16⟩ := cells7c c1) | (clear mk3; go_at_call 47; refine (l16Draw_any w2 p a0 len cap hcur).mono ?_; rintro er w3 ⟨vN, vU, vQ, vS, C, rfl, G3⟩; have hc3 := G3.cur; have hg3 := G3.gb; have oC := G3.o; clear G3; obtain ⟨⟨aN, nN, kN, rfl⟩, ⟨aU, nU, kU, rfl⟩, ⟨aQ, nQ, kQ, rfl⟩, aS, nS, kS, rfl⟩ := oC.forms; have hz3 : w2.heap.size ≤ w3.heap.size := hg3.size; replace c1 := draw.vblk_gb c1 hg3 (by omega); replace hB := gbc_low hB (by omega) hg3; replace hzw := hB.size; clear c10 c11 c12 c13 c14 c15 c16; obtain ⟨c10, c11, c12, c13, c14, c15, c16⟩ := cells7c c1; replace hcur := hc3) | (clear mk4; refine wpList_alloc_v rfl 32 rfl _ zeroCh ?_; intro b5 w4 hb5 hwb5 hB4 c5; have hz4 : w3.heap.size ≤ w4.heap.size := hB4.size; replace oC := oC.grow hB4; replace c1 := vblk_grow c1 hB4; replace hB := hB.trans (hB4.mono (by omega)); replace hzw := hB.size; clear c10 c11 c12 c13 c14 c15 c16; obtain ⟨c10, c11, c12, c13, c14, c15, c16⟩ := cells7c c1; replace hcur := cur_below hcur hB4 hcur.1) | (clear mk5; refine wpList_store_v rfl 32 _ _ rfl b5 [.int .i64 C.K, .slice aN nN kN, .slice aU nU kU, .int .i64 C.R.A, .slice aQ nQ kQ, .slice aS nS kS, .int .i64 C.D] rfl rfl sizeCh c5 rfl (by simp [Value.oneCell']) ?_; intro w5 hO5 c5x; have hz5 : w4.heap.size ≤ w5.heap.size := (Nat.le_of_eq hO5.1.symm); have hy5 : w5.heap.size ≤ w4.heap.size := (Nat.le_of_eq hO5.1); replace c1 := vblk_only c1 hO5 (by omega); replace hB := hB.trans (hO5.2.2 _ (by omega)); replace hzw := hB.size; clear c10 c11 c12 c13 c14 c15 c16; obtain ⟨c10, c11, c12, c13, c14, c15, c16⟩ := cells7c c1; replace hcur := cur_below hcur (hO5.2.2 (p + 1) (by omega)) (by omega); replace oC := oC.keep (fun k x y => hO5.2.1 k (by omega)) (by omega); clear c5; have c5 := c5x; clear c5x; obtain ⟨c50, c51, c52, c53, c54, c55, c56⟩ := cells7c c5) | (fail))
  have hBd : Below w5.heap.size w5 w5.drew := (Below.refl _ _).drew
  have hzd : w5.drew.heap.size ≤ w5.heap.size := Nat.le_refl _
  have hzd2 : w5.heap.size ≤ w5.drew.heap.size := Nat.le_refl _
  replace oC := oC.grow hBd
  replace c1 := vblk_grow c1 hBd
  clear c10 c11 c12 c13 c14 c15 c16
  obtain ⟨c10, c11, c12, c13, c14, c15, c16⟩ := cells7c c1
  replace c5 := vblk_grow c5 hBd
  clear c50 c51 c52 c53 c54 c55 c56
  obtain ⟨c50, c51, c52, c53, c54, c55, c56⟩ := cells7c c5
  replace hB := hB.trans (hBd.mono (by omega))
  replace hzw := hB.size
  replace hcur := cur_below hcur hBd hcur.1
  (try simp only [Act.put])
  (try simp only [List.setIfInBounds_toArray, List.set_cons_zero, List.set_cons_succ])
  clear c10 c11 c12 c13 c14 c15 c16
  clear c50 c51 c52 c53 c54 c55 c56
  refine wp_region_held_drew (S := fun w' => w'.cell? ⟨b5, 0, none⟩ = some (.int .i64 C.K) ∧ w'.cell? ⟨b5, 1, none⟩ = some (.slice aN nN kN) ∧ w'.cell? ⟨b5, 2, none⟩ = some (.slice aU nU kU) ∧ w'.cell? ⟨b5, 3, none⟩ = some (.int .i64 C.R.A) ∧ w'.cell? ⟨b5, 4, none⟩ = some (.slice aQ nQ kQ) ∧ w'.cell? ⟨b5, 5, none⟩ = some (.slice aS nS kS) ∧ w'.cell? ⟨b5, 6, none⟩ = some (.int .i64 C.D)) (by kernel_rfl) (cells7c c5) (fun hHeld => ?_)
  refine wpAnyH_take (i := 0) (oi := { dst := some 10, op := Op.load 32 (Operand.tmp 5), type := 32, pos := "l16_choice.go:143", after := #[], guard := none }) (v := ?_) rfl (by kernel_rfl) (by kernel_rfl) (by kernel_rfl) (fun _ _ _ h => h) (Or.inl ⟨by rfl, ?_⟩) (by assumption) ?_
  rotate_left 1
  · intro w' hSw; (try dsimp only at hSw); go_simp; (try with_reducible rfl)
  (try simp only [Act.put, List.setIfInBounds_toArray, List.set_cons_zero, List.set_cons_succ])
  refine wpAnyH_take (i := 1) (oi := { dst := some 11, op := Op.move (Operand.tmp 4), type := 69, pos := "l16_choice.go:143", after := #[], guard := none }) (v := ?_) rfl (by kernel_rfl) (by kernel_rfl) (by kernel_rfl) (fun _ _ _ h => h) (Or.inl ⟨by rfl, ?_⟩) (by assumption) ?_
  rotate_left 1
  · intro w' hSw; (try dsimp only at hSw); go_simp; (try with_reducible rfl)
  (try simp only [Act.put, List.setIfInBounds_toArray, List.set_cons_zero, List.set_cons_succ])
  refine wpAnyH_ready (rs := [2]) (by kernel_rfl) (by simp) ?_
  refine AllReadyH.cons (o := { dst := some 12, op := Op.call { callee := Callee.value (Operand.func 48), args := #[Operand.tmp 11], argTypes := #[69] }, type := 9, pos := "l16_choice.go:143", after := #[{ on := 1, ground := Ground.data }], guard := none }) rfl (fun KC hKC => ?_) AllReadyH.nil
  go_simp
  go_at_call 48
  refine (l8DrawName_any w5.drew w5.drew p a0 len cap hcur (World.grownBy.refl _ _)).mono ?_
  rintro er wr2 ⟨s, rfl, hs, hcr2, hgr2⟩
  have hzr2 : w5.drew.heap.size ≤ wr2.heap.size := hgr2.size
  replace oC := oC.went (by omega) hgr2
  replace c1 := draw.vblk_gb c1 hgr2 (by omega)
  replace c5 := draw.vblk_gb c5 hgr2 (by omega)
  replace hB := gbc_low hB (by omega) hgr2
  replace hzw := hB.size
  replace hcur := hcr2
  refine hKC.out _ _ (cells7c c5) (fun hHeld2 => ?_)
  clear hKC KC hHeld
  have hHeld := hHeld2
  clear hHeld2
  (try simp only [Act.put, List.setIfInBounds_toArray, List.set_cons_zero, List.set_cons_succ])
  refine wpAnyH_ready (rs := [3]) (by kernel_rfl) (by simp) ?_
  refine AllReadyH.cons (o := { dst := none, op := Op.store 32 (Operand.tmp 2) (Operand.tmp 10), type := 0, pos := "l16_choice.go:143", after := #[{ on := 0, ground := Ground.data }, { on := 2, ground := Ground.chain }, { on := 0, ground := Ground.phase }, { on := 1, ground := Ground.textOnly Departure.lateStores }, { on := 2, ground := Ground.textOnly Departure.lateStoresUnsure }], guard := none }) rfl (fun KC hKC => ?_) AllReadyH.nil
  refine step_store_v rfl 32 _ _ rfl b1 [.int .i64 C.K, .slice aN nN kN, .slice aU nU kU, .int .i64 C.R.A, .slice aQ nQ kQ, .slice aS nS kS, .int .i64 C.D] rfl rfl sizeCh c1 rfl (by simp [Value.oneCell']) ?_
  intro wr3 hOr3 c1x
  have hzr3 : wr2.heap.size ≤ wr3.heap.size := Nat.le_of_eq hOr3.1.symm
  have hyr3 : wr3.heap.size ≤ wr2.heap.size := Nat.le_of_eq hOr3.1
  replace oC := oC.keep (fun g h1 h2 => hOr3.2.1 g (by omega)) (by omega)
  replace c5 := vblk_only c5 hOr3 (by omega)
  clear c1
  have c1 := c1x
  clear c1x
  replace hB := hB.trans (hOr3.2.2 _ (by omega))
  replace hzw := hB.size
  (try replace hcur := cur_below hcur (hOr3.2.2 (p + 1) (by omega)) (by omega))
  refine hKC.out _ _ (cells7c c5) (fun hHeld2 => ?_)
  clear hKC KC hHeld
  have hHeld := hHeld2
  clear hHeld2
  (try simp only [Act.put])
  refine wpAnyH_take (i := 4) (oi := { dst := some 3, op := Op.assign (Operand.tmp 12), type := 9, pos := "l16_choice.go:143", after := #[{ on := 2, ground := Ground.data }, { on := 3, ground := Ground.chain }, { on := 0, ground := Ground.phase }, { on := 1, ground := Ground.phase }, { on := 2, ground := Ground.phase }, { on := 3, ground := Ground.phase }], guard := none }) (v := ?_) rfl (by kernel_rfl) (by kernel_rfl) (by kernel_rfl) (fun _ _ _ h => h) (Or.inl ⟨by rfl, ?_⟩) (by assumption) ?_
  rotate_left 1
  · intro w' hSw; (try dsimp only at hSw); go_simp; (try with_reducible rfl)
  (try simp only [Act.put, List.setIfInBounds_toArray, List.set_cons_zero, List.set_cons_succ])
  refine wpAnyH_done (by kernel_rfl) ?_ _
  go_wp2
  exact row_ct (x := .string s) rfl rfl rfl c1 Try.underlying32 sizeCh rfl ⟨_, _, _, _, C, s, rfl, hs, oC.wide (by omega) (by omega) (Nat.le_refl _), hB⟩

set_option maxRecDepth 100000 in
set_option maxHeartbeats 2000000 in
theorem drawForgets_any (w : World) (a0 : Option Addr) (len cap : Nat) (hcode : CodeAt w a0 len) :
    Calls Try.prog 10 #[.slice a0 len cap] w fun e w' => ∃ vN vU vQ vS c s, e = .returned (.tuple #[.agg #[.int .i64 c.K, vN, vU, .int .i64 c.R.A, vQ, vS, .int .i64 c.D], .string s]) ∧ s.size ≤ 13 ∧ LdC w' w.heap.size w'.heap.size vN vU vQ vS c ∧ Below w.heap.size w w' := by
  have HC : Hid (CodeAt w a0 len) := hcode
  clear hcode
  go_enter Try.func10, Try.ntmps10
  go_wp2_with (first | (refine wpList_alloc_v rfl 32 rfl _ zeroCh ?_; intro b1 w1 hb1 hw1 hB1 V1; have hz1 := hB1.size) | (go_at_call 8; refine (drawSees_any w1 a0 len cap (codec_below HC.out hB1)).mono ?_; rintro e w2 ⟨vN, vU, vQ, vS, C, s, rfl, hs, oC, hB2⟩; obtain ⟨⟨aN, nN, kN, rfl⟩, ⟨aU, nU, kU, rfl⟩, ⟨aQ, nQ, kQ, rfl⟩, aS, nS, kS, rfl⟩ := oC.forms; have hz2 := hB2.size; replace V1 := vblk_grow V1 hB2; have hB12 := hB1.trans (hB2.mono hz1)) | (refine wpList_store_v rfl 32 _ _ rfl b1 [.int .i64 C.K, .slice aN nN kN, .slice aU nU kU, .int .i64 C.R.A, .slice aQ nQ kQ, .slice aS nS kS, .int .i64 C.D] rfl rfl sizeCh V1 rfl (by simp [Value.oneCell']) ?_; intro w3 hO3 V3; have e3 := hO3.1; have oC3 := oC.keep (fun k x y => hO3.2.1 k (by omega)) (by omega)) | (fail))
  exact row_ct (x := .string s) rfl rfl rfl V3 Try.underlying32 sizeCh rfl ⟨_, _, _, _, C, s, rfl, hs, oC3.wide (by omega) (by omega) (Nat.le_refl _), hB12.trans (hO3.2.2 _ hb1)⟩
set_option maxRecDepth 100000 in
set_option maxHeartbeats 2000000 in
theorem drawChoiceOk_any (w : World) (a0 : Option Addr) (len cap : Nat) (hcode : CodeAt w a0 len) :
    Calls Try.prog 58 #[.slice a0 len cap] w fun e w' => ∃ vN vU vQ vS c, e = .returned (.agg #[.int .i64 c.K, vN, vU, .int .i64 c.R.A, vQ, vS, .int .i64 c.D]) ∧ LdC w' w.heap.size w'.heap.size vN vU vQ vS c ∧ Below w.heap.size w w' := by
  have HC : Hid (CodeAt w a0 len) := hcode
  clear hcode
  go_enter Try.func58, Try.ntmps58
  go_wp2_with (first | (refine wpList_alloc_v rfl 32 rfl _ zeroCh ?_; intro b1 w1 hb1 hw1 hB1 V1; have hz1 := hB1.size) | (go_at_call 46; refine (new_cur w1 _ _ _ (codec_below HC.out hB1)).mono ?_; rintro e w2 ⟨p, rfl, hp, hcur, hB2⟩; have hpl := hcur.1; replace V1 := vblk_grow V1 hB2; have hB12 := hB1.trans (hB2.mono hz1); have hz2 := hB12.size; have hz12 := hB2.size) | (go_at_call 47; refine (l16Draw_any w2 p a0 len cap hcur).mono ?_; rintro e w3 ⟨vN, vU, vQ, vS, C, rfl, G3⟩; have oC := G3.o; obtain ⟨⟨aN, nN, kN, rfl⟩, ⟨aU, nU, kU, rfl⟩, ⟨aQ, nQ, kQ, rfl⟩, aS, nS, kS, rfl⟩ := oC.forms; have hB3 := gbc_low hB12 (by omega) G3.gb; replace V1 := draw.vblk_gb V1 G3.gb (by omega); have hz3 := G3.gb.size) | (refine wpList_store_v rfl 32 _ _ rfl b1 [.int .i64 C.K, .slice aN nN kN, .slice aU nU kU, .int .i64 C.R.A, .slice aQ nQ kQ, .slice aS nS kS, .int .i64 C.D] rfl rfl sizeCh V1 rfl (by simp [Value.oneCell']) ?_; intro w4 hO4 V4; have e4 := hO4.1; have oC4 := oC.keep (fun k x y => hO4.2.1 k (by omega)) (by omega)) | (fail))
  exact row_retv rfl rfl V4 Try.underlying32 sizeCh rfl ⟨_, _, _, _, C, rfl, oC4.wide (by omega) (by omega) (Nat.le_refl _), hB3.trans (hO4.2.2 _ hb1)⟩
set_option maxRecDepth 100000 in
set_option maxHeartbeats 2000000 in
theorem drawNamesOf_any (w : World) (a0 : Option Addr) (len cap : Nat) (hcode : CodeAt w a0 len) :
    Calls Try.prog 14 #[.slice a0 len cap] w fun e w' => ∃ vN vU vQ vS c, e = .returned (.agg #[.int .i64 c.K, vN, vU, .int .i64 c.R.A, vQ, vS, .int .i64 c.D]) ∧ LdC w' w.heap.size w'.heap.size vN vU vQ vS c ∧ Below w.heap.size w w' := by
  have HC : Hid (CodeAt w a0 len) := hcode
  clear hcode
  go_enter Try.func14, Try.ntmps14
  go_wp2_with (first | (refine wpList_alloc_v rfl 32 rfl _ zeroCh ?_; intro b1 w1 hb1 hw1 hB1 V1; have hz1 := hB1.size) | (go_at_call 58; refine (drawChoiceOk_any w1 a0 len cap (codec_below HC.out hB1)).mono ?_; rintro e w2 ⟨vN, vU, vQ, vS, C, rfl, oC, hB2⟩; obtain ⟨⟨aN, nN, kN, rfl⟩, ⟨aU, nU, kU, rfl⟩, ⟨aQ, nQ, kQ, rfl⟩, aS, nS, kS, rfl⟩ := oC.forms; have hz2 := hB2.size; replace V1 := vblk_grow V1 hB2; have hB12 := hB1.trans (hB2.mono hz1)) | (refine wpList_store_v rfl 32 _ _ rfl b1 [.int .i64 C.K, .slice aN nN kN, .slice aU nU kU, .int .i64 C.R.A, .slice aQ nQ kQ, .slice aS nS kS, .int .i64 C.D] rfl rfl sizeCh V1 rfl (by simp [Value.oneCell']) ?_; intro w3 hO3 V3; have e3 := hO3.1; have oC3 := oC.keep (fun k x y => hO3.2.1 k (by omega)) (by omega)) | (fail))
  exact row_retv rfl rfl V3 Try.underlying32 sizeCh rfl ⟨_, _, _, _, C, rfl, oC3.wide (by omega) (by omega) (Nat.le_refl _), hB12.trans (hO3.2.2 _ hb1)⟩
set_option maxRecDepth 100000 in
set_option maxHeartbeats 2000000 in
theorem drawNewChoice_any (w : World) (a0 : Option Addr) (len cap : Nat) (hcode : CodeAt w a0 len) :
    Calls Try.prog 12 #[.slice a0 len cap] w fun e w' => ∃ k : Int, e = .returned (.int .i64 k) ∧ (-1 ≤ k ∧ k ≤ 4) ∧ Below w.heap.size w w' := by
  have HC : Hid (CodeAt w a0 len) := hcode
  clear hcode
  go_enter Try.func12, Try.ntmps12
  go_wp2_with (first | (go_at_call 46; refine (new_cur w _ _ _ HC.out).mono ?_; rintro e w2 ⟨p, rfl, hp, hcur, hB2⟩; have hz2 := hB2.size) | (go_at_call 56; refine (from_from w2 w2 p a0 len cap (-1) 4 (by omega) (by omega) (by omega) hcur (World.grownBy.refl _ _)).mono ?_; rintro e w3 ⟨k, rfl, hk0, hk1, hc3, hg3⟩) | (fail))
  go_ret
  exact ⟨k, rfl, ⟨hk0, hk1⟩, gbc_low hB2 (by omega) hg3⟩
end Go.Proofs.Ytmnjmghlkiljhaa.rg
/- Contracts: who is forgotten, the program's; the laws' marks on whatever choice. -/
namespace Go.Proofs.Ytmnjmghlkiljhaa.rg
open Go.ChangeShapes Go.WideShapes Go.ChangeAt Go.RowKit
open Go.Deep Go.Joins
open Go.Proofs.Ytmnjmghlkiljhaa.ce Go.Proofs.Ytmnjmghlkiljhaa.ro
set_option linter.unusedVariables false
set_option linter.unusedSimpArgs false

theorem lv_is {r : Rg} {s : ByteArray} (h : ringB r = true) : lvR r s = ringForget r s := by unfold lvR ringForget; rw [if_pos h]
theorem wi_cutC {q : List ByteArray} {s : ByteArray} (h : namesB q = true) : wiR q s = cutR q s := by unfold wiR; rw [if_pos h]; exact (cut_is (namesB_iff.1 h)).symm
theorem chB_B {c : Ch} (h : chB c = true) : ringB c.R = true ∧ namesB c.Q = true := by
  obtain ⟨-, h2, h3, -⟩ := chB_parts h
  exact ⟨ringB_iff.2 h2, namesB_iff.2 h3⟩
set_option maxRecDepth 100000 in
set_option maxHeartbeats 4000000 in
theorem implForgets_any (c : Ch) (s : ByteArray) (vN vU vQ vS : Value) (w : World) (h : RdC w vN vU vQ vS c) :
    Calls Try.prog 11 #[.agg #[.int .i64 c.K, vN, vU, .int .i64 c.R.A, vQ, vS, .int .i64 c.D], .string s] w fun e w' => PostF (fgX c s) w e w' := by
  obtain ⟨K, ⟨N, U, A⟩, Q, S, D⟩ := c
  obtain ⟨aN, cN, rfl⟩ := h.r.n.form
  obtain ⟨aU, cU, rfl⟩ := h.r.u.form
  obtain ⟨aQ, cQ, rfl⟩ := h.q.form
  obtain ⟨aS, cS, rfl⟩ := sk_form h.s

  have R : Hid (RdC w (.slice aN N.length cN) (.slice aU U.length cU) (.slice aQ Q.length cQ) (.slice aS S.length cS) ⟨K, ⟨N, U, A⟩, Q, S, D⟩) := h
  clear h
  have m1 : Hid True := trivial
  have m2 : Hid True := trivial
  have m3 : Hid True := trivial
  have m4 : Hid True := trivial
  unfold fgX
  obtain ⟨y, hy⟩ := hid_ex (chB ⟨K, ⟨N, U, A⟩, Q, S, D⟩)
  rw [hy.out]
  cases y with
  | false =>
    rw [if_neg (by decide)]
    have hc2 : Hid (cpC ⟨K, ⟨N, U, A⟩, Q, S, D⟩ = ⟨0, ⟨[], [], 0⟩, [], [], 0⟩) := by unfold Hid cpC; rw [hy.out]; rfl
    go_enter Try.func11, Try.ntmps11
    go_wp2_with (first | (clear m1; refine wpList_box_v rfl 32 _ rfl [.int .i64 K, .slice aN N.length cN, .slice aU U.length cU, .int .i64 A, .slice aQ Q.length cQ, .slice aS S.length cS, .int .i64 D] rfl ?_; intro b1 w1 hb1 hw1 hB1 V1; obtain ⟨c0, c1, c2, c3, c4, c5, c6⟩ := cells7c V1; have hz1 := hB1.size) | (clear m2; refine wpList_alloc_v rfl 32 rfl _ zeroCh ?_; intro b4 w2 hb4 hw4 hB2 V4; replace V1 := vblk_grow V1 hB2; clear c0 c1 c2 c3 c4 c5 c6; obtain ⟨c0, c1, c2, c3, c4, c5, c6⟩ := cells7c V1; have hB12 := hB1.trans (hB2.mono hz1); have hz2 := hB12.size) | (go_at_call 49; refine (implChoiceOf_any ⟨K, ⟨N, U, A⟩, Q, S, D⟩ _ _ _ _ _ (R.out.grow hB12)).mono ?_; rintro e w3 hP; unfold PostC at hP; rw [hc2.out, hy.out] at hP; obtain ⟨vN3, vU3, vQ3, vS3, rfl, o3, hB3⟩ := hP; dsimp only; obtain ⟨⟨aN3, nN3, kN3, rfl⟩, ⟨aU3, nU3, kU3, rfl⟩, ⟨aQ3, nQ3, kQ3, rfl⟩, ⟨aS3, nS3, kS3, rfl⟩⟩ := o3.forms; replace V4 := vblk_grow V4 hB3; have hB13 := hB12.trans (hB3.mono hz2); have hz3 := hB13.size; have hz23 := hB3.size) | (clear m3; refine wpList_alloc_v rfl 32 rfl _ zeroCh ?_; intro b5 w5 hb5 hw5 hB5 V5; replace V4 := vblk_grow V4 hB5; replace o3 := o3.grow hB5; have hB15 := hB13.trans (hB5.mono hz3); have hz5 := hB15.size; have hz35 := hB5.size) | (clear m4; refine wpList_store_v rfl 32 _ _ rfl b5 [.int .i64 0, .slice aN3 nN3 kN3, .slice aU3 nU3 kU3, .int .i64 0, .slice aQ3 nQ3 kQ3, .slice aS3 nS3 kS3, .int .i64 0] rfl rfl sizeCh V5 rfl (by simp [Value.oneCell']) ?_; intro w6 hO6 V6; replace V4 := vblk_only V4 hO6 (by omega); replace o3 := o3.off hO6 (by omega); have hB16 := hB15.trans (hO6.2.2 _ (by omega)); have hz6 := hB16.size; have hz56 := Nat.le_of_eq hO6.1.symm; have hy56 := Nat.le_of_eq hO6.1; obtain ⟨d0, d1, d2, d3, d4, d5, d6⟩ := cells7c V6) | (refine wpList_store_v rfl 32 _ _ rfl b4 [.int .i64 0, .slice aN3 nN3 kN3, .slice aU3 nU3 kU3, .int .i64 0, .slice aQ3 nQ3 kQ3, .slice aS3 nS3 kS3, .int .i64 0] rfl rfl sizeCh V4 rfl (by simp [Value.oneCell']) ?_; intro wz hOz Vz; have hBz := hB16.trans (hOz.2.2 _ (by omega))) | (fail))
    exact row_retv rfl rfl Vz Try.underlying32 sizeCh rfl ⟨_, _, _, _, rfl, (o3.off hOz (by omega)).wide (by omega), hBz⟩
  | true =>
    rw [if_pos rfl]
    have hc2 : Hid (cpC ⟨K, ⟨N, U, A⟩, Q, S, D⟩ = ⟨K, ⟨N, U, A⟩, Q, S, D⟩) := by unfold Hid cpC; rw [hy.out]; rfl
    obtain ⟨hrb, hqb⟩ := chB_B hy.out
    dsimp only at hrb hqb
    by_cases k1 : K = 1
    · have eF : fgC ⟨K, ⟨N, U, A⟩, Q, S, D⟩ s = ⟨K, lvR ⟨N, U, A⟩ s, Q, S, D⟩ := by unfold fgC forgetH; dsimp only; rw [if_neg (by omega), lv_is hrb]
      rw [eF]
      obtain ⟨⟨N2, U2, A2⟩, hl⟩ := hid_ex (lvR ⟨N, U, A⟩ s)
      obtain ⟨yl, hyl⟩ := hid_ex (lvB ⟨N, U, A⟩ s)
      rw [hl.out]
      have u1 : (K == 1) = true := by rw [k1]; rfl
      clear k1 eF hrb hqb
      go_enter Try.func11, Try.ntmps11
      go_upto_region 5 with (first | (clear m1; refine wpList_box_v rfl 32 _ rfl [.int .i64 K, .slice aN N.length cN, .slice aU U.length cU, .int .i64 A, .slice aQ Q.length cQ, .slice aS S.length cS, .int .i64 D] rfl ?_; intro b1 w1 hb1 hw1 hB1 V1; obtain ⟨c0, c1, c2, c3, c4, c5, c6⟩ := cells7c V1; have hz1 := hB1.size) | (clear m2; refine wpList_alloc_v rfl 32 rfl _ zeroCh ?_; intro b4 w2 hb4 hw4 hB2 V4; replace V1 := vblk_grow V1 hB2; clear c0 c1 c2 c3 c4 c5 c6; obtain ⟨c0, c1, c2, c3, c4, c5, c6⟩ := cells7c V1; have hB12 := hB1.trans (hB2.mono hz1); have hz2 := hB12.size) | (go_at_call 49; refine (implChoiceOf_any ⟨K, ⟨N, U, A⟩, Q, S, D⟩ _ _ _ _ _ (R.out.grow hB12)).mono ?_; rintro e w3 hP; unfold PostC at hP; rw [hc2.out, hy.out] at hP; obtain ⟨vN3, vU3, vQ3, vS3, rfl, o3, hB3⟩ := hP; dsimp only; obtain ⟨⟨aN3, nN3, kN3, rfl⟩, ⟨aU3, nU3, kU3, rfl⟩, ⟨aQ3, nQ3, kQ3, rfl⟩, ⟨aS3, nS3, kS3, rfl⟩⟩ := o3.forms; replace V4 := vblk_grow V4 hB3; have hB13 := hB12.trans (hB3.mono hz2); have hz3 := hB13.size; have hz23 := hB3.size) | (clear m3; refine wpList_alloc_v rfl 32 rfl _ zeroCh ?_; intro b5 w5 hb5 hw5 hB5 V5; replace V4 := vblk_grow V4 hB5; replace o3 := o3.grow hB5; have hB15 := hB13.trans (hB5.mono hz3); have hz5 := hB15.size; have hz35 := hB5.size) | (clear m4; refine wpList_store_v rfl 32 _ _ rfl b5 [.int .i64 K, .slice aN3 nN3 kN3, .slice aU3 nU3 kU3, .int .i64 A, .slice aQ3 nQ3 kQ3, .slice aS3 nS3 kS3, .int .i64 D] rfl rfl sizeCh V5 rfl (by simp [Value.oneCell']) ?_; intro w6 hO6 V6; replace V4 := vblk_only V4 hO6 (by omega); replace o3 := o3.off hO6 (by omega); have hB16 := hB15.trans (hO6.2.2 _ (by omega)); have hz6 := hB16.size; have hz56 := Nat.le_of_eq hO6.1.symm; have hy56 := Nat.le_of_eq hO6.1; obtain ⟨d0, d1, d2, d3, d4, d5, d6⟩ := cells7c V6) | (fail))
      obtain ⟨⟨l1, h1, l2, h2, l3, h3, oR, oQ, oS, ⟨e1, e2, e3, e4, e5, e6⟩, e7, e8, e9⟩, sz⟩ := o3
      dsimp only at oR oQ oS
      go_wp2_with (first | (go_at_call 54; refine (implLeaves_all ⟨N, U, A⟩ s _ _ _ (oR.rd R.out.r.s)).mono ?_; rintro e w7 ⟨vN7, vU7, rfl, oR7, hB7⟩; rw [hl.out] at oR7; rw [hl.out, hyl.out]; dsimp only at oR7 ⊢; obtain ⟨aN7, nN7, kN7, rfl⟩ := oR7.n.slice; obtain ⟨aU7, nU7, kU7, rfl⟩ := oR7.u.slice; replace V4 := vblk_grow V4 hB7; replace V6 := vblk_grow V6 hB7; replace oQ := oQ.grow hB7; replace oS := ownS_grow oS hB7; have hB17 := hB16.trans (hB7.mono hz6); have hz7 := hB7.size; clear d0 d1 d2 d3 d4 d5 d6) | (refine wpList_store_sub rfl 27 _ _ rfl b5 1 [.slice aN7 nN7 kN7, .slice aU7 nU7 kU7, .int .i64 A2] rfl rfl sizeRg V6 (by simp) rfl (by simp [Value.oneCell']) ?_; intro w8 hO8 V8x; have V8 : VBlk w8 b5 32 [.int .i64 K, .slice aN7 nN7 kN7, .slice aU7 nU7 kU7, .int .i64 A2, .slice aQ3 nQ3 kQ3, .slice aS3 nS3 kS3, .int .i64 D] := V8x; clear V8x; obtain ⟨d0, d1, d2, d3, d4, d5, d6⟩ := cells7c V8; replace V4 := vblk_only V4 hO8 (by omega); replace oR7 := oR7.only hO8 V6 (by decide) (by decide); replace oQ := oQ.only hO8 V6 (by decide); replace oS := sk.Own.keep oS (fun k x y => hO8.2.1 k (by omega)) (Nat.le_of_eq hO8.1.symm); have hB18 := hB17.trans (hO8.2.2 _ (by omega)); have hz8 := Nat.le_of_eq hO8.1.symm; have hy8 := Nat.le_of_eq hO8.1) | (refine wpList_store_v rfl 32 _ _ rfl b4 [.int .i64 K, .slice aN7 nN7 kN7, .slice aU7 nU7 kU7, .int .i64 A2, .slice aQ3 nQ3 kQ3, .slice aS3 nS3 kS3, .int .i64 D] rfl rfl sizeCh V4 rfl (by simp [Value.oneCell']) ?_; intro wz hOz Vz; have hBz := hB18.trans (hOz.2.2 _ (by omega))) | (fail))
      have zz := Nat.le_of_eq hOz.1.symm
      exact row_retv rfl rfl Vz Try.underlying32 sizeCh rfl ⟨_, _, _, _, rfl, ⟨⟨_, _, l2, h2, l3, h3, oR7.only hOz V4 (by decide) (by decide), oQ.only hOz V4 (by decide), sk.Own.keep oS (fun k x y => hOz.2.1 k (by omega)) zz, ⟨by omega, by omega, by omega, by omega, by omega, by omega⟩, by omega, by omega, e9⟩, Nat.le_refl _⟩, hBz⟩
    · have k2 : K = 2 := by
        obtain ⟨-, -, -, h4⟩ := chB_parts hy.out
        dsimp only at h4
        omega
      have eF : fgC ⟨K, ⟨N, U, A⟩, Q, S, D⟩ s = ⟨K, ⟨N, U, A⟩, wiR Q s, S, D⟩ := by unfold fgC forgetH; dsimp only; rw [if_pos k2, wi_cutC hqb]
      rw [eF]
      have u1 : (K == 1) = false := by simpa using k1
      clear k1 k2 eF hrb hqb
      go_enter Try.func11, Try.ntmps11
      go_upto_region 6 with (first | (clear m1; refine wpList_box_v rfl 32 _ rfl [.int .i64 K, .slice aN N.length cN, .slice aU U.length cU, .int .i64 A, .slice aQ Q.length cQ, .slice aS S.length cS, .int .i64 D] rfl ?_; intro b1 w1 hb1 hw1 hB1 V1; obtain ⟨c0, c1, c2, c3, c4, c5, c6⟩ := cells7c V1; have hz1 := hB1.size) | (clear m2; refine wpList_alloc_v rfl 32 rfl _ zeroCh ?_; intro b4 w2 hb4 hw4 hB2 V4; replace V1 := vblk_grow V1 hB2; clear c0 c1 c2 c3 c4 c5 c6; obtain ⟨c0, c1, c2, c3, c4, c5, c6⟩ := cells7c V1; have hB12 := hB1.trans (hB2.mono hz1); have hz2 := hB12.size) | (go_at_call 49; refine (implChoiceOf_any ⟨K, ⟨N, U, A⟩, Q, S, D⟩ _ _ _ _ _ (R.out.grow hB12)).mono ?_; rintro e w3 hP; unfold PostC at hP; rw [hc2.out, hy.out] at hP; obtain ⟨vN3, vU3, vQ3, vS3, rfl, o3, hB3⟩ := hP; dsimp only; obtain ⟨⟨aN3, nN3, kN3, rfl⟩, ⟨aU3, nU3, kU3, rfl⟩, ⟨aQ3, nQ3, kQ3, rfl⟩, ⟨aS3, nS3, kS3, rfl⟩⟩ := o3.forms; replace V4 := vblk_grow V4 hB3; have hB13 := hB12.trans (hB3.mono hz2); have hz3 := hB13.size; have hz23 := hB3.size) | (clear m3; refine wpList_alloc_v rfl 32 rfl _ zeroCh ?_; intro b5 w5 hb5 hw5 hB5 V5; replace V4 := vblk_grow V4 hB5; replace o3 := o3.grow hB5; have hB15 := hB13.trans (hB5.mono hz3); have hz5 := hB15.size; have hz35 := hB5.size) | (clear m4; refine wpList_store_v rfl 32 _ _ rfl b5 [.int .i64 K, .slice aN3 nN3 kN3, .slice aU3 nU3 kU3, .int .i64 A, .slice aQ3 nQ3 kQ3, .slice aS3 nS3 kS3, .int .i64 D] rfl rfl sizeCh V5 rfl (by simp [Value.oneCell']) ?_; intro w6 hO6 V6; replace V4 := vblk_only V4 hO6 (by omega); replace o3 := o3.off hO6 (by omega); have hB16 := hB15.trans (hO6.2.2 _ (by omega)); have hz6 := hB16.size; have hz56 := Nat.le_of_eq hO6.1.symm; have hy56 := Nat.le_of_eq hO6.1; obtain ⟨d0, d1, d2, d3, d4, d5, d6⟩ := cells7c V6) | (fail))
      obtain ⟨⟨l1, h1, l2, h2, l3, h3, oR, oQ, oS, ⟨e1, e2, e3, e4, e5, e6⟩, e7, e8, e9⟩, sz⟩ := o3
      dsimp only at oR oQ oS
      go_wp2_with (first | (go_at_call 55; refine (implWithout_any Q s _ _ oQ.rd R.out.qs).mono ?_; rintro e w7 ⟨vQ7, rfl, oQ7, hB7⟩; obtain ⟨aQ7, nQ7, kQ7, rfl⟩ := oQ7.slice; replace V4 := vblk_grow V4 hB7; replace V6 := vblk_grow V6 hB7; replace oR := oR.grow hB7; replace oS := ownS_grow oS hB7; have hB17 := hB16.trans (hB7.mono hz6); have hz7 := hB7.size; clear d0 d1 d2 d3 d4 d5 d6; obtain ⟨d0, d1, d2, d3, d4, d5, d6⟩ := cells7c V6) | (refine wpList_store_cc rfl 24 _ _ rfl b5 4 (.slice aQ7 nQ7 kQ7) rfl rfl rfl szSl V6 (by simp) ?_; intro w8 hO8 V8x; have V8 : VBlk w8 b5 32 [.int .i64 K, .slice aN3 nN3 kN3, .slice aU3 nU3 kU3, .int .i64 A, .slice aQ7 nQ7 kQ7, .slice aS3 nS3 kS3, .int .i64 D] := V8x; clear V8x d0 d1 d2 d3 d4 d5 d6; obtain ⟨d0, d1, d2, d3, d4, d5, d6⟩ := cells7c V8; replace V4 := vblk_only V4 hO8 (by omega); replace oR := oR.only hO8 V6 (by decide) (by decide); replace oQ7 := oQ7.only hO8 V6 (by decide); replace oS := sk.Own.keep oS (fun k x y => hO8.2.1 k (by omega)) (Nat.le_of_eq hO8.1.symm); have hB18 := hB17.trans (hO8.2.2 _ (by omega)); have hz8 := Nat.le_of_eq hO8.1.symm; have hy8 := Nat.le_of_eq hO8.1) | (refine wpList_store_v rfl 32 _ _ rfl b4 [.int .i64 K, .slice aN3 nN3 kN3, .slice aU3 nU3 kU3, .int .i64 A, .slice aQ7 nQ7 kQ7, .slice aS3 nS3 kS3, .int .i64 D] rfl rfl sizeCh V4 rfl (by simp [Value.oneCell']) ?_; intro wz hOz Vz; have hBz := hB18.trans (hOz.2.2 _ (by omega))) | (fail))
      have zz := Nat.le_of_eq hOz.1.symm
      exact row_retv rfl rfl Vz Try.underlying32 sizeCh rfl ⟨_, _, _, _, rfl, ⟨⟨l1, h1, _, _, l3, h3, oR.only hOz V4 (by decide) (by decide), oQ7.only hOz V4 (by decide), sk.Own.keep oS (fun k x y => hOz.2.1 k (by omega)) zz, ⟨by omega, by omega, by omega, by omega, by omega, by omega⟩, by omega, e8, by omega⟩, Nat.le_refl _⟩, hBz⟩
theorem mkA_rd {c : Ch} {w : World} {lo hi : Nat} {vN vU vQ vS : Value} (o : OwnC w lo hi vN vU vQ vS (mkA c)) : Rd encS w vN (mkR c.R).N ∧ Rd encB w vU (mkR c.R).U ∧ Rd encS w vQ (smarks (1 + c.R.N.length + c.R.U.length) c.Q.length) ∧ sk.Rd w 0 w.heap.size vS (sk.markR ((1 + c.R.N.length + c.R.U.length + c.Q.length : Nat) : Int) c.S) := by
  obtain ⟨⟨l1, h1, l2, h2, l3, h3, a, b, d, -⟩, sz⟩ := o
  exact ⟨a.n.rd, a.u.rd, b.rd, d.rd.wide (Nat.zero_le _) (sk_hi d)⟩
theorem fgX_mod (c : Ch) (s : ByteArray) : Mod (fgX c s) ∧ (∀ x ∈ (fgX c s).R.N, x.size ≤ 9223372036854775807) ∧ ∀ x ∈ (fgX c s).Q, x.size ≤ 9223372036854775807 := by
  unfold fgX
  cases h : chB c with
  | false => exact ⟨⟨Nat.zero_le _, Nat.zero_le _, Nat.zero_le _, ⟨Nat.zero_le _, fun xs hx => by cases hx⟩⟩, fun x hx => (by cases hx), fun x hx => (by cases hx)⟩
  | true =>
    rw [if_pos rfl]
    obtain ⟨hsk, hr, hq, hway⟩ := chB_parts h
    have hok := (forgetH_ok (c := ⟨c.K, c.R, c.Q⟩) ⟨hr, hq, hway⟩ s).1
    have r1 := hok.r.le
    have r2 := hok.r.us
    have q1 := hok.q.2.2
    refine ⟨⟨?_, ?_, ?_, hsk.four.modest⟩, fun x hx => ?_, fun x hx => ?_⟩
    · show (forgetH ⟨c.K, c.R, c.Q⟩ s).R.N.length ≤ _; omega
    · show (forgetH ⟨c.K, c.R, c.Q⟩ s).R.U.length ≤ _; omega
    · show (forgetH ⟨c.K, c.R, c.Q⟩ s).Q.length ≤ _; omega
    · have := nameB_size (hok.r.nm x hx); omega
    · have := nameB_size (hok.q.1 x hx); omega
end Go.Proofs.Ytmnjmghlkiljhaa.rg
/- Contracts: who is seen, the model's whole. -/
namespace Go.Proofs.Ytmnjmghlkiljhaa.rg
open Go.ChangeShapes Go.WideShapes Go.ChangeAt Go.RowKit
open Go.Deep Go.Joins
open Go.Proofs.Ytmnjmghlkiljhaa.ce Go.Proofs.Ytmnjmghlkiljhaa.ro
set_option linter.unusedVariables false
set_option linter.unusedSimpArgs false

def seX (c : Ch) (s : ByteArray) : Ch := if chB c = true then seC c s else Ch.zero
/-- what the model's Sees tells -/
def PostL (c : Ch) (w : World) (e : Ending) (w' : World) : Prop := ∃ vN vU vQ vS, e = .returned (.agg #[.int .i64 c.K, vN, vU, .int .i64 c.R.A, vQ, vS, .int .i64 c.D]) ∧ OwnL w' w.heap.size w'.heap.size vN vU vQ vS c ∧ Below w.heap.size w w'
theorem postL_no {w w' : World} (hB : Below w.heap.size w w') : PostL Ch.zero w (.returned (.agg #[.int .i64 0, .slice none 0 0, .slice none 0 0, .int .i64 0, .slice none 0 0, .slice none 0 0, .int .i64 0])) w' := ⟨_, _, _, _, rfl, (ownC_zero _ _ _ (Nat.le_refl _) hB.size).lax, hB⟩
set_option maxRecDepth 100000 in
set_option maxHeartbeats 4000000 in
theorem specSees_any (c : Ch) (s : ByteArray) (hs : s.size ≤ 9223372036854775807) (vN vU vQ vS : Value) (w : World) (h : RdC w vN vU vQ vS c) :
    Calls Try.prog 16 #[.agg #[.int .i64 c.K, vN, vU, .int .i64 c.R.A, vQ, vS, .int .i64 c.D], .string s] w fun e w' => PostL (seX c s) w e w' := by
  obtain ⟨K, ⟨N, U, A⟩, Q, S, D⟩ := c
  obtain ⟨aN, cN, rfl⟩ := h.r.n.form
  obtain ⟨aU, cU, rfl⟩ := h.r.u.form
  obtain ⟨aQ, cQ, rfl⟩ := h.q.form
  obtain ⟨aS, cS, rfl⟩ := sk_form h.s

  have R : Hid (RdC w (.slice aN N.length cN) (.slice aU U.length cU) (.slice aQ Q.length cQ) (.slice aS S.length cS) ⟨K, ⟨N, U, A⟩, Q, S, D⟩) := h
  clear h
  have m1 : Hid True := trivial
  have m2 : Hid True := trivial
  unfold seX
  obtain ⟨y, hy⟩ := hid_ex (chB ⟨K, ⟨N, U, A⟩, Q, S, D⟩)
  rw [hy.out]
  cases y with
  | false =>
    rw [if_neg (by decide)]
    go_enter Try.func16, Try.ntmps16
    go_wp2_with (first | (clear m1; refine wpList_box_v rfl 32 _ rfl [.int .i64 K, .slice aN N.length cN, .slice aU U.length cU, .int .i64 A, .slice aQ Q.length cQ, .slice aS S.length cS, .int .i64 D] rfl ?_; intro b1 w1 hb1 hw1 hB1 V1; obtain ⟨c0, c1, c2, c3, c4, c5, c6⟩ := cells7c V1; have hz1 := hB1.size) | (clear m2; refine wpList_alloc_v rfl 32 rfl _ zeroCh ?_; intro b2 w2 hb2 hw2 hB2 V2; replace V1 := vblk_grow V1 hB2; clear c0 c1 c2 c3 c4 c5 c6; obtain ⟨c0, c1, c2, c3, c4, c5, c6⟩ := cells7c V1; have hB12 := hB1.trans (hB2.mono hz1); have hz2 := hB12.size) | (go_at_call 19; refine (specChoiceOk_any ⟨K, ⟨N, U, A⟩, Q, S, D⟩ _ _ _ _ _ (R.out.grow hB12) false hy).mono ?_; rintro e w3 ⟨rfl, hB3⟩; replace V2 := vblk_grow V2 hB3; have hB13 := hB12.trans (hB3.mono hz2); have hz3 := hB13.size) | (refine wpList_store_v rfl 32 _ _ rfl b2 [.int .i64 0, .slice none 0 0, .slice none 0 0, .int .i64 0, .slice none 0 0, .slice none 0 0, .int .i64 0] rfl rfl sizeCh V2 rfl (by simp [Value.oneCell']) ?_; intro w4 hO4 V4; have hB14 := hB13.trans (hO4.2.2 _ (by omega))) | (fail))
    exact row_retv rfl rfl V4 Try.underlying32 sizeCh rfl (postL_no hB14)
  | true =>
    rw [if_pos rfl]
    have hsm := smC_of hy.out
    have HSM : Hid (SmC ⟨K, ⟨N, U, A⟩, Q, S, D⟩) := hsm
    clear hsm
    obtain ⟨⟨K2, ⟨N2, U2, A2⟩, Q2, S2, D2⟩, hf⟩ := hid_ex (seC ⟨K, ⟨N, U, A⟩, Q, S, D⟩ s)
    have kk : K2 = K := by have h := hf.out; exact (congrArg Ch.K h).symm
    have kF := fun (vN' vU' vQ' vS' : Value) b lo hi w' o hlo hb V => l16See_any ⟨K, ⟨N, U, A⟩, Q, S, D⟩ hy.out s hs vN' vU' vQ' vS' b lo hi w' o hlo hb V
    rw [hf.out] at kF ⊢
    subst kk
    have KF : Hid _ := kF
    clear kF hf
    have m3 : Hid True := trivial
    have m4 : Hid True := trivial
    go_enter Try.func16, Try.ntmps16
    go_wp2_with (first | (clear m1; refine wpList_box_v rfl 32 _ rfl [.int .i64 K2, .slice aN N.length cN, .slice aU U.length cU, .int .i64 A, .slice aQ Q.length cQ, .slice aS S.length cS, .int .i64 D] rfl ?_; intro b1 w1 hb1 hw1 hB1 V1; obtain ⟨c0, c1, c2, c3, c4, c5, c6⟩ := cells7c V1; have hz1 := hB1.size) | (clear m2; refine wpList_alloc_v rfl 32 rfl _ zeroCh ?_; intro b2 w2 hb2 hw2 hB2 V2; replace V1 := vblk_grow V1 hB2; clear c0 c1 c2 c3 c4 c5 c6; obtain ⟨c0, c1, c2, c3, c4, c5, c6⟩ := cells7c V1; have hB12 := hB1.trans (hB2.mono hz1); have hz2 := hB12.size) | (go_at_call 19; refine (specChoiceOk_any ⟨K2, ⟨N, U, A⟩, Q, S, D⟩ _ _ _ _ _ (R.out.grow hB12) true hy).mono ?_; rintro e w3 ⟨rfl, hB3⟩; replace V1 := vblk_grow V1 hB3; replace V2 := vblk_grow V2 hB3; clear c0 c1 c2 c3 c4 c5 c6; obtain ⟨c0, c1, c2, c3, c4, c5, c6⟩ := cells7c V1; have hB13 := hB12.trans (hB3.mono hz2); have hz3 := hB13.size; have hz23 := hB3.size) | (go_at_call 61; refine (l16Copy_any ⟨K2, ⟨N, U, A⟩, Q, S, D⟩ HSM.out _ _ _ _ _ (R.out.grow hB13)).mono ?_; rintro e w4 ⟨vN4, vU4, vQ4, vS4, rfl, o4, hB4⟩; replace V2 := vblk_grow V2 hB4; obtain ⟨⟨aN4, nN4, kN4, rfl⟩, ⟨aU4, nU4, kU4, rfl⟩, ⟨aQ4, nQ4, kQ4, rfl⟩, ⟨aS4, nS4, kS4, rfl⟩⟩ := o4.forms; have hB14 := hB13.trans (hB4.mono hz3); have hz4 := hB14.size; have hz34 := hB4.size) | (clear m3; refine wpList_alloc_v rfl 32 rfl _ zeroCh ?_; intro b5 w5 hb5 hw5 hB5 V5; replace V2 := vblk_grow V2 hB5; replace o4 := o4.grow hB5; have hB15 := hB14.trans (hB5.mono hz4); have hz5 := hB15.size; have hz45 := hB5.size) | (clear m4; refine wpList_store_v rfl 32 _ _ rfl b5 [.int .i64 K2, .slice aN4 nN4 kN4, .slice aU4 nU4 kU4, .int .i64 A, .slice aQ4 nQ4 kQ4, .slice aS4 nS4 kS4, .int .i64 D] rfl rfl sizeCh V5 rfl (by simp [Value.oneCell']) ?_; intro w6 hO6 V6; replace V2 := vblk_only V2 hO6 (by omega); replace o4 := o4.off hO6 (by omega); have hB16 := hB15.trans (hO6.2.2 _ (by omega)); have hz6 := hB16.size; have hz56 := Nat.le_of_eq hO6.1.symm; have hy56 := Nat.le_of_eq hO6.1) | (go_at_call 62; refine (KF.out _ _ _ _ b5 _ _ _ o4 (by omega) (by omega) V6).mono ?_; rintro e w7 ⟨⟨u7, rfl⟩, vN7, vU7, vQ7, o7, V7, hF7⟩; obtain ⟨⟨aN7, nN7, kN7, rfl⟩, ⟨aU7, nU7, kU7, rfl⟩, ⟨aQ7, nQ7, kQ7, rfl⟩, -⟩ := o7.forms; replace V2 := V2.of (hF7.keep b2 V2.lt (by omega) (by omega)); have hB17 := hB16.trans (hF7.below (by omega) (by omega) hz6); have hz7 := hB17.size; have hz67 := hF7.size; obtain ⟨d0, d1, d2, d3, d4, d5, d6⟩ := cells7c V7) | (refine wpList_store_v rfl 32 _ _ rfl b2 [.int .i64 K2, .slice aN7 nN7 kN7, .slice aU7 nU7 kU7, .int .i64 A2, .slice aQ7 nQ7 kQ7, .slice aS4 nS4 kS4, .int .i64 D2] rfl rfl sizeCh V2 rfl (by simp [Value.oneCell']) ?_; intro w8 hO8 V8; have hB18 := hB17.trans (hO8.2.2 _ (by omega))) | (fail))
    exact row_retv rfl rfl V8 Try.underlying32 sizeCh rfl ⟨_, _, _, _, rfl, (o7.off hO8 (by omega)).wide (by omega), hB18⟩
end Go.Proofs.Ytmnjmghlkiljhaa.rg
/- Contracts: the program: who is seen. -/
namespace Go.Proofs.Ytmnjmghlkiljhaa.rg
open Go.ChangeShapes Go.WideShapes Go.ChangeAt Go.RowKit
open Go.Deep Go.Joins
open Go.Proofs.Ytmnjmghlkiljhaa.ce Go.Proofs.Ytmnjmghlkiljhaa.ro
set_option linter.unusedVariables false
set_option linter.unusedSimpArgs false

set_option maxRecDepth 100000 in
set_option maxHeartbeats 4000000 in
theorem usedOrJoined_any (r : Rg) (hr : ringB r = true) (s : ByteArray) (hs : s.size ≤ 9223372036854775807) (vN vU : Value) (w : World) (h : RdR w vN vU r) :
    Calls Try.prog 52 #[.agg #[vN, vU, .int .i64 r.A], .string s] w fun e w' => ∃ vN' vU', e = .returned (.agg #[vN', vU', .int .i64 (ringSee r s).A]) ∧ OwnR w' w.heap.size w'.heap.size vN' vU' (ringSee r s) ∧ Below w.heap.size w w' := by
  obtain ⟨a, cap, rfl⟩ := h.n.form
  obtain ⟨c, dc, rfl⟩ := h.u.form
  have R : Hid (RdR w (.slice a r.N.length cap) (.slice c r.U.length dc) r) := h
  clear h
  have m1 : Hid True := trivial
  have m2 : Hid True := trivial
  have m3 : Hid True := trivial
  have m4 : Hid True := trivial
  by_cases hp : 0 ≤ posS s r.N
  · have e : ringSee r s = usR r s := by unfold ringSee usR; rw [if_pos hp, if_pos hr]
    rw [e]
    obtain ⟨⟨N2, U2, A2⟩, hT⟩ := hid_ex (usR r s)
    have kU := fun vN vU w h => implUses_all r s vN vU w h
    rw [hT.out] at kU ⊢
    have KU : Hid _ := kU
    have hy : Hid (decide (0 ≤ posS s r.N) = true) := decide_eq_true hp
    clear kU e hp hr hT
    go_enter Try.func52, Try.ntmps52
    go_wp2_with (first | (clear m1; refine wpList_box_v rfl 27 _ rfl [.slice a r.N.length cap, .slice c r.U.length dc, .int .i64 r.A] rfl ?_; intro b2 w1 hb2 hw1 hB1 V2; have hz1 := hB1.size) | (clear m2; refine wpList_alloc_v rfl 27 rfl _ zeroRg ?_; intro b4 w2 hb4 hw4 hB2 V4; replace V2 := vblk_grow V2 hB2; obtain ⟨c0, c1, c2⟩ := cells3 V2; have hB12 := hB1.trans (hB2.mono hz1); have hz2 := hB12.size) | (go_at_call 99; refine (contains_any r.N s _ _ _ true hy _ (R.out.grow hB12).n).mono ?_; rintro e wq ⟨rfl, hq⟩; subst wq) | (go_at_call 100; refine (KU.out _ _ _ (R.out.grow hB12)).mono ?_; rintro e w5 ⟨vN5, vU5, rfl, o5, hB5⟩; obtain ⟨aN5, nN5, kN5, rfl⟩ := o5.n.slice; obtain ⟨aU5, nU5, kU5, rfl⟩ := o5.u.slice; replace V4 := vblk_grow V4 hB5; have hB15 := hB12.trans (hB5.mono hz2); have hz5 := hB5.size) | (refine wpList_store_v rfl 27 _ _ rfl b4 [.slice aN5 nN5 kN5, .slice aU5 nU5 kU5, .int .i64 A2] rfl rfl sizeRg V4 rfl (by simp [Value.oneCell']) ?_; intro w6 hO6 V6; have o6 := o5.only hO6 V4 (by decide) (by decide)) | (fail))
    exact row_retv rfl rfl V6 Try.underlying27 sizeRg rfl ⟨_, _, rfl, o6.wide hz2 (Nat.le_of_eq hO6.1.symm), hB15.trans (hO6.2.2 _ (by omega))⟩
  · have e : ringSee r s = jnR r s := by unfold ringSee jnR; rw [if_neg hp, if_pos hr]
    rw [e]
    obtain ⟨⟨N2, U2, A2⟩, hT⟩ := hid_ex (jnR r s)
    have kU := fun vN vU w h => implJoins_all r s hs vN vU w h
    rw [hT.out] at kU ⊢
    have KU : Hid _ := kU
    have hy : Hid (decide (0 ≤ posS s r.N) = false) := decide_eq_false hp
    clear kU e hp hr hT
    go_enter Try.func52, Try.ntmps52
    go_wp2_with (first | (clear m1; refine wpList_box_v rfl 27 _ rfl [.slice a r.N.length cap, .slice c r.U.length dc, .int .i64 r.A] rfl ?_; intro b2 w1 hb2 hw1 hB1 V2; have hz1 := hB1.size) | (clear m2; refine wpList_alloc_v rfl 27 rfl _ zeroRg ?_; intro b4 w2 hb4 hw4 hB2 V4; replace V2 := vblk_grow V2 hB2; obtain ⟨c0, c1, c2⟩ := cells3 V2; have hB12 := hB1.trans (hB2.mono hz1); have hz2 := hB12.size) | (go_at_call 99; refine (contains_any r.N s _ _ _ false hy _ (R.out.grow hB12).n).mono ?_; rintro e wq ⟨rfl, hq⟩; subst wq) | (go_at_call 101; refine (KU.out _ _ _ (R.out.grow hB12)).mono ?_; rintro e w5 ⟨vN5, vU5, rfl, o5, hB5⟩; obtain ⟨aN5, nN5, kN5, rfl⟩ := o5.n.slice; obtain ⟨aU5, nU5, kU5, rfl⟩ := o5.u.slice; replace V4 := vblk_grow V4 hB5; have hB15 := hB12.trans (hB5.mono hz2); have hz5 := hB15.size; have hz25 := hB5.size) | (clear m3; refine wpList_alloc_v rfl 27 rfl _ zeroRg ?_; intro b6 w6 hb6 hw6 hB6 V6; replace V4 := vblk_grow V4 hB6; replace o5 := o5.grow hB6; have hB16 := hB15.trans (hB6.mono hz5); have hz56 := hB6.size) | (clear m4; refine wpList_store_v rfl 27 _ _ rfl b6 [.slice aN5 nN5 kN5, .slice aU5 nU5 kU5, .int .i64 A2] rfl rfl sizeRg V6 rfl (by simp [Value.oneCell']) ?_; intro w7 hO7 V7; obtain ⟨d0, d1, d2⟩ := cells3 V7; replace o5 := o5.only hO7 V6 (by decide) (by decide); replace V4 := vblk_only V4 hO7 (by omega); have hB17 := hB16.trans (hO7.2.2 _ (by omega)); have hz67 := Nat.le_of_eq hO7.1.symm) | (refine wpList_store_v rfl 27 _ _ rfl b4 [.slice aN5 nN5 kN5, .slice aU5 nU5 kU5, .int .i64 A2] rfl rfl sizeRg V4 rfl (by simp [Value.oneCell']) ?_; intro w8 hO8 V8; have o8 := o5.only hO8 V4 (by decide) (by decide); have hz78 := Nat.le_of_eq hO8.1.symm) | (fail))
    exact row_retv rfl rfl V8 Try.underlying27 sizeRg rfl ⟨_, _, rfl, o8.wide hz2 (by omega), hB17.trans (hO8.2.2 _ (by omega))⟩
end Go.Proofs.Ytmnjmghlkiljhaa.rg
