/- What the laws of chapter 2 draw, second part: sketches. -/
import Derived.Test.YtgdoclaifnnpgaaDrawS
import Derived.Test.YtgdoclaifnnpgaaSk8
import Derived.Deep.DeepCutAuto
namespace Go.Proofs.Ytgdoclaifnnpgaa.draw
open Go.ChangeShapes Go.WideShapes Go.ChangeAt Go.RowKit
open Go.Proofs.Ytgdoclaifnnpgaa.sk
set_option linter.unusedVariables false

theorem own_gb {w w' : World} {lo hi bo p : Nat} {B C : Nat → Nat} {R : List (List Int)} (h : OwnAt w lo hi bo B C R) (g : w.grownBy w' (some p)) (hp : p < lo) : OwnAt w' lo hi bo B C R :=
  h.keep (fun k h1 h2 => g.block k (by have := h.2.1; omega) (fun e => by cases e; omega)) g.size
theorem vblk_gb {w w' : World} {b p : Nat} {t : TypeId} {vs : List Value} (h : VBlk w b t vs) (g : w.grownBy w' (some p)) (hp : b ≠ p) : VBlk w' b t vs := h.grown g (fun e => hp (by cases e; rfl))

/-- the state in which a sketch is being drawn -/
structure St (w0 w : World) (p : Nat) (a0 : Option Addr) (len cap lo hi ps bo b2 sc : Nat) (B C : Nat → Nat) (R : List (List Int)) (adds : Int) : Prop where
  res : VBlk w b2 27 [.slice none 0 0, .int .i64 0]
  var : VBlk w ps 27 [.slice (some ⟨bo, 0, none⟩) 4 sc, .int .i64 adds]
  own : OwnAt w lo hi bo B C R
  four : Four R
  cur : Cur w p a0 len cap
  gb : w0.grownBy w (some p)
  pw : p < w0.heap.size
  b2lo : w0.heap.size ≤ b2
  b2hi : b2 < lo
  pshi : hi ≤ ps
  lohi : lo ≤ hi
theorem St.ne {w0 w : World} {p : Nat} {a0 : Option Addr} {len cap lo hi ps bo b2 sc : Nat} {B C : Nat → Nat} {R : List (List Int)} {adds : Int} (h : St w0 w p a0 len cap lo hi ps bo b2 sc B C R adds) : p < lo ∧ b2 ≠ p ∧ ps ≠ p ∧ ps ≠ b2 ∧ w0.heap.size ≤ ps := by
  have h1 := h.pw; have h2 := h.b2lo; have h3 := h.b2hi; have h4 := h.pshi; have h5 := h.lohi
  omega
theorem St.drawn {w0 w w' : World} {p : Nat} {a0 : Option Addr} {len cap lo hi ps bo b2 sc : Nat} {B C : Nat → Nat} {R : List (List Int)} {adds : Int} (h : St w0 w p a0 len cap lo hi ps bo b2 sc B C R adds) (g : w.grownBy w' (some p)) (hc : Cur w' p a0 len cap) : St w0 w' p a0 len cap lo hi ps bo b2 sc B C R adds := by
  obtain ⟨n1, n2, n3, n4, n5⟩ := h.ne
  exact ⟨vblk_gb h.res g n2, vblk_gb h.var g n3, own_gb h.own g n1, h.four, hc, gb_trans h.gb g, h.pw, h.b2lo, h.b2hi, h.pshi, h.lohi⟩
theorem St.adds {w0 w : World} {p : Nat} {a0 : Option Addr} {len cap lo hi ps bo b2 sc : Nat} {B C : Nat → Nat} {R : List (List Int)} {adds : Int} (h : St w0 w p a0 len cap lo hi ps bo b2 sc B C R adds) (x : Int) : St w0 (w.setCell ⟨ps, 1, none⟩ (.int .i64 x)) p a0 len cap lo hi ps bo b2 sc B C R x := by
  obtain ⟨n1, n2, n3, n4, n5⟩ := h.ne
  have hB : Below ps w (w.setCell ⟨ps, 1, none⟩ (.int .i64 x)) := (Below.refl _ _).setCell (by show ps ≤ ps; exact Nat.le_refl _) _
  have h4 := h.pshi
  have h5 := h.lohi
  exact ⟨h.res.of (heap_setCell_other _ _ _ _ (fun e => n4 e.symm)), h.var.set 1 _, h.own.keep (fun k g1 g2 => heap_setCell_other _ _ _ _ (by show k ≠ ps; omega)) (by simp), h.four, cur_below h.cur hB (by omega), gb_below h.gb hB n5, h.pw, h.b2lo, h.b2hi, h.pshi, h.lohi⟩
theorem St.added {w0 w w' : World} {p : Nat} {a0 : Option Addr} {len cap lo hi ps bo b2 sc : Nat} {B C : Nat → Nat} {R R' : List (List Int)} {adds adds' : Int} (h : St w0 w p a0 len cap lo hi ps bo b2 sc B C R adds) (hB : Below lo w w') (hv : VBlk w' ps 27 [.slice (some ⟨bo, 0, none⟩) 4 sc, .int .i64 adds']) (ho : OwnAt w' lo hi bo B C R') (h4 : Four R') : St w0 w' p a0 len cap lo hi ps bo b2 sc B C R' adds' := by
  obtain ⟨n1, n2, n3, n4, n5⟩ := h.ne
  have q1 := h.b2lo; have q2 := h.b2hi
  exact ⟨h.res.below hB h.b2hi, hv, ho, h4, cur_below h.cur hB n1, gb_below h.gb hB (by omega), h.pw, h.b2lo, h.b2hi, h.pshi, h.lohi⟩

theorem plusR_four {R : List (List Int)} {adds : Int} {key : ByteArray} (h : Four R) : Four (plusR R adds key) := by
  unfold plusR; split
  · exact halfR_four (addR_four h)
  · exact addR_four h
theorem plusR_small (R : List (List Int)) (adds : Int) (key : ByteArray) : Small (plusR R adds key) := by
  unfold plusR; split
  · intro xs hx y hy
    obtain ⟨ys, hys, rfl⟩ := List.mem_map.1 hx
    obtain ⟨z, hz, rfl⟩ := List.mem_map.1 hy
    have := addR_small key R ys hys z hz
    unfold half; omega
  · exact addR_small key R
theorem plusN_bd {adds : Int} (h : 0 ≤ adds ∧ adds ≤ 159) : 0 ≤ plusN adds ∧ plusN adds ≤ 159 := by unfold plusN; split <;> omega
theorem zeros_small : Small zeros := fun xs hx y hy => by
  have e := List.eq_of_mem_replicate hx
  rw [e] at hy
  have := List.eq_of_mem_replicate hy
  omega

theorem four_set {R : List (List Int)} (h : Four R) (hi : 1 < R.length) (x : Int) : Four (R.set 1 ((R[1]).set 3 x)) := by
  refine ⟨by simp [h.1], fun xs hx => ?_⟩
  rcases List.mem_or_eq_of_mem_set hx with h1 | rfl
  · exact h.2 xs h1
  · simp only [List.length_set]; exact h.2 _ (List.getElem_mem hi)

/-- a sketch has been drawn: it lies in block ps, the result's block is still zero -/
structure Fin (w0 w : World) (p : Nat) (a0 : Option Addr) (len cap ps b2 : Nat) (v : Value) (adds : Int) (R : List (List Int)) : Prop where
  res : VBlk w b2 27 [.slice none 0 0, .int .i64 0]
  var : VBlk w ps 27 [v, .int .i64 adds]
  rd : Rd w (b2 + 1) ps v R
  cur : Cur w p a0 len cap
  gb : w0.grownBy w (some p)
  pw : p < w0.heap.size
  b2lo : w0.heap.size ≤ b2
  pslo : b2 < ps
theorem St.fin {w0 w : World} {p : Nat} {a0 : Option Addr} {len cap lo hi ps bo b2 sc : Nat} {B C : Nat → Nat} {R : List (List Int)} {adds : Int} (h : St w0 w p a0 len cap lo hi ps bo b2 sc B C R adds) : Fin w0 w p a0 len cap ps b2 (.slice (some ⟨bo, 0, none⟩) 4 sc) adds R := by
  have h4 := h.four.1
  have q1 := h.b2hi; have q2 := h.pshi; have q3 := h.lohi
  have ow : Own w lo hi (.slice (some ⟨bo, 0, none⟩) 4 sc) R := ⟨by rw [h4]; unfold maxLen; omega, _, _, bo, B, C, by rw [h4], fun _ => rfl, h.own⟩
  exact ⟨h.res, h.var, ow.rd.wide (by omega) (by omega), h.cur, h.gb, h.pw, h.b2lo, by omega⟩
theorem St.set {w0 w : World} {p : Nat} {a0 : Option Addr} {len cap lo hi ps bo b2 sc : Nat} {B C : Nat → Nat} {R : List (List Int)} {adds : Int} (h : St w0 w p a0 len cap lo hi ps bo b2 sc B C R adds) (x : Int) : ∃ R', St w0 (w.setCell ⟨B 1, 3, none⟩ (.int .i64 x)) p a0 len cap lo hi ps bo b2 sc B C R' adds := by
  obtain ⟨n1, n2, n3, n4, n5⟩ := h.ne
  have h4 := h.four.1
  have h1 : 1 < R.length := by omega
  have h16 := h.four.2 _ (List.getElem_mem h1)
  obtain ⟨r1, r2, r3, r4, r5⟩ := h.own.row 1 h1 _ rfl
  have hB : Below lo w (w.setCell ⟨B 1, 3, none⟩ (.int .i64 x)) := (Below.refl _ _).setCell (by show lo ≤ B 1; exact r2) _
  have q1 := h.b2hi; have q2 := h.pshi; have q3 := h.lohi
  refine ⟨_, h.added hB (h.var.of (heap_setCell_other _ _ _ _ (by show ps ≠ B 1; omega))) (h.own.set 1 h1 3 (by omega) x) (four_set h.four h1 x)⟩
theorem St.alloc {w0 w : World} {p : Nat} {a0 : Option Addr} {len cap lo hi ps bo b2 sc : Nat} {B C : Nat → Nat} {R : List (List Int)} {adds : Int} (h : St w0 w p a0 len cap lo hi ps bo b2 sc B C R adds) (o : Obj) : St w0 (w.alloc o) p a0 len cap lo hi ps bo b2 sc B C R adds :=
  h.drawn (gb_alloc (World.grownBy.refl _ _) o) (cur_alloc h.cur o)
theorem St.drew {w0 w : World} {p : Nat} {a0 : Option Addr} {len cap lo hi ps bo b2 sc : Nat} {B C : Nat → Nat} {R : List (List Int)} {adds : Int} (h : St w0 w p a0 len cap lo hi ps bo b2 sc B C R adds) : St w0 w.drew p a0 len cap lo hi ps bo b2 sc B C R adds :=
  ⟨h.res, h.var, h.own.keep (fun _ _ _ => rfl) (Nat.le_refl _), h.four, h.cur, ⟨h.gb.os, h.gb.tape, h.gb.output, h.gb.size, h.gb.block⟩, h.pw, h.b2lo, h.b2hi, h.pshi, h.lohi⟩
/-- what is read on the way to row 1, place 3 -/
theorem St.reads {w0 w : World} {p : Nat} {a0 : Option Addr} {len cap lo hi ps bo b2 sc : Nat} {B C : Nat → Nat} {R : List (List Int)} {adds : Int} (h : St w0 w p a0 len cap lo hi ps bo b2 sc B C R adds) :
    w.cell? ⟨ps, 0, none⟩ = some (.slice (some ⟨bo, 0, none⟩) 4 sc) ∧ w.cell? ⟨bo, 1, none⟩ = some (.slice (some ⟨B 1, 0, none⟩) 16 (C 1)) ∧ (∃ z, w.cell? ⟨B 1, 3, none⟩ = some (.int .i64 z)) ∧ w.frozen? ⟨B 1, 3, none⟩ = false := by
  have h4 := h.four.1
  have h1 : 1 < R.length := by omega
  have h16 := h.four.2 _ (List.getElem_mem h1)
  obtain ⟨r1, r2, r3, r4, r5⟩ := h.own.row 1 h1 _ rfl
  have c0 := h.var.cell 0 (by simp)
  simp only [List.getElem_cons_zero] at c0
  rw [h16] at r1
  exact ⟨c0, r1, ⟨_, r5.cell 3 (by omega)⟩, r5.frozen 3 (by omega)⟩

/-- three of the four rows -/
theorem St.three {w0 w : World} {p : Nat} {a0 : Option Addr} {len cap lo hi ps bo b2 sc : Nat} {B C : Nat → Nat} {R : List (List Int)} {adds : Int} (h : St w0 w p a0 len cap lo hi ps bo b2 sc B C R adds) (o c : Nat) (ho : o ≤ 1) :
    Fin w0 (w.setCell ⟨ps, 0, none⟩ (.slice (some ⟨bo, o, none⟩) 3 c)) p a0 len cap ps b2 (.slice (some ⟨bo, o, none⟩) 3 c) adds ((R.drop o).take 3) := by
  obtain ⟨n1, n2, n3, n4, n5⟩ := h.ne
  have h4 := h.four.1
  have q1 := h.b2hi; have q2 := h.pshi; have q3 := h.lohi
  have hB : Below ps w (w.setCell ⟨ps, 0, none⟩ (.slice (some ⟨bo, o, none⟩) 3 c)) := (Below.refl _ _).setCell (by show ps ≤ ps; exact Nat.le_refl _) _
  have hl : ((R.drop o).take 3).length = 3 := by simp; omega
  refine ⟨h.res.of (heap_setCell_other _ _ _ _ (fun e => n4 e.symm)), h.var.set 0 _, ⟨by rw [hl]; unfold maxLen; omega, _, c, by rw [hl], .inr ⟨bo, o, rfl, ?_, ?_, fun i hi => ?_⟩⟩, cur_below h.cur hB (by omega), gb_below h.gb hB n5, h.pw, h.b2lo, by omega⟩
  · have := h.own.1 (by intro e; rw [e] at h4; simp at h4); omega
  · have := h.own.1 (by intro e; rw [e] at h4; simp at h4); omega
  · have hi3 : i < 3 := by omega
    have hio : o + i < R.length := by omega
    have e : ((R.drop o).take 3)[i] = R[o + i] := by simp
    obtain ⟨r1, r2, r3, r4, r5⟩ := h.own.row (o + i) hio _ rfl
    have hlen := h.four.2 _ (List.getElem_mem hio)
    have hbo := h.own.1 (by intro e; rw [e] at h4; simp at h4)
    rw [e]
    refine ⟨_, _, by rw [hB.cell (by show bo < ps; omega)]; exact r1, by rw [hlen]; unfold maxLen; omega, .inr ⟨B (o + i), 0, rfl, by omega, by omega, range_of r5.2.1 (hB.block _ (by omega))⟩⟩

theorem lit3 (w : World) (a b c : Int) (t : TypeId) (k : Nat) (hk : k < 3) : ∃ v, (w.alloc (.cells #[.int .i64 a, .int .i64 b, .int .i64 c] t)).cell? ⟨w.heap.size, k, none⟩ = some (.int .i64 v) := by
  rcases (by omega : k = 0 ∨ k = 1 ∨ k = 2) with rfl | rfl | rfl
  · exact ⟨a, by simp⟩
  · exact ⟨b, by simp⟩
  · exact ⟨c, by simp⟩

set_option maxHeartbeats 4000000 in
theorem l2Draw_any (w : World) (p : Nat) (a0 : Option Addr) (len cap : Nat) (hc : Cur w p a0 len cap) :
    Calls Try.prog 47 #[.pointer (some ⟨p, 0, none⟩)] w fun e w' => ∃ (v : Value) (adds : Int) (R : List (List Int)), e = .returned (skv v adds) ∧ Rd w' w.heap.size w'.heap.size v R ∧ Cur w' p a0 len cap ∧ w.grownBy w' (some p) := by
  have hp := hc.1
  have m1 : Hid True := trivial
  have hz4 : Hid (zeros.length = 4) := rfl
  go_enter Try.func47, Try.ntmps47
  go_wp2_with (first | (clear m1; refine wpList_alloc_v rfl 27 rfl _ zero27 ?_; intro b2 w1 hb2 hw1 hB1 hV2) | (go_at_call 15; refine (specNewSketch_any _).mono ?_; rintro e w2 ⟨v, rfl, hown, hB2⟩; obtain ⟨hRl, va, sc, bo, B, C, rfl, hva, hoa⟩ := hown; obtain rfl := hva (by decide); have hoa' : Hid (OwnAt w2 w1.heap.size w2.heap.size bo B C zeros) := hoa; clear hoa hva; rw [hz4.out]) | (refine wpList_alloc_v rfl 27 rfl _ zero27 ?_; intro ps w3 hps hw3 hB3 hV3) | (refine wpList_store_v rfl 27 _ _ rfl ps [.slice (some ⟨bo, 0, none⟩) 4 sc, .int .i64 0] rfl rfl size27 hV3 rfl (by simp [Value.oneCell']) ?_; intro w4 hO4 hV4; have h1 := hB1.size; have h2 := hB2.size; have h3 := hB3.size; have h4 := hO4.1; have HS : Hid (St w w4 p a0 len cap w1.heap.size w2.heap.size ps bo b2 sc B C zeros 0) := ⟨((hV2.below hB2 hw1).below hB3 (by omega)).of (hO4.2.1 b2 (by omega)), hV4, (hoa'.out.keep (Same.of_below hB3 (Nat.le_refl _)) hB3.size).keep (fun k g1 g2 => hO4.2.1 k (by omega)) (by omega), zeros_four, (cur_below (cur_below (cur_below (cur_below hc hB1 hp) hB2 (by omega)) hB3 (by omega)) (hO4.2.2 _ (Nat.le_refl _)) (by omega)), gb_below (gb_below (gb_below (gb_below (World.grownBy.refl _ _) hB1 (Nat.le_refl _)) hB2 h1) hB3 (by omega)) (hO4.2.2 _ (Nat.le_refl _)) (by omega), hp, hb2, hw1, hps, h2⟩; clear hV4 hV3 hV2 hoa'; obtain ⟨lo, hlo⟩ : ∃ lo, Hid (lo = w1.heap.size) := ⟨_, rfl⟩; obtain ⟨hi, hhi⟩ : ∃ hi, Hid (hi = w2.heap.size) := ⟨_, rfl⟩; rw [← hlo.out, ← hhi.out] at HS; clear h1 h2 h3 h4 hO4 hB1 hB2 hB3 hlo hhi hb2 hw1 hps hw3) | (go_at_call 61; refine (below_from w4 _ p a0 len cap _ (by omega) HS.out.cur (World.grownBy.refl _ _)).mono ?_; rintro e w5 ⟨x, rfl, hx0, hx1, hc5, hg5⟩; have HS5 := HS.out.drawn hg5 hc5; obtain ⟨x, rfl⟩ : ∃ k : Nat, x = k := ⟨x.toNat, by omega⟩) | (fail))
  go_loopw [4] (fun v' wr => ∃ (n : Nat) (R : List (List Int)) (adds : Int), n ≤ 39 ∧ v' = .int .i64 n ∧ Hid (St w wr p a0 len cap lo hi ps bo b2 sc B C R adds) ∧ Hid (Small R) ∧ 0 ≤ adds ∧ adds ≤ 159) (fun v' _ => (intOf v').toNat)
  case atStart => exact ⟨x, _, _, by omega, rfl, HS5, zeros_small, by omega, by omega⟩
  case round =>
    clear HS HS5 hc5 hg5 hx0 hx1 hc
    obtain ⟨n, R, adds, hn, rfl, hS, hsm, had⟩ := hrel
    by_cases hn0 : 0 < n
    · have hn0' : (0 : Int) < (n : Int) := by omega
      go_wp2_with (first | (go_at_call 48; refine (name_from wr _ p a0 len cap hS.out.cur (World.grownBy.refl _ _)).mono ?_; rintro e w6 ⟨s, rfl, hs, hc6, hg6⟩; have hS6 : Hid _ := hS.out.drawn hg6 hc6) | (go_at_call 42; refine (l2Add_any R hS6.out.four hsm.out adds had s (by omega) _ lo lo hi ps bo B C sc hS6.out.var hS6.out.own (by have := hS6.out.pshi; have := hS6.out.lohi; omega) (Nat.le_refl _) (.inr hS6.out.pshi)).mono ?_; rintro e w7 ⟨u, rfl, hv7, ho7, hB7⟩; have hS7 : Hid _ := hS6.out.added hB7 hv7 ho7 (plusR_four hS6.out.four); clear ho7 hv7) | (fail))
      go_roundw
      case rel => exact ⟨n - 1, _, _, by omega, by go_num, hS7, plusR_small _ _ _, plusN_bd had⟩
      case measure => simp [intOf]; omega
    · have hn0' : ¬ (0 : Int) < (n : Int) := by omega
      go_upto_if 16 with (first | (go_at_call 62; refine (once_from wr _ p a0 len cap _ (by omega) hS.out.cur (World.grownBy.refl _ _)).mono ?_; rintro e w6 ⟨y, rfl, hc6, hg6⟩; have hS6 : Hid _ := hS.out.drawn hg6 hc6) | (fail))
      go_cut [] (fun wc => ∃ adds', Hid (St w wc p a0 len cap lo hi ps bo b2 sc B C R adds'))
      case first =>
        have hf := hS6.out.var.frozen 1
        have hc1 := hS6.out.var.cell 1 (by simp)
        simp only [List.getElem_cons_zero, List.getElem_cons_succ] at hc1
        go_wp2_with (first | (go_at_call 61; refine (below_from w6 _ p a0 len cap _ (by omega) hS6.out.cur (World.grownBy.refl _ _)).mono ?_; rintro e w7 ⟨x, rfl, hx0, hx1, hc7, hg7⟩; have hS7 : Hid _ := hS6.out.drawn hg7 hc7; have hf7 := hS7.out.var.frozen 1; have hc17 := hS7.out.var.cell 1 (by simp); simp only [List.getElem_cons_zero, List.getElem_cons_succ] at hc17) | (fail))
        · go_meet
          case rel => exact ⟨_, hS7.out.adds _⟩
        · go_meet
          case rel => exact ⟨_, hS6⟩
      case rest =>
        obtain ⟨adds2, hS2⟩ := hcut
        clear hS hS6 hc6 hg6
        go_upto_if 22 with (first | (go_at_call 62; refine (once_from wc _ p a0 len cap _ (by omega) hS2.out.cur (World.grownBy.refl _ _)).mono ?_; rintro e w6 ⟨y, rfl, hc6, hg6⟩; have hS6 : Hid _ := hS2.out.drawn hg6 hc6) | (fail))
        go_cut [] (fun wd => ∃ v adds R, (∃ a n c, v = .slice a n c) ∧ Hid (Fin w wd p a0 len cap ps b2 v adds R))
        case first =>
          go_upto_if 25 with (first | (go_at_call 61; refine (below_from w6 _ p a0 len cap _ (by omega) hS6.out.cur (World.grownBy.refl _ _)).mono ?_; rintro e w7 ⟨x, rfl, hx0, hx1, hc7, hg7⟩; have hS7 : Hid _ := hS6.out.drawn hg7 hc7) | (fail))
          · rcases (by omega : x = 0 ∨ x = 1 ∨ x = 2) with rfl | rfl | rfl
            · have hSd : Hid (St w w7.drew p a0 len cap lo hi ps bo b2 sc B C R adds2) := hS7.out.drew
              have hSb : Hid (St w (w7.alloc (.cells #[.int .i64 (-1), .int .i64 15, .int .i64 16] 2)) p a0 len cap lo hi ps bo b2 sc B C R adds2) := hS7.out.alloc _
              have hSa : Hid (St w (w7.alloc (.cells #[.int .i64 (-1), .int .i64 15, .int .i64 16] 2)).drew p a0 len cap lo hi ps bo b2 sc B C R adds2) := hSb.out.drew
              obtain ⟨c1, c2, ⟨z, c3⟩, c4⟩ := hSd.out.reads
              obtain ⟨d1, d2, ⟨z2, d3⟩, d4⟩ := hSa.out.reads
              obtain ⟨i1, i2, ⟨z3, i3⟩, i4⟩ := hSb.out.reads
              have npp : p < w7.heap.size := hS7.out.cur.1
              go_wp2
              go_region_law (first | (go_simp; go_at_call 61; refine (below_from _ _ p a0 len cap _ (by omega) (by first | exact hSd.out.cur | exact hSa.out.cur) (World.grownBy.refl _ _)).mono ?_; rintro e w8 ⟨x8, rfl, g0, g1, hc8, hg8⟩; obtain ⟨k8, rfl⟩ : ∃ k : Nat, x8 = k := ⟨x8.toNat, by omega⟩; (first | (have hS8 : Hid _ := hSd.out.drawn hg8 hc8; obtain ⟨v8, lit8⟩ := lit3 w8 (-1) 15 16 2 k8 (by omega); have hS8a : Hid _ := hS8.out.alloc (.cells #[.int .i64 (-1), .int .i64 15, .int .i64 16] 2); obtain ⟨f1, f2, ⟨z9, f3⟩, f4⟩ := hS8a.out.reads) | (have hS8 : Hid _ := hSa.out.drawn hg8 hc8; obtain ⟨v8, lit80⟩ := lit3 w7 (-1) 15 16 2 k8 (by omega); have lit8 : w8.cell? ⟨w7.heap.size, k8, none⟩ = some (.int .i64 v8) := (gb_cell hg8 (by simp) (by omega) k8).trans lit80; clear lit80)); obtain ⟨e1, e2, ⟨z8, e3⟩, e4⟩ := hS8.out.reads; dsimp only) | (fail))
              all_goals
                go_wp2
                go_meet
                case rel =>
                  first
                  | (obtain ⟨R', hR'⟩ := hS8a.out.set v8; exact ⟨_, _, R', ⟨_, _, _, rfl⟩, hR'.fin⟩)
                  | (obtain ⟨R', hR'⟩ := hS8.out.set v8; exact ⟨_, _, R', ⟨_, _, _, rfl⟩, hR'.fin⟩)
            · have c0 := hS7.out.var.cell 0 (by simp)
              have f0 := hS7.out.var.frozen 0
              simp only [List.getElem_cons_zero] at c0
              go_wp2
              · go_meet
                case rel => exact ⟨_, _, _, ⟨_, _, _, rfl⟩, hS7.out.three 0 _ (by omega)⟩
              · go_meet
                case rel => exact ⟨_, _, _, ⟨_, _, _, rfl⟩, hS7.out.three 1 _ (by omega)⟩
            · have c0 := hS7.out.var.cell 1 (by simp)
              simp only [List.getElem_cons_zero, List.getElem_cons_succ] at c0
              go_wp2_with (first | (go_at_call 61; refine (below_lit w7 _ p a0 len cap [-1, 159, 160] _ 3 (-1) 160 rfl (by omega) (by decide) hS7.out.cur (World.grownBy.refl _ _)).mono ?_; rintro e w8 ⟨x8, v8, rfl, g80, g81, cell8, b8, b9, hc8, hg8⟩; obtain ⟨k8, rfl⟩ : ∃ k : Nat, x8 = k := ⟨x8.toNat, by omega⟩; rw [Int.toNat_natCast] at cell8; have hS8 : Hid _ := hS7.out.drawn hg8 hc8; have f8 := hS8.out.var.frozen 1; have c8 := hS8.out.var.cell 1 (by simp); simp only [List.getElem_cons_zero, List.getElem_cons_succ] at c8) | (fail))
              go_meet
              case rel => exact ⟨_, _, _, ⟨_, _, _, rfl⟩, (hS8.out.adds v8).fin⟩
          · go_meet
            case rel => exact ⟨_, _, _, ⟨_, _, _, rfl⟩, hS6.out.fin⟩
        case rest =>
          obtain ⟨v, adds3, R3, ⟨va, vn, vc, rfl⟩, hF⟩ := hcut
          have hV := hF.out.res
          have hs := hF.out.var
          have hc0 := hs.cell 0 (by simp)
          have hc1 := hs.cell 1 (by simp)
          simp only [List.getElem_cons_zero, List.getElem_cons_succ] at hc0 hc1
          go_wp2_with (first | (refine wpList_store_v rfl 27 _ _ rfl b2 [.slice va vn vc, .int .i64 adds3] rfl rfl size27 hV rfl (by simp [Value.oneCell']) ?_; intro w8 hO8 hV8) | (fail))
          have q1 := hF.out.b2lo
          have q2 := hF.out.pslo
          have q3 := hF.out.pw
          have q4 := hs.lt
          have q5 := hO8.1
          refine row_retv rfl rfl hV8 Try.underlying27 size27 rfl ⟨_, _, R3, rfl, ?_, cur_below hF.out.cur (hO8.2.2 _ (Nat.le_refl _)) (by omega), gb_below hF.out.gb (hO8.2.2 _ (Nat.le_refl _)) q1⟩
          exact (hF.out.rd.keep (fun k g1 g2 => hO8.2.1 k (by omega))).wide (by omega) (by omega)

end Go.Proofs.Ytgdoclaifnnpgaa.draw
