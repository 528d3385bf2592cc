/- What the laws of chapter 3 draw: heaps that may be wrong, and the arguments beside them. -/
import Derived.Test.YtedaioljkpfiiaaDc1
namespace Go.Proofs.Ytedaioljkpfiiaa.draw
open Go.ChangeShapes Go.WideShapes Go.ChangeAt Go.RowKit
open Go.Proofs.Ytedaioljkpfiiaa.ce
set_option linter.unusedVariables false

/-- a heap, right or not, has been drawn -/
structure Dn (w0 w : World) (p : Nat) (a0 : Option Addr) (len cap : Nat) (v : Value) (H : List C) : Prop where
  own : Own w w0.heap.size w.heap.size v H
  le : H.length ≤ 40
  cur : Cur w p a0 len cap
  gb : w0.grownBy w (some p)
  pw : p < w0.heap.size
theorem Ds.dn {w0 w : World} {p : Nat} {a0 : Option Addr} {len cap : Nat} {v : Value} {H : List C} (h : Ds w0 w p a0 len cap v H) : Dn w0 w p a0 len cap v H := ⟨h.own, h.good.1.2, h.cur, h.gb, h.pw⟩
theorem Dn.drawn {w0 w w' : World} {p : Nat} {a0 : Option Addr} {len cap : Nat} {v : Value} {H : List C} (h : Dn w0 w p a0 len cap v H) (g : w.grownBy w' (some p)) (hc : Cur w' p a0 len cap) : Dn w0 w' p a0 len cap v H :=
  ⟨(h.own.keep fun k h1 h2 => g.block k h2 (fun e => by have := h.pw; cases e; omega)).wide (Nat.le_refl _) g.size, h.le, hc, gb_trans h.gb g, h.pw⟩
theorem Dn.set {w0 w : World} {p g cap' : Nat} {a0 : Option Addr} {len cap : Nat} {H : List C} (h : Dn w0 w p a0 len cap (.slice (some ⟨g, 0, none⟩) H.length cap') H) (i : Nat) (hi : i < H.length) (j : Nat) (hj : j < 4) (u : Value) (c : C) (hc : cv c = (cv H[i]).set j u) (hg : w0.heap.size ≤ g) :
    Dn w0 (w.setCell ⟨g, i * 4 + j, none⟩ u) p a0 len cap (.slice (some ⟨g, 0, none⟩) H.length cap') (H.set i c) := by
  have hB : Below w0.heap.size w (w.setCell ⟨g, i * 4 + j, none⟩ u) := (Below.refl _ _).setCell hg _
  exact ⟨(h.own.set i hi j hj u c hc).wide (Nat.le_refl _) (by simp), by rw [List.length_set]; exact h.le, cur_below h.cur hB h.pw, gb_below h.gb hB (Nat.le_refl _), h.pw⟩

set_option maxHeartbeats 1000000 in
theorem l3DrawAny_any (w : World) (p : Nat) (a0 : Option Addr) (len cap : Nat) (hc : Cur w p a0 len cap) :
    Calls Try.prog 39 #[.pointer (some ⟨p, 0, none⟩)] w fun e w' => ∃ v, e = .returned v ∧ ∃ H, Dn w w' p a0 len cap v H := by
  have HC : Hid (Cur w p a0 len cap) := hc
  clear hc
  have m1 : Hid True := trivial
  have m2 : Hid True := trivial
  go_enter Try.func39, Try.ntmps39
  go_wp2_with (first | (go_at_call 46; refine (l3Draw_any _ p a0 len cap HC.out).mono ?_; rintro er w1 ⟨v1, rfl, H, ds1⟩; obtain ⟨g, cap', rfl, hg1, hg2, -⟩ := ds1.own.form ds1.good.1.1; have hl := ds1.own.fit; have hln := ds1.good.1) | (go_at_call 47; refine (once_from w1 _ p a0 len cap _ (by omega) ds1.cur (World.grownBy.refl _ _)).mono ?_; rintro er w2 ⟨y, rfl, hc2, hg2⟩; have d2 := ds1.dn.drawn hg2 hc2; cases y) | (clear m1; go_at_call 40; refine (below_from w2 _ p a0 len cap _ (by omega) d2.cur (World.grownBy.refl _ _)).mono ?_; rintro er w3 ⟨x3, rfl, hx30, hx31, hc3, hg3⟩; have d3 := d2.drawn hg3 hc3; obtain ⟨j, rfl⟩ : ∃ j : Nat, x3 = j := ⟨x3.toNat, by omega⟩; have hj : j < H.length := (by omega)) | (clear m2; go_at_call 40; refine (below_from w3 _ p a0 len cap _ (by omega) d3.cur (World.grownBy.refl _ _)).mono ?_; rintro er w4 ⟨s, rfl, hs0, hs1, hc4, hg4⟩; have d4 := d3.drawn hg4 hc4; obtain ⟨y0, y1, y2, y3⟩ := d4.own.cell j hj; have z0 := d4.own.frozen (j * 4); have z2 := d4.own.frozen (j * 4 + 2); have z3 := d4.own.frozen (j * 4 + 3); rcases (by omega : s = 0 ∨ s = 1 ∨ s = 2 ∨ s = 3) with k0 | k1 | k2 | k3) | (clear k0; go_at_call 40; refine (below_lit w4 w4 p a0 len cap [-1, 0, 5, 65535, 65536] _ 5 (-1) 65536 rfl (by omega) (by intro x hx; simp at hx; omega) d4.cur (World.grownBy.refl _ _)).mono ?_; rintro er w5 ⟨x5, n5, rfl, hx50, hx51, hcell5, -, -, hc5, hg5⟩; have d5 := d4.drawn hg5 hc5; obtain ⟨i5, rfl⟩ : ∃ i : Nat, x5 = i := ⟨x5.toNat, by omega⟩; simp only [Int.toNat_natCast] at hcell5; obtain ⟨t0, t1, t2, t3⟩ := d5.own.cell j hj; have tz := d5.own.frozen (j * 4)) | (clear k1; go_at_call 40; refine (below_lit w4 w4 p a0 len cap [-2, -1, 0, 1, 40] _ 5 (-2) 65536 rfl (by omega) (by intro x hx; simp at hx; omega) d4.cur (World.grownBy.refl _ _)).mono ?_; rintro er w5 ⟨x5, n5, rfl, hx50, hx51, hcell5, -, -, hc5, hg5⟩; have d5 := d4.drawn hg5 hc5; obtain ⟨i5, rfl⟩ : ∃ i : Nat, x5 = i := ⟨x5.toNat, by omega⟩; simp only [Int.toNat_natCast] at hcell5; obtain ⟨t0, t1, t2, t3⟩ := d5.own.cell j hj; have tz := d5.own.frozen (j * 4 + 2)) | (fail))
  · go_ret
    exact ⟨_, rfl, H, d2⟩
  · go_ret
    exact ⟨_, rfl, _, d5.set j hj 0 (by omega) (.int .i64 n5) { H[j] with key := n5 } rfl hg1⟩
  · go_ret
    exact ⟨_, rfl, _, d5.set j hj 2 (by omega) (.int .i64 n5) { H[j] with next := n5 } rfl hg1⟩
  · go_ret
    exact ⟨_, rfl, _, d4.set j hj 3 (by omega) (.bool !(H[j]).gone) { H[j] with gone := !(H[j]).gone } rfl hg1⟩
  · go_ret
    exact ⟨_, rfl, [], ⟨(own_empty w4).wide d4.gb.size (by simp), by simp, cur_alloc d4.cur _, gb_alloc d4.gb _, d4.pw⟩⟩

theorem results_tmp4 {fn : Func} {t u v x : Tmp} (h : fn.results = #[.tmp t, .tmp u, .tmp v, .tmp x]) (tmps : Array Value) (P : Program) (w : World) :
    (results fn tmps).run P w = .ok (.tuple #[tmps.getD t undef, tmps.getD u undef, tmps.getD v undef, tmps.getD x undef]) w := by
  simp [results, h]

/-- cells that were drawn, as a law reads them -/
structure Dr (w w' : World) (v : Value) (H : List C) : Prop where
  rd : Rd w' w'.heap.size v H
  le : H.length ≤ 40
  bel : Below w.heap.size w w'
theorem Dn.dr {w w1 w' : World} {p : Nat} {a0 : Option Addr} {len cap : Nat} {v : Value} {H : List C} (h : Dn w1 w' p a0 len cap v H) (hB : Below w.heap.size w w1) (hp : w.heap.size ≤ p) : Dr w w' v H :=
  ⟨h.own.rd, h.le, Below.grown hB h.gb hB.size (fun k hk => by cases hk; exact hp)⟩

end Go.Proofs.Ytedaioljkpfiiaa.draw
