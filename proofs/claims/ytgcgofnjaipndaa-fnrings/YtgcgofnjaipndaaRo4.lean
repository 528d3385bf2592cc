/- Contracts: the model's rings: a copy; one text is cut out. -/
import Derived.Test.YtgcgofnjaipndaaRo3
namespace Go.Proofs.Ytgcgofnjaipndaa.rg
open Go.ChangeShapes Go.WideShapes Go.ChangeAt Go.RowKit
open Go.Proofs.Ytgcgofnjaipndaa.ce Go.Proofs.Ytgcgofnjaipndaa.ro
set_option linter.unusedVariables false

/-- while a ring is copied: the one in b1 is read, the new one lies in b2 -/
structure Cpy (w : World) (b1 b2 : Nat) (vs : List Value) (w' : World) : Prop where
  low : Below w.heap.size w w'
  src : VBlk w' b1 29 vs
  var : ∃ x y z, VBlk w' b2 29 [x, y, z]
theorem cs_of {w w' : World} {b1 b2 : Nat} {u v x : Value} (h : Cpy w b1 b2 [u, v, x] w') : w'.cell? ⟨b1, 0, none⟩ = some u ∧ w'.cell? ⟨b1, 1, none⟩ = some v ∧ w'.cell? ⟨b1, 2, none⟩ = some x ∧ Cpy w b1 b2 [u, v, x] w' :=
  ⟨(cells3 h.src).1, (cells3 h.src).2.1, (cells3 h.src).2.2, h⟩
theorem cs_alloc {w w' : World} {b1 b2 : Nat} {u v x : Value} {o : Obj} (h : w'.cell? ⟨b1, 0, none⟩ = some u ∧ w'.cell? ⟨b1, 1, none⟩ = some v ∧ w'.cell? ⟨b1, 2, none⟩ = some x ∧ Cpy w b1 b2 [u, v, x] w') :
    (w'.alloc o).cell? ⟨b1, 0, none⟩ = some u ∧ (w'.alloc o).cell? ⟨b1, 1, none⟩ = some v ∧ (w'.alloc o).cell? ⟨b1, 2, none⟩ = some x ∧ Cpy w b1 b2 [u, v, x] (w'.alloc o) := by
  obtain ⟨-, -, -, h1, h2, x, y, z, h3⟩ := h
  have hb : Below w'.heap.size w' (w'.alloc o) := (Below.refl _ _).alloc (Nat.le_refl _) _
  exact cs_of ⟨h1.alloc h1.size _, vblk_grow h2 hb, x, y, z, vblk_grow h3 hb⟩
theorem cs_alloc_drew {w w' : World} {b1 b2 : Nat} {u v x : Value} {o : Obj} (h : w'.drew.cell? ⟨b1, 0, none⟩ = some u ∧ w'.drew.cell? ⟨b1, 1, none⟩ = some v ∧ w'.drew.cell? ⟨b1, 2, none⟩ = some x ∧ Cpy w b1 b2 [u, v, x] w'.drew) :
    (w'.alloc o).drew.cell? ⟨b1, 0, none⟩ = some u ∧ (w'.alloc o).drew.cell? ⟨b1, 1, none⟩ = some v ∧ (w'.alloc o).drew.cell? ⟨b1, 2, none⟩ = some x ∧ Cpy w b1 b2 [u, v, x] (w'.alloc o).drew := cs_alloc (w' := w'.drew) (o := o) h
theorem cs_ty {w w' w'' : World} {b1 b2 lo : Nat} {t : TypeId} {u v x : Value} (hT : Ty lo t w' w'') (hlo : w.heap.size ≤ lo) (ht : 29 ≠ t) (h : w'.cell? ⟨b1, 0, none⟩ = some u ∧ w'.cell? ⟨b1, 1, none⟩ = some v ∧ w'.cell? ⟨b1, 2, none⟩ = some x ∧ Cpy w b1 b2 [u, v, x] w') :
    w''.cell? ⟨b1, 0, none⟩ = some u ∧ w''.cell? ⟨b1, 1, none⟩ = some v ∧ w''.cell? ⟨b1, 2, none⟩ = some x ∧ Cpy w b1 b2 [u, v, x] w'' := by
  obtain ⟨-, -, -, h1, h2, x, y, z, h3⟩ := h
  exact cs_of ⟨h1.trans (hT.low.mono hlo), hT.vblk h2 ht, x, y, z, hT.vblk h3 ht⟩
theorem cs_low {w w' : World} {b1 b2 : Nat} {u v x : Value} (h : w'.cell? ⟨b1, 0, none⟩ = some u ∧ w'.cell? ⟨b1, 1, none⟩ = some v ∧ w'.cell? ⟨b1, 2, none⟩ = some x ∧ Cpy w b1 b2 [u, v, x] w') : Below w.heap.size w w' := h.2.2.2.low
theorem cs_size {w w' : World} {b1 b2 : Nat} {u v x : Value} (h : w'.cell? ⟨b1, 0, none⟩ = some u ∧ w'.cell? ⟨b1, 1, none⟩ = some v ∧ w'.cell? ⟨b1, 2, none⟩ = some x ∧ Cpy w b1 b2 [u, v, x] w') : w.heap.size ≤ w'.heap.size := h.2.2.2.low.size
theorem cs_store {w w' : World} {b1 b2 : Nat} {u v x y0 y1 y2 : Value} (hn : b1 ≠ b2) (hlo : w.heap.size ≤ b2) (h : w'.cell? ⟨b1, 0, none⟩ = some u ∧ w'.cell? ⟨b1, 1, none⟩ = some v ∧ w'.cell? ⟨b1, 2, none⟩ = some x ∧ Cpy w b1 b2 [u, v, x] w') :
    (((w'.setCell ⟨b2, 0, none⟩ y0).setCell ⟨b2, 1, none⟩ y1).setCell ⟨b2, 2, none⟩ y2).cell? ⟨b1, 0, none⟩ = some u ∧ (((w'.setCell ⟨b2, 0, none⟩ y0).setCell ⟨b2, 1, none⟩ y1).setCell ⟨b2, 2, none⟩ y2).cell? ⟨b1, 1, none⟩ = some v ∧ (((w'.setCell ⟨b2, 0, none⟩ y0).setCell ⟨b2, 1, none⟩ y1).setCell ⟨b2, 2, none⟩ y2).cell? ⟨b1, 2, none⟩ = some x ∧ Cpy w b1 b2 [u, v, x] (((w'.setCell ⟨b2, 0, none⟩ y0).setCell ⟨b2, 1, none⟩ y1).setCell ⟨b2, 2, none⟩ y2) := by
  obtain ⟨-, -, -, h1, h2, x, y, z, h3⟩ := h
  have o1 := only_set w' b2 0 y0
  have o2 := only_set (w'.setCell ⟨b2, 0, none⟩ y0) b2 1 y1
  have o3 := only_set ((w'.setCell ⟨b2, 0, none⟩ y0).setCell ⟨b2, 1, none⟩ y1) b2 2 y2
  refine cs_of ⟨((h1.trans (o1.2.2 _ hlo)).trans (o2.2.2 _ hlo)).trans (o3.2.2 _ hlo), vblk_only (vblk_only (vblk_only h2 o1 hn) o2 hn) o3 hn, y0, y1, y2, ?_⟩
  have := ((h3.set 0 y0).set 1 y1).set 2 y2
  simpa using this
theorem own_store {α : Type} {E : Enc α} {w' : World} {b2 lo hi : Nat} {y0 y1 y2 v : Value} {vs : List Value} {xs : List α} (o : Own E w' lo hi v xs) (hv : VBlk w' b2 29 vs) (ht : E.t ≠ 29) : Own E (((w'.setCell ⟨b2, 0, none⟩ y0).setCell ⟨b2, 1, none⟩ y1).setCell ⟨b2, 2, none⟩ y2) lo hi v xs :=
  ((o.only (only_set _ _ _ _) hv ht).only (only_set _ _ _ _) (hv.set 0 y0) ht).only (only_set _ _ _ _) ((hv.set 0 y0).set 1 y1) ht

theorem copy_end {w' : World} {b2 : Nat} {q0 q1 q2 y0 y1 y2 : Value} (hv : VBlk w' b2 29 [q0, q1, q2]) : VBlk (((w'.setCell ⟨b2, 0, none⟩ y0).setCell ⟨b2, 1, none⟩ y1).setCell ⟨b2, 2, none⟩ y2) b2 29 [y0, y1, y2] := by simpa using ((hv.set 0 y0).set 1 y1).set 2 y2

set_option maxRecDepth 100000 in
set_option maxHeartbeats 2000000 in
theorem l8Copy_any (r : Rg) (vN vU : Value) (w : World) (h : RdR w vN vU r) (hN : r.N.length ≤ 1000000) (hU : r.U.length ≤ 1000000) :
    Calls Try.prog 46 #[.agg #[vN, vU, .int .i64 r.A]] w fun e w' => ∃ vN' vU', e = .returned (.agg #[vN', vU', .int .i64 r.A]) ∧ OwnR w' w.heap.size w'.heap.size vN' vU' r ∧ Below w.heap.size w w' := by
  obtain ⟨N, U, A⟩ := r
  obtain ⟨a, cap, rfl⟩ := h.n.form
  obtain ⟨c, dc, rfl⟩ := h.u.form
  have R : Hid (RdR w (.slice a N.length cap) (.slice c U.length dc) ⟨N, U, A⟩) := h
  clear h
  dsimp only at hN hU ⊢
  have m1 : Hid True := trivial
  go_enter Try.func46, Try.ntmps46
  go_wp2_with (first | (clear m1; refine wpList_box_v rfl 29 _ rfl [.slice a N.length cap, .slice c U.length dc, .int .i64 A] rfl ?_; intro b1 w1 hb1 hw1 hB1 hV1; have hz1 := hB1.size) | (refine wpList_alloc_v rfl 29 rfl _ zeroRg ?_; intro b2 w2 hb2 hw2 hB2 hV2; have hz2 := hB2.size; have hB12 : Below w.heap.size w w2 := hB1.trans (hB2.mono hz1)) | (fail))
  have S1 := cs_of (w := w) (b1 := b1) (b2 := b2) (w' := w2.drew) ⟨hB12.drew, hV1.of (hB2.block b1 hw1), _, _, _, hV2⟩
  have hne : b1 ≠ b2 := by omega
  have hlo : w.heap.size ≤ b2 := by omega
  go_region_held3 (fun w' => w'.cell? ⟨b1, 0, none⟩ = some (.slice a N.length cap) ∧ w'.cell? ⟨b1, 1, none⟩ = some (.slice c U.length dc) ∧ w'.cell? ⟨b1, 2, none⟩ = some (.int .i64 A) ∧ Cpy w b1 b2 [.slice a N.length cap, .slice c U.length dc, .int .i64 A] w') (first | with_reducible assumption | with_reducible exact cs_store hne hlo (by assumption) | with_reducible exact cs_alloc (by assumption) | with_reducible exact cs_alloc_drew (by assumption) | (fail)) (first | (refine step_append_g infoS rfl _ _ 23 rfl Try.underlying23 w.heap.size 0 _ [] rfl (own_zero _ _ _ _ _) (cs_size (by with_reducible assumption)) _ N rfl (R.out.n.grow (cs_low (by with_reducible assumption))) (by simp; omega) ?_; intro v5 W5 o5 hT5; rw [List.nil_append] at o5; have hS5 := cs_ty hT5 (Nat.le_refl _) (by decide) (by with_reducible assumption); (try replace o6 := hT5.own (E := encB) (by first | exact o6 | exact o6.grow ((Below.refl _ _).alloc (Nat.le_refl _) _)) (by decide)); obtain ⟨q0, q1, q2, hv⟩ := hS5.2.2.2.var; obtain ⟨g0, g1, g2⟩ := cells3 hv; have f0 := hv.frozen 0; have f1 := hv.frozen 1; have f2 := hv.frozen 2; obtain ⟨a5, n5, k5, rfl⟩ := o5.slice) | (refine step_append_g infoB rfl _ _ 24 rfl Try.underlying24 w.heap.size 0 _ [] rfl (own_zero _ _ _ _ _) (cs_size (by with_reducible assumption)) _ U rfl (R.out.u.grow (cs_low (by with_reducible assumption))) (by simp; omega) ?_; intro v6 W6 o6 hT6; rw [List.nil_append] at o6; have hS6 := cs_ty hT6 (Nat.le_refl _) (by decide) (by with_reducible assumption); (try replace o5 := hT6.own (E := encS) (by first | exact o5 | exact o5.grow ((Below.refl _ _).alloc (Nat.le_refl _) _)) (by decide)); obtain ⟨q0, q1, q2, hv⟩ := hS6.2.2.2.var; obtain ⟨g0, g1, g2⟩ := cells3 hv; have f0 := hv.frozen 0; have f1 := hv.frozen 1; have f2 := hv.frozen 2; obtain ⟨a6, n6, k6, rfl⟩ := o6.slice) | (fail))
  all_goals
    go_wp2
    exact row_retv rfl rfl (copy_end hv) Try.underlying29 sizeRg rfl ⟨_, _, rfl, ⟨(own_store o5 hv (by decide)).top, (own_store o6 hv (by decide)).top⟩, cs_low (by with_reducible assumption)⟩
end Go.Proofs.Ytgcgofnjaipndaa.rg
