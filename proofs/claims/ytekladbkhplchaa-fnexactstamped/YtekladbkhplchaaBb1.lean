/- Books in memory: right ones, new ones, both sides; the model's copy. -/
import Derived.Test.YtekladbkhplchaaIo4
import Derived.Test.YtekladbkhplchaaBx1
import Derived.Deep.RegionHeld3
import Derived.BigQuiet
namespace Go.Proofs.Ytekladbkhplchaa.rg
open Go.ChangeShapes Go.WideShapes Go.ChangeAt Go.RowKit
open Go.Proofs.Ytekladbkhplchaa.ce Go.Proofs.Ytekladbkhplchaa.ro
set_option linter.unusedVariables false

theorem sizeBk : (Try.prog.info? 31).map (·.size) = some 2 := by kernel_rfl
theorem sizeLBk : (Try.prog.info? 24).map (·.size) = some 2 := by kernel_rfl
theorem zeroBk (w : World) : (zeroValue 31).run Try.prog w = .ok (.agg [Value.slice none 0 0, .int .i64 0].toArray) w := Try.zeroValue31 w
theorem oneBk (a : Option Addr) (n k : Nat) (X : Int) : ∀ v ∈ [Value.slice a n k, .int .i64 X], v.oneCell' = true := by
  intro v hv
  simp only [List.mem_cons, List.not_mem_nil, or_false] at hv
  rcases hv with rfl | rfl <;> rfl
theorem cells2 {w : World} {b : Nat} {t : TypeId} {v0 v1 : Value} (h : VBlk w b t [v0, v1]) : w.cell? ⟨b, 0, none⟩ = some v0 ∧ w.cell? ⟨b, 1, none⟩ = some v1 := ⟨h.cell 0 (by simp), h.cell 1 (by simp)⟩
theorem bAl (w : World) (o : Obj) : Below w.heap.size w (w.alloc o) := (Below.refl _ _).alloc (Nat.le_refl _) _
theorem specStoreOk_any (I : List It) (X : Int) (v : Value) (y : Bool) (hy : Hid (storeB ⟨I, X⟩ = y)) (w : World) (r : Rd encIt w v I) (hs : SmK I) :
    Calls Try.prog 39 #[.agg #[v, .int .i64 X]] w fun e w' => e = .returned (.bool y) ∧ Below w.heap.size w w' := by
  obtain ⟨a, cap, rfl⟩ := r.form
  have R : Hid (Rd encIt w (.slice a I.length cap) I) := r
  have HS : Hid (SmK I) := hs
  clear r hs
  cases hb : bookB I with
  | false =>
    have ey : y = false := by rw [← hy.out]; unfold storeB; rw [hb]; rfl
    subst ey
    go_enter Try.func39, Try.ntmps39
    go_wp2_with (first | (refine wpList_box_v rfl 31 _ rfl [.slice a I.length cap, .int .i64 X] rfl ?_; intro b1 w1 hb1 hw1 hB1 V1; obtain ⟨c0, c1⟩ := cells2 V1; have hz1 := hB1.size) | (go_at_call 28; refine (specBookOk_any I _ _ (R.out.grow hB1) HS.out).mono ?_; rintro e w2 ⟨rfl, hB2⟩; rw [hb]) | (fail))
    go_ret
    exact ⟨rfl, hB1.trans (hB2.mono hz1)⟩
  | true =>
    have ey : Hid ((decide (1 ≤ X) && decide (X ≤ 1000000)) = y) := by unfold Hid; rw [← hy.out]; unfold storeB; rw [hb]; rfl
    clear hy
    go_enter Try.func39, Try.ntmps39
    go_wp2_with (first | (refine wpList_box_v rfl 31 _ rfl [.slice a I.length cap, .int .i64 X] rfl ?_; intro b1 w1 hb1 hw1 hB1 V1; obtain ⟨c0, c1⟩ := cells2 V1; have hz1 := hB1.size) | (go_at_call 28; refine (specBookOk_any I _ _ (R.out.grow hB1) HS.out).mono ?_; rintro e w2 ⟨rfl, hB2⟩; rw [hb]; obtain ⟨d0, d1⟩ := cells2 (vblk_grow V1 hB2)) | (go_at_call 60; refine (in_is _ _ _ y ey.out _).mono ?_; rintro e wq ⟨rfl, hq⟩; subst wq) | (fail))
    go_ret
    exact ⟨rfl, hB1.trans (hB2.mono hz1)⟩
theorem implStoreOk_any (I : List It) (X : Int) (v : Value) (y : Bool) (hy : Hid (storeB ⟨I, X⟩ = y)) (w : World) (r : Rd encIt w v I) (hs : SmK I) :
    Calls Try.prog 42 #[.agg #[v, .int .i64 X]] w fun e w' => e = .returned (.bool y) ∧ Below w.heap.size w w' := by
  obtain ⟨a, cap, rfl⟩ := r.form
  have R : Hid (Rd encIt w (.slice a I.length cap) I) := r
  have HS : Hid (SmK I) := hs
  clear r hs
  cases hb : bookB I with
  | false =>
    have ey : y = false := by rw [← hy.out]; unfold storeB; rw [hb]; rfl
    subst ey
    go_enter Try.func42, Try.ntmps42
    go_wp2_with (first | (refine wpList_box_v rfl 31 _ rfl [.slice a I.length cap, .int .i64 X] rfl ?_; intro b1 w1 hb1 hw1 hB1 V1; obtain ⟨c0, c1⟩ := cells2 V1; have hz1 := hB1.size) | (go_at_call 62; refine (implBookOk_any I _ _ (R.out.grow hB1) HS.out).mono ?_; rintro e w2 ⟨rfl, hB2⟩; rw [hb]) | (fail))
    go_ret
    exact ⟨rfl, hB1.trans (hB2.mono hz1)⟩
  | true =>
    have ey : Hid ((decide (1 ≤ X) && decide (X ≤ 1000000)) = y) := by unfold Hid; rw [← hy.out]; unfold storeB; rw [hb]; rfl
    clear hy
    go_enter Try.func42, Try.ntmps42
    go_wp2_with (first | (refine wpList_box_v rfl 31 _ rfl [.slice a I.length cap, .int .i64 X] rfl ?_; intro b1 w1 hb1 hw1 hB1 V1; obtain ⟨c0, c1⟩ := cells2 V1; have hz1 := hB1.size) | (go_at_call 62; refine (implBookOk_any I _ _ (R.out.grow hB1) HS.out).mono ?_; rintro e w2 ⟨rfl, hB2⟩; rw [hb]; obtain ⟨d0, d1⟩ := cells2 (vblk_grow V1 hB2)) | (go_at_call 63; refine (within_is _ _ _ y ey.out _).mono ?_; rintro e wq ⟨rfl, hq⟩; subst wq) | (fail))
    go_ret
    exact ⟨rfl, hB1.trans (hB2.mono hz1)⟩
/-- while a book is copied: the one in b1 is read, the new one lies in b2 -/
structure Cpb (w : World) (b1 b2 : Nat) (vs : List Value) (w' : World) : Prop where
  low : Below w.heap.size w w'
  src : VBlk w' b1 31 vs
  var : ∃ x y, VBlk w' b2 31 [x, y]
theorem cb_of {w w' : World} {b1 b2 : Nat} {u v : Value} (h : Cpb w b1 b2 [u, v] w') : w'.cell? ⟨b1, 0, none⟩ = some u ∧ w'.cell? ⟨b1, 1, none⟩ = some v ∧ Cpb w b1 b2 [u, v] w' := ⟨(cells2 h.src).1, (cells2 h.src).2, h⟩
theorem cb_alloc {w w' : World} {b1 b2 : Nat} {u v : Value} {o : Obj} (h : w'.cell? ⟨b1, 0, none⟩ = some u ∧ w'.cell? ⟨b1, 1, none⟩ = some v ∧ Cpb w b1 b2 [u, v] w') :
    (w'.alloc o).cell? ⟨b1, 0, none⟩ = some u ∧ (w'.alloc o).cell? ⟨b1, 1, none⟩ = some v ∧ Cpb w b1 b2 [u, v] (w'.alloc o) := by
  obtain ⟨-, -, h1, h2, x, y, h3⟩ := h
  exact cb_of ⟨h1.alloc h1.size _, vblk_grow h2 (bAl _ _), x, y, vblk_grow h3 (bAl _ _)⟩
theorem cb_alloc_drew {w w' : World} {b1 b2 : Nat} {u v : Value} {o : Obj} (h : w'.drew.cell? ⟨b1, 0, none⟩ = some u ∧ w'.drew.cell? ⟨b1, 1, none⟩ = some v ∧ Cpb w b1 b2 [u, v] w'.drew) :
    (w'.alloc o).drew.cell? ⟨b1, 0, none⟩ = some u ∧ (w'.alloc o).drew.cell? ⟨b1, 1, none⟩ = some v ∧ Cpb w b1 b2 [u, v] (w'.alloc o).drew := cb_alloc (w' := w'.drew) (o := o) h
theorem cb_ty {w w' w'' : World} {b1 b2 lo : Nat} {t : TypeId} {u v : Value} (hT : Ty lo t w' w'') (hlo : w.heap.size ≤ lo) (ht : 31 ≠ t) (h : w'.cell? ⟨b1, 0, none⟩ = some u ∧ w'.cell? ⟨b1, 1, none⟩ = some v ∧ Cpb w b1 b2 [u, v] w') :
    w''.cell? ⟨b1, 0, none⟩ = some u ∧ w''.cell? ⟨b1, 1, none⟩ = some v ∧ Cpb w b1 b2 [u, v] w'' := by
  obtain ⟨-, -, h1, h2, x, y, h3⟩ := h
  exact cb_of ⟨h1.trans (hT.low.mono hlo), hT.vblk h2 ht, x, y, hT.vblk h3 ht⟩
theorem cb_low {w w' : World} {b1 b2 : Nat} {u v : Value} (h : w'.cell? ⟨b1, 0, none⟩ = some u ∧ w'.cell? ⟨b1, 1, none⟩ = some v ∧ Cpb w b1 b2 [u, v] w') : Below w.heap.size w w' := h.2.2.low
theorem cb_size {w w' : World} {b1 b2 : Nat} {u v : Value} (h : w'.cell? ⟨b1, 0, none⟩ = some u ∧ w'.cell? ⟨b1, 1, none⟩ = some v ∧ Cpb w b1 b2 [u, v] w') : w.heap.size ≤ w'.heap.size := h.2.2.low.size
theorem cb_store {w w' : World} {b1 b2 : Nat} {u v y0 y1 : Value} (hn : b1 ≠ b2) (hlo : w.heap.size ≤ b2) (h : w'.cell? ⟨b1, 0, none⟩ = some u ∧ w'.cell? ⟨b1, 1, none⟩ = some v ∧ Cpb w b1 b2 [u, v] w') :
    ((w'.setCell ⟨b2, 0, none⟩ y0).setCell ⟨b2, 1, none⟩ y1).cell? ⟨b1, 0, none⟩ = some u ∧ ((w'.setCell ⟨b2, 0, none⟩ y0).setCell ⟨b2, 1, none⟩ y1).cell? ⟨b1, 1, none⟩ = some v ∧ Cpb w b1 b2 [u, v] ((w'.setCell ⟨b2, 0, none⟩ y0).setCell ⟨b2, 1, none⟩ y1) := by
  obtain ⟨-, -, h1, h2, x, y, h3⟩ := h
  have o1 := only_set w' b2 0 y0
  have o2 := only_set (w'.setCell ⟨b2, 0, none⟩ y0) b2 1 y1
  refine cb_of ⟨(h1.trans (o1.2.2 _ hlo)).trans (o2.2.2 _ hlo), vblk_only (vblk_only h2 o1 hn) o2 hn, y0, y1, ?_⟩
  have := (h3.set 0 y0).set 1 y1
  simpa using this
theorem own_store2 {α : Type} {E : Enc α} {w' : World} {b2 lo hi : Nat} {y0 y1 v : Value} {t : TypeId} {vs : List Value} {xs : List α} (o : Own E w' lo hi v xs) (hv : VBlk w' b2 t vs) (ht : E.t ≠ t) : Own E ((w'.setCell ⟨b2, 0, none⟩ y0).setCell ⟨b2, 1, none⟩ y1) lo hi v xs :=
  (o.only (only_set _ _ _ _) hv ht).only (only_set _ _ _ _) (hv.set 0 y0) ht
theorem copy2_end {w' : World} {b2 : Nat} {t : TypeId} {q0 q1 y0 y1 : Value} (hv : VBlk w' b2 t [q0, q1]) : VBlk ((w'.setCell ⟨b2, 0, none⟩ y0).setCell ⟨b2, 1, none⟩ y1) b2 t [y0, y1] := by simpa using (hv.set 0 y0).set 1 y1
set_option maxRecDepth 100000 in
set_option maxHeartbeats 2000000 in
theorem l13Copy_any (I : List It) (X : Int) (v : Value) (w : World) (r : Rd encIt w v I) (hl : I.length ≤ 1048576) :
    Calls Try.prog 40 #[.agg #[v, .int .i64 X]] w fun e w' => ∃ v', e = .returned (.agg #[v', .int .i64 X]) ∧ Own encIt w' w.heap.size w'.heap.size v' I ∧ Below w.heap.size w w' := by
  obtain ⟨a, cap, rfl⟩ := r.form
  have R : Hid (Rd encIt w (.slice a I.length cap) I) := r
  clear r
  have m1 : Hid True := trivial
  go_enter Try.func40, Try.ntmps40
  go_wp2_with (first | (clear m1; refine wpList_box_v rfl 31 _ rfl [.slice a I.length cap, .int .i64 X] rfl ?_; intro b1 w1 hb1 hw1 hB1 hV1; have hz1 := hB1.size) | (refine wpList_alloc_v rfl 31 rfl _ zeroBk ?_; intro b2 w2 hb2 hw2 hB2 hV2; have hz2 := hB2.size; have hB12 : Below w.heap.size w w2 := hB1.trans (hB2.mono hz1)) | (fail))
  have S1 := cb_of (w := w) (b1 := b1) (b2 := b2) (w' := w2.drew) ⟨hB12.drew, hV1.of (hB2.block b1 hw1), _, _, hV2⟩
  have hne : b1 ≠ b2 := by omega
  have hlo : w.heap.size ≤ b2 := by omega
  go_region_held3 (fun w' => w'.cell? ⟨b1, 0, none⟩ = some (.slice a I.length cap) ∧ w'.cell? ⟨b1, 1, none⟩ = some (.int .i64 X) ∧ Cpb w b1 b2 [.slice a I.length cap, .int .i64 X] w') (first | with_reducible assumption | with_reducible exact cb_store hne hlo (by assumption) | with_reducible exact cb_alloc (by assumption) | with_reducible exact cb_alloc_drew (by assumption) | (fail)) (first | (refine step_append_g infoIt rfl _ _ 29 rfl Try.underlying29 w.heap.size 0 _ [] rfl (own_zero _ _ _ _ _) (cb_size (by with_reducible assumption)) _ I rfl (R.out.grow (cb_low (by with_reducible assumption))) (by simp; omega) ?_; intro v5 W5 o5 hT5; rw [List.nil_append] at o5; have hS5 := cb_ty hT5 (Nat.le_refl _) (by decide) (by with_reducible assumption); obtain ⟨q0, q1, hv⟩ := hS5.2.2.var; obtain ⟨g0, g1⟩ := cells2 hv; have f0 := hv.frozen 0; have f1 := hv.frozen 1; obtain ⟨a5, n5, k5, rfl⟩ := o5.slice) | (fail))
  all_goals
    go_wp2
    exact row_retv rfl rfl (copy2_end hv) Try.underlying31 sizeBk rfl ⟨_, rfl, (own_store2 o5 hv (by decide)).top, cb_low (by with_reducible assumption)⟩
end Go.Proofs.Ytekladbkhplchaa.rg
