/- Texts laid together: Bb1 Is1 Is2 Mk0 MkIt Bh1 Re1 DrawText. -/
import Derived.Test.YtaabmkhckbndgaaGreatDoorMg02
import Derived.Test.YtaabmkhckbndgaaGreatDoorMg30
import Derived.Test.YtaabmkhckbndgaaGreatDoorMg00
import Derived.Test.YtaabmkhckbndgaaGreatDoorMg29
import Derived.Test.YtaabmkhckbndgaaGreatDoorMg28
import Derived.Deep.RegionHeld3
import Derived.BigQuiet
import Derived.Deep.Slices
import Derived.Lib.SmallJoins
import Derived.ShutString
import Derived.ChangeOld
import Derived.Deep.LoopGhost
import Derived.Laws.IdiomStrings
/- Books in memory: right ones, new ones, both sides; the model's copy. -/
namespace Go.Proofs.YtaabmkhckbndgaaGreatDoor.rg
open Go.ChangeShapes Go.WideShapes Go.ChangeAt Go.RowKit
open Go.Proofs.YtaabmkhckbndgaaGreatDoor.ce Go.Proofs.YtaabmkhckbndgaaGreatDoor.ro
set_option linter.unusedVariables false

theorem sizeBk : (Tryz.prog.info? 56).map (·.size) = some 2 := by kernel_rfl
theorem sizeLBk : (Tryz.prog.info? 50).map (·.size) = some 2 := by kernel_rfl
theorem zeroBk (w : World) : (zeroValue 56).run Tryz.prog w = .ok (.agg [Value.slice none 0 0, .int .i64 0].toArray) w := Tryz.zeroValue56 w
theorem oneBk (a : Option Addr) (n k : Nat) (X : Int) : ∀ v ∈ [Value.slice a n k, .int .i64 X], v.oneCell' = true := by
  intro v hv
  simp only [List.mem_cons, List.not_mem_nil, or_false] at hv
  rcases hv with rfl | rfl <;> rfl
theorem bAl (w : World) (o : Obj) : Below w.heap.size w (w.alloc o) := (Below.refl _ _).alloc (Nat.le_refl _) _
theorem specStoreOk_any (I : List It) (X : Int) (v : Value) (y : Bool) (hy : Hid (storeB ⟨I, X⟩ = y)) (w : World) (r : Rd encIt w v I) (hs : SmK I) :
    Calls Tryz.prog 45 #[.agg #[v, .int .i64 X]] w fun e w' => e = .returned (.bool y) ∧ Below w.heap.size w w' := by
  obtain ⟨a, cap, rfl⟩ := r.form
  have R : Hid (Rd encIt w (.slice a I.length cap) I) := r
  have HS : Hid (SmK I) := hs
  clear r hs
  cases hb : bookB I with
  | false =>
    have ey : y = false := by rw [← hy.out]; unfold storeB; rw [hb]; rfl
    subst ey
    go_enter Tryz.func45, Tryz.ntmps45
    go_wp2_with (first | (refine wpList_box_v rfl 56 _ rfl [.slice a I.length cap, .int .i64 X] rfl ?_; intro b1 w1 hb1 hw1 hB1 V1; obtain ⟨c0, c1⟩ := cells2 V1; have hz1 := hB1.size) | (go_at_call 104; refine (specBookOk_any I _ _ (R.out.grow hB1) HS.out).mono ?_; rintro e w2 ⟨rfl, hB2⟩; rw [hb]) | (fail))
    go_ret
    exact ⟨rfl, hB1.trans (hB2.mono hz1)⟩
  | true =>
    have ey : Hid ((decide (1 ≤ X) && decide (X ≤ 1000000)) = y) := by unfold Hid; rw [← hy.out]; unfold storeB; rw [hb]; rfl
    clear hy
    go_enter Tryz.func45, Tryz.ntmps45
    go_wp2_with (first | (refine wpList_box_v rfl 56 _ rfl [.slice a I.length cap, .int .i64 X] rfl ?_; intro b1 w1 hb1 hw1 hB1 V1; obtain ⟨c0, c1⟩ := cells2 V1; have hz1 := hB1.size) | (go_at_call 104; refine (specBookOk_any I _ _ (R.out.grow hB1) HS.out).mono ?_; rintro e w2 ⟨rfl, hB2⟩; rw [hb]; obtain ⟨d0, d1⟩ := cells2 (vblk_grow V1 hB2)) | (go_at_call 72; refine (in_is _ _ _ y ey.out _).mono ?_; rintro e wq ⟨rfl, hq⟩; subst wq) | (fail))
    go_ret
    exact ⟨rfl, hB1.trans (hB2.mono hz1)⟩
theorem specNewBook_any (w : World) : Calls Tryz.prog 47 #[] w fun e w' => e = .returned (.agg #[.slice none 0 0, .int .i64 1]) ∧ Below w.heap.size w w' := by
  go_enter Tryz.func47, Tryz.ntmps47
  go_wp2_with (first | (refine wpList_alloc_v rfl 56 rfl _ zeroBk ?_; intro b1 w1 hb1 hw1 hB1 V1) | (refine wpList_store_v rfl 56 _ _ rfl b1 [.slice none 0 0, .int .i64 1] rfl rfl sizeBk V1 rfl (oneBk _ _ _ _) ?_; intro w2 hO2 V2) | (fail))
  exact row_retv rfl rfl V2 Tryz.underlying56 sizeBk rfl ⟨rfl, hB1.trans (hO2.2.2 _ hb1)⟩
theorem implStoreOk_any (I : List It) (X : Int) (v : Value) (y : Bool) (hy : Hid (storeB ⟨I, X⟩ = y)) (w : World) (r : Rd encIt w v I) (hs : SmK I) :
    Calls Tryz.prog 44 #[.agg #[v, .int .i64 X]] w fun e w' => e = .returned (.bool y) ∧ Below w.heap.size w w' := by
  obtain ⟨a, cap, rfl⟩ := r.form
  have R : Hid (Rd encIt w (.slice a I.length cap) I) := r
  have HS : Hid (SmK I) := hs
  clear r hs
  cases hb : bookB I with
  | false =>
    have ey : y = false := by rw [← hy.out]; unfold storeB; rw [hb]; rfl
    subst ey
    go_enter Tryz.func44, Tryz.ntmps44
    go_wp2_with (first | (refine wpList_box_v rfl 56 _ rfl [.slice a I.length cap, .int .i64 X] rfl ?_; intro b1 w1 hb1 hw1 hB1 V1; obtain ⟨c0, c1⟩ := cells2 V1; have hz1 := hB1.size) | (go_at_call 103; refine (implBookOk_any I _ _ (R.out.grow hB1) HS.out).mono ?_; rintro e w2 ⟨rfl, hB2⟩; rw [hb]) | (fail))
    go_ret
    exact ⟨rfl, hB1.trans (hB2.mono hz1)⟩
  | true =>
    have ey : Hid ((decide (1 ≤ X) && decide (X ≤ 1000000)) = y) := by unfold Hid; rw [← hy.out]; unfold storeB; rw [hb]; rfl
    clear hy
    go_enter Tryz.func44, Tryz.ntmps44
    go_wp2_with (first | (refine wpList_box_v rfl 56 _ rfl [.slice a I.length cap, .int .i64 X] rfl ?_; intro b1 w1 hb1 hw1 hB1 V1; obtain ⟨c0, c1⟩ := cells2 V1; have hz1 := hB1.size) | (go_at_call 103; refine (implBookOk_any I _ _ (R.out.grow hB1) HS.out).mono ?_; rintro e w2 ⟨rfl, hB2⟩; rw [hb]; obtain ⟨d0, d1⟩ := cells2 (vblk_grow V1 hB2)) | (go_at_call 63; refine (within_is _ _ _ y ey.out _).mono ?_; rintro e wq ⟨rfl, hq⟩; subst wq) | (fail))
    go_ret
    exact ⟨rfl, hB1.trans (hB2.mono hz1)⟩
theorem implNewBook_any (w : World) : Calls Tryz.prog 46 #[] w fun e w' => e = .returned (.agg #[.slice none 0 0, .int .i64 1]) ∧ Below w.heap.size w w' := by
  go_enter Tryz.func46, Tryz.ntmps46
  go_wp2_with (first | (refine wpList_alloc_v rfl 56 rfl _ zeroBk ?_; intro b1 w1 hb1 hw1 hB1 V1) | (refine wpList_store_v rfl 56 _ _ rfl b1 [.slice none 0 0, .int .i64 1] rfl rfl sizeBk V1 rfl (oneBk _ _ _ _) ?_; intro w2 hO2 V2) | (fail))
  exact row_retv rfl rfl V2 Tryz.underlying56 sizeBk rfl ⟨rfl, hB1.trans (hO2.2.2 _ hb1)⟩
/-- while a book is copied: the one in b1 is read, the new one lies in b2 -/
structure Cpb (w : World) (b1 b2 : Nat) (vs : List Value) (w' : World) : Prop where
  low : Below w.heap.size w w'
  src : VBlk w' b1 56 vs
  var : ∃ x y, VBlk w' b2 56 [x, y]
theorem cb_of {w w' : World} {b1 b2 : Nat} {u v : Value} (h : Cpb w b1 b2 [u, v] w') : w'.cell? ⟨b1, 0, none⟩ = some u ∧ w'.cell? ⟨b1, 1, none⟩ = some v ∧ Cpb w b1 b2 [u, v] w' := ⟨(cells2 h.src).1, (cells2 h.src).2, h⟩
theorem cb_alloc {w w' : World} {b1 b2 : Nat} {u v : Value} {o : Obj} (h : w'.cell? ⟨b1, 0, none⟩ = some u ∧ w'.cell? ⟨b1, 1, none⟩ = some v ∧ Cpb w b1 b2 [u, v] w') :
    (w'.alloc o).cell? ⟨b1, 0, none⟩ = some u ∧ (w'.alloc o).cell? ⟨b1, 1, none⟩ = some v ∧ Cpb w b1 b2 [u, v] (w'.alloc o) := by
  obtain ⟨-, -, h1, h2, x, y, h3⟩ := h
  exact cb_of ⟨h1.alloc h1.size _, vblk_grow h2 (bAl _ _), x, y, vblk_grow h3 (bAl _ _)⟩
theorem cb_alloc_drew {w w' : World} {b1 b2 : Nat} {u v : Value} {o : Obj} (h : w'.drew.cell? ⟨b1, 0, none⟩ = some u ∧ w'.drew.cell? ⟨b1, 1, none⟩ = some v ∧ Cpb w b1 b2 [u, v] w'.drew) :
    (w'.alloc o).drew.cell? ⟨b1, 0, none⟩ = some u ∧ (w'.alloc o).drew.cell? ⟨b1, 1, none⟩ = some v ∧ Cpb w b1 b2 [u, v] (w'.alloc o).drew := cb_alloc (w' := w'.drew) (o := o) h
theorem cb_ty {w w' w'' : World} {b1 b2 lo : Nat} {t : TypeId} {u v : Value} (hT : Ty lo t w' w'') (hlo : w.heap.size ≤ lo) (ht : 56 ≠ t) (h : w'.cell? ⟨b1, 0, none⟩ = some u ∧ w'.cell? ⟨b1, 1, none⟩ = some v ∧ Cpb w b1 b2 [u, v] w') :
    w''.cell? ⟨b1, 0, none⟩ = some u ∧ w''.cell? ⟨b1, 1, none⟩ = some v ∧ Cpb w b1 b2 [u, v] w'' := by
  obtain ⟨-, -, h1, h2, x, y, h3⟩ := h
  exact cb_of ⟨h1.trans (hT.low.mono hlo), hT.vblk h2 ht, x, y, hT.vblk h3 ht⟩
theorem cb_low {w w' : World} {b1 b2 : Nat} {u v : Value} (h : w'.cell? ⟨b1, 0, none⟩ = some u ∧ w'.cell? ⟨b1, 1, none⟩ = some v ∧ Cpb w b1 b2 [u, v] w') : Below w.heap.size w w' := h.2.2.low
theorem cb_size {w w' : World} {b1 b2 : Nat} {u v : Value} (h : w'.cell? ⟨b1, 0, none⟩ = some u ∧ w'.cell? ⟨b1, 1, none⟩ = some v ∧ Cpb w b1 b2 [u, v] w') : w.heap.size ≤ w'.heap.size := h.2.2.low.size
theorem cb_store {w w' : World} {b1 b2 : Nat} {u v y0 y1 : Value} (hn : b1 ≠ b2) (hlo : w.heap.size ≤ b2) (h : w'.cell? ⟨b1, 0, none⟩ = some u ∧ w'.cell? ⟨b1, 1, none⟩ = some v ∧ Cpb w b1 b2 [u, v] w') :
    ((w'.setCell ⟨b2, 0, none⟩ y0).setCell ⟨b2, 1, none⟩ y1).cell? ⟨b1, 0, none⟩ = some u ∧ ((w'.setCell ⟨b2, 0, none⟩ y0).setCell ⟨b2, 1, none⟩ y1).cell? ⟨b1, 1, none⟩ = some v ∧ Cpb w b1 b2 [u, v] ((w'.setCell ⟨b2, 0, none⟩ y0).setCell ⟨b2, 1, none⟩ y1) := by
  obtain ⟨-, -, h1, h2, x, y, h3⟩ := h
  have o1 := only_set w' b2 0 y0
  have o2 := only_set (w'.setCell ⟨b2, 0, none⟩ y0) b2 1 y1
  refine cb_of ⟨(h1.trans (o1.2.2 _ hlo)).trans (o2.2.2 _ hlo), vblk_only (vblk_only h2 o1 hn) o2 hn, y0, y1, ?_⟩
  have := (h3.set 0 y0).set 1 y1
  simpa using this
theorem own_store2 {α : Type} {E : Enc α} {w' : World} {b2 lo hi : Nat} {y0 y1 v : Value} {t : TypeId} {vs : List Value} {xs : List α} (o : Own E w' lo hi v xs) (hv : VBlk w' b2 t vs) (ht : E.t ≠ t) : Own E ((w'.setCell ⟨b2, 0, none⟩ y0).setCell ⟨b2, 1, none⟩ y1) lo hi v xs :=
  (o.only (only_set _ _ _ _) hv ht).only (only_set _ _ _ _) (hv.set 0 y0) ht
theorem copy2_end {w' : World} {b2 : Nat} {t : TypeId} {q0 q1 y0 y1 : Value} (hv : VBlk w' b2 t [q0, q1]) : VBlk ((w'.setCell ⟨b2, 0, none⟩ y0).setCell ⟨b2, 1, none⟩ y1) b2 t [y0, y1] := by simpa using (hv.set 0 y0).set 1 y1
set_option maxRecDepth 100000 in
set_option maxHeartbeats 2000000 in
theorem l13Copy_any (I : List It) (X : Int) (v : Value) (w : World) (r : Rd encIt w v I) (hl : I.length ≤ 1048576) :
    Calls Tryz.prog 89 #[.agg #[v, .int .i64 X]] w fun e w' => ∃ v', e = .returned (.agg #[v', .int .i64 X]) ∧ Own encIt w' w.heap.size w'.heap.size v' I ∧ Below w.heap.size w w' := by
  obtain ⟨a, cap, rfl⟩ := r.form
  have R : Hid (Rd encIt w (.slice a I.length cap) I) := r
  clear r
  have m1 : Hid True := trivial
  go_enter Tryz.func89, Tryz.ntmps89
  go_wp2_with (first | (clear m1; refine wpList_box_v rfl 56 _ rfl [.slice a I.length cap, .int .i64 X] rfl ?_; intro b1 w1 hb1 hw1 hB1 hV1; have hz1 := hB1.size) | (refine wpList_alloc_v rfl 56 rfl _ zeroBk ?_; intro b2 w2 hb2 hw2 hB2 hV2; have hz2 := hB2.size; have hB12 : Below w.heap.size w w2 := hB1.trans (hB2.mono hz1)) | (fail))
  have S1 := cb_of (w := w) (b1 := b1) (b2 := b2) (w' := w2.drew) ⟨hB12.drew, hV1.of (hB2.block b1 hw1), _, _, hV2⟩
  have hne : b1 ≠ b2 := by omega
  have hlo : w.heap.size ≤ b2 := by omega
  go_region_held3 (fun w' => w'.cell? ⟨b1, 0, none⟩ = some (.slice a I.length cap) ∧ w'.cell? ⟨b1, 1, none⟩ = some (.int .i64 X) ∧ Cpb w b1 b2 [.slice a I.length cap, .int .i64 X] w') (first | with_reducible assumption | with_reducible exact cb_store hne hlo (by assumption) | with_reducible exact cb_alloc (by assumption) | with_reducible exact cb_alloc_drew (by assumption) | (fail)) (first | (refine step_append_g infoIt rfl _ _ 54 rfl Tryz.underlying54 w.heap.size 0 _ [] rfl (own_zero _ _ _ _ _) (cb_size (by with_reducible assumption)) _ I rfl (R.out.grow (cb_low (by with_reducible assumption))) (by simp; omega) ?_; intro v5 W5 o5 hT5; rw [List.nil_append] at o5; have hS5 := cb_ty hT5 (Nat.le_refl _) (by decide) (by with_reducible assumption); obtain ⟨q0, q1, hv⟩ := hS5.2.2.var; obtain ⟨g0, g1⟩ := cells2 hv; have f0 := hv.frozen 0; have f1 := hv.frozen 1; obtain ⟨a5, n5, k5, rfl⟩ := o5.slice) | (fail))
  all_goals
    go_wp2
    exact row_retv rfl rfl (copy2_end hv) Tryz.underlying56 sizeBk rfl ⟨_, rfl, (own_store2 o5 hv (by decide)).top, cb_low (by with_reducible assumption)⟩
end Go.Proofs.YtaabmkhckbndgaaGreatDoor.rg
/- Contracts of the laws' helpers on things and books: sizes, copies, comparisons. -/
namespace Go.Proofs.YtaabmkhckbndgaaGreatDoor.rg
open Go.ChangeShapes Go.WideShapes Go.ChangeAt Go.RowKit
open Go.Proofs.YtaabmkhckbndgaaGreatDoor.ce Go.Proofs.YtaabmkhckbndgaaGreatDoor.ro
set_option linter.unusedVariables false

theorem szItem_any (N B : ByteArray) (F C U : Int) (hN : N.size ≤ 9223372036854775807) (hB : B.size ≤ 9223372036854775807) (L : Int) (hL : L ≤ 1048576) (hL0 : 0 ≤ L) (w : World) :
    Calls Tryz.prog 133 #[.agg #[.string N, .int .i64 F, .string B, .int .i64 C, .int .i64 U], .int .i64 L] w fun e w' => ∃ q : Int, e = .returned (.int .i64 q) ∧ Below w.heap.size w w' ∧ q ≤ 1048576 ∧ (0 ≤ q → N.size ≤ 1048576 ∧ B.size ≤ 1048576) := by
  have e1 : IntKind.i64.wrap (L - (N.size : Int)) = L - N.size := by rw [IntKind.wrap_i64]; omega
  by_cases h1 : L - (N.size : Int) < 0
  · go_enter Tryz.func133, Tryz.ntmps133
    go_wp2_with (first | (refine wpList_box_v rfl 168 _ rfl [.string N, .int .i64 F, .string B, .int .i64 C, .int .i64 U] rfl ?_; intro b1 w1 hb1 hw1 hB1 V1; obtain ⟨c0, c1, c2, c3, c4⟩ := cells5 V1) | (fail))
    go_ret
    exact ⟨-1, rfl, hB1, by omega, fun _ => by omega⟩
  · have e2 : IntKind.i64.wrap (L - (N.size : Int) - (B.size : Int)) = L - N.size - B.size := by rw [IntKind.wrap_i64]; omega
    by_cases h2 : L - (N.size : Int) - (B.size : Int) < 0
    · go_enter Tryz.func133, Tryz.ntmps133
      go_wp2_with (first | (refine wpList_box_v rfl 168 _ rfl [.string N, .int .i64 F, .string B, .int .i64 C, .int .i64 U] rfl ?_; intro b1 w1 hb1 hw1 hB1 V1; obtain ⟨c0, c1, c2, c3, c4⟩ := cells5 V1) | (fail))
      go_ret
      exact ⟨-1, rfl, hB1, by omega, fun _ => by omega⟩
    · go_enter Tryz.func133, Tryz.ntmps133
      go_wp2_with (first | (refine wpList_box_v rfl 168 _ rfl [.string N, .int .i64 F, .string B, .int .i64 C, .int .i64 U] rfl ?_; intro b1 w1 hb1 hw1 hB1 V1; obtain ⟨c0, c1, c2, c3, c4⟩ := cells5 V1) | (fail))
      go_ret
      exact ⟨_, rfl, hB1, by omega, fun _ => by omega⟩

set_option maxHeartbeats 1000000 in
theorem toItem_any (N B : ByteArray) (F C U : Int) (w : World) :
    Calls Tryz.prog 137 #[.agg #[.string N, .int .i64 F, .string B, .int .i64 C, .int .i64 U]] w fun e w' => e = .returned (.agg #[.string N, .int .i64 F, .string B, .int .i64 C, .int .i64 U]) ∧ Below w.heap.size w w' := by
  go_enter Tryz.func137, Tryz.ntmps137
  go_wp2
  have h1 : VBlk ((w.alloc (.cells #[.string N, .int .i64 F, .string B, .int .i64 C, .int .i64 U] 168)).alloc (.cells #[.string N, .int .i64 F, .string B, .int .i64 C, .int .i64 U] 74)) (w.heap.size + 1) 74 [.string N, .int .i64 F, .string B, .int .i64 C, .int .i64 U] := by
    have := heap_alloc_new (w.alloc (.cells #[.string N, .int .i64 F, .string B, .int .i64 C, .int .i64 U] 168)) (.cells #[.string N, .int .i64 F, .string B, .int .i64 C, .int .i64 U] 74)
    simpa [VBlk] using this
  refine row_retv rfl rfl (h1.of (Below.heap_alloc _ _ _ h1.lt)) Tryz.underlying74 sizeIt rfl ⟨rfl, ?_⟩
  exact (((Below.refl _ w).alloc (Nat.le_refl _) _).alloc (by simp) _).alloc (by simp <;> omega) _

theorem eqItem_any (N B : ByteArray) (F C U : Int) (w : World) :
    Calls Tryz.prog 154 #[.agg #[.string N, .int .i64 F, .string B, .int .i64 C, .int .i64 U], .agg #[.string N, .int .i64 F, .string B, .int .i64 C, .int .i64 U]] w fun e w' => e = .returned (.bool true) ∧ Below w.heap.size w w' := by
  have hN : (N.toList == N.toList) = true := by simp
  have hB : (B.toList == B.toList) = true := by simp
  have h1 : (F != F) = false := by simp
  have h2 : (C != C) = false := by simp
  have h3 : (U != U) = false := by simp
  have m1 : Hid True := trivial
  go_enter Tryz.func154, Tryz.ntmps154
  go_wp2_with (first | (clear m1; refine wpList_box_v rfl 74 _ rfl [.string N, .int .i64 F, .string B, .int .i64 C, .int .i64 U] rfl ?_; intro b1 w1 hb1 hw1 hB1 V1; have hz1 := hB1.size) | (refine wpList_box_v rfl 74 _ rfl [.string N, .int .i64 F, .string B, .int .i64 C, .int .i64 U] rfl ?_; intro b2 w2 hb2 hw2 hB2 V2; obtain ⟨c0, c1, c2, c3, c4⟩ := cells5 (vblk_grow V1 hB2); obtain ⟨d0, d1, d2, d3, d4⟩ := cells5 V2) | (fail))
  go_ret
  exact ⟨rfl, hB1.trans (hB2.mono hz1)⟩
end Go.Proofs.YtaabmkhckbndgaaGreatDoor.rg
/- Contracts of the laws' helpers on books: sizes, copies, comparisons; a thing and a book among the arguments. -/
namespace Go.Proofs.YtaabmkhckbndgaaGreatDoor.rg
open Go.ChangeShapes Go.WideShapes Go.ChangeAt Go.RowKit
open Go.Deep Go.Joins
open Go.Proofs.YtaabmkhckbndgaaGreatDoor.ce Go.Proofs.YtaabmkhckbndgaaGreatDoor.ro
set_option linter.unusedVariables false

/-- no text is longer than what a machine holds -/
def Lo (b : List It) : Prop := ∀ i ∈ b, i.N.size ≤ 9223372036854775807 ∧ i.B.size ≤ 9223372036854775807

set_option maxHeartbeats 1000000 in
theorem szItems_le (b : List It) (v : Value) (L : Int) (hL : L ≤ 1048576) (hL0 : 0 ≤ L) (w : World) (r : Rd encLi w v b) (hs : Lo b) :
    Calls Tryz.prog 87 #[v, .int .i64 L] w fun e w' => ∃ q : Int, e = .returned (.int .i64 q) ∧ Below w.heap.size w w' ∧ (0 ≤ q → b.length ≤ 1048576 ∧ SmK b) ∧ q ≤ 1048576 := by
  have hl := r.len
  obtain ⟨a, cap, rfl⟩ := r.form
  have R : Hid (Rd encLi w (.slice a b.length cap) b) := r
  have HS : Hid (Lo b) := hs
  clear r hs
  have e : IntKind.i64.wrap (L - (b.length : Int)) = L - b.length := by rw [IntKind.wrap_i64]; omega
  by_cases h : L - (b.length : Int) < 0
  · go_enter Tryz.func87, Tryz.ntmps87
    go_wp2
    go_ret
    exact ⟨-1, rfl, Below.refl _ _, fun _ => by omega, by omega⟩
  · go_enter Tryz.func87, Tryz.ntmps87
    go_wp2
    go_loopw [1, 5] (fun q p wr => ∃ (l : Int) (i : Nat), i ≤ b.length ∧ p = .int .i64 i ∧ q = .int .i64 l ∧ 0 ≤ l ∧ l ≤ 1048576 ∧ Hid (SmK (b.take i)) ∧ Below w.heap.size w wr) (fun _ p _ => b.length - (intOf p).toNat)
    case atStart => exact ⟨L - b.length, 0, by omega, rfl, rfl, by omega, by omega, (fun z hz => by simp at hz), Below.refl _ _⟩
    case round =>
      obtain ⟨l, i, hi1, rfl, rfl, hl0, hl1, hS, hBr⟩ := hrel
      by_cases hlt : i < b.length
      · obtain ⟨bk, off, rfl, hb, rg0⟩ := rd_item rfl rfl (R.out.grow hBr) i hlt
        have hlt' : (i : Int) < (b.length : Int) := by omega
        have hsz := HS.out b[i] (List.getElem_mem hlt)
        have hsr := hBr.size
        have hS2 : (b[i].N.size ≤ 1048576 ∧ b[i].B.size ≤ 1048576) → SmK (b.take (i + 1)) := fun q => by
          rw [List.take_succ_eq_append_getElem hlt]
          intro z hz
          rcases List.mem_append.1 hz with h' | h'
          · exact hS.out z h'
          · rw [List.mem_singleton.1 h']; exact q
        obtain ⟨z, hz⟩ := hid_ex (b[i])
        rw [hz.out] at rg0 hsz hS2
        obtain ⟨N, F, B, C, U⟩ := z
        obtain ⟨hN, hB⟩ := hsz
        dsimp only at hN hB hS2
        have HS2 : Hid ((N.size ≤ 1048576 ∧ B.size ≤ 1048576) → SmK (b.take (i + 1))) := hS2
        have rg : Hid (wr.rangeAt bk (off + i * 5) [.string N, .int .i64 F, .string B, .int .i64 C, .int .i64 U]) := rg0
        clear rg0 hS2
        go_wp2_with (first | (refine wpList_load_r rfl 168 _ rfl bk (off + i * 5) [.string N, .int .i64 F, .string B, .int .i64 C, .int .i64 U] rfl _ Tryz.underlying168 rfl sizeLi rg.out ?_) | (go_at_call 133; refine (szItem_any N B F C U hN hB l hl1 hl0 _).mono ?_; rintro e w2 ⟨q, rfl, hB2, hq1, hq2⟩; by_cases hneg : q < 0) | (fail))
        · go_ret
          exact ⟨-1, rfl, hBr.trans (hB2.mono hsr), fun _ => by omega, by omega⟩
        · go_roundw
          case rel => exact ⟨q, i + 1, by omega, by go_num, rfl, by omega, hq1, HS2.out (hq2 (by omega)), hBr.trans (hB2.mono hsr)⟩
          case measure => simp [intOf]; omega
      · have hlt' : ¬ (i : Int) < (b.length : Int) := by omega
        have hS3 : Hid (SmK b) := by
          have := hS.out
          rw [List.take_of_length_le (by omega)] at this
          exact this
        clear hS
        go_wp2
        go_ret
        exact ⟨_, rfl, hBr, fun _ => ⟨by omega, hS3.out⟩, hl1⟩

theorem szItems_any (b : List It) (v : Value) (L : Int) (hL : L ≤ 1048576) (hL0 : 0 ≤ L) (w : World) (r : Rd encLi w v b) (hs : Lo b) :
    Calls Tryz.prog 87 #[v, .int .i64 L] w fun e w' => ∃ q : Int, e = .returned (.int .i64 q) ∧ Below w.heap.size w w' ∧ (0 ≤ q → b.length ≤ 1048576 ∧ SmK b) :=
  (szItems_le b v L hL hL0 w r hs).mono fun e w' ⟨q, h1, h2, h3, _⟩ => ⟨q, h1, h2, h3⟩
set_option maxHeartbeats 1000000 in
theorem toItems_any (b : List It) (v : Value) (w : World) (r : Rd encLi w v b) (hlen : b.length ≤ 1048576) :
    Calls Tryz.prog 92 #[v] w fun e w' => ∃ v', e = .returned v' ∧ Own encIt w' w.heap.size w'.heap.size v' b ∧ Below w.heap.size w w' := by
  obtain ⟨a, cap, rfl⟩ := r.form
  have R : Hid (Rd encLi w (.slice a b.length cap) b) := r
  clear r
  go_enter Tryz.func92, Tryz.ntmps92
  go_wp2_with (first | (refine wpList_make_p infoIt rfl _ _ 54 rfl Tryz.underlying54 b.length hlen rfl rfl ?_; intro g w1 hg hw1 hB1 p1) | (fail))
  go_loopw [4] (fun p wr => ∃ i : Nat, i ≤ b.length ∧ p = .int .i64 i ∧ Hid (Part encIt wr w.heap.size g b.length b.length (b.take i)) ∧ Below w.heap.size w wr) (fun p _ => b.length - (intOf p).toNat)
  case atStart => exact ⟨0, by omega, rfl, p1, hB1⟩
  case round =>
    obtain ⟨i, hi1, rfl, P, hBr⟩ := hrel
    have hpl := P.out.lt
    by_cases hlt : i < b.length
    · obtain ⟨bk, off, rfl, hb, rg0⟩ := rd_item rfl rfl (R.out.grow hBr) i hlt
      have hlt' : (i : Int) < (b.length : Int) := by omega
      have hsr := hBr.size
      have htk : Hid (b.take (i + 1) = b.take i ++ [b[i]]) := List.take_succ_eq_append_getElem hlt
      have hil : Hid ((b.take i).length = i) := by unfold Hid; simp; omega
      obtain ⟨z, hz⟩ := hid_ex (b[i])
      rw [hz.out] at rg0 htk
      obtain ⟨N, F, B, C, U⟩ := z
      have rg : Hid (wr.rangeAt bk (off + i * 5) [.string N, .int .i64 F, .string B, .int .i64 C, .int .i64 U]) := rg0
      clear rg0
      go_wp2_with (first | (refine wpList_load_r rfl 168 _ rfl bk (off + i * 5) [.string N, .int .i64 F, .string B, .int .i64 C, .int .i64 U] rfl _ Tryz.underlying168 rfl sizeLi rg.out ?_) | (go_at_call 137; refine (toItem_any N B F C U _).mono ?_; rintro e w3 ⟨rfl, hB3⟩; have p3 := P.out.keep (hB3.block g hpl.2)) | (refine wpList_store_p (E := encIt) sizeIt rfl _ _ rfl w.heap.size g b.length b.length i (i * 5) (b.take i) ⟨N, F, B, C, U⟩ rfl rfl rfl p3 hil.out hlt ?_; intro w4 hO4 p4) | (fail))
      go_roundw
      case rel =>
        refine ⟨i + 1, by omega, by go_num, ?_, (hBr.trans (hB3.mono hsr)).trans (hO4.2.2 _ (by omega))⟩
        unfold Hid
        rw [htk.out]
        exact p4
      case measure => simp [intOf]; omega
    · have hlt' : ¬ (i : Int) < (b.length : Int) := by omega
      have p2 := P.out
      rw [List.take_of_length_le (by omega)] at p2
      clear P
      go_wp2
      go_ret
      exact ⟨_, rfl, p2.full rfl, hBr⟩

set_option maxHeartbeats 1000000 in
theorem eqItems_any (b : List It) (v v' : Value) (w : World) (r : Rd encIt w v b) (r' : Rd encIt w v' b) :
    Calls Tryz.prog 97 #[v, v'] w fun e w' => e = .returned (.bool true) ∧ Below w.heap.size w w' := by
  have hl := r.len
  obtain ⟨a, cap, rfl⟩ := r.form
  obtain ⟨a', cap', rfl⟩ := r'.form
  have R : Hid (Rd encIt w (.slice a b.length cap) b) := r
  have R' : Hid (Rd encIt w (.slice a' b.length cap') b) := r'
  clear r r'
  have hnn : ((b.length : Int) != (b.length : Int)) = false := by simp
  go_enter Tryz.func97, Tryz.ntmps97
  go_wp2
  go_loopw [5] (fun v' wr => ∃ i : Nat, i ≤ b.length ∧ v' = .int .i64 i ∧ Below w.heap.size w wr) (fun v' _ => b.length - (intOf v').toNat)
  case atStart => exact ⟨0, by omega, rfl, Below.refl _ _⟩
  case round =>
    obtain ⟨i, hi1, rfl, hBr⟩ := hrel
    by_cases hlt : i < b.length
    · obtain ⟨bk, off, rfl, hb, rg0⟩ := rd_item rfl rfl (R.out.grow hBr) i hlt
      obtain ⟨bk', off', rfl, hb', rg1⟩ := rd_item rfl rfl (R'.out.grow hBr) i hlt
      obtain ⟨z, hz⟩ := hid_ex (b[i])
      rw [hz.out] at rg0 rg1
      obtain ⟨N, F, B, C, U⟩ := z
      have hlt' : (i : Int) < b.length := by omega
      have hsr := hBr.size
      have rg : Hid (wr.rangeAt bk (off + i * 5) [.string N, .int .i64 F, .string B, .int .i64 C, .int .i64 U]) := rg0
      have rg' : Hid (wr.rangeAt bk' (off' + i * 5) [.string N, .int .i64 F, .string B, .int .i64 C, .int .i64 U]) := rg1
      clear rg0 rg1
      go_upto_region 6 with (fail)
      have hS0 : (wr.drew.cell? ⟨bk, off + i * 5, none⟩ = some (.string N) ∧ wr.drew.cell? ⟨bk, off + i * 5 + 1, none⟩ = some (.int .i64 F) ∧ wr.drew.cell? ⟨bk, off + i * 5 + 2, none⟩ = some (.string B) ∧ wr.drew.cell? ⟨bk, off + i * 5 + 3, none⟩ = some (.int .i64 C) ∧ wr.drew.cell? ⟨bk, off + i * 5 + 4, none⟩ = some (.int .i64 U)) ∧ (wr.drew.cell? ⟨bk', off' + i * 5, none⟩ = some (.string N) ∧ wr.drew.cell? ⟨bk', off' + i * 5 + 1, none⟩ = some (.int .i64 F) ∧ wr.drew.cell? ⟨bk', off' + i * 5 + 2, none⟩ = some (.string B) ∧ wr.drew.cell? ⟨bk', off' + i * 5 + 3, none⟩ = some (.int .i64 C) ∧ wr.drew.cell? ⟨bk', off' + i * 5 + 4, none⟩ = some (.int .i64 U)) := ⟨rng5 (w := wr.drew) rg.out, rng5 (w := wr.drew) rg'.out⟩
      go_region_held3 (fun w' => (w'.cell? ⟨bk, off + i * 5, none⟩ = some (.string N) ∧ w'.cell? ⟨bk, off + i * 5 + 1, none⟩ = some (.int .i64 F) ∧ w'.cell? ⟨bk, off + i * 5 + 2, none⟩ = some (.string B) ∧ w'.cell? ⟨bk, off + i * 5 + 3, none⟩ = some (.int .i64 C) ∧ w'.cell? ⟨bk, off + i * 5 + 4, none⟩ = some (.int .i64 U)) ∧ (w'.cell? ⟨bk', off' + i * 5, none⟩ = some (.string N) ∧ w'.cell? ⟨bk', off' + i * 5 + 1, none⟩ = some (.int .i64 F) ∧ w'.cell? ⟨bk', off' + i * 5 + 2, none⟩ = some (.string B) ∧ w'.cell? ⟨bk', off' + i * 5 + 3, none⟩ = some (.int .i64 C) ∧ w'.cell? ⟨bk', off' + i * 5 + 4, none⟩ = some (.int .i64 U))) (first | assumption | exact hS0) (first | (go_at_call 154; refine (eqItem_any N B F C U _).mono ?_; rintro e w5 ⟨rfl, hB5⟩; have hS5 := And.intro (rng5 (range_of rg.out (hB5.block bk hb))) (rng5 (range_of rg'.out (hB5.block bk' hb')))) | (fail))
      go_wp2
      go_roundw
      case rel => exact ⟨i + 1, by omega, by go_num, hBr.drew.trans (hB5.mono hsr)⟩
      case measure => simp [intOf]; omega
    · go_wp2
      go_ret
      exact ⟨rfl, hBr⟩

theorem cellsStrK : Tryz.prog.cellsOf 9 = 1 := by kernel_rfl
theorem cellsIntK : Tryz.prog.cellsOf 2 = 1 := by kernel_rfl
theorem cellsLi : Tryz.prog.cellsOf 168 = 5 := by kernel_rfl
set_option maxRecDepth 100000 in
theorem ic_of_trod {H : Type} {enc : TypeId × Value → H} {w : World} {n : Nat} {cs : List Value} {x : DataW H × List MemPlace} (h : DataW.trod enc Tryz.prog w 0 (fun _ => true) true n 168 cs = some x) : ∃ i : It, cs = ic i ∧ i.N.size ≤ 9223372036854775807 ∧ i.B.size ≤ 9223372036854775807 := by
  obtain ⟨xs, m, -, -, hl, hxs, hf⟩ := DataW.trod_struct Tryz.underlying168 h
  rw [cellsLi] at hl
  match cs, hl with
  | [v0, v1, v2, v3, v4], _ =>
    match xs, hxs with
    | [y0, y1, y2, y3, y4], _ =>
      have h0 := hf 0 _ rfl
      have h1 := hf 1 _ rfl
      have h2 := hf 2 _ rfl
      have h3 := hf 3 _ rfl
      have h4 := hf 4 _ rfl
      simp [cellsIntK, cellsStrK] at h0 h1 h2 h3 h4
      obtain ⟨s, e0, -, s0⟩ := DataW.trod_string Tryz.underlying9 h0
      obtain ⟨f, e1, -, -⟩ := DataW.trod_int Tryz.underlying2 h1
      obtain ⟨b, e2, -, s2⟩ := DataW.trod_string Tryz.underlying9 h2
      obtain ⟨c, e3, -, -⟩ := DataW.trod_int Tryz.underlying2 h3
      obtain ⟨u, e4, -, -⟩ := DataW.trod_int Tryz.underlying2 h4
      simp at e0 e1 e2 e3 e4
      subst e0 e1 e2 e3 e4
      exact ⟨⟨s, f, b, c, u⟩, rfl, s0, s2⟩
set_option maxRecDepth 100000 in
theorem open_items {H : Type} {enc : TypeId × Value → H} {W : World} {r : Reach} {b0 : Nat} {v : Value} {d : DataW H} {p : List MemPlace} (hw : Value.okWide Tryz.prog W r b0 48 v) (h : DataW.Trod enc Tryz.prog W 0 (fun _ => true) true 48 v d p) :
    ∃ L, Rd encLi W v L ∧ Lo L := by
  obtain ⟨a, len, cap, rfl⟩ := okWide_slice Tryz.underlying48 hw
  obtain ⟨m, hm⟩ := h
  have : Inhabited It := ⟨It.zero⟩
  exact rd_of_trodK encLi (fun i => i.N.size ≤ 9223372036854775807 ∧ i.B.size ≤ 9223372036854775807) (n := m) Tryz.underlying48 cellsLi (fun m cs y hy => ic_of_trod hy) (by simpa [Value.cells] using hm)
set_option maxRecDepth 100000 in
theorem open_item {H : Type} {enc : TypeId × Value → H} {W : World} {r : Reach} {b0 : Nat} {v : Value} {d : DataW H} {p : List MemPlace} (hw : Value.okWide Tryz.prog W r b0 168 v) (h : DataW.Trod enc Tryz.prog W 0 (fun _ => true) true 168 v d p) :
    ∃ (N : ByteArray) (F : Int) (B : ByteArray) (C U : Int), v = .agg #[.string N, .int .i64 F, .string B, .int .i64 C, .int .i64 U] ∧ N.size ≤ 9223372036854775807 ∧ B.size ≤ 9223372036854775807 := by
  obtain ⟨cs, rfl, hsz⟩ := okWide_struct Tryz.underlying168 hw
  obtain ⟨m, hm⟩ := h
  have hm' : DataW.trod enc Tryz.prog W 0 (fun _ => true) true m 168 cs.toList = some (d, p) := by simpa [Value.cells] using hm
  obtain ⟨i, e, h1, h2⟩ := ic_of_trod hm'
  refine ⟨i.N, i.F, i.B, i.C, i.U, ?_, h1, h2⟩
  have e2 : cs = #[.string i.N, .int .i64 i.F, .string i.B, .int .i64 i.C, .int .i64 i.U] := by rw [← Array.toArray_toList (xs := cs), e]; rfl
  rw [e2]
end Go.Proofs.YtaabmkhckbndgaaGreatDoor.rg
/- One cell is stored into a row that the call owns, whatever things lie in it. -/
namespace Go.Proofs.YtaabmkhckbndgaaGreatDoor.rg
open Go.ChangeShapes Go.WideShapes Go.ChangeAt Go.RowKit
open Go.Deep Go.Joins
open Go.Proofs.YtaabmkhckbndgaaGreatDoor.ce Go.Proofs.YtaabmkhckbndgaaGreatDoor.ro
set_option linter.unusedVariables false

section
variable {α : Type} {ops : Array Oper} {rest : List Oper} {o : Oper} {a : Act} {w : World} {Q : Exit → Act → World → Prop}
theorem cells_one {v : Value} (h : v.oneCell' = true) : v.cells = #[v] := by cases v <;> first | rfl | cases h
theorem wpList_store_c (hgd : o.guard = none) (t : TypeId) (x y : Operand) (ho : o.op = .store t x y) (g j : Nat) (u : Value) (hx : a.eval x = .pointer (some ⟨g, j, none⟩)) (hy : a.eval y = u) (h1 : u.oneCell' = true) (hi : (Tryz.prog.info? t).map (·.size) = some 1)
    (old : Value) (hc : w.cell? ⟨g, j, none⟩ = some old) (hf : w.frozen? ⟨g, j, none⟩ = false) (h : wpList Tryz.prog ops Q rest (a.put o.dst undef) (w.setCell ⟨g, j, none⟩ u)) : wpList Tryz.prog ops Q (o :: rest) a w :=
  wpList_plain hgd fun _ hK => by
    unfold Oper.wp execOp
    obtain ⟨i, hi1, hi2⟩ := Option.map_eq_some_iff.1 hi
    simp [ho, hx, hy, Instr.storeAt, Instr.sureAddr, storeVar, sizeOf, typeInfo, hi1, hi2, cells_one h1, storeCells, run_store _ _ _ _ _ h1, hc, hf, Addr.add]
    exact hK _ _ h
/-- a row while it is marked: what lies in it, what was written -/
structure Mkd (E : Enc α) (w0 w : World) (lo hi : Nat) (v : Value) (L : List α) : Prop where
  o : Own E w lo hi v L
  wi : Within lo hi w0 w
  ty : Ty lo E.t w0 w
  lo : lo ≤ w.heap.size
theorem Mkd.grow {E : Enc α} {w0 w w' : World} {lo hi : Nat} {v : Value} {L : List α} (h : Mkd E w0 w lo hi v L) (hb : Below w.heap.size w w') : Mkd E w0 w' lo hi v L :=
  ⟨h.o.grow hb, h.wi.trans (Within.of_below hb (Nat.le_refl _)), h.ty.trans (Ty.of_below hb h.lo), Nat.le_trans h.lo hb.size⟩
theorem wpList_store_f {E : Enc α} (hgd : o.guard = none) (t : TypeId) (x y : Operand) (ho : o.op = .store t x y) {w0 : World} {lo hi g n cap : Nat} {A B : List α} {z : α} (m : Mkd E w0 w lo hi (.slice (some ⟨g, 0, none⟩) n cap) (A ++ z :: B)) (i j : Nat) (hA : A.length = i) (hj : j < E.k) (u : Value) (z' : α) (hz : E.put z' = (E.put z).set j u) (h1 : u.oneCell' = true) (hsz : (Tryz.prog.info? t).map (·.size) = some 1)
    (hx : a.eval x = .pointer (some ⟨g, i * E.k + j, none⟩)) (hy : a.eval y = u) (h : ∀ w', Mkd E w0 w' lo hi (.slice (some ⟨g, 0, none⟩) n cap) (A ++ z' :: B) → wpList Tryz.prog ops Q rest (a.put o.dst undef) w') : wpList Tryz.prog ops Q (o :: rest) a w := by
  subst hA
  have hl : A.length < (A ++ z :: B).length := by simp
  obtain ⟨g', e, hg, hc, hf⟩ := m.o.cell A.length j hl hj
  cases e
  refine wpList_store_c hgd t x y ho g _ u hx hy h1 hsz _ hc hf (h _ ⟨?_, ?_, ?_, ?_⟩)
  · have := m.o.set A.length j hl hj u z' (by rw [hz]; simp)
    simpa using this
  · exact m.wi.setCell (p := ⟨g, _, none⟩) hg.1 hg.2 _
  · exact m.ty.trans (own_ty m.o (by simp; omega) _ _)
  · simpa using m.lo
end
end Go.Proofs.YtaabmkhckbndgaaGreatDoor.rg
/- The laws' marks on lists of Item. -/
namespace Go.Proofs.YtaabmkhckbndgaaGreatDoor.rg
open Go.ChangeShapes Go.WideShapes Go.ChangeAt Go.RowKit
open Go.Deep Go.Joins
open Go.Proofs.YtaabmkhckbndgaaGreatDoor.ce Go.Proofs.YtaabmkhckbndgaaGreatDoor.ro
set_option linter.unusedVariables false

/-- what is marked from m on -/
def mkIt (m : Nat) : It := ⟨mtx (m), (((m + 1 : Nat)) : Int), mtx (m + 2), (((m + 3 : Nat)) : Int), (((m + 4 : Nat)) : Int)⟩
def mksIt (k n : Nat) : List It := (List.range n).map fun i => mkIt (k + 5 * i)
theorem mksIt_len (k n : Nat) : (mksIt k n).length = n := by simp [mksIt]
theorem mksIt_succ (k n : Nat) : mksIt k (n + 1) = mksIt k n ++ [mkIt (k + 5 * n)] := by simp [mksIt, List.range_succ]
theorem mksIt_get (k n i : Nat) (h : i < (mksIt k n).length) : (mksIt k n)[i] = mkIt (k + 5 * i) := by simp [mksIt]
theorem sizeIt_s : (Tryz.prog.info? 9).map (·.size) = some 1 := by kernel_rfl
theorem sizeIt_i : (Tryz.prog.info? 2).map (·.size) = some 1 := by kernel_rfl
theorem rdIt_of {α : Type} {E : Enc α} {w : World} {n cap : Nat} {a : Option Addr} {xs : List α} (r : Rd E w (.slice a n cap) xs) (i : Nat) (hi : i < xs.length) :
    ∃ b off, a = some ⟨b, off, none⟩ ∧ b < w.heap.size ∧ ∀ j v, (E.put xs[i])[j]? = some v → w.cell? ⟨b, off + i * E.k + j, none⟩ = some v := by
  obtain ⟨b, off, e, h1, h2⟩ := r.start (by omega)
  refine ⟨b, off, e, h1, fun j v hv => ?_⟩
  have hj : j < E.k := by have := (List.getElem?_eq_some_iff.1 hv).1; rw [E.len] at this; exact this
  have := E.row_get xs i j hi hj
  rw [hv] at this
  have := h2 _ _ this
  rw [Nat.add_assoc]
  exact this
theorem heldIt_grow {w w' : World} {b off i : Nat} {c0 c1 c2 c3 c4 : Value} (hB : Below w.heap.size w w') (hb : b < w.heap.size) (h : w.cell? ⟨b, off + i * 5, none⟩ = some c0 ∧ w.cell? ⟨b, off + i * 5 + 1, none⟩ = some c1 ∧ w.cell? ⟨b, off + i * 5 + 2, none⟩ = some c2 ∧ w.cell? ⟨b, off + i * 5 + 3, none⟩ = some c3 ∧ w.cell? ⟨b, off + i * 5 + 4, none⟩ = some c4) : w'.cell? ⟨b, off + i * 5, none⟩ = some c0 ∧ w'.cell? ⟨b, off + i * 5 + 1, none⟩ = some c1 ∧ w'.cell? ⟨b, off + i * 5 + 2, none⟩ = some c2 ∧ w'.cell? ⟨b, off + i * 5 + 3, none⟩ = some c3 ∧ w'.cell? ⟨b, off + i * 5 + 4, none⟩ = some c4 := by
  have g : ∀ p v, w.cell? ⟨b, p, none⟩ = some v → w'.cell? ⟨b, p, none⟩ = some v := fun p v hv => (World.cell?_of_block (w := w) (w' := w') (a := ⟨b, p, none⟩) (hB.block b hb)).trans hv
  obtain ⟨h0, h1, h2, h3, h4⟩ := h
  exact ⟨g _ _ h0, g _ _ h1, g _ _ h2, g _ _ h3, g _ _ h4⟩
set_option maxRecDepth 10000 in
set_option maxHeartbeats 4000000 in
theorem markIts_any (xs : List It) (v : Value) (lo hi : Nat) (k : Nat) (hk : 1 ≤ k) (hk2 : k + 5 * xs.length ≤ 16000000) (mm : Nat) (hmm : mm = k + 5 * xs.length) (w : World) (own : Own encIt w lo hi v xs) (hlo : lo ≤ w.heap.size) :
    Calls Tryz.prog 98 #[v, .int .i64 k] w fun e w' => e = .returned (.int .i64 mm) ∧ Own encIt w' lo hi v (mksIt k xs.length) ∧ Within lo hi w w' ∧ Ty lo encIt.t w w' := by
  obtain ⟨a, cap, rfl⟩ := own.rd.form
  have O0 : Hid (Mkd encIt w w lo hi (.slice a xs.length cap) xs) := ⟨own, Within.refl _ _ _, Ty.refl _ _ _, hlo⟩
  have HMM : Hid (mm = k + 5 * xs.length) := hmm
  clear own hmm
  go_enter Tryz.func98, Tryz.ntmps98
  go_wp2
  go_loopw [1, 5] (fun q v' wr => ∃ i m : Nat, i ≤ xs.length ∧ v' = .int .i64 i ∧ q = .int .i64 m ∧ Hid (m = k + 5 * i) ∧ Hid (Mkd encIt w wr lo hi (.slice a xs.length cap) (mksIt k i ++ xs.drop i))) (fun _ v' _ => xs.length - (intOf v').toNat)
  case atStart => exact ⟨0, k, by omega, rfl, rfl, rfl, by unfold Hid; simpa [mksIt] using O0.out⟩
  case round =>
    obtain ⟨i, m, hi1, rfl, rfl, hm, O⟩ := hrel
    by_cases hlt : i < xs.length
    · have hlt' : (i : Int) < (xs.length : Int) := by omega
      have hm1 : 1 ≤ m ∧ m ≤ 16000000 := by have := hm.out; omega
      have hAl : (mksIt k i).length = i := mksIt_len k i
      have MM := O.out
      rw [List.drop_eq_getElem_cons hlt] at MM
      obtain ⟨g, c2, e1, -, -⟩ := MM.o.form (by rw [List.length_append, List.length_cons]; omega)
      have hag : a = some ⟨g, 0, none⟩ := by injection e1
      subst hag
      obtain ⟨x, hx⟩ := hid_ex xs[i]
      rw [hx.out] at MM
      obtain ⟨x0, x1, x2, x3, x4⟩ := x
      clear O e1 hx
      obtain ⟨m1, hm1⟩ := hid_ex (m + 1)
      have e1 : IntKind.i64.wrap ((m : Int) + 1) = (m1 : Int) := by have := hm1.out; rw [IntKind.wrap_i64]; omega
      have g1 : 1 ≤ m1 ∧ m1 ≤ 16000100 := by have := hm1.out; omega
      obtain ⟨z0, hz0⟩ := hid_ex (mtx m)
      obtain ⟨m2, hm2⟩ := hid_ex (m + 2)
      have e2 : IntKind.i64.wrap ((m1 : Int) + 1) = (m2 : Int) := by have := hm2.out; have := hm1.out; rw [IntKind.wrap_i64]; omega
      have g2 : 1 ≤ m2 ∧ m2 ≤ 16000100 := by have := hm2.out; omega
      obtain ⟨m3, hm3⟩ := hid_ex (m + 3)
      have e3 : IntKind.i64.wrap ((m2 : Int) + 1) = (m3 : Int) := by have := hm3.out; have := hm2.out; rw [IntKind.wrap_i64]; omega
      have g3 : 1 ≤ m3 ∧ m3 ≤ 16000100 := by have := hm3.out; omega
      obtain ⟨z2, hz2⟩ := hid_ex (mtx m2)
      obtain ⟨m4, hm4⟩ := hid_ex (m + 4)
      have e4 : IntKind.i64.wrap ((m3 : Int) + 1) = (m4 : Int) := by have := hm4.out; have := hm3.out; rw [IntKind.wrap_i64]; omega
      have g4 : 1 ≤ m4 ∧ m4 ≤ 16000100 := by have := hm4.out; omega
      have e5 : IntKind.i64.wrap ((m4 : Int) + 1) = ((m + 5 : Nat) : Int) := by have := hm4.out; rw [IntKind.wrap_i64]; omega
      have HMK : Hid (((⟨z0, (m1 : Int), z2, (m3 : Int), (m4 : Int)⟩) : It) = mkIt m) := by
        unfold Hid mkIt
        have q1 := hm1.out; have q2 := hm2.out; have q3 := hm3.out; have q4 := hm4.out; have p0 := hz0.out; have p2 := hz2.out
        subst q1 q2 q3 q4
        subst p0 p2
        rfl
      replace MM : Hid (Mkd encIt w wr lo hi (.slice (some ⟨g, 0, none⟩) xs.length cap) (mksIt k i ++ ⟨x0, x1, x2, x3, x4⟩ :: xs.drop (i + 1))) := MM
      have HMI : Hid (m = k + 5 * i) := hm
      have tk0 : Hid True := trivial
      have sk0 : Hid True := trivial
      have sk1 : Hid True := trivial
      have tk2 : Hid True := trivial
      have sk2 : Hid True := trivial
      have sk3 : Hid True := trivial
      have sk4 : Hid True := trivial
      replace MM := MM.out
      go_wp2_with (first | (clear tk0; go_at_call 155; refine (markText_any m (by omega) (by omega) _).mono ?_; rintro e u0 ⟨rfl, hBu0⟩; rw [hz0.out]; replace MM := MM.grow hBu0; clear hBu0) | (clear sk0; refine wpList_store_f (E := encIt) (A := mksIt k i) (B := xs.drop (i + 1)) (z := ⟨x0, x1, x2, x3, x4⟩) rfl 9 _ _ rfl MM i 0 hAl (show 0 < 5 by decide) (.string z0) ⟨z0, x1, x2, x3, x4⟩ rfl rfl sizeIt_s rfl rfl ?_; clear MM; intro w0 MM) | (clear sk1; refine wpList_store_f (E := encIt) (A := mksIt k i) (B := xs.drop (i + 1)) (z := ⟨z0, x1, x2, x3, x4⟩) rfl 2 _ _ rfl MM i 1 hAl (show 1 < 5 by decide) (.int .i64 (m1 : Int)) ⟨z0, (m1 : Int), x2, x3, x4⟩ rfl rfl sizeIt_i rfl rfl ?_; clear MM; intro w1 MM) | (clear tk2; go_at_call 155; refine (markText_any m2 (by omega) (by omega) _).mono ?_; rintro e u2 ⟨rfl, hBu2⟩; rw [hz2.out]; replace MM := MM.grow hBu2; clear hBu2) | (clear sk2; refine wpList_store_f (E := encIt) (A := mksIt k i) (B := xs.drop (i + 1)) (z := ⟨z0, (m1 : Int), x2, x3, x4⟩) rfl 9 _ _ rfl MM i 2 hAl (show 2 < 5 by decide) (.string z2) ⟨z0, (m1 : Int), z2, x3, x4⟩ rfl rfl sizeIt_s rfl rfl ?_; clear MM; intro w2 MM) | (clear sk3; refine wpList_store_f (E := encIt) (A := mksIt k i) (B := xs.drop (i + 1)) (z := ⟨z0, (m1 : Int), z2, x3, x4⟩) rfl 2 _ _ rfl MM i 3 hAl (show 3 < 5 by decide) (.int .i64 (m3 : Int)) ⟨z0, (m1 : Int), z2, (m3 : Int), x4⟩ rfl rfl sizeIt_i rfl rfl ?_; clear MM; intro w3 MM) | (clear sk4; refine wpList_store_f (E := encIt) (A := mksIt k i) (B := xs.drop (i + 1)) (z := ⟨z0, (m1 : Int), z2, (m3 : Int), x4⟩) rfl 2 _ _ rfl MM i 4 hAl (show 4 < 5 by decide) (.int .i64 (m4 : Int)) ⟨z0, (m1 : Int), z2, (m3 : Int), (m4 : Int)⟩ rfl rfl sizeIt_i rfl rfl ?_; clear MM; intro w4 MM) | (fail))
      go_roundw
      case rel =>
        rw [HMK.out, HMI.out] at MM
        refine ⟨i + 1, m + 5, by omega, by go_num, by go_num, by have := HMI.out; unfold Hid; omega, ?_⟩
        unfold Hid
        rw [mksIt_succ, List.append_assoc]
        exact MM
      case measure => simp [intOf]; omega
    · have hlt' : ¬ (i : Int) < (xs.length : Int) := by omega
      have o2 := O.out
      rw [show i = xs.length by omega, List.drop_length, List.append_nil] at o2
      have hm3 : m = mm := by have h1 := hm.out; have h2 := HMM.out; have hix : i = xs.length := (by omega); rw [hix] at h1; omega
      subst hm3
      clear O
      go_wp2
      go_ret
      exact ⟨rfl, o2.o, o2.wi, o2.ty⟩

set_option maxRecDepth 10000 in
set_option maxHeartbeats 4000000 in
theorem heldIts_any (n : Nat) (v : Value) (k : Nat) (hk : 1 ≤ k) (hk2 : k + 5 * n ≤ 16000000) (mm : Nat) (hmm : mm = k + 5 * n) (w : World) (r : Rd encIt w v (mksIt k n)) :
    Calls Tryz.prog 99 #[v, .int .i64 k] w fun e w' => e = .returned (.int .i64 mm) ∧ Below w.heap.size w w' := by
  obtain ⟨a, cap, rfl⟩ := r.form
  rw [mksIt_len] at r ⊢
  have R : Hid (Rd encIt w (.slice a n cap) (mksIt k n)) := r
  have HMM : Hid (mm = k + 5 * n) := hmm
  clear r hmm
  go_enter Tryz.func99, Tryz.ntmps99
  go_wp2
  go_loopw [1, 5] (fun q v' wr => ∃ i m : Nat, i ≤ n ∧ v' = .int .i64 i ∧ q = .int .i64 m ∧ Hid (m = k + 5 * i) ∧ Below w.heap.size w wr) (fun _ v' _ => n - (intOf v').toNat)
  case atStart => exact ⟨0, k, by omega, rfl, rfl, rfl, Below.refl _ _⟩
  case round =>
    obtain ⟨i, m, hi1, rfl, rfl, hm, hB⟩ := hrel
    by_cases hlt : i < n
    · have hil : i < (mksIt k n).length := by rw [mksIt_len]; exact hlt
      have hlt' : (i : Int) < (n : Int) := by omega
      have hm1 : 1 ≤ m ∧ m ≤ 16000000 := by have := hm.out; omega
      obtain ⟨b, off, e1, hb, hr⟩ := rdIt_of (R.out.grow hB) i hil
      subst e1
      rw [mksIt_get, ← hm.out] at hr
      obtain ⟨m1, hm1⟩ := hid_ex (m + 1)
      have e1 : IntKind.i64.wrap ((m : Int) + 1) = (m1 : Int) := by have := hm1.out; rw [IntKind.wrap_i64]; omega
      have g1 : 1 ≤ m1 ∧ m1 ≤ 16000100 := by have := hm1.out; omega
      obtain ⟨z0, hz0⟩ := hid_ex (mtx m)
      obtain ⟨m2, hm2⟩ := hid_ex (m + 2)
      have e2 : IntKind.i64.wrap ((m1 : Int) + 1) = (m2 : Int) := by have := hm2.out; have := hm1.out; rw [IntKind.wrap_i64]; omega
      have g2 : 1 ≤ m2 ∧ m2 ≤ 16000100 := by have := hm2.out; omega
      obtain ⟨m3, hm3⟩ := hid_ex (m + 3)
      have e3 : IntKind.i64.wrap ((m2 : Int) + 1) = (m3 : Int) := by have := hm3.out; have := hm2.out; rw [IntKind.wrap_i64]; omega
      have g3 : 1 ≤ m3 ∧ m3 ≤ 16000100 := by have := hm3.out; omega
      obtain ⟨z2, hz2⟩ := hid_ex (mtx m2)
      obtain ⟨m4, hm4⟩ := hid_ex (m + 4)
      have e4 : IntKind.i64.wrap ((m3 : Int) + 1) = (m4 : Int) := by have := hm4.out; have := hm3.out; rw [IntKind.wrap_i64]; omega
      have g4 : 1 ≤ m4 ∧ m4 ≤ 16000100 := by have := hm4.out; omega
      have e5 : IntKind.i64.wrap ((m4 : Int) + 1) = ((m + 5 : Nat) : Int) := by have := hm4.out; rw [IntKind.wrap_i64]; omega
      have HMK : Hid (((⟨z0, (m1 : Int), z2, (m3 : Int), (m4 : Int)⟩) : It) = mkIt m) := by
        unfold Hid mkIt
        have q1 := hm1.out; have q2 := hm2.out; have q3 := hm3.out; have q4 := hm4.out; have p0 := hz0.out; have p2 := hz2.out
        subst q1 q2 q3 q4
        subst p0 p2
        rfl
      rw [← HMK.out] at hr
      have SS : Hid (wr.cell? ⟨b, off + i * 5, none⟩ = some (.string z0) ∧ wr.cell? ⟨b, off + i * 5 + 1, none⟩ = some (.int .i64 (m1 : Int)) ∧ wr.cell? ⟨b, off + i * 5 + 2, none⟩ = some (.string z2) ∧ wr.cell? ⟨b, off + i * 5 + 3, none⟩ = some (.int .i64 (m3 : Int)) ∧ wr.cell? ⟨b, off + i * 5 + 4, none⟩ = some (.int .i64 (m4 : Int))) := ⟨hr 0 _ rfl, hr 1 _ rfl, hr 2 _ rfl, hr 3 _ rfl, hr 4 _ rfl⟩
      clear hr HMK
      obtain ⟨d0, d1, d2, d3, d4⟩ := SS.out
      have hze0 : (z0.toList == z0.toList) = true := by simp
      have hze2 : (z2.toList == z2.toList) = true := by simp
      have S1 : wr.drew.cell? ⟨b, off + i * 5, none⟩ = some (.string z0) ∧ wr.drew.cell? ⟨b, off + i * 5 + 1, none⟩ = some (.int .i64 (m1 : Int)) ∧ wr.drew.cell? ⟨b, off + i * 5 + 2, none⟩ = some (.string z2) ∧ wr.drew.cell? ⟨b, off + i * 5 + 3, none⟩ = some (.int .i64 (m3 : Int)) ∧ wr.drew.cell? ⟨b, off + i * 5 + 4, none⟩ = some (.int .i64 (m4 : Int)) := SS.out
      go_wp2
      go_region_held3 (fun w' => w'.cell? ⟨b, off + i * 5, none⟩ = some (.string z0) ∧ w'.cell? ⟨b, off + i * 5 + 1, none⟩ = some (.int .i64 (m1 : Int)) ∧ w'.cell? ⟨b, off + i * 5 + 2, none⟩ = some (.string z2) ∧ w'.cell? ⟨b, off + i * 5 + 3, none⟩ = some (.int .i64 (m3 : Int)) ∧ w'.cell? ⟨b, off + i * 5 + 4, none⟩ = some (.int .i64 (m4 : Int))) (first | with_reducible assumption | with_reducible exact S1 | (fail)) (first | (go_at_call 155; refine (markText_any m (by omega) (by omega) wr.drew).mono ?_; rintro e w1 ⟨rfl, hB1⟩; rw [hz0.out]; have T1 : w1.cell? ⟨b, off + i * 5, none⟩ = some (.string z0) ∧ w1.cell? ⟨b, off + i * 5 + 1, none⟩ = some (.int .i64 (m1 : Int)) ∧ w1.cell? ⟨b, off + i * 5 + 2, none⟩ = some (.string z2) ∧ w1.cell? ⟨b, off + i * 5 + 3, none⟩ = some (.int .i64 (m3 : Int)) ∧ w1.cell? ⟨b, off + i * 5 + 4, none⟩ = some (.int .i64 (m4 : Int)) := heldIt_grow hB1 hb S1) | (fail))
      replace hB := hB.drew.trans (hB1.mono hB.size)
      replace hb := Nat.lt_of_lt_of_le hb hB1.size
      clear SS
      have SS : Hid (w1.cell? ⟨b, off + i * 5, none⟩ = some (.string z0) ∧ w1.cell? ⟨b, off + i * 5 + 1, none⟩ = some (.int .i64 (m1 : Int)) ∧ w1.cell? ⟨b, off + i * 5 + 2, none⟩ = some (.string z2) ∧ w1.cell? ⟨b, off + i * 5 + 3, none⟩ = some (.int .i64 (m3 : Int)) ∧ w1.cell? ⟨b, off + i * 5 + 4, none⟩ = some (.int .i64 (m4 : Int))) := T1
      clear S1 T1 hB1 d0 d1 d2 d3 d4
      obtain ⟨d0, d1, d2, d3, d4⟩ := SS.out
      have S2 : w1.drew.cell? ⟨b, off + i * 5, none⟩ = some (.string z0) ∧ w1.drew.cell? ⟨b, off + i * 5 + 1, none⟩ = some (.int .i64 (m1 : Int)) ∧ w1.drew.cell? ⟨b, off + i * 5 + 2, none⟩ = some (.string z2) ∧ w1.drew.cell? ⟨b, off + i * 5 + 3, none⟩ = some (.int .i64 (m3 : Int)) ∧ w1.drew.cell? ⟨b, off + i * 5 + 4, none⟩ = some (.int .i64 (m4 : Int)) := SS.out
      go_wp2
      go_region_held3 (fun w' => w'.cell? ⟨b, off + i * 5, none⟩ = some (.string z0) ∧ w'.cell? ⟨b, off + i * 5 + 1, none⟩ = some (.int .i64 (m1 : Int)) ∧ w'.cell? ⟨b, off + i * 5 + 2, none⟩ = some (.string z2) ∧ w'.cell? ⟨b, off + i * 5 + 3, none⟩ = some (.int .i64 (m3 : Int)) ∧ w'.cell? ⟨b, off + i * 5 + 4, none⟩ = some (.int .i64 (m4 : Int))) (first | with_reducible assumption | with_reducible exact S2 | (fail)) (first | (go_at_call 155; refine (markText_any m2 (by omega) (by omega) w1.drew).mono ?_; rintro e w2 ⟨rfl, hB2⟩; rw [hz2.out]; have T2 : w2.cell? ⟨b, off + i * 5, none⟩ = some (.string z0) ∧ w2.cell? ⟨b, off + i * 5 + 1, none⟩ = some (.int .i64 (m1 : Int)) ∧ w2.cell? ⟨b, off + i * 5 + 2, none⟩ = some (.string z2) ∧ w2.cell? ⟨b, off + i * 5 + 3, none⟩ = some (.int .i64 (m3 : Int)) ∧ w2.cell? ⟨b, off + i * 5 + 4, none⟩ = some (.int .i64 (m4 : Int)) := heldIt_grow hB2 hb S2) | (fail))
      replace hB := hB.drew.trans (hB2.mono hB.size)
      replace hb := Nat.lt_of_lt_of_le hb hB2.size
      clear SS
      have SS : Hid (w2.cell? ⟨b, off + i * 5, none⟩ = some (.string z0) ∧ w2.cell? ⟨b, off + i * 5 + 1, none⟩ = some (.int .i64 (m1 : Int)) ∧ w2.cell? ⟨b, off + i * 5 + 2, none⟩ = some (.string z2) ∧ w2.cell? ⟨b, off + i * 5 + 3, none⟩ = some (.int .i64 (m3 : Int)) ∧ w2.cell? ⟨b, off + i * 5 + 4, none⟩ = some (.int .i64 (m4 : Int))) := T2
      clear S2 T2 hB2 d0 d1 d2 d3 d4
      obtain ⟨d0, d1, d2, d3, d4⟩ := SS.out
      go_wp2
      go_roundw
      case rel => exact ⟨i + 1, m + 5, by omega, by go_num, by go_num, by have := hm.out; unfold Hid; omega, hB⟩
      case measure => simp [intOf]; omega
    · have hlt' : ¬ (i : Int) < (n : Int) := by omega
      have hm3 : m = mm := by have h1 := hm.out; have h2 := HMM.out; have hix : i = n := (by omega); rw [hix] at h1; omega
      subst hm3
      go_wp2
      go_ret
      exact ⟨rfl, hB⟩
end Go.Proofs.YtaabmkhckbndgaaGreatDoor.rg
/- The laws' helpers on a book; a book among the arguments. -/
namespace Go.Proofs.YtaabmkhckbndgaaGreatDoor.rg
open Go.ChangeShapes Go.WideShapes Go.ChangeAt Go.RowKit
open Go.Deep Go.Joins
open Go.Proofs.YtaabmkhckbndgaaGreatDoor.ce Go.Proofs.YtaabmkhckbndgaaGreatDoor.ro
set_option linter.unusedVariables false

theorem szI1 : (Tryz.prog.info? 2).map (·.size) = some 1 := by kernel_rfl
theorem szL1 : (Tryz.prog.info? 54).map (·.size) = some 1 := by kernel_rfl
theorem wpList_store_cell {ops : Array Oper} {rest : List Oper} {o : Oper} {a : Act} {w : World} {Q : Exit → Act → World → Prop} (hgd : o.guard = none) (t : TypeId) (x y : Operand) (ho : o.op = .store t x y) (b j : Nat) (u : Value) (hx : a.eval x = .pointer (some ⟨b, j, none⟩)) (hy : a.eval y = u) (h1 : u.oneCell' = true) (hi : (Tryz.prog.info? t).map (·.size) = some 1)
    {T : TypeId} {vs : List Value} (V : VBlk w b T vs) (hj : j < vs.length) (h : ∀ w', Only b w w' → VBlk w' b T (vs.set j u) → wpList Tryz.prog ops Q rest (a.put o.dst undef) w') : wpList Tryz.prog ops Q (o :: rest) a w :=
  wpList_store_c hgd t x y ho b j u hx hy h1 hi _ (V.cell j hj) (V.frozen j) (h _ (only_set _ _ _ _) (V.set j u))
theorem szBook_le (I : List It) (X : Int) (v : Value) (L : Int) (hL : L ≤ 1048576) (hL0 : 0 ≤ L) (w : World) (r : Rd encLi w v I) (hs : Lo I) :
    Calls Tryz.prog 32 #[.agg #[v, .int .i64 X], .int .i64 L] w fun e w' => ∃ q : Int, e = .returned (.int .i64 q) ∧ Below w.heap.size w w' ∧ (0 ≤ q → I.length ≤ 1048576 ∧ SmK I) ∧ q ≤ 1048576 := by
  obtain ⟨a, cap, rfl⟩ := r.form
  have R : Hid (Rd encLi w (.slice a I.length cap) I) := r
  have HS : Hid (Lo I) := hs
  clear r hs
  go_enter Tryz.func32, Tryz.ntmps32
  go_wp2_with (first | (refine wpList_box_v rfl 50 _ rfl [.slice a I.length cap, .int .i64 X] rfl ?_; intro b1 w1 hb1 hw1 hB1 V1; obtain ⟨c0, c1⟩ := cells2 V1; have hz1 := hB1.size) | (go_at_call 87; refine (szItems_le I _ L hL hL0 _ (R.out.grow hB1) HS.out).mono ?_; rintro e w2 ⟨q, rfl, hB2, hq, hq1⟩; have HQ : Hid (0 ≤ q → I.length ≤ 1048576 ∧ SmK I) := hq; clear hq; by_cases hneg : q < 0) | (fail))
  · go_ret
    exact ⟨-1, rfl, hB1.trans (hB2.mono hz1), fun h => by omega, by omega⟩
  · go_ret
    exact ⟨q, rfl, hB1.trans (hB2.mono hz1), HQ.out, hq1⟩
theorem szBook_any (I : List It) (X : Int) (v : Value) (L : Int) (hL : L ≤ 1048576) (hL0 : 0 ≤ L) (w : World) (r : Rd encLi w v I) (hs : Lo I) :
    Calls Tryz.prog 32 #[.agg #[v, .int .i64 X], .int .i64 L] w fun e w' => ∃ q : Int, e = .returned (.int .i64 q) ∧ Below w.heap.size w w' ∧ (0 ≤ q → I.length ≤ 1048576 ∧ SmK I) :=
  (szBook_le I X v L hL hL0 w r hs).mono fun e w' ⟨q, h1, h2, h3, _⟩ => ⟨q, h1, h2, h3⟩
set_option maxHeartbeats 1000000 in
theorem toBook_any (I : List It) (X : Int) (v : Value) (w : World) (r : Rd encLi w v I) (hl : I.length ≤ 1048576) :
    Calls Tryz.prog 35 #[.agg #[v, .int .i64 X]] w fun e w' => ∃ v', e = .returned (.agg #[v', .int .i64 X]) ∧ Own encIt w' w.heap.size w'.heap.size v' I ∧ Below w.heap.size w w' := by
  obtain ⟨a, cap, rfl⟩ := r.form
  have R : Hid (Rd encLi w (.slice a I.length cap) I) := r
  clear r
  have k1 : Hid True := trivial
  have k2 : Hid True := trivial
  have k3 : Hid True := trivial
  go_enter Tryz.func35, Tryz.ntmps35
  go_wp2_with (first | (refine wpList_box_v rfl 50 _ rfl [.slice a I.length cap, .int .i64 X] rfl ?_; intro b1 w1 hb1 hw1 hB1 V1; have hz1 := hB1.size) | (clear k1; refine wpList_alloc_v rfl 56 rfl _ zeroBk ?_; intro b2 w2 hb2 hw2 hB2 V2; have hz2 := hB2.size; have V1b := vblk_grow V1 hB2) | (clear k2; refine wpList_alloc_v rfl 56 rfl _ zeroBk ?_; intro b3 w3 hb3 hw3 hB3 V3; have hz3 := hB3.size; have V1c := vblk_grow V1b hB3; have V2c := vblk_grow V2 hB3; have hB13 : Below w.heap.size w w3 := (hB1.trans (hB2.mono hz1)).trans (hB3.mono (by omega)); obtain ⟨c0, c1⟩ := cells2 V1c) | (go_at_call 92; refine (toItems_any I _ _ (R.out.grow hB13) hl).mono ?_; rintro e w4 ⟨v4, rfl, o4, hB4⟩; obtain ⟨a4, n4, c4, rfl⟩ := o4.slice; have V1d := vblk_grow V1c hB4; have V2d := vblk_grow V2c hB4; have V3d := vblk_grow V3 hB4; have hz4 := hB4.size) | (clear k3; refine wpList_store_cell rfl 54 _ _ rfl b3 0 (.slice a4 n4 c4) rfl rfl rfl szL1 V3d (by simp) ?_; intro w5 hO5 V5; have V1e := vblk_only V1d hO5 (by have := V1b.lt; omega); have V2e := vblk_only V2d hO5 (by have := V2.lt; omega); have o5 := o4.only hO5 V3d (by decide); obtain ⟨d0, d1⟩ := cells2 V1e) | (refine wpList_store_cell rfl 2 _ _ rfl b3 1 (.int .i64 X) rfl rfl rfl szI1 V5 (by simp) ?_; intro w6 hO6 V6; have V2f := vblk_only V2e hO6 (by have := V2.lt; omega); have o6 := o5.only hO6 V5 (by decide)) | (refine wpList_load_r rfl 56 _ rfl b3 0 [.slice a4 n4 c4, .int .i64 X] rfl _ Tryz.underlying56 rfl sizeBk V6.range ?_) | (refine wpList_store_v rfl 56 _ _ rfl b2 [.slice a4 n4 c4, .int .i64 X] rfl rfl sizeBk V2f rfl (oneBk _ _ _ _) ?_; intro w7 hO7 V7) | (fail))
  exact row_retv rfl rfl V7 Tryz.underlying56 sizeBk rfl ⟨_, rfl, ((o6.only hO7 V2f (by decide)).wide (by have := hB13.size; omega) (Nat.le_refl _)).top, (((hB13.trans (hB4.mono hB13.size)).trans (hO5.2.2 _ (by omega))).trans (hO6.2.2 _ (by omega))).trans (hO7.2.2 _ (by omega))⟩
theorem eqBook_any (I : List It) (X : Int) (v v' : Value) (w : World) (r : Rd encIt w v I) (r' : Rd encIt w v' I) :
    Calls Tryz.prog 38 #[.agg #[v, .int .i64 X], .agg #[v', .int .i64 X]] w fun e w' => e = .returned (.bool true) ∧ Below w.heap.size w w' := by
  obtain ⟨a, cap, rfl⟩ := r.form
  obtain ⟨a', cap', rfl⟩ := r'.form
  have R : Hid (Rd encIt w (.slice a I.length cap) I) := r
  have R' : Hid (Rd encIt w (.slice a' I.length cap') I) := r'
  clear r r'
  have hxx : (X != X) = false := by simp
  have k1 : Hid True := trivial
  go_enter Tryz.func38, Tryz.ntmps38
  go_wp2_with (first | (clear k1; refine wpList_box_v rfl 56 _ rfl [.slice a I.length cap, .int .i64 X] rfl ?_; intro b1 w1 hb1 hw1 hB1 V1; have hz1 := hB1.size) | (refine wpList_box_v rfl 56 _ rfl [.slice a' I.length cap', .int .i64 X] rfl ?_; intro b2 w2 hb2 hw2 hB2 V2; have hz2 := hB2.size; have V1b := vblk_grow V1 hB2; obtain ⟨c0, c1⟩ := cells2 V1b; obtain ⟨d0, d1⟩ := cells2 V2; have hB12 : Below w.heap.size w w2 := hB1.trans (hB2.mono hz1)) | (go_at_call 97; refine (eqItems_any I _ _ _ (R.out.grow hB12) (R'.out.grow hB12)).mono ?_; rintro e w3 ⟨rfl, hB3⟩; obtain ⟨f0, f1⟩ := cells2 (vblk_grow V1b hB3); obtain ⟨g0, g1⟩ := cells2 (vblk_grow V2 hB3)) | (fail))
  go_ret
  exact ⟨rfl, hB12.trans (hB3.mono hB12.size)⟩
theorem markBook_any (I : List It) (X : Int) (v : Value) (lo hi : Nat) (k : Nat) (hk : 1 ≤ k) (hk2 : k + 5 * I.length ≤ 16000000) (mm : Nat) (hmm : mm = k + 5 * I.length) (w : World) (own : Own encIt w lo hi v I) (hlo : lo ≤ w.heap.size) :
    Calls Tryz.prog 40 #[.agg #[v, .int .i64 X], .int .i64 k] w fun e w' => e = .returned (.int .i64 mm) ∧ Own encIt w' lo hi v (mksIt k I.length) ∧ Within lo hi w w' ∧ Ty lo encIt.t w w' := by
  obtain ⟨a, n, cap, rfl⟩ := own.slice
  have O : Hid (Own encIt w lo hi (.slice a n cap) I) := own
  have HM : Hid (mm = k + 5 * I.length) := hmm
  clear own hmm
  go_enter Tryz.func40, Tryz.ntmps40
  go_wp2_with (first | (refine wpList_box_v rfl 56 _ rfl [.slice a n cap, .int .i64 X] rfl ?_; intro b1 w1 hb1 hw1 hB1 V1; obtain ⟨c0, c1⟩ := cells2 V1; have hz1 := hB1.size) | (go_at_call 98; refine (markIts_any I _ lo hi k hk hk2 mm HM.out _ (O.out.grow hB1) (by omega)).mono ?_; rintro e w2 ⟨rfl, o2, hW2, hT2⟩) | (fail))
  go_ret
  exact ⟨rfl, o2, (Within.of_below hB1 (Nat.le_refl _)).trans hW2, (Ty.of_below hB1 hlo).trans hT2⟩
theorem heldBook_any (n : Nat) (X : Int) (v : Value) (k : Nat) (hk : 1 ≤ k) (hk2 : k + 5 * n ≤ 16000000) (mm : Nat) (hmm : mm = k + 5 * n) (w : World) (r : Rd encIt w v (mksIt k n)) :
    Calls Tryz.prog 41 #[.agg #[v, .int .i64 X], .int .i64 k] w fun e w' => e = .returned (.int .i64 mm) ∧ Below w.heap.size w w' := by
  obtain ⟨a, cap, rfl⟩ := r.form
  have R : Hid (Rd encIt w (.slice a (mksIt k n).length cap) (mksIt k n)) := r
  have HM : Hid (mm = k + 5 * n) := hmm
  have hm0 : ¬ (mm : Int) < 0 := by omega
  clear r hmm
  obtain ⟨ln, hln⟩ := hid_ex (mksIt k n).length
  rw [hln.out] at R ⊢
  go_enter Tryz.func41, Tryz.ntmps41
  go_wp2_with (first | (refine wpList_box_v rfl 56 _ rfl [.slice a ln cap, .int .i64 X] rfl ?_; intro b1 w1 hb1 hw1 hB1 V1; obtain ⟨c0, c1⟩ := cells2 V1; have hz1 := hB1.size) | (go_at_call 99; refine (heldIts_any n _ k hk hk2 mm HM.out _ (R.out.grow hB1)).mono ?_; rintro e w2 ⟨rfl, hB2⟩) | (fail))
  go_ret
  exact ⟨rfl, hB1.trans (hB2.mono hz1)⟩
theorem cellsLBk : Tryz.prog.cellsOf 50 = 2 := by kernel_rfl
theorem cellsLis : Tryz.prog.cellsOf 48 = 1 := by kernel_rfl
set_option maxRecDepth 100000 in
theorem open_book {H : Type} {enc : TypeId × Value → H} {W : World} {r : Reach} {b0 : Nat} {v : Value} {d : DataW H} {p : List MemPlace} (hw : Value.okWide Tryz.prog W r b0 50 v) (h : DataW.Trod enc Tryz.prog W 0 (fun _ => true) true 50 v d p) :
    ∃ u I X, v = .agg #[u, .int .i64 X] ∧ Rd encLi W u I ∧ Lo I := by
  obtain ⟨cs, rfl, hsz⟩ := okWide_struct Tryz.underlying50 hw
  obtain ⟨m, hm⟩ := h
  have hm' : DataW.trod enc Tryz.prog W 0 (fun _ => true) true m 50 cs.toList = some (d, p) := by simpa [Value.cells] using hm
  obtain ⟨xs, m', -, -, hl, hxs, hf⟩ := DataW.trod_struct Tryz.underlying50 hm'
  rw [cellsLBk] at hl
  have e : ∃ v0 v1, cs.toList = [v0, v1] := by
    match cs.toList, hl with
    | [v0, v1], _ => exact ⟨v0, v1, rfl⟩
  obtain ⟨v0, v1, e⟩ := e
  rw [e] at hf
  match xs, hxs with
  | [y0, y1], _ =>
    have h0 := hf 0 _ rfl
    have h1 := hf 1 _ rfl
    simp [cellsIntK, cellsLis] at h0 h1
    have : Inhabited It := ⟨It.zero⟩
    obtain ⟨L, rL, sL⟩ := rd_of_trodK encLi (fun i => i.N.size ≤ 9223372036854775807 ∧ i.B.size ≤ 9223372036854775807) Tryz.underlying48 cellsLi (fun m cs y hy => ic_of_trod hy) h0
    obtain ⟨n, e0, -, -⟩ := DataW.trod_int Tryz.underlying2 h1
    simp at e0
    subst e0
    refine ⟨v0, L, n, ?_, rL, sL⟩
    have e2 : cs = #[v0, .int .i64 n] := by rw [← Array.toArray_toList (xs := cs), e]
    rw [e2]
end Go.Proofs.YtaabmkhckbndgaaGreatDoor.rg
/- What the laws of chapter 8 draw, first part: a number as a text; a name, or what is none. -/
namespace Go.Proofs.YtaabmkhckbndgaaGreatDoor.rg
open Go.ChangeShapes Go.WideShapes Go.ChangeAt Go.RowKit
open Go.Proofs.YtaabmkhckbndgaaGreatDoor.ce Go.Proofs.YtaabmkhckbndgaaGreatDoor.ro
set_option linter.unusedVariables false

theorem l1Int_any (n : Nat) (hn : n ≤ 100) (w : World) :
    Calls Tryz.prog 120 #[.int .i64 n] w fun e w' => ∃ s : ByteArray, e = .returned (.string s) ∧ s.size ≤ 1000 ∧ Below w.heap.size w w' := by
  have hn0 : ¬ (n : Int) < 0 := by omega
  go_enter Tryz.func120, Tryz.ntmps120
  go_wp2
  go_loopg [0, 3, 5] (2 * n + 1) (fun k v s d wr => ∃ (q : Nat) (out : ByteArray), v = .int .i64 q ∧ s = .string out ∧ q ≤ 100 ∧ out.size + 2 * q ≤ 300 ∧ (out.toList = [] → 2 * q + 1 ≤ k) ∧ (out.toList ≠ [] → 2 * q ≤ k ∧ out.size ≤ 300) ∧ Below w.heap.size w wr)
  case atStart => exact ⟨n, ⟨#[]⟩, rfl, rfl, hn, by show 0 + 2 * n ≤ 300; omega, fun _ => Nat.le_refl _, fun h => ⟨by omega, by show 0 ≤ 300; omega⟩, Below.refl _ _⟩
  case round =>
    obtain ⟨q, out, rfl, rfl, hq, hsz, hk1, hk2, hB⟩ := hrel
    have HK1 : Hid (out.toList = [] → 2 * q + 1 ≤ gk) := hk1
    have HK2 : Hid (out.toList ≠ [] → 2 * q ≤ gk ∧ out.size ≤ 300) := hk2
    clear hk1 hk2
    obtain ⟨d, hd⟩ := hid_ex (q % 10)
    have hd9 : d ≤ 9 := by have := hd.out; omega
    have hcv := dig_conv d hd9 wr
    have hds : (dig d).size = 1 := rfl
    have hmod : (q : Int) % 10 = (d : Int) := by have := hd.out; omega
    obtain ⟨q2, hq2⟩ := hid_ex (q / 10)
    have hdiv : (q : Int) / 10 = (q2 : Int) := by have := hq2.out; omega
    have hd0 : ¬ (d : Int) < 0 := by omega
    have hout : (dig d ++ out).size = 1 + out.size := by rw [ByteArray.size_append]; rfl
    have hne : Hid ((dig d ++ out).toList ≠ []) := by
      unfold Hid
      intro e
      have h1 : (dig d ++ out).data.toList = [] := by rw [← ByteArray.toList_eq]; exact e
      have h2 : (dig d ++ out).size = 0 := by show (dig d ++ out).data.size = 0; rw [← Array.length_toList, h1]; rfl
      omega
    by_cases he : out.toList = []
    · have hb : (out.toList == []) = true := by rw [he]; rfl
      have hs0 : out.size ≤ 0 := by
        have h1 : out.data.toList = [] := by rw [← ByteArray.toList_eq]; exact he
        show out.data.size ≤ 0
        rw [← Array.length_toList, h1]
        exact Nat.le_refl _
      go_wp2
      go_roundg (2 * q2)
      case measure => have := HK1.out he; have := hq2.out; omega
      case rel => exact ⟨q2, dig d ++ out, rfl, rfl, by have := hq2.out; omega, by have := hq2.out; omega, fun h => absurd h hne.out, fun _ => ⟨Nat.le_refl _, by omega⟩, hB.alloc hB.size _⟩
    · have hb : (out.toList == []) = false := by
        cases hx : out.toList with
        | nil => exact absurd hx he
        | cons x r => rfl
      by_cases hq0 : q = 0
      · have hqb : ((q : Int) != 0) = false := by rw [hq0]; rfl
        have hs3 : out.size ≤ 300 := by omega
        clear hq0 he
        go_wp2
        go_ret
        exact ⟨out, rfl, by omega, hB⟩
      · have hqb : ((q : Int) != 0) = true := by simp; omega
        have hlt : q2 < q := by have := hq2.out; omega
        have HE : Hid (out.toList ≠ []) := he
        clear he hq0
        go_wp2
        go_roundg (2 * q2)
        case measure => have := (HK2.out HE.out).1; omega
        case rel => exact ⟨q2, dig d ++ out, rfl, rfl, by have := hq2.out; omega, by have := hq2.out; omega, fun h => absurd h hne.out, fun _ => ⟨Nat.le_refl _, by omega⟩, hB.alloc hB.size _⟩

/-- what l8DrawName may tell besides names -/
def odd4 : List ByteArray := [⟨#[]⟩, ⟨#[65]⟩, ⟨#[48, 49, 50, 51, 52, 53, 54, 55, 56, 57, 97, 98, 99]⟩, ⟨#[122, 122]⟩]
theorem odd4_small : ∀ s ∈ odd4, s.size ≤ 13 := by
  intro s hs
  simp only [odd4, List.mem_cons, List.not_mem_nil, or_false] at hs
  rcases hs with rfl | rfl | rfl | rfl <;> decide
open Go.Proofs.YtaabmkhckbndgaaGreatDoor.draw in
theorem l8DrawName_any (w0 w : World) (p : Nat) (a0 : Option Addr) (len cap : Nat) (hc : Cur w p a0 len cap) (hg : w0.grownBy w (some p)) :
    Calls Tryz.prog 128 #[.pointer (some ⟨p, 0, none⟩)] w fun e w' => ∃ s : ByteArray, e = .returned (.string s) ∧ s.size ≤ 13 ∧ Cur w' p a0 len cap ∧ w0.grownBy w' (some p) := by
  go_enter Tryz.func128, Tryz.ntmps128
  go_wp2_with (first | (go_at_call 61; refine (once_from w0 w p a0 len cap 12 (by omega) hc hg).mono ?_; rintro e w1 ⟨x, rfl, hc1, hg1⟩; cases x) | (go_at_call 126; refine (name_from w0 w1 p a0 len cap hc1 hg1).mono ?_; rintro e w2 ⟨s, rfl, hs, hc2, hg2⟩) | (go_at_call 78; refine (below_names w0 w1 p a0 len cap odd4 _ 4 13 rfl (by omega) odd4_small hc1 hg1).mono ?_; rintro e w2 ⟨x, s, rfl, hx0, hx1, hcell, hs, hc2, hg2⟩; obtain ⟨k, hk⟩ : ∃ k : Nat, x = k := ⟨x.toNat, by omega⟩; subst hk; rw [Int.toNat_natCast] at hcell) | (fail))
  all_goals
    go_ret
    exact ⟨s, rfl, by omega, hc2, hg2⟩
end Go.Proofs.YtaabmkhckbndgaaGreatDoor.rg
/- The model's draw of a text: whatever the bytes, it returns a text of fewer than the asked number of signs; nothing that was there is written but the cursor. -/
namespace Go.Proofs.YtaabmkhckbndgaaGreatDoor.draw
open Go.ChangeShapes Go.WideShapes Go.ChangeAt Go.RowKit
set_option linter.unusedVariables false

theorem infoByte : (Tryz.prog.info? 5).map (fun i => (i.zero, i.size, i.bytes)) = some (some (.int .u8 0), 1, 1) := by kernel_rfl

def byteRow (l : List UInt8) : List Value := l.map fun b => Value.int .u8 b.toNat

theorem cur_size {w : World} {p : Nat} {a0 : Option Addr} {len cap : Nat} (h : Cur w p a0 len cap) : p < w.heap.size := h.1

theorem gb_own {w0 W w3 : World} {r : Option Nat} {p : Nat} (h : w0.grownBy W (some p)) (g : W.grownBy w3 r) (hr : ∀ k, r = some k → w0.heap.size ≤ k) : w0.grownBy w3 (some p) :=
  ⟨g.os.trans h.os, g.tape.trans h.tape, g.output.trans h.output, Nat.le_trans h.size g.size, fun i hi hne => (g.block i (Nat.lt_of_lt_of_le hi h.size) (fun e => by have := hr i e.symm; omega)).trans (h.block i hi hne)⟩

theorem cur_own {W w3 : World} {r : Option Nat} {p : Nat} {a0 : Option Addr} {len cap : Nat} (h : Cur W p a0 len cap) (g : W.grownBy w3 r) (hr : ∀ k, r = some k → p < k) : Cur w3 p a0 len cap := by
  obtain ⟨hp, hcode, hb, i, h, hi, c0, c1, c2, f1, f2⟩ := h
  have hB : ∀ b, b ≤ p → b < W.heap.size → ∀ o, w3.cell? ⟨b, o, none⟩ = W.cell? ⟨b, o, none⟩ := fun b hbp hbs o => World.cell?_of_block (g.block b hbs (fun e => by have := hr b e.symm; omega))
  have hF : ∀ o, w3.frozen? ⟨p, o, none⟩ = W.frozen? ⟨p, o, none⟩ := fun o => World.frozen?_of_block (g.block p hp (fun e => by have := hr p e.symm; omega))
  refine ⟨Nat.lt_of_lt_of_le hp g.size, ⟨hcode.1, ?_⟩, hb, i, h, hi, ?_, ?_, ?_, ?_, ?_⟩
  · rcases hcode.2 with h0 | ⟨b, off, rfl, hbs, hcell⟩
    · exact .inl h0
    rcases hb b off rfl with h0 | hbp
    · exact .inl h0
    · refine .inr ⟨b, off, rfl, Nat.lt_of_lt_of_le hbs g.size, fun k hk => ?_⟩
      obtain ⟨c, hc, h1, h2⟩ := hcell k hk
      exact ⟨c, by rw [hB b (by omega) hbs]; exact hc, h1, h2⟩
  · rw [hB p (Nat.le_refl _) hp]; exact c0
  · rw [hB p (Nat.le_refl _) hp]; exact c1
  · rw [hB p (Nat.le_refl _) hp]; exact c2
  · rw [hF]; exact f1
  · rw [hF]; exact f2

set_option maxHeartbeats 1000000 in
theorem drawText_from (w0 w : World) (p : Nat) (a0 : Option Addr) (len cap : Nat) (s : ByteArray) (most : Int) (hs : 1 ≤ s.size) (hs2 : s.size ≤ 1000) (hm : 1 ≤ most) (hm2 : most ≤ 1000)
    (hc : Cur w p a0 len cap) (hg : w0.grownBy w (some p)) :
    Calls Tryz.prog 127 #[.pointer (some ⟨p, 0, none⟩), .string s, .int .i64 most] w fun e w' => ∃ t : ByteArray, e = .returned (.string t) ∧ t.size ≤ 1000 ∧ Cur w' p a0 len cap ∧ w0.grownBy w' (some p) := by
  obtain ⟨i0, hi, hz0, hz1, hz2⟩ := info_parts infoByte
  have hp := cur_size hc
  go_enter Tryz.func127, Tryz.ntmps127
  go_wp2_with (go_at_call 78; refine (below_from (w.alloc (.cells #[] 5)) _ p a0 len cap _ hm (cur_alloc hc _) (World.grownBy.refl _ _)).mono ?_; rintro e w1 ⟨n, rfl, hn0, hn1, hc1, hg1⟩)
  have ho1 : w1.ownsRow w.heap.size 5 1 (.slice (some ⟨w.heap.size, 0, none⟩) 0 0) 0 [] :=
    (World.ownsRow_made (base := w.heap.size) (size := 1) (e := 5) w #[] 0 (Nat.le_refl _) (by unfold maxLen; omega) rfl).kept hg1 (.inr (by simp [Value.ownBlock]; omega))
  have hgg := gb_trans (gb_alloc hg (.cells #[] 5)) hg1
  have hsz : w.heap.size ≤ w1.heap.size := by have := hg1.size; simp at this; omega
  have hsz0 : w0.heap.size ≤ w.heap.size := hg.size
  clear hg1 hg hc
  go_loopw [7, 8] (fun v i wr => ∃ (k : Nat) (l : List UInt8), i = .int .i64 k ∧ k + l.length ≤ 1000 ∧ wr.ownsRow w.heap.size 5 1 v l.length (byteRow l) ∧ v ≠ .slice none 0 0 ∧ Cur wr p a0 len cap ∧ w0.grownBy wr (some p) ∧ w.heap.size ≤ wr.heap.size) (fun _ i _ => (intOf i).toNat)
  case atStart =>
    refine ⟨n.toNat, [], ?_, ?_, ho1, by simp, hc1, hgg, hsz⟩
    · rw [Int.toNat_of_nonneg hn0]
    · simp; omega
  case round =>
    obtain ⟨k, l, rfl, hk, hown, hnn, hcr, hgr, hbr⟩ := hrel
    clear ho1 hc1 hgg hsz
    by_cases hlt : 0 < k
    · go_wp2_with (first | (go_at_call 78; refine (below_from wr _ p a0 len cap _ (by omega) hcr (World.grownBy.refl _ _)).mono ?_; rintro e w2 ⟨x, rfl, hx0, hx1, hc2, hg2⟩; have hxl : x.toNat < s.size := (by omega); obtain ⟨c, hcx⟩ : ∃ c, s[x.toNat]'hxl = c := ⟨_, rfl⟩; have hown2 := hown.kept hg2 (.inr (fun e => (by have := (hown.lt p e).1; omega)))) | (at_builtin; refine wpList_append_own _ rfl _ _ 22 rfl w.heap.size 5 i0 (.int .u8 0) 1 1 Tryz.underlying22 hi hz0 hz1 hz2 rfl (by decide) _ _ _ rfl (hown2.alloc _) ⟨w2.heap.size, 0, none⟩ 1 1 [Value.int .u8 c.toNat] rfl rfl ?c1 ?c2 ?c3 ?c4 ?c5 ?_))
      case c1 =>
        intro j u hj
        match j, hj with
        | 0, hj => simp at hj; subst hj; simp [Addr.add]
      case c2 => intro u hu; simp at hu; subst hu; rfl
      case c3 => unfold maxLen; omega
      case c4 => omega
      case c5 => have := hg2.size; simp; omega
      · intro v' w3 hown3 hg3 hnil3
        have hlo : ∀ k, u7.ownBlock = some k → w.heap.size ≤ k := fun k e => (hown.lt k e).1
        have hgA : w0.grownBy w3 (some p) := gb_own (gb_trans hgr (gb_alloc hg2 (.cells #[Value.int .u8 c.toNat] 5))) hg3 (fun k e => by have := hlo k e; omega)
        have hcA : Cur w3 p a0 len cap := cur_own (cur_alloc hc2 (.cells #[Value.int .u8 c.toNat] 5)) hg3 (fun k e => by have := hlo k e; omega)
        have hsA : w.heap.size ≤ w3.heap.size := by have h1 := hg2.size; have h2 := hg3.size; simp at h2; omega
        clear hlo hg3 hg2 hown2 hcx
        go_wp2
        go_roundw
        case rel => exact ⟨k - 1, l ++ [c], by rw [Int.natCast_sub (by omega)]; rfl, by simp; omega, by rw [List.length_append, byteRow, List.map_append]; exact hown3, hnil3, hcA, hgA, hsA⟩
        case measure => simp [intOf]; omega
    · rcases hown.2 with ⟨e, -⟩ | ⟨g, cap', cur, rfl, -, -, -, -, -, -⟩
      · exact absurd e hnn
      · have hcv := run_convert_bytes_back (P := Tryz.prog) wr 22 9 5 ⟨g, 0, none⟩ cap' l Tryz.underlying22 Tryz.underlying5 Tryz.underlying9 (fun j hj => hown.cells (g := g) rfl j _ (by simp [byteRow, hj]))
        go_wp2
        go_ret
        exact ⟨_, rfl, by show l.toArray.size ≤ 1000; simp; omega, hcr, hgr⟩
end Go.Proofs.YtaabmkhckbndgaaGreatDoor.draw
