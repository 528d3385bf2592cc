/- Texts laid together: Bb1 Bh2 Ro9 Is1 Ro10 Is2 Rs1 Rs2 Mk0 MkIt Bh1 Draw1 DrawS Re1 DrawText. -/
import Derived.Test.YtjkkjpgebcnhgaaGreatDoorMg00
import Derived.Test.YtjkkjpgebcnhgaaGreatDoorMg01
import Derived.Test.YtjkkjpgebcnhgaaGreatDoorMg02
import Derived.Test.YtjkkjpgebcnhgaaGreatDoorRows
import Derived.Deep.RegionHeld3
import Derived.BigQuiet
import Derived.Lib.SmallJoins
import Derived.Deep.Slices
import Derived.ShutString
import Derived.ChangeOld
import Derived.WalkKit
import Derived.ProofKit
import Derived.OpenShut
import Derived.Below
import Derived.OwnWalk
import Derived.Deep.QuietTactic
import Derived.Deep.LoopGhost
import Derived.Laws.IdiomStrings
/- Books in memory: right ones, new ones, both sides; the model's copy. -/
namespace Go.Proofs.YtjkkjpgebcnhgaaGreatDoor.rg
open Go.ChangeShapes Go.WideShapes Go.ChangeAt Go.RowKit
open Go.Proofs.YtjkkjpgebcnhgaaGreatDoor.ce Go.Proofs.YtjkkjpgebcnhgaaGreatDoor.ro
set_option linter.unusedVariables false

theorem sizeBk : (Tryz.prog.info? 31).map (·.size) = some 2 := by kernel_rfl
theorem zeroBk (w : World) : (zeroValue 31).run Tryz.prog w = .ok (.agg [Value.slice none 0 0, .int .i64 0].toArray) w := Tryz.zeroValue31 w
theorem oneBk (a : Option Addr) (n k : Nat) (X : Int) : ∀ v ∈ [Value.slice a n k, .int .i64 X], v.oneCell' = true := by
  intro v hv
  simp only [List.mem_cons, List.not_mem_nil, or_false] at hv
  rcases hv with rfl | rfl <;> rfl
theorem bAl (w : World) (o : Obj) : Below w.heap.size w (w.alloc o) := (Below.refl _ _).alloc (Nat.le_refl _) _
theorem specStoreOk_any (I : List It) (X : Int) (v : Value) (y : Bool) (hy : Hid (storeB ⟨I, X⟩ = y)) (w : World) (r : Rd encIt w v I) (hs : SmK I) :
    Calls Tryz.prog 20 #[.agg #[v, .int .i64 X]] w fun e w' => e = .returned (.bool y) ∧ Below w.heap.size w w' := by
  obtain ⟨a, cap, rfl⟩ := r.form
  have R : Hid (Rd encIt w (.slice a I.length cap) I) := r
  have HS : Hid (SmK I) := hs
  clear r hs
  cases hb : bookB I with
  | false =>
    have ey : y = false := by rw [← hy.out]; unfold storeB; rw [hb]; rfl
    subst ey
    go_enter Tryz.func20, Tryz.ntmps20
    go_wp2_with (first | (refine wpList_box_v rfl 31 _ rfl [.slice a I.length cap, .int .i64 X] rfl ?_; intro b1 w1 hb1 hw1 hB1 V1; obtain ⟨c0, c1⟩ := cells2 V1; have hz1 := hB1.size) | (go_at_call 53; refine (specBookOk_any I _ _ (R.out.grow hB1) HS.out).mono ?_; rintro e w2 ⟨rfl, hB2⟩; rw [hb]) | (fail))
    go_ret
    exact ⟨rfl, hB1.trans (hB2.mono hz1)⟩
  | true =>
    have ey : Hid ((decide (1 ≤ X) && decide (X ≤ 1000000)) = y) := by unfold Hid; rw [← hy.out]; unfold storeB; rw [hb]; rfl
    clear hy
    go_enter Tryz.func20, Tryz.ntmps20
    go_wp2_with (first | (refine wpList_box_v rfl 31 _ rfl [.slice a I.length cap, .int .i64 X] rfl ?_; intro b1 w1 hb1 hw1 hB1 V1; obtain ⟨c0, c1⟩ := cells2 V1; have hz1 := hB1.size) | (go_at_call 53; refine (specBookOk_any I _ _ (R.out.grow hB1) HS.out).mono ?_; rintro e w2 ⟨rfl, hB2⟩; rw [hb]; obtain ⟨d0, d1⟩ := cells2 (vblk_grow V1 hB2)) | (go_at_call 54; refine (in_is _ _ _ y ey.out _).mono ?_; rintro e wq ⟨rfl, hq⟩; subst wq) | (fail))
    go_ret
    exact ⟨rfl, hB1.trans (hB2.mono hz1)⟩
theorem specNewBook_any (w : World) : Calls Tryz.prog 22 #[] w fun e w' => e = .returned (.agg #[.slice none 0 0, .int .i64 1]) ∧ Below w.heap.size w w' := by
  go_enter Tryz.func22, Tryz.ntmps22
  go_wp2_with (first | (refine wpList_alloc_v rfl 31 rfl _ zeroBk ?_; intro b1 w1 hb1 hw1 hB1 V1) | (refine wpList_store_v rfl 31 _ _ rfl b1 [.slice none 0 0, .int .i64 1] rfl rfl sizeBk V1 rfl (oneBk _ _ _ _) ?_; intro w2 hO2 V2) | (fail))
  exact row_retv rfl rfl V2 Tryz.underlying31 sizeBk rfl ⟨rfl, hB1.trans (hO2.2.2 _ hb1)⟩
theorem implStoreOk_any (I : List It) (X : Int) (v : Value) (y : Bool) (hy : Hid (storeB ⟨I, X⟩ = y)) (w : World) (r : Rd encIt w v I) (hs : SmK I) :
    Calls Tryz.prog 19 #[.agg #[v, .int .i64 X]] w fun e w' => e = .returned (.bool y) ∧ Below w.heap.size w w' := by
  obtain ⟨a, cap, rfl⟩ := r.form
  have R : Hid (Rd encIt w (.slice a I.length cap) I) := r
  have HS : Hid (SmK I) := hs
  clear r hs
  cases hb : bookB I with
  | false =>
    have ey : y = false := by rw [← hy.out]; unfold storeB; rw [hb]; rfl
    subst ey
    go_enter Tryz.func19, Tryz.ntmps19
    go_wp2_with (first | (refine wpList_box_v rfl 31 _ rfl [.slice a I.length cap, .int .i64 X] rfl ?_; intro b1 w1 hb1 hw1 hB1 V1; obtain ⟨c0, c1⟩ := cells2 V1; have hz1 := hB1.size) | (go_at_call 52; refine (implBookOk_any I _ _ (R.out.grow hB1) HS.out).mono ?_; rintro e w2 ⟨rfl, hB2⟩; rw [hb]) | (fail))
    go_ret
    exact ⟨rfl, hB1.trans (hB2.mono hz1)⟩
  | true =>
    have ey : Hid ((decide (1 ≤ X) && decide (X ≤ 1000000)) = y) := by unfold Hid; rw [← hy.out]; unfold storeB; rw [hb]; rfl
    clear hy
    go_enter Tryz.func19, Tryz.ntmps19
    go_wp2_with (first | (refine wpList_box_v rfl 31 _ rfl [.slice a I.length cap, .int .i64 X] rfl ?_; intro b1 w1 hb1 hw1 hB1 V1; obtain ⟨c0, c1⟩ := cells2 V1; have hz1 := hB1.size) | (go_at_call 52; refine (implBookOk_any I _ _ (R.out.grow hB1) HS.out).mono ?_; rintro e w2 ⟨rfl, hB2⟩; rw [hb]; obtain ⟨d0, d1⟩ := cells2 (vblk_grow V1 hB2)) | (go_at_call 37; refine (within_is _ _ _ y ey.out _).mono ?_; rintro e wq ⟨rfl, hq⟩; subst wq) | (fail))
    go_ret
    exact ⟨rfl, hB1.trans (hB2.mono hz1)⟩
theorem implNewBook_any (w : World) : Calls Tryz.prog 21 #[] w fun e w' => e = .returned (.agg #[.slice none 0 0, .int .i64 1]) ∧ Below w.heap.size w w' := by
  go_enter Tryz.func21, Tryz.ntmps21
  go_wp2_with (first | (refine wpList_alloc_v rfl 31 rfl _ zeroBk ?_; intro b1 w1 hb1 hw1 hB1 V1) | (refine wpList_store_v rfl 31 _ _ rfl b1 [.slice none 0 0, .int .i64 1] rfl rfl sizeBk V1 rfl (oneBk _ _ _ _) ?_; intro w2 hO2 V2) | (fail))
  exact row_retv rfl rfl V2 Tryz.underlying31 sizeBk rfl ⟨rfl, hB1.trans (hO2.2.2 _ hb1)⟩
/-- while a book is copied: the one in b1 is read, the new one lies in b2 -/
structure Cpb (w : World) (b1 b2 : Nat) (vs : List Value) (w' : World) : Prop where
  low : Below w.heap.size w w'
  src : VBlk w' b1 31 vs
  var : ∃ x y, VBlk w' b2 31 [x, y]
theorem cb_of {w w' : World} {b1 b2 : Nat} {u v : Value} (h : Cpb w b1 b2 [u, v] w') : w'.cell? ⟨b1, 0, none⟩ = some u ∧ w'.cell? ⟨b1, 1, none⟩ = some v ∧ Cpb w b1 b2 [u, v] w' := ⟨(cells2 h.src).1, (cells2 h.src).2, h⟩
theorem cb_alloc {w w' : World} {b1 b2 : Nat} {u v : Value} {o : Obj} (h : w'.cell? ⟨b1, 0, none⟩ = some u ∧ w'.cell? ⟨b1, 1, none⟩ = some v ∧ Cpb w b1 b2 [u, v] w') :
    (w'.alloc o).cell? ⟨b1, 0, none⟩ = some u ∧ (w'.alloc o).cell? ⟨b1, 1, none⟩ = some v ∧ Cpb w b1 b2 [u, v] (w'.alloc o) := by
  obtain ⟨-, -, h1, h2, x, y, h3⟩ := h
  exact cb_of ⟨h1.alloc h1.size _, vblk_grow h2 (bAl _ _), x, y, vblk_grow h3 (bAl _ _)⟩
theorem cb_alloc_drew {w w' : World} {b1 b2 : Nat} {u v : Value} {o : Obj} (h : w'.drew.cell? ⟨b1, 0, none⟩ = some u ∧ w'.drew.cell? ⟨b1, 1, none⟩ = some v ∧ Cpb w b1 b2 [u, v] w'.drew) :
    (w'.alloc o).drew.cell? ⟨b1, 0, none⟩ = some u ∧ (w'.alloc o).drew.cell? ⟨b1, 1, none⟩ = some v ∧ Cpb w b1 b2 [u, v] (w'.alloc o).drew := cb_alloc (w' := w'.drew) (o := o) h
theorem cb_ty {w w' w'' : World} {b1 b2 lo : Nat} {t : TypeId} {u v : Value} (hT : Ty lo t w' w'') (hlo : w.heap.size ≤ lo) (ht : 31 ≠ t) (h : w'.cell? ⟨b1, 0, none⟩ = some u ∧ w'.cell? ⟨b1, 1, none⟩ = some v ∧ Cpb w b1 b2 [u, v] w') :
    w''.cell? ⟨b1, 0, none⟩ = some u ∧ w''.cell? ⟨b1, 1, none⟩ = some v ∧ Cpb w b1 b2 [u, v] w'' := by
  obtain ⟨-, -, h1, h2, x, y, h3⟩ := h
  exact cb_of ⟨h1.trans (hT.low.mono hlo), hT.vblk h2 ht, x, y, hT.vblk h3 ht⟩
theorem cb_low {w w' : World} {b1 b2 : Nat} {u v : Value} (h : w'.cell? ⟨b1, 0, none⟩ = some u ∧ w'.cell? ⟨b1, 1, none⟩ = some v ∧ Cpb w b1 b2 [u, v] w') : Below w.heap.size w w' := h.2.2.low
theorem cb_size {w w' : World} {b1 b2 : Nat} {u v : Value} (h : w'.cell? ⟨b1, 0, none⟩ = some u ∧ w'.cell? ⟨b1, 1, none⟩ = some v ∧ Cpb w b1 b2 [u, v] w') : w.heap.size ≤ w'.heap.size := h.2.2.low.size
theorem cb_store {w w' : World} {b1 b2 : Nat} {u v y0 y1 : Value} (hn : b1 ≠ b2) (hlo : w.heap.size ≤ b2) (h : w'.cell? ⟨b1, 0, none⟩ = some u ∧ w'.cell? ⟨b1, 1, none⟩ = some v ∧ Cpb w b1 b2 [u, v] w') :
    ((w'.setCell ⟨b2, 0, none⟩ y0).setCell ⟨b2, 1, none⟩ y1).cell? ⟨b1, 0, none⟩ = some u ∧ ((w'.setCell ⟨b2, 0, none⟩ y0).setCell ⟨b2, 1, none⟩ y1).cell? ⟨b1, 1, none⟩ = some v ∧ Cpb w b1 b2 [u, v] ((w'.setCell ⟨b2, 0, none⟩ y0).setCell ⟨b2, 1, none⟩ y1) := by
  obtain ⟨-, -, h1, h2, x, y, h3⟩ := h
  have o1 := only_set w' b2 0 y0
  have o2 := only_set (w'.setCell ⟨b2, 0, none⟩ y0) b2 1 y1
  refine cb_of ⟨(h1.trans (o1.2.2 _ hlo)).trans (o2.2.2 _ hlo), vblk_only (vblk_only h2 o1 hn) o2 hn, y0, y1, ?_⟩
  have := (h3.set 0 y0).set 1 y1
  simpa using this
theorem own_store2 {α : Type} {E : Enc α} {w' : World} {b2 lo hi : Nat} {y0 y1 v : Value} {t : TypeId} {vs : List Value} {xs : List α} (o : Own E w' lo hi v xs) (hv : VBlk w' b2 t vs) (ht : E.t ≠ t) : Own E ((w'.setCell ⟨b2, 0, none⟩ y0).setCell ⟨b2, 1, none⟩ y1) lo hi v xs :=
  (o.only (only_set _ _ _ _) hv ht).only (only_set _ _ _ _) (hv.set 0 y0) ht
theorem copy2_end {w' : World} {b2 : Nat} {t : TypeId} {q0 q1 y0 y1 : Value} (hv : VBlk w' b2 t [q0, q1]) : VBlk ((w'.setCell ⟨b2, 0, none⟩ y0).setCell ⟨b2, 1, none⟩ y1) b2 t [y0, y1] := by simpa using (hv.set 0 y0).set 1 y1
set_option maxRecDepth 100000 in
set_option maxHeartbeats 2000000 in
theorem l13Copy_any (I : List It) (X : Int) (v : Value) (w : World) (r : Rd encIt w v I) (hl : I.length ≤ 1048576) :
    Calls Tryz.prog 33 #[.agg #[v, .int .i64 X]] w fun e w' => ∃ v', e = .returned (.agg #[v', .int .i64 X]) ∧ Own encIt w' w.heap.size w'.heap.size v' I ∧ Below w.heap.size w w' := by
  obtain ⟨a, cap, rfl⟩ := r.form
  have R : Hid (Rd encIt w (.slice a I.length cap) I) := r
  clear r
  have m1 : Hid True := trivial
  go_enter Tryz.func33, Tryz.ntmps33
  go_wp2_with (first | (clear m1; refine wpList_box_v rfl 31 _ rfl [.slice a I.length cap, .int .i64 X] rfl ?_; intro b1 w1 hb1 hw1 hB1 hV1; have hz1 := hB1.size) | (refine wpList_alloc_v rfl 31 rfl _ zeroBk ?_; intro b2 w2 hb2 hw2 hB2 hV2; have hz2 := hB2.size; have hB12 : Below w.heap.size w w2 := hB1.trans (hB2.mono hz1)) | (fail))
  have S1 := cb_of (w := w) (b1 := b1) (b2 := b2) (w' := w2.drew) ⟨hB12.drew, hV1.of (hB2.block b1 hw1), _, _, hV2⟩
  have hne : b1 ≠ b2 := by omega
  have hlo : w.heap.size ≤ b2 := by omega
  go_region_held3 (fun w' => w'.cell? ⟨b1, 0, none⟩ = some (.slice a I.length cap) ∧ w'.cell? ⟨b1, 1, none⟩ = some (.int .i64 X) ∧ Cpb w b1 b2 [.slice a I.length cap, .int .i64 X] w') (first | with_reducible assumption | with_reducible exact cb_store hne hlo (by assumption) | with_reducible exact cb_alloc (by assumption) | with_reducible exact cb_alloc_drew (by assumption) | (fail)) (first | (refine step_append_g infoIt rfl _ _ 29 rfl Tryz.underlying29 w.heap.size 0 _ [] rfl (own_zero _ _ _ _ _) (cb_size (by with_reducible assumption)) _ I rfl (R.out.grow (cb_low (by with_reducible assumption))) (by simp; omega) ?_; intro v5 W5 o5 hT5; rw [List.nil_append] at o5; have hS5 := cb_ty hT5 (Nat.le_refl _) (by decide) (by with_reducible assumption); obtain ⟨q0, q1, hv⟩ := hS5.2.2.var; obtain ⟨g0, g1⟩ := cells2 hv; have f0 := hv.frozen 0; have f1 := hv.frozen 1; obtain ⟨a5, n5, k5, rfl⟩ := o5.slice) | (fail))
  all_goals
    go_wp2
    exact row_retv rfl rfl (copy2_end hv) Tryz.underlying31 sizeBk rfl ⟨_, rfl, (own_store2 o5 hv (by decide)).top, cb_low (by with_reducible assumption)⟩
end Go.Proofs.YtjkkjpgebcnhgaaGreatDoor.rg
/- The laws' likeItems and likeBook. -/
namespace Go.Proofs.YtjkkjpgebcnhgaaGreatDoor.rg
open Go.ChangeShapes Go.WideShapes Go.ChangeAt Go.RowKit
open Go.Deep Go.Joins
open Go.Proofs.YtjkkjpgebcnhgaaGreatDoor.ce Go.Proofs.YtjkkjpgebcnhgaaGreatDoor.ro
set_option linter.unusedVariables false

set_option maxRecDepth 10000 in
set_option maxHeartbeats 1000000 in
theorem likeItems_any (b : List It) (v v' : Value) (w : World) (r : Rd encIt w v b) (r' : Rd encIt w v' b) :
    Calls Tryz.prog 51 #[v, v'] w fun e w' => e = .returned (.bool true) ∧ Below w.heap.size w w' := by
  have hl := r.len
  obtain ⟨a, cap, rfl⟩ := r.form
  obtain ⟨a', cap', rfl⟩ := r'.form
  have R : Hid (Rd encIt w (.slice a b.length cap) b) := r
  have R' : Hid (Rd encIt w (.slice a' b.length cap') b) := r'
  clear r r'
  have hne : ((b.length : Int) != (b.length : Int)) = false := by simp
  go_enter Tryz.func51, Tryz.ntmps51
  go_wp2
  go_loopw [5] (fun q wr => ∃ i : Nat, i ≤ b.length ∧ q = .int .i64 i ∧ Below w.heap.size w wr) (fun q _ => b.length - (intOf q).toNat)
  case atStart => exact ⟨0, by omega, rfl, Below.refl _ _⟩
  case round =>
    obtain ⟨i, hi1, rfl, hBr⟩ := hrel
    by_cases hlt : i < b.length
    · obtain ⟨b1, o1, rfl, hb1, rg1⟩ := rd_item rfl rfl (R.out.grow hBr) i hlt
      obtain ⟨b2, o2, rfl, hb2, rg2⟩ := rd_item rfl rfl (R'.out.grow hBr) i hlt
      have hlt' : (i : Int) < (b.length : Int) := by omega
      obtain ⟨z, hz⟩ := hid_ex (b[i])
      rw [hz.out] at rg1 rg2
      obtain ⟨N, F, B, C, U⟩ := z
      have eN : (N.toList == N.toList) = true := by simp
      have eB : (B.toList == B.toList) = true := by simp
      have eF : (F == F) = true := by simp
      have eC : (C == C) = true := by simp
      have eU : (U == U) = true := by simp
      obtain ⟨c0, c1, c2, c3, c4⟩ := rng5 rg1
      obtain ⟨d0, d1, d2, d3, d4⟩ := rng5 rg2
      have S1 : wr.drew.cell? ⟨b1, o1 + i * 5, none⟩ = some (.string N) ∧ wr.drew.cell? ⟨b1, o1 + i * 5 + 1, none⟩ = some (.int .i64 F) ∧ wr.drew.cell? ⟨b1, o1 + i * 5 + 2, none⟩ = some (.string B) ∧ wr.drew.cell? ⟨b1, o1 + i * 5 + 3, none⟩ = some (.int .i64 C) ∧ wr.drew.cell? ⟨b1, o1 + i * 5 + 4, none⟩ = some (.int .i64 U) ∧ wr.drew.cell? ⟨b2, o2 + i * 5, none⟩ = some (.string N) ∧ wr.drew.cell? ⟨b2, o2 + i * 5 + 1, none⟩ = some (.int .i64 F) ∧ wr.drew.cell? ⟨b2, o2 + i * 5 + 2, none⟩ = some (.string B) ∧ wr.drew.cell? ⟨b2, o2 + i * 5 + 3, none⟩ = some (.int .i64 C) ∧ wr.drew.cell? ⟨b2, o2 + i * 5 + 4, none⟩ = some (.int .i64 U) := ⟨c0, c1, c2, c3, c4, d0, d1, d2, d3, d4⟩
      go_wp2
      go_region_held3 (fun w' => w'.cell? ⟨b1, o1 + i * 5, none⟩ = some (.string N) ∧ w'.cell? ⟨b1, o1 + i * 5 + 1, none⟩ = some (.int .i64 F) ∧ w'.cell? ⟨b1, o1 + i * 5 + 2, none⟩ = some (.string B) ∧ w'.cell? ⟨b1, o1 + i * 5 + 3, none⟩ = some (.int .i64 C) ∧ w'.cell? ⟨b1, o1 + i * 5 + 4, none⟩ = some (.int .i64 U) ∧ w'.cell? ⟨b2, o2 + i * 5, none⟩ = some (.string N) ∧ w'.cell? ⟨b2, o2 + i * 5 + 1, none⟩ = some (.int .i64 F) ∧ w'.cell? ⟨b2, o2 + i * 5 + 2, none⟩ = some (.string B) ∧ w'.cell? ⟨b2, o2 + i * 5 + 3, none⟩ = some (.int .i64 C) ∧ w'.cell? ⟨b2, o2 + i * 5 + 4, none⟩ = some (.int .i64 U)) (first | with_reducible assumption | with_reducible exact S1 | (fail)) (fail)
      go_wp2
      go_roundw
      case rel => exact ⟨i + 1, by omega, by go_num, hBr.drew⟩
      case measure => simp [intOf]; omega
    · have hlt' : ¬ (i : Int) < (b.length : Int) := by omega
      go_wp2
      go_ret
      exact ⟨rfl, hBr⟩
theorem likeBook_any (I : List It) (X : Int) (v v' : Value) (w : World) (r : Rd encIt w v I) (r' : Rd encIt w v' I) :
    Calls Tryz.prog 18 #[.agg #[v, .int .i64 X], .agg #[v', .int .i64 X]] w fun e w' => e = .returned (.bool true) ∧ Below w.heap.size w w' := by
  obtain ⟨a, cap, rfl⟩ := r.form
  obtain ⟨a', cap', rfl⟩ := r'.form
  have R : Hid (Rd encIt w (.slice a I.length cap) I) := r
  have R' : Hid (Rd encIt w (.slice a' I.length cap') I) := r'
  clear r r'
  have hxx : (X == X) = true := by simp
  have k1 : Hid True := trivial
  go_enter Tryz.func18, Tryz.ntmps18
  go_wp2_with (first | (clear k1; refine wpList_box_v rfl 31 _ rfl [.slice a I.length cap, .int .i64 X] rfl ?_; intro b1 w1 hb1 hw1 hB1 V1; have hz1 := hB1.size) | (refine wpList_box_v rfl 31 _ rfl [.slice a' I.length cap', .int .i64 X] rfl ?_; intro b2 w2 hb2 hw2 hB2 V2; have hz2 := hB2.size; have V1b := vblk_grow V1 hB2; obtain ⟨c0, c1⟩ := cells2 V1b; obtain ⟨d0, d1⟩ := cells2 V2; have hB12 : Below w.heap.size w w2 := hB1.trans (hB2.mono hz1)) | (go_at_call 51; refine (likeItems_any I _ _ _ (R.out.grow hB12) (R'.out.grow hB12)).mono ?_; rintro e w3 ⟨rfl, hB3⟩) | (fail))
  go_ret
  exact ⟨rfl, hB12.trans (hB3.mono hB12.size)⟩
end Go.Proofs.YtjkkjpgebcnhgaaGreatDoor.rg
/- A row that is filled from its head on, of whatever things: made, stored into, full. -/
namespace Go.Proofs.YtjkkjpgebcnhgaaGreatDoor.ro
open Go.ChangeShapes Go.WideShapes Go.ChangeAt Go.RowKit
open Go.Proofs.YtjkkjpgebcnhgaaGreatDoor.ce
set_option linter.unusedVariables false
variable {α : Type}

structure Part (E : Enc α) (w : World) (lo g n cap : Nat) (G : List α) : Prop where
  own : ∃ X, w.ownsRow lo E.t E.k (.slice (some ⟨g, 0, none⟩) n cap) n X ∧ X.take (G.length * E.k) = E.row G
theorem Part.keep {E : Enc α} {w w' : World} {lo g n cap : Nat} {G : List α} (p : Part E w lo g n cap G) (e : w'.heap[g]? = w.heap[g]?) : Part E w' lo g n cap G := by
  obtain ⟨X, hX, ht⟩ := p.own
  refine ⟨X, ⟨hX.1, ?_⟩, ht⟩
  rcases hX.2 with h | ⟨g', cap', cur, e', hg, hb, h⟩
  · exact .inl h
  · cases e'
    exact .inr ⟨g, cap, cur, rfl, hg, by rw [e]; exact hb, h⟩
theorem Part.lt {E : Enc α} {w : World} {lo g n cap : Nat} {G : List α} (p : Part E w lo g n cap G) : lo ≤ g ∧ g < w.heap.size := by
  obtain ⟨X, hX, ht⟩ := p.own
  exact hX.lt g rfl
theorem Part.full {E : Enc α} {w : World} {lo g n cap : Nat} {G : List α} (p : Part E w lo g n cap G) (hn : G.length = n) : Own E w lo w.heap.size (.slice (some ⟨g, 0, none⟩) n cap) G := by
  subst hn
  obtain ⟨X, hX, ht⟩ := p.own
  rw [List.take_of_length_le (by rw [hX.1]; exact Nat.le_refl _)] at ht
  subst ht
  exact own_of hX
section
variable {ops : Array Oper} {rest : List Oper} {o : Oper} {a : Act} {w : World} {Q : Exit → Act → World → Prop}
end
end Go.Proofs.YtjkkjpgebcnhgaaGreatDoor.ro
/- Contracts of the laws' helpers on things and books: sizes, copies, comparisons. -/
namespace Go.Proofs.YtjkkjpgebcnhgaaGreatDoor.rg
open Go.ChangeShapes Go.WideShapes Go.ChangeAt Go.RowKit
open Go.Proofs.YtjkkjpgebcnhgaaGreatDoor.ce Go.Proofs.YtjkkjpgebcnhgaaGreatDoor.ro
set_option linter.unusedVariables false

end Go.Proofs.YtjkkjpgebcnhgaaGreatDoor.rg
/- A row of whatever things that came in as an argument, read as a list. -/
namespace Go.Proofs.YtjkkjpgebcnhgaaGreatDoor.ro
open Go.ChangeShapes Go.WideShapes Go.ChangeAt Go.RowKit
open Go.Deep Go.Joins
open Go.Proofs.YtjkkjpgebcnhgaaGreatDoor.ce
set_option linter.unusedVariables false

end Go.Proofs.YtjkkjpgebcnhgaaGreatDoor.ro
/- Contracts of the laws' helpers on books: sizes, copies, comparisons; a thing and a book among the arguments. -/
namespace Go.Proofs.YtjkkjpgebcnhgaaGreatDoor.rg
open Go.ChangeShapes Go.WideShapes Go.ChangeAt Go.RowKit
open Go.Deep Go.Joins
open Go.Proofs.YtjkkjpgebcnhgaaGreatDoor.ce Go.Proofs.YtjkkjpgebcnhgaaGreatDoor.ro
set_option linter.unusedVariables false

end Go.Proofs.YtjkkjpgebcnhgaaGreatDoor.rg
/- Contracts of the laws' helpers on rows of texts and of truths: sizes, copies, comparisons, marks. -/
namespace Go.Proofs.YtjkkjpgebcnhgaaGreatDoor.rg
open Go.ChangeShapes Go.WideShapes Go.ChangeAt Go.RowKit
open Go.Proofs.YtjkkjpgebcnhgaaGreatDoor.ce Go.Proofs.YtjkkjpgebcnhgaaGreatDoor.ro
set_option linter.unusedVariables false

end Go.Proofs.YtjkkjpgebcnhgaaGreatDoor.rg
/- Contracts of the laws' marks on rows of texts and of truths. -/
namespace Go.Proofs.YtjkkjpgebcnhgaaGreatDoor.rg
open Go.ChangeShapes Go.WideShapes Go.ChangeAt Go.RowKit
open Go.Proofs.YtjkkjpgebcnhgaaGreatDoor.ce Go.Proofs.YtjkkjpgebcnhgaaGreatDoor.ro
set_option linter.unusedVariables false

def dig (d : Nat) : ByteArray := ⟨#[UInt8.ofNat (48 + d)]⟩
theorem dig_conv (d : Nat) (h1 : d ≤ 9) (w : World) : (convert 43 9 (Value.slice (some { block := w.heap.size, off := 0 }) 1 1)).run Tryz.prog (w.alloc (Obj.cells #[Value.int IntKind.u8 (48 + (d : Int))] 5)) = .ok (.string (dig d)) (w.alloc (Obj.cells #[Value.int IntKind.u8 (48 + (d : Int))] 5)) :=
  run_convert_bytes_back (P := Tryz.prog) (w.alloc (Obj.cells #[Value.int IntKind.u8 (48 + (d : Int))] 5)) 43 9 5 ⟨w.heap.size, 0, none⟩ 1 [UInt8.ofNat (48 + d)] Tryz.underlying43 Tryz.underlying5 Tryz.underlying9 (fun j hj => by
    have hj0 : j = 0 := by simpa using hj
    subst hj0
    have e : (((UInt8.ofNat (48 + d)).toNat : Nat) : Int) = 48 + d := by
      rw [UInt8.toNat_ofNat']; omega
    simp only [List.getElem_cons_zero, e]
    show (w.alloc _).cell? ⟨w.heap.size, 0, none⟩ = _
    rw [cell_of_row _ _ 0 _ _ _ (heap_alloc_new w _)]; rfl)

end Go.Proofs.YtjkkjpgebcnhgaaGreatDoor.rg
/- One cell is stored into a row that the call owns, whatever things lie in it. -/
namespace Go.Proofs.YtjkkjpgebcnhgaaGreatDoor.rg
open Go.ChangeShapes Go.WideShapes Go.ChangeAt Go.RowKit
open Go.Deep Go.Joins
open Go.Proofs.YtjkkjpgebcnhgaaGreatDoor.ce Go.Proofs.YtjkkjpgebcnhgaaGreatDoor.ro
set_option linter.unusedVariables false

section
variable {α : Type} {ops : Array Oper} {rest : List Oper} {o : Oper} {a : Act} {w : World} {Q : Exit → Act → World → Prop}
theorem cells_one {v : Value} (h : v.oneCell' = true) : v.cells = #[v] := by cases v <;> first | rfl | cases h
theorem wpList_store_c (hgd : o.guard = none) (t : TypeId) (x y : Operand) (ho : o.op = .store t x y) (g j : Nat) (u : Value) (hx : a.eval x = .pointer (some ⟨g, j, none⟩)) (hy : a.eval y = u) (h1 : u.oneCell' = true) (hi : (Tryz.prog.info? t).map (·.size) = some 1)
    (old : Value) (hc : w.cell? ⟨g, j, none⟩ = some old) (hf : w.frozen? ⟨g, j, none⟩ = false) (h : wpList Tryz.prog ops Q rest (a.put o.dst undef) (w.setCell ⟨g, j, none⟩ u)) : wpList Tryz.prog ops Q (o :: rest) a w :=
  wpList_plain hgd fun _ hK => by
    unfold Oper.wp execOp
    obtain ⟨i, hi1, hi2⟩ := Option.map_eq_some_iff.1 hi
    simp [ho, hx, hy, Instr.storeAt, Instr.sureAddr, storeVar, sizeOf, typeInfo, hi1, hi2, cells_one h1, storeCells, run_store _ _ _ _ _ h1, hc, hf, Addr.add]
    exact hK _ _ h
/-- a row while it is marked: what lies in it, what was written -/
structure Mkd (E : Enc α) (w0 w : World) (lo hi : Nat) (v : Value) (L : List α) : Prop where
  o : Own E w lo hi v L
  wi : Within lo hi w0 w
  ty : Ty lo E.t w0 w
  lo : lo ≤ w.heap.size
theorem Mkd.grow {E : Enc α} {w0 w w' : World} {lo hi : Nat} {v : Value} {L : List α} (h : Mkd E w0 w lo hi v L) (hb : Below w.heap.size w w') : Mkd E w0 w' lo hi v L :=
  ⟨h.o.grow hb, h.wi.trans (Within.of_below hb (Nat.le_refl _)), h.ty.trans (Ty.of_below hb h.lo), Nat.le_trans h.lo hb.size⟩
end
end Go.Proofs.YtjkkjpgebcnhgaaGreatDoor.rg
/- The laws' marks on lists of Item. -/
namespace Go.Proofs.YtjkkjpgebcnhgaaGreatDoor.rg
open Go.ChangeShapes Go.WideShapes Go.ChangeAt Go.RowKit
open Go.Deep Go.Joins
open Go.Proofs.YtjkkjpgebcnhgaaGreatDoor.ce Go.Proofs.YtjkkjpgebcnhgaaGreatDoor.ro
set_option linter.unusedVariables false

end Go.Proofs.YtjkkjpgebcnhgaaGreatDoor.rg
/- The laws' helpers on a book; a book among the arguments. -/
namespace Go.Proofs.YtjkkjpgebcnhgaaGreatDoor.rg
open Go.ChangeShapes Go.WideShapes Go.ChangeAt Go.RowKit
open Go.Deep Go.Joins
open Go.Proofs.YtjkkjpgebcnhgaaGreatDoor.ce Go.Proofs.YtjkkjpgebcnhgaaGreatDoor.ro
set_option linter.unusedVariables false

theorem szI1 : (Tryz.prog.info? 2).map (·.size) = some 1 := by kernel_rfl
theorem szL1 : (Tryz.prog.info? 29).map (·.size) = some 1 := by kernel_rfl
theorem wpList_store_cell {ops : Array Oper} {rest : List Oper} {o : Oper} {a : Act} {w : World} {Q : Exit → Act → World → Prop} (hgd : o.guard = none) (t : TypeId) (x y : Operand) (ho : o.op = .store t x y) (b j : Nat) (u : Value) (hx : a.eval x = .pointer (some ⟨b, j, none⟩)) (hy : a.eval y = u) (h1 : u.oneCell' = true) (hi : (Tryz.prog.info? t).map (·.size) = some 1)
    {T : TypeId} {vs : List Value} (V : VBlk w b T vs) (hj : j < vs.length) (h : ∀ w', Only b w w' → VBlk w' b T (vs.set j u) → wpList Tryz.prog ops Q rest (a.put o.dst undef) w') : wpList Tryz.prog ops Q (o :: rest) a w :=
  wpList_store_c hgd t x y ho b j u hx hy h1 hi _ (V.cell j hj) (V.frozen j) (h _ (only_set _ _ _ _) (V.set j u))
end Go.Proofs.YtjkkjpgebcnhgaaGreatDoor.rg
/- Contracts of the model's drawing functions: whatever the bytes, each call returns a number within its bounds, writes to the cursor's own block alone, and leaves the cursor well formed. -/
namespace Go.Proofs.YtjkkjpgebcnhgaaGreatDoor.draw
open Go.ChangeShapes Go.WideShapes Go.ChangeAt Go.RowKit
set_option linter.unusedVariables false

/-- the bytes of the code, as they lie in memory -/
def CodeAt (w : World) (a0 : Option Addr) (len : Nat) : Prop :=
  len ≤ 9223372036854775806 ∧ (len = 0 ∨ ∃ b off, a0 = some ⟨b, off, none⟩ ∧ b < w.heap.size ∧ ∀ k, k < len → ∃ c : Int, w.cell? ⟨b, off + k, none⟩ = some (.int .u8 c) ∧ 0 ≤ c ∧ c ≤ 255)

/-- a cursor over the code lies in block p -/
def Cur (w : World) (p : Nat) (a0 : Option Addr) (len cap : Nat) : Prop :=
  p < w.heap.size ∧ CodeAt w a0 len ∧ (∀ b off, a0 = some ⟨b, off, none⟩ → len = 0 ∨ b < p) ∧
  ∃ (i : Nat) (h : Int), i ≤ len ∧ w.cell? ⟨p, 0, none⟩ = some (.slice a0 len cap) ∧ w.cell? ⟨p, 1, none⟩ = some (.int .i64 i) ∧ w.cell? ⟨p, 2, none⟩ = some (.int .i64 h) ∧
    w.frozen? ⟨p, 1, none⟩ = false ∧ w.frozen? ⟨p, 2, none⟩ = false

theorem gb_set (w : World) (a : Addr) (v : Value) : w.grownBy (w.setCell a v) (some a.block) :=
  ⟨rfl, rfl, rfl, by simp, fun k hk hne => Below.heap_setCell _ _ _ _ (fun h => hne (by rw [h]))⟩
theorem gb_drewN {w w' : World} {r : Option Nat} (h : w.grownBy w' r) (n : Nat) : w.grownBy (w'.drewN n) r := ⟨h.os, h.tape, h.output, h.size, h.block⟩
theorem gb_trans {w w1 w2 : World} {r : Option Nat} (h : w.grownBy w1 r) (k : w1.grownBy w2 r) : w.grownBy w2 r :=
  ⟨k.os.trans h.os, k.tape.trans h.tape, k.output.trans h.output, Nat.le_trans h.size k.size, fun i hi hn => (k.block i (Nat.lt_of_lt_of_le hi h.size) hn).trans (h.block i hi hn)⟩
theorem gb_cell {w w' : World} {p : Nat} (h : w.grownBy w' (some p)) {b : Nat} (hb : b < w.heap.size) (hne : b ≠ p) (o : Nat) : w'.cell? ⟨b, o, none⟩ = w.cell? ⟨b, o, none⟩ :=
  World.cell?_of_block (h.block b hb (fun e => hne (by cases e; rfl)))

theorem code_kept {w w' : World} {a0 : Option Addr} {len p : Nat} (h : CodeAt w a0 len) (hb : ∀ b off, a0 = some ⟨b, off, none⟩ → len = 0 ∨ b < p) (g : w.grownBy w' (some p)) : CodeAt w' a0 len := by
  refine ⟨h.1, ?_⟩
  rcases h.2 with h0 | ⟨b, off, e, hl, hc⟩
  · exact .inl h0
  rcases hb b off e with h0 | hbp
  · exact .inl h0
  · refine .inr ⟨b, off, e, Nat.lt_of_lt_of_le hl g.size, fun k hk => ?_⟩
    obtain ⟨c, hcell, h1, h2⟩ := hc k hk
    exact ⟨c, by rw [gb_cell g hl (by omega)]; exact hcell, h1, h2⟩

/-- a low byte, whatever number it is taken of -/
theorem and255 (x : Int) : 0 ≤ bits .and .i64 x 255 ∧ bits .and .i64 x 255 ≤ 255 := by
  have h : bits .and .i64 x 255 = IntKind.i64.wrap (((BitVec.ofInt 64 x).toNat &&& 255 : Nat) : Int) := by
    unfold bits
    simp only [BitVec.toNat_and]
    rfl
  have g : (BitVec.ofInt 64 x).toNat &&& 255 ≤ 255 := Nat.and_le_right
  rw [h, IntKind.wrap_i64]
  omega

set_option maxHeartbeats 1000000 in
theorem byte_end (w : World) (p : Nat) (a0 : Option Addr) (len cap i : Nat) (h : Int) (hi : ¬ i < len)
    (c0 : w.cell? ⟨p, 0, none⟩ = some (.slice a0 len cap)) (c1 : w.cell? ⟨p, 1, none⟩ = some (.int .i64 i)) (c2 : w.cell? ⟨p, 2, none⟩ = some (.int .i64 h))
    (f1 : w.frozen? ⟨p, 1, none⟩ = false) (f2 : w.frozen? ⟨p, 2, none⟩ = false) :
    Calls Tryz.prog 95 #[.pointer (some ⟨p, 0, none⟩)] w fun e w' => ∃ x h' : Int, e = .returned (.int .i64 x) ∧ 0 ≤ x ∧ x ≤ 255 ∧ ∃ n, w' = (w.setCell ⟨p, 2, none⟩ (.int .i64 h')).drewN n := by
  go_enter Tryz.func95, Tryz.ntmps95
  go_wp2
  go_quiet (fail)
  go_wp2
  go_quiet (fail)
  go_wp2
  go_ret
  exact ⟨_, wrap64 (wrap64 (h * 6364136223846793005) + 1442695040888963407), rfl, (and255 _).1, (and255 _).2, _, World.drewN_drewN _ _ _⟩

set_option maxHeartbeats 1000000 in
theorem byte_in (w : World) (p b off : Nat) (len cap i : Nat) (h c : Int) (hi : i < len) (hl : len ≤ 9223372036854775806) (hbp : b < p)
    (c0 : w.cell? ⟨p, 0, none⟩ = some (.slice (some ⟨b, off, none⟩) len cap)) (c1 : w.cell? ⟨p, 1, none⟩ = some (.int .i64 i)) (c2 : w.cell? ⟨p, 2, none⟩ = some (.int .i64 h))
    (f1 : w.frozen? ⟨p, 1, none⟩ = false) (f2 : w.frozen? ⟨p, 2, none⟩ = false) (hc : w.cell? ⟨b, off + i, none⟩ = some (.int .u8 c)) (h1 : 0 ≤ c) (h2 : c ≤ 255) :
    Calls Tryz.prog 95 #[.pointer (some ⟨p, 0, none⟩)] w fun e w' => ∃ x h' : Int, e = .returned (.int .i64 x) ∧ 0 ≤ x ∧ x ≤ 255 ∧ ∃ n, w' = ((w.setCell ⟨p, 2, none⟩ (.int .i64 h')).drewN n).setCell ⟨p, 1, none⟩ (.int .i64 ((i : Int) + 1)) := by
  have hlt : (i : Int) < (len : Int) := by omega
  have hne : b ≠ p := by omega
  have hnp : p ≠ b := by omega
  go_enter Tryz.func95, Tryz.ntmps95
  go_wp2
  go_quiet (fail)
  go_wp2
  go_quiet (fail)
  go_wp2
  go_quiet (fail)
  go_wp2
  go_ret
  exact ⟨_, wrap64 (wrap64 (h * 6364136223846793005) + 1442695040888963407), rfl, (and255 _).1, (and255 _).2, _, rfl⟩

theorem byte_any (w : World) (p : Nat) (a0 : Option Addr) (len cap : Nat) (hc : Cur w p a0 len cap) :
    Calls Tryz.prog 95 #[.pointer (some ⟨p, 0, none⟩)] w fun e w' => ∃ x : Int, e = .returned (.int .i64 x) ∧ 0 ≤ x ∧ x ≤ 255 ∧ Cur w' p a0 len cap ∧ w.grownBy w' (some p) := by
  obtain ⟨hp, hcode, hb, i, h, hi, c0, c1, c2, f1, f2⟩ := hc
  by_cases hlt : i < len
  · rcases hcode.2 with h0 | ⟨b, off, rfl, hbs, hcell⟩
    · omega
    obtain ⟨c, hc, h1, h2⟩ := hcell i hlt
    have hbp : b < p := by have := hb b off rfl; omega
    refine (byte_in w p b off len cap i h c hlt hcode.1 hbp c0 c1 c2 f1 f2 hc h1 h2).mono ?_
    rintro e w' ⟨x, h', rfl, g1, g2, n, rfl⟩
    have g0 : w.grownBy ((w.setCell ⟨p, 2, none⟩ (.int .i64 h')).drewN n) (some p) := gb_drewN (gb_set w ⟨p, 2, none⟩ (.int .i64 h')) n
    have g3 : ((w.setCell ⟨p, 2, none⟩ (.int .i64 h')).drewN n).grownBy (((w.setCell ⟨p, 2, none⟩ (.int .i64 h')).drewN n).setCell ⟨p, 1, none⟩ (.int .i64 ((i : Int) + 1))) (some p) := gb_set _ ⟨p, 1, none⟩ _
    have hg := gb_trans g0 g3
    refine ⟨x, rfl, g1, g2, ⟨Nat.lt_of_lt_of_le hp hg.size, code_kept hcode hb hg, hb, i + 1, h', by omega, ?_, ?_, ?_, ?_, ?_⟩, hg⟩
    · rw [World.cell?_setCell_other _ _ _ _ (by simp), World.cell?_drewN, World.cell?_setCell_other _ _ _ _ (by simp)]; exact c0
    · exact World.cell?_setCell_same _ _ _ (u := .int .i64 i) (by rw [World.cell?_drewN, World.cell?_setCell_other _ _ _ _ (by simp)]; exact c1)
    · rw [World.cell?_setCell_other _ _ _ _ (by simp), World.cell?_drewN]; exact World.cell?_setCell_same _ _ _ c2
    · rw [World.frozen?_setCell, World.frozen?_drewN, World.frozen?_setCell]; exact f1
    · rw [World.frozen?_setCell, World.frozen?_drewN, World.frozen?_setCell]; exact f2
  · refine (byte_end w p a0 len cap i h hlt c0 c1 c2 f1 f2).mono ?_
    rintro e w' ⟨x, h', rfl, g1, g2, n, rfl⟩
    have hg : w.grownBy ((w.setCell ⟨p, 2, none⟩ (.int .i64 h')).drewN n) (some p) := gb_drewN (gb_set w ⟨p, 2, none⟩ (.int .i64 h')) n
    refine ⟨x, rfl, g1, g2, ⟨Nat.lt_of_lt_of_le hp hg.size, code_kept hcode hb hg, hb, i, h', hi, ?_, ?_, ?_, ?_, ?_⟩, hg⟩
    · rw [World.cell?_drewN, World.cell?_setCell_other _ _ _ _ (by simp)]; exact c0
    · rw [World.cell?_drewN, World.cell?_setCell_other _ _ _ _ (by simp)]; exact c1
    · rw [World.cell?_drewN]; exact World.cell?_setCell_same _ _ _ c2
    · rw [World.frozen?_drewN, World.frozen?_setCell]; exact f1
    · rw [World.frozen?_drewN, World.frozen?_setCell]; exact f2

theorem byte_from (w0 w : World) (p : Nat) (a0 : Option Addr) (len cap : Nat) (hc : Cur w p a0 len cap) (hg : w0.grownBy w (some p)) :
    Calls Tryz.prog 95 #[.pointer (some ⟨p, 0, none⟩)] w fun e w' => ∃ x : Int, e = .returned (.int .i64 x) ∧ 0 ≤ x ∧ x ≤ 255 ∧ Cur w' p a0 len cap ∧ w0.grownBy w' (some p) :=
  (byte_any w p a0 len cap hc).mono fun e w' ⟨x, h1, h2, h3, h4, h5⟩ => ⟨x, h1, h2, h3, h4, gb_trans hg h5⟩

set_option maxHeartbeats 1000000 in
theorem below_from (w0 w : World) (p : Nat) (a0 : Option Addr) (len cap : Nat) (n : Int) (hn : 1 ≤ n) (hc : Cur w p a0 len cap) (hg : w0.grownBy w (some p)) :
    Calls Tryz.prog 50 #[.pointer (some ⟨p, 0, none⟩), .int .i64 n] w fun e w' => ∃ x : Int, e = .returned (.int .i64 x) ∧ 0 ≤ x ∧ x < n ∧ Cur w' p a0 len cap ∧ w0.grownBy w' (some p) := by
  by_cases h : n ≤ 256
  · go_enter Tryz.func50, Tryz.ntmps50
    go_wp2_with (go_at_call 95; refine (byte_from w0 _ p a0 len cap (by assumption) (by assumption)).mono ?_; rintro e w1 ⟨x, rfl, hx0, hx1, hc1, hg1⟩)
    go_ret
    exact ⟨_, rfl, Int.emod_nonneg _ (by omega), Int.emod_lt_of_pos _ (by omega), by assumption, by assumption⟩
  · go_enter Tryz.func50, Tryz.ntmps50
    go_wp2_with (go_at_call 95; refine (byte_from w0 _ p a0 len cap (by assumption) (by assumption)).mono ?_; rintro e w1 ⟨x, rfl, hx0, hx1, hc1, hg1⟩)
    go_ret
    exact ⟨_, rfl, Int.emod_nonneg _ (by omega), Int.emod_lt_of_pos _ (by omega), by assumption, by assumption⟩

theorem once_from (w0 w : World) (p : Nat) (a0 : Option Addr) (len cap : Nat) (n : Int) (hn : 1 ≤ n) (hc : Cur w p a0 len cap) (hg : w0.grownBy w (some p)) :
    Calls Tryz.prog 49 #[.pointer (some ⟨p, 0, none⟩), .int .i64 n] w fun e w' => ∃ x : Bool, e = .returned (.bool x) ∧ Cur w' p a0 len cap ∧ w0.grownBy w' (some p) := by
  go_enter Tryz.func49, Tryz.ntmps49
  go_wp2_with (go_at_call 50; refine (below_from w0 _ p a0 len cap _ hn (by assumption) (by assumption)).mono ?_; rintro e w1 ⟨x, rfl, hx0, hx1, hc1, hg1⟩)
  go_ret
  exact ⟨_, rfl, by assumption, by assumption⟩

/-! ### a new cursor -/
theorem new_any (w : World) (a0 : Option Addr) (len cap : Nat) (hcode : CodeAt w a0 len) :
    Calls Tryz.prog 46 #[.slice a0 len cap] w fun e w' => ∃ h : Int, e = .returned (.pointer (some ⟨w.heap.size, 0, none⟩)) ∧ w' = w.alloc (.cells #[.slice a0 len cap, .int .i64 0, .int .i64 h] 114) := by
  have hl := hcode.1
  go_enter Tryz.func46, Tryz.ntmps46
  go_wp2
  go_loop [3, 4] (fun o i => ∃ (k : Nat) (z : Int), k ≤ len ∧ i = .int .i64 k ∧ o = .int .i64 z) (fun _ i => len - (intOf i).toNat)
  case atStart => exact ⟨0, _, Nat.zero_le _, rfl, rfl⟩
  case round =>
    obtain ⟨k, z, hk, rfl, rfl⟩ := hrel
    by_cases hlt : k < len
    · rcases hcode.2 with h0 | ⟨b, off, rfl, hbs, hcell⟩
      · omega
      obtain ⟨c, hc, h1, h2⟩ := hcell k hlt
      clear hcell hcode
      have hlt' : (k : Int) < (len : Int) := by omega
      go_wp2
      go_round
      case rel => exact ⟨k + 1, _, by omega, by go_num, rfl⟩
      case measure => simp [intOf]; omega
    · go_wp2
      go_ret
      exact ⟨rfl, z, rfl⟩

theorem new_cur (w : World) (a0 : Option Addr) (len cap : Nat) (hcode : CodeAt w a0 len) :
    Calls Tryz.prog 46 #[.slice a0 len cap] w fun e w' => ∃ p : Nat, e = .returned (.pointer (some ⟨p, 0, none⟩)) ∧ w.heap.size ≤ p ∧ Cur w' p a0 len cap ∧ Below w.heap.size w w' := by
  refine (new_any w a0 len cap hcode).mono ?_
  rintro e w' ⟨h, rfl, rfl⟩
  have hb : Below w.heap.size w (w.alloc (.cells #[.slice a0 len cap, .int .i64 0, .int .i64 h] 114)) := (Below.refl _ _).alloc (Nat.le_refl _) _
  refine ⟨w.heap.size, rfl, Nat.le_refl _, ⟨by simp, ⟨hcode.1, ?_⟩, ?_, 0, h, Nat.zero_le _, by simp, by simp, by simp, by simp, by simp⟩, hb⟩
  · rcases hcode.2 with h0 | ⟨b, off, rfl, hbs, hcell⟩
    · exact .inl h0
    · refine .inr ⟨b, off, rfl, by simp; omega, fun k hk => ?_⟩
      obtain ⟨c, hc, h1, h2⟩ := hcell k hk
      exact ⟨c, by rw [hb.cell hbs]; exact hc, h1, h2⟩
  · intro b off e
    rcases hcode.2 with h0 | ⟨b', off', e', hbs, hcell⟩
    · exact .inl h0
    · rw [e'] at e; cases e; exact .inr hbs

/-! ### what chapter 1's laws draw -/
theorem cur_alloc {w : World} {p : Nat} {a0 : Option Addr} {len cap : Nat} (h : Cur w p a0 len cap) (o : Obj) : Cur (w.alloc o) p a0 len cap := by
  obtain ⟨hp, hcode, hb, i, h, hi, c0, c1, c2, f1, f2⟩ := h
  have hB : Below w.heap.size w (w.alloc o) := (Below.refl _ _).alloc (Nat.le_refl _) _
  refine ⟨by simp; omega, ⟨hcode.1, ?_⟩, hb, i, h, hi, ?_, ?_, ?_, ?_, ?_⟩
  · rcases hcode.2 with h0 | ⟨b, off, rfl, hbs, hcell⟩
    · exact .inl h0
    · refine .inr ⟨b, off, rfl, by simp; omega, fun k hk => ?_⟩
      obtain ⟨c, hc, h1, h2⟩ := hcell k hk
      exact ⟨c, by rw [hB.cell hbs]; exact hc, h1, h2⟩
  · rw [hB.cell hp]; exact c0
  · rw [hB.cell hp]; exact c1
  · rw [hB.cell hp]; exact c2
  · rw [hB.frozen hp]; exact f1
  · rw [hB.frozen hp]; exact f2
theorem gb_alloc {w w' : World} {r : Option Nat} (h : w.grownBy w' r) (o : Obj) : w.grownBy (w'.alloc o) r :=
  ⟨h.os, h.tape, h.output, Nat.le_trans h.size (by simp), fun k hk hn => (Below.heap_alloc _ _ _ (Nat.lt_of_lt_of_le hk h.size)).trans (h.block k hk hn)⟩


/-- a number drawn as a place in a row of numbers that lies new -/
theorem below_lit (w0 w : World) (p : Nat) (a0 : Option Addr) (len cap : Nat) (xs : List Int) (t : TypeId) (n lo hi : Int) (hn : n = xs.length) (h1 : 1 ≤ n) (hall : ∀ x ∈ xs, lo ≤ x ∧ x ≤ hi) (hc : Cur w p a0 len cap) (hg : w0.grownBy w (some p)) :
    Calls Tryz.prog 50 #[.pointer (some ⟨p, 0, none⟩), .int .i64 n] (w.alloc (.cells (xs.map (Value.int .i64)).toArray t)) fun e w' => ∃ x v : Int, e = .returned (.int .i64 x) ∧ 0 ≤ x ∧ x < n ∧ w'.cell? ⟨w.heap.size, x.toNat, none⟩ = some (.int .i64 v) ∧ lo ≤ v ∧ v ≤ hi ∧ Cur w' p a0 len cap ∧ w0.grownBy w' (some p) := by
  have hp := hc.1
  refine (below_from (w.alloc (.cells (xs.map (Value.int .i64)).toArray t)) _ p a0 len cap n h1 (cur_alloc hc _) (World.grownBy.refl _ _)).mono ?_
  rintro e w' ⟨x, rfl, g0, g1, hc', hg'⟩
  have hk : x.toNat < xs.length := by omega
  refine ⟨x, xs[x.toNat], rfl, g0, g1, ?_, (hall _ (List.getElem_mem hk)).1, (hall _ (List.getElem_mem hk)).2, hc', gb_trans (gb_alloc hg _) hg'⟩
  rw [gb_cell hg' (by simp) (by omega)]
  simp [hk]
end Go.Proofs.YtjkkjpgebcnhgaaGreatDoor.draw
/- What the laws of chapter 2 draw, first part: a cursor stays while new memory is written; names; places. -/
namespace Go.Proofs.YtjkkjpgebcnhgaaGreatDoor.draw
open Go.ChangeShapes Go.WideShapes Go.ChangeAt Go.RowKit
set_option linter.unusedVariables false

theorem cur_below {w w' : World} {p : Nat} {a0 : Option Addr} {len cap L : Nat} (h : Cur w p a0 len cap) (hB : Below L w w') (hL : p < L) : Cur w' p a0 len cap := by
  obtain ⟨hp, hcode, hb, i, h, hi, c0, c1, c2, f1, f2⟩ := h
  refine ⟨Nat.lt_of_lt_of_le hp hB.size, ⟨hcode.1, ?_⟩, hb, i, h, hi, ?_, ?_, ?_, ?_, ?_⟩
  · rcases hcode.2 with h0 | ⟨b, off, e, hbs, hcell⟩
    · exact .inl h0
    · rcases hb b off e with h0 | hbp
      · exact .inl h0
      · refine .inr ⟨b, off, e, Nat.lt_of_lt_of_le hbs hB.size, fun k hk => ?_⟩
        obtain ⟨c, hc, h1, h2⟩ := hcell k hk
        exact ⟨c, by rw [hB.cell (by show b < L; omega)]; exact hc, h1, h2⟩
  · rw [hB.cell hL]; exact c0
  · rw [hB.cell hL]; exact c1
  · rw [hB.cell hL]; exact c2
  · rw [hB.frozen hL]; exact f1
  · rw [hB.frozen hL]; exact f2
theorem gb_below {w a b : World} {p L : Nat} (h : w.grownBy a (some p)) (hB : Below L a b) (hL : w.heap.size ≤ L) : w.grownBy b (some p) :=
  ⟨hB.os.trans h.os, hB.tape.trans h.tape, hB.output.trans h.output, Nat.le_trans h.size hB.size, fun k hk hn => (hB.block k (by omega)).trans (h.block k hk hn)⟩

/-- a number drawn as a place in a row of texts that lies new -/
theorem below_names (w0 w : World) (p : Nat) (a0 : Option Addr) (len cap : Nat) (ss : List ByteArray) (t : TypeId) (n : Int) (m : Nat) (hn : n = ss.length) (h1 : 1 ≤ n) (hall : ∀ s ∈ ss, s.size ≤ m) (hc : Cur w p a0 len cap) (hg : w0.grownBy w (some p)) :
    Calls Tryz.prog 50 #[.pointer (some ⟨p, 0, none⟩), .int .i64 n] (w.alloc (.cells (ss.map Value.string).toArray t)) fun e w' => ∃ (x : Int) (s : ByteArray), e = .returned (.int .i64 x) ∧ 0 ≤ x ∧ x < n ∧ w'.cell? ⟨w.heap.size, x.toNat, none⟩ = some (.string s) ∧ s.size ≤ m ∧ Cur w' p a0 len cap ∧ w0.grownBy w' (some p) := by
  have hp := hc.1
  refine (below_from (w.alloc (.cells (ss.map Value.string).toArray t)) _ p a0 len cap n h1 (cur_alloc hc _) (World.grownBy.refl _ _)).mono ?_
  rintro e w' ⟨x, rfl, g0, g1, hc', hg'⟩
  have hk : x.toNat < ss.length := by omega
  refine ⟨x, ss[x.toNat], rfl, g0, g1, ?_, hall _ (List.getElem_mem hk), hc', gb_trans (gb_alloc hg _) hg'⟩
  rw [gb_cell hg' (by simp) (by omega)]
  simp [hk]

/-- the eight names -/
def names : List ByteArray := [⟨#[97]⟩, ⟨#[98]⟩, ⟨#[99]⟩, ⟨#[100, 100]⟩, ⟨#[101, 49]⟩, ⟨#[102, 45]⟩, ⟨#[103]⟩, ⟨#[104]⟩]
theorem names_small : ∀ s ∈ names, s.size ≤ 2 := by
  intro s hs
  simp only [names, List.mem_cons, List.not_mem_nil, or_false] at hs
  rcases hs with rfl | rfl | rfl | rfl | rfl | rfl | rfl | rfl <;> decide

theorem name_from (w0 w : World) (p : Nat) (a0 : Option Addr) (len cap : Nat) (hc : Cur w p a0 len cap) (hg : w0.grownBy w (some p)) :
    Calls Tryz.prog 115 #[.pointer (some ⟨p, 0, none⟩)] w fun e w' => ∃ s : ByteArray, e = .returned (.string s) ∧ s.size ≤ 2 ∧ Cur w' p a0 len cap ∧ w0.grownBy w' (some p) := by
  go_enter Tryz.func115, Tryz.ntmps115
  go_wp2_with (first | (go_at_call 50; refine (below_names w0 w p a0 len cap names _ 8 2 rfl (by omega) names_small hc hg).mono ?_; rintro e w1 ⟨x, s, rfl, hx0, hx1, hcell, hs, hc1, hg1⟩; obtain ⟨k, hk⟩ : ∃ k : Nat, x = k := ⟨x.toNat, by omega⟩; subst hk; rw [Int.toNat_natCast] at hcell) | (fail))
  go_ret
  exact ⟨s, rfl, hs, hc1, hg1⟩

end Go.Proofs.YtjkkjpgebcnhgaaGreatDoor.draw
/- What the laws of chapter 8 draw, first part: a number as a text; a name, or what is none. -/
namespace Go.Proofs.YtjkkjpgebcnhgaaGreatDoor.rg
open Go.ChangeShapes Go.WideShapes Go.ChangeAt Go.RowKit
open Go.Proofs.YtjkkjpgebcnhgaaGreatDoor.ce Go.Proofs.YtjkkjpgebcnhgaaGreatDoor.ro
set_option linter.unusedVariables false

/-- what l8DrawName may tell besides names -/
def odd4 : List ByteArray := [⟨#[]⟩, ⟨#[65]⟩, ⟨#[48, 49, 50, 51, 52, 53, 54, 55, 56, 57, 97, 98, 99]⟩, ⟨#[122, 122]⟩]
theorem odd4_small : ∀ s ∈ odd4, s.size ≤ 13 := by
  intro s hs
  simp only [odd4, List.mem_cons, List.not_mem_nil, or_false] at hs
  rcases hs with rfl | rfl | rfl | rfl <;> decide
open Go.Proofs.YtjkkjpgebcnhgaaGreatDoor.draw in
theorem l8DrawName_any (w0 w : World) (p : Nat) (a0 : Option Addr) (len cap : Nat) (hc : Cur w p a0 len cap) (hg : w0.grownBy w (some p)) :
    Calls Tryz.prog 94 #[.pointer (some ⟨p, 0, none⟩)] w fun e w' => ∃ s : ByteArray, e = .returned (.string s) ∧ s.size ≤ 13 ∧ Cur w' p a0 len cap ∧ w0.grownBy w' (some p) := by
  go_enter Tryz.func94, Tryz.ntmps94
  go_wp2_with (first | (go_at_call 49; refine (once_from w0 w p a0 len cap 12 (by omega) hc hg).mono ?_; rintro e w1 ⟨x, rfl, hc1, hg1⟩; cases x) | (go_at_call 115; refine (name_from w0 w1 p a0 len cap hc1 hg1).mono ?_; rintro e w2 ⟨s, rfl, hs, hc2, hg2⟩) | (go_at_call 50; refine (below_names w0 w1 p a0 len cap odd4 _ 4 13 rfl (by omega) odd4_small hc1 hg1).mono ?_; rintro e w2 ⟨x, s, rfl, hx0, hx1, hcell, hs, hc2, hg2⟩; obtain ⟨k, hk⟩ : ∃ k : Nat, x = k := ⟨x.toNat, by omega⟩; subst hk; rw [Int.toNat_natCast] at hcell) | (fail))
  all_goals
    go_ret
    exact ⟨s, rfl, by omega, hc2, hg2⟩
end Go.Proofs.YtjkkjpgebcnhgaaGreatDoor.rg
/- The model's draw of a text: whatever the bytes, it returns a text of fewer than the asked number of signs; nothing that was there is written but the cursor. -/
namespace Go.Proofs.YtjkkjpgebcnhgaaGreatDoor.draw
open Go.ChangeShapes Go.WideShapes Go.ChangeAt Go.RowKit
set_option linter.unusedVariables false

theorem infoByte : (Tryz.prog.info? 5).map (fun i => (i.zero, i.size, i.bytes)) = some (some (.int .u8 0), 1, 1) := by kernel_rfl

def byteRow (l : List UInt8) : List Value := l.map fun b => Value.int .u8 b.toNat

theorem cur_size {w : World} {p : Nat} {a0 : Option Addr} {len cap : Nat} (h : Cur w p a0 len cap) : p < w.heap.size := h.1

theorem gb_own {w0 W w3 : World} {r : Option Nat} {p : Nat} (h : w0.grownBy W (some p)) (g : W.grownBy w3 r) (hr : ∀ k, r = some k → w0.heap.size ≤ k) : w0.grownBy w3 (some p) :=
  ⟨g.os.trans h.os, g.tape.trans h.tape, g.output.trans h.output, Nat.le_trans h.size g.size, fun i hi hne => (g.block i (Nat.lt_of_lt_of_le hi h.size) (fun e => by have := hr i e.symm; omega)).trans (h.block i hi hne)⟩

theorem cur_own {W w3 : World} {r : Option Nat} {p : Nat} {a0 : Option Addr} {len cap : Nat} (h : Cur W p a0 len cap) (g : W.grownBy w3 r) (hr : ∀ k, r = some k → p < k) : Cur w3 p a0 len cap := by
  obtain ⟨hp, hcode, hb, i, h, hi, c0, c1, c2, f1, f2⟩ := h
  have hB : ∀ b, b ≤ p → b < W.heap.size → ∀ o, w3.cell? ⟨b, o, none⟩ = W.cell? ⟨b, o, none⟩ := fun b hbp hbs o => World.cell?_of_block (g.block b hbs (fun e => by have := hr b e.symm; omega))
  have hF : ∀ o, w3.frozen? ⟨p, o, none⟩ = W.frozen? ⟨p, o, none⟩ := fun o => World.frozen?_of_block (g.block p hp (fun e => by have := hr p e.symm; omega))
  refine ⟨Nat.lt_of_lt_of_le hp g.size, ⟨hcode.1, ?_⟩, hb, i, h, hi, ?_, ?_, ?_, ?_, ?_⟩
  · rcases hcode.2 with h0 | ⟨b, off, rfl, hbs, hcell⟩
    · exact .inl h0
    rcases hb b off rfl with h0 | hbp
    · exact .inl h0
    · refine .inr ⟨b, off, rfl, Nat.lt_of_lt_of_le hbs g.size, fun k hk => ?_⟩
      obtain ⟨c, hc, h1, h2⟩ := hcell k hk
      exact ⟨c, by rw [hB b (by omega) hbs]; exact hc, h1, h2⟩
  · rw [hB p (Nat.le_refl _) hp]; exact c0
  · rw [hB p (Nat.le_refl _) hp]; exact c1
  · rw [hB p (Nat.le_refl _) hp]; exact c2
  · rw [hF]; exact f1
  · rw [hF]; exact f2

set_option maxHeartbeats 1000000 in
theorem drawText_from (w0 w : World) (p : Nat) (a0 : Option Addr) (len cap : Nat) (s : ByteArray) (most : Int) (hs : 1 ≤ s.size) (hs2 : s.size ≤ 1000) (hm : 1 ≤ most) (hm2 : most ≤ 1000)
    (hc : Cur w p a0 len cap) (hg : w0.grownBy w (some p)) :
    Calls Tryz.prog 116 #[.pointer (some ⟨p, 0, none⟩), .string s, .int .i64 most] w fun e w' => ∃ t : ByteArray, e = .returned (.string t) ∧ t.size ≤ 1000 ∧ Cur w' p a0 len cap ∧ w0.grownBy w' (some p) := by
  obtain ⟨i0, hi, hz0, hz1, hz2⟩ := info_parts infoByte
  have hp := cur_size hc
  go_enter Tryz.func116, Tryz.ntmps116
  go_wp2_with (go_at_call 50; refine (below_from (w.alloc (.cells #[] 5)) _ p a0 len cap _ hm (cur_alloc hc _) (World.grownBy.refl _ _)).mono ?_; rintro e w1 ⟨n, rfl, hn0, hn1, hc1, hg1⟩)
  have ho1 : w1.ownsRow w.heap.size 5 1 (.slice (some ⟨w.heap.size, 0, none⟩) 0 0) 0 [] :=
    (World.ownsRow_made (base := w.heap.size) (size := 1) (e := 5) w #[] 0 (Nat.le_refl _) (by unfold maxLen; omega) rfl).kept hg1 (.inr (by simp [Value.ownBlock]; omega))
  have hgg := gb_trans (gb_alloc hg (.cells #[] 5)) hg1
  have hsz : w.heap.size ≤ w1.heap.size := by have := hg1.size; simp at this; omega
  have hsz0 : w0.heap.size ≤ w.heap.size := hg.size
  clear hg1 hg hc
  go_loopw [7, 8] (fun v i wr => ∃ (k : Nat) (l : List UInt8), i = .int .i64 k ∧ k + l.length ≤ 1000 ∧ wr.ownsRow w.heap.size 5 1 v l.length (byteRow l) ∧ v ≠ .slice none 0 0 ∧ Cur wr p a0 len cap ∧ w0.grownBy wr (some p) ∧ w.heap.size ≤ wr.heap.size) (fun _ i _ => (intOf i).toNat)
  case atStart =>
    refine ⟨n.toNat, [], ?_, ?_, ho1, by simp, hc1, hgg, hsz⟩
    · rw [Int.toNat_of_nonneg hn0]
    · simp; omega
  case round =>
    obtain ⟨k, l, rfl, hk, hown, hnn, hcr, hgr, hbr⟩ := hrel
    clear ho1 hc1 hgg hsz
    by_cases hlt : 0 < k
    · go_wp2_with (first | (go_at_call 50; refine (below_from wr _ p a0 len cap _ (by omega) hcr (World.grownBy.refl _ _)).mono ?_; rintro e w2 ⟨x, rfl, hx0, hx1, hc2, hg2⟩; have hxl : x.toNat < s.size := (by omega); obtain ⟨c, hcx⟩ : ∃ c, s[x.toNat]'hxl = c := ⟨_, rfl⟩; have hown2 := hown.kept hg2 (.inr (fun e => (by have := (hown.lt p e).1; omega)))) | (at_builtin; refine wpList_append_own _ rfl _ _ 43 rfl w.heap.size 5 i0 (.int .u8 0) 1 1 Tryz.underlying43 hi hz0 hz1 hz2 rfl (by decide) _ _ _ rfl (hown2.alloc _) ⟨w2.heap.size, 0, none⟩ 1 1 [Value.int .u8 c.toNat] rfl rfl ?c1 ?c2 ?c3 ?c4 ?c5 ?_))
      case c1 =>
        intro j u hj
        match j, hj with
        | 0, hj => simp at hj; subst hj; simp [Addr.add]
      case c2 => intro u hu; simp at hu; subst hu; rfl
      case c3 => unfold maxLen; omega
      case c4 => omega
      case c5 => have := hg2.size; simp; omega
      · intro v' w3 hown3 hg3 hnil3
        have hlo : ∀ k, u7.ownBlock = some k → w.heap.size ≤ k := fun k e => (hown.lt k e).1
        have hgA : w0.grownBy w3 (some p) := gb_own (gb_trans hgr (gb_alloc hg2 (.cells #[Value.int .u8 c.toNat] 5))) hg3 (fun k e => by have := hlo k e; omega)
        have hcA : Cur w3 p a0 len cap := cur_own (cur_alloc hc2 (.cells #[Value.int .u8 c.toNat] 5)) hg3 (fun k e => by have := hlo k e; omega)
        have hsA : w.heap.size ≤ w3.heap.size := by have h1 := hg2.size; have h2 := hg3.size; simp at h2; omega
        clear hlo hg3 hg2 hown2 hcx
        go_wp2
        go_roundw
        case rel => exact ⟨k - 1, l ++ [c], by rw [Int.natCast_sub (by omega)]; rfl, by simp; omega, by rw [List.length_append, byteRow, List.map_append]; exact hown3, hnil3, hcA, hgA, hsA⟩
        case measure => simp [intOf]; omega
    · rcases hown.2 with ⟨e, -⟩ | ⟨g, cap', cur, rfl, -, -, -, -, -, -⟩
      · exact absurd e hnn
      · have hcv := run_convert_bytes_back (P := Tryz.prog) wr 43 9 5 ⟨g, 0, none⟩ cap' l Tryz.underlying43 Tryz.underlying5 Tryz.underlying9 (fun j hj => hown.cells (g := g) rfl j _ (by simp [byteRow, hj]))
        go_wp2
        go_ret
        exact ⟨_, rfl, by show l.toArray.size ≤ 1000; simp; omega, hcr, hgr⟩
end Go.Proofs.YtjkkjpgebcnhgaaGreatDoor.draw
