/- The program's casBehind, Clone of things, copyBook. -/
import Derived.Test.YtekladbkhplchaaBb1
import Derived.Test.YtekladbkhplchaaBx0
import Derived.Lib.SmallJoins
import Derived.Deep.Slices
import Derived.Deep.RegionHeld3
import Derived.BigQuiet
namespace Go.Proofs.Ytekladbkhplchaa.rg
open Go.ChangeShapes Go.WideShapes Go.ChangeAt Go.RowKit
open Go.Deep Go.Joins
open Go.Proofs.Ytekladbkhplchaa.ce Go.Proofs.Ytekladbkhplchaa.ro
set_option linter.unusedVariables false

theorem casBehind_is (X : Int) (h0 : 1 ≤ X) (h1 : X ≤ 1000000) (w : World) : Calls Try.prog 44 #[.int .i64 X] w fun e w' => e = .returned (.int .i64 (nextX X)) ∧ w' = w := by
  have e3 : Hid (X % 1000000 + 1 = nextX X) := by unfold Hid nextX; split <;> omega
  go_enter Try.func44, Try.ntmps44
  go_wp2
  go_ret
  exact ⟨congrArg (fun z => Ending.returned (.int .i64 z)) e3.out, rfl⟩
set_option maxRecDepth 100000 in
theorem clone_any (I : List It) (v : Value) (w : World) (r : Rd encIt w v I) (hl : I.length ≤ 1048576) :
    Calls Try.prog 69 #[v] w fun e w' => ∃ v', e = .returned v' ∧ Own encIt w' w.heap.size w'.heap.size v' I ∧ Below w.heap.size w w' := by
  obtain ⟨a, cap, rfl⟩ := r.form
  have R : Hid (Rd encIt w (.slice a I.length cap) I) := r
  cases a with
  | none =>
    have hI : I = [] := by
      cases I with
      | nil => rfl
      | cons x q => obtain ⟨b, off, e, -⟩ := rd_item rfl rfl r 0 (by simp); cases e
    subst hI
    clear r
    have hnil : ∀ W, (binOp .eql 29 (.slice none 0 cap) (.slice none 0 0)).run Try.prog W = .ok (.bool true) W := fun W => by rw [Lib.run_eql_slice_nil W _ _ _ _ _ _ _ Try.underlying29]; rfl
    go_enter Try.func69, Try.ntmps69
    go_wp2
    go_ret
    exact ⟨_, rfl, own_zero _ _ _ _ _, Below.refl _ _⟩
  | some ad =>
    clear r
    have hnil : ∀ W, (binOp .eql 29 (.slice (some ad) I.length cap) (.slice none 0 0)).run Try.prog W = .ok (.bool false) W := fun W => by rw [Lib.run_eql_slice_nil W _ _ _ _ _ _ _ Try.underlying29]; rfl
    go_enter Try.func69, Try.ntmps69
    go_wp2_with (first | (at_builtin; refine wpList_append_g infoIt rfl _ _ 29 rfl Try.underlying29 w.heap.size _ _ [] rfl (own_zero _ _ _ 0 _) (by simp) _ I rfl (R.out.grow ((Below.refl _ _).alloc (Nat.le_refl _) _)) (by simp; omega) ?_; intro v4 w4 o4 hT4; rw [List.nil_append] at o4; have hB4 : Below w.heap.size w w4 := ((Below.refl _ _).alloc (Nat.le_refl _) _).trans hT4.low) | (fail))
    go_ret
    exact ⟨_, rfl, o4, hB4⟩
theorem cb_grow {w w' w'' : World} {b1 b2 : Nat} {u v : Value} (hB : Below w'.heap.size w' w'') (h : w'.cell? ⟨b1, 0, none⟩ = some u ∧ w'.cell? ⟨b1, 1, none⟩ = some v ∧ Cpb w b1 b2 [u, v] w') : w''.cell? ⟨b1, 0, none⟩ = some u ∧ w''.cell? ⟨b1, 1, none⟩ = some v ∧ Cpb w b1 b2 [u, v] w'' := by
  obtain ⟨q0, q1, hv⟩ := h.2.2.var
  exact cb_of ⟨h.2.2.low.trans (hB.mono h.2.2.low.size), vblk_grow h.2.2.src hB, q0, q1, vblk_grow hv hB⟩
set_option maxRecDepth 100000 in
set_option maxHeartbeats 2000000 in
theorem copyBook_any (I : List It) (X : Int) (v : Value) (w : World) (r : Rd encIt w v I) (hl : I.length ≤ 1048576) :
    Calls Try.prog 45 #[.agg #[v, .int .i64 X]] w fun e w' => ∃ v', e = .returned (.agg #[v', .int .i64 X]) ∧ Own encIt w' w.heap.size w'.heap.size v' I ∧ Below w.heap.size w w' := by
  obtain ⟨a, cap, rfl⟩ := r.form
  have R : Hid (Rd encIt w (.slice a I.length cap) I) := r
  clear r
  have m1 : Hid True := trivial
  go_enter Try.func45, Try.ntmps45
  go_wp2_with (first | (clear m1; refine wpList_box_v rfl 31 _ rfl [.slice a I.length cap, .int .i64 X] rfl ?_; intro b1 w1 hb1 hw1 hB1 hV1; have hz1 := hB1.size) | (refine wpList_alloc_v rfl 31 rfl _ zeroBk ?_; intro b2 w2 hb2 hw2 hB2 hV2; have hz2 := hB2.size; have hB12 : Below w.heap.size w w2 := hB1.trans (hB2.mono hz1)) | (fail))
  have S1 := cb_of (w := w) (b1 := b1) (b2 := b2) (w' := w2.drew) ⟨hB12.drew, hV1.of (hB2.block b1 hw1), _, _, hV2⟩
  have hne : b1 ≠ b2 := by omega
  have hlo : w.heap.size ≤ b2 := by omega
  go_region_held3 (fun w' => w'.cell? ⟨b1, 0, none⟩ = some (.slice a I.length cap) ∧ w'.cell? ⟨b1, 1, none⟩ = some (.int .i64 X) ∧ Cpb w b1 b2 [.slice a I.length cap, .int .i64 X] w') (first | with_reducible assumption | with_reducible exact cb_store hne hlo (by assumption) | with_reducible exact cb_alloc (by assumption) | with_reducible exact cb_alloc_drew (by assumption) | (fail)) (first | (go_at_call 69; refine (clone_any I _ _ (R.out.grow (cb_low (by with_reducible assumption))) hl).mono ?_; rintro e W5 ⟨v5, rfl, o5, hB5⟩; replace o5 := o5.wide (lo' := w.heap.size) (cb_size (by with_reducible assumption)) (Nat.le_refl _); have hS5 := cb_grow hB5 (by with_reducible assumption); obtain ⟨q0, q1, hv⟩ := hS5.2.2.var; obtain ⟨g0, g1⟩ := cells2 hv; have f0 := hv.frozen 0; have f1 := hv.frozen 1; obtain ⟨a5, n5, k5, rfl⟩ := o5.slice) | (fail))
  all_goals
    go_wp2
    exact row_retv rfl rfl (copy2_end hv) Try.underlying31 sizeBk rfl ⟨_, rfl, (own_store2 o5 hv (by decide)).top, cb_low (by with_reducible assumption)⟩
end Go.Proofs.Ytekladbkhplchaa.rg
