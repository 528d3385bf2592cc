/- The program's NewBook answers as the model's NewBook, in memory of its own: the law's call returns true; no condition. (the law itself lets off what has over 1048576 things and bytes): the law's call returns true and its arguments read as before; no condition. -/
import Derived.Test.YtcbhbpdlgibipaaBh1
namespace Go.Proofs.Ytcbhbpdlgibipaa.fnExactNewBook
open Go.ChangeShapes Go.WideShapes Go.ChangeAt Go.RowKit
open Go.Proofs.Ytcbhbpdlgibipaa.ce Go.Proofs.Ytcbhbpdlgibipaa.ro Go.Proofs.Ytcbhbpdlgibipaa.rg
open Go.ChangeMaps (open_string shut_string)
set_option linter.unusedVariables false

theorem own : ownKnob Try.prog.godebug = none := by kernel_rfl
theorem laidOut : laidOutB Try.prog = true := by kernel_rfl

/-! ### the walk -/
set_option maxRecDepth 100000 in
set_option maxHeartbeats 4000000 in
theorem walk  (w : World)  :
    Calls Try.prog 4 #[] w fun e w' => e = .returned (.bool true) ∧ Below w.heap.size w w' := by
  go_enter Try.func4, Try.ntmps4
  have mk1 : Hid True := trivial
  have mk2 : Hid True := trivial
  have mk3 : Hid True := trivial
  have mk4 : Hid True := trivial
  have mk5 : Hid True := trivial
  have mk6 : Hid True := trivial
  have mk7 : Hid True := trivial
  have mk8 : Hid True := trivial
  have mk9 : Hid True := trivial
  have mk10 : Hid True := trivial
  have mk11 : Hid True := trivial
  have mk12 : Hid True := trivial
  have mk13 : Hid True := trivial
  have mk14 : Hid True := trivial
  go_wp2_with (first | (clear mk1; go_at_call 13; refine (specNewBook_any _).mono ?_; rintro er w1 ⟨rfl, hB1⟩; have hz1 : w.heap.size ≤ w1.heap.size := hB1.size; have hB := hB1; have hzw := hB.size) | (clear mk2; refine wpList_alloc_v rfl 29 rfl _ zeroBk ?_; intro bw w2 hbw hwbw hB2 cw; have hz2 : w1.heap.size ≤ w2.heap.size := hB2.size; replace hB := hB.trans (hB2.mono (by omega)); replace hzw := hB.size) | (clear mk3; refine wpList_store_v rfl 29 _ _ rfl bw [.slice none 0 0, .int .i64 1] rfl rfl sizeBk cw rfl (oneBk _ _ _ _) ?_; intro w3 hO3 cwx; have hz3 : w2.heap.size ≤ w3.heap.size := (Nat.le_of_eq hO3.1.symm); have hy3 : w3.heap.size ≤ w2.heap.size := (Nat.le_of_eq hO3.1); replace hB := hB.trans (hO3.2.2 _ (by omega)); replace hzw := hB.size; clear cw; have cw := cwx; clear cwx; obtain ⟨cw0, cw1⟩ := cells2 cw) | (clear mk4; go_at_call 14; refine (implNewBook_any _).mono ?_; rintro er w4 ⟨rfl, hB4⟩; have hz4 : w3.heap.size ≤ w4.heap.size := hB4.size; replace cw := vblk_grow cw hB4; replace hB := hB.trans (hB4.mono (by omega)); replace hzw := hB.size; clear cw0 cw1; obtain ⟨cw0, cw1⟩ := cells2 cw) | (clear mk5; refine wpList_alloc_v rfl 29 rfl _ zeroBk ?_; intro bg w5 hbg hwbg hB5 cg; have hz5 : w4.heap.size ≤ w5.heap.size := hB5.size; replace cw := vblk_grow cw hB5; replace hB := hB.trans (hB5.mono (by omega)); replace hzw := hB.size; clear cw0 cw1; obtain ⟨cw0, cw1⟩ := cells2 cw) | (clear mk6; refine wpList_store_v rfl 29 _ _ rfl bg [.slice none 0 0, .int .i64 1] rfl rfl sizeBk cg rfl (oneBk _ _ _ _) ?_; intro w6 hO6 cgx; have hz6 : w5.heap.size ≤ w6.heap.size := (Nat.le_of_eq hO6.1.symm); have hy6 : w6.heap.size ≤ w5.heap.size := (Nat.le_of_eq hO6.1); replace cw := vblk_only cw hO6 (by omega); replace hB := hB.trans (hO6.2.2 _ (by omega)); replace hzw := hB.size; clear cw0 cw1; obtain ⟨cw0, cw1⟩ := cells2 cw; clear cg; have cg := cgx; clear cgx; obtain ⟨cg0, cg1⟩ := cells2 cg) | (clear mk7; go_at_call 12; refine (eqBook_any [] 1 _ _ _ (rd_zero encIt _ none 0 (Nat.zero_le _)) (rd_zero encIt _ none 0 (Nat.zero_le _))).mono ?_; rintro er w7 ⟨rfl, hB7⟩; have hz7 : w6.heap.size ≤ w7.heap.size := hB7.size; replace cw := vblk_grow cw hB7; replace cg := vblk_grow cg hB7; replace hB := hB.trans (hB7.mono (by omega)); replace hzw := hB.size; clear cw0 cw1; obtain ⟨cw0, cw1⟩ := cells2 cw; clear cg0 cg1; obtain ⟨cg0, cg1⟩ := cells2 cg) | (clear mk8; go_at_call 15; refine (markBook_any [] 1 (.slice none 0 0) w.heap.size w.heap.size 1 (by omega) (by simp) 1 rfl _ (own_zero _ _ _ _ _) (by omega)).mono ?_; rintro er w8 ⟨rfl, -, hM8, -⟩; have hz8 : w7.heap.size ≤ w8.heap.size := hM8.size; replace cw := cw.of (hM8.block _ cw.lt (by omega)); replace cg := cg.of (hM8.block _ cg.lt (by omega)); replace hB := hB.trans (hM8.below (by omega) (by omega)); replace hzw := hB.size; clear cw0 cw1; obtain ⟨cw0, cw1⟩ := cells2 cw; clear cg0 cg1; obtain ⟨cg0, cg1⟩ := cells2 cg) | (clear mk9; go_at_call 16; refine (heldBook_any 0 1 _ 1 (by omega) (by simp) 1 rfl _ (rd_zero encIt _ none 0 (Nat.zero_le _))).mono ?_; rintro er w9 ⟨rfl, hB9⟩; have hz9 : w8.heap.size ≤ w9.heap.size := hB9.size; replace cw := vblk_grow cw hB9; replace cg := vblk_grow cg hB9; replace hB := hB.trans (hB9.mono (by omega)); replace hzw := hB.size; clear cw0 cw1; obtain ⟨cw0, cw1⟩ := cells2 cw; clear cg0 cg1; obtain ⟨cg0, cg1⟩ := cells2 cg) | (clear mk10; go_at_call 14; refine (implNewBook_any _).mono ?_; rintro er w10 ⟨rfl, hB10⟩; have hz10 : w9.heap.size ≤ w10.heap.size := hB10.size; replace cw := vblk_grow cw hB10; replace cg := vblk_grow cg hB10; replace hB := hB.trans (hB10.mono (by omega)); replace hzw := hB.size; clear cw0 cw1; obtain ⟨cw0, cw1⟩ := cells2 cw; clear cg0 cg1; obtain ⟨cg0, cg1⟩ := cells2 cg) | (clear mk11; refine wpList_alloc_v rfl 29 rfl _ zeroBk ?_; intro bh w11 hbh hwbh hB11 ch; have hz11 : w10.heap.size ≤ w11.heap.size := hB11.size; replace cw := vblk_grow cw hB11; replace cg := vblk_grow cg hB11; replace hB := hB.trans (hB11.mono (by omega)); replace hzw := hB.size; clear cw0 cw1; obtain ⟨cw0, cw1⟩ := cells2 cw; clear cg0 cg1; obtain ⟨cg0, cg1⟩ := cells2 cg) | (clear mk12; refine wpList_store_v rfl 29 _ _ rfl bh [.slice none 0 0, .int .i64 1] rfl rfl sizeBk ch rfl (oneBk _ _ _ _) ?_; intro w12 hO12 chx; have hz12 : w11.heap.size ≤ w12.heap.size := (Nat.le_of_eq hO12.1.symm); have hy12 : w12.heap.size ≤ w11.heap.size := (Nat.le_of_eq hO12.1); replace cw := vblk_only cw hO12 (by omega); replace cg := vblk_only cg hO12 (by omega); replace hB := hB.trans (hO12.2.2 _ (by omega)); replace hzw := hB.size; clear cw0 cw1; obtain ⟨cw0, cw1⟩ := cells2 cw; clear cg0 cg1; obtain ⟨cg0, cg1⟩ := cells2 cg; clear ch; have ch := chx; clear chx; obtain ⟨ch0, ch1⟩ := cells2 ch) | (clear mk13; go_at_call 12; refine (eqBook_any [] 1 _ _ _ (rd_zero encIt _ none 0 (Nat.zero_le _)) (rd_zero encIt _ none 0 (Nat.zero_le _))).mono ?_; rintro er w13 ⟨rfl, hB13⟩; have hz13 : w12.heap.size ≤ w13.heap.size := hB13.size; replace cw := vblk_grow cw hB13; replace cg := vblk_grow cg hB13; replace ch := vblk_grow ch hB13; replace hB := hB.trans (hB13.mono (by omega)); replace hzw := hB.size; clear cw0 cw1; obtain ⟨cw0, cw1⟩ := cells2 cw; clear cg0 cg1; obtain ⟨cg0, cg1⟩ := cells2 cg; clear ch0 ch1; obtain ⟨ch0, ch1⟩ := cells2 ch) | (clear mk14; go_at_call 16; refine (heldBook_any 0 1 _ 1 (by omega) (by simp) 1 rfl _ (rd_zero encIt _ none 0 (Nat.zero_le _))).mono ?_; rintro er w14 ⟨rfl, hB14⟩; have hz14 : w13.heap.size ≤ w14.heap.size := hB14.size; replace cw := vblk_grow cw hB14; replace cg := vblk_grow cg hB14; replace ch := vblk_grow ch hB14; replace hB := hB.trans (hB14.mono (by omega)); replace hzw := hB.size; clear cw0 cw1; obtain ⟨cw0, cw1⟩ := cells2 cw; clear cg0 cg1; obtain ⟨cg0, cg1⟩ := cells2 cg; clear ch0 ch1; obtain ⟨ch0, ch1⟩ := cells2 ch) | (fail))
  go_ret
  exact ⟨rfl, hB⟩

/-! ### the row, by the frame -/
set_option maxRecDepth 100000 in
theorem lifted (os : Os) (started : os.Started) (H : Type) (enc : TypeId × Value → H) :
    ReturnsInHanded {} Try.checked os 4 .any (Rows.fnExactNewBookSpec.pre6 enc Try.prog Try.f4 Rows.fnExactNewBookRow.domain false) (Rows.fnExactNewBookSpec.post enc Try.prog Try.f4 false true false false) := by
  refine returnsInHanded_of_change (C := Try.checked) own started (by kernel_rfl) Try.func4
    (ChangeSpec.witness6 (enc := enc) (C := Try.checked) false ⟨#[], #[], []⟩ 8 (by kernel_rfl) (by kernel_rfl) (by kernel_rfl) (by kernel_rfl)) ?_
  intro W base args ds gs before hval0 hW hcnd _
  have hval : ∀ (j : Nat) t v, Try.f4.params[j]? = some t → args[j]? = some v → Value.okWide Try.prog W .any base t v := hval0
  have hW' := hW
  obtain ⟨p, q, hA0, hV, rfl, hfz, hnd⟩ := hW
  have hA : DataW.TrodAll enc Try.prog W 0 (fun _ => true) true Try.f4.params.toList args.toList ds p := hA0
  rw [Try.params4] at hA hval
  obtain ⟨hargs, rfl, rfl⟩ := trodAll_nil hA
  obtain rfl : args = #[] := by cases args; simp_all
  obtain ⟨rfl, rfl⟩ := trodVars_none hV
  clear hA0 hval0
  refine (walk  W ).mono fun e W' ⟨he, bel⟩ => ?_
  subst he
  exact ⟨_, rfl, _, _, _, [], _, [], hW', trodAll_mk1 (shut_bool Try.underlying4 _), trodAll_mk0, rfl, bel.frame _, fun h => by cases h⟩

theorem over : Rows.fnExactNewBookRow.holds Try.pinned (OpenSpec.ofChange Rows.fnExactNewBookSpec) :=
  OpenClaim.holds_of_wide 4 Try.f4 rfl rfl rfl rfl rfl rfl rfl ⟨rfl, rfl, rfl, rfl, rfl⟩ rfl rfl rfl rfl rfl (by kernel_rfl) Try.func4 (by kernel_rfl)
    (of_decide_eq_true (by kernel_rfl)) (by unfold Func.isWrapper; first | (rw [if_pos (by decide +kernel)]; kernel_rfl) | (rw [if_neg (by decide +kernel)]; exact ⟨rfl, rfl⟩))
    (fun os started H enc _ => lifted os started H enc)

/-- the statement -/
theorem proved : Rows.FnExactNewBookSaid := over
end Go.Proofs.Ytcbhbpdlgibipaa.fnExactNewBook

namespace Go.Proofs.Ytcbhbpdlgibipaa
/-- the statement, under its short name -/
theorem fnExactNewBook_holds : Rows.FnExactNewBookSaid := fnExactNewBook.proved
#print axioms fnExactNewBook_holds
end Go.Proofs.Ytcbhbpdlgibipaa
