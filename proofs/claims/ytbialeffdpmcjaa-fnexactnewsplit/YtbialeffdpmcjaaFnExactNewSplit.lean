/- The program's NewSplit answers as the model's NewSplit, in memory of its own (the law itself lets off what has over 1048576 keys): the law's call returns true and its arguments read as before; no condition. -/
import Derived.Test.YtbialeffdpmcjaaSh1
import Derived.Test.YtbialeffdpmcjaaSz3
namespace Go.Proofs.Ytbialeffdpmcjaa.fnExactNewSplit
open Go.ChangeShapes Go.WideShapes Go.ChangeAt Go.RowKit
open Go.Proofs.Ytbialeffdpmcjaa.ce Go.Proofs.Ytbialeffdpmcjaa.sx
set_option linter.unusedVariables false

theorem own : ownKnob Try.prog.godebug = none := by kernel_rfl
theorem laidOut : laidOutB Try.prog = true := by kernel_rfl

/-! ### the walk -/
set_option maxRecDepth 100000 in
set_option maxHeartbeats 4000000 in
theorem walk  (w : World)  :
    Calls Try.prog 4 #[] w fun e w' => e = .returned (.bool true) ∧ Below w.heap.size w w' := by
  have hsn : ¬ ((1 : Int) + 1 < 0) := by omega
  go_enter Try.func4, Try.ntmps4
  have mk1 : Hid True := trivial
  have mk2 : Hid True := trivial
  have mk3 : Hid True := trivial
  have mk4 : Hid True := trivial
  have mk5 : Hid True := trivial
  have mk6 : Hid True := trivial
  have mk7 : Hid True := trivial
  have mk8 : Hid True := trivial
  have mk9 : Hid True := trivial
  have mk10 : Hid True := trivial
  have mk11 : Hid True := trivial
  have mk12 : Hid True := trivial
  have mk13 : Hid True := trivial
  have mk14 : Hid True := trivial
  go_wp2_with (first | (clear mk1; go_at_call 17; refine (specNewSplit_all _).mono ?_; rintro er w1 ⟨vw, rfl, ow, hB1⟩; have hz1 : w.heap.size ≤ w1.heap.size := hB1.size; have hB := hB1; have hzw := hB.size; obtain ⟨Aw, Nw, Kw, rfl⟩ := own_slice ow) | (clear mk2; refine wpList_alloc_v rfl 27 rfl _ zeroSp ?_; intro bw w2 hbw hwbw hB2 hVbw; have hz2 : w1.heap.size ≤ w2.heap.size := hB2.size; replace ow := ow.below hB2 (by omega); replace hB := hB.trans (hB2.mono (by omega)); replace hzw := hB.size; have cw : SV w2 bw 27 (.int .i64 0) (.slice none 0 0) := ⟨hVbw⟩; clear hVbw; obtain ⟨cw0, cw1⟩ := cw.cells) | (clear mk3; refine wpList_store_v rfl 27 _ _ rfl bw [.int .i64 1, .slice Aw Nw Kw] rfl rfl sizeSp cw.blk rfl (by simp [Value.oneCell']) ?_; intro w3 hO3 hVbw; have hz3 : w2.heap.size ≤ w3.heap.size := (Nat.le_of_eq hO3.1.symm); replace ow := ow.keep (w' := w3) (fun k g1 g2 => hO3.2.1 k (by omega)); replace hB := hB.trans (hO3.2.2 _ (by omega)); replace hzw := hB.size; replace cw : SV w3 bw 27 (.int .i64 1) (.slice Aw Nw Kw) := ⟨hVbw⟩; clear hVbw; clear cw0 cw1; obtain ⟨cw0, cw1⟩ := cw.cells) | (clear mk4; go_at_call 18; refine (implNewSplit_all _).mono ?_; rintro er w4 ⟨vg, rfl, og, hB4⟩; have hz4 : w3.heap.size ≤ w4.heap.size := hB4.size; replace ow := ow.below hB4 (by omega); replace cw := cw.below hB4 (by omega); replace hB := hB.trans (hB4.mono (by omega)); replace hzw := hB.size; clear cw0 cw1; obtain ⟨cw0, cw1⟩ := cw.cells; obtain ⟨Ag, Ng, Kg, rfl⟩ := own_slice og) | (clear mk5; refine wpList_alloc_v rfl 27 rfl _ zeroSp ?_; intro bg w5 hbg hwbg hB5 hVbg; have hz5 : w4.heap.size ≤ w5.heap.size := hB5.size; replace ow := ow.below hB5 (by omega); replace og := og.below hB5 (by omega); replace cw := cw.below hB5 (by omega); replace hB := hB.trans (hB5.mono (by omega)); replace hzw := hB.size; clear cw0 cw1; obtain ⟨cw0, cw1⟩ := cw.cells; have cg : SV w5 bg 27 (.int .i64 0) (.slice none 0 0) := ⟨hVbg⟩; clear hVbg; obtain ⟨cg0, cg1⟩ := cg.cells) | (clear mk6; refine wpList_store_v rfl 27 _ _ rfl bg [.int .i64 1, .slice Ag Ng Kg] rfl rfl sizeSp cg.blk rfl (by simp [Value.oneCell']) ?_; intro w6 hO6 hVbg; have hz6 : w5.heap.size ≤ w6.heap.size := (Nat.le_of_eq hO6.1.symm); replace ow := ow.keep (w' := w6) (fun k g1 g2 => hO6.2.1 k (by omega)); replace og := og.keep (w' := w6) (fun k g1 g2 => hO6.2.1 k (by omega)); replace cw := cw.keep (w' := w6) (fun k g1 g2 => hO6.2.1 k (by omega)); replace hB := hB.trans (hO6.2.2 _ (by omega)); replace hzw := hB.size; clear cw0 cw1; obtain ⟨cw0, cw1⟩ := cw.cells; replace cg : SV w6 bg 27 (.int .i64 1) (.slice Ag Ng Kg) := ⟨hVbg⟩; clear hVbg; clear cg0 cg1; obtain ⟨cg0, cg1⟩ := cg.cells) | (clear mk7; go_at_call 16; refine (eqSplit_any 1 [0] _ _ w4.heap.size w1.heap.size _ (by omega) (by omega) og.rd ow.rd).mono ?_; rintro er w7 ⟨rfl, hB7⟩; have hz7 : w6.heap.size ≤ w7.heap.size := hB7.size; replace ow := ow.below hB7 (by omega); replace og := og.below hB7 (by omega); replace cw := cw.below hB7 (by omega); replace cg := cg.below hB7 (by omega); replace hB := hB.trans (hB7.mono (by omega)); replace hzw := hB.size; clear cw0 cw1; obtain ⟨cw0, cw1⟩ := cw.cells; clear cg0 cg1; obtain ⟨cg0, cg1⟩ := cg.cells) | (clear mk8; go_at_call 19; refine (markSplit_any 1 [0] _ _ _ _ (by omega) og (by simp)).mono ?_; rintro er w8 ⟨rfl, pg, hM8⟩; have hz8 : w7.heap.size ≤ w8.heap.size := hM8.size; replace ow := ow.keep (w' := w8) (fun k g1 g2 => hM8.block k (by omega) (by omega)); replace cw := cw.keep (w' := w8) (fun k g1 g2 => hM8.block k (by omega) (by omega)); replace cg := cg.keep (w' := w8) (fun k g1 g2 => hM8.block k (by omega) (by omega)); replace hB := hB.trans (hM8.below (by omega) (by omega)); replace hzw := hB.size; clear cw0 cw1; obtain ⟨cw0, cw1⟩ := cw.cells; clear cg0 cg1; obtain ⟨cg0, cg1⟩ := cg.cells) | (clear mk9; go_at_call 20; refine (heldSplit_any 1 1 _ w4.heap.size _ (by omega) pg.rd (by omega)).mono ?_; rintro er w9 ⟨rfl, hB9⟩; have hz9 : w8.heap.size ≤ w9.heap.size := hB9.size; replace ow := ow.below hB9 (by omega); replace pg := pg.below hB9 (by omega); replace cw := cw.below hB9 (by omega); replace cg := cg.below hB9 (by omega); replace hB := hB.trans (hB9.mono (by omega)); replace hzw := hB.size; clear cw0 cw1; obtain ⟨cw0, cw1⟩ := cw.cells; clear cg0 cg1; obtain ⟨cg0, cg1⟩ := cg.cells) | (clear mk10; go_at_call 18; refine (implNewSplit_all _).mono ?_; rintro er w10 ⟨vh, rfl, oh, hB10⟩; have hz10 : w9.heap.size ≤ w10.heap.size := hB10.size; replace ow := ow.below hB10 (by omega); replace pg := pg.below hB10 (by omega); replace cw := cw.below hB10 (by omega); replace cg := cg.below hB10 (by omega); replace hB := hB.trans (hB10.mono (by omega)); replace hzw := hB.size; clear cw0 cw1; obtain ⟨cw0, cw1⟩ := cw.cells; clear cg0 cg1; obtain ⟨cg0, cg1⟩ := cg.cells; obtain ⟨Ah, Nh, Kh, rfl⟩ := own_slice oh) | (clear mk11; refine wpList_alloc_v rfl 27 rfl _ zeroSp ?_; intro bh w11 hbh hwbh hB11 hVbh; have hz11 : w10.heap.size ≤ w11.heap.size := hB11.size; replace ow := ow.below hB11 (by omega); replace pg := pg.below hB11 (by omega); replace oh := oh.below hB11 (by omega); replace cw := cw.below hB11 (by omega); replace cg := cg.below hB11 (by omega); replace hB := hB.trans (hB11.mono (by omega)); replace hzw := hB.size; clear cw0 cw1; obtain ⟨cw0, cw1⟩ := cw.cells; clear cg0 cg1; obtain ⟨cg0, cg1⟩ := cg.cells; have ch : SV w11 bh 27 (.int .i64 0) (.slice none 0 0) := ⟨hVbh⟩; clear hVbh; obtain ⟨ch0, ch1⟩ := ch.cells) | (clear mk12; refine wpList_store_v rfl 27 _ _ rfl bh [.int .i64 1, .slice Ah Nh Kh] rfl rfl sizeSp ch.blk rfl (by simp [Value.oneCell']) ?_; intro w12 hO12 hVbh; have hz12 : w11.heap.size ≤ w12.heap.size := (Nat.le_of_eq hO12.1.symm); replace ow := ow.keep (w' := w12) (fun k g1 g2 => hO12.2.1 k (by omega)); replace pg := pg.keep (w' := w12) (fun k g1 g2 => hO12.2.1 k (by omega)); replace oh := oh.keep (w' := w12) (fun k g1 g2 => hO12.2.1 k (by omega)); replace cw := cw.keep (w' := w12) (fun k g1 g2 => hO12.2.1 k (by omega)); replace cg := cg.keep (w' := w12) (fun k g1 g2 => hO12.2.1 k (by omega)); replace hB := hB.trans (hO12.2.2 _ (by omega)); replace hzw := hB.size; clear cw0 cw1; obtain ⟨cw0, cw1⟩ := cw.cells; clear cg0 cg1; obtain ⟨cg0, cg1⟩ := cg.cells; replace ch : SV w12 bh 27 (.int .i64 1) (.slice Ah Nh Kh) := ⟨hVbh⟩; clear hVbh; clear ch0 ch1; obtain ⟨ch0, ch1⟩ := ch.cells) | (clear mk13; go_at_call 16; refine (eqSplit_any 1 [0] _ _ w10.heap.size w1.heap.size _ (by omega) (by omega) oh.rd ow.rd).mono ?_; rintro er w13 ⟨rfl, hB13⟩; have hz13 : w12.heap.size ≤ w13.heap.size := hB13.size; replace ow := ow.below hB13 (by omega); replace pg := pg.below hB13 (by omega); replace oh := oh.below hB13 (by omega); replace cw := cw.below hB13 (by omega); replace cg := cg.below hB13 (by omega); replace ch := ch.below hB13 (by omega); replace hB := hB.trans (hB13.mono (by omega)); replace hzw := hB.size; clear cw0 cw1; obtain ⟨cw0, cw1⟩ := cw.cells; clear cg0 cg1; obtain ⟨cg0, cg1⟩ := cg.cells; clear ch0 ch1; obtain ⟨ch0, ch1⟩ := ch.cells) | (clear mk14; go_at_call 20; refine (heldSplit_any 1 1 _ w4.heap.size _ (by omega) pg.rd (by omega)).mono ?_; rintro er w14 ⟨rfl, hB14⟩; have hz14 : w13.heap.size ≤ w14.heap.size := hB14.size; replace ow := ow.below hB14 (by omega); replace pg := pg.below hB14 (by omega); replace oh := oh.below hB14 (by omega); replace cw := cw.below hB14 (by omega); replace cg := cg.below hB14 (by omega); replace ch := ch.below hB14 (by omega); replace hB := hB.trans (hB14.mono (by omega)); replace hzw := hB.size; clear cw0 cw1; obtain ⟨cw0, cw1⟩ := cw.cells; clear cg0 cg1; obtain ⟨cg0, cg1⟩ := cg.cells; clear ch0 ch1; obtain ⟨ch0, ch1⟩ := ch.cells) | (fail))
  go_ret
  exact ⟨rfl, hB⟩

/-! ### the row, by the frame -/
set_option maxRecDepth 100000 in
theorem lifted (os : Os) (started : os.Started) (H : Type) (enc : TypeId × Value → H) :
    ReturnsInHanded {} Try.checked os 4 .any (Rows.fnExactNewSplitSpec.pre6 enc Try.prog Try.f4 Rows.fnExactNewSplitRow.domain false) (Rows.fnExactNewSplitSpec.post enc Try.prog Try.f4 false true false false) := by
  refine returnsInHanded_of_change (C := Try.checked) own started (by kernel_rfl) Try.func4
    (ChangeSpec.witness6 (enc := enc) (C := Try.checked) false ⟨#[], #[], []⟩ 8 (by kernel_rfl) (by kernel_rfl) (by kernel_rfl) (by kernel_rfl)) ?_
  intro W base args ds gs before hval0 hW hcnd _
  have hval : ∀ (j : Nat) t v, Try.f4.params[j]? = some t → args[j]? = some v → Value.okWide Try.prog W .any base t v := hval0
  have hW' := hW
  obtain ⟨p, q, hA0, hV, rfl, hfz, hnd⟩ := hW
  have hA : DataW.TrodAll enc Try.prog W 0 (fun _ => true) true Try.f4.params.toList args.toList ds p := hA0
  rw [Try.params4] at hA hval
  obtain ⟨hargs, rfl, rfl⟩ := trodAll_nil hA
  obtain rfl : args = #[] := by cases args; simp_all
  obtain ⟨rfl, rfl⟩ := trodVars_none hV
  clear hA0 hval0
  refine (walk  W ).mono fun e W' ⟨he, bel⟩ => ?_
  subst he
  exact ⟨_, rfl, _, _, _, [], _, [], hW', trodAll_mk1 (shut_bool Try.underlying4 _), trodAll_mk0, rfl, bel.frame _, fun h => by cases h⟩

theorem over : Rows.fnExactNewSplitRow.holds Try.pinned (OpenSpec.ofChange Rows.fnExactNewSplitSpec) :=
  OpenClaim.holds_of_wide 4 Try.f4 rfl rfl rfl rfl rfl rfl rfl ⟨rfl, rfl, rfl, rfl, rfl⟩ rfl rfl rfl rfl rfl (by kernel_rfl) Try.func4 (by kernel_rfl)
    (of_decide_eq_true (by kernel_rfl)) (by unfold Func.isWrapper; first | (rw [if_pos (by decide +kernel)]; kernel_rfl) | (rw [if_neg (by decide +kernel)]; exact ⟨rfl, rfl⟩))
    (fun os started H enc _ => lifted os started H enc)

/-- the statement -/
theorem proved : Rows.FnExactNewSplitSaid := over
end Go.Proofs.Ytbialeffdpmcjaa.fnExactNewSplit

namespace Go.Proofs.Ytbialeffdpmcjaa
/-- the statement, under its short name -/
theorem fnExactNewSplit_holds : Rows.FnExactNewSplitSaid := fnExactNewSplit.proved
#print axioms fnExactNewSplit_holds
end Go.Proofs.Ytbialeffdpmcjaa
