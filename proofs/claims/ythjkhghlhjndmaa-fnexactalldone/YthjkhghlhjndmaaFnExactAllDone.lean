/- For every crew the program's AllDone answers as the model's AllDone and writes into nothing that it was given (the law itself lets off what is over 1048576 cells or hands): the law's call returns true and its arguments read as before; no condition. -/
import Derived.Test.YthjkhghlhjndmaaMg08
import Derived.Test.YthjkhghlhjndmaaMg14
import Derived.Test.YthjkhghlhjndmaaMg22
namespace Go.Proofs.Ythjkhghlhjndmaa.fnExactAllDone
open Go.ChangeShapes Go.WideShapes Go.ChangeAt Go.RowKit
open Go.Proofs.Ythjkhghlhjndmaa.ce
set_option linter.unusedVariables false

theorem own : ownKnob Try.prog.godebug = none := by kernel_rfl
theorem laidOut : laidOutB Try.prog = true := by kernel_rfl

/-! ### the walk -/
set_option maxRecDepth 100000 in
set_option maxHeartbeats 4000000 in
theorem walk (vH vD : Value) (H : List C) (ds : List Hd) (w : World) (hvH : Rd w w.heap.size vH H) (hvD : RdH w w.heap.size vD ds) (hnil : NilOk vD) :
    Calls Try.prog 7 #[.agg #[vH, vD]] w fun e w' => e = .returned (.bool true) ∧ Below w.heap.size w w' := by
  obtain ⟨a, cap, rfl⟩ := hvH.form
  obtain ⟨c, dc, rfl⟩ := hvD.form
  have RH : Hid (Rd w w.heap.size (.slice a H.length cap) H) := hvH
  have RD : Hid (RdH w w.heap.size (.slice c ds.length dc) ds) := hvD
  clear hvH hvD hnil
  obtain ⟨z, hZ⟩ := hid_ex (allB H ds)
  have hzz : (z != z) = false := by simp
  go_enter Try.func7, Try.ntmps7
  have mk1 : Hid True := trivial
  have mk2 : Hid True := trivial
  go_wp2_with (first | (clear mk1; refine wpList_box_v rfl 25 _ rfl [.slice a H.length cap, .slice c ds.length dc] rfl ?_; intro ba w1 hba hwba hB1 hVba; have hz1 : w.heap.size ≤ w1.heap.size := hB1.size; have hB := hB1; have hzw := hB.size; have ac : CV w1 ba 25 (.slice a H.length cap) (.slice c ds.length dc) := ⟨hVba⟩; clear hVba; obtain ⟨ac0, ac1⟩ := ac.cells) | (clear mk2; go_at_call 11; refine (szCrew_any H ds _ _ w.heap.size _ (RH.out.below hB (Nat.le_refl _)) (RD.out.below hB (Nat.le_refl _))).mono ?_; rintro er w2 ⟨r, rfl, hB2, hr⟩; have hz2 : w1.heap.size ≤ w2.heap.size := hB2.size; replace ac := ac.below hB2 (by omega); replace hB := hB.trans (hB2.mono (by omega)); replace hzw := hB.size; clear ac0 ac1; obtain ⟨ac0, ac1⟩ := ac.cells; by_cases hneg : r < 0) | (fail))
  · go_ret
    exact ⟨rfl, hB⟩
  have hlH := (hr (by omega)).1
  have hlD := (hr (by omega)).2
  have mk3 : Hid True := trivial
  have mk4 : Hid True := trivial
  have mk5 : Hid True := trivial
  have mk6 : Hid True := trivial
  have mk7 : Hid True := trivial
  have mk8 : Hid True := trivial
  go_wp2_with (first | (clear mk3; go_at_call 13; refine (toCrew_any H ds _ _ w.heap.size _ (by omega) (RH.out.below hB (Nat.le_refl _)) (RD.out.below hB (Nat.le_refl _)) hlH hlD).mono ?_; rintro er w3 ⟨vtH, vtD, rfl, otH, otD, hB3⟩; have hz3 : w2.heap.size ≤ w3.heap.size := hB3.size; replace ac := ac.below hB3 (by omega); replace hB := hB.trans (hB3.mono (by omega)); replace hzw := hB.size; clear ac0 ac1; obtain ⟨ac0, ac1⟩ := ac.cells; have nt := otD.nilOk; obtain ⟨At, Kt, rfl⟩ := otH.rd.form; obtain ⟨Dt, Mt, rfl⟩ := otD.rd.form) | (clear mk4; go_at_call 31; refine (specAllDone_any H ds _ _ w3.heap.size _ (by omega) otH.rd otD.rd).mono ?_; rintro er w4 ⟨he, hB4⟩; have hz4 : w3.heap.size ≤ w4.heap.size := hB4.size; replace ac := ac.below hB4 (by omega); replace hB := hB.trans (hB4.mono (by omega)); replace hzw := hB.size; clear ac0 ac1; obtain ⟨ac0, ac1⟩ := ac.cells; rw [hZ.out] at he; subst he) | (clear mk5; go_at_call 13; refine (toCrew_any H ds _ _ w.heap.size _ (by omega) (RH.out.below hB (Nat.le_refl _)) (RD.out.below hB (Nat.le_refl _)) hlH hlD).mono ?_; rintro er w5 ⟨vxH, vxD, rfl, oxH, oxD, hB5⟩; have hz5 : w4.heap.size ≤ w5.heap.size := hB5.size; replace ac := ac.below hB5 (by omega); replace hB := hB.trans (hB5.mono (by omega)); replace hzw := hB.size; clear ac0 ac1; obtain ⟨ac0, ac1⟩ := ac.cells; have nx := oxD.nilOk; obtain ⟨Ax, Kx, rfl⟩ := oxH.rd.form; obtain ⟨Dx, Mx, rfl⟩ := oxD.rd.form) | (clear mk6; refine wpList_alloc_v rfl 31 rfl _ zeroCr ?_; intro bx w6 hbx hwbx hB6 hVbx; have hz6 : w5.heap.size ≤ w6.heap.size := hB6.size; replace oxH := oxH.below hB6 (by omega); replace oxD := oxD.below hB6 (by omega); replace ac := ac.below hB6 (by omega); replace hB := hB.trans (hB6.mono (by omega)); replace hzw := hB.size; clear ac0 ac1; obtain ⟨ac0, ac1⟩ := ac.cells) | (clear mk7; refine wpList_store_v rfl 31 _ _ rfl bx [.slice Ax H.length Kx, .slice Dx ds.length Mx] rfl rfl sizeCr hVbx rfl (by simp [Value.oneCell']) ?_; intro w7 hO7 hNbx; have hz7 : w6.heap.size ≤ w7.heap.size := (Nat.le_of_eq hO7.1.symm); replace oxH := oxH.keep (w' := w7) (fun k g1 g2 => hO7.2.1 k (by omega)); replace oxD := oxD.keep (w' := w7) (fun k g1 g2 => hO7.2.1 k (by omega)); replace ac := ac.keep (w' := w7) (fun k g1 g2 => hO7.2.1 k (by omega)); replace hB := hB.trans (hO7.2.2 _ (by omega)); replace hzw := hB.size; clear ac0 ac1; obtain ⟨ac0, ac1⟩ := ac.cells; have cx : CV w7 bx 31 (.slice Ax H.length Kx) (.slice Dx ds.length Mx) := ⟨hNbx⟩; clear hVbx hNbx; obtain ⟨cx0, cx1⟩ := cx.cells) | (clear mk8; go_at_call 32; refine (implAllDone_any H ds _ _ w5.heap.size _ (by omega) oxH.rd oxD.rd).mono ?_; rintro er w8 ⟨he, hB8⟩; have hz8 : w7.heap.size ≤ w8.heap.size := hB8.size; replace oxH := oxH.below hB8 (by omega); replace oxD := oxD.below hB8 (by omega); replace ac := ac.below hB8 (by omega); replace cx := cx.below hB8 (by omega); replace hB := hB.trans (hB8.mono (by omega)); replace hzw := hB.size; clear ac0 ac1; obtain ⟨ac0, ac1⟩ := ac.cells; clear cx0 cx1; obtain ⟨cx0, cx1⟩ := cx.cells; rw [hZ.out] at he; subst he) | (fail))
  have hBd : Below w8.heap.size w8 w8.drew := (Below.refl _ _).drew
  have hzd : w8.drew.heap.size = w8.heap.size := rfl
  have S1 : (w8.drew.cell? ⟨bx, 0, none⟩ = some (.slice Ax H.length Kx) ∧ w8.drew.cell? ⟨bx, 1, none⟩ = some (.slice Dx ds.length Mx) ∧ w8.drew.cell? ⟨ba, 0, none⟩ = some (.slice a H.length cap) ∧ w8.drew.cell? ⟨ba, 1, none⟩ = some (.slice c ds.length dc)) := ⟨cx0, cx1, ac0, ac1⟩
  have mk9 : Hid True := trivial
  have mk10 : Hid True := trivial
  go_region_held3 (fun w' => (w'.cell? ⟨bx, 0, none⟩ = some (.slice Ax H.length Kx) ∧ w'.cell? ⟨bx, 1, none⟩ = some (.slice Dx ds.length Mx) ∧ w'.cell? ⟨ba, 0, none⟩ = some (.slice a H.length cap) ∧ w'.cell? ⟨ba, 1, none⟩ = some (.slice c ds.length dc))) (first | assumption | exact S1) (first | (clear mk9; go_at_call 13; refine (toCrew_any H ds _ _ w.heap.size w8.drew (by omega) (RH.out.below (hB.trans (hBd.mono (by omega))) (Nat.le_refl _)) (RD.out.below (hB.trans (hBd.mono (by omega))) (Nat.le_refl _)) hlH hlD).mono ?_; rintro er w9 ⟨vyH, vyD, rfl, oyH, oyD, hBe⟩; have hB9 : Below w8.heap.size w8 w9 := hBd.trans (hBe.mono (by omega)); have hz9 : w8.heap.size ≤ w9.heap.size := hB9.size; replace oxH := oxH.below hB9 (by omega); replace oxD := oxD.below hB9 (by omega); replace ac := ac.below hB9 (by omega); replace cx := cx.below hB9 (by omega); replace hB := hB.trans (hB9.mono (by omega)); replace hzw := hB.size; clear ac0 ac1; obtain ⟨ac0, ac1⟩ := ac.cells; clear cx0 cx1; obtain ⟨cx0, cx1⟩ := cx.cells; obtain ⟨Ay, Ky, rfl⟩ := oyH.rd.form; obtain ⟨Dy, My, rfl⟩ := oyD.rd.form; have S2 : (w9.cell? ⟨bx, 0, none⟩ = some (.slice Ax H.length Kx) ∧ w9.cell? ⟨bx, 1, none⟩ = some (.slice Dx ds.length Mx) ∧ w9.cell? ⟨ba, 0, none⟩ = some (.slice a H.length cap) ∧ w9.cell? ⟨ba, 1, none⟩ = some (.slice c ds.length dc)) := ⟨cx0, cx1, ac0, ac1⟩) | (clear mk10; go_at_call 15; refine (eqCrew_any H ds _ _ _ _ w5.heap.size w9.heap.size _ (by omega) (by omega) oxH.rd oxD.rd (oyH.rd.wide (by omega)) (oyD.rd.wide (by omega))).mono ?_; rintro er w10 ⟨rfl, hB10⟩; have hz10 : w9.heap.size ≤ w10.heap.size := hB10.size; replace oxH := oxH.below hB10 (by omega); replace oxD := oxD.below hB10 (by omega); replace ac := ac.below hB10 (by omega); replace cx := cx.below hB10 (by omega); replace hB := hB.trans (hB10.mono (by omega)); replace hzw := hB.size; clear ac0 ac1; obtain ⟨ac0, ac1⟩ := ac.cells; clear cx0 cx1; obtain ⟨cx0, cx1⟩ := cx.cells; have S3 : (w10.cell? ⟨bx, 0, none⟩ = some (.slice Ax H.length Kx) ∧ w10.cell? ⟨bx, 1, none⟩ = some (.slice Dx ds.length Mx) ∧ w10.cell? ⟨ba, 0, none⟩ = some (.slice a H.length cap) ∧ w10.cell? ⟨ba, 1, none⟩ = some (.slice c ds.length dc)) := ⟨cx0, cx1, ac0, ac1⟩) | (fail))
  clear S1 S2 S3 oyH oyD hBe hBd hzd
  go_wp2
  go_ret
  exact ⟨rfl, hB⟩

/-! ### the row, by the frame -/
set_option maxRecDepth 100000 in
theorem lifted (os : Os) (started : os.Started) (H : Type) (enc : TypeId × Value → H) :
    ReturnsInHanded {} Try.checked os 7 .any (Rows.fnExactAllDoneSpec.pre6 enc Try.prog Try.f7 Rows.fnExactAllDoneRow.domain false) (Rows.fnExactAllDoneSpec.post enc Try.prog Try.f7 false true false false) := by
  refine returnsInHanded_of_change (C := Try.checked) own started (by kernel_rfl) Try.func7
    (ChangeSpec.witness6 (enc := enc) (C := Try.checked) false ⟨#[], #[.agg #[.slice none 0 0, .slice none 0 0]], []⟩ 8 (by kernel_rfl) (by kernel_rfl) (by kernel_rfl) (by kernel_rfl)) ?_
  intro W base args ds gs before hval0 hW hcnd _
  have hval : ∀ (j : Nat) t v, Try.f7.params[j]? = some t → args[j]? = some v → Value.okWide Try.prog W .any base t v := hval0
  have hW' := hW
  obtain ⟨p, q, hA0, hV, rfl, hfz, hnd⟩ := hW
  have hA : DataW.TrodAll enc Try.prog W 0 (fun _ => true) true Try.f7.params.toList args.toList ds p := hA0
  rw [Try.params7] at hA hval
  obtain ⟨v0, vs0, d0, ds0, p0, q0, hargs, rfl, rfl, h0, r0⟩ := trodAll_cons hA
  obtain ⟨rfl, rfl, rfl⟩ := trodAll_nil r0
  obtain rfl : args = #[v0] := by cases args; simp_all
  obtain ⟨rfl, rfl⟩ := trodVars_none hV
  have k0 := h0
  have lt0 : ∀ x ∈ p0, x.block < W.heap.size := by obtain ⟨m, hm⟩ := k0; exact DataW.trod_lt m _ _ _ hm
  obtain ⟨u0, x0, rfl, G0, es0, hG0, hE0, hN0⟩ := open_crew (hval 0 25 v0 rfl rfl) h0
  clear hA0 hval0
  refine (walk u0 x0 G0 es0 W hG0 hE0 hN0).mono fun e W' ⟨he, bel⟩ => ?_
  subst he
  exact ⟨_, rfl, _, _, _, [], _, [], hW', trodAll_mk1 (shut_bool Try.underlying4 _), (trodAll_cons_mk (Below.trod laidOut (by kernel_rfl) (of_decide_eq_true (by kernel_rfl)) k0 bel lt0) trodAll_mk0), rfl, bel.frame _, fun h => by cases h⟩

theorem over : Rows.fnExactAllDoneRow.holds Try.pinned (OpenSpec.ofChange Rows.fnExactAllDoneSpec) :=
  OpenClaim.holds_of_wide 7 Try.f7 rfl rfl rfl rfl rfl rfl rfl ⟨rfl, rfl, rfl, rfl, rfl⟩ rfl rfl rfl rfl rfl (by kernel_rfl) Try.func7 (by kernel_rfl)
    (of_decide_eq_true (by kernel_rfl)) (by unfold Func.isWrapper; first | (rw [if_pos (by decide +kernel)]; kernel_rfl) | (rw [if_neg (by decide +kernel)]; exact ⟨rfl, rfl⟩))
    (fun os started H enc _ => lifted os started H enc)

/-- the statement -/
theorem proved : Rows.FnExactAllDoneSaid := over
end Go.Proofs.Ythjkhghlhjndmaa.fnExactAllDone

namespace Go.Proofs.Ythjkhghlhjndmaa
/-- the statement, under its short name -/
theorem fnExactAllDone_holds : Rows.FnExactAllDoneSaid := fnExactAllDone.proved
#print axioms fnExactAllDone_holds
end Go.Proofs.Ythjkhghlhjndmaa
