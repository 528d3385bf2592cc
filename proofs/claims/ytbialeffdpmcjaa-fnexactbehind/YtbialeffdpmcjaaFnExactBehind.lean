/- For every split and number the program's Behind answers as the model's Behind, in memory of its own (the law itself lets off what has over 1048576 keys): the law's call returns true and its arguments read as before; no condition. -/
import Derived.Test.YtbialeffdpmcjaaSh1
import Derived.Test.YtbialeffdpmcjaaSz5
namespace Go.Proofs.Ytbialeffdpmcjaa.fnExactBehind
open Go.ChangeShapes Go.WideShapes Go.ChangeAt Go.RowKit
open Go.Proofs.Ytbialeffdpmcjaa.ce Go.Proofs.Ytbialeffdpmcjaa.sx
set_option linter.unusedVariables false

theorem own : ownKnob Try.prog.godebug = none := by kernel_rfl
theorem laidOut : laidOutB Try.prog = true := by kernel_rfl

/-! ### the walk -/
set_option maxRecDepth 100000 in
set_option maxHeartbeats 4000000 in
theorem walk (n : Int) (v : Value) (ks : List Int) (b : Int) (w : World) (hv : RdI w w.heap.size v ks) (hb63 : ∀ k ∈ ks, k ≤ 9223372036854775807) :
    Calls Try.prog 8 #[.agg #[.int .i64 n, v], .int .i64 b] w fun e w' => e = .returned (.bool true) ∧ Below w.heap.size w w' := by
  have hl := hv.len
  obtain ⟨a, cap, rfl⟩ := hv.form
  have R : Hid (RdI w w.heap.size (.slice a ks.length cap) ks) := hv
  have K63 : Hid (∀ k ∈ ks, k ≤ 9223372036854775807) := hb63
  clear hv hb63
  have hsL := beL_len n ks b
  obtain ⟨L, hL⟩ := hid_ex (beL n ks b)
  rw [hL.out] at hsL
  have hsn : ¬ (1 + (L.length : Int) < 0) := by omega
  have hse : ((1 + (L.length : Int)) != (1 + (L.length : Int))) = false := by simp
  have hsd : decide (1 + (ks.length : Int) < 0) = false := decide_eq_false (by omega)
  go_enter Try.func8, Try.ntmps8
  have mk1 : Hid True := trivial
  have mk2 : Hid True := trivial
  go_wp2_with (first | (clear mk1; refine wpList_box_v rfl 24 _ rfl [.int .i64 n, .slice a ks.length cap] rfl ?_; intro ba w1 hba hwba hB1 hVba; have hz1 : w.heap.size ≤ w1.heap.size := hB1.size; have hB := hB1; have hzw := hB.size; have ca : SV w1 ba 24 (.int .i64 n) (.slice a ks.length cap) := ⟨hVba⟩; clear hVba; obtain ⟨ca0, ca1⟩ := ca.cells) | (clear mk2; go_at_call 12; refine (szSplit_any n ks _ w.heap.size _ (R.out.below hB (Nat.le_refl _))).mono ?_; rintro er w2 ⟨r, rfl, hB2, hr⟩; have hz2 : w1.heap.size ≤ w2.heap.size := hB2.size; replace ca := ca.below hB2 (by omega); replace hB := hB.trans (hB2.mono (by omega)); replace hzw := hB.size; clear ca0 ca1; obtain ⟨ca0, ca1⟩ := ca.cells; by_cases hneg : r < 0) | (fail))
  · go_ret
    exact ⟨rfl, hB⟩
  have hlen := hr (by omega)
  have mk3 : Hid True := trivial
  have mk4 : Hid True := trivial
  have mk5 : Hid True := trivial
  have mk6 : Hid True := trivial
  have mk7 : Hid True := trivial
  have mk8 : Hid True := trivial
  have mk9 : Hid True := trivial
  go_wp2_with (first | (clear mk3; go_at_call 14; refine (toSplit_any n ks _ w.heap.size _ (by omega) (R.out.below hB (Nat.le_refl _)) hlen).mono ?_; rintro er w3 ⟨vt, rfl, ot, hB3⟩; have hz3 : w2.heap.size ≤ w3.heap.size := hB3.size; replace ca := ca.below hB3 (by omega); replace hB := hB.trans (hB3.mono (by omega)); replace hzw := hB.size; clear ca0 ca1; obtain ⟨ca0, ca1⟩ := ca.cells; obtain ⟨At, Nt, Kt, rfl⟩ := own_slice ot) | (clear mk4; go_at_call 27; refine (specBehind_all n ks K63.out _ w3.heap.size _ (by omega) ot.rd b).mono ?_; rintro er w4 ⟨vw, rfl, ow, hB4⟩; have hz4 : w3.heap.size ≤ w4.heap.size := hB4.size; replace ca := ca.below hB4 (by omega); replace hB := hB.trans (hB4.mono (by omega)); replace hzw := hB.size; clear ca0 ca1; obtain ⟨ca0, ca1⟩ := ca.cells; rw [hL.out] at ow; obtain ⟨Aw, Nw, Kw, rfl⟩ := own_slice ow) | (clear mk5; go_at_call 14; refine (toSplit_any n ks _ w.heap.size _ (by omega) (R.out.below hB (Nat.le_refl _)) hlen).mono ?_; rintro er w5 ⟨vx, rfl, ox, hB5⟩; have hz5 : w4.heap.size ≤ w5.heap.size := hB5.size; replace ow := ow.below hB5 (by omega); replace ca := ca.below hB5 (by omega); replace hB := hB.trans (hB5.mono (by omega)); replace hzw := hB.size; clear ca0 ca1; obtain ⟨ca0, ca1⟩ := ca.cells; obtain ⟨Ax, Nx, Kx, rfl⟩ := own_slice ox) | (clear mk6; refine wpList_alloc_v rfl 27 rfl _ zeroSp ?_; intro bx w6 hbx hwbx hB6 hVbx; have hz6 : w5.heap.size ≤ w6.heap.size := hB6.size; replace ow := ow.below hB6 (by omega); replace ox := ox.below hB6 (by omega); replace ca := ca.below hB6 (by omega); replace hB := hB.trans (hB6.mono (by omega)); replace hzw := hB.size; clear ca0 ca1; obtain ⟨ca0, ca1⟩ := ca.cells; have cx : SV w6 bx 27 (.int .i64 0) (.slice none 0 0) := ⟨hVbx⟩; clear hVbx; obtain ⟨cx0, cx1⟩ := cx.cells) | (clear mk7; refine wpList_store_v rfl 27 _ _ rfl bx [.int .i64 n, .slice Ax Nx Kx] rfl rfl sizeSp cx.blk rfl (by simp [Value.oneCell']) ?_; intro w7 hO7 hVbx; have hz7 : w6.heap.size ≤ w7.heap.size := (Nat.le_of_eq hO7.1.symm); replace ow := ow.keep (w' := w7) (fun k g1 g2 => hO7.2.1 k (by omega)); replace ox := ox.keep (w' := w7) (fun k g1 g2 => hO7.2.1 k (by omega)); replace ca := ca.keep (w' := w7) (fun k g1 g2 => hO7.2.1 k (by omega)); replace hB := hB.trans (hO7.2.2 _ (by omega)); replace hzw := hB.size; clear ca0 ca1; obtain ⟨ca0, ca1⟩ := ca.cells; replace cx : SV w7 bx 27 (.int .i64 n) (.slice Ax Nx Kx) := ⟨hVbx⟩; clear hVbx; clear cx0 cx1; obtain ⟨cx0, cx1⟩ := cx.cells) | (clear mk8; go_at_call 28; refine (implBehind_all n ks K63.out _ w5.heap.size _ (by omega) ox.rd b).mono ?_; rintro er w8 ⟨vg, rfl, og, hB8⟩; have hz8 : w7.heap.size ≤ w8.heap.size := hB8.size; replace ow := ow.below hB8 (by omega); replace ox := ox.below hB8 (by omega); replace ca := ca.below hB8 (by omega); replace cx := cx.below hB8 (by omega); replace hB := hB.trans (hB8.mono (by omega)); replace hzw := hB.size; clear ca0 ca1; obtain ⟨ca0, ca1⟩ := ca.cells; clear cx0 cx1; obtain ⟨cx0, cx1⟩ := cx.cells; rw [hL.out] at og; obtain ⟨Ag, Ng, Kg, rfl⟩ := own_slice og) | (clear mk9; go_at_call 29; refine (eqInts_any L _ _ w8.heap.size w4.heap.size _ (by omega) (by omega) og.rd ow.rd).mono ?_; rintro er w9 ⟨rfl, hB9⟩; have hz9 : w8.heap.size ≤ w9.heap.size := hB9.size; replace ow := ow.below hB9 (by omega); replace ox := ox.below hB9 (by omega); replace og := og.below hB9 (by omega); replace ca := ca.below hB9 (by omega); replace cx := cx.below hB9 (by omega); replace hB := hB.trans (hB9.mono (by omega)); replace hzw := hB.size; clear ca0 ca1; obtain ⟨ca0, ca1⟩ := ca.cells; clear cx0 cx1; obtain ⟨cx0, cx1⟩ := cx.cells) | (fail))
  have hBd : Below w9.heap.size w9 w9.drew := (Below.refl _ _).drew
  have hzd : w9.drew.heap.size ≤ w9.heap.size := Nat.le_refl _
  have hzd2 : w9.heap.size ≤ w9.drew.heap.size := Nat.le_refl _
  have S1 : (w9.drew.cell? ⟨bx, 0, none⟩ = some (.int .i64 n) ∧ w9.drew.cell? ⟨bx, 1, none⟩ = some (.slice Ax Nx Kx) ∧ w9.drew.cell? ⟨ba, 0, none⟩ = some (.int .i64 n) ∧ w9.drew.cell? ⟨ba, 1, none⟩ = some (.slice a ks.length cap)) := ⟨cx0, cx1, ca0, ca1⟩
  replace ow := ow.below hBd (by omega)
  replace ox := ox.below hBd (by omega)
  replace og := og.below hBd (by omega)
  replace ca := ca.below hBd (by omega)
  replace cx := cx.below hBd (by omega)
  clear ca0 ca1
  obtain ⟨ca0, ca1⟩ := ca.cells
  clear cx0 cx1
  obtain ⟨cx0, cx1⟩ := cx.cells
  replace hB := hB.trans (hBd.mono (by omega))
  replace hzw := hB.size
  have mk10 : Hid True := trivial
  have mk11 : Hid True := trivial
  go_region_held3 (fun w' => (w'.cell? ⟨bx, 0, none⟩ = some (.int .i64 n) ∧ w'.cell? ⟨bx, 1, none⟩ = some (.slice Ax Nx Kx) ∧ w'.cell? ⟨ba, 0, none⟩ = some (.int .i64 n) ∧ w'.cell? ⟨ba, 1, none⟩ = some (.slice a ks.length cap))) (first | assumption | exact S1) (first | (clear mk10; go_at_call 14; refine (toSplit_any n ks _ w.heap.size w9.drew (by omega) (R.out.below hB (Nat.le_refl _)) hlen).mono ?_; rintro er w10 ⟨vy, rfl, oy, hB10⟩; have hz10 : w9.drew.heap.size ≤ w10.heap.size := hB10.size; replace ow := ow.below hB10 (by omega); replace ox := ox.below hB10 (by omega); replace og := og.below hB10 (by omega); replace ca := ca.below hB10 (by omega); replace cx := cx.below hB10 (by omega); replace hB := hB.trans (hB10.mono (by omega)); replace hzw := hB.size; clear ca0 ca1; obtain ⟨ca0, ca1⟩ := ca.cells; clear cx0 cx1; obtain ⟨cx0, cx1⟩ := cx.cells; obtain ⟨Ay, Ny, Ky, rfl⟩ := own_slice oy; have S2 : (w10.cell? ⟨bx, 0, none⟩ = some (.int .i64 n) ∧ w10.cell? ⟨bx, 1, none⟩ = some (.slice Ax Nx Kx) ∧ w10.cell? ⟨ba, 0, none⟩ = some (.int .i64 n) ∧ w10.cell? ⟨ba, 1, none⟩ = some (.slice a ks.length cap)) := ⟨cx0, cx1, ca0, ca1⟩) | (clear mk11; go_at_call 16; refine (eqSplit_any n ks _ _ w5.heap.size w10.heap.size _ (by omega) (by omega) ox.rd oy.rd).mono ?_; rintro er w11 ⟨rfl, hB11⟩; have hz11 : w10.heap.size ≤ w11.heap.size := hB11.size; replace ow := ow.below hB11 (by omega); replace ox := ox.below hB11 (by omega); replace og := og.below hB11 (by omega); replace ca := ca.below hB11 (by omega); replace cx := cx.below hB11 (by omega); replace hB := hB.trans (hB11.mono (by omega)); replace hzw := hB.size; clear ca0 ca1; obtain ⟨ca0, ca1⟩ := ca.cells; clear cx0 cx1; obtain ⟨cx0, cx1⟩ := cx.cells; have S3 : (w11.cell? ⟨bx, 0, none⟩ = some (.int .i64 n) ∧ w11.cell? ⟨bx, 1, none⟩ = some (.slice Ax Nx Kx) ∧ w11.cell? ⟨ba, 0, none⟩ = some (.int .i64 n) ∧ w11.cell? ⟨ba, 1, none⟩ = some (.slice a ks.length cap)) := ⟨cx0, cx1, ca0, ca1⟩) | (fail))
  clear S1 hBd
  clear oy
  have mk12 : Hid True := trivial
  have mk13 : Hid True := trivial
  have mk14 : Hid True := trivial
  have mk15 : Hid True := trivial
  have mk16 : Hid True := trivial
  have mk17 : Hid True := trivial
  have mk18 : Hid True := trivial
  have mk19 : Hid True := trivial
  go_wp2_with (first | (clear mk12; go_at_call 19; refine (markSplit_any n ks _ _ _ _ (by omega) ox hlen).mono ?_; rintro er w12 ⟨rfl, -, hM12⟩; have hz12 : w11.heap.size ≤ w12.heap.size := hM12.size; replace ow := ow.keep (w' := w12) (fun k g1 g2 => hM12.block k (by omega) (by omega)); replace og := og.keep (w' := w12) (fun k g1 g2 => hM12.block k (by omega) (by omega)); replace ca := ca.keep (w' := w12) (fun k g1 g2 => hM12.block k (by omega) (by omega)); replace cx := cx.keep (w' := w12) (fun k g1 g2 => hM12.block k (by omega) (by omega)); replace hB := hB.trans (hM12.below (by omega) (by omega)); replace hzw := hB.size; clear ca0 ca1; obtain ⟨ca0, ca1⟩ := ca.cells; clear cx0 cx1; obtain ⟨cx0, cx1⟩ := cx.cells) | (clear mk13; go_at_call 29; refine (eqInts_any L _ _ w8.heap.size w4.heap.size _ (by omega) (by omega) og.rd ow.rd).mono ?_; rintro er w13 ⟨rfl, hB13⟩; have hz13 : w12.heap.size ≤ w13.heap.size := hB13.size; replace ow := ow.below hB13 (by omega); replace og := og.below hB13 (by omega); replace ca := ca.below hB13 (by omega); replace cx := cx.below hB13 (by omega); replace hB := hB.trans (hB13.mono (by omega)); replace hzw := hB.size; clear ca0 ca1; obtain ⟨ca0, ca1⟩ := ca.cells; clear cx0 cx1; obtain ⟨cx0, cx1⟩ := cx.cells) | (clear mk14; go_at_call 30; refine (markInts_any L _ _ _ _ og (by omega)).mono ?_; rintro er w14 ⟨rfl, pg, hM14⟩; have hz14 : w13.heap.size ≤ w14.heap.size := hM14.size; replace ow := ow.keep (w' := w14) (fun k g1 g2 => hM14.block k (by omega) (by omega)); replace ca := ca.keep (w' := w14) (fun k g1 g2 => hM14.block k (by omega) (by omega)); replace cx := cx.keep (w' := w14) (fun k g1 g2 => hM14.block k (by omega) (by omega)); replace hB := hB.trans (hM14.below (by omega) (by omega)); replace hzw := hB.size; clear ca0 ca1; obtain ⟨ca0, ca1⟩ := ca.cells; clear cx0 cx1; obtain ⟨cx0, cx1⟩ := cx.cells) | (clear mk15; go_at_call 31; refine (heldInts_any L.length _ w8.heap.size _ pg.rd (by omega)).mono ?_; rintro er wq ⟨rfl, hq⟩; subst wq) | (clear mk16; go_at_call 14; refine (toSplit_any n ks _ w.heap.size _ (by omega) (R.out.below hB (Nat.le_refl _)) hlen).mono ?_; rintro er w15 ⟨vs, rfl, os, hB15⟩; have hz15 : w14.heap.size ≤ w15.heap.size := hB15.size; replace ow := ow.below hB15 (by omega); replace pg := pg.below hB15 (by omega); replace ca := ca.below hB15 (by omega); replace cx := cx.below hB15 (by omega); replace hB := hB.trans (hB15.mono (by omega)); replace hzw := hB.size; clear ca0 ca1; obtain ⟨ca0, ca1⟩ := ca.cells; clear cx0 cx1; obtain ⟨cx0, cx1⟩ := cx.cells; obtain ⟨As, Ns, Ks, rfl⟩ := own_slice os) | (clear mk17; go_at_call 28; refine (implBehind_all n ks K63.out _ w15.heap.size _ (by omega) os.rd b).mono ?_; rintro er w16 ⟨vh, rfl, oh, hB16⟩; have hz16 : w15.heap.size ≤ w16.heap.size := hB16.size; replace ow := ow.below hB16 (by omega); replace pg := pg.below hB16 (by omega); replace ca := ca.below hB16 (by omega); replace cx := cx.below hB16 (by omega); replace hB := hB.trans (hB16.mono (by omega)); replace hzw := hB.size; clear ca0 ca1; obtain ⟨ca0, ca1⟩ := ca.cells; clear cx0 cx1; obtain ⟨cx0, cx1⟩ := cx.cells; rw [hL.out] at oh; obtain ⟨Ah, Nh, Kh, rfl⟩ := own_slice oh) | (clear mk18; go_at_call 29; refine (eqInts_any L _ _ w16.heap.size w4.heap.size _ (by omega) (by omega) oh.rd ow.rd).mono ?_; rintro er w17 ⟨rfl, hB17⟩; have hz17 : w16.heap.size ≤ w17.heap.size := hB17.size; replace ow := ow.below hB17 (by omega); replace pg := pg.below hB17 (by omega); replace oh := oh.below hB17 (by omega); replace ca := ca.below hB17 (by omega); replace cx := cx.below hB17 (by omega); replace hB := hB.trans (hB17.mono (by omega)); replace hzw := hB.size; clear ca0 ca1; obtain ⟨ca0, ca1⟩ := ca.cells; clear cx0 cx1; obtain ⟨cx0, cx1⟩ := cx.cells) | (clear mk19; go_at_call 31; refine (heldInts_any L.length _ w8.heap.size _ pg.rd (by omega)).mono ?_; rintro er wq ⟨rfl, hq⟩; subst wq) | (fail))
  go_ret
  exact ⟨rfl, hB⟩

/-! ### the row, by the frame -/
set_option maxRecDepth 100000 in
theorem lifted (os : Os) (started : os.Started) (H : Type) (enc : TypeId × Value → H) :
    ReturnsInHanded {} Try.checked os 8 .any (Rows.fnExactBehindSpec.pre6 enc Try.prog Try.f8 Rows.fnExactBehindRow.domain false) (Rows.fnExactBehindSpec.post enc Try.prog Try.f8 false true false false) := by
  refine returnsInHanded_of_change (C := Try.checked) own started (by kernel_rfl) Try.func8
    (ChangeSpec.witness6 (enc := enc) (C := Try.checked) false ⟨#[], #[.agg #[.int .i64 0, .slice none 0 0], .int .i64 0], []⟩ 8 (by kernel_rfl) (by kernel_rfl) (by kernel_rfl) (by kernel_rfl)) ?_
  intro W base args ds gs before hval0 hW hcnd _
  have hval : ∀ (j : Nat) t v, Try.f8.params[j]? = some t → args[j]? = some v → Value.okWide Try.prog W .any base t v := hval0
  have hW' := hW
  obtain ⟨p, q, hA0, hV, rfl, hfz, hnd⟩ := hW
  have hA : DataW.TrodAll enc Try.prog W 0 (fun _ => true) true Try.f8.params.toList args.toList ds p := hA0
  rw [Try.params8] at hA hval
  obtain ⟨v0, vs0, d0, ds0, p0, q0, hargs, rfl, rfl, h0, r0⟩ := trodAll_cons hA
  obtain ⟨v1, vs1, d1, ds1, p1, q1, rfl, rfl, rfl, h1, r1⟩ := trodAll_cons r0
  obtain ⟨rfl, rfl, rfl⟩ := trodAll_nil r1
  obtain rfl : args = #[v0, v1] := by cases args; simp_all
  obtain ⟨rfl, rfl⟩ := trodVars_none hV
  have k0 := h0
  have lt0 : ∀ x ∈ p0, x.block < W.heap.size := by obtain ⟨m, hm⟩ := k0; exact DataW.trod_lt m _ _ _ hm
  obtain ⟨n0, u0, rfl, K0, hK0, hb0⟩ := sx.open_split (hval 0 24 v0 rfl rfl) h0
  obtain ⟨a1, rfl, rfl, rfl, ws1⟩ := open_int Try.underlying2 (hval 1 2 v1 rfl rfl) h1
  clear hA0 hval0
  refine (walk n0 u0 K0 a1 W hK0 hb0).mono fun e W' ⟨he, bel⟩ => ?_
  subst he
  exact ⟨_, rfl, _, _, _, [], _, [], hW', trodAll_mk1 (shut_bool Try.underlying4 _), (trodAll_cons_mk (Below.trod laidOut (by kernel_rfl) (of_decide_eq_true (by kernel_rfl)) k0 bel lt0) (trodAll_cons_mk (shut_int Try.underlying2 ws1) trodAll_mk0)), rfl, bel.frame _, fun h => by cases h⟩

theorem over : Rows.fnExactBehindRow.holds Try.pinned (OpenSpec.ofChange Rows.fnExactBehindSpec) :=
  OpenClaim.holds_of_wide 8 Try.f8 rfl rfl rfl rfl rfl rfl rfl ⟨rfl, rfl, rfl, rfl, rfl⟩ rfl rfl rfl rfl rfl (by kernel_rfl) Try.func8 (by kernel_rfl)
    (of_decide_eq_true (by kernel_rfl)) (by unfold Func.isWrapper; first | (rw [if_pos (by decide +kernel)]; kernel_rfl) | (rw [if_neg (by decide +kernel)]; exact ⟨rfl, rfl⟩))
    (fun os started H enc _ => lifted os started H enc)

/-- the statement -/
theorem proved : Rows.FnExactBehindSaid := over
end Go.Proofs.Ytbialeffdpmcjaa.fnExactBehind

namespace Go.Proofs.Ytbialeffdpmcjaa
/-- the statement, under its short name -/
theorem fnExactBehind_holds : Rows.FnExactBehindSaid := fnExactBehind.proved
#print axioms fnExactBehind_holds
end Go.Proofs.Ytbialeffdpmcjaa
