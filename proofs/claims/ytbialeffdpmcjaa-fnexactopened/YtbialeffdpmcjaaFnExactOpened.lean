/- For every split and number the program's Opened answers as the model's Opened, in memory of its own (the law itself lets off what has over 1048576 keys): the law's call returns true and its arguments read as before; no condition. -/
import Derived.Test.YtbialeffdpmcjaaSh1
import Derived.Test.YtbialeffdpmcjaaSz3
namespace Go.Proofs.Ytbialeffdpmcjaa.fnExactOpened
open Go.ChangeShapes Go.WideShapes Go.ChangeAt Go.RowKit
open Go.Proofs.Ytbialeffdpmcjaa.ce Go.Proofs.Ytbialeffdpmcjaa.sx
set_option linter.unusedVariables false

theorem own : ownKnob Try.prog.godebug = none := by kernel_rfl
theorem laidOut : laidOutB Try.prog = true := by kernel_rfl

/-! ### the walk -/
set_option maxRecDepth 100000 in
set_option maxHeartbeats 4000000 in
theorem walk (n : Int) (v : Value) (ks : List Int) (b : Int) (w : World) (hv : RdI w w.heap.size v ks) (hb63 : ∀ k ∈ ks, k ≤ 9223372036854775807) :
    Calls Try.prog 5 #[.agg #[.int .i64 n, v], .int .i64 b] w fun e w' => e = .returned (.bool true) ∧ Below w.heap.size w w' := by
  have hl := hv.len
  obtain ⟨a, cap, rfl⟩ := hv.form
  have R : Hid (RdI w w.heap.size (.slice a ks.length cap) ks) := hv
  have K63 : Hid (∀ k ∈ ks, k ≤ 9223372036854775807) := hb63
  clear hv hb63
  have hsL := opK_len n ks b
  obtain ⟨N, hN⟩ := hid_ex (opN n ks)
  obtain ⟨z, hZ⟩ := hid_ex (opB n ks b)
  have hzz : (z != z) = false := by simp
  obtain ⟨L, hL⟩ := hid_ex (opK n ks b)
  rw [hL.out] at hsL
  have hsn : ¬ (1 + (L.length : Int) < 0) := by omega
  have hse : ((1 + (L.length : Int)) != (1 + (L.length : Int))) = false := by simp
  have hsd : decide (1 + (ks.length : Int) < 0) = false := decide_eq_false (by omega)
  go_enter Try.func5, Try.ntmps5
  have mk1 : Hid True := trivial
  have mk2 : Hid True := trivial
  go_wp2_with (first | (clear mk1; refine wpList_box_v rfl 24 _ rfl [.int .i64 n, .slice a ks.length cap] rfl ?_; intro ba w1 hba hwba hB1 hVba; have hz1 : w.heap.size ≤ w1.heap.size := hB1.size; have hB := hB1; have hzw := hB.size; have ca : SV w1 ba 24 (.int .i64 n) (.slice a ks.length cap) := ⟨hVba⟩; clear hVba; obtain ⟨ca0, ca1⟩ := ca.cells) | (clear mk2; go_at_call 12; refine (szSplit_any n ks _ w.heap.size _ (R.out.below hB (Nat.le_refl _))).mono ?_; rintro er w2 ⟨r, rfl, hB2, hr⟩; have hz2 : w1.heap.size ≤ w2.heap.size := hB2.size; replace ca := ca.below hB2 (by omega); replace hB := hB.trans (hB2.mono (by omega)); replace hzw := hB.size; clear ca0 ca1; obtain ⟨ca0, ca1⟩ := ca.cells; by_cases hneg : r < 0) | (fail))
  · go_ret
    exact ⟨rfl, hB⟩
  have hlen := hr (by omega)
  have mk3 : Hid True := trivial
  have mk4 : Hid True := trivial
  have mk5 : Hid True := trivial
  have mk6 : Hid True := trivial
  have mk7 : Hid True := trivial
  have mk8 : Hid True := trivial
  have mk9 : Hid True := trivial
  have mk10 : Hid True := trivial
  have mk11 : Hid True := trivial
  have mk12 : Hid True := trivial
  have mk13 : Hid True := trivial
  go_wp2_with (first | (clear mk3; go_at_call 14; refine (toSplit_any n ks _ w.heap.size _ (by omega) (R.out.below hB (Nat.le_refl _)) hlen).mono ?_; rintro er w3 ⟨vt, rfl, ot, hB3⟩; have hz3 : w2.heap.size ≤ w3.heap.size := hB3.size; replace ca := ca.below hB3 (by omega); replace hB := hB.trans (hB3.mono (by omega)); replace hzw := hB.size; clear ca0 ca1; obtain ⟨ca0, ca1⟩ := ca.cells; obtain ⟨At, Nt, Kt, rfl⟩ := own_slice ot) | (clear mk4; go_at_call 21; refine (specOpened_all n ks K63.out _ w3.heap.size _ (by omega) ot.rd b).mono ?_; rintro er w4 ⟨vw, he, ow, hB4⟩; have hz4 : w3.heap.size ≤ w4.heap.size := hB4.size; replace ca := ca.below hB4 (by omega); replace hB := hB.trans (hB4.mono (by omega)); replace hzw := hB.size; clear ca0 ca1; obtain ⟨ca0, ca1⟩ := ca.cells; rw [hN.out, hZ.out] at he; subst he; rw [hL.out] at ow; obtain ⟨Aw, Nw, Kw, rfl⟩ := own_slice ow) | (clear mk5; refine wpList_alloc_v rfl 27 rfl _ zeroSp ?_; intro bw w5 hbw hwbw hB5 hVbw; have hz5 : w4.heap.size ≤ w5.heap.size := hB5.size; replace ow := ow.below hB5 (by omega); replace ca := ca.below hB5 (by omega); replace hB := hB.trans (hB5.mono (by omega)); replace hzw := hB.size; clear ca0 ca1; obtain ⟨ca0, ca1⟩ := ca.cells; have cw : SV w5 bw 27 (.int .i64 0) (.slice none 0 0) := ⟨hVbw⟩; clear hVbw; obtain ⟨cw0, cw1⟩ := cw.cells) | (clear mk6; refine wpList_store_v rfl 27 _ _ rfl bw [.int .i64 N, .slice Aw Nw Kw] rfl rfl sizeSp cw.blk rfl (by simp [Value.oneCell']) ?_; intro w6 hO6 hVbw; have hz6 : w5.heap.size ≤ w6.heap.size := (Nat.le_of_eq hO6.1.symm); replace ow := ow.keep (w' := w6) (fun k g1 g2 => hO6.2.1 k (by omega)); replace ca := ca.keep (w' := w6) (fun k g1 g2 => hO6.2.1 k (by omega)); replace hB := hB.trans (hO6.2.2 _ (by omega)); replace hzw := hB.size; clear ca0 ca1; obtain ⟨ca0, ca1⟩ := ca.cells; replace cw : SV w6 bw 27 (.int .i64 N) (.slice Aw Nw Kw) := ⟨hVbw⟩; clear hVbw; clear cw0 cw1; obtain ⟨cw0, cw1⟩ := cw.cells) | (clear mk7; go_at_call 14; refine (toSplit_any n ks _ w.heap.size _ (by omega) (R.out.below hB (Nat.le_refl _)) hlen).mono ?_; rintro er w7 ⟨vx, rfl, ox, hB7⟩; have hz7 : w6.heap.size ≤ w7.heap.size := hB7.size; replace ow := ow.below hB7 (by omega); replace ca := ca.below hB7 (by omega); replace cw := cw.below hB7 (by omega); replace hB := hB.trans (hB7.mono (by omega)); replace hzw := hB.size; clear ca0 ca1; obtain ⟨ca0, ca1⟩ := ca.cells; clear cw0 cw1; obtain ⟨cw0, cw1⟩ := cw.cells; obtain ⟨Ax, Nx, Kx, rfl⟩ := own_slice ox) | (clear mk8; refine wpList_alloc_v rfl 27 rfl _ zeroSp ?_; intro bx w8 hbx hwbx hB8 hVbx; have hz8 : w7.heap.size ≤ w8.heap.size := hB8.size; replace ow := ow.below hB8 (by omega); replace ox := ox.below hB8 (by omega); replace ca := ca.below hB8 (by omega); replace cw := cw.below hB8 (by omega); replace hB := hB.trans (hB8.mono (by omega)); replace hzw := hB.size; clear ca0 ca1; obtain ⟨ca0, ca1⟩ := ca.cells; clear cw0 cw1; obtain ⟨cw0, cw1⟩ := cw.cells; have cx : SV w8 bx 27 (.int .i64 0) (.slice none 0 0) := ⟨hVbx⟩; clear hVbx; obtain ⟨cx0, cx1⟩ := cx.cells) | (clear mk9; refine wpList_store_v rfl 27 _ _ rfl bx [.int .i64 n, .slice Ax Nx Kx] rfl rfl sizeSp cx.blk rfl (by simp [Value.oneCell']) ?_; intro w9 hO9 hVbx; have hz9 : w8.heap.size ≤ w9.heap.size := (Nat.le_of_eq hO9.1.symm); replace ow := ow.keep (w' := w9) (fun k g1 g2 => hO9.2.1 k (by omega)); replace ox := ox.keep (w' := w9) (fun k g1 g2 => hO9.2.1 k (by omega)); replace ca := ca.keep (w' := w9) (fun k g1 g2 => hO9.2.1 k (by omega)); replace cw := cw.keep (w' := w9) (fun k g1 g2 => hO9.2.1 k (by omega)); replace hB := hB.trans (hO9.2.2 _ (by omega)); replace hzw := hB.size; clear ca0 ca1; obtain ⟨ca0, ca1⟩ := ca.cells; clear cw0 cw1; obtain ⟨cw0, cw1⟩ := cw.cells; replace cx : SV w9 bx 27 (.int .i64 n) (.slice Ax Nx Kx) := ⟨hVbx⟩; clear hVbx; clear cx0 cx1; obtain ⟨cx0, cx1⟩ := cx.cells) | (clear mk10; go_at_call 22; refine (implOpened_all n ks K63.out _ w7.heap.size _ (by omega) ox.rd b).mono ?_; rintro er w10 ⟨vg, he, og, hB10⟩; have hz10 : w9.heap.size ≤ w10.heap.size := hB10.size; replace ow := ow.below hB10 (by omega); replace ox := ox.below hB10 (by omega); replace ca := ca.below hB10 (by omega); replace cw := cw.below hB10 (by omega); replace cx := cx.below hB10 (by omega); replace hB := hB.trans (hB10.mono (by omega)); replace hzw := hB.size; clear ca0 ca1; obtain ⟨ca0, ca1⟩ := ca.cells; clear cw0 cw1; obtain ⟨cw0, cw1⟩ := cw.cells; clear cx0 cx1; obtain ⟨cx0, cx1⟩ := cx.cells; rw [hN.out, hZ.out] at he; subst he; rw [hL.out] at og; obtain ⟨Ag, Ng, Kg, rfl⟩ := own_slice og) | (clear mk11; refine wpList_alloc_v rfl 27 rfl _ zeroSp ?_; intro bg w11 hbg hwbg hB11 hVbg; have hz11 : w10.heap.size ≤ w11.heap.size := hB11.size; replace ow := ow.below hB11 (by omega); replace ox := ox.below hB11 (by omega); replace og := og.below hB11 (by omega); replace ca := ca.below hB11 (by omega); replace cw := cw.below hB11 (by omega); replace cx := cx.below hB11 (by omega); replace hB := hB.trans (hB11.mono (by omega)); replace hzw := hB.size; clear ca0 ca1; obtain ⟨ca0, ca1⟩ := ca.cells; clear cw0 cw1; obtain ⟨cw0, cw1⟩ := cw.cells; clear cx0 cx1; obtain ⟨cx0, cx1⟩ := cx.cells; have cg : SV w11 bg 27 (.int .i64 0) (.slice none 0 0) := ⟨hVbg⟩; clear hVbg; obtain ⟨cg0, cg1⟩ := cg.cells) | (clear mk12; refine wpList_store_v rfl 27 _ _ rfl bg [.int .i64 N, .slice Ag Ng Kg] rfl rfl sizeSp cg.blk rfl (by simp [Value.oneCell']) ?_; intro w12 hO12 hVbg; have hz12 : w11.heap.size ≤ w12.heap.size := (Nat.le_of_eq hO12.1.symm); replace ow := ow.keep (w' := w12) (fun k g1 g2 => hO12.2.1 k (by omega)); replace ox := ox.keep (w' := w12) (fun k g1 g2 => hO12.2.1 k (by omega)); replace og := og.keep (w' := w12) (fun k g1 g2 => hO12.2.1 k (by omega)); replace ca := ca.keep (w' := w12) (fun k g1 g2 => hO12.2.1 k (by omega)); replace cw := cw.keep (w' := w12) (fun k g1 g2 => hO12.2.1 k (by omega)); replace cx := cx.keep (w' := w12) (fun k g1 g2 => hO12.2.1 k (by omega)); replace hB := hB.trans (hO12.2.2 _ (by omega)); replace hzw := hB.size; clear ca0 ca1; obtain ⟨ca0, ca1⟩ := ca.cells; clear cw0 cw1; obtain ⟨cw0, cw1⟩ := cw.cells; clear cx0 cx1; obtain ⟨cx0, cx1⟩ := cx.cells; replace cg : SV w12 bg 27 (.int .i64 N) (.slice Ag Ng Kg) := ⟨hVbg⟩; clear hVbg; clear cg0 cg1; obtain ⟨cg0, cg1⟩ := cg.cells) | (clear mk13; go_at_call 16; refine (eqSplit_any N L _ _ w10.heap.size w4.heap.size _ (by omega) (by omega) og.rd ow.rd).mono ?_; rintro er w13 ⟨rfl, hB13⟩; have hz13 : w12.heap.size ≤ w13.heap.size := hB13.size; replace ow := ow.below hB13 (by omega); replace ox := ox.below hB13 (by omega); replace og := og.below hB13 (by omega); replace ca := ca.below hB13 (by omega); replace cw := cw.below hB13 (by omega); replace cx := cx.below hB13 (by omega); replace cg := cg.below hB13 (by omega); replace hB := hB.trans (hB13.mono (by omega)); replace hzw := hB.size; clear ca0 ca1; obtain ⟨ca0, ca1⟩ := ca.cells; clear cw0 cw1; obtain ⟨cw0, cw1⟩ := cw.cells; clear cx0 cx1; obtain ⟨cx0, cx1⟩ := cx.cells; clear cg0 cg1; obtain ⟨cg0, cg1⟩ := cg.cells) | (fail))
  have hBd : Below w13.heap.size w13 w13.drew := (Below.refl _ _).drew
  have hzd : w13.drew.heap.size ≤ w13.heap.size := Nat.le_refl _
  have hzd2 : w13.heap.size ≤ w13.drew.heap.size := Nat.le_refl _
  have S1 : (w13.drew.cell? ⟨bx, 0, none⟩ = some (.int .i64 n) ∧ w13.drew.cell? ⟨bx, 1, none⟩ = some (.slice Ax Nx Kx) ∧ w13.drew.cell? ⟨ba, 0, none⟩ = some (.int .i64 n) ∧ w13.drew.cell? ⟨ba, 1, none⟩ = some (.slice a ks.length cap)) := ⟨cx0, cx1, ca0, ca1⟩
  replace ow := ow.below hBd (by omega)
  replace ox := ox.below hBd (by omega)
  replace og := og.below hBd (by omega)
  replace ca := ca.below hBd (by omega)
  replace cw := cw.below hBd (by omega)
  replace cx := cx.below hBd (by omega)
  replace cg := cg.below hBd (by omega)
  clear ca0 ca1
  obtain ⟨ca0, ca1⟩ := ca.cells
  clear cw0 cw1
  obtain ⟨cw0, cw1⟩ := cw.cells
  clear cx0 cx1
  obtain ⟨cx0, cx1⟩ := cx.cells
  clear cg0 cg1
  obtain ⟨cg0, cg1⟩ := cg.cells
  replace hB := hB.trans (hBd.mono (by omega))
  replace hzw := hB.size
  have mk14 : Hid True := trivial
  have mk15 : Hid True := trivial
  go_region_held3 (fun w' => (w'.cell? ⟨bx, 0, none⟩ = some (.int .i64 n) ∧ w'.cell? ⟨bx, 1, none⟩ = some (.slice Ax Nx Kx) ∧ w'.cell? ⟨ba, 0, none⟩ = some (.int .i64 n) ∧ w'.cell? ⟨ba, 1, none⟩ = some (.slice a ks.length cap))) (first | assumption | exact S1) (first | (clear mk14; go_at_call 14; refine (toSplit_any n ks _ w.heap.size w13.drew (by omega) (R.out.below hB (Nat.le_refl _)) hlen).mono ?_; rintro er w14 ⟨vy, rfl, oy, hB14⟩; have hz14 : w13.drew.heap.size ≤ w14.heap.size := hB14.size; replace ow := ow.below hB14 (by omega); replace ox := ox.below hB14 (by omega); replace og := og.below hB14 (by omega); replace ca := ca.below hB14 (by omega); replace cw := cw.below hB14 (by omega); replace cx := cx.below hB14 (by omega); replace cg := cg.below hB14 (by omega); replace hB := hB.trans (hB14.mono (by omega)); replace hzw := hB.size; clear ca0 ca1; obtain ⟨ca0, ca1⟩ := ca.cells; clear cw0 cw1; obtain ⟨cw0, cw1⟩ := cw.cells; clear cx0 cx1; obtain ⟨cx0, cx1⟩ := cx.cells; clear cg0 cg1; obtain ⟨cg0, cg1⟩ := cg.cells; obtain ⟨Ay, Ny, Ky, rfl⟩ := own_slice oy; have S2 : (w14.cell? ⟨bx, 0, none⟩ = some (.int .i64 n) ∧ w14.cell? ⟨bx, 1, none⟩ = some (.slice Ax Nx Kx) ∧ w14.cell? ⟨ba, 0, none⟩ = some (.int .i64 n) ∧ w14.cell? ⟨ba, 1, none⟩ = some (.slice a ks.length cap)) := ⟨cx0, cx1, ca0, ca1⟩) | (clear mk15; go_at_call 16; refine (eqSplit_any n ks _ _ w7.heap.size w14.heap.size _ (by omega) (by omega) ox.rd oy.rd).mono ?_; rintro er w15 ⟨rfl, hB15⟩; have hz15 : w14.heap.size ≤ w15.heap.size := hB15.size; replace ow := ow.below hB15 (by omega); replace ox := ox.below hB15 (by omega); replace og := og.below hB15 (by omega); replace ca := ca.below hB15 (by omega); replace cw := cw.below hB15 (by omega); replace cx := cx.below hB15 (by omega); replace cg := cg.below hB15 (by omega); replace hB := hB.trans (hB15.mono (by omega)); replace hzw := hB.size; clear ca0 ca1; obtain ⟨ca0, ca1⟩ := ca.cells; clear cw0 cw1; obtain ⟨cw0, cw1⟩ := cw.cells; clear cx0 cx1; obtain ⟨cx0, cx1⟩ := cx.cells; clear cg0 cg1; obtain ⟨cg0, cg1⟩ := cg.cells; have S3 : (w15.cell? ⟨bx, 0, none⟩ = some (.int .i64 n) ∧ w15.cell? ⟨bx, 1, none⟩ = some (.slice Ax Nx Kx) ∧ w15.cell? ⟨ba, 0, none⟩ = some (.int .i64 n) ∧ w15.cell? ⟨ba, 1, none⟩ = some (.slice a ks.length cap)) := ⟨cx0, cx1, ca0, ca1⟩) | (fail))
  clear S1 hBd
  clear oy
  have mk16 : Hid True := trivial
  have mk17 : Hid True := trivial
  have mk18 : Hid True := trivial
  have mk19 : Hid True := trivial
  have mk20 : Hid True := trivial
  have mk21 : Hid True := trivial
  have mk22 : Hid True := trivial
  have mk23 : Hid True := trivial
  have mk24 : Hid True := trivial
  have mk25 : Hid True := trivial
  go_wp2_with (first | (clear mk16; go_at_call 19; refine (markSplit_any n ks _ _ _ _ (by omega) ox hlen).mono ?_; rintro er w16 ⟨rfl, -, hM16⟩; have hz16 : w15.heap.size ≤ w16.heap.size := hM16.size; replace ow := ow.keep (w' := w16) (fun k g1 g2 => hM16.block k (by omega) (by omega)); replace og := og.keep (w' := w16) (fun k g1 g2 => hM16.block k (by omega) (by omega)); replace ca := ca.keep (w' := w16) (fun k g1 g2 => hM16.block k (by omega) (by omega)); replace cw := cw.keep (w' := w16) (fun k g1 g2 => hM16.block k (by omega) (by omega)); replace cx := cx.keep (w' := w16) (fun k g1 g2 => hM16.block k (by omega) (by omega)); replace cg := cg.keep (w' := w16) (fun k g1 g2 => hM16.block k (by omega) (by omega)); replace hB := hB.trans (hM16.below (by omega) (by omega)); replace hzw := hB.size; clear ca0 ca1; obtain ⟨ca0, ca1⟩ := ca.cells; clear cw0 cw1; obtain ⟨cw0, cw1⟩ := cw.cells; clear cx0 cx1; obtain ⟨cx0, cx1⟩ := cx.cells; clear cg0 cg1; obtain ⟨cg0, cg1⟩ := cg.cells) | (clear mk17; go_at_call 16; refine (eqSplit_any N L _ _ w10.heap.size w4.heap.size _ (by omega) (by omega) og.rd ow.rd).mono ?_; rintro er w17 ⟨rfl, hB17⟩; have hz17 : w16.heap.size ≤ w17.heap.size := hB17.size; replace ow := ow.below hB17 (by omega); replace og := og.below hB17 (by omega); replace ca := ca.below hB17 (by omega); replace cw := cw.below hB17 (by omega); replace cx := cx.below hB17 (by omega); replace cg := cg.below hB17 (by omega); replace hB := hB.trans (hB17.mono (by omega)); replace hzw := hB.size; clear ca0 ca1; obtain ⟨ca0, ca1⟩ := ca.cells; clear cw0 cw1; obtain ⟨cw0, cw1⟩ := cw.cells; clear cx0 cx1; obtain ⟨cx0, cx1⟩ := cx.cells; clear cg0 cg1; obtain ⟨cg0, cg1⟩ := cg.cells) | (clear mk18; go_at_call 19; refine (markSplit_any N L _ _ _ _ (by omega) og (by omega)).mono ?_; rintro er w18 ⟨rfl, pg, hM18⟩; have hz18 : w17.heap.size ≤ w18.heap.size := hM18.size; replace ow := ow.keep (w' := w18) (fun k g1 g2 => hM18.block k (by omega) (by omega)); replace ca := ca.keep (w' := w18) (fun k g1 g2 => hM18.block k (by omega) (by omega)); replace cw := cw.keep (w' := w18) (fun k g1 g2 => hM18.block k (by omega) (by omega)); replace cx := cx.keep (w' := w18) (fun k g1 g2 => hM18.block k (by omega) (by omega)); replace cg := cg.keep (w' := w18) (fun k g1 g2 => hM18.block k (by omega) (by omega)); replace hB := hB.trans (hM18.below (by omega) (by omega)); replace hzw := hB.size; clear ca0 ca1; obtain ⟨ca0, ca1⟩ := ca.cells; clear cw0 cw1; obtain ⟨cw0, cw1⟩ := cw.cells; clear cx0 cx1; obtain ⟨cx0, cx1⟩ := cx.cells; clear cg0 cg1; obtain ⟨cg0, cg1⟩ := cg.cells) | (clear mk19; go_at_call 20; refine (heldSplit_any N L.length _ w10.heap.size _ (by omega) pg.rd (by omega)).mono ?_; rintro er w19 ⟨rfl, hB19⟩; have hz19 : w18.heap.size ≤ w19.heap.size := hB19.size; replace ow := ow.below hB19 (by omega); replace pg := pg.below hB19 (by omega); replace ca := ca.below hB19 (by omega); replace cw := cw.below hB19 (by omega); replace cx := cx.below hB19 (by omega); replace cg := cg.below hB19 (by omega); replace hB := hB.trans (hB19.mono (by omega)); replace hzw := hB.size; clear ca0 ca1; obtain ⟨ca0, ca1⟩ := ca.cells; clear cw0 cw1; obtain ⟨cw0, cw1⟩ := cw.cells; clear cx0 cx1; obtain ⟨cx0, cx1⟩ := cx.cells; clear cg0 cg1; obtain ⟨cg0, cg1⟩ := cg.cells) | (clear mk20; go_at_call 14; refine (toSplit_any n ks _ w.heap.size _ (by omega) (R.out.below hB (Nat.le_refl _)) hlen).mono ?_; rintro er w20 ⟨vs, rfl, os, hB20⟩; have hz20 : w19.heap.size ≤ w20.heap.size := hB20.size; replace ow := ow.below hB20 (by omega); replace pg := pg.below hB20 (by omega); replace ca := ca.below hB20 (by omega); replace cw := cw.below hB20 (by omega); replace cx := cx.below hB20 (by omega); replace cg := cg.below hB20 (by omega); replace hB := hB.trans (hB20.mono (by omega)); replace hzw := hB.size; clear ca0 ca1; obtain ⟨ca0, ca1⟩ := ca.cells; clear cw0 cw1; obtain ⟨cw0, cw1⟩ := cw.cells; clear cx0 cx1; obtain ⟨cx0, cx1⟩ := cx.cells; clear cg0 cg1; obtain ⟨cg0, cg1⟩ := cg.cells; obtain ⟨As, Ns, Ks, rfl⟩ := own_slice os) | (clear mk21; go_at_call 22; refine (implOpened_all n ks K63.out _ w20.heap.size _ (by omega) os.rd b).mono ?_; rintro er w21 ⟨vh, he, oh, hB21⟩; have hz21 : w20.heap.size ≤ w21.heap.size := hB21.size; replace ow := ow.below hB21 (by omega); replace pg := pg.below hB21 (by omega); replace ca := ca.below hB21 (by omega); replace cw := cw.below hB21 (by omega); replace cx := cx.below hB21 (by omega); replace cg := cg.below hB21 (by omega); replace hB := hB.trans (hB21.mono (by omega)); replace hzw := hB.size; clear ca0 ca1; obtain ⟨ca0, ca1⟩ := ca.cells; clear cw0 cw1; obtain ⟨cw0, cw1⟩ := cw.cells; clear cx0 cx1; obtain ⟨cx0, cx1⟩ := cx.cells; clear cg0 cg1; obtain ⟨cg0, cg1⟩ := cg.cells; rw [hN.out, hZ.out] at he; subst he; rw [hL.out] at oh; obtain ⟨Ah, Nh, Kh, rfl⟩ := own_slice oh) | (clear mk22; refine wpList_alloc_v rfl 27 rfl _ zeroSp ?_; intro bh w22 hbh hwbh hB22 hVbh; have hz22 : w21.heap.size ≤ w22.heap.size := hB22.size; replace ow := ow.below hB22 (by omega); replace pg := pg.below hB22 (by omega); replace oh := oh.below hB22 (by omega); replace ca := ca.below hB22 (by omega); replace cw := cw.below hB22 (by omega); replace cx := cx.below hB22 (by omega); replace cg := cg.below hB22 (by omega); replace hB := hB.trans (hB22.mono (by omega)); replace hzw := hB.size; clear ca0 ca1; obtain ⟨ca0, ca1⟩ := ca.cells; clear cw0 cw1; obtain ⟨cw0, cw1⟩ := cw.cells; clear cx0 cx1; obtain ⟨cx0, cx1⟩ := cx.cells; clear cg0 cg1; obtain ⟨cg0, cg1⟩ := cg.cells; have ch : SV w22 bh 27 (.int .i64 0) (.slice none 0 0) := ⟨hVbh⟩; clear hVbh; obtain ⟨ch0, ch1⟩ := ch.cells) | (clear mk23; refine wpList_store_v rfl 27 _ _ rfl bh [.int .i64 N, .slice Ah Nh Kh] rfl rfl sizeSp ch.blk rfl (by simp [Value.oneCell']) ?_; intro w23 hO23 hVbh; have hz23 : w22.heap.size ≤ w23.heap.size := (Nat.le_of_eq hO23.1.symm); replace ow := ow.keep (w' := w23) (fun k g1 g2 => hO23.2.1 k (by omega)); replace pg := pg.keep (w' := w23) (fun k g1 g2 => hO23.2.1 k (by omega)); replace oh := oh.keep (w' := w23) (fun k g1 g2 => hO23.2.1 k (by omega)); replace ca := ca.keep (w' := w23) (fun k g1 g2 => hO23.2.1 k (by omega)); replace cw := cw.keep (w' := w23) (fun k g1 g2 => hO23.2.1 k (by omega)); replace cx := cx.keep (w' := w23) (fun k g1 g2 => hO23.2.1 k (by omega)); replace cg := cg.keep (w' := w23) (fun k g1 g2 => hO23.2.1 k (by omega)); replace hB := hB.trans (hO23.2.2 _ (by omega)); replace hzw := hB.size; clear ca0 ca1; obtain ⟨ca0, ca1⟩ := ca.cells; clear cw0 cw1; obtain ⟨cw0, cw1⟩ := cw.cells; clear cx0 cx1; obtain ⟨cx0, cx1⟩ := cx.cells; clear cg0 cg1; obtain ⟨cg0, cg1⟩ := cg.cells; replace ch : SV w23 bh 27 (.int .i64 N) (.slice Ah Nh Kh) := ⟨hVbh⟩; clear hVbh; clear ch0 ch1; obtain ⟨ch0, ch1⟩ := ch.cells) | (clear mk24; go_at_call 16; refine (eqSplit_any N L _ _ w21.heap.size w4.heap.size _ (by omega) (by omega) oh.rd ow.rd).mono ?_; rintro er w24 ⟨rfl, hB24⟩; have hz24 : w23.heap.size ≤ w24.heap.size := hB24.size; replace ow := ow.below hB24 (by omega); replace pg := pg.below hB24 (by omega); replace oh := oh.below hB24 (by omega); replace ca := ca.below hB24 (by omega); replace cw := cw.below hB24 (by omega); replace cx := cx.below hB24 (by omega); replace cg := cg.below hB24 (by omega); replace ch := ch.below hB24 (by omega); replace hB := hB.trans (hB24.mono (by omega)); replace hzw := hB.size; clear ca0 ca1; obtain ⟨ca0, ca1⟩ := ca.cells; clear cw0 cw1; obtain ⟨cw0, cw1⟩ := cw.cells; clear cx0 cx1; obtain ⟨cx0, cx1⟩ := cx.cells; clear cg0 cg1; obtain ⟨cg0, cg1⟩ := cg.cells; clear ch0 ch1; obtain ⟨ch0, ch1⟩ := ch.cells) | (clear mk25; go_at_call 20; refine (heldSplit_any N L.length _ w10.heap.size _ (by omega) pg.rd (by omega)).mono ?_; rintro er w25 ⟨rfl, hB25⟩; have hz25 : w24.heap.size ≤ w25.heap.size := hB25.size; replace ow := ow.below hB25 (by omega); replace pg := pg.below hB25 (by omega); replace oh := oh.below hB25 (by omega); replace ca := ca.below hB25 (by omega); replace cw := cw.below hB25 (by omega); replace cx := cx.below hB25 (by omega); replace cg := cg.below hB25 (by omega); replace ch := ch.below hB25 (by omega); replace hB := hB.trans (hB25.mono (by omega)); replace hzw := hB.size; clear ca0 ca1; obtain ⟨ca0, ca1⟩ := ca.cells; clear cw0 cw1; obtain ⟨cw0, cw1⟩ := cw.cells; clear cx0 cx1; obtain ⟨cx0, cx1⟩ := cx.cells; clear cg0 cg1; obtain ⟨cg0, cg1⟩ := cg.cells; clear ch0 ch1; obtain ⟨ch0, ch1⟩ := ch.cells) | (fail))
  go_ret
  exact ⟨rfl, hB⟩

/-! ### the row, by the frame -/
set_option maxRecDepth 100000 in
theorem lifted (os : Os) (started : os.Started) (H : Type) (enc : TypeId × Value → H) :
    ReturnsInHanded {} Try.checked os 5 .any (Rows.fnExactOpenedSpec.pre6 enc Try.prog Try.f5 Rows.fnExactOpenedRow.domain false) (Rows.fnExactOpenedSpec.post enc Try.prog Try.f5 false true false false) := by
  refine returnsInHanded_of_change (C := Try.checked) own started (by kernel_rfl) Try.func5
    (ChangeSpec.witness6 (enc := enc) (C := Try.checked) false ⟨#[], #[.agg #[.int .i64 0, .slice none 0 0], .int .i64 0], []⟩ 8 (by kernel_rfl) (by kernel_rfl) (by kernel_rfl) (by kernel_rfl)) ?_
  intro W base args ds gs before hval0 hW hcnd _
  have hval : ∀ (j : Nat) t v, Try.f5.params[j]? = some t → args[j]? = some v → Value.okWide Try.prog W .any base t v := hval0
  have hW' := hW
  obtain ⟨p, q, hA0, hV, rfl, hfz, hnd⟩ := hW
  have hA : DataW.TrodAll enc Try.prog W 0 (fun _ => true) true Try.f5.params.toList args.toList ds p := hA0
  rw [Try.params5] at hA hval
  obtain ⟨v0, vs0, d0, ds0, p0, q0, hargs, rfl, rfl, h0, r0⟩ := trodAll_cons hA
  obtain ⟨v1, vs1, d1, ds1, p1, q1, rfl, rfl, rfl, h1, r1⟩ := trodAll_cons r0
  obtain ⟨rfl, rfl, rfl⟩ := trodAll_nil r1
  obtain rfl : args = #[v0, v1] := by cases args; simp_all
  obtain ⟨rfl, rfl⟩ := trodVars_none hV
  have k0 := h0
  have lt0 : ∀ x ∈ p0, x.block < W.heap.size := by obtain ⟨m, hm⟩ := k0; exact DataW.trod_lt m _ _ _ hm
  obtain ⟨n0, u0, rfl, K0, hK0, hb0⟩ := sx.open_split (hval 0 24 v0 rfl rfl) h0
  obtain ⟨a1, rfl, rfl, rfl, ws1⟩ := open_int Try.underlying2 (hval 1 2 v1 rfl rfl) h1
  clear hA0 hval0
  refine (walk n0 u0 K0 a1 W hK0 hb0).mono fun e W' ⟨he, bel⟩ => ?_
  subst he
  exact ⟨_, rfl, _, _, _, [], _, [], hW', trodAll_mk1 (shut_bool Try.underlying4 _), (trodAll_cons_mk (Below.trod laidOut (by kernel_rfl) (of_decide_eq_true (by kernel_rfl)) k0 bel lt0) (trodAll_cons_mk (shut_int Try.underlying2 ws1) trodAll_mk0)), rfl, bel.frame _, fun h => by cases h⟩

theorem over : Rows.fnExactOpenedRow.holds Try.pinned (OpenSpec.ofChange Rows.fnExactOpenedSpec) :=
  OpenClaim.holds_of_wide 5 Try.f5 rfl rfl rfl rfl rfl rfl rfl ⟨rfl, rfl, rfl, rfl, rfl⟩ rfl rfl rfl rfl rfl (by kernel_rfl) Try.func5 (by kernel_rfl)
    (of_decide_eq_true (by kernel_rfl)) (by unfold Func.isWrapper; first | (rw [if_pos (by decide +kernel)]; kernel_rfl) | (rw [if_neg (by decide +kernel)]; exact ⟨rfl, rfl⟩))
    (fun os started H enc _ => lifted os started H enc)

/-- the statement -/
theorem proved : Rows.FnExactOpenedSaid := over
end Go.Proofs.Ytbialeffdpmcjaa.fnExactOpened

namespace Go.Proofs.Ytbialeffdpmcjaa
/-- the statement, under its short name -/
theorem fnExactOpened_holds : Rows.FnExactOpenedSaid := fnExactOpened.proved
#print axioms fnExactOpened_holds
end Go.Proofs.Ytbialeffdpmcjaa
