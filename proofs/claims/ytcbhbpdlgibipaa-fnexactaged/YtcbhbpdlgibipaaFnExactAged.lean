/- For every book and time the program's Aged answers as the model's Aged, in memory of its own, and writes into nothing that it was given (the law itself lets off what has over 1048576 things and bytes): the law's call returns true and its arguments read as before; no condition. -/
import Derived.Test.YtcbhbpdlgibipaaBh1
import Derived.Test.YtcbhbpdlgibipaaBb2
namespace Go.Proofs.Ytcbhbpdlgibipaa.fnExactAged
open Go.ChangeShapes Go.WideShapes Go.ChangeAt Go.RowKit
open Go.Proofs.Ytcbhbpdlgibipaa.ce Go.Proofs.Ytcbhbpdlgibipaa.ro Go.Proofs.Ytcbhbpdlgibipaa.rg
open Go.ChangeMaps (open_string shut_string)
set_option linter.unusedVariables false

theorem own : ownKnob Try.prog.godebug = none := by kernel_rfl
theorem laidOut : laidOutB Try.prog = true := by kernel_rfl

/-! ### the walk -/
set_option maxRecDepth 100000 in
set_option maxHeartbeats 4000000 in
theorem walk (v : Value) (I : List It) (X : Int) (now : Int) (w : World) (hv : Rd encLi w v I) (hlo : Lo I) :
    Calls Try.prog 5 #[.agg #[v, .int .i64 X], .int .i64 now] w fun e w' => e = .returned (.bool true) ∧ Below w.heap.size w w' := by
  obtain ⟨a, cap, rfl⟩ := hv.form
  have R : Hid (Rd encLi w (.slice a I.length cap) I) := hv
  have HLO : Hid (Lo I) := hlo
  clear hv hlo
  obtain ⟨⟨J, Y⟩, hJ⟩ := hid_ex (agR ⟨I, X⟩ now)
  obtain ⟨G, hG⟩ := hid_ex (agN ⟨I, X⟩ now)
  have hyy : (Y != Y) = false := by simp
  go_enter Try.func5, Try.ntmps5
  have mk1 : Hid True := trivial
  have mk2 : Hid True := trivial
  go_wp2_with (first | (clear mk1; refine wpList_box_v rfl 24 _ rfl [.slice a I.length cap, .int .i64 X] rfl ?_; intro ba w1 hba hwba hB1 ca; have hz1 : w.heap.size ≤ w1.heap.size := hB1.size; have hB := hB1; have hzw := hB.size; obtain ⟨ca0, ca1⟩ := cells2 ca) | (clear mk2; go_at_call 8; refine (szBook_any I X _ 1048576 (by omega) (by omega) _ (R.out.grow hB) HLO.out).mono ?_; rintro er w2 ⟨q, rfl, hB2, hr⟩; have hz2 : w1.heap.size ≤ w2.heap.size := hB2.size; replace ca := vblk_grow ca hB2; replace hB := hB.trans (hB2.mono (by omega)); replace hzw := hB.size; clear ca0 ca1; obtain ⟨ca0, ca1⟩ := cells2 ca; by_cases hneg : q < 0) | (fail))
  · go_ret
    exact ⟨rfl, hB⟩
  obtain ⟨hl, hsm⟩ := hr (by omega)
  clear hr
  have SMK : Hid (SmK I) := hsm
  clear hsm
  have hJl : J.length ≤ 1048576 ∧ G.length ≤ 1048576 := by
    have h1 := ag_len I X now
    rw [hJ.out, hG.out] at h1
    exact ⟨Nat.le_trans h1.1 hl, Nat.le_trans h1.2 hl⟩
  obtain ⟨mk, hmk⟩ : ∃ m : Nat, Hid (m = 1 + 5 * I.length) := ⟨_, rfl⟩
  obtain ⟨mj, hmj⟩ : ∃ m : Nat, Hid (m = 1 + 5 * J.length) := ⟨_, rfl⟩
  have hmj2 : 1 ≤ mj ∧ mj ≤ 6000000 := by have := hmj.out; omega
  obtain ⟨mg, hmg⟩ : ∃ m : Nat, Hid (m = mj + G.length) := ⟨_, rfl⟩
  have hsd : decide ((mk : Int) < 0) = false := decide_eq_false (by omega)
  have hsd2 : ¬ ((mk : Int) < 0) := by omega
  have hsn : ¬ ((mj : Int) < 0) := by omega
  have hsg : ¬ ((mg : Int) < 0) := by omega
  have hse : ((mg : Int) != (mg : Int)) = false := by simp
  have mk3 : Hid True := trivial
  have mk4 : Hid True := trivial
  have mk5 : Hid True := trivial
  have mk6 : Hid True := trivial
  have mk7 : Hid True := trivial
  have mk8 : Hid True := trivial
  have mk9 : Hid True := trivial
  have mk10 : Hid True := trivial
  have mk11 : Hid True := trivial
  have mk12 : Hid True := trivial
  have mk13 : Hid True := trivial
  have mk14 : Hid True := trivial
  go_wp2_with (first | (clear mk3; go_at_call 10; refine (toBook_any I X _ _ (R.out.grow hB) hl).mono ?_; rintro er w3 ⟨vt, rfl, ot, hB3⟩; have hz3 : w2.heap.size ≤ w3.heap.size := hB3.size; replace ca := vblk_grow ca hB3; replace hB := hB.trans (hB3.mono (by omega)); replace hzw := hB.size; clear ca0 ca1; obtain ⟨ca0, ca1⟩ := cells2 ca; obtain ⟨At, Nt, Kt, rfl⟩ := ot.slice) | (clear mk4; go_at_call 17; refine (specAged_any I X now _ _ ot.rd SMK.out hl).mono ?_; rintro er w4 ⟨vw, uw, rfl, ow, nw, hB4⟩; have hz4 : w3.heap.size ≤ w4.heap.size := hB4.size; replace ca := vblk_grow ca hB4; replace hB := hB.trans (hB4.mono (by omega)); replace hzw := hB.size; clear ca0 ca1; obtain ⟨ca0, ca1⟩ := cells2 ca; rw [hJ.out] at ow; rw [hG.out] at nw; (try rw [hJ.out]); dsimp only at ow; obtain ⟨Aw, Nw, Kw, rfl⟩ := ow.slice; obtain ⟨Bw, Mw, Lw, rfl⟩ := nw.slice) | (clear mk5; refine wpList_alloc_v rfl 29 rfl _ zeroBk ?_; intro bw w5 hbw hwbw hB5 cw; have hz5 : w4.heap.size ≤ w5.heap.size := hB5.size; replace ow := ow.grow hB5; replace nw := nw.grow hB5; replace ca := vblk_grow ca hB5; replace hB := hB.trans (hB5.mono (by omega)); replace hzw := hB.size; clear ca0 ca1; obtain ⟨ca0, ca1⟩ := cells2 ca) | (clear mk6; refine wpList_store_v rfl 29 _ _ rfl bw [.slice Aw Nw Kw, .int .i64 Y] rfl rfl sizeBk cw rfl (oneBk _ _ _ _) ?_; intro w6 hO6 cwx; have hz6 : w5.heap.size ≤ w6.heap.size := (Nat.le_of_eq hO6.1.symm); have hy6 : w6.heap.size ≤ w5.heap.size := (Nat.le_of_eq hO6.1); replace ow := ow.only hO6 cw (by decide); replace nw := nw.only hO6 cw (by decide); replace ca := vblk_only ca hO6 (by omega); replace hB := hB.trans (hO6.2.2 _ (by omega)); replace hzw := hB.size; clear ca0 ca1; obtain ⟨ca0, ca1⟩ := cells2 ca; clear cw; have cw := cwx; clear cwx; obtain ⟨cw0, cw1⟩ := cells2 cw) | (clear mk7; go_at_call 10; refine (toBook_any I X _ _ (R.out.grow hB) hl).mono ?_; rintro er w7 ⟨vx, rfl, ox, hB7⟩; have hz7 : w6.heap.size ≤ w7.heap.size := hB7.size; replace ow := ow.grow hB7; replace nw := nw.grow hB7; replace ca := vblk_grow ca hB7; replace cw := vblk_grow cw hB7; replace hB := hB.trans (hB7.mono (by omega)); replace hzw := hB.size; clear ca0 ca1; obtain ⟨ca0, ca1⟩ := cells2 ca; clear cw0 cw1; obtain ⟨cw0, cw1⟩ := cells2 cw; obtain ⟨Ax, Nx, Kx, rfl⟩ := ox.slice) | (clear mk8; refine wpList_alloc_v rfl 29 rfl _ zeroBk ?_; intro bx w8 hbx hwbx hB8 cx; have hz8 : w7.heap.size ≤ w8.heap.size := hB8.size; replace ow := ow.grow hB8; replace nw := nw.grow hB8; replace ox := ox.grow hB8; replace ca := vblk_grow ca hB8; replace cw := vblk_grow cw hB8; replace hB := hB.trans (hB8.mono (by omega)); replace hzw := hB.size; clear ca0 ca1; obtain ⟨ca0, ca1⟩ := cells2 ca; clear cw0 cw1; obtain ⟨cw0, cw1⟩ := cells2 cw) | (clear mk9; refine wpList_store_v rfl 29 _ _ rfl bx [.slice Ax Nx Kx, .int .i64 X] rfl rfl sizeBk cx rfl (oneBk _ _ _ _) ?_; intro w9 hO9 cxx; have hz9 : w8.heap.size ≤ w9.heap.size := (Nat.le_of_eq hO9.1.symm); have hy9 : w9.heap.size ≤ w8.heap.size := (Nat.le_of_eq hO9.1); replace ow := ow.only hO9 cx (by decide); replace nw := nw.only hO9 cx (by decide); replace ox := ox.only hO9 cx (by decide); replace ca := vblk_only ca hO9 (by omega); replace cw := vblk_only cw hO9 (by omega); replace hB := hB.trans (hO9.2.2 _ (by omega)); replace hzw := hB.size; clear ca0 ca1; obtain ⟨ca0, ca1⟩ := cells2 ca; clear cw0 cw1; obtain ⟨cw0, cw1⟩ := cells2 cw; clear cx; have cx := cxx; clear cxx; obtain ⟨cx0, cx1⟩ := cells2 cx) | (clear mk10; go_at_call 18; refine (implAged_any I X now _ _ ox.rd SMK.out hl).mono ?_; rintro er w10 ⟨vg, ug, rfl, og, ng, hB10⟩; have hz10 : w9.heap.size ≤ w10.heap.size := hB10.size; replace ow := ow.grow hB10; replace nw := nw.grow hB10; replace ox := ox.grow hB10; replace ca := vblk_grow ca hB10; replace cw := vblk_grow cw hB10; replace cx := vblk_grow cx hB10; replace hB := hB.trans (hB10.mono (by omega)); replace hzw := hB.size; clear ca0 ca1; obtain ⟨ca0, ca1⟩ := cells2 ca; clear cw0 cw1; obtain ⟨cw0, cw1⟩ := cells2 cw; clear cx0 cx1; obtain ⟨cx0, cx1⟩ := cells2 cx; rw [hJ.out] at og; rw [hG.out] at ng; (try rw [hJ.out]); dsimp only at og; obtain ⟨Ag, Ng, Kg, rfl⟩ := og.slice; obtain ⟨Bg, Mg, Lg, rfl⟩ := ng.slice) | (clear mk11; refine wpList_alloc_v rfl 29 rfl _ zeroBk ?_; intro bg w11 hbg hwbg hB11 cg; have hz11 : w10.heap.size ≤ w11.heap.size := hB11.size; replace ow := ow.grow hB11; replace nw := nw.grow hB11; replace ox := ox.grow hB11; replace og := og.grow hB11; replace ng := ng.grow hB11; replace ca := vblk_grow ca hB11; replace cw := vblk_grow cw hB11; replace cx := vblk_grow cx hB11; replace hB := hB.trans (hB11.mono (by omega)); replace hzw := hB.size; clear ca0 ca1; obtain ⟨ca0, ca1⟩ := cells2 ca; clear cw0 cw1; obtain ⟨cw0, cw1⟩ := cells2 cw; clear cx0 cx1; obtain ⟨cx0, cx1⟩ := cells2 cx) | (clear mk12; refine wpList_store_v rfl 29 _ _ rfl bg [.slice Ag Ng Kg, .int .i64 Y] rfl rfl sizeBk cg rfl (oneBk _ _ _ _) ?_; intro w12 hO12 cgx; have hz12 : w11.heap.size ≤ w12.heap.size := (Nat.le_of_eq hO12.1.symm); have hy12 : w12.heap.size ≤ w11.heap.size := (Nat.le_of_eq hO12.1); replace ow := ow.only hO12 cg (by decide); replace nw := nw.only hO12 cg (by decide); replace ox := ox.only hO12 cg (by decide); replace og := og.only hO12 cg (by decide); replace ng := ng.only hO12 cg (by decide); replace ca := vblk_only ca hO12 (by omega); replace cw := vblk_only cw hO12 (by omega); replace cx := vblk_only cx hO12 (by omega); replace hB := hB.trans (hO12.2.2 _ (by omega)); replace hzw := hB.size; clear ca0 ca1; obtain ⟨ca0, ca1⟩ := cells2 ca; clear cw0 cw1; obtain ⟨cw0, cw1⟩ := cells2 cw; clear cx0 cx1; obtain ⟨cx0, cx1⟩ := cells2 cx; clear cg; have cg := cgx; clear cgx; obtain ⟨cg0, cg1⟩ := cells2 cg) | (clear mk13; go_at_call 12; refine (eqBook_any J Y _ _ _ og.rd ow.rd).mono ?_; rintro er w13 ⟨rfl, hB13⟩; have hz13 : w12.heap.size ≤ w13.heap.size := hB13.size; replace ow := ow.grow hB13; replace nw := nw.grow hB13; replace ox := ox.grow hB13; replace og := og.grow hB13; replace ng := ng.grow hB13; replace ca := vblk_grow ca hB13; replace cw := vblk_grow cw hB13; replace cx := vblk_grow cx hB13; replace cg := vblk_grow cg hB13; replace hB := hB.trans (hB13.mono (by omega)); replace hzw := hB.size; clear ca0 ca1; obtain ⟨ca0, ca1⟩ := cells2 ca; clear cw0 cw1; obtain ⟨cw0, cw1⟩ := cells2 cw; clear cx0 cx1; obtain ⟨cx0, cx1⟩ := cells2 cx; clear cg0 cg1; obtain ⟨cg0, cg1⟩ := cells2 cg) | (clear mk14; go_at_call 19; refine (eqTexts_any G _ _ _ ng.rd nw.rd).mono ?_; rintro er w14 ⟨rfl, hB14⟩; have hz14 : w13.heap.size ≤ w14.heap.size := hB14.size; replace ow := ow.grow hB14; replace nw := nw.grow hB14; replace ox := ox.grow hB14; replace og := og.grow hB14; replace ng := ng.grow hB14; replace ca := vblk_grow ca hB14; replace cw := vblk_grow cw hB14; replace cx := vblk_grow cx hB14; replace cg := vblk_grow cg hB14; replace hB := hB.trans (hB14.mono (by omega)); replace hzw := hB.size; clear ca0 ca1; obtain ⟨ca0, ca1⟩ := cells2 ca; clear cw0 cw1; obtain ⟨cw0, cw1⟩ := cells2 cw; clear cx0 cx1; obtain ⟨cx0, cx1⟩ := cells2 cx; clear cg0 cg1; obtain ⟨cg0, cg1⟩ := cells2 cg) | (fail))
  have hBd : Below w14.heap.size w14 w14.drew := (Below.refl _ _).drew
  have hzd : w14.drew.heap.size ≤ w14.heap.size := Nat.le_refl _
  have hzd2 : w14.heap.size ≤ w14.drew.heap.size := Nat.le_refl _
  replace ow := ow.grow hBd
  replace nw := nw.grow hBd
  replace ox := ox.grow hBd
  replace og := og.grow hBd
  replace ng := ng.grow hBd
  replace ca := vblk_grow ca hBd
  clear ca0 ca1
  obtain ⟨ca0, ca1⟩ := cells2 ca
  replace cw := vblk_grow cw hBd
  clear cw0 cw1
  obtain ⟨cw0, cw1⟩ := cells2 cw
  replace cx := vblk_grow cx hBd
  clear cx0 cx1
  obtain ⟨cx0, cx1⟩ := cells2 cx
  replace cg := vblk_grow cg hBd
  clear cg0 cg1
  obtain ⟨cg0, cg1⟩ := cells2 cg
  replace hB := hB.trans (hBd.mono (by omega))
  replace hzw := hB.size
  have S1 : (w14.drew.cell? ⟨bx, 0, none⟩ = some (.slice Ax Nx Kx) ∧ w14.drew.cell? ⟨bx, 1, none⟩ = some (.int .i64 X) ∧ w14.drew.cell? ⟨ba, 0, none⟩ = some (.slice a I.length cap) ∧ w14.drew.cell? ⟨ba, 1, none⟩ = some (.int .i64 X)) := ⟨cx0, cx1, ca0, ca1⟩
  have mk15 : Hid True := trivial
  have mk16 : Hid True := trivial
  go_region_held3 (fun w' => (w'.cell? ⟨bx, 0, none⟩ = some (.slice Ax Nx Kx) ∧ w'.cell? ⟨bx, 1, none⟩ = some (.int .i64 X) ∧ w'.cell? ⟨ba, 0, none⟩ = some (.slice a I.length cap) ∧ w'.cell? ⟨ba, 1, none⟩ = some (.int .i64 X))) (first | with_reducible assumption | with_reducible exact S1 | (fail)) (first | (clear mk15; go_at_call 10; refine (toBook_any I X _ (w14.drew) (R.out.grow hB) hl).mono ?_; rintro er w15 ⟨vy, rfl, oy, hB15⟩; have hz15 : w14.drew.heap.size ≤ w15.heap.size := hB15.size; replace ow := ow.grow hB15; replace nw := nw.grow hB15; replace ox := ox.grow hB15; replace og := og.grow hB15; replace ng := ng.grow hB15; replace ca := vblk_grow ca hB15; replace cw := vblk_grow cw hB15; replace cx := vblk_grow cx hB15; replace cg := vblk_grow cg hB15; replace hB := hB.trans (hB15.mono (by omega)); replace hzw := hB.size; clear ca0 ca1; obtain ⟨ca0, ca1⟩ := cells2 ca; clear cw0 cw1; obtain ⟨cw0, cw1⟩ := cells2 cw; clear cx0 cx1; obtain ⟨cx0, cx1⟩ := cells2 cx; clear cg0 cg1; obtain ⟨cg0, cg1⟩ := cells2 cg; obtain ⟨Ay, Ny, Ky, rfl⟩ := oy.slice; have S2 : (w15.cell? ⟨bx, 0, none⟩ = some (.slice Ax Nx Kx) ∧ w15.cell? ⟨bx, 1, none⟩ = some (.int .i64 X) ∧ w15.cell? ⟨ba, 0, none⟩ = some (.slice a I.length cap) ∧ w15.cell? ⟨ba, 1, none⟩ = some (.int .i64 X)) := ⟨cx0, cx1, ca0, ca1⟩) | (clear mk16; go_at_call 12; refine (eqBook_any I X _ _ _ ox.rd oy.rd).mono ?_; rintro er w16 ⟨rfl, hB16⟩; have hz16 : w15.heap.size ≤ w16.heap.size := hB16.size; replace ow := ow.grow hB16; replace nw := nw.grow hB16; replace ox := ox.grow hB16; replace og := og.grow hB16; replace ng := ng.grow hB16; replace ca := vblk_grow ca hB16; replace cw := vblk_grow cw hB16; replace cx := vblk_grow cx hB16; replace cg := vblk_grow cg hB16; replace hB := hB.trans (hB16.mono (by omega)); replace hzw := hB.size; clear ca0 ca1; obtain ⟨ca0, ca1⟩ := cells2 ca; clear cw0 cw1; obtain ⟨cw0, cw1⟩ := cells2 cw; clear cx0 cx1; obtain ⟨cx0, cx1⟩ := cells2 cx; clear cg0 cg1; obtain ⟨cg0, cg1⟩ := cells2 cg; have S3 : (w16.cell? ⟨bx, 0, none⟩ = some (.slice Ax Nx Kx) ∧ w16.cell? ⟨bx, 1, none⟩ = some (.int .i64 X) ∧ w16.cell? ⟨ba, 0, none⟩ = some (.slice a I.length cap) ∧ w16.cell? ⟨ba, 1, none⟩ = some (.int .i64 X)) := ⟨cx0, cx1, ca0, ca1⟩) | (fail))
  clear S1 hBd
  clear oy
  have mk17 : Hid True := trivial
  have mk18 : Hid True := trivial
  have mk19 : Hid True := trivial
  have mk20 : Hid True := trivial
  have mk21 : Hid True := trivial
  have mk22 : Hid True := trivial
  have mk23 : Hid True := trivial
  have mk24 : Hid True := trivial
  have mk25 : Hid True := trivial
  have mk26 : Hid True := trivial
  have mk27 : Hid True := trivial
  have mk28 : Hid True := trivial
  have mk29 : Hid True := trivial
  have mk30 : Hid True := trivial
  have mk31 : Hid True := trivial
  go_wp2_with (first | (clear mk17; go_at_call 15; refine (markBook_any I X _ _ _ 1 (by omega) (by omega) mk hmk.out _ ox (by omega)).mono ?_; rintro er w17 ⟨rfl, -, hM17, -⟩; have hz17 : w16.heap.size ≤ w17.heap.size := hM17.size; replace ow := ow.within hM17 (by omega); replace nw := nw.within hM17 (by omega); replace og := og.within hM17 (by omega); replace ng := ng.within hM17 (by omega); replace ca := ca.of (hM17.block _ ca.lt (by omega)); replace cw := cw.of (hM17.block _ cw.lt (by omega)); replace cx := cx.of (hM17.block _ cx.lt (by omega)); replace cg := cg.of (hM17.block _ cg.lt (by omega)); replace hB := hB.trans (hM17.below (by omega) (by omega)); replace hzw := hB.size; clear ca0 ca1; obtain ⟨ca0, ca1⟩ := cells2 ca; clear cw0 cw1; obtain ⟨cw0, cw1⟩ := cells2 cw; clear cx0 cx1; obtain ⟨cx0, cx1⟩ := cells2 cx; clear cg0 cg1; obtain ⟨cg0, cg1⟩ := cells2 cg) | (clear mk18; go_at_call 12; refine (eqBook_any J Y _ _ _ og.rd ow.rd).mono ?_; rintro er w18 ⟨rfl, hB18⟩; have hz18 : w17.heap.size ≤ w18.heap.size := hB18.size; replace ow := ow.grow hB18; replace nw := nw.grow hB18; replace og := og.grow hB18; replace ng := ng.grow hB18; replace ca := vblk_grow ca hB18; replace cw := vblk_grow cw hB18; replace cx := vblk_grow cx hB18; replace cg := vblk_grow cg hB18; replace hB := hB.trans (hB18.mono (by omega)); replace hzw := hB.size; clear ca0 ca1; obtain ⟨ca0, ca1⟩ := cells2 ca; clear cw0 cw1; obtain ⟨cw0, cw1⟩ := cells2 cw; clear cx0 cx1; obtain ⟨cx0, cx1⟩ := cells2 cx; clear cg0 cg1; obtain ⟨cg0, cg1⟩ := cells2 cg) | (clear mk19; go_at_call 19; refine (eqTexts_any G _ _ _ ng.rd nw.rd).mono ?_; rintro er w19 ⟨rfl, hB19⟩; have hz19 : w18.heap.size ≤ w19.heap.size := hB19.size; replace ow := ow.grow hB19; replace nw := nw.grow hB19; replace og := og.grow hB19; replace ng := ng.grow hB19; replace ca := vblk_grow ca hB19; replace cw := vblk_grow cw hB19; replace cx := vblk_grow cx hB19; replace cg := vblk_grow cg hB19; replace hB := hB.trans (hB19.mono (by omega)); replace hzw := hB.size; clear ca0 ca1; obtain ⟨ca0, ca1⟩ := cells2 ca; clear cw0 cw1; obtain ⟨cw0, cw1⟩ := cells2 cw; clear cx0 cx1; obtain ⟨cx0, cx1⟩ := cells2 cx; clear cg0 cg1; obtain ⟨cg0, cg1⟩ := cells2 cg) | (clear mk20; go_at_call 15; refine (markBook_any J Y _ _ _ 1 (by omega) (by omega) mj hmj.out _ og (by omega)).mono ?_; rintro er w20 ⟨rfl, pg, hM20, hY20⟩; have hz20 : w19.heap.size ≤ w20.heap.size := hM20.size; replace ow := ow.within hM20 (by omega); replace nw := nw.within hM20 (by omega); replace ca := ca.of (hM20.block _ ca.lt (by omega)); replace cw := cw.of (hM20.block _ cw.lt (by omega)); replace cx := cx.of (hM20.block _ cx.lt (by omega)); replace cg := cg.of (hM20.block _ cg.lt (by omega)); replace hB := hB.trans (hM20.below (by omega) (by omega)); replace hzw := hB.size; clear ca0 ca1; obtain ⟨ca0, ca1⟩ := cells2 ca; clear cw0 cw1; obtain ⟨cw0, cw1⟩ := cells2 cw; clear cx0 cx1; obtain ⟨cx0, cx1⟩ := cells2 cx; clear cg0 cg1; obtain ⟨cg0, cg1⟩ := cells2 cg; replace ng := hY20.own ng (by decide)) | (clear mk21; go_at_call 20; refine (markTexts_any G _ _ _ mj (by omega) (by omega) mg hmg.out _ ng).mono ?_; rintro er w21 ⟨rfl, qg, hM21, hY21⟩; have hz21 : w20.heap.size ≤ w21.heap.size := hM21.size; replace ow := ow.within hM21 (by omega); replace nw := nw.within hM21 (by omega); replace ca := ca.of (hM21.block _ ca.lt (by omega)); replace cw := cw.of (hM21.block _ cw.lt (by omega)); replace cx := cx.of (hM21.block _ cx.lt (by omega)); replace cg := cg.of (hM21.block _ cg.lt (by omega)); replace hB := hB.trans (hM21.below (by omega) (by omega)); replace hzw := hB.size; clear ca0 ca1; obtain ⟨ca0, ca1⟩ := cells2 ca; clear cw0 cw1; obtain ⟨cw0, cw1⟩ := cells2 cw; clear cx0 cx1; obtain ⟨cx0, cx1⟩ := cells2 cx; clear cg0 cg1; obtain ⟨cg0, cg1⟩ := cells2 cg; replace pg := hY21.own pg (by decide)) | (clear mk22; go_at_call 16; refine (heldBook_any J.length Y _ 1 (by omega) (by omega) mj hmj.out _ pg.rd).mono ?_; rintro er w22 ⟨rfl, hB22⟩; have hz22 : w21.heap.size ≤ w22.heap.size := hB22.size; replace ow := ow.grow hB22; replace nw := nw.grow hB22; replace pg := pg.grow hB22; replace qg := qg.grow hB22; replace ca := vblk_grow ca hB22; replace cw := vblk_grow cw hB22; replace cx := vblk_grow cx hB22; replace cg := vblk_grow cg hB22; replace hB := hB.trans (hB22.mono (by omega)); replace hzw := hB.size; clear ca0 ca1; obtain ⟨ca0, ca1⟩ := cells2 ca; clear cw0 cw1; obtain ⟨cw0, cw1⟩ := cells2 cw; clear cx0 cx1; obtain ⟨cx0, cx1⟩ := cells2 cx; clear cg0 cg1; obtain ⟨cg0, cg1⟩ := cells2 cg) | (clear mk23; go_at_call 21; refine (heldTexts_any G.length _ mj (by omega) (by omega) mg hmg.out _ qg.rd).mono ?_; rintro er w23 ⟨rfl, hB23⟩; have hz23 : w22.heap.size ≤ w23.heap.size := hB23.size; replace ow := ow.grow hB23; replace nw := nw.grow hB23; replace pg := pg.grow hB23; replace qg := qg.grow hB23; replace ca := vblk_grow ca hB23; replace cw := vblk_grow cw hB23; replace cx := vblk_grow cx hB23; replace cg := vblk_grow cg hB23; replace hB := hB.trans (hB23.mono (by omega)); replace hzw := hB.size; clear ca0 ca1; obtain ⟨ca0, ca1⟩ := cells2 ca; clear cw0 cw1; obtain ⟨cw0, cw1⟩ := cells2 cw; clear cx0 cx1; obtain ⟨cx0, cx1⟩ := cells2 cx; clear cg0 cg1; obtain ⟨cg0, cg1⟩ := cells2 cg) | (clear mk24; go_at_call 10; refine (toBook_any I X _ _ (R.out.grow hB) hl).mono ?_; rintro er w24 ⟨vs, rfl, os, hB24⟩; have hz24 : w23.heap.size ≤ w24.heap.size := hB24.size; replace ow := ow.grow hB24; replace nw := nw.grow hB24; replace pg := pg.grow hB24; replace qg := qg.grow hB24; replace ca := vblk_grow ca hB24; replace cw := vblk_grow cw hB24; replace cx := vblk_grow cx hB24; replace cg := vblk_grow cg hB24; replace hB := hB.trans (hB24.mono (by omega)); replace hzw := hB.size; clear ca0 ca1; obtain ⟨ca0, ca1⟩ := cells2 ca; clear cw0 cw1; obtain ⟨cw0, cw1⟩ := cells2 cw; clear cx0 cx1; obtain ⟨cx0, cx1⟩ := cells2 cx; clear cg0 cg1; obtain ⟨cg0, cg1⟩ := cells2 cg; obtain ⟨As, Ns, Ks, rfl⟩ := os.slice) | (clear mk25; go_at_call 18; refine (implAged_any I X now _ _ os.rd SMK.out hl).mono ?_; rintro er w25 ⟨vh, uh, rfl, oh, nh, hB25⟩; have hz25 : w24.heap.size ≤ w25.heap.size := hB25.size; replace ow := ow.grow hB25; replace nw := nw.grow hB25; replace pg := pg.grow hB25; replace qg := qg.grow hB25; replace ca := vblk_grow ca hB25; replace cw := vblk_grow cw hB25; replace cx := vblk_grow cx hB25; replace cg := vblk_grow cg hB25; replace hB := hB.trans (hB25.mono (by omega)); replace hzw := hB.size; clear ca0 ca1; obtain ⟨ca0, ca1⟩ := cells2 ca; clear cw0 cw1; obtain ⟨cw0, cw1⟩ := cells2 cw; clear cx0 cx1; obtain ⟨cx0, cx1⟩ := cells2 cx; clear cg0 cg1; obtain ⟨cg0, cg1⟩ := cells2 cg; rw [hJ.out] at oh; rw [hG.out] at nh; (try rw [hJ.out]); dsimp only at oh; obtain ⟨Ah, Nh, Kh, rfl⟩ := oh.slice; obtain ⟨Bh, Mh, Lh, rfl⟩ := nh.slice) | (clear mk26; refine wpList_alloc_v rfl 29 rfl _ zeroBk ?_; intro bh w26 hbh hwbh hB26 ch; have hz26 : w25.heap.size ≤ w26.heap.size := hB26.size; replace ow := ow.grow hB26; replace nw := nw.grow hB26; replace pg := pg.grow hB26; replace qg := qg.grow hB26; replace oh := oh.grow hB26; replace nh := nh.grow hB26; replace ca := vblk_grow ca hB26; replace cw := vblk_grow cw hB26; replace cx := vblk_grow cx hB26; replace cg := vblk_grow cg hB26; replace hB := hB.trans (hB26.mono (by omega)); replace hzw := hB.size; clear ca0 ca1; obtain ⟨ca0, ca1⟩ := cells2 ca; clear cw0 cw1; obtain ⟨cw0, cw1⟩ := cells2 cw; clear cx0 cx1; obtain ⟨cx0, cx1⟩ := cells2 cx; clear cg0 cg1; obtain ⟨cg0, cg1⟩ := cells2 cg) | (clear mk27; refine wpList_store_v rfl 29 _ _ rfl bh [.slice Ah Nh Kh, .int .i64 Y] rfl rfl sizeBk ch rfl (oneBk _ _ _ _) ?_; intro w27 hO27 chx; have hz27 : w26.heap.size ≤ w27.heap.size := (Nat.le_of_eq hO27.1.symm); have hy27 : w27.heap.size ≤ w26.heap.size := (Nat.le_of_eq hO27.1); replace ow := ow.only hO27 ch (by decide); replace nw := nw.only hO27 ch (by decide); replace pg := pg.only hO27 ch (by decide); replace qg := qg.only hO27 ch (by decide); replace oh := oh.only hO27 ch (by decide); replace nh := nh.only hO27 ch (by decide); replace ca := vblk_only ca hO27 (by omega); replace cw := vblk_only cw hO27 (by omega); replace cx := vblk_only cx hO27 (by omega); replace cg := vblk_only cg hO27 (by omega); replace hB := hB.trans (hO27.2.2 _ (by omega)); replace hzw := hB.size; clear ca0 ca1; obtain ⟨ca0, ca1⟩ := cells2 ca; clear cw0 cw1; obtain ⟨cw0, cw1⟩ := cells2 cw; clear cx0 cx1; obtain ⟨cx0, cx1⟩ := cells2 cx; clear cg0 cg1; obtain ⟨cg0, cg1⟩ := cells2 cg; clear ch; have ch := chx; clear chx; obtain ⟨ch0, ch1⟩ := cells2 ch) | (clear mk28; go_at_call 12; refine (eqBook_any J Y _ _ _ oh.rd ow.rd).mono ?_; rintro er w28 ⟨rfl, hB28⟩; have hz28 : w27.heap.size ≤ w28.heap.size := hB28.size; replace ow := ow.grow hB28; replace nw := nw.grow hB28; replace pg := pg.grow hB28; replace qg := qg.grow hB28; replace oh := oh.grow hB28; replace nh := nh.grow hB28; replace ca := vblk_grow ca hB28; replace cw := vblk_grow cw hB28; replace cx := vblk_grow cx hB28; replace cg := vblk_grow cg hB28; replace ch := vblk_grow ch hB28; replace hB := hB.trans (hB28.mono (by omega)); replace hzw := hB.size; clear ca0 ca1; obtain ⟨ca0, ca1⟩ := cells2 ca; clear cw0 cw1; obtain ⟨cw0, cw1⟩ := cells2 cw; clear cx0 cx1; obtain ⟨cx0, cx1⟩ := cells2 cx; clear cg0 cg1; obtain ⟨cg0, cg1⟩ := cells2 cg; clear ch0 ch1; obtain ⟨ch0, ch1⟩ := cells2 ch) | (clear mk29; go_at_call 19; refine (eqTexts_any G _ _ _ nh.rd nw.rd).mono ?_; rintro er w29 ⟨rfl, hB29⟩; have hz29 : w28.heap.size ≤ w29.heap.size := hB29.size; replace ow := ow.grow hB29; replace nw := nw.grow hB29; replace pg := pg.grow hB29; replace qg := qg.grow hB29; replace oh := oh.grow hB29; replace nh := nh.grow hB29; replace ca := vblk_grow ca hB29; replace cw := vblk_grow cw hB29; replace cx := vblk_grow cx hB29; replace cg := vblk_grow cg hB29; replace ch := vblk_grow ch hB29; replace hB := hB.trans (hB29.mono (by omega)); replace hzw := hB.size; clear ca0 ca1; obtain ⟨ca0, ca1⟩ := cells2 ca; clear cw0 cw1; obtain ⟨cw0, cw1⟩ := cells2 cw; clear cx0 cx1; obtain ⟨cx0, cx1⟩ := cells2 cx; clear cg0 cg1; obtain ⟨cg0, cg1⟩ := cells2 cg; clear ch0 ch1; obtain ⟨ch0, ch1⟩ := cells2 ch) | (clear mk30; go_at_call 16; refine (heldBook_any J.length Y _ 1 (by omega) (by omega) mj hmj.out _ pg.rd).mono ?_; rintro er w30 ⟨rfl, hB30⟩; have hz30 : w29.heap.size ≤ w30.heap.size := hB30.size; replace ow := ow.grow hB30; replace nw := nw.grow hB30; replace pg := pg.grow hB30; replace qg := qg.grow hB30; replace oh := oh.grow hB30; replace nh := nh.grow hB30; replace ca := vblk_grow ca hB30; replace cw := vblk_grow cw hB30; replace cx := vblk_grow cx hB30; replace cg := vblk_grow cg hB30; replace ch := vblk_grow ch hB30; replace hB := hB.trans (hB30.mono (by omega)); replace hzw := hB.size; clear ca0 ca1; obtain ⟨ca0, ca1⟩ := cells2 ca; clear cw0 cw1; obtain ⟨cw0, cw1⟩ := cells2 cw; clear cx0 cx1; obtain ⟨cx0, cx1⟩ := cells2 cx; clear cg0 cg1; obtain ⟨cg0, cg1⟩ := cells2 cg; clear ch0 ch1; obtain ⟨ch0, ch1⟩ := cells2 ch) | (clear mk31; go_at_call 21; refine (heldTexts_any G.length _ mj (by omega) (by omega) mg hmg.out _ qg.rd).mono ?_; rintro er w31 ⟨rfl, hB31⟩; have hz31 : w30.heap.size ≤ w31.heap.size := hB31.size; replace ow := ow.grow hB31; replace nw := nw.grow hB31; replace pg := pg.grow hB31; replace qg := qg.grow hB31; replace oh := oh.grow hB31; replace nh := nh.grow hB31; replace ca := vblk_grow ca hB31; replace cw := vblk_grow cw hB31; replace cx := vblk_grow cx hB31; replace cg := vblk_grow cg hB31; replace ch := vblk_grow ch hB31; replace hB := hB.trans (hB31.mono (by omega)); replace hzw := hB.size; clear ca0 ca1; obtain ⟨ca0, ca1⟩ := cells2 ca; clear cw0 cw1; obtain ⟨cw0, cw1⟩ := cells2 cw; clear cx0 cx1; obtain ⟨cx0, cx1⟩ := cells2 cx; clear cg0 cg1; obtain ⟨cg0, cg1⟩ := cells2 cg; clear ch0 ch1; obtain ⟨ch0, ch1⟩ := cells2 ch) | (fail))
  go_ret
  exact ⟨rfl, hB⟩

/-! ### the row, by the frame -/
set_option maxRecDepth 100000 in
theorem lifted (os : Os) (started : os.Started) (H : Type) (enc : TypeId × Value → H) :
    ReturnsInHanded {} Try.checked os 5 .any (Rows.fnExactAgedSpec.pre6 enc Try.prog Try.f5 Rows.fnExactAgedRow.domain false) (Rows.fnExactAgedSpec.post enc Try.prog Try.f5 false true false false) := by
  refine returnsInHanded_of_change (C := Try.checked) own started (by kernel_rfl) Try.func5
    (ChangeSpec.witness6 (enc := enc) (C := Try.checked) false ⟨#[], #[.agg #[.slice none 0 0, .int .i64 0], .int .i64 0], []⟩ 8 (by kernel_rfl) (by kernel_rfl) (by kernel_rfl) (by kernel_rfl)) ?_
  intro W base args ds gs before hval0 hW hcnd _
  have hval : ∀ (j : Nat) t v, Try.f5.params[j]? = some t → args[j]? = some v → Value.okWide Try.prog W .any base t v := hval0
  have hW' := hW
  obtain ⟨p, q, hA0, hV, rfl, hfz, hnd⟩ := hW
  have hA : DataW.TrodAll enc Try.prog W 0 (fun _ => true) true Try.f5.params.toList args.toList ds p := hA0
  rw [Try.params5] at hA hval
  obtain ⟨v0, vs0, d0, ds0, p0, q0, hargs, rfl, rfl, h0, r0⟩ := trodAll_cons hA
  obtain ⟨v1, vs1, d1, ds1, p1, q1, rfl, rfl, rfl, h1, r1⟩ := trodAll_cons r0
  obtain ⟨rfl, rfl, rfl⟩ := trodAll_nil r1
  obtain rfl : args = #[v0, v1] := by cases args; simp_all
  obtain ⟨rfl, rfl⟩ := trodVars_none hV
  have k0 := h0
  have lt0 : ∀ x ∈ p0, x.block < W.heap.size := by obtain ⟨m, hm⟩ := k0; exact DataW.trod_lt m _ _ _ hm
  obtain ⟨u0, I0, X0, rfl, hR0, hS0⟩ := open_book (hval 0 24 v0 rfl rfl) h0
  obtain ⟨a1, rfl, rfl, rfl, ws1⟩ := open_int Try.underlying2 (hval 1 2 v1 rfl rfl) h1
  clear hA0 hval0
  refine (walk u0 I0 X0 a1 W hR0 hS0).mono fun e W' ⟨he, bel⟩ => ?_
  subst he
  exact ⟨_, rfl, _, _, _, [], _, [], hW', trodAll_mk1 (shut_bool Try.underlying4 _), (trodAll_cons_mk (Below.trod laidOut (by kernel_rfl) (of_decide_eq_true (by kernel_rfl)) k0 bel lt0) (trodAll_cons_mk (shut_int Try.underlying2 ws1) trodAll_mk0)), rfl, bel.frame _, fun h => by cases h⟩

theorem over : Rows.fnExactAgedRow.holds Try.pinned (OpenSpec.ofChange Rows.fnExactAgedSpec) :=
  OpenClaim.holds_of_wide 5 Try.f5 rfl rfl rfl rfl rfl rfl rfl ⟨rfl, rfl, rfl, rfl, rfl⟩ rfl rfl rfl rfl rfl (by kernel_rfl) Try.func5 (by kernel_rfl)
    (of_decide_eq_true (by kernel_rfl)) (by unfold Func.isWrapper; first | (rw [if_pos (by decide +kernel)]; kernel_rfl) | (rw [if_neg (by decide +kernel)]; exact ⟨rfl, rfl⟩))
    (fun os started H enc _ => lifted os started H enc)

/-- the statement -/
theorem proved : Rows.FnExactAgedSaid := over
end Go.Proofs.Ytcbhbpdlgibipaa.fnExactAged

namespace Go.Proofs.Ytcbhbpdlgibipaa
/-- the statement, under its short name -/
theorem fnExactAged_holds : Rows.FnExactAgedSaid := fnExactAged.proved
#print axioms fnExactAged_holds
end Go.Proofs.Ytcbhbpdlgibipaa
