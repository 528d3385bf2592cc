/- For every ring and text the program's Uses answers as the model's Uses, in memory of its own, and writes into nothing that it was given (the law itself lets off what has over 1048576 names, flags and bytes): the law's call returns true and its arguments read as before; no condition. -/
import Derived.Test.YtgcgofnjaipndaaRs4
namespace Go.Proofs.Ytgcgofnjaipndaa.fnExactUses
open Go.ChangeShapes Go.WideShapes Go.ChangeAt Go.RowKit
open Go.Proofs.Ytgcgofnjaipndaa.ce Go.Proofs.Ytgcgofnjaipndaa.ro Go.Proofs.Ytgcgofnjaipndaa.rg
open Go.ChangeMaps (open_string shut_string)
set_option linter.unusedVariables false

theorem own : ownKnob Try.prog.godebug = none := by kernel_rfl
theorem laidOut : laidOutB Try.prog = true := by kernel_rfl

/-! ### the walk -/
set_option maxRecDepth 100000 in
set_option maxHeartbeats 4000000 in
theorem walk (r : Rg) (vN vU : Value) (s : ByteArray) (w : World) (hv : RdR w vN vU r) (hs : s.size ≤ 9223372036854775807) :
    Calls Try.prog 6 #[.agg #[vN, vU, .int .i64 r.A], .string s] w fun e w' => e = .returned (.bool true) ∧ Below w.heap.size w w' := by
  obtain ⟨a, cap, rfl⟩ := hv.n.form
  obtain ⟨c, dc, rfl⟩ := hv.u.form
  have R : Hid (RdR w (.slice a r.N.length cap) (.slice c r.U.length dc) r) := hv
  clear hv
  have hsN := usR_len r s
  obtain ⟨J, hJ⟩ := hid_ex (usR r s)
  rw [hJ.out] at hsN
  obtain ⟨hsN, hsU⟩ := hsN
  obtain ⟨mk, hmk⟩ : ∃ m : Nat, Hid (m = 1 + r.N.length + r.U.length) := ⟨_, rfl⟩
  obtain ⟨mj, hmj⟩ : ∃ m : Nat, Hid (m = 1 + J.N.length + J.U.length) := ⟨_, rfl⟩
  have hsd : decide ((mk : Int) < 0) = false := decide_eq_false (by omega)
  have hsd2 : ¬ ((mk : Int) < 0) := by omega
  have hsn : ¬ ((mj : Int) < 0) := by omega
  have hse : ((mj : Int) != (mj : Int)) = false := by simp
  by_cases hsl : 1048576 < (s.size : Int)
  · have bm : Hid True := trivial
    go_enter Try.func6, Try.ntmps6
    go_wp2_with (first | (clear bm; refine wpList_box_v rfl 26 _ rfl [.slice a r.N.length cap, .slice c r.U.length dc, .int .i64 r.A] rfl ?_; intro ba w1 hba hwba hB1 V1) | (fail))
    go_ret
    exact ⟨rfl, hB1⟩
  go_enter Try.func6, Try.ntmps6
  have mk1 : Hid True := trivial
  have mk2 : Hid True := trivial
  go_wp2_with (first | (clear mk1; refine wpList_box_v rfl 26 _ rfl [.slice a r.N.length cap, .slice c r.U.length dc, .int .i64 r.A] rfl ?_; intro ba w1 hba hwba hB1 ca; have hz1 : w.heap.size ≤ w1.heap.size := hB1.size; have hB := hB1; have hzw := hB.size; obtain ⟨ca0, ca1, ca2⟩ := cells3 ca) | (clear mk2; go_at_call 13; refine (szRing_any r _ _ _ (R.out.grow hB)).mono ?_; rintro er w2 ⟨q, rfl, hB2, hr⟩; have hz2 : w1.heap.size ≤ w2.heap.size := hB2.size; replace ca := vblk_grow ca hB2; replace hB := hB.trans (hB2.mono (by omega)); replace hzw := hB.size; clear ca0 ca1 ca2; obtain ⟨ca0, ca1, ca2⟩ := cells3 ca; by_cases hneg : q < 0) | (fail))
  · go_ret
    exact ⟨rfl, hB⟩
  obtain ⟨hlN, hlU⟩ := hr (by omega)
  clear hr
  have mk3 : Hid True := trivial
  have mk4 : Hid True := trivial
  have mk5 : Hid True := trivial
  have mk6 : Hid True := trivial
  have mk7 : Hid True := trivial
  have mk8 : Hid True := trivial
  have mk9 : Hid True := trivial
  have mk10 : Hid True := trivial
  have mk11 : Hid True := trivial
  have mk12 : Hid True := trivial
  have mk13 : Hid True := trivial
  go_wp2_with (first | (clear mk3; go_at_call 15; refine (toRing_any r _ _ _ (R.out.grow hB) hlN hlU).mono ?_; rintro er w3 ⟨vt, ut, rfl, ot, hB3⟩; have hz3 : w2.heap.size ≤ w3.heap.size := hB3.size; replace ca := vblk_grow ca hB3; replace hB := hB.trans (hB3.mono (by omega)); replace hzw := hB.size; clear ca0 ca1 ca2; obtain ⟨ca0, ca1, ca2⟩ := cells3 ca; obtain ⟨At, Nt, Kt, rfl⟩ := ot.n.slice; obtain ⟨Bt, Mt, Lt, rfl⟩ := ot.u.slice) | (clear mk4; go_at_call 22; refine (specUses_all r s _ _ _ (ot.rd R.out.s)).mono ?_; rintro er w4 ⟨vw, uw, he, ow, hB4⟩; have hz4 : w3.heap.size ≤ w4.heap.size := hB4.size; replace ca := vblk_grow ca hB4; replace hB := hB.trans (hB4.mono (by omega)); replace hzw := hB.size; clear ca0 ca1 ca2; obtain ⟨ca0, ca1, ca2⟩ := cells3 ca; rw [hJ.out] at he; subst he; rw [hJ.out] at ow; obtain ⟨Aw, Nw, Kw, rfl⟩ := ow.n.slice; obtain ⟨Bw, Mw, Lw, rfl⟩ := ow.u.slice) | (clear mk5; refine wpList_alloc_v rfl 29 rfl _ zeroRg ?_; intro bw w5 hbw hwbw hB5 cw; have hz5 : w4.heap.size ≤ w5.heap.size := hB5.size; replace ow := ow.grow hB5; replace ca := vblk_grow ca hB5; replace hB := hB.trans (hB5.mono (by omega)); replace hzw := hB.size; clear ca0 ca1 ca2; obtain ⟨ca0, ca1, ca2⟩ := cells3 ca) | (clear mk6; refine wpList_store_v rfl 29 _ _ rfl bw [.slice Aw Nw Kw, .slice Bw Mw Lw, .int .i64 J.A] rfl rfl sizeRg cw rfl (by simp [Value.oneCell']) ?_; intro w6 hO6 cwx; have hz6 : w5.heap.size ≤ w6.heap.size := (Nat.le_of_eq hO6.1.symm); have hy6 : w6.heap.size ≤ w5.heap.size := (Nat.le_of_eq hO6.1); replace ow := ow.only hO6 cw (by decide) (by decide); replace ca := vblk_only ca hO6 (by omega); replace hB := hB.trans (hO6.2.2 _ (by omega)); replace hzw := hB.size; clear ca0 ca1 ca2; obtain ⟨ca0, ca1, ca2⟩ := cells3 ca; clear cw; have cw := cwx; clear cwx; obtain ⟨cw0, cw1, cw2⟩ := cells3 cw) | (clear mk7; go_at_call 15; refine (toRing_any r _ _ _ (R.out.grow hB) hlN hlU).mono ?_; rintro er w7 ⟨vx, ux, rfl, ox, hB7⟩; have hz7 : w6.heap.size ≤ w7.heap.size := hB7.size; replace ow := ow.grow hB7; replace ca := vblk_grow ca hB7; replace cw := vblk_grow cw hB7; replace hB := hB.trans (hB7.mono (by omega)); replace hzw := hB.size; clear ca0 ca1 ca2; obtain ⟨ca0, ca1, ca2⟩ := cells3 ca; clear cw0 cw1 cw2; obtain ⟨cw0, cw1, cw2⟩ := cells3 cw; obtain ⟨Ax, Nx, Kx, rfl⟩ := ox.n.slice; obtain ⟨Bx, Mx, Lx, rfl⟩ := ox.u.slice) | (clear mk8; refine wpList_alloc_v rfl 29 rfl _ zeroRg ?_; intro bx w8 hbx hwbx hB8 cx; have hz8 : w7.heap.size ≤ w8.heap.size := hB8.size; replace ow := ow.grow hB8; replace ox := ox.grow hB8; replace ca := vblk_grow ca hB8; replace cw := vblk_grow cw hB8; replace hB := hB.trans (hB8.mono (by omega)); replace hzw := hB.size; clear ca0 ca1 ca2; obtain ⟨ca0, ca1, ca2⟩ := cells3 ca; clear cw0 cw1 cw2; obtain ⟨cw0, cw1, cw2⟩ := cells3 cw) | (clear mk9; refine wpList_store_v rfl 29 _ _ rfl bx [.slice Ax Nx Kx, .slice Bx Mx Lx, .int .i64 r.A] rfl rfl sizeRg cx rfl (by simp [Value.oneCell']) ?_; intro w9 hO9 cxx; have hz9 : w8.heap.size ≤ w9.heap.size := (Nat.le_of_eq hO9.1.symm); have hy9 : w9.heap.size ≤ w8.heap.size := (Nat.le_of_eq hO9.1); replace ow := ow.only hO9 cx (by decide) (by decide); replace ox := ox.only hO9 cx (by decide) (by decide); replace ca := vblk_only ca hO9 (by omega); replace cw := vblk_only cw hO9 (by omega); replace hB := hB.trans (hO9.2.2 _ (by omega)); replace hzw := hB.size; clear ca0 ca1 ca2; obtain ⟨ca0, ca1, ca2⟩ := cells3 ca; clear cw0 cw1 cw2; obtain ⟨cw0, cw1, cw2⟩ := cells3 cw; clear cx; have cx := cxx; clear cxx; obtain ⟨cx0, cx1, cx2⟩ := cells3 cx) | (clear mk10; go_at_call 23; refine (implUses_all r s _ _ _ (ox.rd R.out.s)).mono ?_; rintro er w10 ⟨vg, ug, he, og, hB10⟩; have hz10 : w9.heap.size ≤ w10.heap.size := hB10.size; replace ow := ow.grow hB10; replace ox := ox.grow hB10; replace ca := vblk_grow ca hB10; replace cw := vblk_grow cw hB10; replace cx := vblk_grow cx hB10; replace hB := hB.trans (hB10.mono (by omega)); replace hzw := hB.size; clear ca0 ca1 ca2; obtain ⟨ca0, ca1, ca2⟩ := cells3 ca; clear cw0 cw1 cw2; obtain ⟨cw0, cw1, cw2⟩ := cells3 cw; clear cx0 cx1 cx2; obtain ⟨cx0, cx1, cx2⟩ := cells3 cx; rw [hJ.out] at he; subst he; rw [hJ.out] at og; obtain ⟨Ag, Ng, Kg, rfl⟩ := og.n.slice; obtain ⟨Bg, Mg, Lg, rfl⟩ := og.u.slice) | (clear mk11; refine wpList_alloc_v rfl 29 rfl _ zeroRg ?_; intro bg w11 hbg hwbg hB11 cg; have hz11 : w10.heap.size ≤ w11.heap.size := hB11.size; replace ow := ow.grow hB11; replace ox := ox.grow hB11; replace og := og.grow hB11; replace ca := vblk_grow ca hB11; replace cw := vblk_grow cw hB11; replace cx := vblk_grow cx hB11; replace hB := hB.trans (hB11.mono (by omega)); replace hzw := hB.size; clear ca0 ca1 ca2; obtain ⟨ca0, ca1, ca2⟩ := cells3 ca; clear cw0 cw1 cw2; obtain ⟨cw0, cw1, cw2⟩ := cells3 cw; clear cx0 cx1 cx2; obtain ⟨cx0, cx1, cx2⟩ := cells3 cx) | (clear mk12; refine wpList_store_v rfl 29 _ _ rfl bg [.slice Ag Ng Kg, .slice Bg Mg Lg, .int .i64 J.A] rfl rfl sizeRg cg rfl (by simp [Value.oneCell']) ?_; intro w12 hO12 cgx; have hz12 : w11.heap.size ≤ w12.heap.size := (Nat.le_of_eq hO12.1.symm); have hy12 : w12.heap.size ≤ w11.heap.size := (Nat.le_of_eq hO12.1); replace ow := ow.only hO12 cg (by decide) (by decide); replace ox := ox.only hO12 cg (by decide) (by decide); replace og := og.only hO12 cg (by decide) (by decide); replace ca := vblk_only ca hO12 (by omega); replace cw := vblk_only cw hO12 (by omega); replace cx := vblk_only cx hO12 (by omega); replace hB := hB.trans (hO12.2.2 _ (by omega)); replace hzw := hB.size; clear ca0 ca1 ca2; obtain ⟨ca0, ca1, ca2⟩ := cells3 ca; clear cw0 cw1 cw2; obtain ⟨cw0, cw1, cw2⟩ := cells3 cw; clear cx0 cx1 cx2; obtain ⟨cx0, cx1, cx2⟩ := cells3 cx; clear cg; have cg := cgx; clear cgx; obtain ⟨cg0, cg1, cg2⟩ := cells3 cg) | (clear mk13; go_at_call 17; refine (eqRing_any J _ _ _ _ _ og.n.rd og.u.rd ow.n.rd ow.u.rd).mono ?_; rintro er w13 ⟨rfl, hB13⟩; have hz13 : w12.heap.size ≤ w13.heap.size := hB13.size; replace ow := ow.grow hB13; replace ox := ox.grow hB13; replace og := og.grow hB13; replace ca := vblk_grow ca hB13; replace cw := vblk_grow cw hB13; replace cx := vblk_grow cx hB13; replace cg := vblk_grow cg hB13; replace hB := hB.trans (hB13.mono (by omega)); replace hzw := hB.size; clear ca0 ca1 ca2; obtain ⟨ca0, ca1, ca2⟩ := cells3 ca; clear cw0 cw1 cw2; obtain ⟨cw0, cw1, cw2⟩ := cells3 cw; clear cx0 cx1 cx2; obtain ⟨cx0, cx1, cx2⟩ := cells3 cx; clear cg0 cg1 cg2; obtain ⟨cg0, cg1, cg2⟩ := cells3 cg) | (fail))
  have hBd : Below w13.heap.size w13 w13.drew := (Below.refl _ _).drew
  have hzd : w13.drew.heap.size ≤ w13.heap.size := Nat.le_refl _
  have hzd2 : w13.heap.size ≤ w13.drew.heap.size := Nat.le_refl _
  replace ow := ow.grow hBd
  replace ox := ox.grow hBd
  replace og := og.grow hBd
  replace ca := vblk_grow ca hBd
  clear ca0 ca1 ca2
  obtain ⟨ca0, ca1, ca2⟩ := cells3 ca
  replace cw := vblk_grow cw hBd
  clear cw0 cw1 cw2
  obtain ⟨cw0, cw1, cw2⟩ := cells3 cw
  replace cx := vblk_grow cx hBd
  clear cx0 cx1 cx2
  obtain ⟨cx0, cx1, cx2⟩ := cells3 cx
  replace cg := vblk_grow cg hBd
  clear cg0 cg1 cg2
  obtain ⟨cg0, cg1, cg2⟩ := cells3 cg
  replace hB := hB.trans (hBd.mono (by omega))
  replace hzw := hB.size
  have S1 : (w13.drew.cell? ⟨bx, 0, none⟩ = some (.slice Ax Nx Kx) ∧ w13.drew.cell? ⟨bx, 1, none⟩ = some (.slice Bx Mx Lx) ∧ w13.drew.cell? ⟨bx, 2, none⟩ = some (.int .i64 r.A) ∧ w13.drew.cell? ⟨ba, 0, none⟩ = some (.slice a r.N.length cap) ∧ w13.drew.cell? ⟨ba, 1, none⟩ = some (.slice c r.U.length dc) ∧ w13.drew.cell? ⟨ba, 2, none⟩ = some (.int .i64 r.A)) := ⟨cx0, cx1, cx2, ca0, ca1, ca2⟩
  have mk14 : Hid True := trivial
  have mk15 : Hid True := trivial
  go_region_held3 (fun w' => (w'.cell? ⟨bx, 0, none⟩ = some (.slice Ax Nx Kx) ∧ w'.cell? ⟨bx, 1, none⟩ = some (.slice Bx Mx Lx) ∧ w'.cell? ⟨bx, 2, none⟩ = some (.int .i64 r.A) ∧ w'.cell? ⟨ba, 0, none⟩ = some (.slice a r.N.length cap) ∧ w'.cell? ⟨ba, 1, none⟩ = some (.slice c r.U.length dc) ∧ w'.cell? ⟨ba, 2, none⟩ = some (.int .i64 r.A))) (first | assumption | exact S1) (first | (clear mk14; go_at_call 15; refine (toRing_any r _ _ (w13.drew) (R.out.grow hB) hlN hlU).mono ?_; rintro er w14 ⟨vy, uy, rfl, oy, hB14⟩; have hz14 : w13.drew.heap.size ≤ w14.heap.size := hB14.size; replace ow := ow.grow hB14; replace ox := ox.grow hB14; replace og := og.grow hB14; replace ca := vblk_grow ca hB14; replace cw := vblk_grow cw hB14; replace cx := vblk_grow cx hB14; replace cg := vblk_grow cg hB14; replace hB := hB.trans (hB14.mono (by omega)); replace hzw := hB.size; clear ca0 ca1 ca2; obtain ⟨ca0, ca1, ca2⟩ := cells3 ca; clear cw0 cw1 cw2; obtain ⟨cw0, cw1, cw2⟩ := cells3 cw; clear cx0 cx1 cx2; obtain ⟨cx0, cx1, cx2⟩ := cells3 cx; clear cg0 cg1 cg2; obtain ⟨cg0, cg1, cg2⟩ := cells3 cg; obtain ⟨Ay, Ny, Ky, rfl⟩ := oy.n.slice; obtain ⟨By, My, Ly, rfl⟩ := oy.u.slice; have S2 : (w14.cell? ⟨bx, 0, none⟩ = some (.slice Ax Nx Kx) ∧ w14.cell? ⟨bx, 1, none⟩ = some (.slice Bx Mx Lx) ∧ w14.cell? ⟨bx, 2, none⟩ = some (.int .i64 r.A) ∧ w14.cell? ⟨ba, 0, none⟩ = some (.slice a r.N.length cap) ∧ w14.cell? ⟨ba, 1, none⟩ = some (.slice c r.U.length dc) ∧ w14.cell? ⟨ba, 2, none⟩ = some (.int .i64 r.A)) := ⟨cx0, cx1, cx2, ca0, ca1, ca2⟩) | (clear mk15; go_at_call 17; refine (eqRing_any r _ _ _ _ _ ox.n.rd ox.u.rd oy.n.rd oy.u.rd).mono ?_; rintro er w15 ⟨rfl, hB15⟩; have hz15 : w14.heap.size ≤ w15.heap.size := hB15.size; replace ow := ow.grow hB15; replace ox := ox.grow hB15; replace og := og.grow hB15; replace ca := vblk_grow ca hB15; replace cw := vblk_grow cw hB15; replace cx := vblk_grow cx hB15; replace cg := vblk_grow cg hB15; replace hB := hB.trans (hB15.mono (by omega)); replace hzw := hB.size; clear ca0 ca1 ca2; obtain ⟨ca0, ca1, ca2⟩ := cells3 ca; clear cw0 cw1 cw2; obtain ⟨cw0, cw1, cw2⟩ := cells3 cw; clear cx0 cx1 cx2; obtain ⟨cx0, cx1, cx2⟩ := cells3 cx; clear cg0 cg1 cg2; obtain ⟨cg0, cg1, cg2⟩ := cells3 cg; have S3 : (w15.cell? ⟨bx, 0, none⟩ = some (.slice Ax Nx Kx) ∧ w15.cell? ⟨bx, 1, none⟩ = some (.slice Bx Mx Lx) ∧ w15.cell? ⟨bx, 2, none⟩ = some (.int .i64 r.A) ∧ w15.cell? ⟨ba, 0, none⟩ = some (.slice a r.N.length cap) ∧ w15.cell? ⟨ba, 1, none⟩ = some (.slice c r.U.length dc) ∧ w15.cell? ⟨ba, 2, none⟩ = some (.int .i64 r.A)) := ⟨cx0, cx1, cx2, ca0, ca1, ca2⟩) | (fail))
  clear S1 hBd
  clear oy
  have mk16 : Hid True := trivial
  have mk17 : Hid True := trivial
  have mk18 : Hid True := trivial
  have mk19 : Hid True := trivial
  have mk20 : Hid True := trivial
  have mk21 : Hid True := trivial
  have mk22 : Hid True := trivial
  have mk23 : Hid True := trivial
  have mk24 : Hid True := trivial
  have mk25 : Hid True := trivial
  go_wp2_with (first | (clear mk16; go_at_call 20; refine (markRing_any r mk hmk.out hlN hlU _ _ _ _ _ ox).mono ?_; rintro er w16 ⟨rfl, -, hM16⟩; have hz16 : w15.heap.size ≤ w16.heap.size := hM16.size; replace ow := ow.within hM16 (by omega); replace og := og.within hM16 (by omega); replace ca := ca.of (hM16.block _ ca.lt (by omega)); replace cw := cw.of (hM16.block _ cw.lt (by omega)); replace cx := cx.of (hM16.block _ cx.lt (by omega)); replace cg := cg.of (hM16.block _ cg.lt (by omega)); replace hB := hB.trans (hM16.below (by omega) (by omega)); replace hzw := hB.size; clear ca0 ca1 ca2; obtain ⟨ca0, ca1, ca2⟩ := cells3 ca; clear cw0 cw1 cw2; obtain ⟨cw0, cw1, cw2⟩ := cells3 cw; clear cx0 cx1 cx2; obtain ⟨cx0, cx1, cx2⟩ := cells3 cx; clear cg0 cg1 cg2; obtain ⟨cg0, cg1, cg2⟩ := cells3 cg) | (clear mk17; go_at_call 17; refine (eqRing_any J _ _ _ _ _ og.n.rd og.u.rd ow.n.rd ow.u.rd).mono ?_; rintro er w17 ⟨rfl, hB17⟩; have hz17 : w16.heap.size ≤ w17.heap.size := hB17.size; replace ow := ow.grow hB17; replace og := og.grow hB17; replace ca := vblk_grow ca hB17; replace cw := vblk_grow cw hB17; replace cx := vblk_grow cx hB17; replace cg := vblk_grow cg hB17; replace hB := hB.trans (hB17.mono (by omega)); replace hzw := hB.size; clear ca0 ca1 ca2; obtain ⟨ca0, ca1, ca2⟩ := cells3 ca; clear cw0 cw1 cw2; obtain ⟨cw0, cw1, cw2⟩ := cells3 cw; clear cx0 cx1 cx2; obtain ⟨cx0, cx1, cx2⟩ := cells3 cx; clear cg0 cg1 cg2; obtain ⟨cg0, cg1, cg2⟩ := cells3 cg) | (clear mk18; go_at_call 20; refine (markRing_any J mj hmj.out hsN hsU _ _ _ _ _ og).mono ?_; rintro er w18 ⟨rfl, pg, hM18⟩; have hz18 : w17.heap.size ≤ w18.heap.size := hM18.size; replace ow := ow.within hM18 (by omega); replace ca := ca.of (hM18.block _ ca.lt (by omega)); replace cw := cw.of (hM18.block _ cw.lt (by omega)); replace cx := cx.of (hM18.block _ cx.lt (by omega)); replace cg := cg.of (hM18.block _ cg.lt (by omega)); replace hB := hB.trans (hM18.below (by omega) (by omega)); replace hzw := hB.size; clear ca0 ca1 ca2; obtain ⟨ca0, ca1, ca2⟩ := cells3 ca; clear cw0 cw1 cw2; obtain ⟨cw0, cw1, cw2⟩ := cells3 cw; clear cx0 cx1 cx2; obtain ⟨cx0, cx1, cx2⟩ := cells3 cx; clear cg0 cg1 cg2; obtain ⟨cg0, cg1, cg2⟩ := cells3 cg) | (clear mk19; go_at_call 21; refine (heldRing_any J mj hmj.out hsN hsU _ _ _ pg.n.rd pg.u.rd).mono ?_; rintro er w19 ⟨rfl, hB19⟩; have hz19 : w18.heap.size ≤ w19.heap.size := hB19.size; replace ow := ow.grow hB19; replace pg := pg.grow hB19; replace ca := vblk_grow ca hB19; replace cw := vblk_grow cw hB19; replace cx := vblk_grow cx hB19; replace cg := vblk_grow cg hB19; replace hB := hB.trans (hB19.mono (by omega)); replace hzw := hB.size; clear ca0 ca1 ca2; obtain ⟨ca0, ca1, ca2⟩ := cells3 ca; clear cw0 cw1 cw2; obtain ⟨cw0, cw1, cw2⟩ := cells3 cw; clear cx0 cx1 cx2; obtain ⟨cx0, cx1, cx2⟩ := cells3 cx; clear cg0 cg1 cg2; obtain ⟨cg0, cg1, cg2⟩ := cells3 cg) | (clear mk20; go_at_call 15; refine (toRing_any r _ _ _ (R.out.grow hB) hlN hlU).mono ?_; rintro er w20 ⟨vs, us, rfl, os, hB20⟩; have hz20 : w19.heap.size ≤ w20.heap.size := hB20.size; replace ow := ow.grow hB20; replace pg := pg.grow hB20; replace ca := vblk_grow ca hB20; replace cw := vblk_grow cw hB20; replace cx := vblk_grow cx hB20; replace cg := vblk_grow cg hB20; replace hB := hB.trans (hB20.mono (by omega)); replace hzw := hB.size; clear ca0 ca1 ca2; obtain ⟨ca0, ca1, ca2⟩ := cells3 ca; clear cw0 cw1 cw2; obtain ⟨cw0, cw1, cw2⟩ := cells3 cw; clear cx0 cx1 cx2; obtain ⟨cx0, cx1, cx2⟩ := cells3 cx; clear cg0 cg1 cg2; obtain ⟨cg0, cg1, cg2⟩ := cells3 cg; obtain ⟨As, Ns, Ks, rfl⟩ := os.n.slice; obtain ⟨Bs, Ms, Ls, rfl⟩ := os.u.slice) | (clear mk21; go_at_call 23; refine (implUses_all r s _ _ _ (os.rd R.out.s)).mono ?_; rintro er w21 ⟨vh, uh, he, oh, hB21⟩; have hz21 : w20.heap.size ≤ w21.heap.size := hB21.size; replace ow := ow.grow hB21; replace pg := pg.grow hB21; replace ca := vblk_grow ca hB21; replace cw := vblk_grow cw hB21; replace cx := vblk_grow cx hB21; replace cg := vblk_grow cg hB21; replace hB := hB.trans (hB21.mono (by omega)); replace hzw := hB.size; clear ca0 ca1 ca2; obtain ⟨ca0, ca1, ca2⟩ := cells3 ca; clear cw0 cw1 cw2; obtain ⟨cw0, cw1, cw2⟩ := cells3 cw; clear cx0 cx1 cx2; obtain ⟨cx0, cx1, cx2⟩ := cells3 cx; clear cg0 cg1 cg2; obtain ⟨cg0, cg1, cg2⟩ := cells3 cg; rw [hJ.out] at he; subst he; rw [hJ.out] at oh; obtain ⟨Ah, Nh, Kh, rfl⟩ := oh.n.slice; obtain ⟨Bh, Mh, Lh, rfl⟩ := oh.u.slice) | (clear mk22; refine wpList_alloc_v rfl 29 rfl _ zeroRg ?_; intro bh w22 hbh hwbh hB22 ch; have hz22 : w21.heap.size ≤ w22.heap.size := hB22.size; replace ow := ow.grow hB22; replace pg := pg.grow hB22; replace oh := oh.grow hB22; replace ca := vblk_grow ca hB22; replace cw := vblk_grow cw hB22; replace cx := vblk_grow cx hB22; replace cg := vblk_grow cg hB22; replace hB := hB.trans (hB22.mono (by omega)); replace hzw := hB.size; clear ca0 ca1 ca2; obtain ⟨ca0, ca1, ca2⟩ := cells3 ca; clear cw0 cw1 cw2; obtain ⟨cw0, cw1, cw2⟩ := cells3 cw; clear cx0 cx1 cx2; obtain ⟨cx0, cx1, cx2⟩ := cells3 cx; clear cg0 cg1 cg2; obtain ⟨cg0, cg1, cg2⟩ := cells3 cg) | (clear mk23; refine wpList_store_v rfl 29 _ _ rfl bh [.slice Ah Nh Kh, .slice Bh Mh Lh, .int .i64 J.A] rfl rfl sizeRg ch rfl (by simp [Value.oneCell']) ?_; intro w23 hO23 chx; have hz23 : w22.heap.size ≤ w23.heap.size := (Nat.le_of_eq hO23.1.symm); have hy23 : w23.heap.size ≤ w22.heap.size := (Nat.le_of_eq hO23.1); replace ow := ow.only hO23 ch (by decide) (by decide); replace pg := pg.only hO23 ch (by decide) (by decide); replace oh := oh.only hO23 ch (by decide) (by decide); replace ca := vblk_only ca hO23 (by omega); replace cw := vblk_only cw hO23 (by omega); replace cx := vblk_only cx hO23 (by omega); replace cg := vblk_only cg hO23 (by omega); replace hB := hB.trans (hO23.2.2 _ (by omega)); replace hzw := hB.size; clear ca0 ca1 ca2; obtain ⟨ca0, ca1, ca2⟩ := cells3 ca; clear cw0 cw1 cw2; obtain ⟨cw0, cw1, cw2⟩ := cells3 cw; clear cx0 cx1 cx2; obtain ⟨cx0, cx1, cx2⟩ := cells3 cx; clear cg0 cg1 cg2; obtain ⟨cg0, cg1, cg2⟩ := cells3 cg; clear ch; have ch := chx; clear chx; obtain ⟨ch0, ch1, ch2⟩ := cells3 ch) | (clear mk24; go_at_call 17; refine (eqRing_any J _ _ _ _ _ oh.n.rd oh.u.rd ow.n.rd ow.u.rd).mono ?_; rintro er w24 ⟨rfl, hB24⟩; have hz24 : w23.heap.size ≤ w24.heap.size := hB24.size; replace ow := ow.grow hB24; replace pg := pg.grow hB24; replace oh := oh.grow hB24; replace ca := vblk_grow ca hB24; replace cw := vblk_grow cw hB24; replace cx := vblk_grow cx hB24; replace cg := vblk_grow cg hB24; replace ch := vblk_grow ch hB24; replace hB := hB.trans (hB24.mono (by omega)); replace hzw := hB.size; clear ca0 ca1 ca2; obtain ⟨ca0, ca1, ca2⟩ := cells3 ca; clear cw0 cw1 cw2; obtain ⟨cw0, cw1, cw2⟩ := cells3 cw; clear cx0 cx1 cx2; obtain ⟨cx0, cx1, cx2⟩ := cells3 cx; clear cg0 cg1 cg2; obtain ⟨cg0, cg1, cg2⟩ := cells3 cg; clear ch0 ch1 ch2; obtain ⟨ch0, ch1, ch2⟩ := cells3 ch) | (clear mk25; go_at_call 21; refine (heldRing_any J mj hmj.out hsN hsU _ _ _ pg.n.rd pg.u.rd).mono ?_; rintro er w25 ⟨rfl, hB25⟩; have hz25 : w24.heap.size ≤ w25.heap.size := hB25.size; replace ow := ow.grow hB25; replace pg := pg.grow hB25; replace oh := oh.grow hB25; replace ca := vblk_grow ca hB25; replace cw := vblk_grow cw hB25; replace cx := vblk_grow cx hB25; replace cg := vblk_grow cg hB25; replace ch := vblk_grow ch hB25; replace hB := hB.trans (hB25.mono (by omega)); replace hzw := hB.size; clear ca0 ca1 ca2; obtain ⟨ca0, ca1, ca2⟩ := cells3 ca; clear cw0 cw1 cw2; obtain ⟨cw0, cw1, cw2⟩ := cells3 cw; clear cx0 cx1 cx2; obtain ⟨cx0, cx1, cx2⟩ := cells3 cx; clear cg0 cg1 cg2; obtain ⟨cg0, cg1, cg2⟩ := cells3 cg; clear ch0 ch1 ch2; obtain ⟨ch0, ch1, ch2⟩ := cells3 ch) | (fail))
  go_ret
  exact ⟨rfl, hB⟩

/-! ### the row, by the frame -/
set_option maxRecDepth 100000 in
theorem lifted (os : Os) (started : os.Started) (H : Type) (enc : TypeId × Value → H) :
    ReturnsInHanded {} Try.checked os 6 .any (Rows.fnExactUsesSpec.pre6 enc Try.prog Try.f6 Rows.fnExactUsesRow.domain false) (Rows.fnExactUsesSpec.post enc Try.prog Try.f6 false true false false) := by
  refine returnsInHanded_of_change (C := Try.checked) own started (by kernel_rfl) Try.func6
    (ChangeSpec.witness6 (enc := enc) (C := Try.checked) false ⟨#[], #[.agg #[.slice none 0 0, .slice none 0 0, .int .i64 0], .string ByteArray.empty], []⟩ 8 (by kernel_rfl) (by kernel_rfl) (by kernel_rfl) (by kernel_rfl)) ?_
  intro W base args ds gs before hval0 hW hcnd _
  have hval : ∀ (j : Nat) t v, Try.f6.params[j]? = some t → args[j]? = some v → Value.okWide Try.prog W .any base t v := hval0
  have hW' := hW
  obtain ⟨p, q, hA0, hV, rfl, hfz, hnd⟩ := hW
  have hA : DataW.TrodAll enc Try.prog W 0 (fun _ => true) true Try.f6.params.toList args.toList ds p := hA0
  rw [Try.params6] at hA hval
  obtain ⟨v0, vs0, d0, ds0, p0, q0, hargs, rfl, rfl, h0, r0⟩ := trodAll_cons hA
  obtain ⟨v1, vs1, d1, ds1, p1, q1, rfl, rfl, rfl, h1, r1⟩ := trodAll_cons r0
  obtain ⟨rfl, rfl, rfl⟩ := trodAll_nil r1
  obtain rfl : args = #[v0, v1] := by cases args; simp_all
  obtain ⟨rfl, rfl⟩ := trodVars_none hV
  have k0 := h0
  have lt0 : ∀ x ∈ p0, x.block < W.heap.size := by obtain ⟨m, hm⟩ := k0; exact DataW.trod_lt m _ _ _ hm
  obtain ⟨vN0, vU0, r0r, rfl, hR0⟩ := open_ring (hval 0 26 v0 rfl rfl) h0
  obtain ⟨a1, rfl, rfl, rfl, ws1⟩ := open_string Try.underlying9 (hval 1 9 v1 rfl rfl) h1
  clear hA0 hval0
  refine (walk r0r vN0 vU0 a1 W hR0 ws1).mono fun e W' ⟨he, bel⟩ => ?_
  subst he
  exact ⟨_, rfl, _, _, _, [], _, [], hW', trodAll_mk1 (shut_bool Try.underlying4 _), (trodAll_cons_mk (Below.trod laidOut (by kernel_rfl) (of_decide_eq_true (by kernel_rfl)) k0 bel lt0) (trodAll_cons_mk (shut_string Try.underlying9 ws1) trodAll_mk0)), rfl, bel.frame _, fun h => by cases h⟩

theorem over : Rows.fnExactUsesRow.holds Try.pinned (OpenSpec.ofChange Rows.fnExactUsesSpec) :=
  OpenClaim.holds_of_wide 6 Try.f6 rfl rfl rfl rfl rfl rfl rfl ⟨rfl, rfl, rfl, rfl, rfl⟩ rfl rfl rfl rfl rfl (by kernel_rfl) Try.func6 (by kernel_rfl)
    (of_decide_eq_true (by kernel_rfl)) (by unfold Func.isWrapper; first | (rw [if_pos (by decide +kernel)]; kernel_rfl) | (rw [if_neg (by decide +kernel)]; exact ⟨rfl, rfl⟩))
    (fun os started H enc _ => lifted os started H enc)

/-- the statement -/
theorem proved : Rows.FnExactUsesSaid := over
end Go.Proofs.Ytgcgofnjaipndaa.fnExactUses

namespace Go.Proofs.Ytgcgofnjaipndaa
/-- the statement, under its short name -/
theorem fnExactUses_holds : Rows.FnExactUsesSaid := fnExactUses.proved
#print axioms fnExactUses_holds
end Go.Proofs.Ytgcgofnjaipndaa
