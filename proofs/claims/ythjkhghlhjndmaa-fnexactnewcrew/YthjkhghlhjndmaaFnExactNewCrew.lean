/- For all hands the program's NewCrew answers as the model's NewCrew, in memory of its own (the law itself lets off what is over 1048576 cells or hands): the law's call returns true and its arguments read as before; no condition. -/
import Derived.Test.YthjkhghlhjndmaaMg08
import Derived.Test.YthjkhghlhjndmaaMg14
import Derived.Test.YthjkhghlhjndmaaMg22
namespace Go.Proofs.Ythjkhghlhjndmaa.fnExactNewCrew
open Go.ChangeShapes Go.WideShapes Go.ChangeAt Go.RowKit
open Go.Proofs.Ythjkhghlhjndmaa.ce
set_option linter.unusedVariables false

theorem own : ownKnob Try.prog.godebug = none := by kernel_rfl
theorem laidOut : laidOutB Try.prog = true := by kernel_rfl

/-! ### the walk -/
set_option maxRecDepth 100000 in
set_option maxHeartbeats 4000000 in
theorem walk (vD : Value) (ds : List Hd) (w : World) (hvD : RdH w w.heap.size vD ds) (hnil : NilOk vD) :
    Calls Try.prog 4 #[vD] w fun e w' => e = .returned (.bool true) ∧ Below w.heap.size w w' := by
  have hld := hvD.len
  obtain ⟨c, dc, rfl⟩ := hvD.form
  have RD : Hid (RdH w w.heap.size (.slice c ds.length dc) ds) := hvD
  clear hvD hnil
  obtain ⟨z, hZ⟩ := hid_ex (nwB ds)
  have hzz : (z != z) = false := by simp
  have hsm := nw_small ds
  obtain ⟨L, hL⟩ := hid_ex (nwH ds)
  obtain ⟨E, hE⟩ := hid_ex (nwD ds)
  rw [hL.out, hE.out] at hsm
  obtain ⟨hsL, hsE⟩ := hsm
  have hB0 : Below w.heap.size w w := Below.refl _ _
  have hsd : decide (1 + 8 * (ds.length : Int) < 0) = false := decide_eq_false (by omega)
  have hsn : ¬ (1 + 4 * (L.length : Int) + 8 * (E.length : Int) < 0) := by omega
  have hse : ((1 + 4 * (L.length : Int) + 8 * (E.length : Int)) != (1 + 4 * (L.length : Int) + 8 * (E.length : Int))) = false := by simp
  go_enter Try.func4, Try.ntmps4
  have mk0 : Hid True := trivial
  go_wp2_with (first | (clear mk0; go_at_call 16; refine (szHands _ _ _ hld 1048576 (by omega) (by omega) _).mono ?_; rintro er wq ⟨r, rfl, hq, hr⟩; subst wq; by_cases hneg : r < 0) | (fail))
  · go_ret
    exact ⟨rfl, hB0⟩
  have hlD := hr (by omega)
  have hB := hB0
  have hzw := hB.size
  have mk1 : Hid True := trivial
  have mk2 : Hid True := trivial
  have mk3 : Hid True := trivial
  have mk4 : Hid True := trivial
  have mk5 : Hid True := trivial
  have mk6 : Hid True := trivial
  have mk7 : Hid True := trivial
  have mk8 : Hid True := trivial
  have mk9 : Hid True := trivial
  have mk10 : Hid True := trivial
  have mk11 : Hid True := trivial
  have mk12 : Hid True := trivial
  have mk13 : Hid True := trivial
  have mk14 : Hid True := trivial
  have mk15 : Hid True := trivial
  have mk16 : Hid True := trivial
  have mk17 : Hid True := trivial
  have mk18 : Hid True := trivial
  have mk19 : Hid True := trivial
  have mk20 : Hid True := trivial
  have mk21 : Hid True := trivial
  go_wp2_with (first | (clear mk1; go_at_call 18; refine (toHands_any ds _ w.heap.size _ (by omega) (RD.out.below hB (Nat.le_refl _)) hlD).mono ?_; rintro er w1 ⟨vtD, rfl, otD, hB1⟩; have hz1 : w.heap.size ≤ w1.heap.size := hB1.size; replace hB := hB1; replace hzw := hB.size; have nt := otD.nilOk; obtain ⟨Dt, Mt, rfl⟩ := otD.rd.form) | (clear mk2; go_at_call 17; refine (specNewCrew_all ds _ w1.heap.size _ (by omega) otD.rd nt).mono ?_; rintro er w2 ⟨vwH, vwD, he, owH, owD, hB2⟩; have hz2 : w1.heap.size ≤ w2.heap.size := hB2.size; replace hB := hB.trans (hB2.mono (by omega)); replace hzw := hB.size; rw [hZ.out] at he; subst he; rw [hL.out] at owH; rw [hE.out] at owD; obtain ⟨Aw, Kw, rfl⟩ := owH.rd.form; obtain ⟨Dw, Mw, rfl⟩ := owD.rd.form) | (clear mk3; refine wpList_alloc_v rfl 31 rfl _ zeroCr ?_; intro bw w3 hbw hwbw hB3 hVbw; have hz3 : w2.heap.size ≤ w3.heap.size := hB3.size; replace owH := owH.below hB3 (by omega); replace owD := owD.below hB3 (by omega); replace hB := hB.trans (hB3.mono (by omega)); replace hzw := hB.size) | (clear mk4; refine wpList_store_v rfl 31 _ _ rfl bw [.slice Aw L.length Kw, .slice Dw E.length Mw] rfl rfl sizeCr hVbw rfl (by simp [Value.oneCell']) ?_; intro w4 hO4 hNbw; have hz4 : w3.heap.size ≤ w4.heap.size := (Nat.le_of_eq hO4.1.symm); replace owH := owH.keep (w' := w4) (fun k g1 g2 => hO4.2.1 k (by omega)); replace owD := owD.keep (w' := w4) (fun k g1 g2 => hO4.2.1 k (by omega)); replace hB := hB.trans (hO4.2.2 _ (by omega)); replace hzw := hB.size; have cw : CV w4 bw 31 (.slice Aw L.length Kw) (.slice Dw E.length Mw) := ⟨hNbw⟩; clear hVbw hNbw; obtain ⟨cw0, cw1⟩ := cw.cells) | (clear mk5; go_at_call 18; refine (toHands_any ds _ w.heap.size _ (by omega) (RD.out.below hB (Nat.le_refl _)) hlD).mono ?_; rintro er w5 ⟨vxD, rfl, oxD, hB5⟩; have hz5 : w4.heap.size ≤ w5.heap.size := hB5.size; replace owH := owH.below hB5 (by omega); replace owD := owD.below hB5 (by omega); replace cw := cw.below hB5 (by omega); replace hB := hB.trans (hB5.mono (by omega)); replace hzw := hB.size; clear cw0 cw1; obtain ⟨cw0, cw1⟩ := cw.cells; have nx := oxD.nilOk; obtain ⟨Dx, Mx, rfl⟩ := oxD.rd.form) | (clear mk6; go_at_call 19; refine (implNewCrew_all ds _ w5.heap.size _ (by omega) oxD.rd nx).mono ?_; rintro er w6 ⟨vgH, vgD, he, ogH, ogD, hB6⟩; have hz6 : w5.heap.size ≤ w6.heap.size := hB6.size; replace owH := owH.below hB6 (by omega); replace owD := owD.below hB6 (by omega); replace oxD := oxD.below hB6 (by omega); replace cw := cw.below hB6 (by omega); replace hB := hB.trans (hB6.mono (by omega)); replace hzw := hB.size; clear cw0 cw1; obtain ⟨cw0, cw1⟩ := cw.cells; rw [hZ.out] at he; subst he; rw [hL.out] at ogH; rw [hE.out] at ogD; obtain ⟨Ag, Kg, rfl⟩ := ogH.rd.form; obtain ⟨Dg, Mg, rfl⟩ := ogD.rd.form) | (clear mk7; refine wpList_alloc_v rfl 31 rfl _ zeroCr ?_; intro bg w7 hbg hwbg hB7 hVbg; have hz7 : w6.heap.size ≤ w7.heap.size := hB7.size; replace owH := owH.below hB7 (by omega); replace owD := owD.below hB7 (by omega); replace oxD := oxD.below hB7 (by omega); replace ogH := ogH.below hB7 (by omega); replace ogD := ogD.below hB7 (by omega); replace cw := cw.below hB7 (by omega); replace hB := hB.trans (hB7.mono (by omega)); replace hzw := hB.size; clear cw0 cw1; obtain ⟨cw0, cw1⟩ := cw.cells) | (clear mk8; refine wpList_store_v rfl 31 _ _ rfl bg [.slice Ag L.length Kg, .slice Dg E.length Mg] rfl rfl sizeCr hVbg rfl (by simp [Value.oneCell']) ?_; intro w8 hO8 hNbg; have hz8 : w7.heap.size ≤ w8.heap.size := (Nat.le_of_eq hO8.1.symm); replace owH := owH.keep (w' := w8) (fun k g1 g2 => hO8.2.1 k (by omega)); replace owD := owD.keep (w' := w8) (fun k g1 g2 => hO8.2.1 k (by omega)); replace oxD := oxD.keep (w' := w8) (fun k g1 g2 => hO8.2.1 k (by omega)); replace ogH := ogH.keep (w' := w8) (fun k g1 g2 => hO8.2.1 k (by omega)); replace ogD := ogD.keep (w' := w8) (fun k g1 g2 => hO8.2.1 k (by omega)); replace cw := cw.keep (w' := w8) (fun k g1 g2 => hO8.2.1 k (by omega)); replace hB := hB.trans (hO8.2.2 _ (by omega)); replace hzw := hB.size; clear cw0 cw1; obtain ⟨cw0, cw1⟩ := cw.cells; have cg : CV w8 bg 31 (.slice Ag L.length Kg) (.slice Dg E.length Mg) := ⟨hNbg⟩; clear hVbg hNbg; obtain ⟨cg0, cg1⟩ := cg.cells) | (clear mk9; go_at_call 15; refine (eqCrew_any L E _ _ _ _ w6.heap.size w2.heap.size _ (by omega) (by omega) ogH.rd ogD.rd owH.rd owD.rd).mono ?_; rintro er w9 ⟨rfl, hB9⟩; have hz9 : w8.heap.size ≤ w9.heap.size := hB9.size; replace owH := owH.below hB9 (by omega); replace owD := owD.below hB9 (by omega); replace oxD := oxD.below hB9 (by omega); replace ogH := ogH.below hB9 (by omega); replace ogD := ogD.below hB9 (by omega); replace cw := cw.below hB9 (by omega); replace cg := cg.below hB9 (by omega); replace hB := hB.trans (hB9.mono (by omega)); replace hzw := hB.size; clear cw0 cw1; obtain ⟨cw0, cw1⟩ := cw.cells; clear cg0 cg1; obtain ⟨cg0, cg1⟩ := cg.cells) | (clear mk10; go_at_call 18; refine (toHands_any ds _ w.heap.size _ (by omega) (RD.out.below hB (Nat.le_refl _)) hlD).mono ?_; rintro er w10 ⟨vyD, rfl, oyD, hB10⟩; have hz10 : w9.heap.size ≤ w10.heap.size := hB10.size; replace owH := owH.below hB10 (by omega); replace owD := owD.below hB10 (by omega); replace oxD := oxD.below hB10 (by omega); replace ogH := ogH.below hB10 (by omega); replace ogD := ogD.below hB10 (by omega); replace cw := cw.below hB10 (by omega); replace cg := cg.below hB10 (by omega); replace hB := hB.trans (hB10.mono (by omega)); replace hzw := hB.size; clear cw0 cw1; obtain ⟨cw0, cw1⟩ := cw.cells; clear cg0 cg1; obtain ⟨cg0, cg1⟩ := cg.cells; have ny := oyD.nilOk; obtain ⟨Dy, My, rfl⟩ := oyD.rd.form) | (clear mk11; go_at_call 20; refine (eqHands_any ds _ _ w5.heap.size w10.heap.size _ (by omega) (by omega) oxD.rd oyD.rd).mono ?_; rintro er w11 ⟨rfl, hB11⟩; have hz11 : w10.heap.size ≤ w11.heap.size := hB11.size; replace owH := owH.below hB11 (by omega); replace owD := owD.below hB11 (by omega); replace oxD := oxD.below hB11 (by omega); replace ogH := ogH.below hB11 (by omega); replace ogD := ogD.below hB11 (by omega); replace cw := cw.below hB11 (by omega); replace cg := cg.below hB11 (by omega); replace hB := hB.trans (hB11.mono (by omega)); replace hzw := hB.size; clear cw0 cw1; obtain ⟨cw0, cw1⟩ := cw.cells; clear cg0 cg1; obtain ⟨cg0, cg1⟩ := cg.cells) | (clear mk12; go_at_call 21; refine (markHands_any ds _ _ _ _ oxD hlD 1 (by omega) (by omega)).mono ?_; rintro er w12 ⟨rfl, -, hM12⟩; have hz12 : w11.heap.size ≤ w12.heap.size := hM12.size; replace owH := owH.keep (w' := w12) (fun k g1 g2 => hM12.block k (by omega) (by omega)); replace owD := owD.keep (w' := w12) (fun k g1 g2 => hM12.block k (by omega) (by omega)); replace ogH := ogH.keep (w' := w12) (fun k g1 g2 => hM12.block k (by omega) (by omega)); replace ogD := ogD.keep (w' := w12) (fun k g1 g2 => hM12.block k (by omega) (by omega)); replace cw := cw.keep (w' := w12) (fun k g1 g2 => hM12.block k (by omega) (by omega)); replace cg := cg.keep (w' := w12) (fun k g1 g2 => hM12.block k (by omega) (by omega)); replace hB := hB.trans (hM12.below (by omega) (by omega)); replace hzw := hB.size; clear cw0 cw1; obtain ⟨cw0, cw1⟩ := cw.cells; clear cg0 cg1; obtain ⟨cg0, cg1⟩ := cg.cells) | (clear mk13; go_at_call 15; refine (eqCrew_any L E _ _ _ _ w6.heap.size w2.heap.size _ (by omega) (by omega) ogH.rd ogD.rd owH.rd owD.rd).mono ?_; rintro er w13 ⟨rfl, hB13⟩; have hz13 : w12.heap.size ≤ w13.heap.size := hB13.size; replace owH := owH.below hB13 (by omega); replace owD := owD.below hB13 (by omega); replace ogH := ogH.below hB13 (by omega); replace ogD := ogD.below hB13 (by omega); replace cw := cw.below hB13 (by omega); replace cg := cg.below hB13 (by omega); replace hB := hB.trans (hB13.mono (by omega)); replace hzw := hB.size; clear cw0 cw1; obtain ⟨cw0, cw1⟩ := cw.cells; clear cg0 cg1; obtain ⟨cg0, cg1⟩ := cg.cells) | (clear mk14; go_at_call 22; refine (markCrew_any L E _ _ _ _ _ (by omega) ogH ogD hsL hsE).mono ?_; rintro er w14 ⟨rfl, pgH, pgD, hM14⟩; have hz14 : w13.heap.size ≤ w14.heap.size := hM14.size; replace owH := owH.keep (w' := w14) (fun k g1 g2 => hM14.block k (by omega) (by omega)); replace owD := owD.keep (w' := w14) (fun k g1 g2 => hM14.block k (by omega) (by omega)); replace cw := cw.keep (w' := w14) (fun k g1 g2 => hM14.block k (by omega) (by omega)); replace cg := cg.keep (w' := w14) (fun k g1 g2 => hM14.block k (by omega) (by omega)); replace hB := hB.trans (hM14.below (by omega) (by omega)); replace hzw := hB.size; clear cw0 cw1; obtain ⟨cw0, cw1⟩ := cw.cells; clear cg0 cg1; obtain ⟨cg0, cg1⟩ := cg.cells) | (clear mk15; go_at_call 23; refine (heldCrew_any L.length E.length _ _ w6.heap.size _ (by omega) pgH.rd pgD.rd hsL hsE).mono ?_; rintro er w15 ⟨rfl, hB15⟩; have hz15 : w14.heap.size ≤ w15.heap.size := hB15.size; replace owH := owH.below hB15 (by omega); replace owD := owD.below hB15 (by omega); replace pgH := pgH.below hB15 (by omega); replace pgD := pgD.below hB15 (by omega); replace cw := cw.below hB15 (by omega); replace cg := cg.below hB15 (by omega); replace hB := hB.trans (hB15.mono (by omega)); replace hzw := hB.size; clear cw0 cw1; obtain ⟨cw0, cw1⟩ := cw.cells; clear cg0 cg1; obtain ⟨cg0, cg1⟩ := cg.cells) | (clear mk16; go_at_call 18; refine (toHands_any ds _ w.heap.size _ (by omega) (RD.out.below hB (Nat.le_refl _)) hlD).mono ?_; rintro er w16 ⟨vsD, rfl, osD, hB16⟩; have hz16 : w15.heap.size ≤ w16.heap.size := hB16.size; replace owH := owH.below hB16 (by omega); replace owD := owD.below hB16 (by omega); replace pgH := pgH.below hB16 (by omega); replace pgD := pgD.below hB16 (by omega); replace cw := cw.below hB16 (by omega); replace cg := cg.below hB16 (by omega); replace hB := hB.trans (hB16.mono (by omega)); replace hzw := hB.size; clear cw0 cw1; obtain ⟨cw0, cw1⟩ := cw.cells; clear cg0 cg1; obtain ⟨cg0, cg1⟩ := cg.cells; have ns := osD.nilOk; obtain ⟨Ds, Ms, rfl⟩ := osD.rd.form) | (clear mk17; go_at_call 19; refine (implNewCrew_all ds _ w16.heap.size _ (by omega) osD.rd ns).mono ?_; rintro er w17 ⟨vhH, vhD, he, ohH, ohD, hB17⟩; have hz17 : w16.heap.size ≤ w17.heap.size := hB17.size; replace owH := owH.below hB17 (by omega); replace owD := owD.below hB17 (by omega); replace pgH := pgH.below hB17 (by omega); replace pgD := pgD.below hB17 (by omega); replace cw := cw.below hB17 (by omega); replace cg := cg.below hB17 (by omega); replace hB := hB.trans (hB17.mono (by omega)); replace hzw := hB.size; clear cw0 cw1; obtain ⟨cw0, cw1⟩ := cw.cells; clear cg0 cg1; obtain ⟨cg0, cg1⟩ := cg.cells; rw [hZ.out] at he; subst he; rw [hL.out] at ohH; rw [hE.out] at ohD; obtain ⟨Ah, Kh, rfl⟩ := ohH.rd.form; obtain ⟨Dh, Mh, rfl⟩ := ohD.rd.form) | (clear mk18; refine wpList_alloc_v rfl 31 rfl _ zeroCr ?_; intro bh w18 hbh hwbh hB18 hVbh; have hz18 : w17.heap.size ≤ w18.heap.size := hB18.size; replace owH := owH.below hB18 (by omega); replace owD := owD.below hB18 (by omega); replace pgH := pgH.below hB18 (by omega); replace pgD := pgD.below hB18 (by omega); replace ohH := ohH.below hB18 (by omega); replace ohD := ohD.below hB18 (by omega); replace cw := cw.below hB18 (by omega); replace cg := cg.below hB18 (by omega); replace hB := hB.trans (hB18.mono (by omega)); replace hzw := hB.size; clear cw0 cw1; obtain ⟨cw0, cw1⟩ := cw.cells; clear cg0 cg1; obtain ⟨cg0, cg1⟩ := cg.cells) | (clear mk19; refine wpList_store_v rfl 31 _ _ rfl bh [.slice Ah L.length Kh, .slice Dh E.length Mh] rfl rfl sizeCr hVbh rfl (by simp [Value.oneCell']) ?_; intro w19 hO19 hNbh; have hz19 : w18.heap.size ≤ w19.heap.size := (Nat.le_of_eq hO19.1.symm); replace owH := owH.keep (w' := w19) (fun k g1 g2 => hO19.2.1 k (by omega)); replace owD := owD.keep (w' := w19) (fun k g1 g2 => hO19.2.1 k (by omega)); replace pgH := pgH.keep (w' := w19) (fun k g1 g2 => hO19.2.1 k (by omega)); replace pgD := pgD.keep (w' := w19) (fun k g1 g2 => hO19.2.1 k (by omega)); replace ohH := ohH.keep (w' := w19) (fun k g1 g2 => hO19.2.1 k (by omega)); replace ohD := ohD.keep (w' := w19) (fun k g1 g2 => hO19.2.1 k (by omega)); replace cw := cw.keep (w' := w19) (fun k g1 g2 => hO19.2.1 k (by omega)); replace cg := cg.keep (w' := w19) (fun k g1 g2 => hO19.2.1 k (by omega)); replace hB := hB.trans (hO19.2.2 _ (by omega)); replace hzw := hB.size; clear cw0 cw1; obtain ⟨cw0, cw1⟩ := cw.cells; clear cg0 cg1; obtain ⟨cg0, cg1⟩ := cg.cells; have ch : CV w19 bh 31 (.slice Ah L.length Kh) (.slice Dh E.length Mh) := ⟨hNbh⟩; clear hVbh hNbh; obtain ⟨ch0, ch1⟩ := ch.cells) | (clear mk20; go_at_call 15; refine (eqCrew_any L E _ _ _ _ w17.heap.size w2.heap.size _ (by omega) (by omega) ohH.rd ohD.rd owH.rd owD.rd).mono ?_; rintro er w20 ⟨rfl, hB20⟩; have hz20 : w19.heap.size ≤ w20.heap.size := hB20.size; replace owH := owH.below hB20 (by omega); replace owD := owD.below hB20 (by omega); replace pgH := pgH.below hB20 (by omega); replace pgD := pgD.below hB20 (by omega); replace ohH := ohH.below hB20 (by omega); replace ohD := ohD.below hB20 (by omega); replace cw := cw.below hB20 (by omega); replace cg := cg.below hB20 (by omega); replace ch := ch.below hB20 (by omega); replace hB := hB.trans (hB20.mono (by omega)); replace hzw := hB.size; clear cw0 cw1; obtain ⟨cw0, cw1⟩ := cw.cells; clear cg0 cg1; obtain ⟨cg0, cg1⟩ := cg.cells; clear ch0 ch1; obtain ⟨ch0, ch1⟩ := ch.cells) | (clear mk21; go_at_call 23; refine (heldCrew_any L.length E.length _ _ w6.heap.size _ (by omega) pgH.rd pgD.rd hsL hsE).mono ?_; rintro er w21 ⟨rfl, hB21⟩; have hz21 : w20.heap.size ≤ w21.heap.size := hB21.size; replace owH := owH.below hB21 (by omega); replace owD := owD.below hB21 (by omega); replace pgH := pgH.below hB21 (by omega); replace pgD := pgD.below hB21 (by omega); replace ohH := ohH.below hB21 (by omega); replace ohD := ohD.below hB21 (by omega); replace cw := cw.below hB21 (by omega); replace cg := cg.below hB21 (by omega); replace ch := ch.below hB21 (by omega); replace hB := hB.trans (hB21.mono (by omega)); replace hzw := hB.size; clear cw0 cw1; obtain ⟨cw0, cw1⟩ := cw.cells; clear cg0 cg1; obtain ⟨cg0, cg1⟩ := cg.cells; clear ch0 ch1; obtain ⟨ch0, ch1⟩ := ch.cells) | (fail))
  go_ret
  exact ⟨rfl, hB⟩

/-! ### the row, by the frame -/
set_option maxRecDepth 100000 in
theorem lifted (os : Os) (started : os.Started) (H : Type) (enc : TypeId × Value → H) :
    ReturnsInHanded {} Try.checked os 4 .any (Rows.fnExactNewCrewSpec.pre6 enc Try.prog Try.f4 Rows.fnExactNewCrewRow.domain false) (Rows.fnExactNewCrewSpec.post enc Try.prog Try.f4 false true false false) := by
  refine returnsInHanded_of_change (C := Try.checked) own started (by kernel_rfl) Try.func4
    (ChangeSpec.witness6 (enc := enc) (C := Try.checked) false ⟨#[], #[.slice none 0 0], []⟩ 8 (by kernel_rfl) (by kernel_rfl) (by kernel_rfl) (by kernel_rfl)) ?_
  intro W base args ds gs before hval0 hW hcnd _
  have hval : ∀ (j : Nat) t v, Try.f4.params[j]? = some t → args[j]? = some v → Value.okWide Try.prog W .any base t v := hval0
  have hW' := hW
  obtain ⟨p, q, hA0, hV, rfl, hfz, hnd⟩ := hW
  have hA : DataW.TrodAll enc Try.prog W 0 (fun _ => true) true Try.f4.params.toList args.toList ds p := hA0
  rw [Try.params4] at hA hval
  obtain ⟨v0, vs0, d0, ds0, p0, q0, hargs, rfl, rfl, h0, r0⟩ := trodAll_cons hA
  obtain ⟨rfl, rfl, rfl⟩ := trodAll_nil r0
  obtain rfl : args = #[v0] := by cases args; simp_all
  obtain ⟨rfl, rfl⟩ := trodVars_none hV
  have k0 := h0
  have lt0 : ∀ x ∈ p0, x.block < W.heap.size := by obtain ⟨m, hm⟩ := k0; exact DataW.trod_lt m _ _ _ hm
  obtain ⟨es0, hE0, hN0⟩ := open_hands (hval 0 23 v0 rfl rfl) h0
  clear hA0 hval0
  refine (walk v0 es0 W hE0 hN0).mono fun e W' ⟨he, bel⟩ => ?_
  subst he
  exact ⟨_, rfl, _, _, _, [], _, [], hW', trodAll_mk1 (shut_bool Try.underlying4 _), (trodAll_cons_mk (Below.trod laidOut (by kernel_rfl) (of_decide_eq_true (by kernel_rfl)) k0 bel lt0) trodAll_mk0), rfl, bel.frame _, fun h => by cases h⟩

theorem over : Rows.fnExactNewCrewRow.holds Try.pinned (OpenSpec.ofChange Rows.fnExactNewCrewSpec) :=
  OpenClaim.holds_of_wide 4 Try.f4 rfl rfl rfl rfl rfl rfl rfl ⟨rfl, rfl, rfl, rfl, rfl⟩ rfl rfl rfl rfl rfl (by kernel_rfl) Try.func4 (by kernel_rfl)
    (of_decide_eq_true (by kernel_rfl)) (by unfold Func.isWrapper; first | (rw [if_pos (by decide +kernel)]; kernel_rfl) | (rw [if_neg (by decide +kernel)]; exact ⟨rfl, rfl⟩))
    (fun os started H enc _ => lifted os started H enc)

/-- the statement -/
theorem proved : Rows.FnExactNewCrewSaid := over
end Go.Proofs.Ythjkhghlhjndmaa.fnExactNewCrew

namespace Go.Proofs.Ythjkhghlhjndmaa
/-- the statement, under its short name -/
theorem fnExactNewCrew_holds : Rows.FnExactNewCrewSaid := fnExactNewCrew.proved
#print axioms fnExactNewCrew_holds
end Go.Proofs.Ythjkhghlhjndmaa
