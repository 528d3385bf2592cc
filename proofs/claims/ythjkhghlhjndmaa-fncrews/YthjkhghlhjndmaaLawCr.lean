/- The walk of the law FnCrews. -/
import Derived.Test.YthjkhghlhjndmaaMg32
import Derived.Test.YthjkhghlhjndmaaMg22
import Derived.Deep.DeepCutAuto
namespace Go.Proofs.Ythjkhghlhjndmaa.lawCr
open Go.ChangeShapes Go.WideShapes Go.ChangeAt Go.RowKit
open Go.Proofs.Ythjkhghlhjndmaa.ce Go.Proofs.Ythjkhghlhjndmaa.draw
set_option linter.unusedVariables false

theorem nwB_ok {ds : List Hd} (h : nwB ds = true) : NewOk ds := by
  by_cases q : NewOk ds
  · exact q
  · rw [(nw_no q).1] at h; cases h
theorem pk_same {H : List C} {ds : List Hd} {who : Int} (c : CrewOk H ds) (h : pkB H ds who = false) : pkH H ds who = H ∧ pkD H ds who = ds := by
  unfold pkB at h
  rw [if_pos c] at h
  unfold pkH pkD
  rw [if_pos c, if_pos c]
  unfold pickBZ at h
  unfold pickHZ pickDZ
  by_cases q : 0 ≤ who ∧ who < (ds.length : Int)
  · rw [dif_pos q] at h
    rw [dif_pos q, dif_pos q]
    have h5 : (ds[who.toNat]'(by omega)).step = 5 := Classical.not_not.1 (of_decide_eq_false h)
    exact ⟨if_pos h5, if_pos h5⟩
  · rw [dif_neg q, dif_neg q]; exact ⟨rfl, rfl⟩
theorem pk_moved {H : List C} {ds : List Hd} {who : Int} (c : CrewOk H ds) (h : pkB H ds who = true) : ∃ (i : Nat) (hi : i < ds.length), who = (i : Int) ∧ pkH H ds who = (ce.move H ds[i]).1 ∧ pkD H ds who = ds.set i (ce.move H ds[i]).2 ∧ CrewOk (pkH H ds who) (pkD H ds who) := by
  have c' := crew_pickZ c who
  unfold pkB at h
  rw [if_pos c] at h
  unfold pkH pkD
  rw [if_pos c, if_pos c]
  refine ⟨who.toNat, ?_⟩
  unfold pickBZ at h
  by_cases q : 0 ≤ who ∧ who < (ds.length : Int)
  · rw [dif_pos q] at h
    have h5 : (ds[who.toNat]'(by omega)).step ≠ 5 := of_decide_eq_true h
    refine ⟨by omega, by omega, ?_, ?_, c'⟩
    · unfold pickHZ; rw [dif_pos q]; exact if_neg h5
    · unfold pickDZ; rw [dif_pos q]; exact if_neg h5
  · rw [dif_neg q] at h; cases h

set_option maxRecDepth 100000 in
set_option maxHeartbeats 16000000 in
theorem walk (a0 : Option Addr) (len cap : Nat) (w : World) (hl : len ≤ 4096) (hcode0 : CodeAt w a0 len) :
    Calls Try.prog 8 #[.slice a0 len cap] w fun e w' => e = .returned (.bool true) ∧ Below w.heap.size w w' := by
  have hC : Hid (CodeAt w a0 len) := hcode0
  clear hcode0
  have hl' : ¬ (4096 : Int) < (len : Int) := by omega
  go_enter Try.func8, Try.ntmps8
  have mk1 : Hid True := trivial
  have mk2 : Hid True := trivial
  have mk3 : Hid True := trivial
  have mk4 : Hid True := trivial
  have mk5 : Hid True := trivial
  have mk6 : Hid True := trivial
  have mk7 : Hid True := trivial
  have mk8 : Hid True := trivial
  have mk9 : Hid True := trivial
  have mk10 : Hid True := trivial
  have mk11 : Hid True := trivial
  have mk12 : Hid True := trivial
  have mk13 : Hid True := trivial
  have mk14 : Hid True := trivial
  have mk15 : Hid True := trivial
  have mk16 : Hid True := trivial
  go_wp2_with (first | (go_at_call 33; go_in) | (clear mk1; go_at_call 34; refine (drawPicked_any _ a0 len cap hC.out).mono ?_; rintro er w1 ⟨vcH, vcD, who, rfl, H, ds, dkc⟩; have hB1 := dkc.bel; have ocH := dkc.heap; have ocD := dkc.hands; have nc := ocD.nilOk; have hz1 : w.heap.size ≤ w1.heap.size := hB1.size; have hB := hB1; have hzw := hB.size; obtain ⟨Ac, Kc, rfl⟩ := ocH.rd.form; obtain ⟨Dc, Mc, rfl⟩ := ocD.rd.form; obtain ⟨z, hz⟩ := hid_ex (pkB H ds who); obtain ⟨Lx, hLx⟩ := hid_ex (pkH H ds who); obtain ⟨Ex, hEx⟩ := hid_ex (pkD H ds who)) | (clear mk2; refine wpList_alloc_v rfl 31 rfl _ zeroCr ?_; intro b3 w2 hb3 hwb3 hB2 hVb3; have hz2 : w1.heap.size ≤ w2.heap.size := hB2.size; replace ocH := ocH.below hB2 (by omega); replace ocD := ocD.below hB2 (by omega); replace hB := hB.trans (hB2.mono (by omega)); replace hzw := hB.size) | (clear mk3; refine wpList_store_v rfl 31 _ _ rfl b3 [.slice Ac H.length Kc, .slice Dc ds.length Mc] rfl rfl sizeCr hVb3 rfl (by simp [Value.oneCell']) ?_; intro w3 hO3 hNb3; have hz3 : w2.heap.size ≤ w3.heap.size := (Nat.le_of_eq hO3.1.symm); replace ocH := ocH.keep (w' := w3) (fun k g1 g2 => hO3.2.1 k (by omega)); replace ocD := ocD.keep (w' := w3) (fun k g1 g2 => hO3.2.1 k (by omega)); replace hB := hB.trans (hO3.2.2 _ (by omega)); replace hzw := hB.size; have cc : CV w3 b3 31 (.slice Ac H.length Kc) (.slice Dc ds.length Mc) := ⟨hNb3⟩; clear hVb3 hNb3; obtain ⟨cc0, cc1⟩ := cc.cells) | (clear mk4; go_at_call 25; refine (implPicked_all H ds _ _ w1.heap.size _ (by omega) ocH.rd ocD.rd nc who).mono ?_; rintro er w4 ⟨vxH, vxD, he, oxH, oxD, hB4⟩; have hz4 : w3.heap.size ≤ w4.heap.size := hB4.size; replace ocH := ocH.below hB4 (by omega); replace ocD := ocD.below hB4 (by omega); replace cc := cc.below hB4 (by omega); replace hB := hB.trans (hB4.mono (by omega)); replace hzw := hB.size; clear cc0 cc1; obtain ⟨cc0, cc1⟩ := cc.cells; rw [hz.out] at he; subst he; rw [hLx.out] at oxH; rw [hEx.out] at oxD; obtain ⟨Ax, Kx, rfl⟩ := oxH.rd.form; obtain ⟨Dx, Mx, rfl⟩ := oxD.rd.form) | (clear mk5; refine wpList_alloc_v rfl 31 rfl _ zeroCr ?_; intro b5 w5 hb5 hwb5 hB5 hVb5; have hz5 : w4.heap.size ≤ w5.heap.size := hB5.size; replace ocH := ocH.below hB5 (by omega); replace ocD := ocD.below hB5 (by omega); replace oxH := oxH.below hB5 (by omega); replace oxD := oxD.below hB5 (by omega); replace cc := cc.below hB5 (by omega); replace hB := hB.trans (hB5.mono (by omega)); replace hzw := hB.size; clear cc0 cc1; obtain ⟨cc0, cc1⟩ := cc.cells) | (clear mk6; refine wpList_store_v rfl 31 _ _ rfl b5 [.slice Ax Lx.length Kx, .slice Dx Ex.length Mx] rfl rfl sizeCr hVb5 rfl (by simp [Value.oneCell']) ?_; intro w6 hO6 hNb5; have hz6 : w5.heap.size ≤ w6.heap.size := (Nat.le_of_eq hO6.1.symm); replace ocH := ocH.keep (w' := w6) (fun k g1 g2 => hO6.2.1 k (by omega)); replace ocD := ocD.keep (w' := w6) (fun k g1 g2 => hO6.2.1 k (by omega)); replace oxH := oxH.keep (w' := w6) (fun k g1 g2 => hO6.2.1 k (by omega)); replace oxD := oxD.keep (w' := w6) (fun k g1 g2 => hO6.2.1 k (by omega)); replace cc := cc.keep (w' := w6) (fun k g1 g2 => hO6.2.1 k (by omega)); replace hB := hB.trans (hO6.2.2 _ (by omega)); replace hzw := hB.size; clear cc0 cc1; obtain ⟨cc0, cc1⟩ := cc.cells; have cx : CV w6 b5 31 (.slice Ax Lx.length Kx) (.slice Dx Ex.length Mx) := ⟨hNb5⟩; clear hVb5 hNb5; obtain ⟨cx0, cx1⟩ := cx.cells) | (clear mk7; go_at_call 35; refine (drawNewCrew_any _ a0 len cap (code_at hC.out hB)).mono ?_; rintro er w7 ⟨vlD, rfl, ls, dql⟩; have hB7 := dql.bel; have olD := dql.hands; have nl := olD.nilOk; have hz7 : w6.heap.size ≤ w7.heap.size := hB7.size; replace ocH := ocH.below hB7 (by omega); replace ocD := ocD.below hB7 (by omega); replace oxH := oxH.below hB7 (by omega); replace oxD := oxD.below hB7 (by omega); replace cc := cc.below hB7 (by omega); replace cx := cx.below hB7 (by omega); replace hB := hB.trans (hB7.mono (by omega)); replace hzw := hB.size; clear cc0 cc1; obtain ⟨cc0, cc1⟩ := cc.cells; clear cx0 cx1; obtain ⟨cx0, cx1⟩ := cx.cells; obtain ⟨Dl, Ml, rfl⟩ := olD.rd.form; obtain ⟨m, hm⟩ := hid_ex (nwB ls); obtain ⟨Lz, hLz⟩ := hid_ex (nwH ls); obtain ⟨Ez, hEz⟩ := hid_ex (nwD ls)) | (clear mk8; go_at_call 19; refine (implNewCrew_all ls _ w7.heap.size _ (by omega) olD.rd nl).mono ?_; rintro er w8 ⟨vzH, vzD, he, ozH, ozD, hB8⟩; have hz8 : w7.heap.size ≤ w8.heap.size := hB8.size; replace ocH := ocH.below hB8 (by omega); replace ocD := ocD.below hB8 (by omega); replace oxH := oxH.below hB8 (by omega); replace oxD := oxD.below hB8 (by omega); replace olD := olD.below hB8 (by omega); replace cc := cc.below hB8 (by omega); replace cx := cx.below hB8 (by omega); replace hB := hB.trans (hB8.mono (by omega)); replace hzw := hB.size; clear cc0 cc1; obtain ⟨cc0, cc1⟩ := cc.cells; clear cx0 cx1; obtain ⟨cx0, cx1⟩ := cx.cells; rw [hm.out] at he; subst he; rw [hLz.out] at ozH; rw [hEz.out] at ozD; obtain ⟨Az, Kz, rfl⟩ := ozH.rd.form; obtain ⟨Dz, Mz, rfl⟩ := ozD.rd.form) | (clear mk9; refine wpList_alloc_v rfl 31 rfl _ zeroCr ?_; intro b8 w9 hb8 hwb8 hB9 hVb8; have hz9 : w8.heap.size ≤ w9.heap.size := hB9.size; replace ocH := ocH.below hB9 (by omega); replace ocD := ocD.below hB9 (by omega); replace oxH := oxH.below hB9 (by omega); replace oxD := oxD.below hB9 (by omega); replace olD := olD.below hB9 (by omega); replace ozH := ozH.below hB9 (by omega); replace ozD := ozD.below hB9 (by omega); replace cc := cc.below hB9 (by omega); replace cx := cx.below hB9 (by omega); replace hB := hB.trans (hB9.mono (by omega)); replace hzw := hB.size; clear cc0 cc1; obtain ⟨cc0, cc1⟩ := cc.cells; clear cx0 cx1; obtain ⟨cx0, cx1⟩ := cx.cells) | (clear mk10; refine wpList_store_v rfl 31 _ _ rfl b8 [.slice Az Lz.length Kz, .slice Dz Ez.length Mz] rfl rfl sizeCr hVb8 rfl (by simp [Value.oneCell']) ?_; intro w10 hO10 hNb8; have hz10 : w9.heap.size ≤ w10.heap.size := (Nat.le_of_eq hO10.1.symm); replace ocH := ocH.keep (w' := w10) (fun k g1 g2 => hO10.2.1 k (by omega)); replace ocD := ocD.keep (w' := w10) (fun k g1 g2 => hO10.2.1 k (by omega)); replace oxH := oxH.keep (w' := w10) (fun k g1 g2 => hO10.2.1 k (by omega)); replace oxD := oxD.keep (w' := w10) (fun k g1 g2 => hO10.2.1 k (by omega)); replace olD := olD.keep (w' := w10) (fun k g1 g2 => hO10.2.1 k (by omega)); replace ozH := ozH.keep (w' := w10) (fun k g1 g2 => hO10.2.1 k (by omega)); replace ozD := ozD.keep (w' := w10) (fun k g1 g2 => hO10.2.1 k (by omega)); replace cc := cc.keep (w' := w10) (fun k g1 g2 => hO10.2.1 k (by omega)); replace cx := cx.keep (w' := w10) (fun k g1 g2 => hO10.2.1 k (by omega)); replace hB := hB.trans (hO10.2.2 _ (by omega)); replace hzw := hB.size; clear cc0 cc1; obtain ⟨cc0, cc1⟩ := cc.cells; clear cx0 cx1; obtain ⟨cx0, cx1⟩ := cx.cells; have cz : CV w10 b8 31 (.slice Az Lz.length Kz) (.slice Dz Ez.length Mz) := ⟨hNb8⟩; clear hVb8 hNb8; obtain ⟨cz0, cz1⟩ := cz.cells) | (clear mk11; go_at_call 36; refine (drawAllDone_any _ a0 len cap (code_at hC.out hB)).mono ?_; rintro er w11 ⟨vdH, vdD, rfl, Hd1, dsd, dkd⟩; have hB11 := dkd.bel; have odH := dkd.heap; have odD := dkd.hands; have nd := odD.nilOk; have hz11 : w10.heap.size ≤ w11.heap.size := hB11.size; replace ocH := ocH.below hB11 (by omega); replace ocD := ocD.below hB11 (by omega); replace oxH := oxH.below hB11 (by omega); replace oxD := oxD.below hB11 (by omega); replace olD := olD.below hB11 (by omega); replace ozH := ozH.below hB11 (by omega); replace ozD := ozD.below hB11 (by omega); replace cc := cc.below hB11 (by omega); replace cx := cx.below hB11 (by omega); replace cz := cz.below hB11 (by omega); replace hB := hB.trans (hB11.mono (by omega)); replace hzw := hB.size; clear cc0 cc1; obtain ⟨cc0, cc1⟩ := cc.cells; clear cx0 cx1; obtain ⟨cx0, cx1⟩ := cx.cells; clear cz0 cz1; obtain ⟨cz0, cz1⟩ := cz.cells; obtain ⟨Ad, Kd, rfl⟩ := odH.rd.form; obtain ⟨Dd, Md, rfl⟩ := odD.rd.form; obtain ⟨ya, hya⟩ := hid_ex (allB Hd1 dsd); obtain ⟨yc, hyc⟩ := hid_ex (crewB H ds)) | (clear mk12; refine wpList_alloc_v rfl 31 rfl _ zeroCr ?_; intro b10 w12 hb10 hwb10 hB12 hVb10; have hz12 : w11.heap.size ≤ w12.heap.size := hB12.size; replace ocH := ocH.below hB12 (by omega); replace ocD := ocD.below hB12 (by omega); replace oxH := oxH.below hB12 (by omega); replace oxD := oxD.below hB12 (by omega); replace olD := olD.below hB12 (by omega); replace ozH := ozH.below hB12 (by omega); replace ozD := ozD.below hB12 (by omega); replace odH := odH.below hB12 (by omega); replace odD := odD.below hB12 (by omega); replace cc := cc.below hB12 (by omega); replace cx := cx.below hB12 (by omega); replace cz := cz.below hB12 (by omega); replace hB := hB.trans (hB12.mono (by omega)); replace hzw := hB.size; clear cc0 cc1; obtain ⟨cc0, cc1⟩ := cc.cells; clear cx0 cx1; obtain ⟨cx0, cx1⟩ := cx.cells; clear cz0 cz1; obtain ⟨cz0, cz1⟩ := cz.cells) | (clear mk13; refine wpList_store_v rfl 31 _ _ rfl b10 [.slice Ad Hd1.length Kd, .slice Dd dsd.length Md] rfl rfl sizeCr hVb10 rfl (by simp [Value.oneCell']) ?_; intro w13 hO13 hNb10; have hz13 : w12.heap.size ≤ w13.heap.size := (Nat.le_of_eq hO13.1.symm); replace ocH := ocH.keep (w' := w13) (fun k g1 g2 => hO13.2.1 k (by omega)); replace ocD := ocD.keep (w' := w13) (fun k g1 g2 => hO13.2.1 k (by omega)); replace oxH := oxH.keep (w' := w13) (fun k g1 g2 => hO13.2.1 k (by omega)); replace oxD := oxD.keep (w' := w13) (fun k g1 g2 => hO13.2.1 k (by omega)); replace olD := olD.keep (w' := w13) (fun k g1 g2 => hO13.2.1 k (by omega)); replace ozH := ozH.keep (w' := w13) (fun k g1 g2 => hO13.2.1 k (by omega)); replace ozD := ozD.keep (w' := w13) (fun k g1 g2 => hO13.2.1 k (by omega)); replace odH := odH.keep (w' := w13) (fun k g1 g2 => hO13.2.1 k (by omega)); replace odD := odD.keep (w' := w13) (fun k g1 g2 => hO13.2.1 k (by omega)); replace cc := cc.keep (w' := w13) (fun k g1 g2 => hO13.2.1 k (by omega)); replace cx := cx.keep (w' := w13) (fun k g1 g2 => hO13.2.1 k (by omega)); replace cz := cz.keep (w' := w13) (fun k g1 g2 => hO13.2.1 k (by omega)); replace hB := hB.trans (hO13.2.2 _ (by omega)); replace hzw := hB.size; clear cc0 cc1; obtain ⟨cc0, cc1⟩ := cc.cells; clear cx0 cx1; obtain ⟨cx0, cx1⟩ := cx.cells; clear cz0 cz1; obtain ⟨cz0, cz1⟩ := cz.cells; have cd : CV w13 b10 31 (.slice Ad Hd1.length Kd) (.slice Dd dsd.length Md) := ⟨hNb10⟩; clear hVb10 hNb10; obtain ⟨cd0, cd1⟩ := cd.cells) | (clear mk14; go_at_call 24; refine (specPicked_all H ds _ _ w1.heap.size _ (by omega) ocH.rd ocD.rd nc who).mono ?_; rintro er w14 ⟨vyH, vyD, he, oyH, oyD, hB14⟩; have hz14 : w13.heap.size ≤ w14.heap.size := hB14.size; replace ocH := ocH.below hB14 (by omega); replace ocD := ocD.below hB14 (by omega); replace oxH := oxH.below hB14 (by omega); replace oxD := oxD.below hB14 (by omega); replace olD := olD.below hB14 (by omega); replace ozH := ozH.below hB14 (by omega); replace ozD := ozD.below hB14 (by omega); replace odH := odH.below hB14 (by omega); replace odD := odD.below hB14 (by omega); replace cc := cc.below hB14 (by omega); replace cx := cx.below hB14 (by omega); replace cz := cz.below hB14 (by omega); replace cd := cd.below hB14 (by omega); replace hB := hB.trans (hB14.mono (by omega)); replace hzw := hB.size; clear cc0 cc1; obtain ⟨cc0, cc1⟩ := cc.cells; clear cx0 cx1; obtain ⟨cx0, cx1⟩ := cx.cells; clear cz0 cz1; obtain ⟨cz0, cz1⟩ := cz.cells; clear cd0 cd1; obtain ⟨cd0, cd1⟩ := cd.cells; rw [hz.out] at he; subst he; rw [hLx.out] at oyH; rw [hEx.out] at oyD; obtain ⟨Ay, Ky, rfl⟩ := oyH.rd.form; obtain ⟨Dy, My, rfl⟩ := oyD.rd.form) | (clear mk15; refine wpList_alloc_v rfl 31 rfl _ zeroCr ?_; intro b11 w15 hb11 hwb11 hB15 hVb11; have hz15 : w14.heap.size ≤ w15.heap.size := hB15.size; replace ocH := ocH.below hB15 (by omega); replace ocD := ocD.below hB15 (by omega); replace oxH := oxH.below hB15 (by omega); replace oxD := oxD.below hB15 (by omega); replace olD := olD.below hB15 (by omega); replace ozH := ozH.below hB15 (by omega); replace ozD := ozD.below hB15 (by omega); replace odH := odH.below hB15 (by omega); replace odD := odD.below hB15 (by omega); replace oyH := oyH.below hB15 (by omega); replace oyD := oyD.below hB15 (by omega); replace cc := cc.below hB15 (by omega); replace cx := cx.below hB15 (by omega); replace cz := cz.below hB15 (by omega); replace cd := cd.below hB15 (by omega); replace hB := hB.trans (hB15.mono (by omega)); replace hzw := hB.size; clear cc0 cc1; obtain ⟨cc0, cc1⟩ := cc.cells; clear cx0 cx1; obtain ⟨cx0, cx1⟩ := cx.cells; clear cz0 cz1; obtain ⟨cz0, cz1⟩ := cz.cells; clear cd0 cd1; obtain ⟨cd0, cd1⟩ := cd.cells) | (clear mk16; refine wpList_store_v rfl 31 _ _ rfl b11 [.slice Ay Lx.length Ky, .slice Dy Ex.length My] rfl rfl sizeCr hVb11 rfl (by simp [Value.oneCell']) ?_; intro w16 hO16 hNb11; have hz16 : w15.heap.size ≤ w16.heap.size := (Nat.le_of_eq hO16.1.symm); replace ocH := ocH.keep (w' := w16) (fun k g1 g2 => hO16.2.1 k (by omega)); replace ocD := ocD.keep (w' := w16) (fun k g1 g2 => hO16.2.1 k (by omega)); replace oxH := oxH.keep (w' := w16) (fun k g1 g2 => hO16.2.1 k (by omega)); replace oxD := oxD.keep (w' := w16) (fun k g1 g2 => hO16.2.1 k (by omega)); replace olD := olD.keep (w' := w16) (fun k g1 g2 => hO16.2.1 k (by omega)); replace ozH := ozH.keep (w' := w16) (fun k g1 g2 => hO16.2.1 k (by omega)); replace ozD := ozD.keep (w' := w16) (fun k g1 g2 => hO16.2.1 k (by omega)); replace odH := odH.keep (w' := w16) (fun k g1 g2 => hO16.2.1 k (by omega)); replace odD := odD.keep (w' := w16) (fun k g1 g2 => hO16.2.1 k (by omega)); replace oyH := oyH.keep (w' := w16) (fun k g1 g2 => hO16.2.1 k (by omega)); replace oyD := oyD.keep (w' := w16) (fun k g1 g2 => hO16.2.1 k (by omega)); replace cc := cc.keep (w' := w16) (fun k g1 g2 => hO16.2.1 k (by omega)); replace cx := cx.keep (w' := w16) (fun k g1 g2 => hO16.2.1 k (by omega)); replace cz := cz.keep (w' := w16) (fun k g1 g2 => hO16.2.1 k (by omega)); replace cd := cd.keep (w' := w16) (fun k g1 g2 => hO16.2.1 k (by omega)); replace hB := hB.trans (hO16.2.2 _ (by omega)); replace hzw := hB.size; clear cc0 cc1; obtain ⟨cc0, cc1⟩ := cc.cells; clear cx0 cx1; obtain ⟨cx0, cx1⟩ := cx.cells; clear cz0 cz1; obtain ⟨cz0, cz1⟩ := cz.cells; clear cd0 cd1; obtain ⟨cd0, cd1⟩ := cd.cells; have cy : CV w16 b11 31 (.slice Ay Lx.length Ky) (.slice Dy Ex.length My) := ⟨hNb11⟩; clear hVb11 hNb11; obtain ⟨cy0, cy1⟩ := cy.cells) | (fail))
  have hzz : (z != z) = false := by simp
  have hcc : (yc != yc) = false := by simp
  have haa : (ya != ya) = false := by simp
  have hBd : Below w16.heap.size w16 w16.drew := (Below.refl _ _).drew
  have hzd : w16.drew.heap.size = w16.heap.size := rfl
  have S0 : (w16.drew.cell? ⟨b5, 0, none⟩ = some (.slice Ax Lx.length Kx) ∧ w16.drew.cell? ⟨b5, 1, none⟩ = some (.slice Dx Ex.length Mx) ∧ w16.drew.cell? ⟨b11, 0, none⟩ = some (.slice Ay Lx.length Ky) ∧ w16.drew.cell? ⟨b11, 1, none⟩ = some (.slice Dy Ex.length My) ∧ w16.drew.cell? ⟨b3, 0, none⟩ = some (.slice Ac H.length Kc) ∧ w16.drew.cell? ⟨b3, 1, none⟩ = some (.slice Dc ds.length Mc) ∧ w16.drew.cell? ⟨b10, 0, none⟩ = some (.slice Ad Hd1.length Kd) ∧ w16.drew.cell? ⟨b10, 1, none⟩ = some (.slice Dd dsd.length Md)) := ⟨cx0, cx1, cy0, cy1, cc0, cc1, cd0, cd1⟩
  have mk17 : Hid True := trivial
  have mk18 : Hid True := trivial
  have mk19 : Hid True := trivial
  have mk20 : Hid True := trivial
  have mk21 : Hid True := trivial
  go_region_held3 (fun w' => (w'.cell? ⟨b5, 0, none⟩ = some (.slice Ax Lx.length Kx) ∧ w'.cell? ⟨b5, 1, none⟩ = some (.slice Dx Ex.length Mx) ∧ w'.cell? ⟨b11, 0, none⟩ = some (.slice Ay Lx.length Ky) ∧ w'.cell? ⟨b11, 1, none⟩ = some (.slice Dy Ex.length My) ∧ w'.cell? ⟨b3, 0, none⟩ = some (.slice Ac H.length Kc) ∧ w'.cell? ⟨b3, 1, none⟩ = some (.slice Dc ds.length Mc) ∧ w'.cell? ⟨b10, 0, none⟩ = some (.slice Ad Hd1.length Kd) ∧ w'.cell? ⟨b10, 1, none⟩ = some (.slice Dd dsd.length Md))) (first | assumption | exact S0 | (fail)) (first | (clear mk17; go_at_call 37; have ocHd := ocH.below hBd (by omega); have ocDd := ocD.below hBd (by omega); have oxHd := oxH.below hBd (by omega); have oxDd := oxD.below hBd (by omega); have olDd := olD.below hBd (by omega); have ozHd := ozH.below hBd (by omega); have ozDd := ozD.below hBd (by omega); have odHd := odH.below hBd (by omega); have odDd := odD.below hBd (by omega); have oyHd := oyH.below hBd (by omega); have oyDd := oyD.below hBd (by omega); refine (likeCrew_any Lx Ex _ _ _ _ w4.heap.size w14.heap.size w16.drew (by omega) (by omega) oxHd.rd oxDd.rd oyHd.rd oyDd.rd).mono ?_; rintro er w17 ⟨rfl, hBe⟩; have hB17 : Below w16.heap.size w16 w17 := hBd.trans (hBe.mono (by omega)); have hz17 : w16.heap.size ≤ w17.heap.size := hB17.size; replace ocH := ocH.below hB17 (by omega); replace ocD := ocD.below hB17 (by omega); replace oxH := oxH.below hB17 (by omega); replace oxD := oxD.below hB17 (by omega); replace olD := olD.below hB17 (by omega); replace ozH := ozH.below hB17 (by omega); replace ozD := ozD.below hB17 (by omega); replace odH := odH.below hB17 (by omega); replace odD := odD.below hB17 (by omega); replace oyH := oyH.below hB17 (by omega); replace oyD := oyD.below hB17 (by omega); replace cc := cc.below hB17 (by omega); replace cx := cx.below hB17 (by omega); replace cz := cz.below hB17 (by omega); replace cd := cd.below hB17 (by omega); replace cy := cy.below hB17 (by omega); replace hB := hB.trans (hB17.mono (by omega)); replace hzw := hB.size; clear cc0 cc1; obtain ⟨cc0, cc1⟩ := cc.cells; clear cx0 cx1; obtain ⟨cx0, cx1⟩ := cx.cells; clear cz0 cz1; obtain ⟨cz0, cz1⟩ := cz.cells; clear cd0 cd1; obtain ⟨cd0, cd1⟩ := cd.cells; clear cy0 cy1; obtain ⟨cy0, cy1⟩ := cy.cells; have S1 : (w17.cell? ⟨b5, 0, none⟩ = some (.slice Ax Lx.length Kx) ∧ w17.cell? ⟨b5, 1, none⟩ = some (.slice Dx Ex.length Mx) ∧ w17.cell? ⟨b11, 0, none⟩ = some (.slice Ay Lx.length Ky) ∧ w17.cell? ⟨b11, 1, none⟩ = some (.slice Dy Ex.length My) ∧ w17.cell? ⟨b3, 0, none⟩ = some (.slice Ac H.length Kc) ∧ w17.cell? ⟨b3, 1, none⟩ = some (.slice Dc ds.length Mc) ∧ w17.cell? ⟨b10, 0, none⟩ = some (.slice Ad Hd1.length Kd) ∧ w17.cell? ⟨b10, 1, none⟩ = some (.slice Dd dsd.length Md)) := ⟨cx0, cx1, cy0, cy1, cc0, cc1, cd0, cd1⟩) | (clear mk18; go_at_call 14; refine (implCrewOk_any H ds _ _ w1.heap.size w17 (by omega) ocH.rd ocD.rd).mono ?_; rintro er w18 ⟨he, hB18⟩; rw [hyc.out] at he; subst he; have hz18 : w17.heap.size ≤ w18.heap.size := hB18.size; replace ocH := ocH.below hB18 (by omega); replace ocD := ocD.below hB18 (by omega); replace oxH := oxH.below hB18 (by omega); replace oxD := oxD.below hB18 (by omega); replace olD := olD.below hB18 (by omega); replace ozH := ozH.below hB18 (by omega); replace ozD := ozD.below hB18 (by omega); replace odH := odH.below hB18 (by omega); replace odD := odD.below hB18 (by omega); replace oyH := oyH.below hB18 (by omega); replace oyD := oyD.below hB18 (by omega); replace cc := cc.below hB18 (by omega); replace cx := cx.below hB18 (by omega); replace cz := cz.below hB18 (by omega); replace cd := cd.below hB18 (by omega); replace cy := cy.below hB18 (by omega); replace hB := hB.trans (hB18.mono (by omega)); replace hzw := hB.size; clear cc0 cc1; obtain ⟨cc0, cc1⟩ := cc.cells; clear cx0 cx1; obtain ⟨cx0, cx1⟩ := cx.cells; clear cz0 cz1; obtain ⟨cz0, cz1⟩ := cz.cells; clear cd0 cd1; obtain ⟨cd0, cd1⟩ := cd.cells; clear cy0 cy1; obtain ⟨cy0, cy1⟩ := cy.cells; have S2 : (w18.cell? ⟨b5, 0, none⟩ = some (.slice Ax Lx.length Kx) ∧ w18.cell? ⟨b5, 1, none⟩ = some (.slice Dx Ex.length Mx) ∧ w18.cell? ⟨b11, 0, none⟩ = some (.slice Ay Lx.length Ky) ∧ w18.cell? ⟨b11, 1, none⟩ = some (.slice Dy Ex.length My) ∧ w18.cell? ⟨b3, 0, none⟩ = some (.slice Ac H.length Kc) ∧ w18.cell? ⟨b3, 1, none⟩ = some (.slice Dc ds.length Mc) ∧ w18.cell? ⟨b10, 0, none⟩ = some (.slice Ad Hd1.length Kd) ∧ w18.cell? ⟨b10, 1, none⟩ = some (.slice Dd dsd.length Md)) := ⟨cx0, cx1, cy0, cy1, cc0, cc1, cd0, cd1⟩) | (clear mk19; go_at_call 12; refine (specCrewOk_any H ds _ _ w1.heap.size w18 (by omega) ocH.rd ocD.rd).mono ?_; rintro er w19 ⟨he, hB19⟩; rw [hyc.out] at he; subst he; have hz19 : w18.heap.size ≤ w19.heap.size := hB19.size; replace ocH := ocH.below hB19 (by omega); replace ocD := ocD.below hB19 (by omega); replace oxH := oxH.below hB19 (by omega); replace oxD := oxD.below hB19 (by omega); replace olD := olD.below hB19 (by omega); replace ozH := ozH.below hB19 (by omega); replace ozD := ozD.below hB19 (by omega); replace odH := odH.below hB19 (by omega); replace odD := odD.below hB19 (by omega); replace oyH := oyH.below hB19 (by omega); replace oyD := oyD.below hB19 (by omega); replace cc := cc.below hB19 (by omega); replace cx := cx.below hB19 (by omega); replace cz := cz.below hB19 (by omega); replace cd := cd.below hB19 (by omega); replace cy := cy.below hB19 (by omega); replace hB := hB.trans (hB19.mono (by omega)); replace hzw := hB.size; clear cc0 cc1; obtain ⟨cc0, cc1⟩ := cc.cells; clear cx0 cx1; obtain ⟨cx0, cx1⟩ := cx.cells; clear cz0 cz1; obtain ⟨cz0, cz1⟩ := cz.cells; clear cd0 cd1; obtain ⟨cd0, cd1⟩ := cd.cells; clear cy0 cy1; obtain ⟨cy0, cy1⟩ := cy.cells; have S3 : (w19.cell? ⟨b5, 0, none⟩ = some (.slice Ax Lx.length Kx) ∧ w19.cell? ⟨b5, 1, none⟩ = some (.slice Dx Ex.length Mx) ∧ w19.cell? ⟨b11, 0, none⟩ = some (.slice Ay Lx.length Ky) ∧ w19.cell? ⟨b11, 1, none⟩ = some (.slice Dy Ex.length My) ∧ w19.cell? ⟨b3, 0, none⟩ = some (.slice Ac H.length Kc) ∧ w19.cell? ⟨b3, 1, none⟩ = some (.slice Dc ds.length Mc) ∧ w19.cell? ⟨b10, 0, none⟩ = some (.slice Ad Hd1.length Kd) ∧ w19.cell? ⟨b10, 1, none⟩ = some (.slice Dd dsd.length Md)) := ⟨cx0, cx1, cy0, cy1, cc0, cc1, cd0, cd1⟩) | (clear mk20; go_at_call 32; refine (implAllDone_any Hd1 dsd _ _ w11.heap.size w19 (by omega) odH.rd odD.rd).mono ?_; rintro er w20 ⟨he, hB20⟩; rw [hya.out] at he; subst he; have hz20 : w19.heap.size ≤ w20.heap.size := hB20.size; replace ocH := ocH.below hB20 (by omega); replace ocD := ocD.below hB20 (by omega); replace oxH := oxH.below hB20 (by omega); replace oxD := oxD.below hB20 (by omega); replace olD := olD.below hB20 (by omega); replace ozH := ozH.below hB20 (by omega); replace ozD := ozD.below hB20 (by omega); replace odH := odH.below hB20 (by omega); replace odD := odD.below hB20 (by omega); replace oyH := oyH.below hB20 (by omega); replace oyD := oyD.below hB20 (by omega); replace cc := cc.below hB20 (by omega); replace cx := cx.below hB20 (by omega); replace cz := cz.below hB20 (by omega); replace cd := cd.below hB20 (by omega); replace cy := cy.below hB20 (by omega); replace hB := hB.trans (hB20.mono (by omega)); replace hzw := hB.size; clear cc0 cc1; obtain ⟨cc0, cc1⟩ := cc.cells; clear cx0 cx1; obtain ⟨cx0, cx1⟩ := cx.cells; clear cz0 cz1; obtain ⟨cz0, cz1⟩ := cz.cells; clear cd0 cd1; obtain ⟨cd0, cd1⟩ := cd.cells; clear cy0 cy1; obtain ⟨cy0, cy1⟩ := cy.cells; have S4 : (w20.cell? ⟨b5, 0, none⟩ = some (.slice Ax Lx.length Kx) ∧ w20.cell? ⟨b5, 1, none⟩ = some (.slice Dx Ex.length Mx) ∧ w20.cell? ⟨b11, 0, none⟩ = some (.slice Ay Lx.length Ky) ∧ w20.cell? ⟨b11, 1, none⟩ = some (.slice Dy Ex.length My) ∧ w20.cell? ⟨b3, 0, none⟩ = some (.slice Ac H.length Kc) ∧ w20.cell? ⟨b3, 1, none⟩ = some (.slice Dc ds.length Mc) ∧ w20.cell? ⟨b10, 0, none⟩ = some (.slice Ad Hd1.length Kd) ∧ w20.cell? ⟨b10, 1, none⟩ = some (.slice Dd dsd.length Md)) := ⟨cx0, cx1, cy0, cy1, cc0, cc1, cd0, cd1⟩) | (clear mk21; go_at_call 31; refine (specAllDone_any Hd1 dsd _ _ w11.heap.size w20 (by omega) odH.rd odD.rd).mono ?_; rintro er w21 ⟨he, hB21⟩; rw [hya.out] at he; subst he; have hz21 : w20.heap.size ≤ w21.heap.size := hB21.size; replace ocH := ocH.below hB21 (by omega); replace ocD := ocD.below hB21 (by omega); replace oxH := oxH.below hB21 (by omega); replace oxD := oxD.below hB21 (by omega); replace olD := olD.below hB21 (by omega); replace ozH := ozH.below hB21 (by omega); replace ozD := ozD.below hB21 (by omega); replace odH := odH.below hB21 (by omega); replace odD := odD.below hB21 (by omega); replace oyH := oyH.below hB21 (by omega); replace oyD := oyD.below hB21 (by omega); replace cc := cc.below hB21 (by omega); replace cx := cx.below hB21 (by omega); replace cz := cz.below hB21 (by omega); replace cd := cd.below hB21 (by omega); replace cy := cy.below hB21 (by omega); replace hB := hB.trans (hB21.mono (by omega)); replace hzw := hB.size; clear cc0 cc1; obtain ⟨cc0, cc1⟩ := cc.cells; clear cx0 cx1; obtain ⟨cx0, cx1⟩ := cx.cells; clear cz0 cz1; obtain ⟨cz0, cz1⟩ := cz.cells; clear cd0 cd1; obtain ⟨cd0, cd1⟩ := cd.cells; clear cy0 cy1; obtain ⟨cy0, cy1⟩ := cy.cells; have S5 : (w21.cell? ⟨b5, 0, none⟩ = some (.slice Ax Lx.length Kx) ∧ w21.cell? ⟨b5, 1, none⟩ = some (.slice Dx Ex.length Mx) ∧ w21.cell? ⟨b11, 0, none⟩ = some (.slice Ay Lx.length Ky) ∧ w21.cell? ⟨b11, 1, none⟩ = some (.slice Dy Ex.length My) ∧ w21.cell? ⟨b3, 0, none⟩ = some (.slice Ac H.length Kc) ∧ w21.cell? ⟨b3, 1, none⟩ = some (.slice Dc ds.length Mc) ∧ w21.cell? ⟨b10, 0, none⟩ = some (.slice Ad Hd1.length Kd) ∧ w21.cell? ⟨b10, 1, none⟩ = some (.slice Dd dsd.length Md)) := ⟨cx0, cx1, cy0, cy1, cc0, cc1, cd0, cd1⟩) | (fail))
  clear S0 S1 S2 S3 S4 S5 hBd hzd
  clear hzz hcc haa
  have mk22 : Hid True := trivial
  have mk23 : Hid True := trivial
  have mk24 : Hid True := trivial
  go_upto_region 12 with (first | (clear mk22; go_at_call 17; refine (specNewCrew_all ls _ w7.heap.size _ (by omega) olD.rd nl).mono ?_; rintro er w22 ⟨vsH, vsD, he, osH, osD, hB22⟩; have hz22 : w21.heap.size ≤ w22.heap.size := hB22.size; replace ocH := ocH.below hB22 (by omega); replace ocD := ocD.below hB22 (by omega); replace oxH := oxH.below hB22 (by omega); replace oxD := oxD.below hB22 (by omega); replace olD := olD.below hB22 (by omega); replace ozH := ozH.below hB22 (by omega); replace ozD := ozD.below hB22 (by omega); replace cc := cc.below hB22 (by omega); replace cx := cx.below hB22 (by omega); replace cz := cz.below hB22 (by omega); replace cd := cd.below hB22 (by omega); replace cy := cy.below hB22 (by omega); replace hB := hB.trans (hB22.mono (by omega)); replace hzw := hB.size; clear cc0 cc1; obtain ⟨cc0, cc1⟩ := cc.cells; clear cx0 cx1; obtain ⟨cx0, cx1⟩ := cx.cells; clear cz0 cz1; obtain ⟨cz0, cz1⟩ := cz.cells; clear cd0 cd1; obtain ⟨cd0, cd1⟩ := cd.cells; clear cy0 cy1; obtain ⟨cy0, cy1⟩ := cy.cells; rw [hm.out] at he; subst he; rw [hLz.out] at osH; rw [hEz.out] at osD; obtain ⟨As, Ks, rfl⟩ := osH.rd.form; obtain ⟨Ds, Ms, rfl⟩ := osD.rd.form) | (clear mk23; refine wpList_alloc_v rfl 31 rfl _ zeroCr ?_; intro b13 w23 hb13 hwb13 hB23 hVb13; have hz23 : w22.heap.size ≤ w23.heap.size := hB23.size; replace ocH := ocH.below hB23 (by omega); replace ocD := ocD.below hB23 (by omega); replace oxH := oxH.below hB23 (by omega); replace oxD := oxD.below hB23 (by omega); replace olD := olD.below hB23 (by omega); replace ozH := ozH.below hB23 (by omega); replace ozD := ozD.below hB23 (by omega); replace osH := osH.below hB23 (by omega); replace osD := osD.below hB23 (by omega); replace cc := cc.below hB23 (by omega); replace cx := cx.below hB23 (by omega); replace cz := cz.below hB23 (by omega); replace cd := cd.below hB23 (by omega); replace cy := cy.below hB23 (by omega); replace hB := hB.trans (hB23.mono (by omega)); replace hzw := hB.size; clear cc0 cc1; obtain ⟨cc0, cc1⟩ := cc.cells; clear cx0 cx1; obtain ⟨cx0, cx1⟩ := cx.cells; clear cz0 cz1; obtain ⟨cz0, cz1⟩ := cz.cells; clear cd0 cd1; obtain ⟨cd0, cd1⟩ := cd.cells; clear cy0 cy1; obtain ⟨cy0, cy1⟩ := cy.cells) | (clear mk24; refine wpList_store_v rfl 31 _ _ rfl b13 [.slice As Lz.length Ks, .slice Ds Ez.length Ms] rfl rfl sizeCr hVb13 rfl (by simp [Value.oneCell']) ?_; intro w24 hO24 hNb13; have hz24 : w23.heap.size ≤ w24.heap.size := (Nat.le_of_eq hO24.1.symm); replace ocH := ocH.keep (w' := w24) (fun k g1 g2 => hO24.2.1 k (by omega)); replace ocD := ocD.keep (w' := w24) (fun k g1 g2 => hO24.2.1 k (by omega)); replace oxH := oxH.keep (w' := w24) (fun k g1 g2 => hO24.2.1 k (by omega)); replace oxD := oxD.keep (w' := w24) (fun k g1 g2 => hO24.2.1 k (by omega)); replace olD := olD.keep (w' := w24) (fun k g1 g2 => hO24.2.1 k (by omega)); replace ozH := ozH.keep (w' := w24) (fun k g1 g2 => hO24.2.1 k (by omega)); replace ozD := ozD.keep (w' := w24) (fun k g1 g2 => hO24.2.1 k (by omega)); replace osH := osH.keep (w' := w24) (fun k g1 g2 => hO24.2.1 k (by omega)); replace osD := osD.keep (w' := w24) (fun k g1 g2 => hO24.2.1 k (by omega)); replace cc := cc.keep (w' := w24) (fun k g1 g2 => hO24.2.1 k (by omega)); replace cx := cx.keep (w' := w24) (fun k g1 g2 => hO24.2.1 k (by omega)); replace cz := cz.keep (w' := w24) (fun k g1 g2 => hO24.2.1 k (by omega)); replace cd := cd.keep (w' := w24) (fun k g1 g2 => hO24.2.1 k (by omega)); replace cy := cy.keep (w' := w24) (fun k g1 g2 => hO24.2.1 k (by omega)); replace hB := hB.trans (hO24.2.2 _ (by omega)); replace hzw := hB.size; clear cc0 cc1; obtain ⟨cc0, cc1⟩ := cc.cells; clear cx0 cx1; obtain ⟨cx0, cx1⟩ := cx.cells; clear cz0 cz1; obtain ⟨cz0, cz1⟩ := cz.cells; clear cd0 cd1; obtain ⟨cd0, cd1⟩ := cd.cells; clear cy0 cy1; obtain ⟨cy0, cy1⟩ := cy.cells; have cs : CV w24 b13 31 (.slice As Lz.length Ks) (.slice Ds Ez.length Ms) := ⟨hNb13⟩; clear hVb13 hNb13; obtain ⟨cs0, cs1⟩ := cs.cells) | (fail))
  have hmm : (m != m) = false := by simp
  go_cut [94] (fun s wc => s = .bool false ∧ Below w24.heap.size w24 wc)
  case first =>
    cases m with
    | false =>
      go_wp2_with (first | (go_at_call 37; refine (likeCrew_any Lz Ez _ _ _ _ w8.heap.size w22.heap.size _ (by omega) (by omega) ozH.rd ozD.rd osH.rd osD.rd).mono ?_; rintro er wq ⟨rfl, hBq⟩) | (fail))
      go_meet
      case rel => exact ⟨rfl, hBq⟩
    | true =>
      have NO : Hid (NewOk ls) := nwB_ok hm.out
      have eL : Hid (Lz = [c0]) := by unfold Hid; rw [← hLz.out]; exact (nw_yes NO.out).2.1
      have eE : Hid (Ez = ls) := by unfold Hid; rw [← hEz.out]; exact (nw_yes NO.out).2.2
      have q1 : ((Lz.length : Int) != 1) = false := by rw [eL.out]; rfl
      have KZ : Hid (crewB Lz Ez = true) := by unfold Hid; rw [eL.out, eE.out]; exact crewB_true NO.out.1
      go_wp2_with (first | (go_at_call 37; refine (likeCrew_any Lz Ez _ _ _ _ w8.heap.size w22.heap.size _ (by omega) (by omega) ozH.rd ozD.rd osH.rd osD.rd).mono ?_; rintro er wq ⟨rfl, hBq⟩; have hzq := hBq.size; replace ozH := ozH.below hBq (by omega); replace ozD := ozD.below hBq (by omega); replace cz := cz.below hBq (by omega); clear cz0 cz1; obtain ⟨cz0, cz1⟩ := cz.cells) | (go_at_call 14; refine (implCrewOk_any Lz Ez _ _ w8.heap.size _ (by omega) ozH.rd ozD.rd).mono ?_; rintro er wr ⟨he, hBr⟩; rw [KZ.out] at he; subst he; have hzr := hBr.size; replace cz := cz.below hBr (by omega); clear cz0 cz1; obtain ⟨cz0, cz1⟩ := cz.cells) | (fail))
      go_meet
      case rel => exact ⟨rfl, hBq.trans (hBr.mono (by omega))⟩
  case rest =>
  rename World => wK
  obtain ⟨rfl, hBK⟩ := hcut
  have hzK : w24.heap.size ≤ wK.heap.size := hBK.size
  replace ocH := ocH.below hBK (by omega)
  replace ocD := ocD.below hBK (by omega)
  replace oxH := oxH.below hBK (by omega)
  replace oxD := oxD.below hBK (by omega)
  replace cc := cc.below hBK (by omega)
  replace cx := cx.below hBK (by omega)
  replace hB := hB.trans (hBK.mono (by omega))
  replace hzw := hB.size
  clear cc0 cc1; obtain ⟨cc0, cc1⟩ := cc.cells
  clear cx0 cx1; obtain ⟨cx0, cx1⟩ := cx.cells
  clear hmm hm hLz hEz cz cz0 cz1 cs cs0 cs1 cd cd0 cd1 cy cy0 cy1 ozH ozD osH osD olD
  have mk25 : Hid True := trivial
  go_upto_if 97 with (first | (clear mk25; go_at_call 12; refine (specCrewOk_any H ds _ _ w1.heap.size _ (by omega) ocH.rd ocD.rd).mono ?_; rintro er w25 ⟨he, hB25⟩; have hz25 : wK.heap.size ≤ w25.heap.size := hB25.size; replace ocH := ocH.below hB25 (by omega); replace ocD := ocD.below hB25 (by omega); replace oxH := oxH.below hB25 (by omega); replace oxD := oxD.below hB25 (by omega); replace cc := cc.below hB25 (by omega); replace cx := cx.below hB25 (by omega); replace hB := hB.trans (hB25.mono (by omega)); replace hzw := hB.size; clear cc0 cc1; obtain ⟨cc0, cc1⟩ := cc.cells; clear cx0 cx1; obtain ⟨cx0, cx1⟩ := cx.cells; rw [hyc.out] at he; subst he) | (fail))
  cases yc with
  | false =>
    have nok : ¬ CrewOk H ds := fun q => by have := crewB_true q; rw [hyc.out] at this; cases this
    have ez : z = false := by rw [← hz.out]; unfold pkB; rw [if_neg nok]
    have eL : Hid (Lx = []) := by unfold Hid; rw [← hLx.out]; unfold pkH; rw [if_neg nok]
    have eE : Hid (Ex = []) := by unfold Hid; rw [← hEx.out]; unfold pkD; rw [if_neg nok]
    subst ez
    clear nok
    go_wp2_with (first | (go_at_call 37; refine (likeCrew_any Lx Ex _ _ _ _ w4.heap.size 0 _ (by omega) (Nat.zero_le _) oxH.rd oxD.rd (by rw [eL.out]; exact (own_none _ 0 0).rd) (by rw [eE.out]; exact (ownH_none _ 0 0).rd)).mono ?_; rintro er wq ⟨rfl, hBq⟩) | (fail))
    go_ret
    exact ⟨rfl, hB.trans (hBq.mono (by omega))⟩
  | true =>
  have OK : Hid (CrewOk H ds) := crewB_iff.1 hyc.out
  cases z with
  | false =>
    have eL : Hid (Lx = H) := by unfold Hid; rw [← hLx.out]; exact (pk_same OK.out hz.out).1
    have eE : Hid (Ex = ds) := by unfold Hid; rw [← hEx.out]; exact (pk_same OK.out hz.out).2
    go_wp2_with (first | (go_at_call 37; refine (likeCrew_any Lx Ex _ _ _ _ w4.heap.size w1.heap.size _ (by omega) (by omega) oxH.rd oxD.rd (by rw [eL.out]; exact ocH.rd) (by rw [eE.out]; exact ocD.rd)).mono ?_; rintro er wq ⟨rfl, hBq⟩) | (fail))
    go_ret
    exact ⟨rfl, hB.trans (hBq.mono (by omega))⟩
  | true =>
  obtain ⟨iw, hiw, e1, e2, e3, ok'⟩ := pk_moved OK.out hz.out
  subst e1
  rw [hLx.out, hEx.out] at ok'
  have eE : Hid (Ex = ds.set iw (ce.move H ds[iw]).2) := by unfold Hid; rw [← hEx.out]; exact e3
  have eN : Hid (Ex.length = ds.length) := by unfold Hid; rw [eE.out, List.length_set]
  have OK' : Hid (CrewOk Lx Ex) := ok'
  have hld := ocD.rd.len
  have RXD : Hid (RdH w25 w4.heap.size (.slice Dx Ex.length Mx) Ex) := oxD.rd
  have RCD : Hid (RdH w25 w1.heap.size (.slice Dc ds.length Mc) ds) := ocD.rd
  have RXH : Hid (Rd w25 w4.heap.size (.slice Ax Lx.length Kx) Lx) := oxH.rd
  have CX : Hid (CV w25 b5 31 (.slice Ax Lx.length Kx) (.slice Dx Ex.length Mx)) := cx
  have CC : Hid (CV w25 b3 31 (.slice Ac H.length Kc) (.slice Dc ds.length Mc)) := cc
  have HB0 : Hid (Below w.heap.size w w25) := hB
  have sx : w4.heap.size ≤ w25.heap.size := by omega
  have sc : w1.heap.size ≤ w25.heap.size := by omega
  have sw : w.heap.size ≤ w25.heap.size := by omega
  have lx := cx.lt
  have lc := cc.lt
  clear e2 e3 ok' oxD ocD oxH ocH cx cc cx0 cx1 cc0 cc1 hB
  go_wp2
  go_loopw [15] (fun v' wr => ∃ i : Nat, i ≤ ds.length ∧ v' = .int .i64 i ∧ Below w25.heap.size w25 wr) (fun v' _ => ds.length - (intOf v').toNat)
  case atStart => exact ⟨0, by omega, rfl, Below.refl _ _⟩
  case round =>
    obtain ⟨i, hi1, rfl, hBr⟩ := hrel
    have hbr := hBr.size
    obtain ⟨p0, p1⟩ := (CX.out.below hBr (by omega)).cells
    obtain ⟨q0, q1⟩ := (CC.out.below hBr (by omega)).cells
    by_cases hlt : i < ds.length
    · have hlt' : (i : Int) < (ds.length : Int) := by omega
      have hlx : i < Ex.length := by rw [eN.out]; exact hlt
      have hlx' : (i : Int) < (Ex.length : Int) := by omega
      by_cases hne : i = iw
      · have g0 : ((i : Int) != (iw : Int)) = false := by simp [hne]
        clear hne
        go_wp2
        try simp only [Act.put, List.setIfInBounds_toArray, List.set_cons_zero, List.set_cons_succ]
        go_big_quiet (fail)
        go_wp2
        go_roundw
        case rel => exact ⟨i + 1, by omega, by go_num, hBr.trans (below_drewN _ _)⟩
        case measure => simp [intOf]; omega
      · have g0 : ((i : Int) != (iw : Int)) = true := by simp; omega
        have ex : Ex[i] = ds[i] := by
          have := eE.out
          subst this
          rw [List.getElem_set_ne (by omega)]
        obtain ⟨d, hd⟩ := hid_ex (ds[i])
        obtain ⟨k, x, y, s, l, e, o, t⟩ := d
        obtain ⟨cb, coff, rfl, hcb, d0, d1, d2, d3, d4, d5, d6, d7⟩ := (RCD.out.below hBr sc).cell i hlt hd.out
        obtain ⟨cb', coff', rfl, hcb', f0, f1, f2, f3, f4, f5, f6, f7⟩ := (RXD.out.below hBr sx).cell i hlx (ex.trans hd.out)
        clear hne ex
        go_wp2
        try simp only [Act.put, List.setIfInBounds_toArray, List.set_cons_zero, List.set_cons_succ]
        go_big_quiet (fail)
        go_wp2
        go_roundw
        case rel => exact ⟨i + 1, by omega, by go_num, hBr.trans (below_drewN _ _)⟩
        case measure => simp [intOf]; omega
    · have hlt' : ¬ ((i : Int) < (ds.length : Int)) := by omega
      have hlx : iw < Ex.length := by rw [eN.out]; exact hiw
      have hlx' : (iw : Int) < (Ex.length : Int) := by omega
      obtain ⟨d, hd⟩ := hid_ex (Ex[iw])
      have HBX : Hid (handB Lx d = true) := by
        unfold Hid
        rw [← hd.out]
        exact handB_iff.2 ⟨OK'.out.heap, OK'.out.hands _ (List.getElem_mem hlx)⟩
      have HOX : Hid (decide (heapOk Lx) = true) := decide_eq_true OK'.out.heap
      obtain ⟨k, x, y, s, l, e, o, t⟩ := d
      have RX2 : Hid (RdH wr w4.heap.size (.slice Dx Ex.length Mx) Ex) := RXD.out.below hBr sx
      have RH2 : Hid (Rd wr w4.heap.size (.slice Ax Lx.length Kx) Lx) := RXH.out.below hBr sx
      obtain ⟨cb, coff, rfl, hcb, f0, f1, f2, f3, f4, f5, f6, f7⟩ := RX2.out.cell iw hlx hd.out
      have S0 : (wr.drew.cell? ⟨b5, 0, none⟩ = some (.slice Ax Lx.length Kx) ∧ wr.drew.cell? ⟨b5, 1, none⟩ = some (.slice (some ⟨cb, coff, none⟩) Ex.length Mx) ∧ wr.drew.cell? ⟨cb, coff + iw * 8, none⟩ = some (.int .i64 k) ∧ wr.drew.cell? ⟨cb, coff + iw * 8 + 1, none⟩ = some (.int .i64 x) ∧ wr.drew.cell? ⟨cb, coff + iw * 8 + 2, none⟩ = some (.int .i64 y) ∧ wr.drew.cell? ⟨cb, coff + iw * 8 + 3, none⟩ = some (.int .i64 s) ∧ wr.drew.cell? ⟨cb, coff + iw * 8 + 4, none⟩ = some (.int .i64 l) ∧ wr.drew.cell? ⟨cb, coff + iw * 8 + 5, none⟩ = some (.int .i64 e) ∧ wr.drew.cell? ⟨cb, coff + iw * 8 + 6, none⟩ = some (.int .i64 o) ∧ wr.drew.cell? ⟨cb, coff + iw * 8 + 7, none⟩ = some (.int .i64 t)) := ⟨p0, p1, f0, f1, f2, f3, f4, f5, f6, f7⟩
      go_wp2
      clear q0 q1
      have mq1 : Hid True := trivial
      have mq2 : Hid True := trivial
      go_region_held3 (fun w' => (w'.cell? ⟨b5, 0, none⟩ = some (.slice Ax Lx.length Kx) ∧ w'.cell? ⟨b5, 1, none⟩ = some (.slice (some ⟨cb, coff, none⟩) Ex.length Mx) ∧ w'.cell? ⟨cb, coff + iw * 8, none⟩ = some (.int .i64 k) ∧ w'.cell? ⟨cb, coff + iw * 8 + 1, none⟩ = some (.int .i64 x) ∧ w'.cell? ⟨cb, coff + iw * 8 + 2, none⟩ = some (.int .i64 y) ∧ w'.cell? ⟨cb, coff + iw * 8 + 3, none⟩ = some (.int .i64 s) ∧ w'.cell? ⟨cb, coff + iw * 8 + 4, none⟩ = some (.int .i64 l) ∧ w'.cell? ⟨cb, coff + iw * 8 + 5, none⟩ = some (.int .i64 e) ∧ w'.cell? ⟨cb, coff + iw * 8 + 6, none⟩ = some (.int .i64 o) ∧ w'.cell? ⟨cb, coff + iw * 8 + 7, none⟩ = some (.int .i64 t))) (first | assumption | exact S0 | (fail)) (first | (clear mq1; go_at_call 38; refine (specHeapOk_any Lx _ w4.heap.size wr.drew (by show _ ≤ wr.heap.size; omega) RH2.out.drew).mono ?_; rintro er wq ⟨he, hBq⟩; rw [HOX.out] at he; subst he; have hzq : wr.heap.size ≤ wq.heap.size := hBq.size; have RX3 := RX2.out.drew.below hBq (by show _ ≤ wr.heap.size; omega); obtain ⟨j0, j1⟩ := ((CX.out.below hBr (by omega)).drew.below hBq (by show _ ≤ wr.heap.size; omega)).cells; obtain ⟨cb2, coff2, e9, hcb2, r0, r1, r2, r3, r4, r5, r6, r7⟩ := RX3.cell iw hlx hd.out; cases e9; have S1 : (wq.cell? ⟨b5, 0, none⟩ = some (.slice Ax Lx.length Kx) ∧ wq.cell? ⟨b5, 1, none⟩ = some (.slice (some ⟨cb, coff, none⟩) Ex.length Mx) ∧ wq.cell? ⟨cb, coff + iw * 8, none⟩ = some (.int .i64 k) ∧ wq.cell? ⟨cb, coff + iw * 8 + 1, none⟩ = some (.int .i64 x) ∧ wq.cell? ⟨cb, coff + iw * 8 + 2, none⟩ = some (.int .i64 y) ∧ wq.cell? ⟨cb, coff + iw * 8 + 3, none⟩ = some (.int .i64 s) ∧ wq.cell? ⟨cb, coff + iw * 8 + 4, none⟩ = some (.int .i64 l) ∧ wq.cell? ⟨cb, coff + iw * 8 + 5, none⟩ = some (.int .i64 e) ∧ wq.cell? ⟨cb, coff + iw * 8 + 6, none⟩ = some (.int .i64 o) ∧ wq.cell? ⟨cb, coff + iw * 8 + 7, none⟩ = some (.int .i64 t)) := ⟨j0, j1, r0, r1, r2, r3, r4, r5, r6, r7⟩) | (clear mq2; go_at_call 39; refine (specHandOk_any Lx ⟨k, x, y, s, l, e, o, t⟩ _ w4.heap.size wq (by omega) (RH2.out.drew.below hBq (by show _ ≤ wr.heap.size; omega))).mono ?_; rintro er wp ⟨he, hBp⟩; rw [HBX.out] at he; subst he; have hzp : wq.heap.size ≤ wp.heap.size := hBp.size; have RX4 := RX3.below hBp (by omega); obtain ⟨t0, t1⟩ := (((CX.out.below hBr (by omega)).drew.below hBq (by show _ ≤ wr.heap.size; omega)).below hBp (by omega)).cells; obtain ⟨cb2, coff2, e9, hcb2, u0, u1, u2, u3, u4, u5, u6, u7⟩ := RX4.cell iw hlx hd.out; cases e9; have S2 : (wp.cell? ⟨b5, 0, none⟩ = some (.slice Ax Lx.length Kx) ∧ wp.cell? ⟨b5, 1, none⟩ = some (.slice (some ⟨cb, coff, none⟩) Ex.length Mx) ∧ wp.cell? ⟨cb, coff + iw * 8, none⟩ = some (.int .i64 k) ∧ wp.cell? ⟨cb, coff + iw * 8 + 1, none⟩ = some (.int .i64 x) ∧ wp.cell? ⟨cb, coff + iw * 8 + 2, none⟩ = some (.int .i64 y) ∧ wp.cell? ⟨cb, coff + iw * 8 + 3, none⟩ = some (.int .i64 s) ∧ wp.cell? ⟨cb, coff + iw * 8 + 4, none⟩ = some (.int .i64 l) ∧ wp.cell? ⟨cb, coff + iw * 8 + 5, none⟩ = some (.int .i64 e) ∧ wp.cell? ⟨cb, coff + iw * 8 + 6, none⟩ = some (.int .i64 o) ∧ wp.cell? ⟨cb, coff + iw * 8 + 7, none⟩ = some (.int .i64 t)) := ⟨t0, t1, u0, u1, u2, u3, u4, u5, u6, u7⟩) | (fail))
      go_wp2
      go_ret
      exact ⟨rfl, (((HB0.out.trans (hBr.mono (by omega))).drew).trans (hBq.mono (by show w.heap.size ≤ wr.heap.size; omega))).trans (hBp.mono (by omega))⟩
end Go.Proofs.Ythjkhghlhjndmaa.lawCr
