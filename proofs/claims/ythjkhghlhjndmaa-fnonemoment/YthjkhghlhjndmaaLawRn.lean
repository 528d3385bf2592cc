/- The walk of the law FnRan. -/
import Derived.Test.YthjkhghlhjndmaaDz4
import Derived.Test.YthjkhghlhjndmaaMg32
import Derived.Test.YthjkhghlhjndmaaMg22
import Derived.Test.YthjkhghlhjndmaaMg36
import Derived.Deep.DeepCutAuto
namespace Go.Proofs.Ythjkhghlhjndmaa.lawRn
open Go.ChangeShapes Go.WideShapes Go.ChangeAt Go.RowKit
open Go.Proofs.Ythjkhghlhjndmaa.ce Go.Proofs.Ythjkhghlhjndmaa.draw
set_option linter.unusedVariables false
/-- a crew in its variable b -/
structure Yv (w0 w : World) (b : Nat) (vH : Value) (H : List C) (vD : Value) (ds : List Hd) : Prop where
  cv : CV w b 31 vH vD
  heap : ce.Own w w0.heap.size w.heap.size vH H
  hands : OwnH w w0.heap.size w.heap.size vD ds
theorem Yv.below {w0 w w' : World} {b : Nat} {vH vD : Value} {H : List C} {ds : List Hd} (y : Yv w0 w b vH H vD ds) (hB : Below w.heap.size w w') : Yv w0 w' b vH H vD ds :=
  ⟨y.cv.below hB (by have := y.cv.lt; omega), (y.heap.below hB (Nat.le_refl _)).wide (Nat.le_refl _) hB.size, (y.hands.below hB (Nat.le_refl _)).wide (Nat.le_refl _) hB.size⟩
theorem Yv.drew {w0 w : World} {b : Nat} {vH vD : Value} {H : List C} {ds : List Hd} (y : Yv w0 w b vH H vD ds) : Yv w0 w.drew b vH H vD ds := y.below (Below.refl _ _).drew
/-- another crew is stored into it -/
theorem yv_stored {w0 w w' : World} {b lo : Nat} {vH vD : Value} {H : List C} {ds : List Hd} (oH : ce.Own w lo w.heap.size vH H) (oD : OwnH w lo w.heap.size vD ds) (hlo : w0.heap.size ≤ lo) {vs : List Value} (hb : VBlk w b 31 vs) (hO : Only b w w') (hV : VBlk w' b 31 [vH, vD]) : Yv w0 w' b vH H vD ds :=
  ⟨⟨hV⟩, (own_keepB oH fun k hk => hO.2.1 k (apart_hb oH hb k hk)).wide hlo (Nat.le_of_eq hO.1.symm), (oD.keepB fun k hk => hO.2.1 k (apart_db oD hb k hk)).wide hlo (Nat.le_of_eq hO.1.symm)⟩

theorem cell_only {b : Nat} {w w' : World} (h : Only b w w') {k o : Nat} (hk : k ≠ b) : w'.cell? ⟨k, o, none⟩ = w.cell? ⟨k, o, none⟩ := by
  simp only [World.cell?, h.2.1 k hk]
set_option maxRecDepth 100000 in
set_option maxHeartbeats 16000000 in
theorem walk (a0 : Option Addr) (len cap : Nat) (w : World) (hl : len ≤ 4096) (hcode0 : CodeAt w a0 len) :
    Calls Try.prog 10 #[.slice a0 len cap] w fun e w' => e = .returned (.bool true) ∧ Below w.heap.size w w' := by
  have hC : Hid (CodeAt w a0 len) := hcode0
  clear hcode0
  have hl' : ¬ (4096 : Int) < (len : Int) := by omega
  go_enter Try.func10, Try.ntmps10
  have mk1 : Hid True := trivial
  have mk2 : Hid True := trivial
  have mk3 : Hid True := trivial
  have mk4 : Hid True := trivial
  have mk5 : Hid True := trivial
  have mk6 : Hid True := trivial
  go_wp2_with (first | (go_at_call 33; go_in) | (clear mk1; go_at_call 40; refine (drawRan_any _ a0 len cap hC.out).mono ?_; rintro er w1 ⟨vcH, vcD, vQ, rfl, H, ds, qs, drc⟩; have hB1 := drc.bel; have ocH := drc.heap; have ocD := drc.hands; have oQ := drc.picks; have hl8 := drc.hl; have hq301 := drc.ql; have nc := ocD.nilOk; clear drc; have hz1 : w.heap.size ≤ w1.heap.size := hB1.size; have hB := hB1; have hzw := hB.size; obtain ⟨Ac, Kc, rfl⟩ := ocH.rd.form; obtain ⟨Dc, Mc, rfl⟩ := ocD.rd.form; obtain ⟨aQ, cQ, rfl⟩ := oQ.rd.form; obtain ⟨Lx, hLx⟩ := hid_ex (rnH H ds qs); obtain ⟨Ex, hEx⟩ := hid_ex (rnD H ds qs)) | (clear mk2; refine wpList_alloc_v rfl 31 rfl _ zeroCr ?_; intro b3 w2 hb3 hwb3 hB2 hVb3; have hz2 : w1.heap.size ≤ w2.heap.size := hB2.size; replace ocH := ocH.below hB2 (by omega); replace ocD := ocD.below hB2 (by omega); replace oQ := oQ.below hB2 (by omega); replace hB := hB.trans (hB2.mono (by omega)); replace hzw := hB.size) | (clear mk3; refine wpList_store_v rfl 31 _ _ rfl b3 [.slice Ac H.length Kc, .slice Dc ds.length Mc] rfl rfl sizeCr hVb3 rfl (by simp [Value.oneCell']) ?_; intro w3 hO3 hNb3; have hz3 : w2.heap.size ≤ w3.heap.size := (Nat.le_of_eq hO3.1.symm); replace ocH := ocH.keep (w' := w3) (fun k g1 g2 => hO3.2.1 k (by omega)); replace ocD := ocD.keep (w' := w3) (fun k g1 g2 => hO3.2.1 k (by omega)); replace oQ := oQ.keep (w' := w3) (fun k g1 g2 => hO3.2.1 k (by omega)); replace hB := hB.trans (hO3.2.2 _ (by omega)); replace hzw := hB.size; have cc : CV w3 b3 31 (.slice Ac H.length Kc) (.slice Dc ds.length Mc) := ⟨hNb3⟩; clear hVb3 hNb3; obtain ⟨cc0, cc1⟩ := cc.cells) | (clear mk4; go_at_call 28; refine (implRan_all H ds qs _ _ _ w1.heap.size _ (by omega) ocH.rd ocD.rd oQ.rd nc).mono ?_; rintro er w4 ⟨vxH, vxD, he, oxH, oxD, hB4⟩; have hz4 : w3.heap.size ≤ w4.heap.size := hB4.size; replace ocH := ocH.below hB4 (by omega); replace ocD := ocD.below hB4 (by omega); replace oQ := oQ.below hB4 (by omega); replace cc := cc.below hB4 (by omega); replace hB := hB.trans (hB4.mono (by omega)); replace hzw := hB.size; clear cc0 cc1; obtain ⟨cc0, cc1⟩ := cc.cells; subst he; rw [hLx.out] at oxH; rw [hEx.out] at oxD; obtain ⟨Ax, Kx, rfl⟩ := oxH.rd.form; obtain ⟨Dx, Mx, rfl⟩ := oxD.rd.form) | (clear mk5; refine wpList_alloc_v rfl 31 rfl _ zeroCr ?_; intro b5 w5 hb5 hwb5 hB5 hVb5; have hz5 : w4.heap.size ≤ w5.heap.size := hB5.size; replace ocH := ocH.below hB5 (by omega); replace ocD := ocD.below hB5 (by omega); replace oQ := oQ.below hB5 (by omega); replace oxH := oxH.below hB5 (by omega); replace oxD := oxD.below hB5 (by omega); replace cc := cc.below hB5 (by omega); replace hB := hB.trans (hB5.mono (by omega)); replace hzw := hB.size; clear cc0 cc1; obtain ⟨cc0, cc1⟩ := cc.cells) | (clear mk6; refine wpList_store_v rfl 31 _ _ rfl b5 [.slice Ax Lx.length Kx, .slice Dx Ex.length Mx] rfl rfl sizeCr hVb5 rfl (by simp [Value.oneCell']) ?_; intro w6 hO6 hNb5; have hz6 : w5.heap.size ≤ w6.heap.size := (Nat.le_of_eq hO6.1.symm); replace ocH := ocH.keep (w' := w6) (fun k g1 g2 => hO6.2.1 k (by omega)); replace ocD := ocD.keep (w' := w6) (fun k g1 g2 => hO6.2.1 k (by omega)); replace oQ := oQ.keep (w' := w6) (fun k g1 g2 => hO6.2.1 k (by omega)); replace oxH := oxH.keep (w' := w6) (fun k g1 g2 => hO6.2.1 k (by omega)); replace oxD := oxD.keep (w' := w6) (fun k g1 g2 => hO6.2.1 k (by omega)); replace cc := cc.keep (w' := w6) (fun k g1 g2 => hO6.2.1 k (by omega)); replace hB := hB.trans (hO6.2.2 _ (by omega)); replace hzw := hB.size; clear cc0 cc1; obtain ⟨cc0, cc1⟩ := cc.cells; have cx : CV w6 b5 31 (.slice Ax Lx.length Kx) (.slice Dx Ex.length Mx) := ⟨hNb5⟩; clear hVb5 hNb5; obtain ⟨cx0, cx1⟩ := cx.cells) | (fail))
  have hBd : Below w6.heap.size w6 w6.drew := (Below.refl _ _).drew
  have hzd : w6.drew.heap.size = w6.heap.size := rfl
  have S0 : (w6.drew.cell? ⟨b5, 0, none⟩ = some (.slice Ax Lx.length Kx) ∧ w6.drew.cell? ⟨b5, 1, none⟩ = some (.slice Dx Ex.length Mx) ∧ w6.drew.cell? ⟨b3, 0, none⟩ = some (.slice Ac H.length Kc) ∧ w6.drew.cell? ⟨b3, 1, none⟩ = some (.slice Dc ds.length Mc)) := ⟨cx0, cx1, cc0, cc1⟩
  have mk7 : Hid True := trivial
  have mk8 : Hid True := trivial
  go_region_held3 (fun w' => (w'.cell? ⟨b5, 0, none⟩ = some (.slice Ax Lx.length Kx) ∧ w'.cell? ⟨b5, 1, none⟩ = some (.slice Dx Ex.length Mx) ∧ w'.cell? ⟨b3, 0, none⟩ = some (.slice Ac H.length Kc) ∧ w'.cell? ⟨b3, 1, none⟩ = some (.slice Dc ds.length Mc))) (first | assumption | exact S0 | (fail)) (first | (clear mk7; go_at_call 26; have ocHd := ocH.below hBd (by omega); have ocDd := ocD.below hBd (by omega); have oQd := oQ.below hBd (by omega); have oxHd := oxH.below hBd (by omega); have oxDd := oxD.below hBd (by omega); refine (specRan_all H ds qs _ _ _ w1.heap.size w6.drew (by omega) ocHd.rd ocDd.rd oQd.rd nc).mono ?_; rintro er w7 ⟨vyH, vyD, he, oyH, oyD, hBe⟩; have hB7 : Below w6.heap.size w6 w7 := hBd.trans (hBe.mono (by omega)); subst he; rw [hLx.out] at oyH; rw [hEx.out] at oyD; obtain ⟨Ay, Ky, rfl⟩ := oyH.rd.form; obtain ⟨Dy, My, rfl⟩ := oyD.rd.form; have hz7 : w6.heap.size ≤ w7.heap.size := hB7.size; replace ocH := ocH.below hB7 (by omega); replace ocD := ocD.below hB7 (by omega); replace oQ := oQ.below hB7 (by omega); replace oxH := oxH.below hB7 (by omega); replace oxD := oxD.below hB7 (by omega); replace cc := cc.below hB7 (by omega); replace cx := cx.below hB7 (by omega); replace hB := hB.trans (hB7.mono (by omega)); replace hzw := hB.size; clear cc0 cc1; obtain ⟨cc0, cc1⟩ := cc.cells; clear cx0 cx1; obtain ⟨cx0, cx1⟩ := cx.cells; have S1 : (w7.cell? ⟨b5, 0, none⟩ = some (.slice Ax Lx.length Kx) ∧ w7.cell? ⟨b5, 1, none⟩ = some (.slice Dx Ex.length Mx) ∧ w7.cell? ⟨b3, 0, none⟩ = some (.slice Ac H.length Kc) ∧ w7.cell? ⟨b3, 1, none⟩ = some (.slice Dc ds.length Mc)) := ⟨cx0, cx1, cc0, cc1⟩) | (clear mk8; go_at_call 37; refine (likeCrew_any Lx Ex _ _ _ _ w4.heap.size w7.heap.size _ (by omega) (by omega) oxH.rd oxD.rd oyH.rd oyD.rd).mono ?_; rintro er w8 ⟨rfl, hB8⟩; have hz8 : w7.heap.size ≤ w8.heap.size := hB8.size; replace ocH := ocH.below hB8 (by omega); replace ocD := ocD.below hB8 (by omega); replace oQ := oQ.below hB8 (by omega); replace oxH := oxH.below hB8 (by omega); replace oxD := oxD.below hB8 (by omega); replace cc := cc.below hB8 (by omega); replace cx := cx.below hB8 (by omega); replace hB := hB.trans (hB8.mono (by omega)); replace hzw := hB.size; clear cc0 cc1; obtain ⟨cc0, cc1⟩ := cc.cells; clear cx0 cx1; obtain ⟨cx0, cx1⟩ := cx.cells; have S2 : (w8.cell? ⟨b5, 0, none⟩ = some (.slice Ax Lx.length Kx) ∧ w8.cell? ⟨b5, 1, none⟩ = some (.slice Dx Ex.length Mx) ∧ w8.cell? ⟨b3, 0, none⟩ = some (.slice Ac H.length Kc) ∧ w8.cell? ⟨b3, 1, none⟩ = some (.slice Dc ds.length Mc)) := ⟨cx0, cx1, cc0, cc1⟩) | (fail))
  clear S0 S1 S2 hBd hzd
  clear oyH oyD
  have hlq := oQ.rd.len
  by_cases hok : CrewOk H ds ∧ qs.length ≤ 300
  case neg =>
    have eL : Hid (Lx = []) := by unfold Hid; rw [← hLx.out]; unfold rnH; rw [if_neg hok]
    have eE : Hid (Ex = []) := by unfold Hid; rw [← hEx.out]; unfold rnD; rw [if_neg hok]
    by_cases hcr : CrewOk H ds
    · have KB : Hid (crewB H ds = true) := crewB_true hcr
      have hq : (300 : Int) < (qs.length : Int) := by
        have : ¬ qs.length ≤ 300 := fun q => hok ⟨hcr, q⟩
        omega
      clear hok hcr
      go_wp2_with (first | (go_at_call 12; refine (specCrewOk_any H ds _ _ w1.heap.size _ (by omega) ocH.rd ocD.rd).mono ?_; rintro er wK ⟨he, hBK⟩; rw [KB.out] at he; subst he; have hzK := hBK.size; replace ocH := ocH.below hBK (by omega); replace ocD := ocD.below hBK (by omega); replace oQ := oQ.below hBK (by omega); replace oxH := oxH.below hBK (by omega); replace oxD := oxD.below hBK (by omega); replace cc := cc.below hBK (by omega); replace cx := cx.below hBK (by omega); replace hB := hB.trans (hBK.mono (by omega)); replace hzw := hB.size; clear cc0 cc1 cx0 cx1; obtain ⟨cc0, cc1⟩ := cc.cells; obtain ⟨cx0, cx1⟩ := cx.cells) | (go_at_call 37; refine (likeCrew_any Lx Ex _ _ _ _ w4.heap.size 0 _ (by omega) (Nat.zero_le _) oxH.rd oxD.rd (by rw [eL.out]; exact (own_none _ 0 0).rd) (by rw [eE.out]; exact (ownH_none _ 0 0).rd)).mono ?_; rintro er wq ⟨rfl, hBq⟩) | (fail))
      go_ret
      exact ⟨rfl, hB.trans (hBq.mono (by omega))⟩
    · have KB : Hid (crewB H ds = false) := crewB_false hcr
      clear hok hcr
      go_wp2_with (first | (go_at_call 12; refine (specCrewOk_any H ds _ _ w1.heap.size _ (by omega) ocH.rd ocD.rd).mono ?_; rintro er wK ⟨he, hBK⟩; rw [KB.out] at he; subst he; have hzK := hBK.size; replace ocH := ocH.below hBK (by omega); replace ocD := ocD.below hBK (by omega); replace oQ := oQ.below hBK (by omega); replace oxH := oxH.below hBK (by omega); replace oxD := oxD.below hBK (by omega); replace cc := cc.below hBK (by omega); replace cx := cx.below hBK (by omega); replace hB := hB.trans (hBK.mono (by omega)); replace hzw := hB.size; clear cc0 cc1 cx0 cx1; obtain ⟨cc0, cc1⟩ := cc.cells; obtain ⟨cx0, cx1⟩ := cx.cells) | (go_at_call 37; refine (likeCrew_any Lx Ex _ _ _ _ w4.heap.size 0 _ (by omega) (Nat.zero_le _) oxH.rd oxD.rd (by rw [eL.out]; exact (own_none _ 0 0).rd) (by rw [eE.out]; exact (ownH_none _ 0 0).rd)).mono ?_; rintro er wq ⟨rfl, hBq⟩) | (fail))
      go_ret
      exact ⟨rfl, hB.trans (hBq.mono (by omega))⟩
  have KB : Hid (crewB H ds = true) := crewB_true hok.1
  have OK : Hid (CrewOk H ds) := hok.1
  have hq : ¬ ((300 : Int) < (qs.length : Int)) := by have := hok.2; omega
  have eL : Hid (Lx = (runP H ds qs).1) := by unfold Hid; rw [← hLx.out]; unfold rnH; rw [if_pos hok]
  have eE : Hid (Ex = (runP H ds qs).2) := by unfold Hid; rw [← hEx.out]; unfold rnD; rw [if_pos hok]
  have OKX : Hid (CrewOk Lx Ex) := by unfold Hid; rw [eL.out, eE.out]; exact crew_run _ _ _ OK.out
  clear hok
  go_wp2_with (first | (go_at_call 12; refine (specCrewOk_any H ds _ _ w1.heap.size _ (by omega) ocH.rd ocD.rd).mono ?_; rintro er wK ⟨he, hBK⟩; rw [KB.out] at he; subst he; have hzK := hBK.size; replace ocH := ocH.below hBK (by omega); replace ocD := ocD.below hBK (by omega); replace oQ := oQ.below hBK (by omega); replace oxH := oxH.below hBK (by omega); replace oxD := oxD.below hBK (by omega); replace cc := cc.below hBK (by omega); replace cx := cx.below hBK (by omega); replace hB := hB.trans (hBK.mono (by omega)); replace hzw := hB.size; clear cc0 cc1 cx0 cx1; obtain ⟨cc0, cc1⟩ := cc.cells; obtain ⟨cx0, cx1⟩ := cx.cells) | (refine wpList_alloc_v rfl 31 rfl _ zeroCr ?_; intro b6 wA hb6 hwA hBA hVA; have hzA := hBA.size) | (refine wpList_store_v rfl 31 _ _ rfl b6 [.slice Ac H.length Kc, .slice Dc ds.length Mc] rfl rfl sizeCr hVA rfl (by simp [Value.oneCell']) ?_; intro wB hOB hVB; have hzB := Nat.le_of_eq hOB.1.symm; have hyB := Nat.le_of_eq hOB.1) | (fail))
  have hBKB : Below wK.heap.size wK wB := hBA.trans (hOB.2.2 _ hb6)
  have yvB : Yv w wB b6 (.slice Ac H.length Kc) H (.slice Dc ds.length Mc) ds := ⟨⟨hVB⟩, ((ocH.below hBA (by omega)).keep fun j j1 j2 => hOB.2.1 j (by omega)).wide (by omega) (by omega), ((ocD.below hBA (by omega)).keep fun j j1 j2 => hOB.2.1 j (by omega)).wide (by omega) (by omega)⟩
  have RQ : Hid (RdI wK w1.heap.size (.slice aQ qs.length cQ) qs) := oQ.rd
  have OXH : Hid (ce.Own wK w3.heap.size w4.heap.size (.slice Ax Lx.length Kx) Lx) := oxH
  have OXD : Hid (OwnH wK w3.heap.size w4.heap.size (.slice Dx Ex.length Mx) Ex) := oxD
  have CX : Hid (CV wK b5 31 (.slice Ax Lx.length Kx) (.slice Dx Ex.length Mx)) := cx
  have HBK : Hid (Below w.heap.size w wK) := hB
  have lx := cx.lt
  have sq : w1.heap.size ≤ wK.heap.size ∧ w4.heap.size ≤ wK.heap.size ∧ w.heap.size ≤ wK.heap.size ∧ wK.heap.size ≤ b6 := by omega
  have HC : ∀ n, Hid (CrewOk (runP H ds (qs.take n)).1 (runP H ds (qs.take n)).2) := fun n => crew_run _ _ _ OK.out
  clear cc cc0 cc1 cx cx0 cx1 oQ oxH oxD ocH ocD hBA hVA hOB hVB hB hBK
  go_loopw [7] (fun v' wr => ∃ (i : Nat) (vH vD : Value), i ≤ qs.length ∧ v' = .int .i64 i ∧ Hid (Yv w wr b6 vH (runP H ds (qs.take i)).1 vD (runP H ds (qs.take i)).2) ∧ Below wK.heap.size wK wr) (fun v' _ => qs.length - (intOf v').toNat)
  case atStart => exact ⟨0, _, _, by omega, rfl, yvB, hBKB⟩
  case round =>
    obtain ⟨i, vH, vD, hi1, rfl, YV, hBr⟩ := hrel
    clear yvB hBKB
    have hbr := hBr.size
    obtain ⟨Z, hZ⟩ := hid_ex (runP H ds (qs.take i))
    have hCi := HC i
    rw [hZ.out] at YV hCi
    obtain ⟨yA, yK, rfl⟩ := YV.out.heap.rd.form
    obtain ⟨yD, yM, rfl⟩ := YV.out.hands.rd.form
    have b6w := YV.out.cv.lt
    by_cases hlt : i < qs.length
    · have hlt' : (i : Int) < (qs.length : Int) := by omega
      have HT : Hid (runP H ds (qs.take (i + 1)) = (pickHZ Z.1 Z.2 qs[i], pickDZ Z.1 Z.2 qs[i])) := by unfold Hid; rw [List.take_succ_eq_append_getElem hlt, runP_snoc, hZ.out]
      obtain ⟨q, hq9⟩ := hid_ex qs[i]
      rw [hq9.out] at HT
      obtain ⟨bq, oq, rfl, hbq, gq⟩ := (RQ.out.below hBr sq.1).cell i hlt
      rw [hq9.out] at gq
      obtain ⟨y0, y1⟩ := YV.out.cv.cells
      go_wp2
      refine wp_region_held_drew (S := fun w' => w'.cell? ⟨bq, oq + i, none⟩ = some (.int .i64 q)) (by kernel_rfl) gq (fun hHeld => ?_)
      refine takeW 1 47 (.slice (some ⟨bq, oq, none⟩) qs.length cQ) rfl (by kernel_rfl) (by kernel_rfl) (by kernel_rfl) (fun _ _ _ h => h) (by kernel_rfl) (fun w' hS => by go_simp) hHeld ?_
      go_frame
      refine takeW 2 48 (.int .i64 (i : Int)) rfl (by kernel_rfl) (by kernel_rfl) (by kernel_rfl) (fun _ _ _ h => h) (by kernel_rfl) (fun w' hS => by go_simp) hHeld ?_
      go_frame
      refine takeW 3 49 (.pointer (some ⟨bq, oq + i, none⟩)) rfl (by kernel_rfl) (by kernel_rfl) (by kernel_rfl) (fun _ _ _ h => h) (by kernel_rfl) (fun w' hS => by go_simp) hHeld ?_
      go_frame
      refine takeW 4 50 (.int .i64 q) rfl (by kernel_rfl) (by kernel_rfl) (by kernel_rfl) (fun _ _ _ h => h) (by kernel_rfl) (fun w' hS => by go_simp) hHeld ?_
      go_frame
      have yd := YV.out.drew
      obtain ⟨z0, z1⟩ := yd.cv.cells
      refine wpAnyH_ready (rs := [0]) (by kernel_rfl) (by simp) ?_
      refine AllReadyH.cons rfl (fun K hK => ?_) AllReadyH.nil
      go_simp
      refine hK.out _ _ gq (fun _ => ?_)
      try go_frame
      refine wpAnyH_ready (rs := [5]) (by kernel_rfl) (by simp) ?_
      refine AllReadyH.cons rfl (fun K2 hK2 => ?_) AllReadyH.nil
      go_simp
      go_at_call 25
      refine (implPicked_any Z.1 Z.2 _ _ wr.heap.size wr.drew (Nat.le_refl _) yd.heap.rd yd.hands.rd q hCi.out).mono ?_
      rintro er w2 ⟨vH2, vD2, rfl, oH2, oD2, hB2⟩
      have hz2 : wr.heap.size ≤ w2.heap.size := hB2.size
      obtain ⟨y2, k2, rfl⟩ := oH2.rd.form
      obtain ⟨d2, m2, rfl⟩ := oD2.rd.form
      obtain ⟨P1, hP1⟩ := hid_ex (pickHZ Z.1 Z.2 q)
      obtain ⟨P2, hP2⟩ := hid_ex (pickDZ Z.1 Z.2 q)
      obtain ⟨P3, hP3⟩ := hid_ex (pickBZ Z.2 q)
      rw [hP1.out] at oH2 ⊢
      rw [hP2.out] at oD2 ⊢
      rw [hP3.out]
      have g2 : w2.cell? ⟨bq, oq + i, none⟩ = some (.int .i64 q) := by rw [hB2.cell (by show bq < wr.heap.size; omega)]; exact gq
      refine hK2.out _ _ g2 (fun _ => ?_)
      try go_frame
      refine takeW 6 45 (.tuple #[.agg #[.slice y2 P1.length k2, .slice d2 P2.length m2], .bool P3]) rfl (by kernel_rfl) (by kernel_rfl) (by kernel_rfl) (fun _ _ _ h => h) (by kernel_rfl) (fun w' hS => by go_simp) g2 ?_
      go_frame
      refine takeW 7 52 (.agg #[.slice y2 P1.length k2, .slice d2 P2.length m2]) rfl (by kernel_rfl) (by kernel_rfl) (by kernel_rfl) (fun _ _ _ h => h) (by kernel_rfl) (fun w' hS => by go_simp) g2 ?_
      go_frame
      refine takeW 8 53 (.bool P3) rfl (by kernel_rfl) (by kernel_rfl) (by kernel_rfl) (fun _ _ _ h => h) (by kernel_rfl) (fun w' hS => by go_simp) g2 ?_
      go_frame
      have v2 : VBlk w2 b6 31 [.slice yA Z.1.length yK, .slice yD Z.2.length yM] := YV.out.cv.blk.of (hB2.block b6 b6w)
      refine wpAnyH_ready (rs := [9]) (by kernel_rfl) (by simp) ?_
      refine AllReadyH.cons rfl (fun K4 hK4 => ?_) AllReadyH.nil
      refine step_store_v rfl 31 _ _ rfl b6 [.slice y2 P1.length k2, .slice d2 P2.length m2] rfl rfl sizeCr v2 rfl (by simp [Value.oneCell']) ?_
      intro w3 hO3 hV3
      have y3 : Yv w w3 b6 (.slice y2 P1.length k2) P1 (.slice d2 P2.length m2) P2 := yv_stored oH2 oD2 (by show w.heap.size ≤ wr.heap.size; omega) v2 hO3 hV3
      have g3 : w3.cell? ⟨bq, oq + i, none⟩ = some (.int .i64 q) := by rw [(hO3.2.2 w2.heap.size |> fun _ => cell_only hO3 (by omega))]; exact g2
      refine hK4.out _ _ g3 (fun _ => ?_)
      refine wpAnyH_done (by kernel_rfl) ?_ _
      have Y3 : Hid (Yv w w3 b6 (.slice y2 P1.length k2) (runP H ds (qs.take (i + 1))).1 (.slice d2 P2.length m2) (runP H ds (qs.take (i + 1))).2) := by unfold Hid; rw [HT.out, hP1.out, hP2.out]; exact y3
      have hB3 : Below wK.heap.size wK w3 := ((hBr.drew).trans (hB2.mono (by show wK.heap.size ≤ wr.heap.size; omega))).trans (hO3.2.2 _ (by omega))
      go_wp2
      go_roundw
      case rel => exact ⟨i + 1, _, _, by omega, by go_num, Y3, hB3⟩
      case measure => simp [intOf]; omega
    · have hlt' : ¬ ((i : Int) < (qs.length : Int)) := by omega
      have en : i = qs.length := by omega
      subst en
      rw [List.take_length] at hZ
      have eZ1 : Hid (Z.1 = Lx) := by unfold Hid; rw [eL.out, hZ.out]
      have eZ2 : Hid (Z.2 = Ex) := by unfold Hid; rw [eE.out, hZ.out]
      obtain ⟨y0, y1⟩ := YV.out.cv.cells
      have cx := CX.out.below hBr (by omega)
      obtain ⟨cx0, cx1⟩ := cx.cells
      have oxH := OXH.out.below hBr sq.2.1
      have oxD := OXD.out.below hBr sq.2.1
      have hBw := HBK.out.trans (hBr.mono sq.2.2.1)
      go_wp2_with (first | (go_at_call 37; refine (likeCrew_any Lx Ex _ _ _ _ w4.heap.size wr.heap.size _ (by omega) (Nat.le_refl _) oxH.rd oxD.rd (by rw [← eZ1.out]; exact YV.out.heap.rd) (by rw [← eZ2.out]; exact YV.out.hands.rd)).mono ?_; rintro er wq ⟨rfl, hBq⟩; have hzq := hBq.size; replace cx := cx.below hBq (by omega); clear cx0 cx1; obtain ⟨cx0, cx1⟩ := cx.cells; replace hBw := hBw.trans (hBq.mono (by omega))) | (fail))
      have OXH2 : Hid (ce.Own wq w.heap.size wq.heap.size (.slice Ax Lx.length Kx) Lx) := ((oxH.below hBq (by omega)).wide (by omega) (by omega))
      have OXD2 : Hid (OwnH wq w.heap.size wq.heap.size (.slice Dx Ex.length Mx) Ex) := ((oxD.below hBq (by omega)).wide (by omega) (by omega))
      have CX2 : Hid (CV wq b5 31 (.slice Ax Lx.length Kx) (.slice Dx Ex.length Mx)) := cx
      have HBQ : Hid (Below w.heap.size w wq) := hBw
      have hlE : Ex.length ≤ 4 := OKX.out.le
      have sw : w.heap.size ≤ wq.heap.size := by omega
      have lx2 := cx.lt
      clear oxH oxD cx cx0 cx1 hBw hBq YV y0 y1 eZ1 eZ2 hZ hBr
      go_loopw [8] (fun v' wi => ∃ i : Nat, i ≤ Ex.length ∧ v' = .int .i64 i ∧ Below wq.heap.size wq wi) (fun v' _ => Ex.length - (intOf v').toNat)
      case atStart => exact ⟨0, by omega, rfl, Below.refl _ _⟩
      case round =>
        obtain ⟨i, hi2, rfl, hBi⟩ := hrel
        rename World => wi
        have hzi := hBi.size
        have cxi := CX2.out.below hBi (by omega)
        obtain ⟨cx0, cx1⟩ := cxi.cells
        by_cases hlt2 : i < Ex.length
        · have hlt2' : (i : Int) < (Ex.length : Int) := by omega
          go_wp2_with (first | (refine wpList_alloc_v rfl 31 rfl _ zeroCr ?_; intro b9 wC hb9 hwC hBC hVC; have hzC := hBC.size) | (refine wpList_store_v rfl 31 _ _ rfl b9 [.slice Ax Lx.length Kx, .slice Dx Ex.length Mx] rfl rfl sizeCr hVC rfl (by simp [Value.oneCell']) ?_; intro wD hOD hVD; have hzD := Nat.le_of_eq hOD.1.symm; have hyD := Nat.le_of_eq hOD.1) | (fail))
          have hBD : Below wi.heap.size wi wD := hBC.trans (hOD.2.2 _ hb9)
          have yvD : Hid (Yv w wD b9 (.slice Ax Lx.length Kx) Lx (.slice Dx Ex.length Mx) Ex) := ⟨⟨hVD⟩, ((OXH2.out.below hBi (Nat.le_refl _)).below hBD (by omega)).wide (Nat.le_refl _) (by omega), ((OXD2.out.below hBi (Nat.le_refl _)).below hBD (by omega)).wide (Nat.le_refl _) (by omega)⟩
          have E0 : Hid (∃ h : i < Ex.length, ce.Ends (300 - 0) Lx Ex[i]) := ⟨hlt2, ends_300 OKX.out.heap (OKX.out.hands _ (List.getElem_mem hlt2))⟩
          have hb9' : wi.heap.size ≤ b9 := hb9
          clear cx0 cx1 hVC hOD hVD hBC
          go_loopw [10] (fun v' ws => ∃ (n : Nat) (vH vD : Value) (HH : List C) (DD : List Hd), n ≤ 300 ∧ v' = .int .i64 n ∧ Hid (Yv w ws b9 vH HH vD DD) ∧ Hid (CrewOk HH DD) ∧ Hid (DD.length = Ex.length) ∧ Hid (∃ h : i < DD.length, ce.Ends (300 - n) HH DD[i]) ∧ Below wi.heap.size wi ws) (fun v' _ => 300 - (intOf v').toNat)
          case atStart => exact ⟨0, _, _, Lx, Ex, by omega, rfl, yvD, OKX, rfl, E0, hBD⟩
          case round =>
            obtain ⟨n, vH, vD, HH, DD, hn, rfl, YV, OKD, hLD, HE, hBs⟩ := hrel
            rename World => ws
            clear yvD E0 hBD
            have hzs := hBs.size
            obtain ⟨hid, hE⟩ := HE.out
            have hid' : (i : Int) < (DD.length : Int) := by omega
            have hl4 : DD.length ≤ 4 := OKD.out.le
            obtain ⟨yA, yK, rfl⟩ := YV.out.heap.rd.form
            obtain ⟨yD, yM, rfl⟩ := YV.out.hands.rd.form
            obtain ⟨d, hd⟩ := hid_ex (DD[i])
            rw [hd.out] at hE
            have HE2 : Hid (ce.Ends (300 - n) HH d) := hE
            obtain ⟨k, x, y, s, l, e, o, t⟩ := d
            obtain ⟨cb, coff, rfl, hcb, d0, d1, d2, d3, d4, d5, d6, d7⟩ := YV.out.hands.rd.cell i hid hd.out
            obtain ⟨y0, y1⟩ := YV.out.cv.cells
            have b9w := YV.out.cv.lt
            have okd : OkH HH ⟨k, x, y, s, l, e, o, t⟩ := by rw [← hd.out]; exact OKD.out.hands _ (List.getElem_mem hid)
            have OKK : Hid (OkH HH ⟨k, x, y, s, l, e, o, t⟩) := okd
            clear hE okd d0 d1 d2 d4 d5 d6 d7 HE
            by_cases h5 : s = 5
            · have g5 : (s != 5) = false := by simp [h5]
              clear h5
              by_cases hn3 : n < 300
              · have hn3' : (n : Int) < 300 := by omega
                go_wp2
                go_roundw
                case rel => exact ⟨i + 1, by omega, by go_num, hBi.trans (hBs.mono (by omega))⟩
                case measure => simp [intOf]; omega
              · have hn3' : ¬ ((n : Int) < 300) := by omega
                go_wp2
                go_roundw
                case rel => exact ⟨i + 1, by omega, by go_num, hBi.trans (hBs.mono (by omega))⟩
                case measure => simp [intOf]; omega
            · have g5 : (s != 5) = true := by simp [h5]
              have hn3 : n < 300 := Decidable.byContradiction fun q => by
                have e0 : 300 - n = 0 := by omega
                have := HE2.out
                rw [e0] at this
                exact h5 this
              have hn3' : (n : Int) < 300 := by omega
              have EN : Hid (ce.Ends (300 - (n + 1)) (ce.move HH ⟨k, x, y, s, l, e, o, t⟩).1 (ce.move HH ⟨k, x, y, s, l, e, o, t⟩).2) := by
                have := HE2.out
                rw [show 300 - n = (300 - (n + 1)) + 1 by omega] at this
                exact ends_next this h5
              have hpz : 0 ≤ (i : Int) ∧ (i : Int) < (DD.length : Int) := by omega
              have pH : Hid (pickHZ HH DD (i : Int) = (ce.move HH ⟨k, x, y, s, l, e, o, t⟩).1) := by unfold Hid pickHZ; rw [dif_pos hpz]; simp only [Int.toNat_natCast]; unfold pickH; rw [if_neg (by rw [hd.out]; exact h5), hd.out]
              have pD : Hid (pickDZ HH DD (i : Int) = DD.set i (ce.move HH ⟨k, x, y, s, l, e, o, t⟩).2) := by unfold Hid pickDZ; rw [dif_pos hpz]; simp only [Int.toNat_natCast]; unfold pickD; rw [if_neg (by rw [hd.out]; exact h5), hd.out]
              have OK2 : Hid (CrewOk (pickHZ HH DD (i : Int)) (pickDZ HH DD (i : Int))) := crew_pickZ OKD.out _
              obtain ⟨P3, hP3⟩ := hid_ex (pickBZ DD (i : Int))
              obtain ⟨P1, hP1⟩ := hid_ex (pickHZ HH DD (i : Int))
              obtain ⟨P2, hP2⟩ := hid_ex (pickDZ HH DD (i : Int))
              rw [hP1.out] at pH OK2
              rw [hP2.out] at pD OK2
              have LD : Hid (P2.length = Ex.length) := by unfold Hid; rw [pD.out, List.length_set]; exact hLD.out
              have EE : Hid (∃ h : i < P2.length, ce.Ends (300 - (n + 1)) P1 P2[i]) := by
                refine ⟨by rw [LD.out]; exact hlt2, ?_⟩
                have e1 := pD.out
                have e2 := pH.out
                subst e1 e2
                rw [List.getElem_set_self]
                exact EN.out
              clear h5 hpz
              go_wp2_with (first | (go_at_call 25; refine (implPicked_any HH DD _ _ ws.heap.size ws (Nat.le_refl _) YV.out.heap.rd YV.out.hands.rd _ OKD.out).mono ?_; rintro er w2 ⟨vH2, vD2, he, oH2, oD2, hB2⟩; rw [hP3.out] at he; subst he; rw [hP1.out] at oH2; rw [hP2.out] at oD2; have hz2 := hB2.size; obtain ⟨y2, k2, rfl⟩ := oH2.rd.form; obtain ⟨e2, m2, rfl⟩ := oD2.rd.form; have v2 := YV.out.cv.blk.of (hB2.block b9 b9w)) | (refine wpList_store_v rfl 31 _ _ rfl b9 [.slice y2 P1.length k2, .slice e2 P2.length m2] rfl rfl sizeCr v2 rfl (by simp [Value.oneCell']) ?_; intro w3' hO3 hV3) | (fail))
              have y3 : Hid (Yv w w3' b9 (.slice y2 P1.length k2) P1 (.slice e2 P2.length m2) P2) := yv_stored oH2 oD2 (by omega) v2 hO3 hV3
              go_roundw
              case rel => exact ⟨n + 1, _, _, P1, P2, by omega, by go_num, y3, OK2, LD, EE, (hBs.trans (hB2.mono (by omega))).trans (hO3.2.2 _ hb9')⟩
              case measure => simp [intOf]; omega
        · have hlt2' : ¬ ((i : Int) < (Ex.length : Int)) := by omega
          go_wp2
          go_ret
          exact ⟨rfl, HBQ.out.trans (hBi.mono (by omega))⟩
end Go.Proofs.Ythjkhghlhjndmaa.lawRn
