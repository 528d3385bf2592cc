/- The walk of the law FnAlone. -/
import Derived.Test.YtodpbghkjnlfdaaMg34
import Derived.Test.YtodpbghkjnlfdaaMg21
import Derived.Test.YtodpbghkjnlfdaaMg19
import Derived.Test.YtodpbghkjnlfdaaMg35
import Derived.Test.YtodpbghkjnlfdaaMg05
import Derived.Test.YtodpbghkjnlfdaaPl12
import Derived.Deep.DeepCutAuto
import Derived.Deep.RegionHeld3
namespace Go.Proofs.Ytodpbghkjnlfdaa.lawAl
open Go.ChangeShapes Go.WideShapes Go.ChangeAt Go.RowKit
open Go.Proofs.Ytodpbghkjnlfdaa.ce Go.Proofs.Ytodpbghkjnlfdaa.draw
set_option linter.unusedVariables false

theorem alone_no {H L : List C} {d D : Hd} (h : handB H d = false) (e : aloneP H d = (L, D)) : L = [] := by
  unfold aloneP at e
  rw [if_neg (by rw [h]; simp)] at e
  cases e
  rfl
theorem alone_yes {H L : List C} {d D : Hd} (h : handB H d = true) (e : aloneP H d = (L, D)) : heapOk H ∧ heapOk L ∧ OkH H d ∧ OkH L D ∧ D.step = 5 ∧ (d.step = 0 → d.own = -1 → H.length < 40 → Says H d (L, D)) := by
  unfold aloneP at e
  rw [if_pos h] at e
  obtain ⟨h1, h2⟩ := handB_iff.1 h
  have hk := alone_keeps 400 h1 h2
  have he : (alone 400 H d).2.step = 5 := ends_all h1 h2
  rw [e] at hk he
  refine ⟨h1, hk.1, h2, hk.2.1, he, fun a b c => ?_⟩
  have := alone_says h1 h2 a b c
  rw [e] at this
  exact this

set_option maxRecDepth 100000 in
set_option maxHeartbeats 16000000 in
theorem walk (a0 : Option Addr) (len cap : Nat) (w : World) (hl : len ≤ 4096) (hcode0 : CodeAt w a0 len) :
    Calls Try.prog 8 #[.slice a0 len cap] w fun e w' => e = .returned (.bool true) ∧ Below w.heap.size w w' := by
  have hC : Hid (CodeAt w a0 len) := hcode0
  clear hcode0
  have hl' : ¬ (4096 : Int) < (len : Int) := by omega
  have hB : Below w.heap.size w w := Below.refl _ _
  have hzw : w.heap.size ≤ w.heap.size := Nat.le_refl _
  have ma1 : Hid True := trivial
  have ma2 : Hid True := trivial
  have ma3 : Hid True := trivial
  have ma4 : Hid True := trivial
  have ma5 : Hid True := trivial
  have ma6 : Hid True := trivial
  have ma7 : Hid True := trivial
  have ma8 : Hid True := trivial
  have ma9 : Hid True := trivial
  have ma10 : Hid True := trivial
  have ma11 : Hid True := trivial
  go_enter Try.func8, Try.ntmps8
  go_upto_if 44 with (first | (go_at_call 24; go_in) | (clear ma1; go_at_call 32; refine (drawAlone_any _ a0 len cap hC.out).mono ?_; rintro er w1 ⟨vh, d, rfl, H, dh1⟩; have hB1 := dh1.bel; have oh := dh1.own; have hHl := dh1.len; obtain ⟨k, x, y, s, l, e, o, t⟩ := d; dsimp only [hv]; obtain ⟨⟨L, ⟨k9, x9, y9, s9, l9, e9, o9, t9⟩⟩, E7⟩ := hid_ex (aloneP H ⟨k, x, y, s, l, e, o, t⟩); obtain ⟨yb, hyb⟩ := hid_ex (handB H ⟨k, x, y, s, l, e, o, t⟩); clear dh1; have hz1 : w.heap.size ≤ w1.heap.size := hB1.size; replace hB := hB.trans (hB1.mono (by omega)); replace hzw := hB.size) | (clear ma2; refine wpList_alloc_v rfl 29 rfl _ zeroH ?_; intro b4 w2 hb4 hw4 hB2 hVz; have hz2 : w1.heap.size ≤ w2.heap.size := hB2.size; replace oh := oh.below hB2 (by omega); replace hB := hB.trans (hB2.mono (by omega)); replace hzw := hB.size; have h4 : HB w2 b4 ⟨0, 0, 0, 0, 0, 0, 0, 0⟩ := ⟨hVz⟩; clear hVz) | (clear ma3; refine wpList_store_v rfl 29 _ _ rfl b4 (hv ⟨k, x, y, s, l, e, o, t⟩) rfl rfl sizeH h4.blk rfl (hv_one _) ?_; intro w3 hO3 hVs; have hz3 : w2.heap.size ≤ w3.heap.size := (Nat.le_of_eq hO3.1.symm); replace oh := oh.keep (w' := w3) (fun k g1 g2 => hO3.2.1 k (by omega)); replace hB := hB.trans (hO3.2.2 _ (by omega)); replace hzw := hB.size; replace h4 : HB w3 b4 ⟨k, x, y, s, l, e, o, t⟩ := ⟨hVs⟩; clear hVs; obtain ⟨ca0, ca1, ca2, ca3, ca4, ca5, ca6, ca7⟩ := h4.cells) | (clear ma4; go_at_call 23; refine (implAlone_any H ⟨k, x, y, s, l, e, o, t⟩ _ w1.heap.size _ (by omega) oh.rd).mono ?_; rintro er w4 ⟨vx, he, ox, hB4⟩; rw [E7.out] at he ox; subst he; dsimp only [hv]; clear ca0 ca1 ca2 ca3 ca4 ca5 ca6 ca7; have hz4 : w3.heap.size ≤ w4.heap.size := hB4.size; replace oh := oh.below hB4 (by omega); replace h4 := h4.below hB4 (by omega); replace hB := hB.trans (hB4.mono (by omega)); replace hzw := hB.size) | (clear ma5; refine wpList_alloc_v rfl 29 rfl _ zeroH ?_; intro b6 w5 hb6 hw6 hB5 hVz; have hz5 : w4.heap.size ≤ w5.heap.size := hB5.size; replace oh := oh.below hB5 (by omega); replace h4 := h4.below hB5 (by omega); replace ox := ox.below hB5 (by omega); replace hB := hB.trans (hB5.mono (by omega)); replace hzw := hB.size; have h6 : HB w5 b6 ⟨0, 0, 0, 0, 0, 0, 0, 0⟩ := ⟨hVz⟩; clear hVz) | (clear ma6; refine wpList_store_v rfl 29 _ _ rfl b6 (hv ⟨k9, x9, y9, s9, l9, e9, o9, t9⟩) rfl rfl sizeH h6.blk rfl (hv_one _) ?_; intro w6 hO6 hVs; have hz6 : w5.heap.size ≤ w6.heap.size := (Nat.le_of_eq hO6.1.symm); replace oh := oh.keep (w' := w6) (fun k g1 g2 => hO6.2.1 k (by omega)); replace h4 := h4.keep (w' := w6) (fun k g1 g2 => hO6.2.1 k (by omega)); replace ox := ox.keep (w' := w6) (fun k g1 g2 => hO6.2.1 k (by omega)); replace hB := hB.trans (hO6.2.2 _ (by omega)); replace hzw := hB.size; replace h6 : HB w6 b6 ⟨k9, x9, y9, s9, l9, e9, o9, t9⟩ := ⟨hVs⟩; clear hVs; obtain ⟨cb0, cb1, cb2, cb3, cb4, cb5, cb6, cb7⟩ := h4.cells) | (clear ma7; go_at_call 22; refine (specAlone_any H ⟨k, x, y, s, l, e, o, t⟩ _ w1.heap.size _ (by omega) oh.rd).mono ?_; rintro er w7 ⟨vu, he, ou, hB7⟩; rw [E7.out] at he ou; subst he; dsimp only [hv]; clear cb0 cb1 cb2 cb3 cb4 cb5 cb6 cb7; have hz7 : w6.heap.size ≤ w7.heap.size := hB7.size; replace oh := oh.below hB7 (by omega); replace h4 := h4.below hB7 (by omega); replace ox := ox.below hB7 (by omega); replace h6 := h6.below hB7 (by omega); replace hB := hB.trans (hB7.mono (by omega)); replace hzw := hB.size) | (clear ma8; refine wpList_alloc_v rfl 29 rfl _ zeroH ?_; intro b8 w8 hb8 hw8 hB8 hVz; have hz8 : w7.heap.size ≤ w8.heap.size := hB8.size; replace oh := oh.below hB8 (by omega); replace h4 := h4.below hB8 (by omega); replace ox := ox.below hB8 (by omega); replace h6 := h6.below hB8 (by omega); replace ou := ou.below hB8 (by omega); replace hB := hB.trans (hB8.mono (by omega)); replace hzw := hB.size; have h8 : HB w8 b8 ⟨0, 0, 0, 0, 0, 0, 0, 0⟩ := ⟨hVz⟩; clear hVz) | (clear ma9; refine wpList_store_v rfl 29 _ _ rfl b8 (hv ⟨k9, x9, y9, s9, l9, e9, o9, t9⟩) rfl rfl sizeH h8.blk rfl (hv_one _) ?_; intro w9 hO9 hVs; have hz9 : w8.heap.size ≤ w9.heap.size := (Nat.le_of_eq hO9.1.symm); replace oh := oh.keep (w' := w9) (fun k g1 g2 => hO9.2.1 k (by omega)); replace h4 := h4.keep (w' := w9) (fun k g1 g2 => hO9.2.1 k (by omega)); replace ox := ox.keep (w' := w9) (fun k g1 g2 => hO9.2.1 k (by omega)); replace h6 := h6.keep (w' := w9) (fun k g1 g2 => hO9.2.1 k (by omega)); replace ou := ou.keep (w' := w9) (fun k g1 g2 => hO9.2.1 k (by omega)); replace hB := hB.trans (hO9.2.2 _ (by omega)); replace hzw := hB.size; replace h8 : HB w9 b8 ⟨k9, x9, y9, s9, l9, e9, o9, t9⟩ := ⟨hVs⟩; clear hVs) | (clear ma10; go_at_call 27; refine (likeHeap_any L _ _ w4.heap.size w7.heap.size _ (by omega) (by omega) ox.rd ou.rd).mono ?_; rintro er w10 ⟨rfl, hB10⟩; have hz10 : w9.heap.size ≤ w10.heap.size := hB10.size; replace oh := oh.below hB10 (by omega); replace h4 := h4.below hB10 (by omega); replace ox := ox.below hB10 (by omega); replace h6 := h6.below hB10 (by omega); replace ou := ou.below hB10 (by omega); replace h8 := h8.below hB10 (by omega); replace hB := hB.trans (hB10.mono (by omega)); replace hzw := hB.size; obtain ⟨cc0, cc1, cc2, cc3, cc4, cc5, cc6, cc7⟩ := h6.cells; obtain ⟨cd0, cd1, cd2, cd3, cd4, cd5, cd6, cd7⟩ := h8.cells; obtain ⟨ce0, ce1, ce2, ce3, ce4, ce5, ce6, ce7⟩ := h4.cells; obtain ⟨vxa, vxc, rfl⟩ := ox.rd.form; obtain ⟨vha, vhc, rfl⟩ := oh.rd.form) | (clear ma11; go_at_call 10; refine (specHandOk_any H ⟨k, x, y, s, l, e, o, t⟩ _ w1.heap.size _ (by omega) oh.rd).mono ?_; rintro er w11 ⟨he, hB11⟩; rw [hyb.out] at he; subst he; have hz11 : w10.heap.size ≤ w11.heap.size := hB11.size; replace oh := oh.below hB11 (by omega); replace h4 := h4.below hB11 (by omega); replace ox := ox.below hB11 (by omega); replace h6 := h6.below hB11 (by omega); replace ou := ou.below hB11 (by omega); replace h8 := h8.below hB11 (by omega); replace hB := hB.trans (hB11.mono (by omega)); replace hzw := hB.size; clear cc0 cc1 cc2 cc3 cc4 cc5 cc6 cc7 cd0 cd1 cd2 cd3 cd4 cd5 cd6 cd7 ce0 ce1 ce2 ce3 ce4 ce5 ce6 ce7; obtain ⟨cc0, cc1, cc2, cc3, cc4, cc5, cc6, cc7⟩ := h6.cells; obtain ⟨ce0, ce1, ce2, ce3, ce4, ce5, ce6, ce7⟩ := h4.cells) | (fail))
  cases yb with
  | false =>
    have e9 := alone_no hyb.out E7.out
    subst e9
    clear E7
    go_wp2
    go_ret
    exact ⟨rfl, hB⟩
  | true =>
    obtain ⟨hok, hokL, ok, okL, h5, says⟩ := alone_yes hyb.out E7.out
    have h5' : s9 = 5 := h5
    have ht9 : t9 ≠ 0 := okL.told.1.1 h5
    have ht2 := okL.told.2
    have hkd := ok.kind
    simp only [] at ht9 ht2 hkd says
    have g1 : (s9 != 5) = false := by simp [h5']
    have g2 : (t9 == 0) = false := by simpa using ht9
    have SY : Hid (s = 0 → o = -1 → H.length < 40 → Says H ⟨k, x, y, s, l, e, o, t⟩ (L, ⟨k9, x9, y9, s9, l9, e9, o9, t9⟩)) := says
    have eH : Hid (livingL H = living H) := if_pos hok
    have eL : Hid (livingL L = living L) := if_pos hokL
    have eV : Hid (valueL L x = valueAt L x) := if_pos hokL
    have OK : Hid (OkH H ⟨k, x, y, s, l, e, o, t⟩) := ok
    clear says hok hokL ok okL h5 E7 h5'
    by_cases c1 : s = 0
    case neg =>
      have g3 : (s != 0) = true := by simp [c1]
      go_wp2
      go_ret
      exact ⟨rfl, hB⟩
    have g3 : (s != 0) = false := by simp [c1]
    by_cases c2 : o ≥ 0
    · have g4 : decide (o ≥ 0) = true := decide_eq_true c2
      go_wp2
      go_ret
      exact ⟨rfl, hB⟩
    have g4 : decide (o ≥ 0) = false := decide_eq_false c2
    by_cases c3 : H.length = 40
    · have g5 : ((H.length : Int) == 40) = true := by simp [c3]
      go_wp2
      go_ret
      exact ⟨rfl, hB⟩
    have g5 : ((H.length : Int) == 40) = false := by rw [beq_eq_false_iff_ne]; omega
    have ho1 : o = -1 := by
      rcases OK.out.own with z | z
      · exact z
      · have := z.2.1.1; simp only [] at this; omega
    have sy := SY.out c1 ho1 (by omega)
    have SY2 : Hid (Says H ⟨k, x, y, s, l, e, o, t⟩ (L, ⟨k9, x9, y9, s9, l9, e9, o9, t9⟩)) := sy
    clear sy SY OK c1 c2 c3 ho1
    go_upto_region 14 with (fail)
    have S0 : w11.drew.cell? ⟨b4, 1, none⟩ = some (.int .i64 x) := ce1
    obtain ⟨yt, hyt⟩ := hid_ex (decide (x ∈ living H))
    obtain ⟨yn, hyn⟩ := hid_ex (decide (x ∈ living L))
    obtain ⟨yv, hyv⟩ := hid_ex (valueAt L x).1
    go_region_held3 (fun w' => w'.cell? ⟨b4, 1, none⟩ = some (.int .i64 x)) (first | assumption | exact S0 | (fail)) (first | (go_at_call 29; refine (specLiving_any H _ w1.heap.size w11.drew (by show w1.heap.size ≤ w11.heap.size; omega) oh.rd.drew).mono ?_; rintro er wa ⟨vl1, rfl, ol1, hBa⟩; rw [eH.out] at ol1; have hza : w11.heap.size ≤ wa.heap.size := hBa.size; have h4a := h4.drew.below (w' := wa) hBa (by show b4 + 1 ≤ w11.heap.size; omega); have Sa := h4a.cells.2.1) | (go_at_call 30; refine (hasInt_any (living H) x _ wa.heap.size _ ol1.rd).mono ?_; rintro er wq ⟨he, hq⟩; subst wq; rw [hyt.out] at he; subst he) | (fail))
    have hBx : Below w.heap.size w wa := hB.drew.trans (hBa.mono (by show w.heap.size ≤ w11.heap.size; omega))
    have oxa : ce.Own wa w3.heap.size w4.heap.size (.slice vxa L.length vxc) L := ox.keep (w' := wa) (fun k g1 g2 => hBa.block k (by show k < w11.heap.size; omega))
    have h6a : HB wa b6 ⟨k9, x9, y9, s9, l9, e9, o9, t9⟩ := h6.drew.below (w' := wa) hBa (by show b6 + 1 ≤ w11.heap.size; omega)
    go_upto_region 15 with (fail)
    have S1 : wa.drew.cell? ⟨b4, 1, none⟩ = some (.int .i64 x) := Sa
    go_region_held3 (fun w' => w'.cell? ⟨b4, 1, none⟩ = some (.int .i64 x)) (first | assumption | exact S1 | (fail)) (first | (go_at_call 29; refine (specLiving_any L _ w4.heap.size wa.drew (by show w4.heap.size ≤ wa.heap.size; omega) oxa.rd.drew).mono ?_; rintro er wb ⟨vl2, rfl, ol2, hBb⟩; rw [eL.out] at ol2; have hzb : wa.heap.size ≤ wb.heap.size := hBb.size; have h4b := h4a.drew.below (w' := wb) hBb (by show b4 + 1 ≤ wa.heap.size; omega); have Sb := h4b.cells.2.1) | (go_at_call 30; refine (hasInt_any (living L) x _ wb.heap.size _ ol2.rd).mono ?_; rintro er wq ⟨he, hq⟩; subst wq; rw [hyn.out] at he; subst he) | (fail))
    have hBy : Below w.heap.size w wb := hBx.drew.trans (hBb.mono (by show w.heap.size ≤ wa.heap.size; have := hBx.size; omega))
    have oxb : ce.Own wb w3.heap.size w4.heap.size (.slice vxa L.length vxc) L := oxa.keep (w' := wb) (fun k g1 g2 => hBb.block k (by show k < wa.heap.size; omega))
    have h6b : HB wb b6 ⟨k9, x9, y9, s9, l9, e9, o9, t9⟩ := h6a.drew.below (w' := wb) hBb (by show b6 + 1 ≤ wa.heap.size; omega)
    clear cc0 cc1 cc2 cc3 cc4 cc5 cc6 cc7 ce0 ce1 ce2 ce3 ce4 ce5 ce6 ce7
    obtain ⟨ce0, ce1, ce2, ce3, ce4, ce5, ce6, ce7⟩ := h4b.cells
    go_upto_region 17 with (first | (go_at_call 33; refine (specValueAt_any L x _ w4.heap.size _ (by omega) oxb.rd).mono ?_; rintro er wc ⟨he, hBc⟩; rw [eV.out, hyv.out] at he; subst he; have h4c := h4b.below hBc (by omega); have h6c := h6b.below hBc (by omega)) | (fail))
    have hBz : Below w.heap.size w wc := hBy.trans (hBc.mono hBy.size)
    clear ce0 ce1 ce2 ce3 ce4 ce5 ce6 ce7
    obtain ⟨ce0, ce1, ce2, ce3, ce4, ce5, ce6, ce7⟩ := h4c.cells
    obtain ⟨cc0, cc1, cc2, cc3, cc4, cc5, cc6, cc7⟩ := h6c.cells
    rcases (by omega : k = 1 ∨ k = 2 ∨ k = 3) with rfl | rfl | rfl
    · obtain ⟨p1, p2, p3⟩ := SY2.out.put rfl
      simp only [] at p1 p2 p3
      have en : yn = true := by rw [← hyn.out]; exact decide_eq_true p1
      subst en
      cases yt with
      | true =>
        have g6 : (t9 == 1) = false := by
          have : x ∈ living H := of_decide_eq_true hyt.out
          have : ¬ t9 = 1 := fun z => p2.1 z this
          simpa using this
        clear p1 p2 p3 SY2
        go_wp2
        go_ret
        exact ⟨rfl, hBz⟩
      | false =>
        have hnx : x ∉ living H := of_decide_eq_false hyt.out
        have g6 : (t9 == 1) = true := by simpa using p2.2 hnx
        have g7 : (yv == y) = true := by rw [← hyv.out, p3 hnx]; simp
        clear p1 p2 p3 SY2 hnx
        go_wp2
        go_ret
        exact ⟨rfl, hBz⟩
    · obtain ⟨p1, p2⟩ := SY2.out.take rfl
      simp only [] at p1 p2
      have en : yn = false := by rw [← hyn.out]; exact decide_eq_false p1
      subst en
      cases yt with
      | true =>
        have g6 : (t9 == 1) = true := by simpa using p2.2 (of_decide_eq_true hyt.out)
        clear p1 p2 SY2
        go_wp2
        go_ret
        exact ⟨rfl, hBz⟩
      | false =>
        have g6 : (t9 == 1) = false := by
          have : ¬ t9 = 1 := fun z => of_decide_eq_false hyt.out (p2.1 z)
          simpa using this
        clear p1 p2 SY2
        go_wp2
        go_ret
        exact ⟨rfl, hBz⟩
    · obtain ⟨p1, p2⟩ := SY2.out.look rfl
      simp only [] at p1 p2
      have en : yn = yt := by rw [← hyn.out, ← hyt.out, p1]
      subst en
      cases yn with
      | true =>
        have g6 : (t9 == 1) = true := by simpa using p2.2 (of_decide_eq_true hyt.out)
        clear p1 p2 SY2
        go_wp2
        go_ret
        exact ⟨rfl, hBz⟩
      | false =>
        have g6 : (t9 == 1) = false := by
          have : ¬ t9 = 1 := fun z => of_decide_eq_false hyt.out (p2.1 z)
          simpa using this
        clear p1 p2 SY2
        go_wp2
        go_ret
        exact ⟨rfl, hBz⟩
end Go.Proofs.Ytodpbghkjnlfdaa.lawAl
