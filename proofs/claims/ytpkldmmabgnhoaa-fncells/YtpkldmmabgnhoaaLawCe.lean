/- The walk of the law FnCells. -/
import Derived.Test.YtpkldmmabgnhoaaDc2
import Derived.Test.YtpkldmmabgnhoaaLike3
import Derived.Test.YtpkldmmabgnhoaaCeMath
import Derived.Deep.DeepCutAuto
namespace Go.Proofs.Ytpkldmmabgnhoaa.lawCe
open Go.ChangeShapes Go.WideShapes Go.ChangeAt Go.RowKit
open Go.Proofs.Ytpkldmmabgnhoaa.ce Go.Proofs.Ytpkldmmabgnhoaa.draw
set_option linter.unusedVariables false

theorem code_below' {w w1 : World} {a0 : Option Addr} {len : Nat} (h : CodeAt w a0 len) (hB : Below w.heap.size w w1) : CodeAt w1 a0 len := by
  refine ⟨h.1, ?_⟩
  rcases h.2 with h0 | ⟨b, off, e, hl, hc⟩
  · exact .inl h0
  · refine .inr ⟨b, off, e, Nat.lt_of_lt_of_le hl hB.size, fun k hk => ?_⟩
    obtain ⟨c, hcell, h1, h2⟩ := hc k hk
    exact ⟨c, by rw [hB.cell hl]; exact hcell, h1, h2⟩
theorem step {w a b : World} (h : Below w.heap.size w a) (k : Below a.heap.size a b) : Below w.heap.size w b := h.trans (k.mono h.size)

/-- the six slices of cells that the law holds -/
structure Cc (w : World) (hi : Nat) (vh vx vg vy vf vz : Value) (H X G Y F Z : List C) : Prop where
  hh : hi ≤ w.heap.size
  rh : Rd w hi vh H
  rx : Rd w hi vx X
  rg : Rd w hi vg G
  ry : Rd w hi vy Y
  rf : Rd w hi vf F
  rz : Rd w hi vz Z
theorem Cc.below {w w' : World} {hi : Nat} {vh vx vg vy vf vz : Value} {H X G Y F Z : List C} (c : Cc w hi vh vx vg vy vf vz H X G Y F Z) (hB : Below w.heap.size w w') : Cc w' hi vh vx vg vy vf vz H X G Y F Z :=
  ⟨Nat.le_trans c.hh hB.size, c.rh.below hB c.hh, c.rx.below hB c.hh, c.rg.below hB c.hh, c.ry.below hB c.hh, c.rf.below hB c.hh, c.rz.below hB c.hh⟩

theorem rd_take {w : World} {hi n cap : Nat} {a : Option Addr} {F Z : List C} {c : C} (r : Rd w hi (.slice a n cap) Z) (e : Z = F ++ [c]) : Rd w hi (.slice a F.length cap) F := by
  obtain ⟨a', cap', e', h1, h2, h3⟩ := r.fits
  cases e'
  subst e
  refine ⟨a, cap, rfl, by rw [snoc_len] at h1; omega, h2, fun hn => ?_⟩
  obtain ⟨b, off, rfl, hb, hr⟩ := h3 (by simp)
  refine ⟨b, off, rfl, hb, fun j u hj => hr j u ?_⟩
  rw [cvs_append, List.getElem?_append_left (List.getElem?_eq_some_iff.1 hj).1]
  exact hj
theorem last_cell {F Z : List C} {c : C} (e : Z = F ++ [c]) (h : F.length < Z.length) : Z[F.length] = c := by
  subst e
  simp

set_option maxRecDepth 100000 in
set_option maxHeartbeats 8000000 in
theorem walk (a0 : Option Addr) (len cap : Nat) (w : World) (hl : len ≤ 4096) (hcode0 : CodeAt w a0 len) :
    Calls Try.prog 8 #[.slice a0 len cap] w fun e w' => e = .returned (.bool true) ∧ Below w.heap.size w w' := by
  have hC : Hid (CodeAt w a0 len) := hcode0
  clear hcode0
  have hl' : ¬ (4096 : Int) < (len : Int) := by omega
  have m1 : Hid True := trivial
  have m2 : Hid True := trivial
  have m3 : Hid True := trivial
  have m4 : Hid True := trivial
  have m5 : Hid True := trivial
  have m6 : Hid True := trivial
  have m7 : Hid True := trivial
  have m8 : Hid True := trivial
  have m9 : Hid True := trivial
  have m10 : Hid True := trivial
  have m11 : Hid True := trivial
  have m12 : Hid True := trivial
  have m13 : Hid True := trivial
  have m14 : Hid True := trivial
  have m15 : Hid True := trivial
  have m16 : Hid True := trivial
  have m17 : Hid True := trivial
  go_enter Try.func8, Try.ntmps8
  go_upto_region 18 with (first | (go_at_call 24; go_in) | (clear m1; go_at_call 25; refine (drawSwapped_any _ a0 len cap hC.out).mono ?_; rintro er w1 ⟨vh, p, nx, z, H, rfl, dr⟩; have hB1 : Below w.heap.size w w1 := dr.bel; have z1 : w.heap.size ≤ w1.heap.size := hB1.size; have hcode := code_below' hC.out hB1; have hB := hB1; have rh := dr.rd; obtain ⟨ha, hc, rfl⟩ := rh.form; have lH := dr.le; clear dr) | (clear m2; go_at_call 21; refine (implSwapped_any H p nx z _ w1.heap.size _ (Nat.le_refl _) rh).mono ?_; rintro er w2 ⟨vx, he, ho, hb⟩; have hB2 : Below w1.heap.size w1 w2 := hb; have z2 : w1.heap.size ≤ w2.heap.size := hB2.size; replace rh := rh.below hB2 (by omega); replace hcode := code_below' hcode hB2; replace hB := step hB hB2; obtain ⟨sB, hsB⟩ := hid_ex (swappedB H p nx z); obtain ⟨X, hX⟩ := hid_ex (swappedH H p nx z); rw [hsB.out] at he; rw [hX.out] at ho; subst he; have rx := ho.rd; obtain ⟨xa, xc, rfl⟩ := rx.form; clear ho hb) | (clear m3; go_at_call 26; refine (drawStruck_any _ a0 len cap hcode).mono ?_; rintro er w3 ⟨vg, q, ny, G, rfl, dr⟩; have hB3 : Below w2.heap.size w2 w3 := dr.bel; have z3 : w2.heap.size ≤ w3.heap.size := hB3.size; replace rh := rh.below hB3 (by omega); replace rx := rx.below hB3 (by omega); replace hcode := code_below' hcode hB3; replace hB := step hB hB3; have rg := dr.rd; obtain ⟨ga, gc, rfl⟩ := rg.form; have lG := dr.le; clear dr) | (clear m4; go_at_call 23; refine (implStruck_any G q ny _ w3.heap.size _ (Nat.le_refl _) rg).mono ?_; rintro er w4 ⟨vy, he, ho, hb⟩; have hB4 : Below w3.heap.size w3 w4 := hb; have z4 : w3.heap.size ≤ w4.heap.size := hB4.size; replace rh := rh.below hB4 (by omega); replace rx := rx.below hB4 (by omega); replace rg := rg.below hB4 (by omega); replace hcode := code_below' hcode hB4; replace hB := step hB hB4; obtain ⟨sT, hsT⟩ := hid_ex (struckB G q ny); obtain ⟨Y, hY⟩ := hid_ex (struckH G q ny); rw [hsT.out] at he; rw [hY.out] at ho; subst he; have ry := ho.rd; obtain ⟨ya, yc, rfl⟩ := ry.form; clear ho hb) | (clear m5; go_at_call 27; refine (drawFresh_any _ a0 len cap hcode).mono ?_; rintro er w5 ⟨vf, key, val, nf, F, rfl, dr⟩; have hB5 : Below w4.heap.size w4 w5 := dr.bel; have z5 : w4.heap.size ≤ w5.heap.size := hB5.size; replace rh := rh.below hB5 (by omega); replace rx := rx.below hB5 (by omega); replace rg := rg.below hB5 (by omega); replace ry := ry.below hB5 (by omega); replace hcode := code_below' hcode hB5; replace hB := step hB hB5; have rf := dr.rd; obtain ⟨fa, fc, rfl⟩ := rf.form; have lF := dr.le; clear dr) | (clear m6; go_at_call 19; refine (implFresh_any F key val nf _ w5.heap.size _ (Nat.le_refl _) rf).mono ?_; rintro er w6 ⟨vz, he, ho, hb⟩; have hB6 : Below w5.heap.size w5 w6 := hb; have z6 : w5.heap.size ≤ w6.heap.size := hB6.size; replace rh := rh.below hB6 (by omega); replace rx := rx.below hB6 (by omega); replace rg := rg.below hB6 (by omega); replace ry := ry.below hB6 (by omega); replace rf := rf.below hB6 (by omega); replace hcode := code_below' hcode hB6; replace hB := step hB hB6; obtain ⟨N, hN⟩ := hid_ex (freshN F key val nf); obtain ⟨Z, hZ⟩ := hid_ex (freshH F key val nf); rw [hN.out] at he; rw [hZ.out] at ho; subst he; have rz := ho.rd; obtain ⟨za, zc, rfl⟩ := rz.form; clear ho hb) | (clear m7; go_at_call 20; refine (specSwapped_any H p nx z _ w1.heap.size _ (by omega) rh).mono ?_; rintro er w7 ⟨vu, he, ho, hb⟩; have hB7 : Below w6.heap.size w6 w7 := hb; have z7 : w6.heap.size ≤ w7.heap.size := hB7.size; replace rh := rh.below hB7 (by omega); replace rx := rx.below hB7 (by omega); replace rg := rg.below hB7 (by omega); replace ry := ry.below hB7 (by omega); replace rf := rf.below hB7 (by omega); replace rz := rz.below hB7 (by omega); replace hcode := code_below' hcode hB7; replace hB := step hB hB7; rw [hsB.out] at he; rw [hX.out] at ho; subst he; have ru := ho.rd; clear ho hb; have hsq : (sB != sB) = false := (by simp)) | (clear m8; go_at_call 28; refine (likeHeap_any X _ _ w2.heap.size w7.heap.size _ (by omega) (by omega) rx ru).mono ?_; rintro er w8 ⟨rfl, hb⟩; have hB8 : Below w7.heap.size w7 w8 := hb; have z8 : w7.heap.size ≤ w8.heap.size := hB8.size; replace rh := rh.below hB8 (by omega); replace rx := rx.below hB8 (by omega); replace rg := rg.below hB8 (by omega); replace ry := ry.below hB8 (by omega); replace rf := rf.below hB8 (by omega); replace rz := rz.below hB8 (by omega); replace ru := ru.below hB8 (by omega); replace hcode := code_below' hcode hB8; replace hB := step hB hB8; clear ru hb; obtain ⟨y, hy⟩ := hid_ex (decide (heapOk H)); have hyy : (y != y) = false := (by simp)) | (clear m9; go_at_call 12; refine (implHeapOk_any H _ w1.heap.size _ (by omega) rh).mono ?_; rintro er w9 ⟨he, hb⟩; have hB9 : Below w8.heap.size w8 w9 := hb; have z9 : w8.heap.size ≤ w9.heap.size := hB9.size; replace rh := rh.below hB9 (by omega); replace rx := rx.below hB9 (by omega); replace rg := rg.below hB9 (by omega); replace ry := ry.below hB9 (by omega); replace rf := rf.below hB9 (by omega); replace rz := rz.below hB9 (by omega); replace hcode := code_below' hcode hB9; replace hB := step hB hB9; rw [hy.out] at he; subst he; clear hb) | (clear m10; go_at_call 10; refine (specHeapOk_any H _ w1.heap.size _ (by omega) rh).mono ?_; rintro er w10 ⟨he, hb⟩; have hB10 : Below w9.heap.size w9 w10 := hb; have z10 : w9.heap.size ≤ w10.heap.size := hB10.size; replace rh := rh.below hB10 (by omega); replace rx := rx.below hB10 (by omega); replace rg := rg.below hB10 (by omega); replace ry := ry.below hB10 (by omega); replace rf := rf.below hB10 (by omega); replace rz := rz.below hB10 (by omega); replace hcode := code_below' hcode hB10; replace hB := step hB hB10; rw [hy.out] at he; subst he; clear hb) | (clear m11; go_at_call 15; refine (implNewHeap_any _).mono ?_; rintro er w11 ⟨vn, rfl, ho, hb⟩; have hB11 : Below w10.heap.size w10 w11 := hb; have z11 : w10.heap.size ≤ w11.heap.size := hB11.size; replace rh := rh.below hB11 (by omega); replace rx := rx.below hB11 (by omega); replace rg := rg.below hB11 (by omega); replace ry := ry.below hB11 (by omega); replace rf := rf.below hB11 (by omega); replace rz := rz.below hB11 (by omega); replace hcode := code_below' hcode hB11; replace hB := step hB hB11; have rn := ho.rd; clear ho hb) | (clear m12; go_at_call 14; refine (specNewHeap_any _).mono ?_; rintro er w12 ⟨vm, rfl, ho, hb⟩; have hB12 : Below w11.heap.size w11 w12 := hb; have z12 : w11.heap.size ≤ w12.heap.size := hB12.size; replace rh := rh.below hB12 (by omega); replace rx := rx.below hB12 (by omega); replace rg := rg.below hB12 (by omega); replace ry := ry.below hB12 (by omega); replace rf := rf.below hB12 (by omega); replace rz := rz.below hB12 (by omega); replace rn := rn.below hB12 (by omega); replace hcode := code_below' hcode hB12; replace hB := step hB hB12; have rm := ho.rd; clear ho hb) | (clear m13; go_at_call 28; refine (likeHeap_any [c0] _ _ w11.heap.size w12.heap.size _ (by omega) (by omega) rn rm).mono ?_; rintro er w13 ⟨rfl, hb⟩; have hB13 : Below w12.heap.size w12 w13 := hb; have z13 : w12.heap.size ≤ w13.heap.size := hB13.size; replace rh := rh.below hB13 (by omega); replace rx := rx.below hB13 (by omega); replace rg := rg.below hB13 (by omega); replace ry := ry.below hB13 (by omega); replace rf := rf.below hB13 (by omega); replace rz := rz.below hB13 (by omega); replace rn := rn.below hB13 (by omega); replace rm := rm.below hB13 (by omega); replace hcode := code_below' hcode hB13; replace hB := step hB hB13; clear rn rm hb) | (clear m14; go_at_call 22; refine (specStruck_any G q ny _ w3.heap.size _ (by omega) rg).mono ?_; rintro er w14 ⟨vu, he, ho, hb⟩; have hB14 : Below w13.heap.size w13 w14 := hb; have z14 : w13.heap.size ≤ w14.heap.size := hB14.size; replace rh := rh.below hB14 (by omega); replace rx := rx.below hB14 (by omega); replace rg := rg.below hB14 (by omega); replace ry := ry.below hB14 (by omega); replace rf := rf.below hB14 (by omega); replace rz := rz.below hB14 (by omega); replace hcode := code_below' hcode hB14; replace hB := step hB hB14; rw [hsT.out] at he; rw [hY.out] at ho; subst he; have ru := ho.rd; clear ho hb; have hst : (sT != sT) = false := (by simp)) | (clear m15; go_at_call 28; refine (likeHeap_any Y _ _ w4.heap.size w14.heap.size _ (by omega) (by omega) ry ru).mono ?_; rintro er w15 ⟨rfl, hb⟩; have hB15 : Below w14.heap.size w14 w15 := hb; have z15 : w14.heap.size ≤ w15.heap.size := hB15.size; replace rh := rh.below hB15 (by omega); replace rx := rx.below hB15 (by omega); replace rg := rg.below hB15 (by omega); replace ry := ry.below hB15 (by omega); replace rf := rf.below hB15 (by omega); replace rz := rz.below hB15 (by omega); replace ru := ru.below hB15 (by omega); replace hcode := code_below' hcode hB15; replace hB := step hB hB15; clear ru hb) | (clear m16; go_at_call 18; refine (specFresh_any F key val nf _ w5.heap.size _ (by omega) rf).mono ?_; rintro er w16 ⟨vu, he, ho, hb⟩; have hB16 : Below w15.heap.size w15 w16 := hb; have z16 : w15.heap.size ≤ w16.heap.size := hB16.size; replace rh := rh.below hB16 (by omega); replace rx := rx.below hB16 (by omega); replace rg := rg.below hB16 (by omega); replace ry := ry.below hB16 (by omega); replace rf := rf.below hB16 (by omega); replace rz := rz.below hB16 (by omega); replace hcode := code_below' hcode hB16; replace hB := step hB hB16; rw [hN.out] at he; rw [hZ.out] at ho; subst he; have ru := ho.rd; clear ho hb; have hnn : (N != N) = false := (by simp)) | (clear m17; go_at_call 28; refine (likeHeap_any Z _ _ w6.heap.size w16.heap.size _ (by omega) (by omega) rz ru).mono ?_; rintro er w17 ⟨rfl, hb⟩; have hB17 : Below w16.heap.size w16 w17 := hb; have z17 : w16.heap.size ≤ w17.heap.size := hB17.size; replace rh := rh.below hB17 (by omega); replace rx := rx.below hB17 (by omega); replace rg := rg.below hB17 (by omega); replace ry := ry.below hB17 (by omega); replace rf := rf.below hB17 (by omega); replace rz := rz.below hB17 (by omega); replace ru := ru.below hB17 (by omega); replace hcode := code_below' hcode hB17; replace hB := step hB hB17; clear ru hb) | (fail))
  have CC : Hid (Cc w17 w17.heap.size (.slice ha H.length hc) (.slice xa X.length xc) (.slice ga G.length gc) (.slice ya Y.length yc) (.slice fa F.length fc) (.slice za Z.length zc) H X G Y F Z) := ⟨Nat.le_refl _, rh.wide (by omega), rx.wide (by omega), rg.wide (by omega), ry.wide (by omega), rf.wide (by omega), rz.wide (by omega)⟩
  obtain ⟨hi, hhi⟩ := hid_ex w17.heap.size
  rw [hhi.out] at CC
  clear hhi rh rx rg ry rf rz hcode hC z1 z2 z3 z4 z5 z6 z7 z8 z9 z10 z11 z12 z13 z14 z15 z16 z17 hB1 hB2 hB3 hB4 hB5 hB6 hB7 hB8 hB9 hB10 hB11 hB12 hB13 hB14 hB15 hB16 hB17 hsq hst hnn hyy
  go_cut [174] (fun t wc => t = .bool false ∧ Hid (Cc wc hi (.slice ha H.length hc) (.slice xa X.length xc) (.slice ga G.length gc) (.slice ya Y.length yc) (.slice fa F.length fc) (.slice za Z.length zc) H X G Y F Z) ∧ Below w.heap.size w wc)
  case first =>
    as_aux_lemma =>
      have two := fresh_two F key val nf
      rw [hN.out, hZ.out] at two
      by_cases hneg : N < 0
      · have hnd : decide (N < 0) = true := decide_eq_true hneg
        have hne : Hid (N = -1) := by
          rcases two with h | h
          · exact h
          · omega
        by_cases hok : heapOk F
        · have HK : Hid (decide (heapOk F) = true) := decide_eq_true hok
          have hZF : Z = F := by
            have h1 := hN.out
            have h2 := hZ.out
            unfold freshN at h1
            unfold freshH at h2
            rw [if_pos hok] at h1 h2
            by_cases hf : freshOk F key val nf
            · rw [if_pos hf, hne.out] at h1; omega
            · rw [if_neg hf] at h2; exact h2.symm
          have ZF : Hid (Z = F) := hZF
          clear two hZF hok
          go_wp2_with (first | (go_at_call 10; refine (specHeapOk_any F _ hi _ CC.out.hh CC.out.rf).mono ?_; rintro er wA ⟨rfl, hbA⟩; rw [HK.out]; have CA : Hid _ := CC.out.below hbA) | (go_at_call 28; refine (likeHeap_any F _ _ hi hi _ CA.out.hh CA.out.hh (by have := CA.out.rz; rw [ZF.out] at this ⊢; exact this) CA.out.rf).mono ?_; rintro er wB ⟨rfl, hbB⟩; have CB : Hid _ := CA.out.below hbB) | (fail))
          go_meet
          case rel => exact ⟨rfl, CB, step (step hB hbA) hbB⟩
        · have HK : Hid (decide (heapOk F) = false) := decide_eq_false hok
          clear two hok
          go_wp2_with (first | (go_at_call 10; refine (specHeapOk_any F _ hi _ CC.out.hh CC.out.rf).mono ?_; rintro er wA ⟨rfl, hbA⟩; rw [HK.out]; have CA : Hid _ := CC.out.below hbA) | (fail))
          go_meet
          case rel => exact ⟨rfl, CA, step hB hbA⟩
      · obtain ⟨eN, eZ, hokZ⟩ := two.resolve_left (by omega)
        subst eN
        have ZE : Hid (Z = F ++ [cell key val nf]) := eZ
        have HK : Hid (decide (heapOk Z) = true) := decide_eq_true (by rw [eZ]; exact hokZ)
        have hZl : Hid (Z.length = F.length + 1) := by unfold Hid; rw [eZ, snoc_len]
        have hFZ : F.length < Z.length := by rw [hZl.out]; omega
        have hFZ' : (F.length : Int) < Z.length := by omega
        clear two eZ hokZ
        obtain ⟨zcap, zlen⟩ : Z.length ≤ zc ∧ zc ≤ 9223372036854775807 := by
          obtain ⟨a, c, e, h1, h2, -⟩ := CC.out.rz.fits
          cases e
          unfold maxLen at h2
          exact ⟨h1, by omega⟩
        have hFc : (F.length : Int) ≤ zc := by omega
        go_wp2_with (first | (go_at_call 12; refine (implHeapOk_any Z _ hi _ CC.out.hh CC.out.rz).mono ?_; rintro er wA ⟨rfl, hbA⟩; rw [HK.out]; have CA : Hid _ := CC.out.below hbA) | (go_at_call 28; refine (likeHeap_any F _ _ hi hi _ CA.out.hh CA.out.hh (rd_take CA.out.rz ZE.out) CA.out.rf).mono ?_; rintro er wB ⟨rfl, hbB⟩; have CB : Hid _ := CA.out.below hbB; obtain ⟨b, off, rfl, -, e0, e1, e2, e3⟩ := CB.out.rz.cell F.length hFZ; rw [last_cell ZE.out hFZ] at e0 e1 e2 e3; simp only [cell] at e0 e1 e2 e3) | (fail))
        go_meet
        case rel => exact ⟨rfl, CB, step (step hB hbA) hbB⟩
  case rest =>
    obtain ⟨rfl, CD, hBc⟩ := hcut
    clear CC hB
    go_upto_region 20 with (fail)
    go_cut [218] (fun t wd => t = .bool false ∧ Hid (Cc wd hi (.slice ha H.length hc) (.slice xa X.length xc) (.slice ga G.length gc) (.slice ya Y.length yc) (.slice fa F.length fc) (.slice za Z.length zc) H X G Y F Z) ∧ Below w.heap.size w wd)
    case first =>
      as_aux_lemma =>
        by_cases hok : heapOk G
        · have HK : Hid (decide (heapOk G) = true) := decide_eq_true hok
          have eT := hsT.out
          have eY := hY.out
          unfold struckB at eT
          unfold struckH at eY
          rw [if_pos hok] at eT eY
          by_cases hs : strikeOk G q ny
          · rw [(strike_yes hs).1] at eT
            rw [(strike_yes hs).2] at eY
            subst eT
            obtain ⟨i, rfl⟩ : ∃ i : Nat, q = i := ⟨q.toNat, by have := hs.2.1.1; omega⟩
            have hil : i < G.length := by have := hs.2.1.2; omega
            have hil' : (i : Int) < G.length := by omega
            obtain ⟨HY, hYl, hiY, gY, gG⟩ := struck_facts hok i hil ny hs eY
            have hiY' : (i : Int) < Y.length := by omega
            clear eY hs hok
            have m1 : Hid True := trivial
            go_wp2_with (first | (clear m1; go_at_call 12; refine (implHeapOk_any Y _ hi _ CD.out.hh CD.out.ry).mono ?_; rintro er wA ⟨rfl, hbA⟩; rw [HY.out]; have CA : Hid _ := CD.out.below hbA; obtain ⟨b, off, rfl, -, e0, e1, e2, e3⟩ := CA.out.ry.cell i hiY; rw [(gY.out hiY).1] at e3; rw [(gY.out hiY).2] at e2; obtain ⟨b', off', rfl, -, f0, f1, f2, f3⟩ := CA.out.rg.cell i hil; rw [gG.out] at f3) | (fail))
            go_meet
            case rel => exact ⟨rfl, CA, step hBc hbA⟩
          · rw [(strike_no hs).1] at eT
            rw [(strike_no hs).2] at eY
            subst eT
            have YG : Hid (Y = G) := eY.symm
            clear eY hs hok
            go_wp2_with (first | (go_at_call 10; refine (specHeapOk_any G _ hi _ CD.out.hh CD.out.rg).mono ?_; rintro er wA ⟨rfl, hbA⟩; rw [HK.out]; have CA : Hid _ := CD.out.below hbA) | (go_at_call 28; refine (likeHeap_any G _ _ hi hi _ CA.out.hh CA.out.hh (by have := CA.out.ry; rw [YG.out] at this ⊢; exact this) CA.out.rg).mono ?_; rintro er wB ⟨rfl, hbB⟩; have CB : Hid _ := CA.out.below hbB) | (fail))
            go_meet
            case rel => exact ⟨rfl, CB, step (step hBc hbA) hbB⟩
        · have HK : Hid (decide (heapOk G) = false) := decide_eq_false hok
          have eT := hsT.out
          unfold struckB at eT
          rw [if_neg hok] at eT
          subst eT
          clear hok
          go_wp2_with (first | (go_at_call 10; refine (specHeapOk_any G _ hi _ CD.out.hh CD.out.rg).mono ?_; rintro er wA ⟨rfl, hbA⟩; rw [HK.out]; have CA : Hid _ := CD.out.below hbA) | (fail))
          go_meet
          case rel => exact ⟨rfl, CA, step hBc hbA⟩
    case rest =>
      obtain ⟨rfl, CE, hBd⟩ := hcut
      clear CD hBc
      by_cases hok : heapOk H
      · have HK : Hid (decide (heapOk H) = true) := decide_eq_true hok
        have eB := hsB.out
        have eX := hX.out
        unfold swappedB at eB
        unfold swappedH at eX
        rw [if_pos hok] at eB eX
        by_cases hs : swapOk H p nx z
        · rw [(swap_yes hs).1] at eB
          rw [(swap_yes hs).2] at eX
          subst eB
          obtain ⟨i, rfl⟩ : ∃ i : Nat, p = i := ⟨p.toNat, by have := hs.1.1.1; omega⟩
          have hil : i < H.length := by have := hs.1.1.2; omega
          have hil' : (i : Int) < H.length := by omega
          obtain ⟨HX, hXl, hiX, gX, gH, XE⟩ := swap_facts hok i hil nx z hs eX
          have hiX' : (i : Int) < X.length := by omega
          clear eX hs hok
          go_wp2
          go_loopw [26] (fun t wr => ∃ j : Nat, j ≤ H.length ∧ t = .int .i64 j ∧ Hid (Cc wr hi (.slice ha H.length hc) (.slice xa X.length xc) (.slice ga G.length gc) (.slice ya Y.length yc) (.slice fa F.length fc) (.slice za Z.length zc) H X G Y F Z) ∧ Below w.heap.size w wr) (fun t _ => H.length - (intOf t).toNat)
          case atStart => exact ⟨0, by omega, rfl, CE, hBd⟩
          case round =>
            obtain ⟨j, hj, rfl, CR, hBr⟩ := hrel
            clear CE hBd
            by_cases hlt : j < H.length
            · have hlt' : (j : Int) < H.length := by omega
              by_cases hji : j = i
              · have fji : ((j : Int) != (i : Int)) = false := by rw [hji]; simp
                have fji' : (j != i) = false := by rw [hji]; simp
                have HJ : Hid (j = i) := hji
                clear hji
                go_wp2
                try simp only [Act.put, List.setIfInBounds_toArray, List.set_cons_zero, List.set_cons_succ]
                go_big_quiet (fail)
                go_wp2
                go_roundw
                case rel => exact ⟨j + 1, by omega, by go_num, CR.out.below (below_drewN _ _), hBr.trans (below_drewN _ _)⟩
                case measure => simp [intOf]; omega
              · have fji : ((j : Int) != (i : Int)) = true := by simp; omega
                have fji' : (j != i) = true := by simpa using hji
                have hjX : j < X.length := by rw [hXl.out]; exact hlt
                have hjX' : (j : Int) < X.length := by omega
                obtain ⟨b, off, rfl, -, e0, e1, e2, e3⟩ := CR.out.rx.cell j hjX
                obtain ⟨b', off', rfl, -, f0, f1, f2, f3⟩ := CR.out.rh.cell j hlt
                rw [XE.out j hjX hlt hji] at e0 e1 e2 e3
                obtain ⟨c, hc'⟩ := hid_ex (H[j])
                rw [hc'.out] at e0 e1 e2 e3 f0 f1 f2 f3
                obtain ⟨c1, c2, c3, c4⟩ := c
                go_wp2
                try simp only [Act.put, List.setIfInBounds_toArray, List.set_cons_zero, List.set_cons_succ]
                go_big_quiet (fail)
                go_wp2
                go_roundw
                case rel => exact ⟨j + 1, by omega, by go_num, CR.out.below (below_drewN _ _), hBr.trans (below_drewN _ _)⟩
                case measure => simp [intOf]; omega
            · have hlt' : ¬ ((j : Int) < H.length) := by omega
              go_wp2_with (first | (go_at_call 12; refine (implHeapOk_any X _ hi _ CR.out.hh CR.out.rx).mono ?_; rintro er wA ⟨rfl, hbA⟩; rw [HX.out]; have CA : Hid _ := CR.out.below hbA; obtain ⟨b, off, rfl, -, e0, e1, e2, e3⟩ := CA.out.rx.cell i hiX; rw [gX.out hiX] at e2; obtain ⟨b', off', rfl, -, f0, f1, f2, f3⟩ := CA.out.rh.cell i hil; rw [gH.out.1] at f3; rw [gH.out.2] at f2) | (fail))
              go_ret
              exact ⟨rfl, step hBr hbA⟩
        · rw [(swap_no hs).1] at eB
          rw [(swap_no hs).2] at eX
          subst eB
          have XH : Hid (X = H) := eX.symm
          clear eX hs hok
          go_wp2_with (first | (go_at_call 10; refine (specHeapOk_any H _ hi _ CE.out.hh CE.out.rh).mono ?_; rintro er wA ⟨rfl, hbA⟩; rw [HK.out]; have CA : Hid _ := CE.out.below hbA) | (go_at_call 28; refine (likeHeap_any H _ _ hi hi _ CA.out.hh CA.out.hh (by have := CA.out.rx; rw [XH.out] at this ⊢; exact this) CA.out.rh).mono ?_; rintro er wB ⟨rfl, hbB⟩) | (fail))
          go_ret
          exact ⟨rfl, step (step hBd hbA) hbB⟩
      · have HK : Hid (decide (heapOk H) = false) := decide_eq_false hok
        have eB := hsB.out
        have eX := hX.out
        unfold swappedB at eB
        unfold swappedH at eX
        rw [if_neg hok] at eB eX
        have hX0 : X.length = 0 := by rw [← eX]; rfl
        subst eB
        clear hok eX
        go_wp2_with (first | (go_at_call 10; refine (specHeapOk_any H _ hi _ CE.out.hh CE.out.rh).mono ?_; rintro er wA ⟨rfl, hbA⟩; rw [HK.out]) | (fail))
        go_ret
        exact ⟨rfl, step hBd hbA⟩
end Go.Proofs.Ytpkldmmabgnhoaa.lawCe
