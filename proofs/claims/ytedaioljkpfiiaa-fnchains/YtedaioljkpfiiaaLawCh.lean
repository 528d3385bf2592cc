/- The walk of the law FnChains. -/
import Derived.Test.YtedaioljkpfiiaaDc3
import Derived.Test.YtedaioljkpfiiaaIn3
import Derived.Test.YtedaioljkpfiiaaIt6
import Derived.Test.YtedaioljkpfiiaaIn2
import Derived.Deep.DeepCutAuto
namespace Go.Proofs.Ytedaioljkpfiiaa.lawCh
open Go.ChangeShapes Go.WideShapes Go.ChangeAt Go.RowKit
open Go.Proofs.Ytedaioljkpfiiaa.ce Go.Proofs.Ytedaioljkpfiiaa.draw Go.Proofs.Ytedaioljkpfiiaa.it
set_option linter.unusedVariables false

theorem code_below' {w w1 : World} {a0 : Option Addr} {len : Nat} (h : CodeAt w a0 len) (hB : Below w.heap.size w w1) : CodeAt w1 a0 len := by
  refine ⟨h.1, ?_⟩
  rcases h.2 with h0 | ⟨b, off, e, hl, hc⟩
  · exact .inl h0
  · refine .inr ⟨b, off, e, Nat.lt_of_lt_of_le hl hB.size, fun k hk => ?_⟩
    obtain ⟨c, hcell, h1, h2⟩ := hc k hk
    exact ⟨c, by rw [hB.cell hl]; exact hcell, h1, h2⟩
theorem step {w a b : World} (h : Below w.heap.size w a) (k : Below a.heap.size a b) : Below w.heap.size w b := h.trans (k.mono h.size)

set_option maxRecDepth 100000 in
set_option maxHeartbeats 8000000 in
theorem walk (a0 : Option Addr) (len cap : Nat) (w : World) (hl : len ≤ 4096) (hcode0 : CodeAt w a0 len) :
    Calls Try.prog 7 #[.slice a0 len cap] w fun e w' => e = .returned (.bool true) ∧ Below w.heap.size w w' := by
  have hC : Hid (CodeAt w a0 len) := hcode0
  clear hcode0
  have hl' : ¬ (4096 : Int) < (len : Int) := by omega
  have m1 : Hid True := trivial
  have m2 : Hid True := trivial
  have m3 : Hid True := trivial
  have m4 : Hid True := trivial
  have m5 : Hid True := trivial
  have m6 : Hid True := trivial
  have m7 : Hid True := trivial
  have m8 : Hid True := trivial
  have m9 : Hid True := trivial
  have m10 : Hid True := trivial
  have m11 : Hid True := trivial
  have m12 : Hid True := trivial
  have m13 : Hid True := trivial
  have m14 : Hid True := trivial
  have m15 : Hid True := trivial
  go_enter Try.func7, Try.ntmps7
  go_wp2_with (first | (go_at_call 23; go_in) | (clear m1; go_at_call 24; refine (drawChain_any _ a0 len cap hC.out).mono ?_; rintro er w1 ⟨vh, H, rfl, dr1⟩; have hB1 := dr1.bel; have hcode := code_below' hC.out hB1; have rh := dr1.rd; have z1 : w.heap.size ≤ w1.heap.size := hB1.size; have hB := hB1; obtain ⟨ah, ch, rfl⟩ := rh.form; have hHl := dr1.le; obtain ⟨Cs, hCs⟩ := hid_ex (chainL H); obtain ⟨Ls, hLs⟩ := hid_ex (livingL H); obtain ⟨gs, hgs⟩ := hid_ex (goneL H); have hgg : (gs != gs) = false := (by simp)) | (clear m2; go_at_call 11; refine (implChain_any H _ w1.heap.size _ (by omega) rh).mono ?_; rintro er w2 ⟨vc, rfl, oc, hB2⟩; rw [hCs.out] at oc; have rc := oc.rd; have z2 : w1.heap.size ≤ w2.heap.size := hB2.size; replace rh := rh.below hB2 (by omega); replace hcode := code_below' hcode hB2; replace hB := step hB hB2; obtain ⟨ac, cc, rfl⟩ := rc.form) | (clear m3; go_at_call 18; refine (implLiving_any H _ w1.heap.size _ (by omega) rh).mono ?_; rintro er w3 ⟨vl, rfl, ol, hB3⟩; rw [hLs.out] at ol; have rl := ol.rd; have z3 : w2.heap.size ≤ w3.heap.size := hB3.size; replace rh := rh.below hB3 (by omega); replace rc := rc.below hB3 (by omega); replace hcode := code_below' hcode hB3; replace hB := step hB hB3; obtain ⟨al, cl, rfl⟩ := rl.form) | (clear m4; go_at_call 22; refine (implGone_any H _ w1.heap.size _ (by omega) rh).mono ?_; rintro er w4 ⟨er2, hB4⟩; have z4 : w3.heap.size ≤ w4.heap.size := hB4.size; replace rh := rh.below hB4 (by omega); replace rc := rc.below hB4 (by omega); replace rl := rl.below hB4 (by omega); replace hcode := code_below' hcode hB4; replace hB := step hB hB4; rw [hgs.out] at er2; subst er2) | (clear m5; go_at_call 25; refine (drawValueAt_any _ a0 len cap hcode).mono ?_; rintro er w5 ⟨vq, key, Q, rfl, dr5⟩; have hB5 := dr5.bel; have rq := dr5.rd; have z5 : w4.heap.size ≤ w5.heap.size := hB5.size; replace rh := rh.below hB5 (by omega); replace rc := rc.below hB5 (by omega); replace rl := rl.below hB5 (by omega); replace hcode := code_below' hcode hB5; replace hB := step hB hB5; obtain ⟨aq, cq, rfl⟩ := rq.form; obtain ⟨y1, hy1⟩ := hid_ex (valueL Q key).1; obtain ⟨y2, hy2⟩ := hid_ex (valueL Q key).2; have hyy1 : (y1 != y1) = false := (by simp); have hyy2 : (y2 != y2) = false := (by simp)) | (clear m6; go_at_call 20; refine (implValueAt_any Q key _ w5.heap.size _ (by omega) rq).mono ?_; rintro er w6 ⟨er2, hB6⟩; have z6 : w5.heap.size ≤ w6.heap.size := hB6.size; replace rh := rh.below hB6 (by omega); replace rc := rc.below hB6 (by omega); replace rl := rl.below hB6 (by omega); replace rq := rq.below hB6 (by omega); replace hcode := code_below' hcode hB6; replace hB := step hB hB6; rw [hy1.out, hy2.out] at er2; subst er2) | (clear m7; go_at_call 19; refine (specValueAt_any Q key _ w5.heap.size _ (by omega) rq).mono ?_; rintro er w7 ⟨er2, hB7⟩; have z7 : w6.heap.size ≤ w7.heap.size := hB7.size; replace rh := rh.below hB7 (by omega); replace rc := rc.below hB7 (by omega); replace rl := rl.below hB7 (by omega); replace rq := rq.below hB7 (by omega); replace hcode := code_below' hcode hB7; replace hB := step hB hB7; rw [hy1.out, hy2.out] at er2; subst er2) | (clear m8; go_at_call 9; refine (specChain_any H _ w1.heap.size _ (by omega) rh).mono ?_; rintro er w8 ⟨vc2, rfl, oc2, hB8⟩; rw [hCs.out] at oc2; have rc2 := oc2.rd; have z8 : w7.heap.size ≤ w8.heap.size := hB8.size; replace rh := rh.below hB8 (by omega); replace rc := rc.below hB8 (by omega); replace rl := rl.below hB8 (by omega); replace rq := rq.below hB8 (by omega); replace hcode := code_below' hcode hB8; replace hB := step hB hB8) | (clear m9; go_at_call 26; refine (likeInts_any Cs _ _ w2.heap.size w8.heap.size _ (by omega) (by omega) rc rc2).mono ?_; rintro er w9 ⟨rfl, hB9⟩; have z9 : w8.heap.size ≤ w9.heap.size := hB9.size; replace rh := rh.below hB9 (by omega); replace rc := rc.below hB9 (by omega); replace rl := rl.below hB9 (by omega); replace rq := rq.below hB9 (by omega); replace rc2 := rc2.below hB9 (by omega); replace hcode := code_below' hcode hB9; replace hB := step hB hB9; clear rc2) | (clear m10; go_at_call 17; refine (specLiving_any H _ w1.heap.size _ (by omega) rh).mono ?_; rintro er w10 ⟨vl2, rfl, ol2, hB10⟩; rw [hLs.out] at ol2; have rl2 := ol2.rd; have z10 : w9.heap.size ≤ w10.heap.size := hB10.size; replace rh := rh.below hB10 (by omega); replace rc := rc.below hB10 (by omega); replace rl := rl.below hB10 (by omega); replace rq := rq.below hB10 (by omega); replace hcode := code_below' hcode hB10; replace hB := step hB hB10) | (clear m11; go_at_call 26; refine (likeInts_any Ls _ _ w3.heap.size w10.heap.size _ (by omega) (by omega) rl rl2).mono ?_; rintro er w11 ⟨rfl, hB11⟩; have z11 : w10.heap.size ≤ w11.heap.size := hB11.size; replace rh := rh.below hB11 (by omega); replace rc := rc.below hB11 (by omega); replace rl := rl.below hB11 (by omega); replace rq := rq.below hB11 (by omega); replace rl2 := rl2.below hB11 (by omega); replace hcode := code_below' hcode hB11; replace hB := step hB hB11; clear rl2) | (clear m12; go_at_call 21; refine (specGone_any H _ w1.heap.size _ (by omega) rh).mono ?_; rintro er w12 ⟨er2, hB12⟩; have z12 : w11.heap.size ≤ w12.heap.size := hB12.size; replace rh := rh.below hB12 (by omega); replace rc := rc.below hB12 (by omega); replace rl := rl.below hB12 (by omega); replace rq := rq.below hB12 (by omega); replace hcode := code_below' hcode hB12; replace hB := step hB hB12; rw [hgs.out] at er2; subst er2) | (clear m13; go_at_call 18; refine (implLiving_any Q _ w5.heap.size _ (by omega) rq).mono ?_; rintro er w13 ⟨vm, rfl, om, hB13⟩; have rm := om.rd; have z13 : w12.heap.size ≤ w13.heap.size := hB13.size; replace rh := rh.below hB13 (by omega); replace rc := rc.below hB13 (by omega); replace rl := rl.below hB13 (by omega); replace rq := rq.below hB13 (by omega); replace hcode := code_below' hcode hB13; replace hB := step hB hB13) | (clear m14; go_at_call 27; refine (hasInt_any (livingL Q) key _ w13.heap.size _ rm).mono ?_; rintro er wq ⟨er2, hq⟩; subst wq; rw [← valueL_has, hy2.out] at er2; subst er2; clear rm) | (clear m15; go_at_call 28; refine (specHeapOk_any H _ w1.heap.size _ (by omega) rh).mono ?_; rintro er w14 ⟨er2, hB14⟩; have z14 : w13.heap.size ≤ w14.heap.size := hB14.size; replace rh := rh.below hB14 (by omega); replace rc := rc.below hB14 (by omega); replace rl := rl.below hB14 (by omega); replace rq := rq.below hB14 (by omega); replace hcode := code_below' hcode hB14; replace hB := step hB hB14; subst er2; by_cases hok : heapOk H; (have hd : decide (heapOk H) = true := decide_eq_true hok; rw [hd]; clear hd); rotate_left 1; (have hd : decide (heapOk H) = false := decide_eq_false hok; rw [hd]; clear hd; have hCn : Cs = [] := (by rw [← hCs.out]; exact if_neg hok); have hLn : Ls = [] := (by rw [← hLs.out]; exact if_neg hok); have hgn : gs = -1 := (by rw [← hgs.out]; exact if_neg hok); clear hCs hLs hgs; subst hCn hLn hgn)) | (fail))
  · go_ret
    exact ⟨rfl, hB⟩
  have u := up_ok hok
  have eC : Hid (chain H = Cs) := by unfold Hid; rw [← hCs.out]; exact (if_pos hok).symm
  have eL : Hid (living H = Ls) := by unfold Hid; rw [← hLs.out]; exact (if_pos hok).symm
  have eg : Hid ((goneC H (chain H) : Int) = gs) := by unfold Hid; rw [← hgs.out]; exact (if_pos hok).symm
  have hcnt : Hid ((Ls.length : Int) + gs + 1 = (Cs.length : Int)) := by unfold Hid; rw [← eC.out, ← eL.out, ← eg.out]; exact chain_count hok
  have hch : Hid (Ch H 0 Cs) := by unfold Hid; rw [← eC.out]; exact chain_ch u
  have hhas : Hid (∀ x ∈ Cs, has H x) := by unfold Hid; rw [← eC.out]; exact chain_has u
  have hris : Hid (Cs.Pairwise fun a b => (nth H a).key < (nth H b).key) := by unfold Hid; rw [← eC.out]; exact (ch_rises u (.inr (has_zero u)) (chain_ch u)).2
  have hlr : Hid (Ls.Pairwise (· < ·)) := by unfold Hid; rw [← eL.out]; exact living_rises u
  obtain ⟨M, hM, -⟩ := chain_head u
  have hM' : Hid (Cs = 0 :: M) := by unfold Hid; rw [← eC.out]; exact hM
  have hC1 : 1 ≤ Cs.length := by rw [hM'.out]; simp
  have hC2 : Cs.length ≤ 65536 := by rw [← eC.out]; exact chain_len u
  have hL2 : Ls.length ≤ 1048576 := by rw [← hLs.out]; exact livingL_le H
  have hg0 : 0 ≤ gs := by rw [← eg.out]; omega
  have hg1 : gs ≤ 65536 := by have := hcnt.out; omega
  have RH : Hid (Rd w14 w1.heap.size (.slice ah H.length ch) H) := rh
  have RC : Hid (RdI w14 w2.heap.size (.slice ac Cs.length cc) Cs) := rc
  have RL : Hid (RdI w14 w3.heap.size (.slice al Ls.length cl) Ls) := rl
  have HB : Hid (Below w.heap.size w w14) := hB
  have h114 : w1.heap.size ≤ w14.heap.size := by omega
  have h214 : w2.heap.size ≤ w14.heap.size := by omega
  have h314 : w3.heap.size ≤ w14.heap.size := by omega
  have hz14 : w.heap.size ≤ w14.heap.size := hB.size
  clear rh rc rl rq hcode hC hCs hLs hgs hM hB oc ol om oc2 ol2 dr1 dr5 hB1 hB2 hB3 hB4 hB5 hB6 hB7 hB8 hB9 hB10 hB11 hB12 hB13 hB14 z1 z2 z3 z4 z5 z6 z7 z8 z9 z10 z11 z12 z13 z14
  go_loopw [13] (fun p wr => ∃ i : Nat, p = .int .i64 ((i : Int) + 1) ∧ i + 1 ≤ Cs.length ∧ Below w14.heap.size w14 wr) (fun p _ => Cs.length + 1 - (intOf p).toNat)
  case atStart => exact ⟨0, rfl, by omega, Below.refl _ _⟩
  case round =>
    obtain ⟨i, rfl, hiC, hBr⟩ := hrel
    have hzr := hBr.size
    by_cases hlt : i + 1 < Cs.length
    · obtain ⟨j, hj, ej, enj⟩ := chain_at u hhas.out i (by omega)
      obtain ⟨j', hj', ej', enj'⟩ := chain_at u hhas.out (i + 1) hlt
      have hln := ch_link hch.out i hlt
      have hkk := List.pairwise_iff_getElem.1 hris.out i (i + 1) (by omega) hlt (by omega)
      rw [enj, ej'] at hln
      rw [enj, enj'] at hkk
      obtain ⟨z, hz⟩ := hid_ex (H[j])
      obtain ⟨z', hz'⟩ := hid_ex (H[j'])
      obtain ⟨b, off, rfl, hb, d0⟩ := (RC.out.below hBr h214).cell i (by omega)
      obtain ⟨b2, off2, e2, hb2, d1⟩ := (RC.out.below hBr h214).cell (i + 1) hlt
      cases e2
      obtain ⟨b3, off3, rfl, hb3, c0, c1, c2, c3⟩ := (RH.out.below hBr h114).cell j hj
      obtain ⟨b4, off4, e4, hb4, f0, f1, f2, f3⟩ := (RH.out.below hBr h114).cell j' hj'
      cases e4
      rw [hz.out] at c0 c2 hln hkk
      rw [hz'.out] at f0 hkk
      rw [hln] at c2
      rw [ej] at d0
      rw [ej'] at d1
      clear c1 c3 f1 f2 f3
      have hlt' : (i : Int) + 1 < Cs.length := by omega
      have hlt2 : (i : Int) < Cs.length := by omega
      have h0 : (0 : Int) ≤ (i : Int) + 1 := by omega
      have hjl : (j : Int) < H.length := by omega
      have hjl' : (j' : Int) < H.length := by omega
      have hd : decide (z'.key ≤ z.key) = false := decide_eq_false (by omega)
      have hne : (((j' : Int)) != (j' : Int)) = false := by simp
      go_wp2
      go_big_quiet (fail)
      go_wp2
      go_roundw
      case rel => exact ⟨i + 1, by go_num, by omega, hBr.trans (below_drewN _ _)⟩
      case measure => simp [intOf]; omega
    · have ei : i + 1 = Cs.length := by omega
      have hlt' : ¬ (i : Int) + 1 < Cs.length := by omega
      have hla := ch_last hch.out (by omega)
      have hlo := next_or u (hhas.out _ (List.getElem_mem (show Cs.length - 1 < Cs.length by omega)))
      have eix : Cs.length - 1 = i := by omega
      simp only [eix] at hla hlo
      obtain ⟨j, hj, ej, enj⟩ := chain_at u hhas.out i (by omega)
      rw [enj] at hla hlo
      obtain ⟨z, hz⟩ := hid_ex (H[j])
      rw [hz.out] at hla hlo
      have hzn : z.next = -1 := by rcases hlo with h | h; (· exact h); (· have := h.1; omega)
      obtain ⟨b, off, rfl, hb, d0⟩ := (RC.out.below hBr h214).cell 0 (by omega)
      obtain ⟨b2, off2, e2, hb2, d1⟩ := (RC.out.below hBr h214).cell i (by omega)
      cases e2
      obtain ⟨b3, off3, rfl, hb3, c0, c1, c2, c3⟩ := (RH.out.below hBr h114).cell j hj
      rw [hz.out, hzn] at c2
      rw [ej] at d1
      have hC0 : Hid (Cs[0] = 0) := by unfold Hid; simp [hM'.out]
      rw [hC0.out, Nat.add_zero] at d0
      have hsub : (Cs.length : Int) - 1 = (i : Int) := by omega
      have hi2 : (i : Int) < Cs.length := by omega
      have hi0 : (0 : Int) < Cs.length := by omega
      have hi0' : 0 < Cs.length := by omega
      have hjl : (j : Int) < H.length := by omega
      have hsum : (((Ls.length : Int) + gs + 1) == (Cs.length : Int)) = true := by have := hcnt.out; simpa using this
      have hw1 : wrap64 ((Ls.length : Int) + gs) = (Ls.length : Int) + gs := IntWalk.wrap64_in _ ⟨by omega, by omega⟩
      have hw2 : wrap64 ((Ls.length : Int) + gs + 1) = (Ls.length : Int) + gs + 1 := IntWalk.wrap64_in _ ⟨by omega, by omega⟩
      clear c0 c1 c3 ej enj hla hlo hzn
      clear eix ei
      go_wp2_with (first | (go_at_call 29; refine (rises_any Ls hlr.out _ w3.heap.size _ (by omega) (RL.out.below hBr h314)).mono ?_; rintro er w15 ⟨rfl, hB15⟩) | (fail))
      go_ret
      exact ⟨rfl, (HB.out.trans (hBr.mono hz14)).trans (hB15.mono (by omega))⟩
end Go.Proofs.Ytedaioljkpfiiaa.lawCh
