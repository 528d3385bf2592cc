/- The walk of the law FnQueues. -/
import Derived.Test.YtlakpibiojdgeaaQp1
import Derived.Test.YtlakpibiojdgeaaQe1
import Derived.Test.YtlakpibiojdgeaaQt1
namespace Go.Proofs.Ytlakpibiojdgeaa.lawQu
open Go.ChangeShapes Go.WideShapes Go.ChangeAt Go.RowKit
open Go.Proofs.Ytlakpibiojdgeaa.ce Go.Proofs.Ytlakpibiojdgeaa.ro Go.Proofs.Ytlakpibiojdgeaa.rg Go.Proofs.Ytlakpibiojdgeaa.draw
set_option linter.unusedVariables false

theorem wi_ok {p : List ByteArray} {s : ByteArray} (h : namesB p = true) : s ∉ wiR p s ∧ namesB (wiR p s) = true := by
  have e : wiR p s = othersS p s := if_pos h
  rw [e]
  exact ⟨others_gone p s, namesB_iff.2 (others_ok s (namesB_iff.1 h))⟩

theorem code_belowq {w w' : World} {a0 : Option Addr} {len : Nat} (h : CodeAt w a0 len) (hB : Below w.heap.size w w') : CodeAt w' a0 len := by
  refine ⟨h.1, ?_⟩
  rcases h.2 with h0 | ⟨b, off, e, hl, hc⟩
  · exact .inl h0
  · refine .inr ⟨b, off, e, Nat.lt_of_lt_of_le hl hB.size, fun k hk => ?_⟩
    obtain ⟨c, hcell, h1, h2⟩ := hc k hk
    exact ⟨c, by rw [hB.cell hl]; exact hcell, h1, h2⟩

set_option maxRecDepth 100000 in
set_option maxHeartbeats 4000000 in
theorem walk (a0 : Option Addr) (len cap : Nat) (w : World) (hl : len ≤ 4096) (hcode0 : CodeAt w a0 len) :
    Calls Try.prog 7 #[.slice a0 len cap] w fun e w' => e = .returned (.bool true) ∧ Below w.heap.size w w' := by
  have HC : Hid (CodeAt w a0 len) := hcode0
  clear hcode0
  have hl' : ¬ (4096 : Int) < (len : Int) := by omega
  have hB : Below w.heap.size w w := Below.refl _ _
  have hzw := hB.size
  go_enter Try.func7, Try.ntmps7
  have mk1 : Hid True := trivial
  have mk2 : Hid True := trivial
  have mk3 : Hid True := trivial
  have mk4 : Hid True := trivial
  have mk5 : Hid True := trivial
  have mk6 : Hid True := trivial
  have mk7 : Hid True := trivial
  have mk8 : Hid True := trivial
  have mk9 : Hid True := trivial
  have mk10 : Hid True := trivial
  have mk11 : Hid True := trivial
  go_upto_region 10 with (first | (clear mk1; go_at_call 22; go_in) | (clear mk2; go_at_call 23; refine (drawTouched_any _ _ _ _ HC.out).mono ?_; rintro er w1 ⟨vq, q, s, rfl, hsq, ⟨oq, smq, hlq, hB1⟩⟩; have hz1 : w.heap.size ≤ w1.heap.size := hB1.size; replace hB := hB.trans (hB1.mono (by omega)); replace hzw := hB.size; obtain ⟨Aq, Nq, Kq, rfl⟩ := oq.slice; have HSq : Hid (∀ s ∈ q, s.size ≤ 9223372036854775807) := fun s hs => (by have := smq s hs; omega); clear smq; obtain ⟨J, hJ⟩ := hid_ex (toR q s); obtain ⟨z, hZ⟩ := hid_ex (toB q s); have hzz : (z != z) = false := (by simp); have HC1 : Hid (CodeAt w1 a0 len) := code_belowq HC.out hB; obtain ⟨b, hV⟩ := hid_ex (namesB q); have hbb : (b != b) = false := (by simp)) | (clear mk3; go_at_call 15; refine (implTouched_any q s (by omega) _ _ oq.rd HSq.out).mono ?_; rintro er w2 ⟨vx, rfl, ox, hB2⟩; have hz2 : w1.heap.size ≤ w2.heap.size := hB2.size; replace oq := oq.grow hB2; replace hB := hB.trans (hB2.mono (by omega)); replace hzw := hB.size; rw [hJ.out] at ox; obtain ⟨Ax, Nx, Kx, rfl⟩ := ox.slice; rw [hZ.out]) | (clear mk4; go_at_call 24; refine (drawWithout_any _ _ _ _ (code_belowq HC1.out (hB2.mono (Nat.le_refl _)))).mono ?_; rintro er w3 ⟨vp, p, t, rfl, hsp, ⟨op, smp, hlp, hB3⟩⟩; have hz3 : w2.heap.size ≤ w3.heap.size := hB3.size; replace oq := oq.grow hB3; replace ox := ox.grow hB3; replace hB := hB.trans (hB3.mono (by omega)); replace hzw := hB.size; obtain ⟨Ap, Np, Kp, rfl⟩ := op.slice; have HSp : Hid (∀ s ∈ p, s.size ≤ 9223372036854775807) := fun s hs => (by have := smp s hs; omega); clear smp; obtain ⟨Y, hY⟩ := hid_ex (wiR p t)) | (clear mk5; go_at_call 19; refine (implWithout_any p t _ _ op.rd HSp.out).mono ?_; rintro er w4 ⟨vy, rfl, oy, hB4⟩; have hz4 : w3.heap.size ≤ w4.heap.size := hB4.size; replace oq := oq.grow hB4; replace ox := ox.grow hB4; replace op := op.grow hB4; replace hB := hB.trans (hB4.mono (by omega)); replace hzw := hB.size; rw [hY.out] at oy; obtain ⟨Ay, Ny, Ky, rfl⟩ := oy.slice) | (clear mk6; go_at_call 14; refine (specTouched_any q s (by omega) _ _ oq.rd HSq.out).mono ?_; rintro er w5 ⟨vz, rfl, oz, hB5⟩; have hz5 : w4.heap.size ≤ w5.heap.size := hB5.size; replace oq := oq.grow hB5; replace ox := ox.grow hB5; replace op := op.grow hB5; replace oy := oy.grow hB5; replace hB := hB.trans (hB5.mono (by omega)); replace hzw := hB.size; rw [hJ.out] at oz; obtain ⟨Az, Nz, Kz, rfl⟩ := oz.slice; rw [hZ.out]) | (clear mk7; go_at_call 25; refine (likeTexts_any J _ _ _ ox.rd oz.rd).mono ?_; rintro er w6 ⟨rfl, hB6⟩; have hz6 : w5.heap.size ≤ w6.heap.size := hB6.size; replace oq := oq.grow hB6; replace ox := ox.grow hB6; replace op := op.grow hB6; replace oy := oy.grow hB6; replace oz := oz.grow hB6; replace hB := hB.trans (hB6.mono (by omega)); replace hzw := hB.size) | (clear mk8; go_at_call 18; refine (specWithout_any p t _ _ op.rd HSp.out).mono ?_; rintro er w7 ⟨vu, rfl, ou, hB7⟩; have hz7 : w6.heap.size ≤ w7.heap.size := hB7.size; replace oq := oq.grow hB7; replace ox := ox.grow hB7; replace op := op.grow hB7; replace oy := oy.grow hB7; replace oz := oz.grow hB7; replace hB := hB.trans (hB7.mono (by omega)); replace hzw := hB.size; rw [hY.out] at ou; obtain ⟨Au, Nu, Ku, rfl⟩ := ou.slice) | (clear mk9; go_at_call 25; refine (likeTexts_any Y _ _ _ oy.rd ou.rd).mono ?_; rintro er w8 ⟨rfl, hB8⟩; have hz8 : w7.heap.size ≤ w8.heap.size := hB8.size; replace oq := oq.grow hB8; replace ox := ox.grow hB8; replace op := op.grow hB8; replace oy := oy.grow hB8; replace oz := oz.grow hB8; replace ou := ou.grow hB8; replace hB := hB.trans (hB8.mono (by omega)); replace hzw := hB.size) | (clear mk10; go_at_call 12; refine (implQueueOk_any q _ _ oq.rd HSq.out).mono ?_; rintro er wq ⟨he, hq⟩; subst wq; rw [hV.out] at he; subst he) | (clear mk11; go_at_call 10; refine (specQueueOk_any q _ _ oq.rd HSq.out).mono ?_; rintro er wq ⟨he, hq⟩; subst wq; rw [hV.out] at he; subst he) | (fail))
  clear ou oz hzz hbb
  go_cut [74] from 63 to 74 (fun u wc => u = .bool false ∧ w8 = wc)
  case first =>
    cases hp : namesB p with
    | false =>
      go_wp2_with (first | (go_at_call 10; refine (specQueueOk_any p _ _ op.rd HSp.out).mono ?_; rintro e wq ⟨rfl, hq⟩; subst wq; rw [hp]) | (fail))
      go_meet
      case rel => exact ⟨rfl, rfl⟩
    | true =>
      have hw := wi_ok (s := t) hp
      rw [hY.out] at hw
      have HW : Hid (t ∉ Y) := hw.1
      have HY : Hid (namesB Y = true) := hw.2
      have HSY : Hid (∀ s ∈ Y, s.size ≤ 9223372036854775807) := fun s hs => by have := (nameB_size ((namesB_iff.1 hw.2).1 s hs)).2; omega
      clear hw
      go_wp2_with (first | (go_at_call 10; refine (specQueueOk_any p _ _ op.rd HSp.out).mono ?_; rintro e wq ⟨rfl, hq⟩; subst wq; rw [hp]) | (go_at_call 26; refine (hasText_no Y t _ _ oy.rd HW.out).mono ?_; rintro e wq ⟨rfl, hq⟩; subst wq) | (go_at_call 12; refine (implQueueOk_any Y _ _ oy.rd HSY.out).mono ?_; rintro e wq ⟨rfl, hq⟩; subst wq; rw [HY.out]) | (fail))
      go_meet
      case rel => exact ⟨rfl, rfl⟩
  case rest =>
    obtain ⟨rfl, rfl⟩ := hcut
    cases z with
    | false =>
      cases b with
      | false =>
        have eJ : J = [] := by rw [← hJ.out]; exact (to_no hV.out).2
        have hN0 : ((Nx : Int) == 0) = true := by rw [ox.rd.cap.1, eJ]; rfl
        go_wp2_with (first | (go_at_call 10; refine (specQueueOk_any q _ _ oq.rd HSq.out).mono ?_; rintro e wq ⟨he, hq⟩; subst wq; rw [hV.out] at he; subst he) | (fail))
        go_ret
        exact ⟨rfl, hB⟩
      | true =>
        have eJ : J = q := by rw [← hJ.out]; exact to_stay hV.out hZ.out
        have ox2 := ox.rd
        rw [eJ] at ox2
        clear eJ
        go_wp2_with (first | (go_at_call 10; refine (specQueueOk_any q _ _ oq.rd HSq.out).mono ?_; rintro e wq ⟨he, hq⟩; subst wq; rw [hV.out] at he; subst he) | (go_at_call 25; refine (likeTexts_any q _ _ _ ox2 oq.rd).mono ?_; rintro er w20 ⟨rfl, hB20⟩; replace hB := hB.trans (hB20.mono (by omega))) | (fail))
        go_ret
        exact ⟨rfl, hB⟩
    | true =>
      obtain ⟨eJ, nJ, nq, eW⟩ := to_ok hZ.out
      rw [hJ.out] at eJ nJ
      obtain ⟨os, hos⟩ := hid_ex (othersS q s)
      rw [hos.out] at eJ eW
      have HW : Hid (wiR q s = os) := eW
      have HK : Hid (namesB J = true) := namesB_iff.2 nJ
      have HSJ : Hid (∀ s ∈ J, s.size ≤ 9223372036854775807) := fun s hs => by have := (nameB_size (nJ.1 s hs)).2; omega
      have hJ1 : J.length = os.length + 1 := by rw [eJ]; simp
      have hJ2 : J.take os.length = os := by rw [eJ]; simp
      have hJ3 : J[os.length]'(by omega) = s := by simp [eJ]
      have hJl : J.length ≤ 20 := nJ.2.2
      have hNx : Nx = J.length := ox.rd.cap.1
      have hcx := ox.rd.cap.2
      obtain ⟨gx, rfl, -, dx, -⟩ := ownS_cell ox os.length (by omega)
      rw [hJ3] at dx
      have RT := ox.rd.take os.length (by omega)
      rw [hJ2] at RT
      obtain ⟨k, hk⟩ := hid_ex os.length
      rw [hk.out] at dx RT hJ1
      have hkk : Hid (os.length = k) := hk.out
      have RTH : Hid (Rd encS w8 (.slice (some ⟨gx, 0, none⟩) k Kx) os) := RT
      have hk1 : IntKind.i64.wrap ((Nx : Int) - 1) = (k : Int) := by rw [IntKind.wrap_i64]; omega
      have hk2 : (k : Int) < (Nx : Int) := by omega
      have hk3 : (k : Int) ≤ (Kx : Int) := by omega
      have hk4 : (0 : Int) ≤ (k : Int) := by omega
      have hk5 : (Nx : Int) ≤ (Kx : Int) := by omega
      have hss : (s.toList == s.toList) = true := by simp
      clear eJ nJ nq eW hJ1 hJ2 hJ3 hJl hNx hcx RT
      go_upto_region 14 with (fail)
      have hBd : Below w8.heap.size w8 w8.drew := (Below.refl _ _).drew
      have S1 : w8.drew.cell? ⟨gx, k, none⟩ = some (.string s) := dx
      have mka : Hid True := trivial
      go_region_held3 (fun w' => w'.cell? ⟨gx, k, none⟩ = some (.string s)) (first | assumption | exact S1) (first | (go_at_call 12; refine (implQueueOk_any J _ _ (ox.rd.grow hBd) HSJ.out).mono ?_; rintro e wq ⟨he, hq⟩; subst wq; rw [HK.out] at he; subst he) | (go_at_call 19; refine (implWithout_any q s _ w8.drew (oq.rd.grow hBd) HSq.out).mono ?_; rintro er w20 ⟨v20, rfl, o20, hB20⟩; rw [HW.out] at o20; obtain ⟨A20, N20, K20, rfl⟩ := o20.slice; have hz20 := hB20.size; have hC := hBd.trans (hB20.mono (Nat.le_refl _)); have S2 := (hC.cell (World.block_lt_of_cell? _ _ dx)).trans dx) | (go_at_call 25; refine (likeTexts_any os _ _ w20 (RTH.out.grow hC) o20.rd).mono ?_; rintro er w21 ⟨rfl, hB21⟩; have hC2 := hC.trans (hB21.mono hC.size); have S3 := (hC2.cell (World.block_lt_of_cell? _ _ dx)).trans dx) | (fail))
      go_wp2
      go_ret
      exact ⟨rfl, hB.trans (hC2.mono (by omega))⟩
end Go.Proofs.Ytlakpibiojdgeaa.lawQu
