/- Texts laid together: Cq8 Qp4. -/
import Derived.Test.YtapchjkiiifhdaaMg18
import Derived.Test.YtapchjkiiifhdaaMg09
import Derived.Lib.SmallJoins
import Derived.Deep.Slices
import Derived.Deep.RegionHeld3
import Derived.BigQuiet
import Derived.Deep.DeepCutAuto
import Derived.Deep.LoopGhost
/- Contracts: the program: the hand turned past one. -/
namespace Go.Proofs.Ytapchjkiiifhdaa.rg
open Go.ChangeShapes Go.WideShapes Go.ChangeAt Go.RowKit
open Go.Deep Go.Joins
open Go.Proofs.Ytapchjkiiifhdaa.ce Go.Proofs.Ytapchjkiiifhdaa.ro
set_option linter.unusedVariables false
set_option linter.unusedSimpArgs false

theorem tuR_is {r : Rg} (h : ROk r) (hn : r.N.length ≠ 0) : tuR r = tn r := by unfold tuR; rw [if_pos (ringB_iff.2 h), if_neg hn]; rfl
theorem tuS_is {r : Rg} (h : ROk r) (hn : r.N.length ≠ 0) : tuS r = atN (tn r) := by unfold tuS; rw [if_pos (ringB_iff.2 h), if_neg hn]; rfl
theorem put3r {w : World} {b : Nat} {t : TypeId} {y1 y2 y3 : Value} {v a2 : Int} (h : VBlk w b t ([y1, y2, y3].set 2 (.int .i64 v))) (e : v = a2) : VBlk w b t [y1, y2, .int .i64 a2] := by subst e; exact h
theorem hand_modI {a : Int} {n : Nat} (h0 : 0 ≤ a) (h : a ≤ 1000000) : (wrap64 (a + 1)).tmod (n : Int) = (a + 1) % (n : Int) := by
  rw [IntWalk.wrap64_in _ ⟨by omega, by omega⟩, Int.tmod_eq_emod_of_nonneg (by omega)]
set_option maxRecDepth 100000 in
set_option maxHeartbeats 4000000 in
theorem implTurnedPast_any (r : Rg) (hr : ROk r) (but : ByteArray) (hno : noneGo r.N but = false) (vN vU : Value) (w : World) (h : RdR w vN vU r) :
    Calls Try.prog 96 #[.agg #[vN, vU, .int .i64 r.A], .string but] w fun e w' => ∃ vN' vU', e = .returned (.tuple #[.agg #[vN', vU', .int .i64 (vicR r but).A], .string (atN (vicR r but))]) ∧ OwnR w' w.heap.size w'.heap.size vN' vU' (vicR r but) ∧ Below w.heap.size w w' := by
  obtain ⟨a, cap, rfl⟩ := h.n.form
  obtain ⟨c, dc, rfl⟩ := h.u.form
  have R : Hid (RdR w (.slice a r.N.length cap) (.slice c r.U.length dc) r) := h
  clear h
  have HV : Hid _ := vicR_ok hr hno
  have HR : Hid (ROk r) := hr
  have HNO : Hid (noneGo r.N but = false) := hno
  have HL1 : Hid (r.N.length ≠ 0) := fun e => by
    have : noneGo r.N but = true := noneGo_iff.2 (.inl (List.length_eq_zero_iff.1 e))
    rw [hno] at this; cases this
  clear hno hr
  obtain ⟨T, hT⟩ := hid_ex (vicR r but)
  rw [hT.out] at HV ⊢
  have m1 : Hid True := trivial
  have m2 : Hid True := trivial
  go_enter Try.func96, Try.ntmps96
  go_wp2_with (first | (clear m1; refine wpList_box_v rfl 33 _ rfl [.slice a r.N.length cap, .slice c r.U.length dc, .int .i64 r.A] rfl ?_; intro b2 w1 hb2 hw1 hB1 V2; have hz1 := hB1.size) | (clear m2; refine wpList_alloc_v rfl 33 rfl _ zeroRg ?_; intro b4 w2 hb4 hw4 hB2 V4; have hz2 := hB2.size; replace V2 := vblk_grow V2 (hB2.mono (Nat.le_refl _)); have hB12 := hB1.trans (hB2.mono hz1)) | (fail))
  go_step3
  go_wp2
  go_step3
  go_wp2
  have R2 : Hid (RdR w2 (.slice a r.N.length cap) (.slice c r.U.length dc) r) := R.out.grow hB12
  have HB0 : Hid (Below w.heap.size w w2 ∧ w.heap.size ≤ b2 ∧ w.heap.size ≤ b4 ∧ b2 ≠ b4 ∧ b2 < w2.heap.size ∧ b4 < w2.heap.size) := ⟨hB12, by omega, by omega, by omega, V2.lt, V4.lt⟩
  obtain ⟨HBW, hb20, hb40, hb24, hb21, hb41⟩ := HB0
  have HBW : Hid (Below w.heap.size w w2) := HBW
  go_loopg [6] 2 (fun f s wr => ∃ (r' : Rg) (a' c' : Option Addr) (n' k' m' d' : Nat), Hid (ROk r') ∧ Hid (r'.N = r.N) ∧ Hid (tnBut but f (tn r') = T) ∧ Hid (RdR wr (.slice a' n' k') (.slice c' m' d') r') ∧ Hid (VBlk wr b2 33 [.slice a' n' k', .slice c' m' d', .int .i64 r'.A]) ∧ Hid (VBlk wr b4 33 [.slice none 0 0, .slice none 0 0, .int .i64 0]) ∧ Hid (Below w.heap.size w wr))
  case atStart => exact ⟨r, _, _, _, _, _, _, HR, rfl, hT.out, R2, V2, V4, HBW⟩
  case round =>
    obtain ⟨r', a', c', n', k', m', d', HRO, HNN, HT, RR, W2, W4, HBB⟩ := hrel
    have hn' : r'.N.length ≠ 0 := by rw [HNN.out]; exact HL1.out
    have HTS : Hid (tuS r' = atN (tn r')) := tuS_is HRO.out hn'
    have HTR : Hid (tuR r' = tn r') := tuR_is HRO.out hn'
    have HT1 : Hid (ROk (tn r') ∧ (tn r').N = r.N) := ⟨(tn_ok HRO.out hn').1, by rw [(tn_ok HRO.out hn').2.2, HNN.out]⟩
    obtain ⟨z, hz⟩ := hid_ex (atN (tn r'))
    obtain ⟨⟨N3, U3, A3⟩, h3⟩ := hid_ex (tn r')
    have k2 := implTurns_all r' _ _ wr RR.out
    rw [HTS.out, HTR.out, h3.out, ← h3.out, hz.out, h3.out] at k2
    have k3 := fun (_ : Unit) => k2
    have K2 : Hid _ := k3
    rw [h3.out] at HT1 HT hz
    have hA3 : Hid (0 ≤ A3 ∧ A3 ≤ 1000000) := ⟨HT1.out.1.a0, by have := HT1.out.1.a1; have := HT1.out.1.le; dsimp only at *; omega⟩
    obtain ⟨c0, c1, c2⟩ := cells3 W2.out
    have hbB := HBB.out.size
    clear k2 k3 hn'
    by_cases hbz : z = but
    · subst hbz
      have hzz : (z.toList == z.toList) = true := by simp
      have hg : ∃ f, gk = f + 1 := by
        cases gk with
        | zero => exact absurd ((congrArg atN HT.out).symm.trans hz.out) HV.out.2.2.1
        | succ f => exact ⟨f, rfl⟩
      obtain ⟨f, hgf⟩ := hg
      have HGF : Hid (gk = f + 1) := hgf
      have hT1 := HT.out
      rw [hgf] at hT1
      have hstep : tnBut z (f + 1) ⟨N3, U3, A3⟩ = tnBut z f (tn (nx ⟨N3, U3, A3⟩)) := by simp only [tnBut, if_pos hz.out]
      rw [hstep] at hT1
      have HT2 : Hid (tnBut z f (tn ⟨N3, U3, (A3 + 1) % (N3.length : Int)⟩) = T) := hT1
      have HN2 : Hid (ROk ⟨N3, U3, (A3 + 1) % (N3.length : Int)⟩) := nx_ok HT1.out.1 (by have := HT1.out.2; rw [show (⟨N3, U3, A3⟩ : Rg).N = r.N from this]; exact HL1.out)
      have HLN3 : Hid (N3.length ≠ 0) := by have := HT1.out.2; dsimp only at this; rw [this]; exact HL1.out
      clear hgf hstep hT1
      go_wp2_with (first | (go_at_call 156; refine (K2.out ()).mono ?_; rintro e w5 ⟨vN5, vU5, rfl, o5, hB5⟩; obtain ⟨aN5, nN5, kN5, rfl⟩ := o5.n.slice; obtain ⟨aU5, nU5, kU5, rfl⟩ := o5.u.slice; have W25 := vblk_grow W2.out hB5; have W45 := vblk_grow W4.out hB5; have hz5 := hB5.size; have hN5 : Hid (nN5 = N3.length) := o5.n.rd.cap.1; have hn50 : (nN5 : Int) ≠ 0 := (by have := hN5.out; have := HLN3.out; omega); have hn51 : ((nN5 : Int) == 0) = false := by simpa using hn50) | (refine wpList_store_v rfl 33 _ _ rfl b2 [.slice aN5 nN5 kN5, .slice aU5 nU5 kU5, .int .i64 A3] rfl rfl sizeRg W25 rfl (by simp [Value.oneCell']) ?_; intro w6 hO6 V6; clear c0 c1 c2; obtain ⟨c0, c1, c2⟩ := cells3 V6; have W46 := vblk_only W45 hO6 (by omega)) | (refine wpList_store_cc rfl 2 _ _ rfl b2 2 _ rfl rfl rfl szI3 V6 (by simp) ?_; intro w8 hO8 V8x; have V8 := put3r (a2 := (A3 + 1) % (N3.length : Int)) V8x (by rw [← hN5.out]; exact hand_modI hA3.out.1 hA3.out.2)) | (fail))
      go_roundg f
      case measure => have := HGF.out; omega
      case rel =>
        have o8 := (o5.only hO6 W25 (by decide) (by decide)).only hO8 V6 (by decide) (by decide)
        have W8 := vblk_only (vblk_only W45 hO6 (by omega)) hO8 (by omega)
        have hB8 := ((HBB.out.trans (hB5.mono hbB)).trans (hO6.2.2 _ hb20)).trans (hO8.2.2 _ hb20)
        exact ⟨⟨N3, U3, (A3 + 1) % (N3.length : Int)⟩, _, _, _, _, _, _, HN2, HT1.out.2, HT2, (show OwnR _ _ _ _ _ ⟨N3, U3, (A3 + 1) % (N3.length : Int)⟩ from ⟨o8.n, o8.u⟩).rd (names_sz ⟨HN2.out.nm, HN2.out.nd, HN2.out.le⟩), V8, W8, hB8⟩
    · have hzz : (z.toList == but.toList) = false := by
        simp only [beq_eq_false_iff_ne, ne_eq]
        exact fun e => hbz (str_eq e)
      have hT2 := tnBut_stop (r := ⟨N3, U3, A3⟩) (fun e => hbz (hz.out.symm.trans e)) gk
      have hT3 := hT2.symm.trans HT.out
      have HLN3 : Hid (N3.length ≠ 0) := by have := HT1.out.2; dsimp only at this; rw [this]; exact HL1.out
      clear hT2 hbz
      subst hT3
      go_wp2_with (first | (go_at_call 156; refine (K2.out ()).mono ?_; rintro e w5 ⟨vN5, vU5, rfl, o5, hB5⟩; obtain ⟨aN5, nN5, kN5, rfl⟩ := o5.n.slice; obtain ⟨aU5, nU5, kU5, rfl⟩ := o5.u.slice; have W25 := vblk_grow W2.out hB5; have W45 := vblk_grow W4.out hB5; have hz5 := hB5.size; have hN5 : Hid (nN5 = N3.length) := o5.n.rd.cap.1; have hn50 : (nN5 : Int) ≠ 0 := (by have := hN5.out; have := HLN3.out; omega); have hn51 : ((nN5 : Int) == 0) = false := by simpa using hn50) | (refine wpList_store_v rfl 33 _ _ rfl b2 [.slice aN5 nN5 kN5, .slice aU5 nU5 kU5, .int .i64 A3] rfl rfl sizeRg W25 rfl (by simp [Value.oneCell']) ?_; intro w6 hO6 V6; clear c0 c1 c2; obtain ⟨c0, c1, c2⟩ := cells3 V6; have W46 := vblk_only W45 hO6 (by omega)) | (refine wpList_store_v rfl 33 _ _ rfl b4 [.slice aN5 nN5 kN5, .slice aU5 nU5 kU5, .int .i64 A3] rfl rfl sizeRg W46 rfl (by simp [Value.oneCell']) ?_; intro w8 hO8 V8) | (fail))
      try rw [Exit.noGoto_ret]
      have o8 := (o5.only hO6 W25 (by decide) (by decide)).only hO8 W46 (by decide) (by decide)
      have hB8 := ((HBB.out.trans (hB5.mono hbB)).trans (hO6.2.2 _ hb20)).trans (hO8.2.2 _ hb40)
      exact row_ct (x := .string z) rfl rfl rfl V8 Try.underlying33 sizeRg rfl ⟨_, _, congrArg (fun q => Ending.returned (.tuple #[.agg #[.slice aN5 nN5 kN5, .slice aU5 nU5 kU5, .int .i64 A3], .string q])) hz.out.symm, o8.wide hbB (by have := Nat.le_of_eq hO6.1.symm; have := Nat.le_of_eq hO8.1.symm; omega), hB8⟩
end Go.Proofs.Ytapchjkiiifhdaa.rg
/- Contracts: who is sampled: the program's. -/
namespace Go.Proofs.Ytapchjkiiifhdaa.rg
open Go.ChangeShapes Go.WideShapes Go.ChangeAt Go.RowKit
open Go.Proofs.Ytapchjkiiifhdaa.ce Go.Proofs.Ytapchjkiiifhdaa.ro
set_option linter.unusedVariables false

theorem rdN_rest {w : World} {b off n cap : Nat} {xs : List Int} (r : Rd encI w (.slice (some ⟨b, off, none⟩) n cap) xs) (m : Nat) (hm : m ≤ xs.length) :
    Rd encI w (.slice (if cap = m then some ⟨b, off, none⟩ else some ⟨b, off + m, none⟩) (n - m) (cap - m)) (xs.drop m) := by
  rcases r.rest m hm with ⟨h1, h2⟩ | ⟨h1, h2, h3, h4⟩
  · rw [if_neg (by omega)]
    simpa [encI] using h2.out
  · rw [if_pos h1.symm, h1, h2, h1, Nat.sub_self, ← h1]
    exact h4.out

theorem implSampled_any (q : List ByteArray) (s m : Int) (v : Value) (w : World) (r : Rd encS w v q) (hs : ∀ s ∈ q, s.size ≤ 9223372036854775807) :
    Calls Try.prog 95 #[v, .int .i64 s, .int .i64 m] w fun e w' => e = .returned (.string (saS q s m)) ∧ Below w.heap.size w w' := by
  obtain ⟨a, cap, rfl⟩ := r.form
  have R : Hid (Rd encS w (.slice a q.length cap) q) := r
  have HS : Hid (∀ s ∈ q, s.size ≤ 9223372036854775807) := hs
  clear r hs
  cases hk : namesB q with
  | false =>
    rw [saS_no (saB_no1 hk)]
    go_enter Try.func95, Try.ntmps95
    go_wp2_with (first | (go_at_call 127; refine (implQueueOk_any q _ _ R.out HS.out).mono ?_; rintro e wq ⟨rfl, hq⟩; subst wq; rw [hk]) | (fail))
    go_ret
    exact ⟨rfl, Below.refl _ _⟩
  | true =>
    cases h0 : ((q.length : Int) == 0) with
    | true =>
      rw [saS_no (saB_no2 h0)]
      go_enter Try.func95, Try.ntmps95
      go_wp2_with (first | (go_at_call 127; refine (implQueueOk_any q _ _ R.out HS.out).mono ?_; rintro e wq ⟨rfl, hq⟩; subst wq; rw [hk]) | (fail))
      go_ret
      exact ⟨rfl, Below.refl _ _⟩
    | false =>
      by_cases c1 : s < 0
      · rw [saS_no (saB_no3 (by rw [decide_eq_false (by omega)]; rfl))]
        go_enter Try.func95, Try.ntmps95
        go_wp2_with (first | (go_at_call 127; refine (implQueueOk_any q _ _ R.out HS.out).mono ?_; rintro e wq ⟨rfl, hq⟩; subst wq; rw [hk]) | (fail))
        go_ret
        exact ⟨rfl, Below.refl _ _⟩
      by_cases c2 : s > 1000000
      · rw [saS_no (saB_no3 (by rw [decide_eq_false (show ¬ s ≤ 1000000 by omega)]; simp))]
        go_enter Try.func95, Try.ntmps95
        go_wp2_with (first | (go_at_call 127; refine (implQueueOk_any q _ _ R.out HS.out).mono ?_; rintro e wq ⟨rfl, hq⟩; subst wq; rw [hk]) | (fail))
        go_ret
        exact ⟨rfl, Below.refl _ _⟩
      by_cases c3 : m < 1
      · rw [saS_no (saB_no4 (by rw [decide_eq_false (by omega)]; rfl))]
        go_enter Try.func95, Try.ntmps95
        go_wp2_with (first | (go_at_call 127; refine (implQueueOk_any q _ _ R.out HS.out).mono ?_; rintro e wq ⟨rfl, hq⟩; subst wq; rw [hk]) | (fail))
        go_ret
        exact ⟨rfl, Below.refl _ _⟩
      by_cases c4 : m > 20
      · rw [saS_no (saB_no4 (by rw [decide_eq_false (show ¬ m ≤ 20 by omega)]; simp))]
        go_enter Try.func95, Try.ntmps95
        go_wp2_with (first | (go_at_call 127; refine (implQueueOk_any q _ _ R.out HS.out).mono ?_; rintro e wq ⟨rfl, hq⟩; subst wq; rw [hk]) | (fail))
        go_ret
        exact ⟨rfl, Below.refl _ _⟩
      have ok : SOk q s m := saB_iff.1 (by unfold saB; rw [hk, h0, decide_eq_true (show 0 ≤ s by omega), decide_eq_true (show s ≤ 1000000 by omega), decide_eq_true (show 1 ≤ m by omega), decide_eq_true (show m ≤ 20 by omega)]; rfl)
      have hlt := saI_lt ok
      rw [saS_yes ok]
      obtain ⟨F, hF⟩ : ∃ F : ByteArray, Hid (q[saI q s m]'hlt = F) := ⟨_, rfl⟩
      rw [hF.out]
      have hn1 := ok.n0
      have hn2 := ok.nk.2.2
      obtain ⟨j, hk2⟩ : ∃ j : Nat, m = ((j + 1 : Nat) : Int) := ⟨m.toNat - 1, by omega⟩
      subst hk2
      obtain ⟨b, off, rfl, hb, dq⟩ := rdS_cell R.out (saI q s _) hlt
      rw [hF.out] at dq
      have hI : saI q s ((j + 1 : Nat) : Int) = mins q.length (j + 1) q.length (s.toNat % q.length) := by
        unfold saI
        rw [Int.toNat_natCast]
      rw [hI] at dq hlt
      clear hF ok hI
      have hpl := Nat.mod_lt s.toNat hn1
      obtain ⟨p, hp⟩ := hid_ex (s.toNat % q.length)
      rw [hp.out] at hpl dq hlt
      have hfm := fm_plcs hpl j
      obtain ⟨n, hn⟩ := hid_ex q.length
      obtain ⟨B, hB⟩ := hid_ex (mins n (j + 1) n p)
      rw [hn.out, hB.out] at dq hlt hfm
      have HFM : Hid (fm p ((plcs n p (j + 1)).drop 1) = (B : Int)) := hfm
      clear hfm
      rw [hn.out] at hpl hn1 hn2 h0 R hp
      have hlt' : (B : Int) < (n : Int) := by omega
      obtain ⟨k, hk3⟩ := hid_ex (j + 1)
      rw [hk3.out] at c3 c4 HFM ⊢
      have hk4 : 1 ≤ k := by have := hk3.out; omega
      have hk5 : (1 : Int) ≤ (k : Int) := by omega
      have hk6 : k ≤ 20 := by omega
      have hk7 : (0 : Int) < (k : Int) := by omega
      have hk8 : 0 < k := by omega
      rw [hn.out]
      go_enter Try.func95, Try.ntmps95
      go_wp2_with (first | (go_at_call 127; refine (implQueueOk_any q _ _ R.out HS.out).mono ?_; rintro e wq ⟨rfl, hq⟩; subst wq; rw [hk]) | (go_at_call 154; refine (placesFrom_any s k n p (by omega) hk6 hn1 hn2 hp.out _).mono ?_; rintro e w1 ⟨g, rfl, o1, hB1⟩) | (fail))
      have O1 : Hid (Own encI w1 w.heap.size w1.heap.size (.slice (some ⟨g, 0, none⟩) k k) (plcs n p k)) := o1
      have hlp : (plcs n p k).length = k := plcs_len n p k
      obtain ⟨g', e', -, d1, -⟩ := ownN_cell o1 0 (by omega)
      cases e'
      rw [plcs_get] at d1
      replace d1 : w1.cell? ⟨g, 0, none⟩ = some (.int .i64 (p : Int)) := d1
      have RR := rdN_rest o1.rd 1 (by omega)
      obtain ⟨ad, had⟩ : ∃ ad, (if k = 1 then some (⟨g, 0, none⟩ : Addr) else some ⟨g, 0 + 1, none⟩) = ad := ⟨_, rfl⟩
      rw [had] at RR
      have HR : Hid (Rd encI w1 (.slice ad (k - 1) (k - 1)) ((plcs n p k).drop 1)) := RR
      have dq1 := (hB1.cell (World.block_lt_of_cell? _ _ dq)).trans dq
      clear RR o1 hlp dq
      have hBd : Below w1.heap.size w1 w1.drew := (Below.refl _ _).drew
      have S1 : w1.drew.cell? ⟨g, 0, none⟩ = some (.int .i64 (p : Int)) ∧ w1.drew.cell? ⟨b, off + B, none⟩ = some (.string F) := ⟨d1, dq1⟩
      go_region_held3 (fun w' => w'.cell? ⟨g, 0, none⟩ = some (.int .i64 (p : Int)) ∧ w'.cell? ⟨b, off + B, none⟩ = some (.string F)) (first | assumption | exact S1) (first | (go_at_call 155; refine (foremost_any p ((plcs n p k).drop 1) _ _ _ _ (HR.out.grow hBd)).mono ?_; rintro e wq ⟨rfl, hq⟩; subst wq; rw [HFM.out]) | (fail))
      go_wp2
      go_ret
      exact ⟨rfl, hB1.drew⟩
end Go.Proofs.Ytapchjkiiifhdaa.rg
