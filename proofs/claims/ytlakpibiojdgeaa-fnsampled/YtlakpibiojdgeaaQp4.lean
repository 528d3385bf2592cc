/- Contracts: who is sampled: the program's. -/
import Derived.Test.YtlakpibiojdgeaaQp3
namespace Go.Proofs.Ytlakpibiojdgeaa.rg
open Go.ChangeShapes Go.WideShapes Go.ChangeAt Go.RowKit
open Go.Proofs.Ytlakpibiojdgeaa.ce Go.Proofs.Ytlakpibiojdgeaa.ro
set_option linter.unusedVariables false

theorem rdN_rest {w : World} {b off n cap : Nat} {xs : List Int} (r : Rd encI w (.slice (some ⟨b, off, none⟩) n cap) xs) (m : Nat) (hm : m ≤ xs.length) :
    Rd encI w (.slice (if cap = m then some ⟨b, off, none⟩ else some ⟨b, off + m, none⟩) (n - m) (cap - m)) (xs.drop m) := by
  rcases r.rest m hm with ⟨h1, h2⟩ | ⟨h1, h2, h3, h4⟩
  · rw [if_neg (by omega)]
    simpa [encI] using h2.out
  · rw [if_pos h1.symm, h1, h2, h1, Nat.sub_self, ← h1]
    exact h4.out

theorem implSampled_any (q : List ByteArray) (s m : Int) (v : Value) (w : World) (r : Rd encS w v q) (hs : ∀ s ∈ q, s.size ≤ 9223372036854775807) :
    Calls Try.prog 21 #[v, .int .i64 s, .int .i64 m] w fun e w' => e = .returned (.string (saS q s m)) ∧ Below w.heap.size w w' := by
  obtain ⟨a, cap, rfl⟩ := r.form
  have R : Hid (Rd encS w (.slice a q.length cap) q) := r
  have HS : Hid (∀ s ∈ q, s.size ≤ 9223372036854775807) := hs
  clear r hs
  cases hk : namesB q with
  | false =>
    rw [saS_no (saB_no1 hk)]
    go_enter Try.func21, Try.ntmps21
    go_wp2_with (first | (go_at_call 12; refine (implQueueOk_any q _ _ R.out HS.out).mono ?_; rintro e wq ⟨rfl, hq⟩; subst wq; rw [hk]) | (fail))
    go_ret
    exact ⟨rfl, Below.refl _ _⟩
  | true =>
    cases h0 : ((q.length : Int) == 0) with
    | true =>
      rw [saS_no (saB_no2 h0)]
      go_enter Try.func21, Try.ntmps21
      go_wp2_with (first | (go_at_call 12; refine (implQueueOk_any q _ _ R.out HS.out).mono ?_; rintro e wq ⟨rfl, hq⟩; subst wq; rw [hk]) | (fail))
      go_ret
      exact ⟨rfl, Below.refl _ _⟩
    | false =>
      by_cases c1 : s < 0
      · rw [saS_no (saB_no3 (by rw [decide_eq_false (by omega)]; rfl))]
        go_enter Try.func21, Try.ntmps21
        go_wp2_with (first | (go_at_call 12; refine (implQueueOk_any q _ _ R.out HS.out).mono ?_; rintro e wq ⟨rfl, hq⟩; subst wq; rw [hk]) | (fail))
        go_ret
        exact ⟨rfl, Below.refl _ _⟩
      by_cases c2 : s > 1000000
      · rw [saS_no (saB_no3 (by rw [decide_eq_false (show ¬ s ≤ 1000000 by omega)]; simp))]
        go_enter Try.func21, Try.ntmps21
        go_wp2_with (first | (go_at_call 12; refine (implQueueOk_any q _ _ R.out HS.out).mono ?_; rintro e wq ⟨rfl, hq⟩; subst wq; rw [hk]) | (fail))
        go_ret
        exact ⟨rfl, Below.refl _ _⟩
      by_cases c3 : m < 1
      · rw [saS_no (saB_no4 (by rw [decide_eq_false (by omega)]; rfl))]
        go_enter Try.func21, Try.ntmps21
        go_wp2_with (first | (go_at_call 12; refine (implQueueOk_any q _ _ R.out HS.out).mono ?_; rintro e wq ⟨rfl, hq⟩; subst wq; rw [hk]) | (fail))
        go_ret
        exact ⟨rfl, Below.refl _ _⟩
      by_cases c4 : m > 20
      · rw [saS_no (saB_no4 (by rw [decide_eq_false (show ¬ m ≤ 20 by omega)]; simp))]
        go_enter Try.func21, Try.ntmps21
        go_wp2_with (first | (go_at_call 12; refine (implQueueOk_any q _ _ R.out HS.out).mono ?_; rintro e wq ⟨rfl, hq⟩; subst wq; rw [hk]) | (fail))
        go_ret
        exact ⟨rfl, Below.refl _ _⟩
      have ok : SOk q s m := saB_iff.1 (by unfold saB; rw [hk, h0, decide_eq_true (show 0 ≤ s by omega), decide_eq_true (show s ≤ 1000000 by omega), decide_eq_true (show 1 ≤ m by omega), decide_eq_true (show m ≤ 20 by omega)]; rfl)
      have hlt := saI_lt ok
      rw [saS_yes ok]
      obtain ⟨F, hF⟩ : ∃ F : ByteArray, Hid (q[saI q s m]'hlt = F) := ⟨_, rfl⟩
      rw [hF.out]
      have hn1 := ok.n0
      have hn2 := ok.nk.2.2
      obtain ⟨j, hk2⟩ : ∃ j : Nat, m = ((j + 1 : Nat) : Int) := ⟨m.toNat - 1, by omega⟩
      subst hk2
      obtain ⟨b, off, rfl, hb, dq⟩ := rdS_cell R.out (saI q s _) hlt
      rw [hF.out] at dq
      have hI : saI q s ((j + 1 : Nat) : Int) = mins q.length (j + 1) q.length (s.toNat % q.length) := by
        unfold saI
        rw [Int.toNat_natCast]
      rw [hI] at dq hlt
      clear hF ok hI
      have hpl := Nat.mod_lt s.toNat hn1
      obtain ⟨p, hp⟩ := hid_ex (s.toNat % q.length)
      rw [hp.out] at hpl dq hlt
      have hfm := fm_plcs hpl j
      obtain ⟨n, hn⟩ := hid_ex q.length
      obtain ⟨B, hB⟩ := hid_ex (mins n (j + 1) n p)
      rw [hn.out, hB.out] at dq hlt hfm
      have HFM : Hid (fm p ((plcs n p (j + 1)).drop 1) = (B : Int)) := hfm
      clear hfm
      rw [hn.out] at hpl hn1 hn2 h0 R hp
      have hlt' : (B : Int) < (n : Int) := by omega
      obtain ⟨k, hk3⟩ := hid_ex (j + 1)
      rw [hk3.out] at c3 c4 HFM ⊢
      have hk4 : 1 ≤ k := by have := hk3.out; omega
      have hk5 : (1 : Int) ≤ (k : Int) := by omega
      have hk6 : k ≤ 20 := by omega
      have hk7 : (0 : Int) < (k : Int) := by omega
      have hk8 : 0 < k := by omega
      rw [hn.out]
      go_enter Try.func21, Try.ntmps21
      go_wp2_with (first | (go_at_call 12; refine (implQueueOk_any q _ _ R.out HS.out).mono ?_; rintro e wq ⟨rfl, hq⟩; subst wq; rw [hk]) | (go_at_call 37; refine (placesFrom_any s k n p (by omega) hk6 hn1 hn2 hp.out _).mono ?_; rintro e w1 ⟨g, rfl, o1, hB1⟩) | (fail))
      have O1 : Hid (Own encI w1 w.heap.size w1.heap.size (.slice (some ⟨g, 0, none⟩) k k) (plcs n p k)) := o1
      have hlp : (plcs n p k).length = k := plcs_len n p k
      obtain ⟨g', e', -, d1, -⟩ := ownN_cell o1 0 (by omega)
      cases e'
      rw [plcs_get] at d1
      replace d1 : w1.cell? ⟨g, 0, none⟩ = some (.int .i64 (p : Int)) := d1
      have RR := rdN_rest o1.rd 1 (by omega)
      obtain ⟨ad, had⟩ : ∃ ad, (if k = 1 then some (⟨g, 0, none⟩ : Addr) else some ⟨g, 0 + 1, none⟩) = ad := ⟨_, rfl⟩
      rw [had] at RR
      have HR : Hid (Rd encI w1 (.slice ad (k - 1) (k - 1)) ((plcs n p k).drop 1)) := RR
      have dq1 := (hB1.cell (World.block_lt_of_cell? _ _ dq)).trans dq
      clear RR o1 hlp dq
      have hBd : Below w1.heap.size w1 w1.drew := (Below.refl _ _).drew
      have S1 : w1.drew.cell? ⟨g, 0, none⟩ = some (.int .i64 (p : Int)) ∧ w1.drew.cell? ⟨b, off + B, none⟩ = some (.string F) := ⟨d1, dq1⟩
      go_region_held3 (fun w' => w'.cell? ⟨g, 0, none⟩ = some (.int .i64 (p : Int)) ∧ w'.cell? ⟨b, off + B, none⟩ = some (.string F)) (first | assumption | exact S1) (first | (go_at_call 38; refine (foremost_any p ((plcs n p k).drop 1) _ _ _ _ (HR.out.grow hBd)).mono ?_; rintro e wq ⟨rfl, hq⟩; subst wq; rw [HFM.out]) | (fail))
      go_wp2
      go_ret
      exact ⟨rfl, hB1.drew⟩
end Go.Proofs.Ytlakpibiojdgeaa.rg
