/- Contracts: who is sampled: the model's and the program's. -/
import Derived.Test.YtlakpibiojdgeaaQp2
import Derived.BigQuiet
namespace Go.Proofs.Ytlakpibiojdgeaa.rg
open Go.ChangeShapes Go.WideShapes Go.ChangeAt Go.RowKit
open Go.Proofs.Ytlakpibiojdgeaa.ce Go.Proofs.Ytlakpibiojdgeaa.ro
set_option linter.unusedVariables false

theorem l1Min_any (x y : Nat) (w : World) : Calls Try.prog 36 #[.int .i64 x, .int .i64 y] w fun e w' => e = .returned (.int .i64 (min x y : Nat)) ∧ w' = w := by
  obtain ⟨z, hz⟩ := hid_ex (min x y)
  rw [hz.out]
  by_cases h : (x : Int) < (y : Int)
  · have e : z = x := by rw [← hz.out]; exact Nat.min_eq_left (by omega)
    subst e
    go_enter Try.func36, Try.ntmps36
    go_wp2
    go_ret
    exact ⟨rfl, rfl⟩
  · have e : z = y := by rw [← hz.out]; exact Nat.min_eq_right (by omega)
    subst e
    go_enter Try.func36, Try.ntmps36
    go_wp2
    go_ret
    exact ⟨rfl, rfl⟩

theorem saB_no1 {q : List ByteArray} {s m : Int} (h : namesB q = false) : saB q s m = false := by unfold saB; rw [h]; rfl
theorem saB_no2 {q : List ByteArray} {s m : Int} (h : ((q.length : Int) == 0) = true) : saB q s m = false := by unfold saB; rw [h]; simp
theorem saB_no3 {q : List ByteArray} {s m : Int} (h : (decide (0 ≤ s) && decide (s ≤ 1000000)) = false) : saB q s m = false := by unfold saB; rw [h]; simp
theorem saB_no4 {q : List ByteArray} {s m : Int} (h : (decide (1 ≤ m) && decide (m ≤ 20)) = false) : saB q s m = false := by unfold saB; rw [h]; simp

theorem specSampled_any (q : List ByteArray) (s m : Int) (v : Value) (w : World) (r : Rd encS w v q) (hs : ∀ s ∈ q, s.size ≤ 9223372036854775807) :
    Calls Try.prog 20 #[v, .int .i64 s, .int .i64 m] w fun e w' => e = .returned (.string (saS q s m)) ∧ w' = w := by
  obtain ⟨a, cap, rfl⟩ := r.form
  have R : Hid (Rd encS w (.slice a q.length cap) q) := r
  have HS : Hid (∀ s ∈ q, s.size ≤ 9223372036854775807) := hs
  clear r hs
  cases hk : namesB q with
  | false =>
    rw [saS_no (saB_no1 hk)]
    go_enter Try.func20, Try.ntmps20
    go_wp2_with (first | (go_at_call 10; refine (specQueueOk_any q _ _ R.out HS.out).mono ?_; rintro e wq ⟨rfl, hq⟩; subst wq; rw [hk]) | (fail))
    go_ret
    exact ⟨rfl, rfl⟩
  | true =>
    cases h0 : ((q.length : Int) == 0) with
    | true =>
      rw [saS_no (saB_no2 h0)]
      go_enter Try.func20, Try.ntmps20
      go_wp2_with (first | (go_at_call 10; refine (specQueueOk_any q _ _ R.out HS.out).mono ?_; rintro e wq ⟨rfl, hq⟩; subst wq; rw [hk]) | (fail))
      go_ret
      exact ⟨rfl, rfl⟩
    | false =>
      have m1 : Hid True := trivial
      cases hi1 : (decide (0 ≤ s) && decide (s ≤ 1000000)) with
      | false =>
        rw [saS_no (saB_no3 hi1)]
        have HI1 : Hid ((decide (0 ≤ s) && decide (s ≤ 1000000)) = false) := hi1
        clear hi1
        go_enter Try.func20, Try.ntmps20
        go_wp2_with (first | (go_at_call 10; refine (specQueueOk_any q _ _ R.out HS.out).mono ?_; rintro e wq ⟨rfl, hq⟩; subst wq; rw [hk]) | (clear m1; go_at_call 35; refine (in_is _ _ _ false HI1.out _).mono ?_; rintro e wq ⟨rfl, hq⟩; subst wq) | (fail))
        go_ret
        exact ⟨rfl, rfl⟩
      | true =>
        cases hi2 : (decide (1 ≤ m) && decide (m ≤ 20)) with
        | false =>
          rw [saS_no (saB_no4 hi2)]
          have HI1 : Hid ((decide (0 ≤ s) && decide (s ≤ 1000000)) = true) := hi1
          have HI2 : Hid ((decide (1 ≤ m) && decide (m ≤ 20)) = false) := hi2
          clear hi1 hi2
          go_enter Try.func20, Try.ntmps20
          go_wp2_with (first | (go_at_call 10; refine (specQueueOk_any q _ _ R.out HS.out).mono ?_; rintro e wq ⟨rfl, hq⟩; subst wq; rw [hk]) | (clear m1; go_at_call 35; refine (in_is _ _ _ true HI1.out _).mono ?_; rintro e wq ⟨rfl, hq⟩; subst wq) | (go_at_call 35; refine (in_is _ _ _ false HI2.out _).mono ?_; rintro e wq ⟨rfl, hq⟩; subst wq) | (fail))
          go_ret
          exact ⟨rfl, rfl⟩
        | true =>
          have ok : SOk q s m := saB_iff.1 (by unfold saB; rw [hk, h0, hi1, hi2]; rfl)
          have HI1 : Hid ((decide (0 ≤ s) && decide (s ≤ 1000000)) = true) := hi1
          have HI2 : Hid ((decide (1 ≤ m) && decide (m ≤ 20)) = true) := hi2
          clear hi1 hi2
          have hlt := saI_lt ok
          rw [saS_yes ok]
          obtain ⟨F, hF⟩ : ∃ F : ByteArray, Hid (q[saI q s m]'hlt = F) := ⟨_, rfl⟩
          rw [hF.out]
          have hm0 := ok.m0
          have hm1 := ok.m1
          have hs0 := ok.s0
          have hn1 := ok.n0
          have hn2 := ok.nk.2.2
          obtain ⟨k, hk2⟩ : ∃ k : Nat, m = k := ⟨m.toNat, by omega⟩
          subst hk2
          obtain ⟨b, off, rfl, hb, dq⟩ := rdS_cell R.out (saI q s k) hlt
          rw [hF.out] at dq
          have hI : saI q s k = mins q.length k q.length (s.toNat % q.length) := rfl
          rw [hI] at dq hlt
          clear hF ok hI
          have hpl := Nat.mod_lt s.toNat hn1
          have hm : s.tmod (q.length : Int) = ((s.toNat % q.length : Nat) : Int) := mod_tm hs0
          obtain ⟨p, hp⟩ := hid_ex (s.toNat % q.length)
          rw [hp.out] at hm hpl dq hlt
          obtain ⟨n, hn⟩ := hid_ex q.length
          obtain ⟨B, hB⟩ := hid_ex (mins n k n p)
          rw [hn.out, hB.out] at dq hlt
          rw [hn.out] at hm hpl hn1 hn2 h0 R
          have hlt' : (B : Int) < (n : Int) := by omega
          have hnz : (n : Int) ≠ 0 := by omega
          rw [hn.out]
          go_enter Try.func20, Try.ntmps20
          go_wp2_with (first | (go_at_call 10; refine (specQueueOk_any q _ _ R.out HS.out).mono ?_; rintro e wq ⟨rfl, hq⟩; subst wq; rw [hk]) | (clear m1; go_at_call 35; refine (in_is _ _ _ true HI1.out _).mono ?_; rintro e wq ⟨rfl, hq⟩; subst wq) | (go_at_call 35; refine (in_is _ _ _ true HI2.out _).mono ?_; rintro e wq ⟨rfl, hq⟩; subst wq) | (fail))
          go_loop [8, 9, 10] (fun u v c => ∃ (i x y : Nat), i ≤ k ∧ c = .int .i64 i ∧ u = .int .i64 x ∧ v = .int .i64 y ∧ Hid (mins n i n p = x) ∧ Hid (plc n p i = y) ∧ y < n) (fun _ _ c => k - (intOf c).toNat)
          case atStart => exact ⟨0, n, p, by omega, rfl, rfl, by first | rfl | simp [hm], rfl, rfl, hpl⟩
          case round =>
            obtain ⟨i, x, y, hi1, rfl, rfl, rfl, hx, hy, hyn⟩ := hrel
            by_cases hlk : i < k
            · have hlk' : (i : Int) < (k : Int) := by omega
              have hnx : Hid (plc n p (i + 1) = (7 * y + 3) % n) := by unfold Hid; rw [plc_succ, hy.out]; rfl
              have hnl : (7 * y + 3) % n < n := Nat.mod_lt _ (by omega)
              obtain ⟨x', hx'⟩ := hid_ex ((7 * y + 3) % n)
              rw [hx'.out] at hnx hnl
              have hmx : (7 * (y : Int) + 3).tmod (n : Int) = (x' : Int) := by
                rw [mod_tm (by omega), show (7 * (y : Int) + 3).toNat = 7 * y + 3 by omega, hx'.out]
              have hw1 : IntKind.i64.wrap (7 * (y : Int)) = 7 * (y : Int) := by rw [IntKind.wrap_i64]; omega
              have hw2 : IntKind.i64.wrap (7 * (y : Int) + 3) = 7 * (y : Int) + 3 := by rw [IntKind.wrap_i64]; omega
              have hw3 : IntKind.i64.wrap (x' : Int) = (x' : Int) := by rw [IntKind.wrap_i64]; omega
              have hmn : mins n (i + 1) n p = min x y := by rw [mins_succ, hx.out, hy.out]
              obtain ⟨z, hz⟩ := hid_ex (min x y)
              rw [hz.out] at hmn
              have HM : Hid (mins n (i + 1) n p = z) := hmn
              clear hmn
              go_wp2_with (first | (go_at_call 36; refine (l1Min_any x y _).mono ?_; rintro e wq ⟨rfl, hq⟩; subst wq; rw [hz.out]) | (fail))
              go_round
              case rel => exact ⟨i + 1, z, x', by omega, by go_num, rfl, rfl, HM, hnx, hnl⟩
              case measure => simp [intOf]; omega
            · have hlk' : ¬ (i : Int) < (k : Int) := by omega
              have ex : x = B := by rw [← hx.out, ← hB.out, show i = k by omega]
              subst ex
              go_wp2
              go_ret
              exact ⟨rfl, rfl⟩
end Go.Proofs.Ytlakpibiojdgeaa.rg
