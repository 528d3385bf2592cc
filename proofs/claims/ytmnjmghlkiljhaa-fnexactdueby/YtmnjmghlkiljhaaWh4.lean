/- A heap of things in memory: the library's down. -/
import Derived.Test.YtmnjmghlkiljhaaWh3
namespace Go.Proofs.Ytmnjmghlkiljhaa.rg
open Go.ChangeShapes Go.WideShapes Go.ChangeAt Go.RowKit
open Go.Deep Go.Joins
open Go.Proofs.Ytmnjmghlkiljhaa.ce Go.Proofs.Ytmnjmghlkiljhaa.ro
set_option linter.unusedVariables false
set_option linter.unusedSimpArgs false

/-- the sooner of the two below is no sooner -/
theorem dn_stop {n i j : Nat} {l : List It} (u : Dn n i l) (hn : n ≤ l.length) (hjn : j < n) (hpj : par j = i) (hj0 : 0 < j) (hs : ∀ k (h : k < l.length), 0 < k → k < n → par k = i → Nl (l[j]'(by omega)) l[k]) (h : Nl (l[i]'(by unfold par at hpj; omega)) (l[j]'(by omega))) : Hp n l :=
  dn_end u fun k hk h0 hkn e => by
    have := nl_trans h (hs k hk h0 hkn e)
    simp only [e]
    exact this
theorem dn_none {n i : Nat} {l : List It} (u : Dn n i l) (h : n ≤ 2 * i + 1) : Hp n l :=
  dn_end u fun k hk h0 hkn e => by rcases below_two h0 e with rfl | rfl <;> omega
/-- beyond the first n nothing is turned -/
def Bey (n : Nat) (xs ys : List It) : Prop := ∀ k, n ≤ k → ys[k]? = xs[k]?
theorem bey_swp {n : Nat} {xs ys : List It} (h : Bey n xs ys) {i j : Nat} (hi : i < n) (hj : j < n) (hn : n ≤ ys.length) : Bey n xs (swp ys i j) := fun k hk => by
  rw [← h k hk, swp_is (by omega) (by omega), List.getElem?_set_ne (by omega), List.getElem?_set_ne (by omega)]
set_option maxRecDepth 100000 in
set_option maxHeartbeats 8000000 in
theorem down_any (n L b g cap : Nat) (xs : List It) (hL : xs.length = L) (hn : n ≤ L) (hu : Dn n 0 xs) (w : World) (H : Hq w b g cap xs) :
    Calls Try.prog 121 #[.iface 106 (.pointer (some ⟨b, 0, none⟩)), .int .i64 0, .int .i64 n] w fun e w' => (∃ u, e = .returned u) ∧ ∃ ys, ys.Perm xs ∧ Hp n ys ∧ Bey n xs ys ∧ Hq w' b g cap ys ∧ Ob g w w' := by
  have hcf : ∀ (args : Array Value) (w : World), (callFunc 162 args).run Try.prog w = .ok (.enter 162 args) w := fun args w => by kernel_rfl
  have hcs : ∀ (args : Array Value) (w : World), (callFunc 163 args).run Try.prog w = .ok (.enter 163 args) w := fun args w => by kernel_rfl
  have hLl : L ≤ 1000000 := by have := H.l; omega
  go_enter Try.func121, Try.ntmps121
  go_wp2_with (fail)
  go_loopw [7] (fun v wr => ∃ (i : Nat) (ys : List It), v = .int .i64 i ∧ i ≤ n ∧ ys.length = L ∧ Hid (Dn n i ys) ∧ Hid (ys.Perm xs) ∧ Hid (Bey n xs ys) ∧ Hid (Hq wr b g cap ys) ∧ Hid (Ob g w wr)) (fun v _ => n - (intOf v).toNat)
  case atStart => exact ⟨0, xs, rfl, by omega, hL, hu, List.Perm.refl _, fun _ _ => rfl, H, Ob.refl _ _⟩
  case round =>
    obtain ⟨i, ys, rfl, hi, hyl, HU, HP, HB, HQ, HO⟩ := hrel
    obtain ⟨p, hp⟩ := hid_ex (2 * i + 1)
    obtain ⟨q, hq⟩ := hid_ex (2 * i + 2)
    have hw1 : wrap64 (wrap64 (2 * (i : Int)) + 1) = (p : Int) := by
      have := hp.out
      rw [IntWalk.wrap64_in (2 * (i : Int)) ⟨by omega, by omega⟩, IntWalk.wrap64_in _ ⟨by omega, by omega⟩]
      omega
    have hd1 : 2 * (i : Int) + 1 = (p : Int) := by have := hp.out; omega
    have hd2 : 2 * (i : Int) + 1 + 1 = (q : Int) := by have := hp.out; have := hq.out; omega
    have hd3 : (p : Int) + 1 = (q : Int) := by have := hp.out; have := hq.out; omega
    have hw2 : wrap64 ((p : Int) + 1) = (q : Int) := by
      have := hp.out
      rw [IntWalk.wrap64_in _ ⟨by omega, by omega⟩]
      exact hd3
    have hV := HQ.out.V
    by_cases hpn : n ≤ p
    · have hpn' : (n : Int) ≤ (p : Int) := by omega
      go_wp2
      go_ret
      exact ⟨⟨_, rfl⟩, ys, HP.out, dn_none HU.out (by have := hp.out; omega), HB.out, HQ.out, HO.out⟩
    · have hpn' : ¬ (n : Int) ≤ (p : Int) := by omega
      have hp0 : ¬ (p : Int) < 0 := by omega
      have hpl : p < n := by omega
      have hin : i < n := by have := hp.out; omega
      have hpi : par p = i := by have := hp.out; unfold par; omega
      have hM := less_of b g L cap wr (by have := hV; rw [hyl] at this; exact this)
      by_cases hqn : q < n
      · have hqn' : (q : Int) < (n : Int) := by omega
        have hql : q < n := hqn
        have hqi : par q = i := by have := hq.out; unfold par; omega
        have hpy : p < ys.length := by omega
        have hqy : q < ys.length := by omega
        obtain ⟨y2, hy2⟩ := hid_ex (earB (ys[q]'hqy) (ys[p]'hpy))
        rcases (by cases y2 <;> simp : y2 = true ∨ y2 = false) with e2 | e2
        · subst e2
          have hjy : q < ys.length := by omega
          have hiy : i < ys.length := by omega
          have HS : Hid (∀ k (h : k < ys.length), 0 < k → k < n → par k = i → Nl (ys[q]'hjy) ys[k]) := fun k h h0 hk e => by
            rcases below_two h0 e with e | e
            · obtain rfl : k = p := by have := hp.out; omega
              exact nl_of (earB_iff.1 hy2.out)
            · obtain rfl : k = q := by have := hq.out; omega
              exact nl_refl _
          obtain ⟨y, hy⟩ := hid_ex (earB (ys[q]'hjy) (ys[i]'hiy))
          have Q3 := HQ.out
          cases y with
          | false =>
            have k1 : Hid True := trivial
            go_wp2_with (first | (clear k1; go_at_call 162; (try rw [hd2]); (try rw [hd1]); (try rw [hd3]); refine (less_any ys g L cap wr Q3.r hyl.symm hLl q p (by omega) (by omega) true hy2).mono ?_; rintro e w4 ⟨rfl, hB4⟩; have Q4 := Q3.below hB4; have V4 := Q4.V; rw [hyl] at V4; have hM4 := less_of b g L cap w4 V4; have hS4 := swap_of b g L cap w4 V4) | (go_at_call 162; (try rw [hd2]); (try rw [hd1]); (try rw [hd3]); refine (less_any ys g L cap w4 Q4.r hyl.symm hLl q i (by omega) (by omega) false hy).mono ?_; rintro e w5 ⟨rfl, hB5⟩; have Q5 := Q4.below hB5; have V5 := Q5.V; rw [hyl] at V5; have hM5 := less_of b g L cap w5 V5; have hS5 := swap_of b g L cap w5 V5) | (fail))
            go_ret
            exact ⟨⟨_, rfl⟩, ys, HP.out, dn_stop HU.out (by omega) hql hqi (by omega) HS.out (fun z => by have := earB_iff.2 z; rw [hy.out] at this; cases this), HB.out, Q5, ((HO.out.trans (Ob.of_below hB4)).trans (Ob.of_below hB5))⟩
          | true =>
            have k1 : Hid True := trivial
            go_wp2_with (first | (clear k1; go_at_call 162; (try rw [hd2]); (try rw [hd1]); (try rw [hd3]); refine (less_any ys g L cap wr Q3.r hyl.symm hLl q p (by omega) (by omega) true hy2).mono ?_; rintro e w4 ⟨rfl, hB4⟩; have Q4 := Q3.below hB4; have V4 := Q4.V; rw [hyl] at V4; have hM4 := less_of b g L cap w4 V4; have hS4 := swap_of b g L cap w4 V4) | (go_at_call 162; (try rw [hd2]); (try rw [hd1]); (try rw [hd3]); refine (less_any ys g L cap w4 Q4.r hyl.symm hLl q i (by omega) (by omega) true hy).mono ?_; rintro e w5 ⟨rfl, hB5⟩; have Q5 := Q4.below hB5; have V5 := Q5.V; rw [hyl] at V5; have hM5 := less_of b g L cap w5 V5; have hS5 := swap_of b g L cap w5 V5) | (go_at_call 163; (try rw [hd2]); (try rw [hd1]); (try rw [hd3]); refine (swap_any ys g L cap w5 Q5.r hyl.symm hLl i q (by omega) (by omega)).mono ?_; rintro e w9 ⟨⟨u9, rfl⟩, r9, hO9⟩; have O9 := Ob.of_only hO9; have Q9 := Q5.ob O9 r9 (swp_len _ _ _)) | (fail))
            go_roundw
            case rel => exact ⟨q, swp ys i q, rfl, by omega, by rw [swp_len]; exact hyl, dn_step HU.out (by omega) (by omega) hql hqi (earB_iff.1 hy.out) HS.out, (swp_perm _ _ _).trans HP.out, bey_swp HB.out hin hql (by omega), Q9, ((HO.out.trans (Ob.of_below hB4)).trans (Ob.of_below hB5)).trans O9⟩
            case measure => simp [intOf]; omega
        · subst e2
          have hjy : p < ys.length := by omega
          have hiy : i < ys.length := by omega
          have HS : Hid (∀ k (h : k < ys.length), 0 < k → k < n → par k = i → Nl (ys[p]'hjy) ys[k]) := fun k h h0 hk e => by
            rcases below_two h0 e with e | e
            · obtain rfl : k = p := by have := hp.out; omega
              exact nl_refl _
            · obtain rfl : k = q := by have := hq.out; omega
              exact fun z => by have := earB_iff.2 z; rw [hy2.out] at this; cases this
          obtain ⟨y, hy⟩ := hid_ex (earB (ys[p]'hjy) (ys[i]'hiy))
          have Q3 := HQ.out
          cases y with
          | false =>
            have k1 : Hid True := trivial
            go_wp2_with (first | (clear k1; go_at_call 162; (try rw [hd2]); (try rw [hd1]); (try rw [hd3]); refine (less_any ys g L cap wr Q3.r hyl.symm hLl q p (by omega) (by omega) false hy2).mono ?_; rintro e w4 ⟨rfl, hB4⟩; have Q4 := Q3.below hB4; have V4 := Q4.V; rw [hyl] at V4; have hM4 := less_of b g L cap w4 V4; have hS4 := swap_of b g L cap w4 V4) | (go_at_call 162; (try rw [hd2]); (try rw [hd1]); (try rw [hd3]); refine (less_any ys g L cap w4 Q4.r hyl.symm hLl p i (by omega) (by omega) false hy).mono ?_; rintro e w5 ⟨rfl, hB5⟩; have Q5 := Q4.below hB5; have V5 := Q5.V; rw [hyl] at V5; have hM5 := less_of b g L cap w5 V5; have hS5 := swap_of b g L cap w5 V5) | (fail))
            go_ret
            exact ⟨⟨_, rfl⟩, ys, HP.out, dn_stop HU.out (by omega) hpl hpi (by omega) HS.out (fun z => by have := earB_iff.2 z; rw [hy.out] at this; cases this), HB.out, Q5, ((HO.out.trans (Ob.of_below hB4)).trans (Ob.of_below hB5))⟩
          | true =>
            have k1 : Hid True := trivial
            go_wp2_with (first | (clear k1; go_at_call 162; (try rw [hd2]); (try rw [hd1]); (try rw [hd3]); refine (less_any ys g L cap wr Q3.r hyl.symm hLl q p (by omega) (by omega) false hy2).mono ?_; rintro e w4 ⟨rfl, hB4⟩; have Q4 := Q3.below hB4; have V4 := Q4.V; rw [hyl] at V4; have hM4 := less_of b g L cap w4 V4; have hS4 := swap_of b g L cap w4 V4) | (go_at_call 162; (try rw [hd2]); (try rw [hd1]); (try rw [hd3]); refine (less_any ys g L cap w4 Q4.r hyl.symm hLl p i (by omega) (by omega) true hy).mono ?_; rintro e w5 ⟨rfl, hB5⟩; have Q5 := Q4.below hB5; have V5 := Q5.V; rw [hyl] at V5; have hM5 := less_of b g L cap w5 V5; have hS5 := swap_of b g L cap w5 V5) | (go_at_call 163; (try rw [hd2]); (try rw [hd1]); (try rw [hd3]); refine (swap_any ys g L cap w5 Q5.r hyl.symm hLl i p (by omega) (by omega)).mono ?_; rintro e w9 ⟨⟨u9, rfl⟩, r9, hO9⟩; have O9 := Ob.of_only hO9; have Q9 := Q5.ob O9 r9 (swp_len _ _ _)) | (fail))
            go_roundw
            case rel => exact ⟨p, swp ys i p, rfl, by omega, by rw [swp_len]; exact hyl, dn_step HU.out (by omega) (by omega) hpl hpi (earB_iff.1 hy.out) HS.out, (swp_perm _ _ _).trans HP.out, bey_swp HB.out hin hpl (by omega), Q9, ((HO.out.trans (Ob.of_below hB4)).trans (Ob.of_below hB5)).trans O9⟩
            case measure => simp [intOf]; omega
      · have hqn' : ¬ (q : Int) < (n : Int) := by omega
        have hjy : p < ys.length := by omega
        have hiy : i < ys.length := by omega
        have HS : Hid (∀ k (h : k < ys.length), 0 < k → k < n → par k = i → Nl (ys[p]'hjy) ys[k]) := fun k h h0 hk e => by
          rcases below_two h0 e with e | e
          · obtain rfl : k = p := by have := hp.out; omega
            exact nl_refl _
          · have := hq.out; omega
        obtain ⟨y, hy⟩ := hid_ex (earB (ys[p]'hjy) (ys[i]'hiy))
        have Q3 := HQ.out
        cases y with
        | false =>
          go_wp2_with (first | (go_at_call 162; (try rw [hd2]); (try rw [hd1]); (try rw [hd3]); refine (less_any ys g L cap wr Q3.r hyl.symm hLl p i (by omega) (by omega) false hy).mono ?_; rintro e w4 ⟨rfl, hB4⟩; have Q4 := Q3.below hB4; have V4 := Q4.V; rw [hyl] at V4; have hM4 := less_of b g L cap w4 V4; have hS4 := swap_of b g L cap w4 V4) | (fail))
          go_ret
          exact ⟨⟨_, rfl⟩, ys, HP.out, dn_stop HU.out (by omega) hpl hpi (by omega) HS.out (fun z => by have := earB_iff.2 z; rw [hy.out] at this; cases this), HB.out, Q4, (HO.out.trans (Ob.of_below hB4))⟩
        | true =>
          go_wp2_with (first | (go_at_call 162; (try rw [hd2]); (try rw [hd1]); (try rw [hd3]); refine (less_any ys g L cap wr Q3.r hyl.symm hLl p i (by omega) (by omega) true hy).mono ?_; rintro e w4 ⟨rfl, hB4⟩; have Q4 := Q3.below hB4; have V4 := Q4.V; rw [hyl] at V4; have hM4 := less_of b g L cap w4 V4; have hS4 := swap_of b g L cap w4 V4) | (go_at_call 163; (try rw [hd2]); (try rw [hd1]); (try rw [hd3]); refine (swap_any ys g L cap w4 Q4.r hyl.symm hLl i p (by omega) (by omega)).mono ?_; rintro e w9 ⟨⟨u9, rfl⟩, r9, hO9⟩; have O9 := Ob.of_only hO9; have Q9 := Q4.ob O9 r9 (swp_len _ _ _)) | (fail))
          go_roundw
          case rel => exact ⟨p, swp ys i p, rfl, by omega, by rw [swp_len]; exact hyl, dn_step HU.out (by omega) (by omega) hpl hpi (earB_iff.1 hy.out) HS.out, (swp_perm _ _ _).trans HP.out, bey_swp HB.out hin hpl (by omega), Q9, (HO.out.trans (Ob.of_below hB4)).trans O9⟩
          case measure => simp [intOf]; omega
end Go.Proofs.Ytmnjmghlkiljhaa.rg
