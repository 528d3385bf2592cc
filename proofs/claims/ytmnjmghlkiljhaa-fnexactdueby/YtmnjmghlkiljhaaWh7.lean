/- A heap of things in memory: the library's Pop. -/
import Derived.Test.YtmnjmghlkiljhaaWh6
namespace Go.Proofs.Ytmnjmghlkiljhaa.rg
open Go.ChangeShapes Go.WideShapes Go.ChangeAt Go.RowKit
open Go.Deep Go.Joins
open Go.Proofs.Ytmnjmghlkiljhaa.ce Go.Proofs.Ytmnjmghlkiljhaa.ro
set_option linter.unusedVariables false
set_option linter.unusedSimpArgs false

theorem popped {m : Nat} {xs ys : List It} (hx : xs.length = m + 1) (hp : ys.Perm (swp xs 0 m)) (hb : Bey m (swp xs 0 m) ys) : (xs[0]'(by omega) :: ys.take m).Perm xs := by
  have hyl : ys.length = m + 1 := by rw [hp.length_eq, swp_len]; exact hx
  have hm : ys[m]'(by omega) = xs[0]'(by omega) := by
    have e := hb m (Nat.le_refl _)
    rw [List.getElem?_eq_getElem (by omega), List.getElem?_eq_getElem (by rw [swp_len]; omega), swp_at (by omega) (by omega) m (by rw [swp_len]; omega) (by omega), if_pos rfl] at e
    exact Option.some.inj e
  have e : ys = ys.take m ++ [xs[0]'(by omega)] := by
    have := List.take_append_getElem (l := ys) (i := m) (by omega)
    rw [hm] at this
    rw [this, List.take_of_length_le (by omega)]
  have h1 : (xs[0]'(by omega) :: ys.take m).Perm ys := by
    conv => rhs; rw [e]
    exact List.perm_append_comm (l₁ := [xs[0]'(by omega)])
  exact h1.trans (hp.trans (swp_perm _ _ _))
set_option maxRecDepth 100000 in
set_option maxHeartbeats 4000000 in
/-- the first is taken from the heap -/
theorem pop_any (m b g cap lo : Nat) (xs : List It) (hm : xs.length = m + 1) (hh : Hp (m + 1) xs) (w : World) (H : Hq w b g cap xs) (hg : lo ≤ g) (hb : lo ≤ b) (hlo : lo ≤ w.heap.size) :
    Calls Try.prog 76 #[.iface 106 (.pointer (some ⟨b, 0, none⟩))] w fun e w' => (∃ u, e = .returned u) ∧ (∃ ys, (xs[0]'(by omega) :: ys).Perm xs ∧ Hp ys.length ys ∧ Hq w' b g cap ys) ∧ Tq lo w w' := by
  have hcp : ∀ (args : Array Value) (w : World), (callFunc 165 args).run Try.prog w = .ok (.enter 165 args) w := fun args w => by kernel_rfl
  have hcl : ∀ (args : Array Value) (w : World), (callFunc 75 args).run Try.prog w = .ok (.enter 75 args) w := fun args w => by kernel_rfl
  have hcs : ∀ (args : Array Value) (w : World), (callFunc 163 args).run Try.prog w = .ok (.enter 163 args) w := fun args w => by kernel_rfl
  have HM : Hid (xs.length = m + 1) := hm
  have HD : Hid (Dn m 0 (swp xs 0 m)) := hp_dn hh hm
  have HQ : Hid (Hq w b g cap xs) := H
  have hml : m ≤ 1000000 := by have := H.l; omega
  obtain ⟨L, hL⟩ := hid_ex (m + 1)
  have V := H.V
  rw [hm, hL.out] at V
  have hLen := lenq_of b g L cap w V
  have hSw := swap_of b g L cap w V
  have hw : wrap64 ((L : Int) - 1) = (m : Int) := by have := hL.out; rw [IntWalk.wrap64_in _ ⟨by omega, by omega⟩]; omega
  have hw2 : (L : Int) - 1 = (m : Int) := by have := hL.out; omega
  have hw3 : wrap64 (m : Int) = (m : Int) := IntWalk.wrap64_in _ ⟨by omega, by omega⟩
  clear H hh
  go_enter Try.func76, Try.ntmps76
  go_wp2_with (first | (go_at_call 75; refine (len_any _ L cap w).mono ?_; rintro e wq ⟨rfl, hq⟩; subst wq) | (go_at_call 163; (try rw [hw]); (try rw [hw2]); (try rw [hw3]); refine (swap_any xs g L cap w HQ.out.r (by rw [HM.out, hL.out]) (by have := hL.out; have := HQ.out.l; omega) 0 m (by have := hL.out; omega) (by have := hL.out; omega)).mono ?_; rintro e w2 ⟨⟨u2, rfl⟩, r2, hO2⟩; have O2 := Ob.of_only hO2; have Q2 := HQ.out.ob O2 r2 (swp_len _ _ _)) | (go_at_call 121; (try rw [hw]); (try rw [hw2]); (try rw [hw3]); refine (down_any m (m + 1) b g cap (swp xs 0 m) (by rw [swp_len]; exact HM.out) (by omega) HD.out w2 Q2).mono ?_; rintro e w3 ⟨⟨u3, rfl⟩, ys, hp, hh, hbey, Q3, O3⟩; have hP := pop_of b w3; have hyl : ys.length = m + 1 := (hp.length_eq.trans ((swp_len _ _ _).trans HM.out)); have HYL : Hid (ys.length = m + 1) := hyl; clear hyl) | (go_at_call 165; refine (pop1_any m b g cap ys HYL.out w3 Q3).mono ?_; rintro e w4 ⟨⟨u4, rfl⟩, Q4, O4⟩) | (fail))
  go_ret
  have hl4 : (ys.take m).length = m := by have := HYL.out; rw [List.length_take]; omega
  have hz2 := O2.size
  have hz3 := O3.size
  refine ⟨⟨_, rfl⟩, ⟨ys.take m, popped HM.out hp hbey, by rw [hl4]; exact hp_take hh, Q4⟩, ((Tq.of_row O2 HQ.out.r hg hlo).trans (Tq.of_row O3 Q2.r hg (by omega))).trans (Tq.of_var O4 Q3.V hb (by omega))⟩
end Go.Proofs.Ytmnjmghlkiljhaa.rg
