/- Contracts of l5Move where a hand that puts acts and links; of l5Move and of l5Alone. -/
import Derived.Test.YthjkhghlhjndmaaHd3
namespace Go.Proofs.Ythjkhghlhjndmaa.ce
open Go.ChangeShapes Go.WideShapes Go.ChangeAt Go.RowKit
set_option linter.unusedVariables false

set_option maxRecDepth 100000 in
set_option maxHeartbeats 1000000 in
theorem act_end (H : List C) (k x y l e o t : Int) (v : Value) (lo q : Nat) (w : World) (mo : Mo w lo q v H ⟨k, x, y, 2, l, e, o, t⟩) (hend : e = -1) :
    Calls Try.prog 90 #[v, .pointer (some ⟨q, 0, none⟩)] w fun e w' => ∃ v' H' d', e = .returned v' ∧ Mo w' lo q v' H' d' ∧ Mv lo q w w' := by
  obtain ⟨g, cap, rfl, hg1, hg2, hgq, hqg⟩ := mo.open
  have M : Hid (Mo w lo q (.slice (some ⟨g, 0, none⟩) H.length cap) H ⟨k, x, y, 2, l, e, o, t⟩) := mo
  have h1 := mo.good.1.1
  have hl := mo.own.fit
  have hqlo := mo.qlo
  have hlos := mo.los
  have ho := mo.fits.own
  have he := mo.fits.here
  have hkind := mo.fits.kind
  simp only at ho he hkind
  clear mo
  subst hkind
  obtain ⟨c0, c1, c2, c3, c4, c5, c6, c7⟩ := M.out.hand.cells
  obtain ⟨f0, f1, f2, f3, f4, f5, f6, f7⟩ := M.out.hand.fz
  subst hend
  go_enter Try.func90, Try.ntmps90
  go_wp2
  try simp only [Act.put, List.setIfInBounds_toArray, List.set_cons_zero, List.set_cons_succ]
  go_big_quiet (fail)
  go_wp2_with (first | (go_at_call 103; refine (l5Put_any H _ _ lo q _ (M.out.drewN nq)).mono ?_; rintro er w2 ⟨v2, H2, d2', rfl, m2, mv2⟩) | (fail))
  go_ret
  exact ⟨_, _, _, rfl, m2, ((Mv.refl _ _ _).drewN nq).trans mv2⟩

set_option maxRecDepth 100000 in
set_option maxHeartbeats 1000000 in
theorem act_other (H : List C) (k x y l e o t : Int) (v : Value) (lo q : Nat) (w : World) (mo : Mo w lo q v H ⟨k, x, y, 2, l, e, o, t⟩) (h0 : 0 ≤ e) (hk : ¬ (nth H e).key = x) :
    Calls Try.prog 90 #[v, .pointer (some ⟨q, 0, none⟩)] w fun e w' => ∃ v' H' d', e = .returned v' ∧ Mo w' lo q v' H' d' ∧ Mv lo q w w' := by
  obtain ⟨g, cap, rfl, hg1, hg2, hgq, hqg⟩ := mo.open
  have M : Hid (Mo w lo q (.slice (some ⟨g, 0, none⟩) H.length cap) H ⟨k, x, y, 2, l, e, o, t⟩) := mo
  have h1 := mo.good.1.1
  have hl := mo.own.fit
  have hqlo := mo.qlo
  have hlos := mo.los
  have ho := mo.fits.own
  have he := mo.fits.here
  have hkind := mo.fits.kind
  simp only at ho he hkind
  clear mo
  subst hkind
  obtain ⟨c0, c1, c2, c3, c4, c5, c6, c7⟩ := M.out.hand.cells
  obtain ⟨f0, f1, f2, f3, f4, f5, f6, f7⟩ := M.out.hand.fz
  obtain ⟨i, rfl⟩ : ∃ i : Nat, e = i := ⟨e.toNat, by omega⟩
  have hil : i < H.length := by omega
  have hil' : (i : Int) < H.length := by omega
  have hne : ((i : Int) == -1) = false := by simp
  have en : Hid (nth H (i : Int) = H[i]) := nth_nat H i hil
  obtain ⟨d0, -, d2, d3⟩ := M.out.own.cell i hil
  obtain ⟨key, hkey⟩ := hid_ex (H[i]).key
  obtain ⟨n, hn⟩ := hid_ex (H[i]).next
  obtain ⟨gn, hgn⟩ := hid_ex (H[i]).gone
  rw [hkey.out] at d0
  rw [hn.out] at d2
  rw [hgn.out] at d3
  have hnx : Hid (-1 ≤ n ∧ n < (H.length : Int)) := by rw [← hn.out]; exact good_next M.out.good i hil
  rw [en.out, hkey.out] at hk
  have fK : (key == x) = false := by simpa using hk
  go_enter Try.func90, Try.ntmps90
  go_wp2
  try simp only [Act.put, List.setIfInBounds_toArray, List.set_cons_zero, List.set_cons_succ]
  go_big_quiet (fail)
  go_wp2_with (first | (go_at_call 103; refine (l5Put_any H _ _ lo q _ (M.out.drewN nq)).mono ?_; rintro er w2 ⟨v2, H2, d2', rfl, m2, mv2⟩) | (fail))
  go_ret
  exact ⟨_, _, _, rfl, m2, ((Mv.refl _ _ _).drewN nq).trans mv2⟩

set_option maxRecDepth 100000 in
set_option maxHeartbeats 1000000 in
theorem act_found (H : List C) (k x y l e o t : Int) (v : Value) (lo q : Nat) (w : World) (mo : Mo w lo q v H ⟨k, x, y, 2, l, e, o, t⟩) (h0 : 0 ≤ e) (hk : (nth H e).key = x) :
    Calls Try.prog 90 #[v, .pointer (some ⟨q, 0, none⟩)] w fun e w' => ∃ v' H' d', e = .returned v' ∧ Mo w' lo q v' H' d' ∧ Mv lo q w w' := by
  obtain ⟨g, cap, rfl, hg1, hg2, hgq, hqg⟩ := mo.open
  have M : Hid (Mo w lo q (.slice (some ⟨g, 0, none⟩) H.length cap) H ⟨k, x, y, 2, l, e, o, t⟩) := mo
  have h1 := mo.good.1.1
  have hl := mo.own.fit
  have hqlo := mo.qlo
  have hlos := mo.los
  have ho := mo.fits.own
  have he := mo.fits.here
  have hkind := mo.fits.kind
  simp only at ho he hkind
  clear mo
  subst hkind
  obtain ⟨c0, c1, c2, c3, c4, c5, c6, c7⟩ := M.out.hand.cells
  obtain ⟨f0, f1, f2, f3, f4, f5, f6, f7⟩ := M.out.hand.fz
  obtain ⟨i, rfl⟩ : ∃ i : Nat, e = i := ⟨e.toNat, by omega⟩
  have hil : i < H.length := by omega
  have hil' : (i : Int) < H.length := by omega
  have hne : ((i : Int) == -1) = false := by simp
  have en : Hid (nth H (i : Int) = H[i]) := nth_nat H i hil
  obtain ⟨d0, -, d2, d3⟩ := M.out.own.cell i hil
  obtain ⟨key, hkey⟩ := hid_ex (H[i]).key
  obtain ⟨n, hn⟩ := hid_ex (H[i]).next
  obtain ⟨gn, hgn⟩ := hid_ex (H[i]).gone
  rw [hkey.out] at d0
  rw [hn.out] at d2
  rw [hgn.out] at d3
  have hnx : Hid (-1 ≤ n ∧ n < (H.length : Int)) := by rw [← hn.out]; exact good_next M.out.good i hil
  rw [en.out, hkey.out] at hk
  subst hk
  go_enter Try.func90, Try.ntmps90
  go_wp2
  try simp only [Act.put, List.setIfInBounds_toArray, List.set_cons_zero, List.set_cons_succ]
  go_big_quiet (fail)
  go_wp2_with (first | (go_at_call 102; refine (l5Done_any _ false q _ (M.out.drewN nq).hand).mono ?_; rintro er w3 ⟨rfl, hb3, hO3⟩) | (fail))
  go_ret
  exact ⟨_, H, _, rfl, (M.out.drewN nq).after hO3 hb3 ⟨rfl, .inr (.inr (.inr (.inr rfl))), ⟨by simp, by simp; omega⟩, ho⟩, ((Mv.refl _ _ _).drewN nq).only hO3⟩

set_option maxRecDepth 100000 in
set_option maxHeartbeats 1000000 in
theorem link_any (H : List C) (k x y l e o t : Int) (v : Value) (lo q : Nat) (w : World) (mo : Mo w lo q v H ⟨k, x, y, 3, l, e, o, t⟩) :
    Calls Try.prog 90 #[v, .pointer (some ⟨q, 0, none⟩)] w fun e w' => ∃ v' H' d', e = .returned v' ∧ Mo w' lo q v' H' d' ∧ Mv lo q w w' := by
  obtain ⟨g, cap, rfl, hg1, hg2, hgq, hqg⟩ := mo.open
  have M : Hid (Mo w lo q (.slice (some ⟨g, 0, none⟩) H.length cap) H ⟨k, x, y, 3, l, e, o, t⟩) := mo
  have h1 := mo.good.1.1
  have hl := mo.own.fit
  have hqlo := mo.qlo
  have hlos := mo.los
  have ho := mo.fits.own
  have he := mo.fits.here
  have hkind := mo.fits.kind
  simp only at ho he hkind
  clear mo
  subst hkind
  obtain ⟨c0, c1, c2, c3, c4, c5, c6, c7⟩ := M.out.hand.cells
  obtain ⟨f0, f1, f2, f3, f4, f5, f6, f7⟩ := M.out.hand.fz
  have S0 : w.drew.cell? ⟨q, 4, none⟩ = some (.int .i64 l) ∧ w.drew.cell? ⟨q, 5, none⟩ = some (.int .i64 e) ∧ w.drew.cell? ⟨q, 6, none⟩ = some (.int .i64 o) := ⟨c4, c5, c6⟩
  by_cases hs : swapOk H l e o
  · have HS : Hid (decide (swapOk H l e o) = true) := decide_eq_true hs
    clear hs
    go_enter Try.func90, Try.ntmps90
    go_wp2
    go_region_held3 (fun w' => w'.cell? ⟨q, 4, none⟩ = some (.int .i64 l) ∧ w'.cell? ⟨q, 5, none⟩ = some (.int .i64 e) ∧ w'.cell? ⟨q, 6, none⟩ = some (.int .i64 o)) (first | assumption | exact S0) (first | (go_at_call 100; refine (l3Swap_any H l e o _ lo w.heap.size w.drew (M.out.own.keep fun _ _ _ => rfl) h1).mono ?_; rintro er w2 ⟨rfl, ho2, hW2⟩; rw [HS.out]; have m2 := M.out.drew.swap l e o ho2 hW2; obtain ⟨e0, e1, e2, e3, e4, e5, e6, e7⟩ := m2.hand.cells; have S2 := And.intro e4 (And.intro e5 e6)) | (fail))
    go_wp2_with (first | (go_at_call 102; refine (l5Done_any _ true q _ m2.hand).mono ?_; rintro er w3 ⟨rfl, hb3, hO3⟩) | (fail))
    go_ret
    exact ⟨_, _, _, rfl, m2.after hO3 hb3 ⟨rfl, .inr (.inr (.inr (.inr rfl))), ⟨by simp, by simp; omega⟩, by rw [swap1_len]; exact ho⟩, ((Mv.refl _ _ _).drew.trans (Mv.of_within hW2 (Nat.le_refl _) hlos)).only hO3⟩
  · have HS : Hid (decide (swapOk H l e o) = false) := decide_eq_false hs
    clear hs
    go_enter Try.func90, Try.ntmps90
    go_wp2
    go_region_held3 (fun w' => w'.cell? ⟨q, 4, none⟩ = some (.int .i64 l) ∧ w'.cell? ⟨q, 5, none⟩ = some (.int .i64 e) ∧ w'.cell? ⟨q, 6, none⟩ = some (.int .i64 o)) (first | assumption | exact S0) (first | (go_at_call 100; refine (l3Swap_any H l e o _ lo w.heap.size w.drew (M.out.own.keep fun _ _ _ => rfl) h1).mono ?_; rintro er w2 ⟨rfl, ho2, hW2⟩; rw [HS.out]; have m2 := M.out.drew.swap l e o ho2 hW2; obtain ⟨e0, e1, e2, e3, e4, e5, e6, e7⟩ := m2.hand.cells; have S2 := And.intro e4 (And.intro e5 e6)) | (fail))
    go_wp2_with (first | (go_at_call 101; refine (l5Start_any _ q _ m2.hand).mono ?_; rintro er w3 ⟨rfl, hb3, hO3⟩) | (fail))
    go_ret
    exact ⟨_, _, _, rfl, m2.after hO3 hb3 ⟨rfl, .inl rfl, ⟨by simp, by simp; omega⟩, by rw [swap1_len]; exact ho⟩, ((Mv.refl _ _ _).drew.trans (Mv.of_within hW2 (Nat.le_refl _) hlos)).only hO3⟩

theorem l5Move_any (H : List C) (d : Hd) (v : Value) (lo q : Nat) (w : World) (mo : Mo w lo q v H d) (hd : d.step ≠ 5) :
    Calls Try.prog 90 #[v, .pointer (some ⟨q, 0, none⟩)] w fun e w' => ∃ v' H' d', e = .returned v' ∧ Mo w' lo q v' H' d' ∧ Mv lo q w w' := by
  obtain ⟨k, x, y, s, l, e, o, t⟩ := d
  have hf := mo.fits
  have he := hf.here
  simp only at he
  rcases hf.step with h | h | h | h | h <;> simp only at h <;> subst h
  · exact move_start H k x y l e o t v lo q w mo
  · by_cases h1 : e = -1
    · exact walk_end H k x y l e o t v lo q w mo h1
    · have h0 : 0 ≤ e := by omega
      cases hg : (nth H e).gone
      · by_cases hk : x ≤ (nth H e).key
        · exact walk_stop H k x y l e o t v lo q w mo h0 hg hk
        · exact walk_on H k x y l e o t v lo q w mo h0 hg hk
      · exact walk_gone H k x y l e o t v lo q w mo h0 hg
  · by_cases h1 : e = -1
    · exact act_end H k x y l e o t v lo q w mo h1
    · have h0 : 0 ≤ e := by omega
      by_cases hk : (nth H e).key = x
      · exact act_found H k x y l e o t v lo q w mo h0 hk
      · exact act_other H k x y l e o t v lo q w mo h0 hk
  · exact link_any H k x y l e o t v lo q w mo
  · exact absurd rfl hd

end Go.Proofs.Ythjkhghlhjndmaa.ce
