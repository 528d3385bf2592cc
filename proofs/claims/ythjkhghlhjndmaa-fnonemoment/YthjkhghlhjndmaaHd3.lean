/- Contract of l5Move for a hand that puts: one small move keeps heap and hand so that the next one is in bounds. -/
import Derived.Test.YthjkhghlhjndmaaMg28
namespace Go.Proofs.Ythjkhghlhjndmaa.ce
open Go.ChangeShapes Go.WideShapes Go.ChangeAt Go.RowKit
set_option linter.unusedVariables false

/-- what is known of a heap and a hand ahead of a move, laid out for the walk -/
theorem Mo.open {w : World} {lo q : Nat} {v : Value} {H : List C} {d : Hd} (mo : Mo w lo q v H d) : ∃ g cap, v = .slice (some ⟨g, 0, none⟩) H.length cap ∧ lo ≤ g ∧ g < w.heap.size ∧ g ≠ q ∧ q ≠ g := by
  obtain ⟨g, cap, rfl, hg1, hg2, -⟩ := mo.own.form mo.good.1.1
  have := mo.qlo
  exact ⟨g, cap, rfl, hg1, hg2, by omega, by omega⟩

theorem Mo.after {w w' : World} {lo q : Nat} {v : Value} {H : List C} {d d' : Hd} (mo : Mo w lo q v H d) (o : Only q w w') (hb : HB w' q d') (hf : Fits H.length d') : Mo w' lo q v H d' :=
  ⟨(mo.own.only o mo.qlo).wide (Nat.le_refl _) (Nat.le_of_eq o.1.symm), hb, mo.qlo, by rw [o.1]; exact mo.los, mo.good, hf⟩
theorem Mo.drewN {w : World} {lo q : Nat} {v : Value} {H : List C} {d : Hd} (mo : Mo w lo q v H d) (n : Nat) : Mo (w.drewN n) lo q v H d :=
  ⟨mo.own.keep fun _ _ _ => rfl, mo.hand.of rfl, mo.qlo, mo.los, mo.good, mo.fits⟩
theorem Mo.drew {w : World} {lo q : Nat} {v : Value} {H : List C} {d : Hd} (mo : Mo w lo q v H d) : Mo w.drew lo q v H d :=
  ⟨mo.own.keep fun _ _ _ => rfl, mo.hand.of rfl, mo.qlo, mo.los, mo.good, mo.fits⟩
/-- behind a swap on the row -/
theorem Mo.swap {w w' : World} {lo q : Nat} {v : Value} {H : List C} {d : Hd} (mo : Mo w lo q v H d) (p next z : Int) (ow : Own w' lo w.heap.size v (swap1 H p next z)) (wi : Within lo w.heap.size w w') : Mo w' lo q v (swap1 H p next z) d :=
  ⟨ow.wide (Nat.le_refl _) wi.size, mo.hand.of (wi.block q mo.hand.lt (.inl mo.qlo)), mo.qlo, Nat.le_trans mo.los wi.size, good_swap1 mo.good _ _ _, by rw [swap1_len]; exact mo.fits⟩

set_option maxRecDepth 100000 in
set_option maxHeartbeats 1000000 in
theorem move_start (H : List C) (k x y l e o t : Int) (v : Value) (lo q : Nat) (w : World) (mo : Mo w lo q v H ⟨k, x, y, 0, l, e, o, t⟩) :
    Calls Try.prog 90 #[v, .pointer (some ⟨q, 0, none⟩)] w fun e w' => ∃ v' H' d', e = .returned v' ∧ Mo w' lo q v' H' d' ∧ Mv lo q w w' := by
  obtain ⟨g, cap, rfl, hg1, hg2, hgq, hqg⟩ := mo.open
  have M : Hid (Mo w lo q (.slice (some ⟨g, 0, none⟩) H.length cap) H ⟨k, x, y, 0, l, e, o, t⟩) := mo
  have h1 := mo.good.1.1
  have hl := mo.own.fit
  have hqlo := mo.qlo
  have hlos := mo.los
  have ho := mo.fits.own
  have he := mo.fits.here
  have hkind := mo.fits.kind
  simp only at ho he hkind
  clear mo
  subst hkind
  obtain ⟨c0, c1, c2, c3, c4, c5, c6, c7⟩ := M.out.hand.cells
  obtain ⟨f0, f1, f2, f3, f4, f5, f6, f7⟩ := M.out.hand.fz
  obtain ⟨-, -, d2, -⟩ := M.out.own.cell 0 h1
  simp only [Nat.zero_mul, Nat.zero_add] at d2
  obtain ⟨n, hn⟩ := hid_ex (H[0]).next
  rw [hn.out] at d2
  have hpos : (0 : Int) < H.length := by omega
  have hpos' : 0 < H.length := h1
  go_enter Try.func90, Try.ntmps90
  go_wp2
  go_ret
  have hnx := good_next M.out.good 0 h1
  rw [hn.out] at hnx
  have hb := ((M.out.hand.set 4 0 ⟨1, x, y, 0, 0, e, o, t⟩ rfl).set 5 n ⟨1, x, y, 0, 0, n, o, t⟩ rfl).set 3 1 ⟨1, x, y, 1, 0, n, o, t⟩ rfl
  have hO := ((only_set w q 4 (.int .i64 0)).trans (only_set _ q 5 (.int .i64 n))).trans (only_set _ q 3 (.int .i64 1))
  exact ⟨_, H, _, rfl, M.out.after hO hb ⟨rfl, .inr (.inl rfl), hnx, ho⟩, (Mv.refl _ _ _).only hO⟩

set_option maxRecDepth 100000 in
set_option maxHeartbeats 1000000 in
theorem walk_end (H : List C) (k x y l e o t : Int) (v : Value) (lo q : Nat) (w : World) (mo : Mo w lo q v H ⟨k, x, y, 1, l, e, o, t⟩) (hend : e = -1) :
    Calls Try.prog 90 #[v, .pointer (some ⟨q, 0, none⟩)] w fun e w' => ∃ v' H' d', e = .returned v' ∧ Mo w' lo q v' H' d' ∧ Mv lo q w w' := by
  obtain ⟨g, cap, rfl, hg1, hg2, hgq, hqg⟩ := mo.open
  have M : Hid (Mo w lo q (.slice (some ⟨g, 0, none⟩) H.length cap) H ⟨k, x, y, 1, l, e, o, t⟩) := mo
  have h1 := mo.good.1.1
  have hl := mo.own.fit
  have hqlo := mo.qlo
  have hlos := mo.los
  have ho := mo.fits.own
  have he := mo.fits.here
  have hkind := mo.fits.kind
  simp only at ho he hkind
  clear mo
  subst hkind
  obtain ⟨c0, c1, c2, c3, c4, c5, c6, c7⟩ := M.out.hand.cells
  obtain ⟨f0, f1, f2, f3, f4, f5, f6, f7⟩ := M.out.hand.fz
  subst hend
  go_enter Try.func90, Try.ntmps90
  go_wp2
  try simp only [Act.put, List.setIfInBounds_toArray, List.set_cons_zero, List.set_cons_succ]
  go_big_quiet (fail)
  go_wp2
  go_ret
  have hb := (M.out.drewN nq).hand.set 3 2 ⟨1, x, y, 2, l, -1, o, t⟩ rfl
  have hO := only_set (w.drewN nq) q 3 (.int .i64 2)
  exact ⟨_, H, _, rfl, (M.out.drewN nq).after hO hb ⟨rfl, .inr (.inr (.inl rfl)), he, ho⟩, ((Mv.refl _ _ _).drewN nq).only hO⟩

set_option maxRecDepth 100000 in
set_option maxHeartbeats 1000000 in
theorem walk_stop (H : List C) (k x y l e o t : Int) (v : Value) (lo q : Nat) (w : World) (mo : Mo w lo q v H ⟨k, x, y, 1, l, e, o, t⟩) (h0 : 0 ≤ e) (hg : (nth H e).gone = false) (hk : x ≤ (nth H e).key) :
    Calls Try.prog 90 #[v, .pointer (some ⟨q, 0, none⟩)] w fun e w' => ∃ v' H' d', e = .returned v' ∧ Mo w' lo q v' H' d' ∧ Mv lo q w w' := by
  obtain ⟨g, cap, rfl, hg1, hg2, hgq, hqg⟩ := mo.open
  have M : Hid (Mo w lo q (.slice (some ⟨g, 0, none⟩) H.length cap) H ⟨k, x, y, 1, l, e, o, t⟩) := mo
  have h1 := mo.good.1.1
  have hl := mo.own.fit
  have hqlo := mo.qlo
  have hlos := mo.los
  have ho := mo.fits.own
  have he := mo.fits.here
  have hkind := mo.fits.kind
  simp only at ho he hkind
  clear mo
  subst hkind
  obtain ⟨c0, c1, c2, c3, c4, c5, c6, c7⟩ := M.out.hand.cells
  obtain ⟨f0, f1, f2, f3, f4, f5, f6, f7⟩ := M.out.hand.fz
  obtain ⟨i, rfl⟩ : ∃ i : Nat, e = i := ⟨e.toNat, by omega⟩
  have hil : i < H.length := by omega
  have hil' : (i : Int) < H.length := by omega
  have hne : ((i : Int) == -1) = false := by simp
  have en : Hid (nth H (i : Int) = H[i]) := nth_nat H i hil
  obtain ⟨d0, -, d2, d3⟩ := M.out.own.cell i hil
  obtain ⟨key, hkey⟩ := hid_ex (H[i]).key
  obtain ⟨n, hn⟩ := hid_ex (H[i]).next
  obtain ⟨gn, hgn⟩ := hid_ex (H[i]).gone
  rw [hkey.out] at d0
  rw [hn.out] at d2
  rw [hgn.out] at d3
  have hnx : Hid (-1 ≤ n ∧ n < (H.length : Int)) := by rw [← hn.out]; exact good_next M.out.good i hil
  rw [en.out, hgn.out] at hg
  rw [en.out, hkey.out] at hk
  subst hg
  have fK : decide (x ≤ key) = true := decide_eq_true hk
  go_enter Try.func90, Try.ntmps90
  go_wp2
  try simp only [Act.put, List.setIfInBounds_toArray, List.set_cons_zero, List.set_cons_succ]
  go_big_quiet (fail)
  go_wp2
  go_ret
  have hb := (M.out.drewN nq).hand.set 3 2 ⟨1, x, y, 2, l, i, o, t⟩ rfl
  have hO := only_set (w.drewN nq) q 3 (.int .i64 2)
  exact ⟨_, H, _, rfl, (M.out.drewN nq).after hO hb ⟨rfl, .inr (.inr (.inl rfl)), he, ho⟩, ((Mv.refl _ _ _).drewN nq).only hO⟩

set_option maxRecDepth 100000 in
set_option maxHeartbeats 1000000 in
theorem walk_on (H : List C) (k x y l e o t : Int) (v : Value) (lo q : Nat) (w : World) (mo : Mo w lo q v H ⟨k, x, y, 1, l, e, o, t⟩) (h0 : 0 ≤ e) (hg : (nth H e).gone = false) (hk : ¬ x ≤ (nth H e).key) :
    Calls Try.prog 90 #[v, .pointer (some ⟨q, 0, none⟩)] w fun e w' => ∃ v' H' d', e = .returned v' ∧ Mo w' lo q v' H' d' ∧ Mv lo q w w' := by
  obtain ⟨g, cap, rfl, hg1, hg2, hgq, hqg⟩ := mo.open
  have M : Hid (Mo w lo q (.slice (some ⟨g, 0, none⟩) H.length cap) H ⟨k, x, y, 1, l, e, o, t⟩) := mo
  have h1 := mo.good.1.1
  have hl := mo.own.fit
  have hqlo := mo.qlo
  have hlos := mo.los
  have ho := mo.fits.own
  have he := mo.fits.here
  have hkind := mo.fits.kind
  simp only at ho he hkind
  clear mo
  subst hkind
  obtain ⟨c0, c1, c2, c3, c4, c5, c6, c7⟩ := M.out.hand.cells
  obtain ⟨f0, f1, f2, f3, f4, f5, f6, f7⟩ := M.out.hand.fz
  obtain ⟨i, rfl⟩ : ∃ i : Nat, e = i := ⟨e.toNat, by omega⟩
  have hil : i < H.length := by omega
  have hil' : (i : Int) < H.length := by omega
  have hne : ((i : Int) == -1) = false := by simp
  have en : Hid (nth H (i : Int) = H[i]) := nth_nat H i hil
  obtain ⟨d0, -, d2, d3⟩ := M.out.own.cell i hil
  obtain ⟨key, hkey⟩ := hid_ex (H[i]).key
  obtain ⟨n, hn⟩ := hid_ex (H[i]).next
  obtain ⟨gn, hgn⟩ := hid_ex (H[i]).gone
  rw [hkey.out] at d0
  rw [hn.out] at d2
  rw [hgn.out] at d3
  have hnx : Hid (-1 ≤ n ∧ n < (H.length : Int)) := by rw [← hn.out]; exact good_next M.out.good i hil
  rw [en.out, hgn.out] at hg
  rw [en.out, hkey.out] at hk
  subst hg
  have fK : decide (x ≤ key) = false := decide_eq_false hk
  go_enter Try.func90, Try.ntmps90
  go_wp2
  try simp only [Act.put, List.setIfInBounds_toArray, List.set_cons_zero, List.set_cons_succ]
  go_big_quiet (fail)
  go_wp2
  go_ret
  have hb := ((M.out.drewN nq).hand.set 4 i ⟨1, x, y, 1, i, i, o, t⟩ rfl).set 5 n ⟨1, x, y, 1, i, n, o, t⟩ rfl
  have hO := (only_set (w.drewN nq) q 4 (.int .i64 i)).trans (only_set _ q 5 (.int .i64 n))
  exact ⟨_, H, _, rfl, (M.out.drewN nq).after hO hb ⟨rfl, .inr (.inl rfl), hnx.out, ho⟩, ((Mv.refl _ _ _).drewN nq).only hO⟩

set_option maxRecDepth 100000 in
set_option maxHeartbeats 1000000 in
theorem walk_gone (H : List C) (k x y l e o t : Int) (v : Value) (lo q : Nat) (w : World) (mo : Mo w lo q v H ⟨k, x, y, 1, l, e, o, t⟩) (h0 : 0 ≤ e) (hg : (nth H e).gone = true) :
    Calls Try.prog 90 #[v, .pointer (some ⟨q, 0, none⟩)] w fun e w' => ∃ v' H' d', e = .returned v' ∧ Mo w' lo q v' H' d' ∧ Mv lo q w w' := by
  obtain ⟨g, cap, rfl, hg1, hg2, hgq, hqg⟩ := mo.open
  have M : Hid (Mo w lo q (.slice (some ⟨g, 0, none⟩) H.length cap) H ⟨k, x, y, 1, l, e, o, t⟩) := mo
  have h1 := mo.good.1.1
  have hl := mo.own.fit
  have hqlo := mo.qlo
  have hlos := mo.los
  have ho := mo.fits.own
  have he := mo.fits.here
  have hkind := mo.fits.kind
  simp only at ho he hkind
  clear mo
  subst hkind
  obtain ⟨c0, c1, c2, c3, c4, c5, c6, c7⟩ := M.out.hand.cells
  obtain ⟨f0, f1, f2, f3, f4, f5, f6, f7⟩ := M.out.hand.fz
  obtain ⟨i, rfl⟩ : ∃ i : Nat, e = i := ⟨e.toNat, by omega⟩
  have hil : i < H.length := by omega
  have hil' : (i : Int) < H.length := by omega
  have hne : ((i : Int) == -1) = false := by simp
  have en : Hid (nth H (i : Int) = H[i]) := nth_nat H i hil
  obtain ⟨d0, -, d2, d3⟩ := M.out.own.cell i hil
  obtain ⟨key, hkey⟩ := hid_ex (H[i]).key
  obtain ⟨n, hn⟩ := hid_ex (H[i]).next
  obtain ⟨gn, hgn⟩ := hid_ex (H[i]).gone
  rw [hkey.out] at d0
  rw [hn.out] at d2
  rw [hgn.out] at d3
  have hnx : Hid (-1 ≤ n ∧ n < (H.length : Int)) := by rw [← hn.out]; exact good_next M.out.good i hil
  rw [en.out, hgn.out] at hg
  subst hg
  by_cases hs : swapOk H l (i : Int) n
  · have HS : Hid (decide (swapOk H l (i : Int) n) = true) := decide_eq_true hs
    clear hs
    go_enter Try.func90, Try.ntmps90
    go_wp2
    try simp only [Act.put, List.setIfInBounds_toArray, List.set_cons_zero, List.set_cons_succ]
    go_big_quiet (fail)
    have S0 : (w.drewN nq).drew.cell? ⟨q, 4, none⟩ = some (.int .i64 l) ∧ (w.drewN nq).drew.cell? ⟨q, 5, none⟩ = some (.int .i64 (i : Int)) := ⟨c4, c5⟩
    go_wp2
    go_region_held3 (fun w' => w'.cell? ⟨q, 4, none⟩ = some (.int .i64 l) ∧ w'.cell? ⟨q, 5, none⟩ = some (.int .i64 (i : Int))) (first | assumption | exact S0) (first | (go_at_call 100; refine (l3Swap_any H l (i : Int) n _ lo w.heap.size (w.drewN nq).drew (M.out.own.keep fun _ _ _ => rfl) h1).mono ?_; rintro er w2 ⟨rfl, ho2, hW2⟩; rw [HS.out]; have m2 := (M.out.drewN nq).drew.swap l (i : Int) n ho2 hW2; obtain ⟨e0, e1, e2, e3, e4, e5, e6, e7⟩ := m2.hand.cells; obtain ⟨j0, j1, j2, j3, j4, j5, j6, j7⟩ := m2.hand.fz; have S2 := And.intro e4 e5) | (fail))
    go_wp2
    go_ret
    have hb := m2.hand.set 5 n ⟨1, x, y, 1, l, n, o, t⟩ rfl
    have hO := only_set w2 q 5 (.int .i64 n)
    exact ⟨_, _, _, rfl, m2.after hO hb ⟨rfl, .inr (.inl rfl), by rw [swap1_len]; exact hnx.out, by rw [swap1_len]; exact ho⟩, (((Mv.refl _ _ _).drewN nq).drew.trans (Mv.of_within hW2 (Nat.le_refl _) hlos)).only hO⟩
  · have HS : Hid (decide (swapOk H l (i : Int) n) = false) := decide_eq_false hs
    clear hs
    go_enter Try.func90, Try.ntmps90
    go_wp2
    try simp only [Act.put, List.setIfInBounds_toArray, List.set_cons_zero, List.set_cons_succ]
    go_big_quiet (fail)
    have S0 : (w.drewN nq).drew.cell? ⟨q, 4, none⟩ = some (.int .i64 l) ∧ (w.drewN nq).drew.cell? ⟨q, 5, none⟩ = some (.int .i64 (i : Int)) := ⟨c4, c5⟩
    go_wp2
    go_region_held3 (fun w' => w'.cell? ⟨q, 4, none⟩ = some (.int .i64 l) ∧ w'.cell? ⟨q, 5, none⟩ = some (.int .i64 (i : Int))) (first | assumption | exact S0) (first | (go_at_call 100; refine (l3Swap_any H l (i : Int) n _ lo w.heap.size (w.drewN nq).drew (M.out.own.keep fun _ _ _ => rfl) h1).mono ?_; rintro er w2 ⟨rfl, ho2, hW2⟩; rw [HS.out]; have m2 := (M.out.drewN nq).drew.swap l (i : Int) n ho2 hW2; obtain ⟨e0, e1, e2, e3, e4, e5, e6, e7⟩ := m2.hand.cells; obtain ⟨j0, j1, j2, j3, j4, j5, j6, j7⟩ := m2.hand.fz; have S2 := And.intro e4 e5) | (fail))
    go_wp2_with (first | (go_at_call 101; refine (l5Start_any _ q _ m2.hand).mono ?_; rintro er w3 ⟨rfl, hb3, hO3⟩) | (fail))
    go_ret
    exact ⟨_, _, _, rfl, m2.after hO3 hb3 ⟨rfl, .inl rfl, ⟨by simp, by simp; omega⟩, by rw [swap1_len]; exact ho⟩, (((Mv.refl _ _ _).drewN nq).drew.trans (Mv.of_within hW2 (Nat.le_refl _) hlos)).only hO3⟩

end Go.Proofs.Ythjkhghlhjndmaa.ce
