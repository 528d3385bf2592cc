/- The model's small move, exactly: a theorem for each way (written by genhe3.py). -/
import Derived.Test.YthjkhghlhjndmaaMg05
namespace Go.Proofs.Ythjkhghlhjndmaa.ce
open Go.ChangeShapes Go.WideShapes Go.ChangeAt Go.RowKit
set_option linter.unusedVariables false

theorem strike1_next (H : List C) (p n : Int) (i : Nat) (hi : i < H.length) : ((strike1 H p n)[i]'(by rw [strike1_len]; exact hi)).next = (H[i]).next := by
  unfold strike1
  split
  · rename_i h
    have h2 := h.2.1
    simp only [strikeH, List.getElem_set]
    split
    · rename_i e
      have : p = (i : Int) := by have := h2.1; omega
      rw [this, nth_nat H i hi]
    · rfl
  · rfl
set_option maxRecDepth 100000 in
set_option maxHeartbeats 2000000 in
theorem mv_start (H : List C) (k x y l e o t : Int) (v : Value) (lo g q f : Nat) (ty : TypeId) (A B : List Value) (w : World) (m : Me w lo g q f ty A B v H ⟨k, x, y, 0, l, e, o, t⟩) :
    Calls Try.prog 90 #[v, .pointer (some ⟨q, f, none⟩)] w fun er w' => ∃ v' g', er = .returned v' ∧ Me w' lo g' q f ty A B v' H ⟨k, x, y, 1, 0, (nth H 0).next, o, t⟩ ∧ Mw lo q w w' := by
  obtain ⟨cap, rfl⟩ := m.form
  have M : Hid (Me w lo g q f ty A B (.slice (some ⟨g, 0, none⟩) H.length cap) H ⟨k, x, y, 0, l, e, o, t⟩) := m
  have h1 := m.len.1
  have hl := m.own.fit
  have hlos := m.los
  have hglo := m.glo
  have hgw := m.gw
  have hgq := m.gq
  have hqg : q ≠ g := fun e => hgq e.symm
  have hqw := m.hand.lt
  clear m
  obtain ⟨c0, c1, c2, c3, c4, c5, c6, c7⟩ := M.out.hand.cells
  obtain ⟨f0, f1, f2, f3, f4, f5, f6, f7⟩ := M.out.hand.fz
  have en : Hid (nth H 0 = H[0]) := nth_nat H 0 h1
  obtain ⟨-, -, d2, -⟩ := M.out.own.cell 0 h1
  simp only [Nat.zero_mul, Nat.zero_add] at d2
  obtain ⟨n, hn⟩ := hid_ex (H[0]).next
  rw [hn.out] at d2
  rw [en.out, hn.out]
  have hpos : (0 : Int) < H.length := by omega
  have hpos' : 0 < H.length := h1
  go_enter Try.func90, Try.ntmps90
  go_wp2
  go_ret
  have hO := ((only_set w q (f + 4) (.int .i64 0)).trans (only_set _ q (f + 5) (.int .i64 n))).trans (only_set _ q (f + 3) (.int .i64 1))
  exact ⟨_, g, rfl, M.out.after hO (((M.out.hand.set 4 (by omega) 0 ⟨k, x, y, 0, 0, e, o, t⟩ rfl).set 5 (by omega) n ⟨k, x, y, 0, 0, n, o, t⟩ rfl).set 3 (by omega) 1 ⟨k, x, y, 1, 0, n, o, t⟩ rfl), (Mw.refl _ _ _).only hO⟩

set_option maxRecDepth 100000 in
set_option maxHeartbeats 2000000 in
theorem mv_walk_end (H : List C) (k x y l e o t : Int) (v : Value) (lo g q f : Nat) (ty : TypeId) (A B : List Value) (w : World) (m : Me w lo g q f ty A B v H ⟨k, x, y, 1, l, -1, o, t⟩) :
    Calls Try.prog 90 #[v, .pointer (some ⟨q, f, none⟩)] w fun er w' => ∃ v' g', er = .returned v' ∧ Me w' lo g' q f ty A B v' H ⟨k, x, y, 2, l, -1, o, t⟩ ∧ Mw lo q w w' := by
  obtain ⟨cap, rfl⟩ := m.form
  have M : Hid (Me w lo g q f ty A B (.slice (some ⟨g, 0, none⟩) H.length cap) H ⟨k, x, y, 1, l, -1, o, t⟩) := m
  have h1 := m.len.1
  have hl := m.own.fit
  have hlos := m.los
  have hglo := m.glo
  have hgw := m.gw
  have hgq := m.gq
  have hqg : q ≠ g := fun e => hgq e.symm
  have hqw := m.hand.lt
  clear m
  obtain ⟨c0, c1, c2, c3, c4, c5, c6, c7⟩ := M.out.hand.cells
  obtain ⟨f0, f1, f2, f3, f4, f5, f6, f7⟩ := M.out.hand.fz
  go_enter Try.func90, Try.ntmps90
  go_wp2
  try simp only [Act.put, List.setIfInBounds_toArray, List.set_cons_zero, List.set_cons_succ]
  go_big_quiet (fail)
  go_wp2
  go_ret
  have hO := only_set (w.drewN nq) q (f + 3) (.int .i64 2)
  exact ⟨_, g, rfl, (M.out.drewN nq).after hO ((M.out.drewN nq).hand.set 3 (by omega) 2 ⟨k, x, y, 2, l, -1, o, t⟩ rfl), ((Mw.refl _ _ _).drewN nq).only hO⟩

set_option maxRecDepth 100000 in
set_option maxHeartbeats 2000000 in
theorem mv_walk_stop (H : List C) (k x y l e o t : Int) (v : Value) (lo g q f : Nat) (ty : TypeId) (A B : List Value) (w : World) (m : Me w lo g q f ty A B v H ⟨k, x, y, 1, l, e, o, t⟩) (h0 : 0 ≤ e) (he : e < (H.length : Int)) (hg : (nth H e).gone = false) (hk : x ≤ (nth H e).key) :
    Calls Try.prog 90 #[v, .pointer (some ⟨q, f, none⟩)] w fun er w' => ∃ v' g', er = .returned v' ∧ Me w' lo g' q f ty A B v' H ⟨k, x, y, 2, l, e, o, t⟩ ∧ Mw lo q w w' := by
  obtain ⟨cap, rfl⟩ := m.form
  have M : Hid (Me w lo g q f ty A B (.slice (some ⟨g, 0, none⟩) H.length cap) H ⟨k, x, y, 1, l, e, o, t⟩) := m
  have h1 := m.len.1
  have hl := m.own.fit
  have hlos := m.los
  have hglo := m.glo
  have hgw := m.gw
  have hgq := m.gq
  have hqg : q ≠ g := fun e => hgq e.symm
  have hqw := m.hand.lt
  clear m
  obtain ⟨c0, c1, c2, c3, c4, c5, c6, c7⟩ := M.out.hand.cells
  obtain ⟨f0, f1, f2, f3, f4, f5, f6, f7⟩ := M.out.hand.fz
  obtain ⟨i, rfl⟩ : ∃ i : Nat, e = i := ⟨e.toNat, by omega⟩
  have hil : i < H.length := by omega
  have hil' : (i : Int) < H.length := by omega
  have hne : ((i : Int) == -1) = false := by simp
  have en : Hid (nth H (i : Int) = H[i]) := nth_nat H i hil
  obtain ⟨d0, -, d2, d3⟩ := M.out.own.cell i hil
  obtain ⟨z, hz⟩ := hid_ex (H[i])
  rw [hz.out] at d0 d2 d3
  rw [en.out, hz.out] at hk hg
  rw [hg] at d3
  have fK : decide (x ≤ z.key) = true := decide_eq_true hk
  go_enter Try.func90, Try.ntmps90
  go_wp2
  try simp only [Act.put, List.setIfInBounds_toArray, List.set_cons_zero, List.set_cons_succ]
  go_big_quiet (fail)
  go_wp2
  go_ret
  have hO := only_set (w.drewN nq) q (f + 3) (.int .i64 2)
  exact ⟨_, g, rfl, (M.out.drewN nq).after hO ((M.out.drewN nq).hand.set 3 (by omega) 2 ⟨k, x, y, 2, l, i, o, t⟩ rfl), ((Mw.refl _ _ _).drewN nq).only hO⟩

set_option maxRecDepth 100000 in
set_option maxHeartbeats 2000000 in
theorem mv_walk_on (H : List C) (k x y l e o t : Int) (v : Value) (lo g q f : Nat) (ty : TypeId) (A B : List Value) (w : World) (m : Me w lo g q f ty A B v H ⟨k, x, y, 1, l, e, o, t⟩) (h0 : 0 ≤ e) (he : e < (H.length : Int)) (hg : (nth H e).gone = false) (hk : ¬ x ≤ (nth H e).key) :
    Calls Try.prog 90 #[v, .pointer (some ⟨q, f, none⟩)] w fun er w' => ∃ v' g', er = .returned v' ∧ Me w' lo g' q f ty A B v' H ⟨k, x, y, 1, e, (nth H e).next, o, t⟩ ∧ Mw lo q w w' := by
  obtain ⟨cap, rfl⟩ := m.form
  have M : Hid (Me w lo g q f ty A B (.slice (some ⟨g, 0, none⟩) H.length cap) H ⟨k, x, y, 1, l, e, o, t⟩) := m
  have h1 := m.len.1
  have hl := m.own.fit
  have hlos := m.los
  have hglo := m.glo
  have hgw := m.gw
  have hgq := m.gq
  have hqg : q ≠ g := fun e => hgq e.symm
  have hqw := m.hand.lt
  clear m
  obtain ⟨c0, c1, c2, c3, c4, c5, c6, c7⟩ := M.out.hand.cells
  obtain ⟨f0, f1, f2, f3, f4, f5, f6, f7⟩ := M.out.hand.fz
  obtain ⟨i, rfl⟩ : ∃ i : Nat, e = i := ⟨e.toNat, by omega⟩
  have hil : i < H.length := by omega
  have hil' : (i : Int) < H.length := by omega
  have hne : ((i : Int) == -1) = false := by simp
  have en : Hid (nth H (i : Int) = H[i]) := nth_nat H i hil
  obtain ⟨d0, -, d2, d3⟩ := M.out.own.cell i hil
  obtain ⟨z, hz⟩ := hid_ex (H[i])
  rw [hz.out] at d0 d2 d3
  rw [en.out, hz.out] at hk hg ⊢
  rw [hg] at d3
  have fK : decide (x ≤ z.key) = false := decide_eq_false hk
  obtain ⟨n, hn⟩ := hid_ex z.next
  rw [hn.out] at d2 ⊢
  go_enter Try.func90, Try.ntmps90
  go_wp2
  try simp only [Act.put, List.setIfInBounds_toArray, List.set_cons_zero, List.set_cons_succ]
  go_big_quiet (fail)
  go_wp2
  go_ret
  have hO := (only_set (w.drewN nq) q (f + 4) (.int .i64 i)).trans (only_set _ q (f + 5) (.int .i64 n))
  exact ⟨_, g, rfl, (M.out.drewN nq).after hO (((M.out.drewN nq).hand.set 4 (by omega) i ⟨k, x, y, 1, i, i, o, t⟩ rfl).set 5 (by omega) n ⟨k, x, y, 1, i, n, o, t⟩ rfl), ((Mw.refl _ _ _).drewN nq).only hO⟩

set_option maxRecDepth 100000 in
set_option maxHeartbeats 2000000 in
theorem mv_walk_pass (H : List C) (k x y l e o t : Int) (v : Value) (lo g q f : Nat) (ty : TypeId) (A B : List Value) (w : World) (m : Me w lo g q f ty A B v H ⟨k, x, y, 1, l, e, o, t⟩) (h0 : 0 ≤ e) (he : e < (H.length : Int)) (hg : (nth H e).gone = true) (hs : swapOk H l e (nth H e).next) :
    Calls Try.prog 90 #[v, .pointer (some ⟨q, f, none⟩)] w fun er w' => ∃ v' g', er = .returned v' ∧ Me w' lo g' q f ty A B v' (swapH H l (nth H e).next) ⟨k, x, y, 1, l, (nth H e).next, o, t⟩ ∧ Mw lo q w w' := by
  obtain ⟨cap, rfl⟩ := m.form
  have M : Hid (Me w lo g q f ty A B (.slice (some ⟨g, 0, none⟩) H.length cap) H ⟨k, x, y, 1, l, e, o, t⟩) := m
  have h1 := m.len.1
  have hl := m.own.fit
  have hlos := m.los
  have hglo := m.glo
  have hgw := m.gw
  have hgq := m.gq
  have hqg : q ≠ g := fun e => hgq e.symm
  have hqw := m.hand.lt
  clear m
  obtain ⟨c0, c1, c2, c3, c4, c5, c6, c7⟩ := M.out.hand.cells
  obtain ⟨f0, f1, f2, f3, f4, f5, f6, f7⟩ := M.out.hand.fz
  obtain ⟨i, rfl⟩ : ∃ i : Nat, e = i := ⟨e.toNat, by omega⟩
  have hil : i < H.length := by omega
  have hil' : (i : Int) < H.length := by omega
  have hne : ((i : Int) == -1) = false := by simp
  have en : Hid (nth H (i : Int) = H[i]) := nth_nat H i hil
  obtain ⟨d0, -, d2, d3⟩ := M.out.own.cell i hil
  obtain ⟨z, hz⟩ := hid_ex (H[i])
  rw [hz.out] at d0 d2 d3
  rw [en.out, hz.out] at hg hs ⊢
  obtain ⟨n, hn⟩ := hid_ex z.next
  rw [hn.out] at d2 hs ⊢
  rw [hg] at d3
  have HS : Hid (decide (swapOk H l (i : Int) n) = true) := decide_eq_true hs
  have e1 : Hid (swap1 H l (i : Int) n = swapH H l n) := by unfold Hid swap1; rw [if_pos hs]
  clear hs
  go_enter Try.func90, Try.ntmps90
  go_wp2
  try simp only [Act.put, List.setIfInBounds_toArray, List.set_cons_zero, List.set_cons_succ]
  go_big_quiet (fail)
  have S0 : (w.drewN nq).drew.cell? ⟨q, f + 4, none⟩ = some (.int .i64 l) ∧ (w.drewN nq).drew.cell? ⟨q, f + 5, none⟩ = some (.int .i64 (i : Int)) := ⟨c4, c5⟩
  go_wp2
  go_region_held3 (fun w' => w'.cell? ⟨q, f + 4, none⟩ = some (.int .i64 l) ∧ w'.cell? ⟨q, f + 5, none⟩ = some (.int .i64 (i : Int))) (first | assumption | exact S0) (first | (go_at_call 100; refine (l3Swap_any H l (i : Int) n _ g (g + 1) (w.drewN nq).drew (M.out.own.keep fun _ _ _ => rfl) h1).mono ?_; rintro er w2 ⟨rfl, ho2, hW2⟩; rw [HS.out]; have m2 := (M.out.drewN nq).drew.row ho2 hW2 (swap1_len _ _ _ _); rw [e1.out] at m2; obtain ⟨b0, b1, b2, b3, b4, b5, b6, b7⟩ := m2.hand.cells; obtain ⟨j0, j1, j2, j3, j4, j5, j6, j7⟩ := m2.hand.fz; have S2 := And.intro b4 b5) | (fail))
  go_wp2
  go_ret
  have hO := only_set w2 q (f + 5) (.int .i64 n)
  exact ⟨_, g, rfl, m2.after hO (m2.hand.set 5 (by omega) n ⟨k, x, y, 1, l, n, o, t⟩ rfl), (((Mw.refl _ _ _).drewN nq).drew.trans (Mw.row hW2 hglo hlos M.out.typ)).only hO⟩

set_option maxRecDepth 100000 in
set_option maxHeartbeats 2000000 in
theorem mv_walk_lost (H : List C) (k x y l e o t : Int) (v : Value) (lo g q f : Nat) (ty : TypeId) (A B : List Value) (w : World) (m : Me w lo g q f ty A B v H ⟨k, x, y, 1, l, e, o, t⟩) (h0 : 0 ≤ e) (he : e < (H.length : Int)) (hg : (nth H e).gone = true) (hs : ¬ swapOk H l e (nth H e).next) :
    Calls Try.prog 90 #[v, .pointer (some ⟨q, f, none⟩)] w fun er w' => ∃ v' g', er = .returned v' ∧ Me w' lo g' q f ty A B v' H (startD ⟨k, x, y, 1, l, e, o, t⟩) ∧ Mw lo q w w' := by
  obtain ⟨cap, rfl⟩ := m.form
  have M : Hid (Me w lo g q f ty A B (.slice (some ⟨g, 0, none⟩) H.length cap) H ⟨k, x, y, 1, l, e, o, t⟩) := m
  have h1 := m.len.1
  have hl := m.own.fit
  have hlos := m.los
  have hglo := m.glo
  have hgw := m.gw
  have hgq := m.gq
  have hqg : q ≠ g := fun e => hgq e.symm
  have hqw := m.hand.lt
  clear m
  obtain ⟨c0, c1, c2, c3, c4, c5, c6, c7⟩ := M.out.hand.cells
  obtain ⟨f0, f1, f2, f3, f4, f5, f6, f7⟩ := M.out.hand.fz
  obtain ⟨i, rfl⟩ : ∃ i : Nat, e = i := ⟨e.toNat, by omega⟩
  have hil : i < H.length := by omega
  have hil' : (i : Int) < H.length := by omega
  have hne : ((i : Int) == -1) = false := by simp
  have en : Hid (nth H (i : Int) = H[i]) := nth_nat H i hil
  obtain ⟨d0, -, d2, d3⟩ := M.out.own.cell i hil
  obtain ⟨z, hz⟩ := hid_ex (H[i])
  rw [hz.out] at d0 d2 d3
  rw [en.out, hz.out] at hg hs
  obtain ⟨n, hn⟩ := hid_ex z.next
  rw [hn.out] at d2 hs
  rw [hg] at d3
  have HS : Hid (decide (swapOk H l (i : Int) n) = false) := decide_eq_false hs
  have e1 : Hid (swap1 H l (i : Int) n = H) := by unfold Hid swap1; rw [if_neg hs]
  clear hs
  go_enter Try.func90, Try.ntmps90
  go_wp2
  try simp only [Act.put, List.setIfInBounds_toArray, List.set_cons_zero, List.set_cons_succ]
  go_big_quiet (fail)
  have S0 : (w.drewN nq).drew.cell? ⟨q, f + 4, none⟩ = some (.int .i64 l) ∧ (w.drewN nq).drew.cell? ⟨q, f + 5, none⟩ = some (.int .i64 (i : Int)) := ⟨c4, c5⟩
  go_wp2
  go_region_held3 (fun w' => w'.cell? ⟨q, f + 4, none⟩ = some (.int .i64 l) ∧ w'.cell? ⟨q, f + 5, none⟩ = some (.int .i64 (i : Int))) (first | assumption | exact S0) (first | (go_at_call 100; refine (l3Swap_any H l (i : Int) n _ g (g + 1) (w.drewN nq).drew (M.out.own.keep fun _ _ _ => rfl) h1).mono ?_; rintro er w2 ⟨rfl, ho2, hW2⟩; rw [HS.out]; have m2 := (M.out.drewN nq).drew.row ho2 hW2 (swap1_len _ _ _ _); rw [e1.out] at m2; obtain ⟨b0, b1, b2, b3, b4, b5, b6, b7⟩ := m2.hand.cells; obtain ⟨j0, j1, j2, j3, j4, j5, j6, j7⟩ := m2.hand.fz; have S2 := And.intro b4 b5) | (fail))
  go_wp2_with (first | (go_at_call 101; refine (l5StartA _ q f ty A B _ m2.hand).mono ?_; rintro er w3 ⟨rfl, hb3, hO3⟩) | (fail))
  go_ret
  exact ⟨_, g, rfl, m2.after hO3 hb3, (((Mw.refl _ _ _).drewN nq).drew.trans (Mw.row hW2 hglo hlos M.out.typ)).only hO3⟩

set_option maxRecDepth 100000 in
set_option maxHeartbeats 2000000 in
theorem mv_act1_end (H : List C) (k x y l e o t : Int) (v : Value) (lo g q f : Nat) (ty : TypeId) (A B : List Value) (w : World) (m : Me w lo g q f ty A B v H ⟨1, x, y, 2, l, -1, o, t⟩) (hown : o < 0 ∨ o < (H.length : Int)) :
    Calls Try.prog 90 #[v, .pointer (some ⟨q, f, none⟩)] w fun er w' => ∃ v' g', er = .returned v' ∧ Me w' lo g' q f ty A B v' (movePut H ⟨1, x, y, 2, l, -1, o, t⟩).1 (movePut H ⟨1, x, y, 2, l, -1, o, t⟩).2 ∧ Mw lo q w w' := by
  obtain ⟨cap, rfl⟩ := m.form
  have M : Hid (Me w lo g q f ty A B (.slice (some ⟨g, 0, none⟩) H.length cap) H ⟨1, x, y, 2, l, -1, o, t⟩) := m
  have h1 := m.len.1
  have hl := m.own.fit
  have hlos := m.los
  have hglo := m.glo
  have hgw := m.gw
  have hgq := m.gq
  have hqg : q ≠ g := fun e => hgq e.symm
  have hqw := m.hand.lt
  clear m
  obtain ⟨c0, c1, c2, c3, c4, c5, c6, c7⟩ := M.out.hand.cells
  obtain ⟨f0, f1, f2, f3, f4, f5, f6, f7⟩ := M.out.hand.fz
  go_enter Try.func90, Try.ntmps90
  go_wp2
  try simp only [Act.put, List.setIfInBounds_toArray, List.set_cons_zero, List.set_cons_succ]
  go_big_quiet (fail)
  go_wp2_with (first | (go_at_call 103; refine (l5PutA H _ _ lo g q f ty A B _ (M.out.drewN nq) hown).mono ?_; rintro er w2 ⟨v2, g2, rfl, m2, mv2⟩) | (fail))
  go_ret
  exact ⟨_, g2, rfl, m2, ((Mw.refl _ _ _).drewN nq).trans mv2⟩

set_option maxRecDepth 100000 in
set_option maxHeartbeats 2000000 in
theorem mv_act1_found (H : List C) (k x y l e o t : Int) (v : Value) (lo g q f : Nat) (ty : TypeId) (A B : List Value) (w : World) (m : Me w lo g q f ty A B v H ⟨1, x, y, 2, l, e, o, t⟩) (h0 : 0 ≤ e) (he : e < (H.length : Int)) (hk : (nth H e).key = x) :
    Calls Try.prog 90 #[v, .pointer (some ⟨q, f, none⟩)] w fun er w' => ∃ v' g', er = .returned v' ∧ Me w' lo g' q f ty A B v' H (doneD ⟨1, x, y, 2, l, e, o, t⟩ false) ∧ Mw lo q w w' := by
  obtain ⟨cap, rfl⟩ := m.form
  have M : Hid (Me w lo g q f ty A B (.slice (some ⟨g, 0, none⟩) H.length cap) H ⟨1, x, y, 2, l, e, o, t⟩) := m
  have h1 := m.len.1
  have hl := m.own.fit
  have hlos := m.los
  have hglo := m.glo
  have hgw := m.gw
  have hgq := m.gq
  have hqg : q ≠ g := fun e => hgq e.symm
  have hqw := m.hand.lt
  clear m
  obtain ⟨c0, c1, c2, c3, c4, c5, c6, c7⟩ := M.out.hand.cells
  obtain ⟨f0, f1, f2, f3, f4, f5, f6, f7⟩ := M.out.hand.fz
  obtain ⟨i, rfl⟩ : ∃ i : Nat, e = i := ⟨e.toNat, by omega⟩
  have hil : i < H.length := by omega
  have hil' : (i : Int) < H.length := by omega
  have hne : ((i : Int) == -1) = false := by simp
  have en : Hid (nth H (i : Int) = H[i]) := nth_nat H i hil
  obtain ⟨d0, -, d2, d3⟩ := M.out.own.cell i hil
  obtain ⟨z, hz⟩ := hid_ex (H[i])
  rw [hz.out] at d0 d2 d3
  rw [en.out, hz.out] at hk
  have fK : (z.key == x) = true := by simpa using hk
  go_enter Try.func90, Try.ntmps90
  go_wp2
  try simp only [Act.put, List.setIfInBounds_toArray, List.set_cons_zero, List.set_cons_succ]
  go_big_quiet (fail)
  go_wp2_with (first | (go_at_call 102; refine (l5DoneA _ false q f ty A B _ (M.out.drewN nq).hand).mono ?_; rintro er w3 ⟨rfl, hb3, hO3⟩) | (fail))
  go_ret
  exact ⟨_, g, rfl, (M.out.drewN nq).after hO3 hb3, ((Mw.refl _ _ _).drewN nq).only hO3⟩

set_option maxRecDepth 100000 in
set_option maxHeartbeats 2000000 in
theorem mv_act1_other (H : List C) (k x y l e o t : Int) (v : Value) (lo g q f : Nat) (ty : TypeId) (A B : List Value) (w : World) (m : Me w lo g q f ty A B v H ⟨1, x, y, 2, l, e, o, t⟩) (h0 : 0 ≤ e) (he : e < (H.length : Int)) (hk : ¬ (nth H e).key = x) (hown : o < 0 ∨ o < (H.length : Int)) :
    Calls Try.prog 90 #[v, .pointer (some ⟨q, f, none⟩)] w fun er w' => ∃ v' g', er = .returned v' ∧ Me w' lo g' q f ty A B v' (movePut H ⟨1, x, y, 2, l, e, o, t⟩).1 (movePut H ⟨1, x, y, 2, l, e, o, t⟩).2 ∧ Mw lo q w w' := by
  obtain ⟨cap, rfl⟩ := m.form
  have M : Hid (Me w lo g q f ty A B (.slice (some ⟨g, 0, none⟩) H.length cap) H ⟨1, x, y, 2, l, e, o, t⟩) := m
  have h1 := m.len.1
  have hl := m.own.fit
  have hlos := m.los
  have hglo := m.glo
  have hgw := m.gw
  have hgq := m.gq
  have hqg : q ≠ g := fun e => hgq e.symm
  have hqw := m.hand.lt
  clear m
  obtain ⟨c0, c1, c2, c3, c4, c5, c6, c7⟩ := M.out.hand.cells
  obtain ⟨f0, f1, f2, f3, f4, f5, f6, f7⟩ := M.out.hand.fz
  obtain ⟨i, rfl⟩ : ∃ i : Nat, e = i := ⟨e.toNat, by omega⟩
  have hil : i < H.length := by omega
  have hil' : (i : Int) < H.length := by omega
  have hne : ((i : Int) == -1) = false := by simp
  have en : Hid (nth H (i : Int) = H[i]) := nth_nat H i hil
  obtain ⟨d0, -, d2, d3⟩ := M.out.own.cell i hil
  obtain ⟨z, hz⟩ := hid_ex (H[i])
  rw [hz.out] at d0 d2 d3
  rw [en.out, hz.out] at hk
  have fK : (z.key == x) = false := by simpa using hk
  go_enter Try.func90, Try.ntmps90
  go_wp2
  try simp only [Act.put, List.setIfInBounds_toArray, List.set_cons_zero, List.set_cons_succ]
  go_big_quiet (fail)
  go_wp2_with (first | (go_at_call 103; refine (l5PutA H _ _ lo g q f ty A B _ (M.out.drewN nq) hown).mono ?_; rintro er w2 ⟨v2, g2, rfl, m2, mv2⟩) | (fail))
  go_ret
  exact ⟨_, g2, rfl, m2, ((Mw.refl _ _ _).drewN nq).trans mv2⟩

set_option maxRecDepth 100000 in
set_option maxHeartbeats 2000000 in
theorem mv_act2_end (H : List C) (k x y l e o t : Int) (v : Value) (lo g q f : Nat) (ty : TypeId) (A B : List Value) (w : World) (m : Me w lo g q f ty A B v H ⟨2, x, y, 2, l, -1, o, t⟩) :
    Calls Try.prog 90 #[v, .pointer (some ⟨q, f, none⟩)] w fun er w' => ∃ v' g', er = .returned v' ∧ Me w' lo g' q f ty A B v' H (doneD ⟨2, x, y, 2, l, -1, o, t⟩ false) ∧ Mw lo q w w' := by
  obtain ⟨cap, rfl⟩ := m.form
  have M : Hid (Me w lo g q f ty A B (.slice (some ⟨g, 0, none⟩) H.length cap) H ⟨2, x, y, 2, l, -1, o, t⟩) := m
  have h1 := m.len.1
  have hl := m.own.fit
  have hlos := m.los
  have hglo := m.glo
  have hgw := m.gw
  have hgq := m.gq
  have hqg : q ≠ g := fun e => hgq e.symm
  have hqw := m.hand.lt
  clear m
  obtain ⟨c0, c1, c2, c3, c4, c5, c6, c7⟩ := M.out.hand.cells
  obtain ⟨f0, f1, f2, f3, f4, f5, f6, f7⟩ := M.out.hand.fz
  go_enter Try.func90, Try.ntmps90
  go_wp2
  try simp only [Act.put, List.setIfInBounds_toArray, List.set_cons_zero, List.set_cons_succ]
  go_big_quiet (fail)
  go_wp2_with (first | (go_at_call 102; refine (l5DoneA _ false q f ty A B _ (M.out.drewN nq).hand).mono ?_; rintro er w3 ⟨rfl, hb3, hO3⟩) | (fail))
  go_ret
  exact ⟨_, g, rfl, (M.out.drewN nq).after hO3 hb3, ((Mw.refl _ _ _).drewN nq).only hO3⟩

set_option maxRecDepth 100000 in
set_option maxHeartbeats 2000000 in
theorem mv_act2_found (H : List C) (k x y l e o t : Int) (v : Value) (lo g q f : Nat) (ty : TypeId) (A B : List Value) (w : World) (m : Me w lo g q f ty A B v H ⟨2, x, y, 2, l, e, o, t⟩) (h0 : 0 ≤ e) (he : e < (H.length : Int)) (hk : (nth H e).key = x) :
    Calls Try.prog 90 #[v, .pointer (some ⟨q, f, none⟩)] w fun er w' => ∃ v' g', er = .returned v' ∧ Me w' lo g' q f ty A B v' H ⟨2, x, y, 4, l, e, o, t⟩ ∧ Mw lo q w w' := by
  obtain ⟨cap, rfl⟩ := m.form
  have M : Hid (Me w lo g q f ty A B (.slice (some ⟨g, 0, none⟩) H.length cap) H ⟨2, x, y, 2, l, e, o, t⟩) := m
  have h1 := m.len.1
  have hl := m.own.fit
  have hlos := m.los
  have hglo := m.glo
  have hgw := m.gw
  have hgq := m.gq
  have hqg : q ≠ g := fun e => hgq e.symm
  have hqw := m.hand.lt
  clear m
  obtain ⟨c0, c1, c2, c3, c4, c5, c6, c7⟩ := M.out.hand.cells
  obtain ⟨f0, f1, f2, f3, f4, f5, f6, f7⟩ := M.out.hand.fz
  obtain ⟨i, rfl⟩ : ∃ i : Nat, e = i := ⟨e.toNat, by omega⟩
  have hil : i < H.length := by omega
  have hil' : (i : Int) < H.length := by omega
  have hne : ((i : Int) == -1) = false := by simp
  have en : Hid (nth H (i : Int) = H[i]) := nth_nat H i hil
  obtain ⟨d0, -, d2, d3⟩ := M.out.own.cell i hil
  obtain ⟨z, hz⟩ := hid_ex (H[i])
  rw [hz.out] at d0 d2 d3
  rw [en.out, hz.out] at hk
  have fK : (z.key == x) = true := by simpa using hk
  go_enter Try.func90, Try.ntmps90
  go_wp2
  try simp only [Act.put, List.setIfInBounds_toArray, List.set_cons_zero, List.set_cons_succ]
  go_big_quiet (fail)
  go_wp2
  go_ret
  have hO := only_set (w.drewN nq) q (f + 3) (.int .i64 4)
  exact ⟨_, g, rfl, (M.out.drewN nq).after hO ((M.out.drewN nq).hand.set 3 (by omega) 4 ⟨2, x, y, 4, l, i, o, t⟩ rfl), ((Mw.refl _ _ _).drewN nq).only hO⟩

set_option maxRecDepth 100000 in
set_option maxHeartbeats 2000000 in
theorem mv_act2_other (H : List C) (k x y l e o t : Int) (v : Value) (lo g q f : Nat) (ty : TypeId) (A B : List Value) (w : World) (m : Me w lo g q f ty A B v H ⟨2, x, y, 2, l, e, o, t⟩) (h0 : 0 ≤ e) (he : e < (H.length : Int)) (hk : ¬ (nth H e).key = x) :
    Calls Try.prog 90 #[v, .pointer (some ⟨q, f, none⟩)] w fun er w' => ∃ v' g', er = .returned v' ∧ Me w' lo g' q f ty A B v' H (doneD ⟨2, x, y, 2, l, e, o, t⟩ false) ∧ Mw lo q w w' := by
  obtain ⟨cap, rfl⟩ := m.form
  have M : Hid (Me w lo g q f ty A B (.slice (some ⟨g, 0, none⟩) H.length cap) H ⟨2, x, y, 2, l, e, o, t⟩) := m
  have h1 := m.len.1
  have hl := m.own.fit
  have hlos := m.los
  have hglo := m.glo
  have hgw := m.gw
  have hgq := m.gq
  have hqg : q ≠ g := fun e => hgq e.symm
  have hqw := m.hand.lt
  clear m
  obtain ⟨c0, c1, c2, c3, c4, c5, c6, c7⟩ := M.out.hand.cells
  obtain ⟨f0, f1, f2, f3, f4, f5, f6, f7⟩ := M.out.hand.fz
  obtain ⟨i, rfl⟩ : ∃ i : Nat, e = i := ⟨e.toNat, by omega⟩
  have hil : i < H.length := by omega
  have hil' : (i : Int) < H.length := by omega
  have hne : ((i : Int) == -1) = false := by simp
  have en : Hid (nth H (i : Int) = H[i]) := nth_nat H i hil
  obtain ⟨d0, -, d2, d3⟩ := M.out.own.cell i hil
  obtain ⟨z, hz⟩ := hid_ex (H[i])
  rw [hz.out] at d0 d2 d3
  rw [en.out, hz.out] at hk
  have fK : (z.key == x) = false := by simpa using hk
  go_enter Try.func90, Try.ntmps90
  go_wp2
  try simp only [Act.put, List.setIfInBounds_toArray, List.set_cons_zero, List.set_cons_succ]
  go_big_quiet (fail)
  go_wp2_with (first | (go_at_call 102; refine (l5DoneA _ false q f ty A B _ (M.out.drewN nq).hand).mono ?_; rintro er w3 ⟨rfl, hb3, hO3⟩) | (fail))
  go_ret
  exact ⟨_, g, rfl, (M.out.drewN nq).after hO3 hb3, ((Mw.refl _ _ _).drewN nq).only hO3⟩

set_option maxRecDepth 100000 in
set_option maxHeartbeats 2000000 in
theorem mv_act3_end (H : List C) (k x y l e o t : Int) (v : Value) (lo g q f : Nat) (ty : TypeId) (A B : List Value) (w : World) (m : Me w lo g q f ty A B v H ⟨3, x, y, 2, l, -1, o, t⟩) :
    Calls Try.prog 90 #[v, .pointer (some ⟨q, f, none⟩)] w fun er w' => ∃ v' g', er = .returned v' ∧ Me w' lo g' q f ty A B v' H (doneD ⟨3, x, y, 2, l, -1, o, t⟩ false) ∧ Mw lo q w w' := by
  obtain ⟨cap, rfl⟩ := m.form
  have M : Hid (Me w lo g q f ty A B (.slice (some ⟨g, 0, none⟩) H.length cap) H ⟨3, x, y, 2, l, -1, o, t⟩) := m
  have h1 := m.len.1
  have hl := m.own.fit
  have hlos := m.los
  have hglo := m.glo
  have hgw := m.gw
  have hgq := m.gq
  have hqg : q ≠ g := fun e => hgq e.symm
  have hqw := m.hand.lt
  clear m
  obtain ⟨c0, c1, c2, c3, c4, c5, c6, c7⟩ := M.out.hand.cells
  obtain ⟨f0, f1, f2, f3, f4, f5, f6, f7⟩ := M.out.hand.fz
  go_enter Try.func90, Try.ntmps90
  go_wp2
  try simp only [Act.put, List.setIfInBounds_toArray, List.set_cons_zero, List.set_cons_succ]
  go_big_quiet (fail)
  go_wp2_with (first | (go_at_call 102; refine (l5DoneA _ false q f ty A B _ (M.out.drewN nq).hand).mono ?_; rintro er w3 ⟨rfl, hb3, hO3⟩) | (fail))
  go_ret
  exact ⟨_, g, rfl, (M.out.drewN nq).after hO3 hb3, ((Mw.refl _ _ _).drewN nq).only hO3⟩

set_option maxRecDepth 100000 in
set_option maxHeartbeats 2000000 in
theorem mv_act3_found (H : List C) (k x y l e o t : Int) (v : Value) (lo g q f : Nat) (ty : TypeId) (A B : List Value) (w : World) (m : Me w lo g q f ty A B v H ⟨3, x, y, 2, l, e, o, t⟩) (h0 : 0 ≤ e) (he : e < (H.length : Int)) (hk : (nth H e).key = x) :
    Calls Try.prog 90 #[v, .pointer (some ⟨q, f, none⟩)] w fun er w' => ∃ v' g', er = .returned v' ∧ Me w' lo g' q f ty A B v' H (doneD ⟨3, x, y, 2, l, e, o, t⟩ true) ∧ Mw lo q w w' := by
  obtain ⟨cap, rfl⟩ := m.form
  have M : Hid (Me w lo g q f ty A B (.slice (some ⟨g, 0, none⟩) H.length cap) H ⟨3, x, y, 2, l, e, o, t⟩) := m
  have h1 := m.len.1
  have hl := m.own.fit
  have hlos := m.los
  have hglo := m.glo
  have hgw := m.gw
  have hgq := m.gq
  have hqg : q ≠ g := fun e => hgq e.symm
  have hqw := m.hand.lt
  clear m
  obtain ⟨c0, c1, c2, c3, c4, c5, c6, c7⟩ := M.out.hand.cells
  obtain ⟨f0, f1, f2, f3, f4, f5, f6, f7⟩ := M.out.hand.fz
  obtain ⟨i, rfl⟩ : ∃ i : Nat, e = i := ⟨e.toNat, by omega⟩
  have hil : i < H.length := by omega
  have hil' : (i : Int) < H.length := by omega
  have hne : ((i : Int) == -1) = false := by simp
  have en : Hid (nth H (i : Int) = H[i]) := nth_nat H i hil
  obtain ⟨d0, -, d2, d3⟩ := M.out.own.cell i hil
  obtain ⟨z, hz⟩ := hid_ex (H[i])
  rw [hz.out] at d0 d2 d3
  rw [en.out, hz.out] at hk
  have fK : (z.key == x) = true := by simpa using hk
  go_enter Try.func90, Try.ntmps90
  go_wp2
  try simp only [Act.put, List.setIfInBounds_toArray, List.set_cons_zero, List.set_cons_succ]
  go_big_quiet (fail)
  go_wp2_with (first | (go_at_call 102; refine (l5DoneA _ true q f ty A B _ (M.out.drewN nq).hand).mono ?_; rintro er w3 ⟨rfl, hb3, hO3⟩) | (fail))
  go_ret
  exact ⟨_, g, rfl, (M.out.drewN nq).after hO3 hb3, ((Mw.refl _ _ _).drewN nq).only hO3⟩

set_option maxRecDepth 100000 in
set_option maxHeartbeats 2000000 in
theorem mv_act3_other (H : List C) (k x y l e o t : Int) (v : Value) (lo g q f : Nat) (ty : TypeId) (A B : List Value) (w : World) (m : Me w lo g q f ty A B v H ⟨3, x, y, 2, l, e, o, t⟩) (h0 : 0 ≤ e) (he : e < (H.length : Int)) (hk : ¬ (nth H e).key = x) :
    Calls Try.prog 90 #[v, .pointer (some ⟨q, f, none⟩)] w fun er w' => ∃ v' g', er = .returned v' ∧ Me w' lo g' q f ty A B v' H (doneD ⟨3, x, y, 2, l, e, o, t⟩ false) ∧ Mw lo q w w' := by
  obtain ⟨cap, rfl⟩ := m.form
  have M : Hid (Me w lo g q f ty A B (.slice (some ⟨g, 0, none⟩) H.length cap) H ⟨3, x, y, 2, l, e, o, t⟩) := m
  have h1 := m.len.1
  have hl := m.own.fit
  have hlos := m.los
  have hglo := m.glo
  have hgw := m.gw
  have hgq := m.gq
  have hqg : q ≠ g := fun e => hgq e.symm
  have hqw := m.hand.lt
  clear m
  obtain ⟨c0, c1, c2, c3, c4, c5, c6, c7⟩ := M.out.hand.cells
  obtain ⟨f0, f1, f2, f3, f4, f5, f6, f7⟩ := M.out.hand.fz
  obtain ⟨i, rfl⟩ : ∃ i : Nat, e = i := ⟨e.toNat, by omega⟩
  have hil : i < H.length := by omega
  have hil' : (i : Int) < H.length := by omega
  have hne : ((i : Int) == -1) = false := by simp
  have en : Hid (nth H (i : Int) = H[i]) := nth_nat H i hil
  obtain ⟨d0, -, d2, d3⟩ := M.out.own.cell i hil
  obtain ⟨z, hz⟩ := hid_ex (H[i])
  rw [hz.out] at d0 d2 d3
  rw [en.out, hz.out] at hk
  have fK : (z.key == x) = false := by simpa using hk
  go_enter Try.func90, Try.ntmps90
  go_wp2
  try simp only [Act.put, List.setIfInBounds_toArray, List.set_cons_zero, List.set_cons_succ]
  go_big_quiet (fail)
  go_wp2_with (first | (go_at_call 102; refine (l5DoneA _ false q f ty A B _ (M.out.drewN nq).hand).mono ?_; rintro er w3 ⟨rfl, hb3, hO3⟩) | (fail))
  go_ret
  exact ⟨_, g, rfl, (M.out.drewN nq).after hO3 hb3, ((Mw.refl _ _ _).drewN nq).only hO3⟩

set_option maxRecDepth 100000 in
set_option maxHeartbeats 2000000 in
theorem mv_link (H : List C) (k x y l e o t : Int) (v : Value) (lo g q f : Nat) (ty : TypeId) (A B : List Value) (w : World) (m : Me w lo g q f ty A B v H ⟨k, x, y, 3, l, e, o, t⟩) (hs : swapOk H l e o) :
    Calls Try.prog 90 #[v, .pointer (some ⟨q, f, none⟩)] w fun er w' => ∃ v' g', er = .returned v' ∧ Me w' lo g' q f ty A B v' (swapH H l o) (doneD ⟨k, x, y, 3, l, e, o, t⟩ true) ∧ Mw lo q w w' := by
  obtain ⟨cap, rfl⟩ := m.form
  have M : Hid (Me w lo g q f ty A B (.slice (some ⟨g, 0, none⟩) H.length cap) H ⟨k, x, y, 3, l, e, o, t⟩) := m
  have h1 := m.len.1
  have hl := m.own.fit
  have hlos := m.los
  have hglo := m.glo
  have hgw := m.gw
  have hgq := m.gq
  have hqg : q ≠ g := fun e => hgq e.symm
  have hqw := m.hand.lt
  clear m
  obtain ⟨c0, c1, c2, c3, c4, c5, c6, c7⟩ := M.out.hand.cells
  obtain ⟨f0, f1, f2, f3, f4, f5, f6, f7⟩ := M.out.hand.fz
  have HS : Hid (decide (swapOk H l e o) = true) := decide_eq_true hs
  have e1 : Hid (swap1 H l e o = swapH H l o) := by unfold Hid swap1; rw [if_pos hs]
  clear hs
  have S0 : w.drew.cell? ⟨q, f + 4, none⟩ = some (.int .i64 l) ∧ w.drew.cell? ⟨q, f + 5, none⟩ = some (.int .i64 e) ∧ w.drew.cell? ⟨q, f + 6, none⟩ = some (.int .i64 o) := ⟨c4, c5, c6⟩
  go_enter Try.func90, Try.ntmps90
  go_wp2
  go_region_held3 (fun w' => w'.cell? ⟨q, f + 4, none⟩ = some (.int .i64 l) ∧ w'.cell? ⟨q, f + 5, none⟩ = some (.int .i64 e) ∧ w'.cell? ⟨q, f + 6, none⟩ = some (.int .i64 o)) (first | assumption | exact S0) (first | (go_at_call 100; refine (l3Swap_any H l e o _ g (g + 1) w.drew (M.out.own.keep fun _ _ _ => rfl) h1).mono ?_; rintro er w2 ⟨rfl, ho2, hW2⟩; rw [HS.out]; have m2 := M.out.drew.row ho2 hW2 (swap1_len _ _ _ _); rw [e1.out] at m2; obtain ⟨b0, b1, b2, b3, b4, b5, b6, b7⟩ := m2.hand.cells; obtain ⟨j0, j1, j2, j3, j4, j5, j6, j7⟩ := m2.hand.fz; have S2 := And.intro b4 (And.intro b5 b6)) | (fail))
  go_wp2_with (first | (go_at_call 102; refine (l5DoneA _ true q f ty A B _ m2.hand).mono ?_; rintro er w3 ⟨rfl, hb3, hO3⟩) | (fail))
  go_ret
  exact ⟨_, g, rfl, m2.after hO3 hb3, ((Mw.refl _ _ _).drew.trans (Mw.row hW2 hglo hlos M.out.typ)).only hO3⟩

set_option maxRecDepth 100000 in
set_option maxHeartbeats 2000000 in
theorem mv_link_lost (H : List C) (k x y l e o t : Int) (v : Value) (lo g q f : Nat) (ty : TypeId) (A B : List Value) (w : World) (m : Me w lo g q f ty A B v H ⟨k, x, y, 3, l, e, o, t⟩) (hs : ¬ swapOk H l e o) :
    Calls Try.prog 90 #[v, .pointer (some ⟨q, f, none⟩)] w fun er w' => ∃ v' g', er = .returned v' ∧ Me w' lo g' q f ty A B v' H (startD ⟨k, x, y, 3, l, e, o, t⟩) ∧ Mw lo q w w' := by
  obtain ⟨cap, rfl⟩ := m.form
  have M : Hid (Me w lo g q f ty A B (.slice (some ⟨g, 0, none⟩) H.length cap) H ⟨k, x, y, 3, l, e, o, t⟩) := m
  have h1 := m.len.1
  have hl := m.own.fit
  have hlos := m.los
  have hglo := m.glo
  have hgw := m.gw
  have hgq := m.gq
  have hqg : q ≠ g := fun e => hgq e.symm
  have hqw := m.hand.lt
  clear m
  obtain ⟨c0, c1, c2, c3, c4, c5, c6, c7⟩ := M.out.hand.cells
  obtain ⟨f0, f1, f2, f3, f4, f5, f6, f7⟩ := M.out.hand.fz
  have HS : Hid (decide (swapOk H l e o) = false) := decide_eq_false hs
  have e1 : Hid (swap1 H l e o = H) := by unfold Hid swap1; rw [if_neg hs]
  clear hs
  have S0 : w.drew.cell? ⟨q, f + 4, none⟩ = some (.int .i64 l) ∧ w.drew.cell? ⟨q, f + 5, none⟩ = some (.int .i64 e) ∧ w.drew.cell? ⟨q, f + 6, none⟩ = some (.int .i64 o) := ⟨c4, c5, c6⟩
  go_enter Try.func90, Try.ntmps90
  go_wp2
  go_region_held3 (fun w' => w'.cell? ⟨q, f + 4, none⟩ = some (.int .i64 l) ∧ w'.cell? ⟨q, f + 5, none⟩ = some (.int .i64 e) ∧ w'.cell? ⟨q, f + 6, none⟩ = some (.int .i64 o)) (first | assumption | exact S0) (first | (go_at_call 100; refine (l3Swap_any H l e o _ g (g + 1) w.drew (M.out.own.keep fun _ _ _ => rfl) h1).mono ?_; rintro er w2 ⟨rfl, ho2, hW2⟩; rw [HS.out]; have m2 := M.out.drew.row ho2 hW2 (swap1_len _ _ _ _); rw [e1.out] at m2; obtain ⟨b0, b1, b2, b3, b4, b5, b6, b7⟩ := m2.hand.cells; obtain ⟨j0, j1, j2, j3, j4, j5, j6, j7⟩ := m2.hand.fz; have S2 := And.intro b4 (And.intro b5 b6)) | (fail))
  go_wp2_with (first | (go_at_call 101; refine (l5StartA _ q f ty A B _ m2.hand).mono ?_; rintro er w3 ⟨rfl, hb3, hO3⟩) | (fail))
  go_ret
  exact ⟨_, g, rfl, m2.after hO3 hb3, ((Mw.refl _ _ _).drew.trans (Mw.row hW2 hglo hlos M.out.typ)).only hO3⟩

set_option maxRecDepth 100000 in
set_option maxHeartbeats 2000000 in
theorem mv_mark_lost (H : List C) (k x y l e o t : Int) (v : Value) (lo g q f : Nat) (ty : TypeId) (A B : List Value) (w : World) (m : Me w lo g q f ty A B v H ⟨k, x, y, 4, l, e, o, t⟩) (h0 : 0 ≤ e) (he : e < (H.length : Int)) (hg : (nth H e).gone = true) :
    Calls Try.prog 90 #[v, .pointer (some ⟨q, f, none⟩)] w fun er w' => ∃ v' g', er = .returned v' ∧ Me w' lo g' q f ty A B v' H (startD ⟨k, x, y, 4, l, e, o, t⟩) ∧ Mw lo q w w' := by
  obtain ⟨cap, rfl⟩ := m.form
  have M : Hid (Me w lo g q f ty A B (.slice (some ⟨g, 0, none⟩) H.length cap) H ⟨k, x, y, 4, l, e, o, t⟩) := m
  have h1 := m.len.1
  have hl := m.own.fit
  have hlos := m.los
  have hglo := m.glo
  have hgw := m.gw
  have hgq := m.gq
  have hqg : q ≠ g := fun e => hgq e.symm
  have hqw := m.hand.lt
  clear m
  obtain ⟨c0, c1, c2, c3, c4, c5, c6, c7⟩ := M.out.hand.cells
  obtain ⟨f0, f1, f2, f3, f4, f5, f6, f7⟩ := M.out.hand.fz
  obtain ⟨i, rfl⟩ : ∃ i : Nat, e = i := ⟨e.toNat, by omega⟩
  have hil : i < H.length := by omega
  have hil' : (i : Int) < H.length := by omega
  have hne : ((i : Int) == -1) = false := by simp
  have en : Hid (nth H (i : Int) = H[i]) := nth_nat H i hil
  obtain ⟨d0, -, d2, d3⟩ := M.out.own.cell i hil
  obtain ⟨z, hz⟩ := hid_ex (H[i])
  rw [hz.out] at d0 d2 d3
  rw [en.out, hz.out] at hg
  rw [hg] at d3
  go_enter Try.func90, Try.ntmps90
  go_wp2_with (first | (go_at_call 101; refine (l5StartA _ q f ty A B _ M.out.hand).mono ?_; rintro er w3 ⟨rfl, hb3, hO3⟩) | (fail))
  go_ret
  exact ⟨_, g, rfl, M.out.after hO3 hb3, (Mw.refl _ _ _).only hO3⟩

set_option maxRecDepth 100000 in
set_option maxHeartbeats 2000000 in
theorem mv_mark (H : List C) (k x y l e o t : Int) (v : Value) (lo g q f : Nat) (ty : TypeId) (A B : List Value) (w : World) (m : Me w lo g q f ty A B v H ⟨k, x, y, 4, l, e, o, t⟩) (h0 : 0 ≤ e) (he : e < (H.length : Int)) (hg : (nth H e).gone = false) :
    Calls Try.prog 90 #[v, .pointer (some ⟨q, f, none⟩)] w fun er w' => ∃ v' g', er = .returned v' ∧ Me w' lo g' q f ty A B v' (strike1 H e (nth H e).next) (doneD ⟨k, x, y, 4, l, e, o, t⟩ true) ∧ Mw lo q w w' := by
  obtain ⟨cap, rfl⟩ := m.form
  have M : Hid (Me w lo g q f ty A B (.slice (some ⟨g, 0, none⟩) H.length cap) H ⟨k, x, y, 4, l, e, o, t⟩) := m
  have h1 := m.len.1
  have hl := m.own.fit
  have hlos := m.los
  have hglo := m.glo
  have hgw := m.gw
  have hgq := m.gq
  have hqg : q ≠ g := fun e => hgq e.symm
  have hqw := m.hand.lt
  clear m
  obtain ⟨c0, c1, c2, c3, c4, c5, c6, c7⟩ := M.out.hand.cells
  obtain ⟨f0, f1, f2, f3, f4, f5, f6, f7⟩ := M.out.hand.fz
  obtain ⟨i, rfl⟩ : ∃ i : Nat, e = i := ⟨e.toNat, by omega⟩
  have hil : i < H.length := by omega
  have hil' : (i : Int) < H.length := by omega
  have hne : ((i : Int) == -1) = false := by simp
  have en : Hid (nth H (i : Int) = H[i]) := nth_nat H i hil
  obtain ⟨d0, -, d2, d3⟩ := M.out.own.cell i hil
  obtain ⟨z, hz⟩ := hid_ex (H[i])
  rw [hz.out] at d0 d2 d3
  rw [en.out, hz.out] at hg ⊢
  rw [hg] at d3
  obtain ⟨n, hn⟩ := hid_ex z.next
  rw [hn.out] at d2 ⊢
  go_enter Try.func90, Try.ntmps90
  go_wp2
  have S0 : w.drew.cell? ⟨q, f + 5, none⟩ = some (.int .i64 (i : Int)) ∧ w.drew.cell? ⟨g, i * 4 + 2, none⟩ = some (.int .i64 n) := ⟨c5, d2⟩
  go_region_held3 (fun w' => w'.cell? ⟨q, f + 5, none⟩ = some (.int .i64 (i : Int)) ∧ w'.cell? ⟨g, i * 4 + 2, none⟩ = some (.int .i64 n)) (first | assumption | exact S0) (first | (go_at_call 104; refine (l3Strike_any H (i : Int) n _ g (g + 1) w.drew (M.out.own.keep fun _ _ _ => rfl) h1).mono ?_; rintro er w2 ⟨rfl, ho2, hW2⟩; have m2 := M.out.drew.row ho2 hW2 (strike1_len _ _ _); obtain ⟨b0, b1, b2, b3, b4, b5, b6, b7⟩ := m2.hand.cells; obtain ⟨-, -, q2, -⟩ := ho2.cell i (by rw [strike1_len]; exact hil); rw [strike1_next H (i : Int) n i hil, hz.out, hn.out] at q2; have S2 := And.intro b5 q2) | (fail))
  go_wp2_with (first | (go_at_call 102; refine (l5DoneA _ true q f ty A B _ m2.hand).mono ?_; rintro er w3 ⟨rfl, hb3, hO3⟩) | (fail))
  go_ret
  exact ⟨_, g, rfl, m2.after hO3 hb3, ((Mw.refl _ _ _).drew.trans (Mw.row hW2 hglo hlos M.out.typ)).only hO3⟩

set_option maxRecDepth 100000 in
set_option maxHeartbeats 2000000 in
theorem mv_done (H : List C) (k x y l e o t : Int) (v : Value) (lo g q f : Nat) (ty : TypeId) (A B : List Value) (w : World) (m : Me w lo g q f ty A B v H ⟨k, x, y, 5, l, e, o, t⟩) :
    Calls Try.prog 90 #[v, .pointer (some ⟨q, f, none⟩)] w fun er w' => ∃ v' g', er = .returned v' ∧ Me w' lo g' q f ty A B v' H ⟨k, x, y, 5, l, e, o, t⟩ ∧ Mw lo q w w' := by
  obtain ⟨cap, rfl⟩ := m.form
  have M : Hid (Me w lo g q f ty A B (.slice (some ⟨g, 0, none⟩) H.length cap) H ⟨k, x, y, 5, l, e, o, t⟩) := m
  have h1 := m.len.1
  have hl := m.own.fit
  have hlos := m.los
  have hglo := m.glo
  have hgw := m.gw
  have hgq := m.gq
  have hqg : q ≠ g := fun e => hgq e.symm
  have hqw := m.hand.lt
  clear m
  obtain ⟨c0, c1, c2, c3, c4, c5, c6, c7⟩ := M.out.hand.cells
  obtain ⟨f0, f1, f2, f3, f4, f5, f6, f7⟩ := M.out.hand.fz
  go_enter Try.func90, Try.ntmps90
  go_wp2
  go_ret
  exact ⟨_, g, rfl, M.out, Mw.refl _ _ _⟩

end Go.Proofs.Ythjkhghlhjndmaa.ce
