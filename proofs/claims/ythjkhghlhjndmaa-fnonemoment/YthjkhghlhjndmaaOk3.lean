/- Contract of l5Ok (written by genok.py): a hand that has not begun, or that is done. -/
import Derived.Test.YthjkhghlhjndmaaMg08
namespace Go.Proofs.Ythjkhghlhjndmaa.ce
open Go.ChangeShapes Go.WideShapes Go.ChangeAt Go.RowKit
set_option linter.unusedVariables false

theorem mkOk {H : List C} {k x y s l e o t : Int} (hk : 1 ≤ k ∧ k ≤ 3) (hx : 1 ≤ x ∧ x ≤ 65535) (hs : 0 ≤ s ∧ s ≤ 5) (idle : (s = 0 ∨ s = 5) → l = -1 ∧ e = -1) (way : ¬ (s = 0 ∨ s = 5) → has H l ∧ (nth H l).key < x ∧ (e = -1 ∨ 1 ≤ e ∧ e < (H.length : Int))) (told : (s = 5 ↔ t ≠ 0) ∧ 0 ≤ t ∧ t ≤ 2)
    (inH : 0 ≤ e → (nth H e).gone = false → e ∈ chain H) (inL : 0 ≤ l → (nth H l).gone = false → l ∈ chain H) (act : s = 2 → x ≤ there H ⟨k, x, y, s, l, e, o, t⟩) (link : s = 3 → x < there H ⟨k, x, y, s, l, e, o, t⟩ ∧ k = 1 ∧ 0 ≤ o) (mark : s = 4 → there H ⟨k, x, y, s, l, e, o, t⟩ = x ∧ k = 2)
    (own : o = -1 ∨ (k = 1 ∧ (1 ≤ o ∧ o < (H.length : Int)) ∧ (nth H o).key = x ∧ (nth H o).value = y ∧ (s = 3 → (nth H o).next = e) ∧ (s = 5 ∨ (nth H o).gone = false ∧ o ∉ chain H))) : OkH H ⟨k, x, y, s, l, e, o, t⟩ :=
  ⟨hk, hx, hs, idle, way, told, inH, inL, act, link, mark, own⟩

set_option maxRecDepth 100000 in
set_option maxHeartbeats 4000000 in
theorem ok_idle0 (H : List C) (hok : heapOk H) (k x y l e o t : Int) (v : Value) (hi : Nat) (w : World) (hh : hi ≤ w.heap.size) (r : Rd w hi v H) (hk : 1 ≤ k ∧ k ≤ 3) (hx : 1 ≤ x ∧ x ≤ 65535) :
    Calls Try.prog 45 #[v, .agg (hv ⟨k, x, y, 0, l, e, o, t⟩).toArray] w fun er w' => er = .returned (.bool (okB H ⟨k, x, y, 0, l, e, o, t⟩)) ∧ Below w.heap.size w w' := by
  obtain ⟨a, cap, rfl⟩ := r.form
  have hl := r.len
  have R : Hid (Rd w hi (.slice a H.length cap) H) := r
  have HK : Hid (heapOk H) := hok
  have h1 := hok.1.1
  have h40 := hok.1.2
  obtain ⟨z, hz⟩ := hid_ex (okB H ⟨k, x, y, 0, l, e, o, t⟩)
  rw [hz.out]
  have bad : Hid (¬ OkH H ⟨k, x, y, 0, l, e, o, t⟩ → z = false) := fun h => by rw [← hz.out]; exact okB_false h
  have fine : Hid (OkH H ⟨k, x, y, 0, l, e, o, t⟩ → z = true) := fun h => by rw [← hz.out]; exact okB_true h
  clear r hok hz
  have m1 : Hid True := trivial
  have m2 : Hid True := trivial
  have m3 : Hid True := trivial
  have m4 : Hid True := trivial
  have fK : Hid (decide (1 ≤ k ∧ k ≤ 3) = true) := decide_eq_true hk
  have fX : Hid (decide (1 ≤ x ∧ x ≤ 65535) = true) := decide_eq_true hx
  have fS : Hid (decide (0 ≤ (0 : Int) ∧ (0 : Int) ≤ 5) = true) := decide_eq_true (by omega)
  by_cases hL : l = -1
  rotate_left 1
  · have ez : z = false := bad.out fun h => hL (h.idle (by simp)).1
    subst ez
    have fL : (l != -1) = true := by simpa using hL
    go_enter Try.func45, Try.ntmps45
    go_wp2_with (first | (refine wpList_box_v rfl 58 _ rfl (hv ⟨k, x, y, 0, l, e, o, t⟩) rfl ?_; intro b3 w1 hb3 hw1 hB1 hV1; have hb : HB w1 b3 ⟨k, x, y, 0, l, e, o, t⟩ := ⟨hV1⟩; obtain ⟨c0, c1, c2, c3, c4, c5, c6, c7⟩ := hb.cells; have hz1 := hB1.size) | (clear m1; go_at_call 72; refine (in_is k 1 3 _ fK.out _).mono ?_; rintro er wq ⟨rfl, hq⟩; subst wq) | (clear m2; go_at_call 72; refine (in_is x 1 65535 _ fX.out _).mono ?_; rintro er wq ⟨rfl, hq⟩; subst wq) | (clear m3; go_at_call 72; refine (in_is 0 0 5 _ fS.out _).mono ?_; rintro er wq ⟨rfl, hq⟩; subst wq) | (fail))
    go_ret
    exact ⟨rfl, hB1⟩
  subst hL
  by_cases hE : e = -1
  rotate_left 1
  · have ez : z = false := bad.out fun h => hE (h.idle (by simp)).2
    subst ez
    have fE : (e != -1) = true := by simpa using hE
    go_enter Try.func45, Try.ntmps45
    go_wp2_with (first | (refine wpList_box_v rfl 58 _ rfl (hv ⟨k, x, y, 0, -1, e, o, t⟩) rfl ?_; intro b3 w1 hb3 hw1 hB1 hV1; have hb : HB w1 b3 ⟨k, x, y, 0, -1, e, o, t⟩ := ⟨hV1⟩; obtain ⟨c0, c1, c2, c3, c4, c5, c6, c7⟩ := hb.cells; have hz1 := hB1.size) | (clear m1; go_at_call 72; refine (in_is k 1 3 _ fK.out _).mono ?_; rintro er wq ⟨rfl, hq⟩; subst wq) | (clear m2; go_at_call 72; refine (in_is x 1 65535 _ fX.out _).mono ?_; rintro er wq ⟨rfl, hq⟩; subst wq) | (clear m3; go_at_call 72; refine (in_is 0 0 5 _ fS.out _).mono ?_; rintro er wq ⟨rfl, hq⟩; subst wq) | (fail))
    go_ret
    exact ⟨rfl, hB1⟩
  subst hE
  by_cases hT0 : t = 0
  rotate_left 1
  · have ez : z = false := bad.out fun h => hT0 (Decidable.byContradiction fun q => by have := h.told.1.2 q; simp at this)
    subst ez
    have fT : (t != 0) = true := by simpa using hT0
    go_enter Try.func45, Try.ntmps45
    go_wp2_with (first | (refine wpList_box_v rfl 58 _ rfl (hv ⟨k, x, y, 0, -1, -1, o, t⟩) rfl ?_; intro b3 w1 hb3 hw1 hB1 hV1; have hb : HB w1 b3 ⟨k, x, y, 0, -1, -1, o, t⟩ := ⟨hV1⟩; obtain ⟨c0, c1, c2, c3, c4, c5, c6, c7⟩ := hb.cells; have hz1 := hB1.size) | (clear m1; go_at_call 72; refine (in_is k 1 3 _ fK.out _).mono ?_; rintro er wq ⟨rfl, hq⟩; subst wq) | (clear m2; go_at_call 72; refine (in_is x 1 65535 _ fX.out _).mono ?_; rintro er wq ⟨rfl, hq⟩; subst wq) | (clear m3; go_at_call 72; refine (in_is 0 0 5 _ fS.out _).mono ?_; rintro er wq ⟨rfl, hq⟩; subst wq) | (fail))
    go_ret
    exact ⟨rfl, hB1⟩
  subst hT0
  have fT2 : Hid (decide (0 ≤ (0 : Int) ∧ (0 : Int) ≤ 2) = true) := rfl
  go_enter Try.func45, Try.ntmps45
  go_upto_region 16 with (first | (refine wpList_box_v rfl 58 _ rfl (hv ⟨k, x, y, 0, -1, -1, o, 0⟩) rfl ?_; intro b3 w1 hb3 hw1 hB1 hV1; have hb : HB w1 b3 ⟨k, x, y, 0, -1, -1, o, 0⟩ := ⟨hV1⟩; obtain ⟨c0, c1, c2, c3, c4, c5, c6, c7⟩ := hb.cells; have hz1 := hB1.size) | (clear m1; go_at_call 72; refine (in_is k 1 3 _ fK.out _).mono ?_; rintro er wq ⟨rfl, hq⟩; subst wq) | (clear m2; go_at_call 72; refine (in_is x 1 65535 _ fX.out _).mono ?_; rintro er wq ⟨rfl, hq⟩; subst wq) | (clear m3; go_at_call 72; refine (in_is 0 0 5 _ fS.out _).mono ?_; rintro er wq ⟨rfl, hq⟩; subst wq) | (clear m4; go_at_call 72; refine (in_is 0 0 2 _ fT2.out _).mono ?_; rintro er wq ⟨rfl, hq⟩; subst wq) | (fail))
  go_cut [127] (fun p wc => p = .bool false ∧ Hid (HB wc b3 ⟨k, x, y, 0, -1, -1, o, 0⟩) ∧ Below w1.heap.size w1 wc)
  case first =>
    try simp only [Act.put, List.setIfInBounds_toArray, List.set_cons_zero, List.set_cons_succ]
    go_big_quiet (fail)
    go_wp2
    go_meet
    case rel => exact ⟨rfl, hb.of rfl, below_drewN _ _⟩
  case rest =>
    obtain ⟨rfl, hbc', hBc1⟩ := hcut
    have hbc := hbc'.out
    have hBx : Below w.heap.size w wc := hB1.trans (hBc1.mono hz1)
    have hzc := hBx.size
    have RC : Hid (Rd wc hi (.slice a H.length cap) H) := R.out.below hBx hh
    clear c0 c1 c2 c3 c4 c5 c6 c7
    obtain ⟨c0, c1, c2, c3, c4, c5, c6, c7⟩ := hbc.cells
    have PF : Hid (True) := trivial
    have mk : Hid ((o = -1 ∨ (k = 1 ∧ (1 ≤ o ∧ o < (H.length : Int)) ∧ (nth H o).key = x ∧ (nth H o).value = y ∧ (True) ∧ ((nth H o).gone = false ∧ o ∉ chain H))) → OkH H ⟨k, x, y, 0, -1, -1, o, 0⟩) := fun hw => mkOk hk hx (by omega) (fun _ => ⟨rfl, rfl⟩) (fun q => absurd (by simp) q) ⟨⟨fun q => by simp at q, fun q => absurd rfl q⟩, by omega, by omega⟩ (fun q => by omega) (fun q => by omega) (fun q => by simp at q) (fun q => by simp at q) (fun q => by simp at q) (hw.elim .inl fun p => .inr ⟨p.1, p.2.1, p.2.2.1, p.2.2.2.1, fun q => by simp at q, .inr p.2.2.2.2.2⟩)
    by_cases hG : o = -1
    · subst hG
      have ez : z = true := fine.out (mk.out (.inl rfl))
      subst ez
      go_wp2
      go_ret
      exact ⟨rfl, hBx⟩
    have fG : (o == -1) = false := by simpa using hG
    by_cases hH1 : k = 1
    rotate_left 1
    · have ez : z = false := bad.out fun h => (h.own.elim (fun q => hG q) (fun q => hH1 q.1))
      subst ez
      have fH1 : (k != 1) = true := by simpa using hH1
      go_wp2
      try simp only [Act.put, List.setIfInBounds_toArray, List.set_cons_zero, List.set_cons_succ]
      go_big_quiet (fail)
      go_wp2
      go_ret
      exact ⟨rfl, hBx.trans (below_drewN _ _)⟩
    have fH1 : (k != 1) = false := by simpa using hH1
    by_cases hH2 : 1 ≤ o ∧ o < (H.length : Int)
    rotate_left 1
    · have ez : z = false := bad.out fun h => (h.own.elim (fun q => hG q) (fun q => hH2 q.2.1))
      subst ez
      have fO : Hid (decide (1 ≤ o ∧ o ≤ (H.length : Int) - 1) = false) := decide_eq_false fun q => hH2 ⟨q.1, by omega⟩
      go_wp2
      try simp only [Act.put, List.setIfInBounds_toArray, List.set_cons_zero, List.set_cons_succ]
      go_big_quiet (first | (go_at_call 72; exact Calls.quiet_of_same (in_is _ 1 ((H.length : Int) - 1) _ fO.out _)) | (fail))
      go_wp2
      go_ret
      exact ⟨rfl, hBx.trans (below_drewN _ _)⟩
    have fO : Hid (decide (1 ≤ o ∧ o ≤ (H.length : Int) - 1) = true) := decide_eq_true ⟨hH2.1, by omega⟩
    obtain ⟨j, rfl⟩ : ∃ j : Nat, o = j := ⟨o.toNat, by omega⟩
    have hjl : j < H.length := by omega
    have hjl' : (j : Int) < H.length := by omega
    have ej : Hid (nth H (j : Int) = H[j]) := nth_nat H j hjl
    obtain ⟨b, off, rfl, hbh, e0, e1, e2, e3⟩ := RC.out.cell j hjl
    obtain ⟨q, hq⟩ := hid_ex (H[j])
    rw [ej.out, hq.out] at mk
    rw [hq.out] at e0 e1 e2 e3
    have ej2 : Hid (nth H (j : Int) = q) := by unfold Hid; rw [ej.out, hq.out]
    by_cases hH3 : q.key = x
    rotate_left 1
    · have ez : z = false := bad.out fun h => (h.own.elim (fun q => hG q) (fun p => hH3 (by have := p.2.2.1; simp only [ej2.out] at this; exact this)))
      subst ez
      have fH3 : (q.key != x) = true := by simpa using hH3
      go_wp2
      try simp only [Act.put, List.setIfInBounds_toArray, List.set_cons_zero, List.set_cons_succ]
      go_big_quiet (first | (go_at_call 72; exact Calls.quiet_of_same (in_is _ 1 ((H.length : Int) - 1) _ fO.out _)) | (fail))
      go_wp2
      go_ret
      exact ⟨rfl, hBx.trans (below_drewN _ _)⟩
    have fH3 : (q.key != x) = false := by simpa using hH3
    by_cases hH4 : q.value = y
    rotate_left 1
    · have ez : z = false := bad.out fun h => (h.own.elim (fun q => hG q) (fun p => hH4 (by have := p.2.2.2.1; simp only [ej2.out] at this; exact this)))
      subst ez
      have fH4 : (q.value != y) = true := by simpa using hH4
      go_wp2
      try simp only [Act.put, List.setIfInBounds_toArray, List.set_cons_zero, List.set_cons_succ]
      go_big_quiet (first | (go_at_call 72; exact Calls.quiet_of_same (in_is _ 1 ((H.length : Int) - 1) _ fO.out _)) | (fail))
      go_wp2
      go_ret
      exact ⟨rfl, hBx.trans (below_drewN _ _)⟩
    have fH4 : (q.value != y) = false := by simpa using hH4
    cases hgn : q.gone with
    | true =>
      rw [hgn] at e3
      have ez : z = false := bad.out fun h => (h.own.elim (fun q => hG q) (fun p => (p.2.2.2.2.2.elim (fun q5 => by simp at q5) (fun p6 => by have := p6.1; simp only [ej2.out] at this; rw [hgn] at this; cases this))))
      subst ez
      go_wp2
      try simp only [Act.put, List.setIfInBounds_toArray, List.set_cons_zero, List.set_cons_succ]
      go_big_quiet (first | (go_at_call 72; exact Calls.quiet_of_same (in_is _ 1 ((H.length : Int) - 1) _ fO.out _)) | (fail))
      go_wp2
      try simp only [Act.put, List.setIfInBounds_toArray, List.set_cons_zero, List.set_cons_succ]
      go_big_quiet (fail)
      go_wp2
      go_ret
      exact ⟨rfl, (hBx.trans (below_drewN _ _)).trans (below_drewN _ _)⟩
    | false =>
      rw [hgn] at e3
      have ez : z = !(decide ((j : Int) ∈ chain H)) := by
        by_cases hin : (j : Int) ∈ chain H
        · rw [decide_eq_true hin]
          exact bad.out fun h => (h.own.elim (fun q => hG q) (fun p => (p.2.2.2.2.2.elim (fun q5 => by simp at q5) (fun p6 => p6.2 hin))))
        · rw [decide_eq_false hin]
          exact fine.out (mk.out (.inr ⟨hH1, hH2, hH3, hH4, trivial, hgn, hin⟩))
      obtain ⟨u, hu⟩ := hid_ex (decide ((j : Int) ∈ chain H))
      rw [hu.out] at ez
      subst ez
      go_wp2
      try simp only [Act.put, List.setIfInBounds_toArray, List.set_cons_zero, List.set_cons_succ]
      go_big_quiet (first | (go_at_call 72; exact Calls.quiet_of_same (in_is _ 1 ((H.length : Int) - 1) _ fO.out _)) | (fail))
      go_wp2
      have S0 : ((wc.drewN nq).drew.cell? ⟨b3, 3, none⟩ = some (.int .i64 0)) ∧ ((wc.drewN nq).drew.cell? ⟨b3, 6, none⟩ = some (.int .i64 (j : Int))) ∧ ((wc.drewN nq).drew.cell? ⟨b, off + j * 4 + 3, none⟩ = some (.bool false)) := ⟨c3, c6, e3⟩
      go_region_held3 (fun w' => (w'.cell? ⟨b3, 3, none⟩ = some (.int .i64 0)) ∧ (w'.cell? ⟨b3, 6, none⟩ = some (.int .i64 (j : Int))) ∧ (w'.cell? ⟨b, off + j * 4 + 3, none⟩ = some (.bool false))) (first | assumption | exact S0) (first | (go_at_call 76; refine (l4Chain_any H (up_ok HK.out) (by omega) _ hi (wc.drewN nq).drew (by show hi ≤ wc.heap.size; omega) (RC.out.drewN nq).drew).mono ?_; rintro er w4 ⟨v4, rfl, hO4, hB4⟩; have hbd := hbc.of_below (w' := w4) (B := wc.heap.size) ⟨hB4.os, hB4.tape, hB4.output, hB4.size, hB4.block⟩ hbc.lt; obtain ⟨g0, g1, g2, g3, g4, g5, g6, g7⟩ := hbd.cells; have ge := (World.cell?_of_block (w := wc) (w' := w4) (a := ⟨b, off + j * 4 + 3, none⟩) (hB4.block b (by show b < wc.heap.size; omega))).trans e3; have S4 := And.intro g3 (And.intro g6 ge)) | (go_at_call 75; refine (l5In_any (chain H) (j : Int) _ w4.heap.size _ hO4.rd).mono ?_; rintro er wq ⟨rfl, hwq⟩; subst wq; rw [hu.out]) | (fail))
      go_wp2
      go_ret
      exact ⟨rfl, (hBx.trans (below_drewN wc nq)).trans ((Below.refl _ _).drew.trans (hB4.mono (by show w.heap.size ≤ wc.heap.size; omega)))⟩

set_option maxRecDepth 100000 in
set_option maxHeartbeats 4000000 in
theorem ok_idle5 (H : List C) (hok : heapOk H) (k x y l e o t : Int) (v : Value) (hi : Nat) (w : World) (hh : hi ≤ w.heap.size) (r : Rd w hi v H) (hk : 1 ≤ k ∧ k ≤ 3) (hx : 1 ≤ x ∧ x ≤ 65535) :
    Calls Try.prog 45 #[v, .agg (hv ⟨k, x, y, 5, l, e, o, t⟩).toArray] w fun er w' => er = .returned (.bool (okB H ⟨k, x, y, 5, l, e, o, t⟩)) ∧ Below w.heap.size w w' := by
  obtain ⟨a, cap, rfl⟩ := r.form
  have hl := r.len
  have R : Hid (Rd w hi (.slice a H.length cap) H) := r
  have HK : Hid (heapOk H) := hok
  have h1 := hok.1.1
  have h40 := hok.1.2
  obtain ⟨z, hz⟩ := hid_ex (okB H ⟨k, x, y, 5, l, e, o, t⟩)
  rw [hz.out]
  have bad : Hid (¬ OkH H ⟨k, x, y, 5, l, e, o, t⟩ → z = false) := fun h => by rw [← hz.out]; exact okB_false h
  have fine : Hid (OkH H ⟨k, x, y, 5, l, e, o, t⟩ → z = true) := fun h => by rw [← hz.out]; exact okB_true h
  clear r hok hz
  have m1 : Hid True := trivial
  have m2 : Hid True := trivial
  have m3 : Hid True := trivial
  have m4 : Hid True := trivial
  have fK : Hid (decide (1 ≤ k ∧ k ≤ 3) = true) := decide_eq_true hk
  have fX : Hid (decide (1 ≤ x ∧ x ≤ 65535) = true) := decide_eq_true hx
  have fS : Hid (decide (0 ≤ (5 : Int) ∧ (5 : Int) ≤ 5) = true) := decide_eq_true (by omega)
  by_cases hL : l = -1
  rotate_left 1
  · have ez : z = false := bad.out fun h => hL (h.idle (by simp)).1
    subst ez
    have fL : (l != -1) = true := by simpa using hL
    go_enter Try.func45, Try.ntmps45
    go_wp2_with (first | (refine wpList_box_v rfl 58 _ rfl (hv ⟨k, x, y, 5, l, e, o, t⟩) rfl ?_; intro b3 w1 hb3 hw1 hB1 hV1; have hb : HB w1 b3 ⟨k, x, y, 5, l, e, o, t⟩ := ⟨hV1⟩; obtain ⟨c0, c1, c2, c3, c4, c5, c6, c7⟩ := hb.cells; have hz1 := hB1.size) | (clear m1; go_at_call 72; refine (in_is k 1 3 _ fK.out _).mono ?_; rintro er wq ⟨rfl, hq⟩; subst wq) | (clear m2; go_at_call 72; refine (in_is x 1 65535 _ fX.out _).mono ?_; rintro er wq ⟨rfl, hq⟩; subst wq) | (clear m3; go_at_call 72; refine (in_is 5 0 5 _ fS.out _).mono ?_; rintro er wq ⟨rfl, hq⟩; subst wq) | (fail))
    go_ret
    exact ⟨rfl, hB1⟩
  subst hL
  by_cases hE : e = -1
  rotate_left 1
  · have ez : z = false := bad.out fun h => hE (h.idle (by simp)).2
    subst ez
    have fE : (e != -1) = true := by simpa using hE
    go_enter Try.func45, Try.ntmps45
    go_wp2_with (first | (refine wpList_box_v rfl 58 _ rfl (hv ⟨k, x, y, 5, -1, e, o, t⟩) rfl ?_; intro b3 w1 hb3 hw1 hB1 hV1; have hb : HB w1 b3 ⟨k, x, y, 5, -1, e, o, t⟩ := ⟨hV1⟩; obtain ⟨c0, c1, c2, c3, c4, c5, c6, c7⟩ := hb.cells; have hz1 := hB1.size) | (clear m1; go_at_call 72; refine (in_is k 1 3 _ fK.out _).mono ?_; rintro er wq ⟨rfl, hq⟩; subst wq) | (clear m2; go_at_call 72; refine (in_is x 1 65535 _ fX.out _).mono ?_; rintro er wq ⟨rfl, hq⟩; subst wq) | (clear m3; go_at_call 72; refine (in_is 5 0 5 _ fS.out _).mono ?_; rintro er wq ⟨rfl, hq⟩; subst wq) | (fail))
    go_ret
    exact ⟨rfl, hB1⟩
  subst hE
  by_cases hT0 : t = 0
  · have ez : z = false := bad.out fun h => h.told.1.1 rfl hT0
    subst ez
    subst hT0
    go_enter Try.func45, Try.ntmps45
    go_wp2_with (first | (refine wpList_box_v rfl 58 _ rfl (hv ⟨k, x, y, 5, -1, -1, o, 0⟩) rfl ?_; intro b3 w1 hb3 hw1 hB1 hV1; have hb : HB w1 b3 ⟨k, x, y, 5, -1, -1, o, 0⟩ := ⟨hV1⟩; obtain ⟨c0, c1, c2, c3, c4, c5, c6, c7⟩ := hb.cells; have hz1 := hB1.size) | (clear m1; go_at_call 72; refine (in_is k 1 3 _ fK.out _).mono ?_; rintro er wq ⟨rfl, hq⟩; subst wq) | (clear m2; go_at_call 72; refine (in_is x 1 65535 _ fX.out _).mono ?_; rintro er wq ⟨rfl, hq⟩; subst wq) | (clear m3; go_at_call 72; refine (in_is 5 0 5 _ fS.out _).mono ?_; rintro er wq ⟨rfl, hq⟩; subst wq) | (fail))
    go_ret
    exact ⟨rfl, hB1⟩
  have fT : (t != 0) = true := by simpa using hT0
  by_cases hT2 : 0 ≤ t ∧ t ≤ 2
  rotate_left 1
  · have ez : z = false := bad.out fun h => hT2 h.told.2
    subst ez
    have fT2 : Hid (decide (0 ≤ t ∧ t ≤ 2) = false) := decide_eq_false hT2
    go_enter Try.func45, Try.ntmps45
    go_wp2_with (first | (refine wpList_box_v rfl 58 _ rfl (hv ⟨k, x, y, 5, -1, -1, o, t⟩) rfl ?_; intro b3 w1 hb3 hw1 hB1 hV1; have hb : HB w1 b3 ⟨k, x, y, 5, -1, -1, o, t⟩ := ⟨hV1⟩; obtain ⟨c0, c1, c2, c3, c4, c5, c6, c7⟩ := hb.cells; have hz1 := hB1.size) | (clear m1; go_at_call 72; refine (in_is k 1 3 _ fK.out _).mono ?_; rintro er wq ⟨rfl, hq⟩; subst wq) | (clear m2; go_at_call 72; refine (in_is x 1 65535 _ fX.out _).mono ?_; rintro er wq ⟨rfl, hq⟩; subst wq) | (clear m3; go_at_call 72; refine (in_is 5 0 5 _ fS.out _).mono ?_; rintro er wq ⟨rfl, hq⟩; subst wq) | (clear m4; go_at_call 72; refine (in_is t 0 2 _ fT2.out _).mono ?_; rintro er wq ⟨rfl, hq⟩; subst wq) | (fail))
    go_ret
    exact ⟨rfl, hB1⟩
  have fT2 : Hid (decide (0 ≤ t ∧ t ≤ 2) = true) := decide_eq_true hT2
  go_enter Try.func45, Try.ntmps45
  go_upto_region 16 with (first | (refine wpList_box_v rfl 58 _ rfl (hv ⟨k, x, y, 5, -1, -1, o, t⟩) rfl ?_; intro b3 w1 hb3 hw1 hB1 hV1; have hb : HB w1 b3 ⟨k, x, y, 5, -1, -1, o, t⟩ := ⟨hV1⟩; obtain ⟨c0, c1, c2, c3, c4, c5, c6, c7⟩ := hb.cells; have hz1 := hB1.size) | (clear m1; go_at_call 72; refine (in_is k 1 3 _ fK.out _).mono ?_; rintro er wq ⟨rfl, hq⟩; subst wq) | (clear m2; go_at_call 72; refine (in_is x 1 65535 _ fX.out _).mono ?_; rintro er wq ⟨rfl, hq⟩; subst wq) | (clear m3; go_at_call 72; refine (in_is 5 0 5 _ fS.out _).mono ?_; rintro er wq ⟨rfl, hq⟩; subst wq) | (clear m4; go_at_call 72; refine (in_is t 0 2 _ fT2.out _).mono ?_; rintro er wq ⟨rfl, hq⟩; subst wq) | (fail))
  go_cut [127] (fun p wc => p = .bool false ∧ Hid (HB wc b3 ⟨k, x, y, 5, -1, -1, o, t⟩) ∧ Below w1.heap.size w1 wc)
  case first =>
    try simp only [Act.put, List.setIfInBounds_toArray, List.set_cons_zero, List.set_cons_succ]
    go_big_quiet (fail)
    go_wp2
    go_meet
    case rel => exact ⟨rfl, hb.of rfl, below_drewN _ _⟩
  case rest =>
    obtain ⟨rfl, hbc', hBc1⟩ := hcut
    have hbc := hbc'.out
    have hBx : Below w.heap.size w wc := hB1.trans (hBc1.mono hz1)
    have hzc := hBx.size
    have RC : Hid (Rd wc hi (.slice a H.length cap) H) := R.out.below hBx hh
    clear c0 c1 c2 c3 c4 c5 c6 c7
    obtain ⟨c0, c1, c2, c3, c4, c5, c6, c7⟩ := hbc.cells
    have PF : Hid (True) := trivial
    have mk : Hid ((o = -1 ∨ (k = 1 ∧ (1 ≤ o ∧ o < (H.length : Int)) ∧ (nth H o).key = x ∧ (nth H o).value = y ∧ (True) ∧ (True))) → OkH H ⟨k, x, y, 5, -1, -1, o, t⟩) := fun hw => mkOk hk hx (by omega) (fun _ => ⟨rfl, rfl⟩) (fun q => absurd (by simp) q) ⟨⟨fun _ => hT0, fun _ => rfl⟩, hT2⟩ (fun q => by omega) (fun q => by omega) (fun q => by simp at q) (fun q => by simp at q) (fun q => by simp at q) (hw.elim .inl fun p => .inr ⟨p.1, p.2.1, p.2.2.1, p.2.2.2.1, fun q => by simp at q, .inl rfl⟩)
    by_cases hG : o = -1
    · subst hG
      have ez : z = true := fine.out (mk.out (.inl rfl))
      subst ez
      go_wp2
      go_ret
      exact ⟨rfl, hBx⟩
    have fG : (o == -1) = false := by simpa using hG
    by_cases hH1 : k = 1
    rotate_left 1
    · have ez : z = false := bad.out fun h => (h.own.elim (fun q => hG q) (fun q => hH1 q.1))
      subst ez
      have fH1 : (k != 1) = true := by simpa using hH1
      go_wp2
      try simp only [Act.put, List.setIfInBounds_toArray, List.set_cons_zero, List.set_cons_succ]
      go_big_quiet (fail)
      go_wp2
      go_ret
      exact ⟨rfl, hBx.trans (below_drewN _ _)⟩
    have fH1 : (k != 1) = false := by simpa using hH1
    by_cases hH2 : 1 ≤ o ∧ o < (H.length : Int)
    rotate_left 1
    · have ez : z = false := bad.out fun h => (h.own.elim (fun q => hG q) (fun q => hH2 q.2.1))
      subst ez
      have fO : Hid (decide (1 ≤ o ∧ o ≤ (H.length : Int) - 1) = false) := decide_eq_false fun q => hH2 ⟨q.1, by omega⟩
      go_wp2
      try simp only [Act.put, List.setIfInBounds_toArray, List.set_cons_zero, List.set_cons_succ]
      go_big_quiet (first | (go_at_call 72; exact Calls.quiet_of_same (in_is _ 1 ((H.length : Int) - 1) _ fO.out _)) | (fail))
      go_wp2
      go_ret
      exact ⟨rfl, hBx.trans (below_drewN _ _)⟩
    have fO : Hid (decide (1 ≤ o ∧ o ≤ (H.length : Int) - 1) = true) := decide_eq_true ⟨hH2.1, by omega⟩
    obtain ⟨j, rfl⟩ : ∃ j : Nat, o = j := ⟨o.toNat, by omega⟩
    have hjl : j < H.length := by omega
    have hjl' : (j : Int) < H.length := by omega
    have ej : Hid (nth H (j : Int) = H[j]) := nth_nat H j hjl
    obtain ⟨b, off, rfl, hbh, e0, e1, e2, e3⟩ := RC.out.cell j hjl
    obtain ⟨q, hq⟩ := hid_ex (H[j])
    rw [ej.out, hq.out] at mk
    rw [hq.out] at e0 e1 e2 e3
    have ej2 : Hid (nth H (j : Int) = q) := by unfold Hid; rw [ej.out, hq.out]
    by_cases hH3 : q.key = x
    rotate_left 1
    · have ez : z = false := bad.out fun h => (h.own.elim (fun q => hG q) (fun p => hH3 (by have := p.2.2.1; simp only [ej2.out] at this; exact this)))
      subst ez
      have fH3 : (q.key != x) = true := by simpa using hH3
      go_wp2
      try simp only [Act.put, List.setIfInBounds_toArray, List.set_cons_zero, List.set_cons_succ]
      go_big_quiet (first | (go_at_call 72; exact Calls.quiet_of_same (in_is _ 1 ((H.length : Int) - 1) _ fO.out _)) | (fail))
      go_wp2
      go_ret
      exact ⟨rfl, hBx.trans (below_drewN _ _)⟩
    have fH3 : (q.key != x) = false := by simpa using hH3
    by_cases hH4 : q.value = y
    rotate_left 1
    · have ez : z = false := bad.out fun h => (h.own.elim (fun q => hG q) (fun p => hH4 (by have := p.2.2.2.1; simp only [ej2.out] at this; exact this)))
      subst ez
      have fH4 : (q.value != y) = true := by simpa using hH4
      go_wp2
      try simp only [Act.put, List.setIfInBounds_toArray, List.set_cons_zero, List.set_cons_succ]
      go_big_quiet (first | (go_at_call 72; exact Calls.quiet_of_same (in_is _ 1 ((H.length : Int) - 1) _ fO.out _)) | (fail))
      go_wp2
      go_ret
      exact ⟨rfl, hBx.trans (below_drewN _ _)⟩
    have fH4 : (q.value != y) = false := by simpa using hH4
    have ez : z = true := fine.out (mk.out (.inr ⟨hH1, hH2, hH3, hH4, trivial, trivial⟩))
    subst ez
    go_wp2
    try simp only [Act.put, List.setIfInBounds_toArray, List.set_cons_zero, List.set_cons_succ]
    go_big_quiet (first | (go_at_call 72; exact Calls.quiet_of_same (in_is _ 1 ((H.length : Int) - 1) _ fO.out _)) | (fail))
    go_wp2
    try simp only [Act.put, List.setIfInBounds_toArray, List.set_cons_zero, List.set_cons_succ]
    go_big_quiet (fail)
    go_wp2
    go_ret
    exact ⟨rfl, (hBx.trans (below_drewN _ _)).trans (below_drewN _ _)⟩

end Go.Proofs.Ythjkhghlhjndmaa.ce
