/- Contract of l5Ok (written by genok.py): a hand on its way, step 4. -/
import Derived.Test.YthjkhghlhjndmaaOk3
namespace Go.Proofs.Ythjkhghlhjndmaa.ce
open Go.ChangeShapes Go.WideShapes Go.ChangeAt Go.RowKit
set_option linter.unusedVariables false

set_option maxRecDepth 100000 in
set_option maxHeartbeats 4000000 in
theorem ok_way4 (H : List C) (hok : heapOk H) (k x y l e o t : Int) (v : Value) (hi : Nat) (w : World) (hh : hi ≤ w.heap.size) (r : Rd w hi v H) (hk : 1 ≤ k ∧ k ≤ 3) (hx : 1 ≤ x ∧ x ≤ 65535) :
    Calls Try.prog 45 #[v, .agg (hv ⟨k, x, y, 4, l, e, o, t⟩).toArray] w fun er w' => er = .returned (.bool (okB H ⟨k, x, y, 4, l, e, o, t⟩)) ∧ Below w.heap.size w w' := by
  obtain ⟨a, cap, rfl⟩ := r.form
  have hl := r.len
  have R : Hid (Rd w hi (.slice a H.length cap) H) := r
  have HK : Hid (heapOk H) := hok
  have h1 := hok.1.1
  have h40 := hok.1.2
  obtain ⟨z, hz⟩ := hid_ex (okB H ⟨k, x, y, 4, l, e, o, t⟩)
  rw [hz.out]
  have bad : Hid (¬ OkH H ⟨k, x, y, 4, l, e, o, t⟩ → z = false) := fun h => by rw [← hz.out]; exact okB_false h
  have fine : Hid (OkH H ⟨k, x, y, 4, l, e, o, t⟩ → z = true) := fun h => by rw [← hz.out]; exact okB_true h
  clear r hok hz
  have m1 : Hid True := trivial
  have m2 : Hid True := trivial
  have m3 : Hid True := trivial
  have m4 : Hid True := trivial
  have fK : Hid (decide (1 ≤ k ∧ k ≤ 3) = true) := decide_eq_true hk
  have fX : Hid (decide (1 ≤ x ∧ x ≤ 65535) = true) := decide_eq_true hx
  have fS : Hid (decide (0 ≤ (4 : Int) ∧ (4 : Int) ≤ 5) = true) := decide_eq_true (by omega)
  go_enter Try.func45, Try.ntmps45
  go_upto_region 7 with (first | (refine wpList_box_v rfl 58 _ rfl (hv ⟨k, x, y, 4, l, e, o, t⟩) rfl ?_; intro b3 w1 hb3 hw1 hB1 hV1; have hb : HB w1 b3 ⟨k, x, y, 4, l, e, o, t⟩ := ⟨hV1⟩; obtain ⟨c0, c1, c2, c3, c4, c5, c6, c7⟩ := hb.cells; have hz1 := hB1.size) | (clear m1; go_at_call 72; refine (in_is k 1 3 _ fK.out _).mono ?_; rintro er wq ⟨rfl, hq⟩; subst wq) | (clear m2; go_at_call 72; refine (in_is x 1 65535 _ fX.out _).mono ?_; rintro er wq ⟨rfl, hq⟩; subst wq) | (clear m3; go_at_call 72; refine (in_is 4 0 5 _ fS.out _).mono ?_; rintro er wq ⟨rfl, hq⟩; subst wq) | (fail))
  go_cut [70] (fun p wb => ∃ bB : Bool, p = .bool bB ∧ Hid ((bB = true → z = false) ∧ (bB = false → has H l ∧ (nth H l).key < x ∧ (e = -1 ∨ 1 ≤ e ∧ e < (H.length : Int)))) ∧ Hid (HB wb b3 ⟨k, x, y, 4, l, e, o, t⟩) ∧ Below w1.heap.size w1 wb)
  case first =>
    as_aux_lemma =>
      by_cases hL : 0 ≤ l ∧ l < (H.length : Int)
      rotate_left 1
      · have fL : Hid (decide (0 ≤ l ∧ l ≤ (H.length : Int) - 1) = false) := decide_eq_false fun q => hL ⟨q.1, by omega⟩
        try simp only [Act.put, List.setIfInBounds_toArray, List.set_cons_zero, List.set_cons_succ]
        go_big_quiet (first | (go_at_call 72; exact Calls.quiet_of_same (in_is l 0 ((H.length : Int) - 1) _ fL.out _)) | (fail))
        go_wp2
        go_meet
        case rel => exact ⟨true, rfl, ⟨fun _ => bad.out fun h => hL (h.way (by simp)).1, fun q => (by cases q)⟩, hb.of rfl, below_drewN _ _⟩
      have fL : Hid (decide (0 ≤ l ∧ l ≤ (H.length : Int) - 1) = true) := decide_eq_true ⟨hL.1, by omega⟩
      obtain ⟨i, rfl⟩ : ∃ i : Nat, l = i := ⟨l.toNat, by omega⟩
      have hil : i < H.length := by omega
      have hil' : (i : Int) < H.length := by omega
      have ei : Hid (nth H (i : Int) = H[i]) := nth_nat H i hil
      obtain ⟨b, off, rfl, hbh, e0, e1, e2, e3⟩ := (R.out.below hB1 hh).cell i hil
      obtain ⟨q, hq⟩ := hid_ex (H[i])
      rw [hq.out] at e0
      have ei2 : Hid (nth H (i : Int) = q) := by unfold Hid; rw [ei.out, hq.out]
      clear e1 e2 e3
      by_cases hK : x ≤ q.key
      · have fK2 : decide (x ≤ q.key) = true := decide_eq_true hK
        try simp only [Act.put, List.setIfInBounds_toArray, List.set_cons_zero, List.set_cons_succ]
        go_big_quiet (first | (go_at_call 72; exact Calls.quiet_of_same (in_is (i : Int) 0 ((H.length : Int) - 1) _ fL.out _)) | (fail))
        go_wp2
        go_meet
        case rel => exact ⟨true, rfl, ⟨fun _ => bad.out fun h => by have := (h.way (by simp)).2.1; simp only [ei2.out] at this; omega, fun q => (by cases q)⟩, hb.of rfl, below_drewN _ _⟩
      have fK2 : decide (x ≤ q.key) = false := decide_eq_false hK
      by_cases hE : e = -1
      · subst hE
        try simp only [Act.put, List.setIfInBounds_toArray, List.set_cons_zero, List.set_cons_succ]
        go_big_quiet (first | (go_at_call 72; exact Calls.quiet_of_same (in_is (i : Int) 0 ((H.length : Int) - 1) _ fL.out _)) | (fail))
        go_wp2
        go_meet
        case rel => exact ⟨false, rfl, ⟨fun q => (by cases q), fun _ => ⟨hL, (by rw [ei2.out]; omega), .inl rfl⟩⟩, hb.of rfl, below_drewN _ _⟩
      have fE1 : (e != -1) = true := by simpa using hE
      by_cases hE2 : 1 ≤ e ∧ e < (H.length : Int)
      · have fE : Hid (decide (1 ≤ e ∧ e ≤ (H.length : Int) - 1) = true) := decide_eq_true ⟨hE2.1, by omega⟩
        try simp only [Act.put, List.setIfInBounds_toArray, List.set_cons_zero, List.set_cons_succ]
        go_big_quiet (first | (go_at_call 72; with_reducible exact Calls.quiet_of_same (in_is (i : Int) 0 ((H.length : Int) - 1) _ fL.out _)) | (go_at_call 72; with_reducible exact Calls.quiet_of_same (in_is e 1 ((H.length : Int) - 1) _ fE.out _)) | (fail))
        go_wp2
        go_meet
        case rel => exact ⟨false, rfl, ⟨fun q => (by cases q), fun _ => ⟨hL, (by rw [ei2.out]; omega), .inr hE2⟩⟩, hb.of rfl, below_drewN _ _⟩
      · have fE : Hid (decide (1 ≤ e ∧ e ≤ (H.length : Int) - 1) = false) := decide_eq_false fun q => hE2 ⟨q.1, by omega⟩
        try simp only [Act.put, List.setIfInBounds_toArray, List.set_cons_zero, List.set_cons_succ]
        go_big_quiet (first | (go_at_call 72; with_reducible exact Calls.quiet_of_same (in_is (i : Int) 0 ((H.length : Int) - 1) _ fL.out _)) | (go_at_call 72; with_reducible exact Calls.quiet_of_same (in_is e 1 ((H.length : Int) - 1) _ fE.out _)) | (fail))
        go_wp2
        go_meet
        case rel => exact ⟨true, rfl, ⟨fun _ => bad.out fun h => ((h.way (by simp)).2.2.elim hE hE2), fun q => (by cases q)⟩, hb.of rfl, below_drewN _ _⟩
  case rest =>
    rename World => wb
    obtain ⟨bB, rfl, hbB, hbb', hBb1⟩ := hcut
    have hbb := hbb'.out
    have hBw : Below w.heap.size w wb := hB1.trans (hBb1.mono hz1)
    have hzb := hBw.size
    have RB : Hid (Rd wb hi (.slice a H.length cap) H) := R.out.below hBw hh
    clear c0 c1 c2 c3 c4 c5 c6 c7
    obtain ⟨c0, c1, c2, c3, c4, c5, c6, c7⟩ := hbb.cells
    cases bB with
    | true =>
      have ez := hbB.out.1 rfl
      subst ez
      go_wp2
      go_ret
      exact ⟨rfl, hBw⟩
    | false =>
      obtain ⟨hL, hKl, hEe⟩ := hbB.out.2 rfl
      clear hbB
      have HKL : Hid ((nth H l).key < x) := hKl
      have HEE : Hid (e = -1 ∨ 1 ≤ e ∧ e < (H.length : Int)) := hEe
      have HL : Hid (has H l) := hL
      by_cases hT0 : t = 0
      rotate_left 1
      · have ez : z = false := bad.out fun h => hT0 (Decidable.byContradiction fun q => by have := h.told.1.2 q; simp at this)
        subst ez
        have fT : (t != 0) = true := by simpa using hT0
        go_wp2
        go_ret
        exact ⟨rfl, hBw⟩
      subst hT0
      have fT2 : Hid (decide (0 ≤ (0 : Int) ∧ (0 : Int) ≤ 2) = true) := rfl
      go_upto_if 86 with (first | (clear m4; go_at_call 72; refine (in_is 0 0 2 _ fT2.out _).mono ?_; rintro er wq ⟨rfl, hq⟩; subst wq) | (fail))
      go_cut [6] (fun p wd => ∃ T : Int, p = .int .i64 T ∧ Hid (T = there H ⟨k, x, y, 4, l, e, o, 0⟩) ∧ Hid (0 ≤ e → (nth H e).gone = false → e ∈ chain H) ∧ Hid (HB wd b3 ⟨k, x, y, 4, l, e, o, 0⟩) ∧ Below wb.heap.size wb wd)
      case first =>
        as_aux_lemma =>
          by_cases hE : e = -1
          · subst hE
            go_wp2
            go_meet
            case rel => exact ⟨65536, rfl, rfl, (fun q => by omega), hbb', Below.refl _ _⟩
          have hE2 : 1 ≤ e ∧ e < (H.length : Int) := hEe.resolve_left hE
          obtain ⟨j, rfl⟩ : ∃ j : Nat, e = j := ⟨e.toNat, by omega⟩
          have hjl : j < H.length := by omega
          have hjl' : (j : Int) < H.length := by omega
          have ej : Hid (nth H (j : Int) = H[j]) := nth_nat H j hjl
          obtain ⟨b, off, rfl, hbh, e0, e1, e2, e3⟩ := RB.out.cell j hjl
          obtain ⟨q, hq⟩ := hid_ex (H[j])
          rw [hq.out] at e0 e3
          have ej2 : Hid (nth H (j : Int) = q) := by unfold Hid; rw [ej.out, hq.out]
          have hTj : Hid (q.key = there H ⟨k, x, y, 4, l, (j : Int), o, 0⟩) := by unfold Hid there; rw [if_pos (by show (0 : Int) ≤ (j : Int); omega)]; simp only [ej2.out]
          clear e1 e2
          have hj0 : (0 : Int) ≤ (j : Int) := by omega
          cases hgn : q.gone with
          | true =>
            rw [hgn] at e3
            go_wp2
            try simp only [Act.put, List.setIfInBounds_toArray, List.set_cons_zero, List.set_cons_succ]
            go_big_quiet (fail)
            go_wp2
            go_meet
            case rel => exact ⟨q.key, rfl, hTj, (fun _ h => by rw [ej2.out, hgn] at h; cases h), hbb.of rfl, below_drewN _ _⟩
          | false =>
            rw [hgn] at e3
            go_wp2
            have S0 : (wb.drew.cell? ⟨b3, 5, none⟩ = some (.int .i64 (j : Int))) ∧ (wb.drew.cell? ⟨b, off + j * 4 + 3, none⟩ = some (.bool false)) := ⟨c5, e3⟩
            obtain ⟨u, hu⟩ := hid_ex (decide ((j : Int) ∈ chain H))
            go_region_held3 (fun w' => (w'.cell? ⟨b3, 5, none⟩ = some (.int .i64 (j : Int))) ∧ (w'.cell? ⟨b, off + j * 4 + 3, none⟩ = some (.bool false))) (first | assumption | exact S0) (first | (go_at_call 76; refine (l4Chain_any H (up_ok HK.out) (by omega) _ hi wb.drew (by show hi ≤ wb.heap.size; omega) RB.out.drew).mono ?_; rintro er w4 ⟨v4, rfl, hO4, hB4⟩; have hbd := hbb.of (w' := w4) (hB4.block b3 hbb.lt); obtain ⟨g0, g1, g2, g3, g4, g5, g6, g7⟩ := hbd.cells; have ge := (World.cell?_of_block (w := wb) (w' := w4) (a := ⟨b, off + j * 4 + 3, none⟩) (hB4.block b (by show b < wb.heap.size; omega))).trans e3; have S4 := And.intro g5 ge) | (go_at_call 75; refine (l5In_any (chain H) (j : Int) _ w4.heap.size _ hO4.rd).mono ?_; rintro er wq ⟨rfl, hwq⟩; subst wq; rw [hu.out]) | (fail))
            have hBd : Below wb.heap.size wb w4 := (Below.refl _ wb).drew.trans hB4
            cases u with
            | true =>
              go_wp2
              go_meet
              case rel => exact ⟨q.key, rfl, hTj, (fun _ _ => of_decide_eq_true hu.out), hbd, hBd⟩
            | false =>
              have ez : z = false := bad.out fun h => by have := h.inH hj0 (by simp only [ej2.out]; exact hgn); exact of_decide_eq_false hu.out this
              subst ez
              go_wp2
              go_ret
              exact ⟨rfl, hBw.trans (hBd.mono hzb)⟩
      case rest =>
        rename World => wd
        obtain ⟨T, rfl, hT, hIH, hbd', hBd1⟩ := hcut
        have hbd := hbd'.out
        have hBv : Below w.heap.size w wd := hBw.trans (hBd1.mono hzb)
        have hzd := hBv.size
        have RD : Hid (Rd wd hi (.slice a H.length cap) H) := R.out.below hBv hh
        clear c0 c1 c2 c3 c4 c5 c6 c7
        obtain ⟨c0, c1, c2, c3, c4, c5, c6, c7⟩ := hbd.cells
        go_upto_region 16 with (fail)
        go_cut [127] (fun p wc => ∃ bE : Bool, p = .bool bE ∧ Hid ((bE = true → z = false) ∧ (bE = false → (nth H l).gone = false → l ∈ chain H)) ∧ Hid (HB wc b3 ⟨k, x, y, 4, l, e, o, 0⟩) ∧ Below wd.heap.size wd wc)
        case first =>
          as_aux_lemma =>
            have hl0 := hL.1
            have hl1 := hL.2
            obtain ⟨i, rfl⟩ : ∃ i : Nat, l = i := ⟨l.toNat, by omega⟩
            have hil : i < H.length := by omega
            have hil' : (i : Int) < H.length := by omega
            have ei : Hid (nth H (i : Int) = H[i]) := nth_nat H i hil
            obtain ⟨b, off, rfl, hbh, e0, e1, e2, e3⟩ := RD.out.cell i hil
            obtain ⟨q, hq⟩ := hid_ex (H[i])
            rw [hq.out] at e3
            have ei2 : Hid (nth H (i : Int) = q) := by unfold Hid; rw [ei.out, hq.out]
            clear e0 e1 e2
            have fl0 : decide ((0 : Int) ≤ (i : Int)) = true := decide_eq_true (by omega)
            cases hgn : q.gone with
            | true =>
              rw [hgn] at e3
              try simp only [Act.put, List.setIfInBounds_toArray, List.set_cons_zero, List.set_cons_succ]
              go_big_quiet (fail)
              go_wp2
              go_meet
              case rel => exact ⟨false, rfl, ⟨fun q => (by cases q), fun _ h => by rw [ei2.out, hgn] at h; cases h⟩, hbd.of rfl, below_drewN _ _⟩
            | false =>
              rw [hgn] at e3
              have S0 : (wd.drew.cell? ⟨b3, 4, none⟩ = some (.int .i64 (i : Int))) ∧ (wd.drew.cell? ⟨b, off + i * 4 + 3, none⟩ = some (.bool false)) := ⟨c4, e3⟩
              obtain ⟨u, hu⟩ := hid_ex (decide ((i : Int) ∈ chain H))
              go_region_held3 (fun w' => (w'.cell? ⟨b3, 4, none⟩ = some (.int .i64 (i : Int))) ∧ (w'.cell? ⟨b, off + i * 4 + 3, none⟩ = some (.bool false))) (first | assumption | exact S0) (first | (go_at_call 76; refine (l4Chain_any H (up_ok HK.out) (by omega) _ hi wd.drew (by show hi ≤ wd.heap.size; omega) RD.out.drew).mono ?_; rintro er w4 ⟨v4, rfl, hO4, hB4⟩; have hbf := hbd.of (w' := w4) (hB4.block b3 hbd.lt); obtain ⟨g0, g1, g2, g3, g4, g5, g6, g7⟩ := hbf.cells; have ge := (World.cell?_of_block (w := wd) (w' := w4) (a := ⟨b, off + i * 4 + 3, none⟩) (hB4.block b (by show b < wd.heap.size; omega))).trans e3; have S4 := And.intro g4 ge) | (go_at_call 75; refine (l5In_any (chain H) (i : Int) _ w4.heap.size _ hO4.rd).mono ?_; rintro er wq ⟨rfl, hwq⟩; subst wq; rw [hu.out]) | (fail))
              have hBf : Below wd.heap.size wd w4 := (Below.refl _ wd).drew.trans hB4
              go_wp2
              go_meet
              case rel =>
                refine ⟨!u, rfl, ⟨fun q => ?_, fun q _ => ?_⟩, hbf, hBf⟩
                · cases u with
                  | true => cases q
                  | false => exact bad.out fun h => by have := h.inL hl0 (by simp only [ei2.out]; exact hgn); exact of_decide_eq_false hu.out this
                · cases u with
                  | true => exact of_decide_eq_true hu.out
                  | false => cases q
        case rest =>
          obtain ⟨bE, rfl, hbE, hbc', hBc1⟩ := hcut
          have hbc := hbc'.out
          have hBx : Below w.heap.size w wc := hBv.trans (hBc1.mono hzd)
          have hzc := hBx.size
          have RC : Hid (Rd wc hi (.slice a H.length cap) H) := R.out.below hBx hh
          clear c0 c1 c2 c3 c4 c5 c6 c7
          obtain ⟨c0, c1, c2, c3, c4, c5, c6, c7⟩ := hbc.cells
          cases bE with
          | true =>
            have ez := hbE.out.1 rfl
            subst ez
            go_wp2
            go_ret
            exact ⟨rfl, hBx⟩
          | false =>
            have PE : Hid ((nth H l).gone = false → l ∈ chain H) := hbE.out.2 rfl
            clear hbE
            by_cases hF : T = x
            rotate_left 1
            · have ez : z = false := bad.out fun h => hF (by have := (h.mark rfl).1; rw [← hT.out] at this; exact this)
              subst ez
              have fF : (T != x) = true := by simpa using hF
              go_wp2
              go_ret
              exact ⟨rfl, hBx⟩
            have fF : (T != x) = false := by simpa using hF
            by_cases hF1 : k = 2
            rotate_left 1
            · have ez : z = false := bad.out fun h => hF1 (h.mark rfl).2
              subst ez
              have fF1 : (k != 2) = true := by simpa using hF1
              go_wp2
              go_ret
              exact ⟨rfl, hBx⟩
            have fF1 : (k != 2) = false := by simpa using hF1
            have PF : Hid (T = x ∧ k = 2) := ⟨hF, hF1⟩
            clear hF hF1
            have mk : Hid ((o = -1 ∨ (k = 1 ∧ (1 ≤ o ∧ o < (H.length : Int)) ∧ (nth H o).key = x ∧ (nth H o).value = y ∧ (True) ∧ ((nth H o).gone = false ∧ o ∉ chain H))) → OkH H ⟨k, x, y, 4, l, e, o, 0⟩) := fun hw => mkOk hk hx (by omega) (fun q => by simp at q) (fun _ => ⟨HL.out, HKL.out, HEE.out⟩) ⟨⟨fun q => by simp at q, fun q => absurd rfl q⟩, by omega, by omega⟩ hIH.out (fun _ => PE.out) (fun q => by simp at q) (fun q => by simp at q) (fun _ => by rw [← hT.out]; exact PF.out) (hw.elim .inl fun p => .inr ⟨p.1, p.2.1, p.2.2.1, p.2.2.2.1, fun q => by simp at q, .inr p.2.2.2.2.2⟩)
            by_cases hG : o = -1
            · subst hG
              have ez : z = true := fine.out (mk.out (.inl rfl))
              subst ez
              go_wp2
              go_ret
              exact ⟨rfl, hBx⟩
            have fG : (o == -1) = false := by simpa using hG
            have hH1 : ¬ k = 1 := by rw [PF.out.2]; decide
            have ez : z = false := bad.out fun h => (h.own.elim (fun q => hG q) (fun q => hH1 q.1))
            subst ez
            have fH1 : (k != 1) = true := by simpa using hH1
            go_wp2
            try simp only [Act.put, List.setIfInBounds_toArray, List.set_cons_zero, List.set_cons_succ]
            go_big_quiet (fail)
            go_wp2
            go_ret
            exact ⟨rfl, hBx.trans (below_drewN _ _)⟩

end Go.Proofs.Ythjkhghlhjndmaa.ce
