/- Contracts: the program's itemsBetween, Behind and Passed. -/
import Derived.Test.YtbialeffdpmcjaaSz4
import Derived.Test.YtbialeffdpmcjaaSy8
namespace Go.Proofs.Ytbialeffdpmcjaa.sx
open Go.ChangeShapes Go.WideShapes Go.ChangeAt Go.RowKit
open Go.Proofs.Ytbialeffdpmcjaa.ce
set_option linter.unusedVariables false

theorem filter_door (n b : Int) (ks : List Int) : ks.filter (inWay (mk b) (mk b + 65536 / n)) = ks.filter (inDoor n b) := by
  congr 1
  funext k
  unfold inWay inDoor
  have := mk_even b
  rcases Int.emod_two_eq k with hm | hm
  · rw [hm]; rfl
  · by_cases h : mk b ≤ k
    · rw [decide_eq_true h, decide_eq_true (show mk b < k by omega)]
    · rw [decide_eq_false h, decide_eq_false (show ¬ mk b < k by omega)]

set_option maxRecDepth 100000 in
set_option maxHeartbeats 4000000 in
theorem between_any (n : Int) (ks : List Int) (hok : SOk n ks) (lo hg : Int) (v : Value) (hi : Nat) (w : World) (hh : hi ≤ w.heap.size) (r : RdI w hi v ks) :
    Calls Try.prog 66 #[.agg #[.int .i64 n, v], .int .i64 lo, .int .i64 hg] w fun e w' => ∃ v', e = .returned v' ∧ OwnI w' w.heap.size w'.heap.size v' (ks.filter (inWay lo hg)) ∧ Below w.heap.size w w' := by
  have hl := r.len
  obtain ⟨a, cap, rfl⟩ := r.form
  have R : Hid (RdI w hi (.slice a ks.length cap) ks) := r
  have OKH : Hid (SOk n ks) := hok
  have hk2 := hok.len
  clear r hok
  go_enter Try.func66, Try.ntmps66
  go_wp2_with (first | (refine wpList_box_v rfl 27 _ rfl [.int .i64 n, .slice a ks.length cap] rfl ?_; intro b2 w1 hb2 hw1 hB1 hV1; have hz1 := hB1.size; obtain ⟨c0, c1⟩ := sp_cells hV1) | (fail))
  have hR1 := R.out.below hB1 hh
  go_loopw [7, 13] (fun v p wr => ∃ i : Nat, p = .int .i64 i ∧ i ≤ ks.length ∧ Hid (OwnI wr w1.heap.size wr.heap.size v (way lo hg ks i)) ∧ Below w1.heap.size w1 wr) (fun _ p _ => ks.length + 1 - (intOf p).toNat)
  case atStart => exact ⟨0, rfl, Nat.zero_le _, ownI_none _ _ _, Below.refl _ _⟩
  case round =>
    obtain ⟨i, rfl, hi1, ho, hBr⟩ := hrel
    have hzr := hBr.size
    have hwl := way_len lo hg ks i
    by_cases hlt : i < ks.length
    · have hlt' : (i : Int) < (ks.length : Int) := by omega
      obtain ⟨bb, off, rfl, hb', d1⟩ := (hR1.below hBr (by omega)).cell i hlt
      have hkb := OKH.out.key (List.getElem_mem hlt)
      obtain ⟨k, hkk⟩ := hid_ex (ks[i])
      rw [hkk.out] at d1 hkb
      obtain ⟨hr0, hr1⟩ := hkb
      have hdef : inWay lo hg k = (k % 2 == 1 && (decide (lo < k) && decide (k < hg))) := rfl
      have hitem : itemB k = (k % 2 == 1) := by unfold itemB; rw [decide_eq_true hr1]; rfl
      obtain ⟨av, nv, kv, hav⟩ := own_slice ho.out
      subst hav
      cases hI : itemB k with
      | false =>
        have hd : inWay lo hg k = false := by rw [hdef, ← hitem, hI]; rfl
        clear hdef hitem
        have eN : Hid (way lo hg ks (i + 1) = way lo hg ks i) := way_no hlt (by rw [hkk.out]; exact hd)
        go_wp2_with (first | (go_at_call 52; refine (isItem_any _ hr0 _).mono ?_; rintro er wq ⟨rfl, hq⟩; subst wq; rw [hI]) | (fail))
        go_roundw
        case rel => exact ⟨i + 1, by go_num, by omega, by unfold Hid; rw [eN.out]; exact ho.out, hBr⟩
        case measure => simp [intOf]; omega
      | true =>
        by_cases h1 : lo < k
        · by_cases h2 : k < hg
          · have hd : inWay lo hg k = true := by rw [hdef, ← hitem, hI, decide_eq_true h1, decide_eq_true h2]; rfl
            clear hdef hitem
            have eY : Hid (way lo hg ks (i + 1) = way lo hg ks i ++ [k]) := by unfold Hid; rw [way_yes hlt (by rw [hkk.out]; exact hd), hkk.out]
            have hBx : Below wr.heap.size wr (wr.alloc (.cells #[.int .i64 k] 2)) := (Below.refl _ _).alloc (Nat.le_refl _) _
            go_wp2_with (first | (go_at_call 52; refine (isItem_any _ hr0 _).mono ?_; rintro er wq ⟨rfl, hq⟩; subst wq; rw [hI]) | (at_builtin; refine wpList_append_i rfl _ _ 22 rfl Try.underlying22 w1.heap.size _ _ (way lo hg ks i) rfl (ho.out.below hBx (Nat.le_refl _)) (by simp; omega) wr.heap.size 0 1 1 [k] rfl rfl (one_range wr _) (by omega) ?_; intro v5 w5 o5 hB5; have hBw5 : Below w1.heap.size wr w5 := (hBx.mono (by omega)).trans hB5) | (fail))
            go_roundw
            case rel => exact ⟨i + 1, by go_num, by omega, by unfold Hid; rw [eY.out]; exact o5, hBr.trans hBw5⟩
            case measure => simp [intOf]; omega
          · have hd : inWay lo hg k = false := by rw [hdef, decide_eq_false h2]; simp
            clear hdef hitem
            have eN : Hid (way lo hg ks (i + 1) = way lo hg ks i) := way_no hlt (by rw [hkk.out]; exact hd)
            go_wp2_with (first | (go_at_call 52; refine (isItem_any _ hr0 _).mono ?_; rintro er wq ⟨rfl, hq⟩; subst wq; rw [hI]) | (fail))
            go_roundw
            case rel => exact ⟨i + 1, by go_num, by omega, by unfold Hid; rw [eN.out]; exact ho.out, hBr⟩
            case measure => simp [intOf]; omega
        · have hd : inWay lo hg k = false := by rw [hdef, decide_eq_false h1]; simp
          clear hdef hitem
          have eN : Hid (way lo hg ks (i + 1) = way lo hg ks i) := way_no hlt (by rw [hkk.out]; exact hd)
          go_wp2_with (first | (go_at_call 52; refine (isItem_any _ hr0 _).mono ?_; rintro er wq ⟨rfl, hq⟩; subst wq; rw [hI]) | (fail))
          go_roundw
          case rel => exact ⟨i + 1, by go_num, by omega, by unfold Hid; rw [eN.out]; exact ho.out, hBr⟩
          case measure => simp [intOf]; omega
    · have hlt' : ¬ (i : Int) < (ks.length : Int) := by omega
      have ho2 : OwnI wr w1.heap.size wr.heap.size u7 (ks.filter (inWay lo hg)) := by
        have := ho.out
        unfold way at this
        rw [show i = ks.length by omega, List.take_length] at this
        exact this
      clear ho
      go_wp2
      go_ret
      exact ⟨_, rfl, ho2.wide hz1 (Nat.le_refl _), hB1.trans (hBr.mono hz1)⟩

set_option maxRecDepth 100000 in
set_option maxHeartbeats 4000000 in
theorem implBehind_all (n : Int) (ks : List Int) (hb63 : ∀ k ∈ ks, k ≤ 9223372036854775807) (v : Value) (hi : Nat) (w : World) (hh : hi ≤ w.heap.size) (r : RdI w hi v ks) (b : Int) :
    Calls Try.prog 28 #[.agg #[.int .i64 n, v], .int .i64 b] w fun e w' => ∃ v', e = .returned v' ∧ OwnI w' w.heap.size w'.heap.size v' (beL n ks b) ∧ Below w.heap.size w w' := by
  have hl := r.len
  obtain ⟨a, cap, rfl⟩ := r.form
  have R : Hid (RdI w hi (.slice a ks.length cap) ks) := r
  have K63 : Hid (∀ k ∈ ks, k ≤ 9223372036854775807) := hb63
  clear r hb63
  by_cases hok : splitB n ks = true
  · by_cases hb : 0 ≤ b ∧ b < n
    · have e3 : beL n ks b = (ks.filter (inDoor n b)).map (fun k => rv (k / 2) 15) := if_pos ⟨hok, hb⟩
      rw [e3]
      clear e3
      have hD : door n b = b := if_pos hb
      obtain ⟨hb0, hb1⟩ := hb
      have HK : Hid (splitB n ks = true) := hok
      have OK := splitB_iff.1 hok
      have hk1 := OK.pos
      have hk2 := OK.len
      have hn := OK.bd
      have OKH : Hid (SOk n ks) := OK
      clear hok OK
      have hne : (b == -1) = false := by rw [beq_eq_false_iff_ne]; omega
      have ek : keyB b 0 = mk b := by rw [keyB_yes b 0 hb0 (by omega)]; unfold mk; omega
      have hmb := mk_bd b
      have hq := size_div hn.1 hn.2
      go_enter Try.func28, Try.ntmps28
      have mk1 : Hid True := trivial
      have mk2 : Hid True := trivial
      have mk3 : Hid True := trivial
      have mk4 : Hid True := trivial
      have mk5 : Hid True := trivial
      go_wp2_with (first | (clear mk1; refine wpList_box_v rfl 27 _ rfl [.int .i64 n, .slice a ks.length cap] rfl ?_; intro b2 w1 hb2 hwb2 hB1 hVb2; have hz1 : w.heap.size ≤ w1.heap.size := hB1.size; have hB := hB1; have hzw := hB.size; have c2 : SV w1 b2 27 (.int .i64 n) (.slice a ks.length cap) := ⟨hVb2⟩; clear hVb2; obtain ⟨c20, c21⟩ := c2.cells) | (clear mk2; go_at_call 15; refine (implSplitOk_any n ks K63.out _ hi _ (by omega) (R.out.below hB hh)).mono ?_; rintro er w2 ⟨rfl, hB2⟩; have hz2 : w1.heap.size ≤ w2.heap.size := hB2.size; replace c2 := c2.below hB2 (by omega); replace hB := hB.trans (hB2.mono (by omega)); replace hzw := hB.size; clear c20 c21; obtain ⟨c20, c21⟩ := c2.cells; rw [HK.out]) | (clear mk3; go_at_call 55; refine (byNumber_any _ _).mono ?_; rintro er w3 ⟨rfl, hq3⟩; have hB3 : Below _ _ w3 := hq3 ▸ (Below.refl _ _).alloc (Nat.le_refl _) _; have cn : w3.cell? ⟨w2.heap.size, 0, none⟩ = some (.int .i64 n) := (by rw [hq3]; simp); clear hq3; have hz3 : w2.heap.size ≤ w3.heap.size := hB3.size; replace c2 := c2.below hB3 (by omega); replace hB := hB.trans (hB3.mono (by omega)); replace hzw := hB.size; clear c20 c21; obtain ⟨c20, c21⟩ := c2.cells) | (clear mk4; go_at_call 83; refine (byNumber1_any n b _ _ cn).mono ?_; rintro er wq ⟨rfl, hq⟩; subst wq; rw [hD]; clear cn) | (clear mk5; go_at_call 50; refine (implMarkKey_any _ _).mono ?_; rintro er wq ⟨rfl, hq⟩; subst wq; rw [ek]) | (fail))
      obtain ⟨fr, hfr⟩ := hid_ex (mk b)
      rw [hfr.out] at hmb ⊢
      obtain ⟨q, hqq⟩ := hid_ex (65536 / n)
      rw [hqq.out] at hq
      have hqr := hqq.out
      have hn0 : n ≠ 0 := by omega
      have htd : (65536 : Int).tdiv n = q := by rw [Int.tdiv_eq_ediv_of_nonneg (by omega)]; exact hqr
      have hwq : IntKind.i64.wrap q = q := by rw [IntKind.wrap_i64]; omega
      have hws : IntKind.i64.wrap (fr + q) = fr + q := by rw [IntKind.wrap_i64]; omega
      have hBd : Below w3.heap.size w3 w3.drew := (Below.refl _ _).drew
      have hzd : w3.drew.heap.size ≤ w3.heap.size := Nat.le_refl _
      have hzd2 : w3.heap.size ≤ w3.drew.heap.size := Nat.le_refl _
      have S1 : (w3.drew.cell? ⟨b2, 0, none⟩ = some (.int .i64 n) ∧ w3.drew.cell? ⟨b2, 1, none⟩ = some (.slice a ks.length cap)) := ⟨c20, c21⟩
      replace c2 := c2.below hBd (by omega)
      clear c20 c21
      obtain ⟨c20, c21⟩ := c2.cells
      replace hB := hB.trans (hBd.mono (by omega))
      replace hzw := hB.size
      have mk6 : Hid True := trivial
      go_region_held3 (fun w' => (w'.cell? ⟨b2, 0, none⟩ = some (.int .i64 n) ∧ w'.cell? ⟨b2, 1, none⟩ = some (.slice a ks.length cap))) (first | assumption | exact S1) (first | (clear mk6; go_at_call 66; refine (between_any n ks OKH.out fr (fr + q) _ hi w3.drew (by omega) (R.out.below hB hh)).mono ?_; rintro er w4 ⟨v4, rfl, ob, hB4⟩; have hz4 : w3.drew.heap.size ≤ w4.heap.size := hB4.size; replace c2 := c2.below hB4 (by omega); replace hB := hB.trans (hB4.mono (by omega)); replace hzw := hB.size; clear c20 c21; obtain ⟨c20, c21⟩ := c2.cells; obtain ⟨ab, nb, kb, rfl⟩ := own_slice ob; have S2 : (w4.cell? ⟨b2, 0, none⟩ = some (.int .i64 n) ∧ w4.cell? ⟨b2, 1, none⟩ = some (.slice a ks.length cap)) := ⟨c20, c21⟩) | (fail))
      clear S1 hBd
      have eF : Hid (ks.filter (inWay fr (fr + q)) = ks.filter (inDoor n b)) := by
        unfold Hid
        rw [← hfr.out, ← hqq.out]
        exact filter_door n b ks
      rw [eF.out] at ob
      obtain ⟨L, hL⟩ := hid_ex (ks.filter (inDoor n b))
      rw [hL.out] at ob
      have hLb : Hid (∀ k ∈ L, 0 ≤ k ∧ k ≤ 65535) := fun k hk => by rw [← hL.out] at hk; exact OKH.out.key (List.mem_filter.1 hk).1
      have hLl : L.length ≤ 65536 := by have := List.length_filter_le (inDoor n b) ks; rw [hL.out] at this; omega
      have OB : Hid (RdI w4 w4.heap.size (.slice ab nb kb) L) := ob.rd
      have enb : Hid (nb = L.length) := ob.len
      have hnb : nb ≤ 65536 := by have := enb.out; omega
      clear ob
      go_wp2
      go_loopw [7, 31] (fun v p wr => ∃ i : Nat, p = .int .i64 i ∧ i ≤ nb ∧ Hid (OwnI wr w4.heap.size wr.heap.size v ((L.take i).map fun k => rv (k / 2) 15)) ∧ Below w4.heap.size w4 wr) (fun _ p _ => nb + 1 - (intOf p).toNat)
      case atStart => exact ⟨0, rfl, Nat.zero_le _, ownI_none _ _ _, Below.refl _ _⟩
      case round =>
        obtain ⟨i, rfl, hi1, ho, hBr⟩ := hrel
        have hzr := hBr.size
        by_cases hlt : i < nb
        · have hlt' : (i : Int) < (nb : Int) := by omega
          have hltL : i < L.length := by rw [← enb.out]; exact hlt
          obtain ⟨bb, off, rfl, hb', d1⟩ := (OB.out.below hBr (Nat.le_refl _)).cell i hltL
          have hkb := hLb.out L[i] (List.getElem_mem hltL)
          have eY : Hid ((L.take (i + 1)).map (fun k => rv (k / 2) 15) = (L.take i).map (fun k => rv (k / 2) 15) ++ [rv (L[i] / 2) 15]) := by unfold Hid; rw [List.take_succ_eq_append_getElem hltL, List.map_append]; rfl
          obtain ⟨k, hkk⟩ := hid_ex (L[i])
          rw [hkk.out] at d1 hkb eY
          obtain ⟨hr0, hr1⟩ := hkb
          have et := turn_half k hr0 hr1
          obtain ⟨t, hT⟩ := hid_ex (rv (k / 2) 15)
          rw [hT.out] at et eY
          have hml : ((L.take i).map fun k => rv (k / 2) 15).length ≤ 65536 := by rw [List.length_map, List.length_take]; omega
          obtain ⟨av, nv, kv, hav⟩ := own_slice ho.out
          subst hav
          have hBx : Below wr.heap.size wr (wr.alloc (.cells #[.int .i64 t] 2)) := (Below.refl _ _).alloc (Nat.le_refl _) _
          go_wp2_with (first | (go_at_call 67; refine (numberOf_any _ hr0 (by omega) _).mono ?_; rintro er wq ⟨rfl, hq⟩; subst wq; rw [et]) | (at_builtin; refine wpList_append_i rfl _ _ 22 rfl Try.underlying22 w4.heap.size _ _ ((L.take i).map fun k => rv (k / 2) 15) rfl (ho.out.below hBx (Nat.le_refl _)) (by simp; omega) wr.heap.size 0 1 1 [t] rfl rfl (one_range wr _) (by omega) ?_; intro v5 w5 o5 hB5; have hBw5 : Below w4.heap.size wr w5 := (hBx.mono (by omega)).trans hB5) | (fail))
          go_roundw
          case rel => exact ⟨i + 1, by go_num, by omega, by unfold Hid; rw [eY.out]; exact o5, hBr.trans hBw5⟩
          case measure => simp [intOf]; omega
        · have hlt' : ¬ (i : Int) < (nb : Int) := by omega
          have ho2 : OwnI wr w4.heap.size wr.heap.size u7 (L.map fun k => rv (k / 2) 15) := by
            have := ho.out
            rw [show i = L.length by have := enb.out; omega, List.take_length] at this
            exact this
          clear ho
          go_wp2
          go_ret
          exact ⟨_, rfl, by rw [hL.out]; exact ho2.wide hzw (Nat.le_refl _), hB.trans (hBr.mono hzw)⟩
    · have e3 : beL n ks b = [] := if_neg (fun q => hb q.2)
      have hD : door n b = -1 := if_neg hb
      rw [e3]
      have HK : Hid (splitB n ks = true) := hok
      have OK := splitB_iff.1 hok
      have hk1 := OK.pos
      have hk2 := OK.len
      have hn := OK.bd
      have OKH : Hid (SOk n ks) := OK
      clear hok OK
      go_enter Try.func28, Try.ntmps28
      have mk1 : Hid True := trivial
      have mk2 : Hid True := trivial
      have mk3 : Hid True := trivial
      have mk4 : Hid True := trivial
      go_wp2_with (first | (clear mk1; refine wpList_box_v rfl 27 _ rfl [.int .i64 n, .slice a ks.length cap] rfl ?_; intro b2 w1 hb2 hwb2 hB1 hVb2; have hz1 : w.heap.size ≤ w1.heap.size := hB1.size; have hB := hB1; have hzw := hB.size; have c2 : SV w1 b2 27 (.int .i64 n) (.slice a ks.length cap) := ⟨hVb2⟩; clear hVb2; obtain ⟨c20, c21⟩ := c2.cells) | (clear mk2; go_at_call 15; refine (implSplitOk_any n ks K63.out _ hi _ (by omega) (R.out.below hB hh)).mono ?_; rintro er w2 ⟨rfl, hB2⟩; have hz2 : w1.heap.size ≤ w2.heap.size := hB2.size; replace c2 := c2.below hB2 (by omega); replace hB := hB.trans (hB2.mono (by omega)); replace hzw := hB.size; clear c20 c21; obtain ⟨c20, c21⟩ := c2.cells; rw [HK.out]) | (clear mk3; go_at_call 55; refine (byNumber_any _ _).mono ?_; rintro er w3 ⟨rfl, hq3⟩; have hB3 : Below _ _ w3 := hq3 ▸ (Below.refl _ _).alloc (Nat.le_refl _) _; have cn : w3.cell? ⟨w2.heap.size, 0, none⟩ = some (.int .i64 n) := (by rw [hq3]; simp); clear hq3; have hz3 : w2.heap.size ≤ w3.heap.size := hB3.size; replace c2 := c2.below hB3 (by omega); replace hB := hB.trans (hB3.mono (by omega)); replace hzw := hB.size; clear c20 c21; obtain ⟨c20, c21⟩ := c2.cells) | (clear mk4; go_at_call 83; refine (byNumber1_any n b _ _ cn).mono ?_; rintro er wq ⟨rfl, hq⟩; subst wq; rw [hD]; clear cn) | (fail))
      go_ret
      exact ⟨_, rfl, ownI_none _ _ _, hB⟩
  · have e3 : beL n ks b = [] := if_neg (fun q => hok q.1)
    rw [e3]
    have HK : Hid (splitB n ks = false) := by unfold Hid; simpa using hok
    clear hok
    go_enter Try.func28, Try.ntmps28
    have mk1 : Hid True := trivial
    have mk2 : Hid True := trivial
    go_wp2_with (first | (clear mk1; refine wpList_box_v rfl 27 _ rfl [.int .i64 n, .slice a ks.length cap] rfl ?_; intro b2 w1 hb2 hwb2 hB1 hVb2; have hz1 : w.heap.size ≤ w1.heap.size := hB1.size; have hB := hB1; have hzw := hB.size; have c2 : SV w1 b2 27 (.int .i64 n) (.slice a ks.length cap) := ⟨hVb2⟩; clear hVb2; obtain ⟨c20, c21⟩ := c2.cells) | (clear mk2; go_at_call 15; refine (implSplitOk_any n ks K63.out _ hi _ (by omega) (R.out.below hB hh)).mono ?_; rintro er w2 ⟨rfl, hB2⟩; have hz2 : w1.heap.size ≤ w2.heap.size := hB2.size; replace c2 := c2.below hB2 (by omega); replace hB := hB.trans (hB2.mono (by omega)); replace hzw := hB.size; clear c20 c21; obtain ⟨c20, c21⟩ := c2.cells; rw [HK.out]) | (fail))
    go_ret
    exact ⟨_, rfl, ownI_none _ _ _, hB⟩

set_option maxRecDepth 100000 in
set_option maxHeartbeats 4000000 in
theorem implPassed_all (n : Int) (ks : List Int) (hb63 : ∀ k ∈ ks, k ≤ 9223372036854775807) (v : Value) (hi : Nat) (w : World) (hh : hi ≤ w.heap.size) (r : RdI w hi v ks) (h : Int) :
    Calls Try.prog 33 #[.agg #[.int .i64 n, v], .int .i64 h] w fun e w' => e = .returned (.int .i64 (paI n ks h)) ∧ Below w.heap.size w w' := by
  have hl := r.len
  obtain ⟨a, cap, rfl⟩ := r.form
  have R : Hid (RdI w hi (.slice a ks.length cap) ks) := r
  have K63 : Hid (∀ k ∈ ks, k ≤ 9223372036854775807) := hb63
  clear r hb63
  by_cases hok : splitB n ks = true
  · by_cases hf : 0 ≤ h ∧ h ≤ 32767
    · cases hA : isAt ks (mk (h % n)) with
      | true =>
        have e3 : paI n ks h = ((ks.filter (inWay (mk (h % n)) (itk h))).length : Int) := if_pos ⟨hok, hf, hA⟩
        rw [e3]
        clear e3
        obtain ⟨hf0, hf1⟩ := hf
        have HK : Hid (splitB n ks = true) := hok
        have OK := splitB_iff.1 hok
        have hk1 := OK.pos
        have hk2 := OK.len
        have hn := OK.bd
        have OKH : Hid (SOk n ks) := OK
        clear hok OK
        have hm0 := mod_bd h hn.1
        have hD : hdoor n h = h % n := if_pos ⟨hf0, hf1⟩
        have hne : ((h % n) == -1) = false := by rw [beq_eq_false_iff_ne]; omega
        have ek : keyB (h % n) 0 = mk (h % n) := by rw [keyB_yes _ 0 hm0.1 (by omega)]; unfold mk; omega
        have eik : keyB h 1 = itk h := by rw [keyB_yes h 1 hf0 hf1]; rfl
        go_enter Try.func33, Try.ntmps33
        have mk1 : Hid True := trivial
        have mk2 : Hid True := trivial
        have mk3 : Hid True := trivial
        have mk4 : Hid True := trivial
        go_wp2_with (first | (clear mk1; refine wpList_box_v rfl 27 _ rfl [.int .i64 n, .slice a ks.length cap] rfl ?_; intro b2 w1 hb2 hwb2 hB1 hVb2; have hz1 : w.heap.size ≤ w1.heap.size := hB1.size; have hB := hB1; have hzw := hB.size; have c2 : SV w1 b2 27 (.int .i64 n) (.slice a ks.length cap) := ⟨hVb2⟩; clear hVb2; obtain ⟨c20, c21⟩ := c2.cells) | (clear mk2; go_at_call 15; refine (implSplitOk_any n ks K63.out _ hi _ (by omega) (R.out.below hB hh)).mono ?_; rintro er w2 ⟨rfl, hB2⟩; have hz2 : w1.heap.size ≤ w2.heap.size := hB2.size; replace c2 := c2.below hB2 (by omega); replace hB := hB.trans (hB2.mono (by omega)); replace hzw := hB.size; clear c20 c21; obtain ⟨c20, c21⟩ := c2.cells; rw [HK.out]) | (clear mk3; go_at_call 62; refine (byHash_any _ _).mono ?_; rintro er w3 ⟨rfl, hq3⟩; have hB3 : Below _ _ w3 := hq3 ▸ (Below.refl _ _).alloc (Nat.le_refl _) _; have cn : w3.cell? ⟨w2.heap.size, 0, none⟩ = some (.int .i64 n) := (by rw [hq3]; simp); clear hq3; have hz3 : w2.heap.size ≤ w3.heap.size := hB3.size; replace c2 := c2.below hB3 (by omega); replace hB := hB.trans (hB3.mono (by omega)); replace hzw := hB.size; clear c20 c21; obtain ⟨c20, c21⟩ := c2.cells) | (clear mk4; go_at_call 86; refine (byHash1_any n h hn.1 _ _ cn).mono ?_; rintro er wq ⟨rfl, hq⟩; subst wq; rw [hD]; clear cn) | (fail))
        have hBd : Below w3.heap.size w3 w3.drew := (Below.refl _ _).drew
        have hzd : w3.drew.heap.size ≤ w3.heap.size := Nat.le_refl _
        have hzd2 : w3.heap.size ≤ w3.drew.heap.size := Nat.le_refl _
        have S1 : (w3.drew.cell? ⟨b2, 0, none⟩ = some (.int .i64 n) ∧ w3.drew.cell? ⟨b2, 1, none⟩ = some (.slice a ks.length cap)) := ⟨c20, c21⟩
        replace c2 := c2.below hBd (by omega)
        clear c20 c21
        obtain ⟨c20, c21⟩ := c2.cells
        replace hB := hB.trans (hBd.mono (by omega))
        replace hzw := hB.size
        have mk5 : Hid True := trivial
        have mk6 : Hid True := trivial
        go_region_held3 (fun w' => (w'.cell? ⟨b2, 0, none⟩ = some (.int .i64 n) ∧ w'.cell? ⟨b2, 1, none⟩ = some (.slice a ks.length cap))) (first | assumption | exact S1) (first | (clear mk5; go_at_call 50; refine (implMarkKey_any _ _).mono ?_; rintro er wq ⟨rfl, hq⟩; subst wq; rw [ek]) | (clear mk6; go_at_call 63; refine (spHas_any n ks (mk (h % n)) OKH.out.rise hk1 (by omega) _ hi w3.drew (by omega) (R.out.below hB hh)).mono ?_; rintro er w4 ⟨rfl, hB4⟩; have hz4 : w3.drew.heap.size ≤ w4.heap.size := hB4.size; replace c2 := c2.below hB4 (by omega); replace hB := hB.trans (hB4.mono (by omega)); replace hzw := hB.size; clear c20 c21; obtain ⟨c20, c21⟩ := c2.cells; rw [hA]; have S2 : (w4.cell? ⟨b2, 0, none⟩ = some (.int .i64 n) ∧ w4.cell? ⟨b2, 1, none⟩ = some (.slice a ks.length cap)) := ⟨c20, c21⟩) | (fail))
        clear S1 hBd
        go_wp2
        have hBd : Below w4.heap.size w4 w4.drew := (Below.refl _ _).drew
        have hzd : w4.drew.heap.size ≤ w4.heap.size := Nat.le_refl _
        have hzd2 : w4.heap.size ≤ w4.drew.heap.size := Nat.le_refl _
        have S1 : (w4.drew.cell? ⟨b2, 0, none⟩ = some (.int .i64 n) ∧ w4.drew.cell? ⟨b2, 1, none⟩ = some (.slice a ks.length cap)) := ⟨c20, c21⟩
        replace c2 := c2.below hBd (by omega)
        clear c20 c21
        obtain ⟨c20, c21⟩ := c2.cells
        replace hB := hB.trans (hBd.mono (by omega))
        replace hzw := hB.size
        have mk7 : Hid True := trivial
        have mk8 : Hid True := trivial
        have mk9 : Hid True := trivial
        go_region_held3 (fun w' => (w'.cell? ⟨b2, 0, none⟩ = some (.int .i64 n) ∧ w'.cell? ⟨b2, 1, none⟩ = some (.slice a ks.length cap))) (first | assumption | exact S1) (first | (clear mk7; go_at_call 50; refine (implMarkKey_any _ _).mono ?_; rintro er wq ⟨rfl, hq⟩; subst wq; rw [ek]) | (clear mk8; go_at_call 64; refine (implItemKey_any _ _).mono ?_; rintro er wq ⟨rfl, hq⟩; subst wq; rw [eik]) | (clear mk9; go_at_call 66; refine (between_any n ks OKH.out (mk (h % n)) (itk h) _ hi w4.drew (by omega) (R.out.below hB hh)).mono ?_; rintro er w5 ⟨v5, rfl, ob, hB5⟩; have hz5 : w4.drew.heap.size ≤ w5.heap.size := hB5.size; replace c2 := c2.below hB5 (by omega); replace hB := hB.trans (hB5.mono (by omega)); replace hzw := hB.size; clear c20 c21; obtain ⟨c20, c21⟩ := c2.cells; obtain ⟨ab, nb, kb, rfl⟩ := own_slice ob; have enb : Hid (nb = (ks.filter (inWay (mk (h % n)) (itk h))).length) := ob.len; have hob := ob.rd.len; clear ob; have S2 : (w5.cell? ⟨b2, 0, none⟩ = some (.int .i64 n) ∧ w5.cell? ⟨b2, 1, none⟩ = some (.slice a ks.length cap)) := ⟨c20, c21⟩) | (fail))
        clear S1 hBd
        all_goals
          go_wp2
          go_ret
          exact ⟨by first | (rw [← enb.out]; rfl) | (rw [← enb.out]), hB⟩
      | false =>
        have e3 : paI n ks h = -1 := if_neg (fun q => by rw [hA] at q; exact Bool.false_ne_true q.2.2)
        rw [e3]
        clear e3
        obtain ⟨hf0, hf1⟩ := hf
        have HK : Hid (splitB n ks = true) := hok
        have OK := splitB_iff.1 hok
        have hk1 := OK.pos
        have hk2 := OK.len
        have hn := OK.bd
        have OKH : Hid (SOk n ks) := OK
        clear hok OK
        have hm0 := mod_bd h hn.1
        have hD : hdoor n h = h % n := if_pos ⟨hf0, hf1⟩
        have hne : ((h % n) == -1) = false := by rw [beq_eq_false_iff_ne]; omega
        have ek : keyB (h % n) 0 = mk (h % n) := by rw [keyB_yes _ 0 hm0.1 (by omega)]; unfold mk; omega
        have eik : keyB h 1 = itk h := by rw [keyB_yes h 1 hf0 hf1]; rfl
        go_enter Try.func33, Try.ntmps33
        have mk1 : Hid True := trivial
        have mk2 : Hid True := trivial
        have mk3 : Hid True := trivial
        have mk4 : Hid True := trivial
        go_wp2_with (first | (clear mk1; refine wpList_box_v rfl 27 _ rfl [.int .i64 n, .slice a ks.length cap] rfl ?_; intro b2 w1 hb2 hwb2 hB1 hVb2; have hz1 : w.heap.size ≤ w1.heap.size := hB1.size; have hB := hB1; have hzw := hB.size; have c2 : SV w1 b2 27 (.int .i64 n) (.slice a ks.length cap) := ⟨hVb2⟩; clear hVb2; obtain ⟨c20, c21⟩ := c2.cells) | (clear mk2; go_at_call 15; refine (implSplitOk_any n ks K63.out _ hi _ (by omega) (R.out.below hB hh)).mono ?_; rintro er w2 ⟨rfl, hB2⟩; have hz2 : w1.heap.size ≤ w2.heap.size := hB2.size; replace c2 := c2.below hB2 (by omega); replace hB := hB.trans (hB2.mono (by omega)); replace hzw := hB.size; clear c20 c21; obtain ⟨c20, c21⟩ := c2.cells; rw [HK.out]) | (clear mk3; go_at_call 62; refine (byHash_any _ _).mono ?_; rintro er w3 ⟨rfl, hq3⟩; have hB3 : Below _ _ w3 := hq3 ▸ (Below.refl _ _).alloc (Nat.le_refl _) _; have cn : w3.cell? ⟨w2.heap.size, 0, none⟩ = some (.int .i64 n) := (by rw [hq3]; simp); clear hq3; have hz3 : w2.heap.size ≤ w3.heap.size := hB3.size; replace c2 := c2.below hB3 (by omega); replace hB := hB.trans (hB3.mono (by omega)); replace hzw := hB.size; clear c20 c21; obtain ⟨c20, c21⟩ := c2.cells) | (clear mk4; go_at_call 86; refine (byHash1_any n h hn.1 _ _ cn).mono ?_; rintro er wq ⟨rfl, hq⟩; subst wq; rw [hD]; clear cn) | (fail))
        have hBd : Below w3.heap.size w3 w3.drew := (Below.refl _ _).drew
        have hzd : w3.drew.heap.size ≤ w3.heap.size := Nat.le_refl _
        have hzd2 : w3.heap.size ≤ w3.drew.heap.size := Nat.le_refl _
        have S1 : (w3.drew.cell? ⟨b2, 0, none⟩ = some (.int .i64 n) ∧ w3.drew.cell? ⟨b2, 1, none⟩ = some (.slice a ks.length cap)) := ⟨c20, c21⟩
        replace c2 := c2.below hBd (by omega)
        clear c20 c21
        obtain ⟨c20, c21⟩ := c2.cells
        replace hB := hB.trans (hBd.mono (by omega))
        replace hzw := hB.size
        have mk5 : Hid True := trivial
        have mk6 : Hid True := trivial
        go_region_held3 (fun w' => (w'.cell? ⟨b2, 0, none⟩ = some (.int .i64 n) ∧ w'.cell? ⟨b2, 1, none⟩ = some (.slice a ks.length cap))) (first | assumption | exact S1) (first | (clear mk5; go_at_call 50; refine (implMarkKey_any _ _).mono ?_; rintro er wq ⟨rfl, hq⟩; subst wq; rw [ek]) | (clear mk6; go_at_call 63; refine (spHas_any n ks (mk (h % n)) OKH.out.rise hk1 (by omega) _ hi w3.drew (by omega) (R.out.below hB hh)).mono ?_; rintro er w4 ⟨rfl, hB4⟩; have hz4 : w3.drew.heap.size ≤ w4.heap.size := hB4.size; replace c2 := c2.below hB4 (by omega); replace hB := hB.trans (hB4.mono (by omega)); replace hzw := hB.size; clear c20 c21; obtain ⟨c20, c21⟩ := c2.cells; rw [hA]; have S2 : (w4.cell? ⟨b2, 0, none⟩ = some (.int .i64 n) ∧ w4.cell? ⟨b2, 1, none⟩ = some (.slice a ks.length cap)) := ⟨c20, c21⟩) | (fail))
        clear S1 hBd
        go_wp2
        go_ret
        exact ⟨rfl, hB⟩
    · have e3 : paI n ks h = -1 := if_neg (fun q => hf q.2.1)
      have hD : hdoor n h = -1 := if_neg hf
      rw [e3]
      have HK : Hid (splitB n ks = true) := hok
      have OK := splitB_iff.1 hok
      have hk1 := OK.pos
      have hk2 := OK.len
      have hn := OK.bd
      have OKH : Hid (SOk n ks) := OK
      clear hok OK
      go_enter Try.func33, Try.ntmps33
      have mk1 : Hid True := trivial
      have mk2 : Hid True := trivial
      have mk3 : Hid True := trivial
      have mk4 : Hid True := trivial
      go_wp2_with (first | (clear mk1; refine wpList_box_v rfl 27 _ rfl [.int .i64 n, .slice a ks.length cap] rfl ?_; intro b2 w1 hb2 hwb2 hB1 hVb2; have hz1 : w.heap.size ≤ w1.heap.size := hB1.size; have hB := hB1; have hzw := hB.size; have c2 : SV w1 b2 27 (.int .i64 n) (.slice a ks.length cap) := ⟨hVb2⟩; clear hVb2; obtain ⟨c20, c21⟩ := c2.cells) | (clear mk2; go_at_call 15; refine (implSplitOk_any n ks K63.out _ hi _ (by omega) (R.out.below hB hh)).mono ?_; rintro er w2 ⟨rfl, hB2⟩; have hz2 : w1.heap.size ≤ w2.heap.size := hB2.size; replace c2 := c2.below hB2 (by omega); replace hB := hB.trans (hB2.mono (by omega)); replace hzw := hB.size; clear c20 c21; obtain ⟨c20, c21⟩ := c2.cells; rw [HK.out]) | (clear mk3; go_at_call 62; refine (byHash_any _ _).mono ?_; rintro er w3 ⟨rfl, hq3⟩; have hB3 : Below _ _ w3 := hq3 ▸ (Below.refl _ _).alloc (Nat.le_refl _) _; have cn : w3.cell? ⟨w2.heap.size, 0, none⟩ = some (.int .i64 n) := (by rw [hq3]; simp); clear hq3; have hz3 : w2.heap.size ≤ w3.heap.size := hB3.size; replace c2 := c2.below hB3 (by omega); replace hB := hB.trans (hB3.mono (by omega)); replace hzw := hB.size; clear c20 c21; obtain ⟨c20, c21⟩ := c2.cells) | (clear mk4; go_at_call 86; refine (byHash1_any n h hn.1 _ _ cn).mono ?_; rintro er wq ⟨rfl, hq⟩; subst wq; rw [hD]; clear cn) | (fail))
      go_big_quiet (fail)
      go_wp2
      go_ret
      exact ⟨rfl, hB.trans (below_drewN _ _)⟩
  · have e3 : paI n ks h = -1 := if_neg (fun q => hok q.1)
    rw [e3]
    have HK : Hid (splitB n ks = false) := by unfold Hid; simpa using hok
    clear hok
    go_enter Try.func33, Try.ntmps33
    have mk1 : Hid True := trivial
    have mk2 : Hid True := trivial
    go_wp2_with (first | (clear mk1; refine wpList_box_v rfl 27 _ rfl [.int .i64 n, .slice a ks.length cap] rfl ?_; intro b2 w1 hb2 hwb2 hB1 hVb2; have hz1 : w.heap.size ≤ w1.heap.size := hB1.size; have hB := hB1; have hzw := hB.size; have c2 : SV w1 b2 27 (.int .i64 n) (.slice a ks.length cap) := ⟨hVb2⟩; clear hVb2; obtain ⟨c20, c21⟩ := c2.cells) | (clear mk2; go_at_call 15; refine (implSplitOk_any n ks K63.out _ hi _ (by omega) (R.out.below hB hh)).mono ?_; rintro er w2 ⟨rfl, hB2⟩; have hz2 : w1.heap.size ≤ w2.heap.size := hB2.size; replace c2 := c2.below hB2 (by omega); replace hB := hB.trans (hB2.mono (by omega)); replace hzw := hB.size; clear c20 c21; obtain ⟨c20, c21⟩ := c2.cells; rw [HK.out]) | (fail))
    go_ret
    exact ⟨rfl, hB⟩
end Go.Proofs.Ytbialeffdpmcjaa.sx
