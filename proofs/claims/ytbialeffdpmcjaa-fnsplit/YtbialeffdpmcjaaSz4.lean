/- Contracts: the model's Behind and Passed. -/
import Derived.Test.YtbialeffdpmcjaaSy5
import Derived.Test.YtbialeffdpmcjaaSy3
namespace Go.Proofs.Ytbialeffdpmcjaa.sx
open Go.ChangeShapes Go.WideShapes Go.ChangeAt Go.RowKit
open Go.Proofs.Ytbialeffdpmcjaa.ce
set_option linter.unusedVariables false

/-- what is behind door b among the first i keys -/
def beT (n : Int) (ks : List Int) (b : Int) (i : Nat) : List Int := ((ks.take i).filter (inDoor n b)).map fun k => rv (k / 2) 15
theorem beT_yes {n : Int} {ks : List Int} {b : Int} {i : Nat} (h : i < ks.length) (hd : inDoor n b ks[i] = true) : beT n ks b (i + 1) = beT n ks b i ++ [rv (ks[i] / 2) 15] := by
  unfold beT
  rw [List.take_succ_eq_append_getElem h, List.filter_append, List.map_append]
  simp [hd]
theorem beT_no {n : Int} {ks : List Int} {b : Int} {i : Nat} (h : i < ks.length) (hd : inDoor n b ks[i] = false) : beT n ks b (i + 1) = beT n ks b i := by
  unfold beT
  rw [List.take_succ_eq_append_getElem h, List.filter_append, List.map_append]
  simp [hd]
theorem beT_len (n : Int) (ks : List Int) (b : Int) (i : Nat) : (beT n ks b i).length ≤ ks.length := by
  unfold beT
  rw [List.length_map]
  have h1 := List.length_filter_le (inDoor n b) (ks.take i)
  have h2 : (ks.take i).length ≤ ks.length := by rw [List.length_take]; omega
  omega
def way (lo hi : Int) (ks : List Int) (i : Nat) : List Int := (ks.take i).filter (inWay lo hi)
theorem way_yes {lo hi : Int} {ks : List Int} {i : Nat} (h : i < ks.length) (hd : inWay lo hi ks[i] = true) : way lo hi ks (i + 1) = way lo hi ks i ++ [ks[i]] := by
  unfold way
  rw [List.take_succ_eq_append_getElem h, List.filter_append]
  simp [hd]
theorem way_no {lo hi : Int} {ks : List Int} {i : Nat} (h : i < ks.length) (hd : inWay lo hi ks[i] = false) : way lo hi ks (i + 1) = way lo hi ks i := by
  unfold way
  rw [List.take_succ_eq_append_getElem h, List.filter_append]
  simp [hd]
theorem way_len (lo hi : Int) (ks : List Int) (i : Nat) : (way lo hi ks i).length ≤ ks.length := by
  unfold way
  have h1 := List.length_filter_le (inWay lo hi) (ks.take i)
  have h2 : (ks.take i).length ≤ ks.length := by rw [List.length_take]; omega
  omega
theorem size_div {n : Int} (h1 : 1 ≤ n) (h2 : n ≤ 64) : 0 ≤ 65536 / n ∧ 65536 / n ≤ 65536 := ⟨Int.ediv_nonneg (by omega) (by omega), Int.ediv_le_self _ (by omega)⟩

set_option maxRecDepth 100000 in
set_option maxHeartbeats 4000000 in
theorem specBehind_all (n : Int) (ks : List Int) (hb63 : ∀ k ∈ ks, k ≤ 9223372036854775807) (v : Value) (hi : Nat) (w : World) (hh : hi ≤ w.heap.size) (r : RdI w hi v ks) (b : Int) :
    Calls Try.prog 27 #[.agg #[.int .i64 n, v], .int .i64 b] w fun e w' => ∃ v', e = .returned v' ∧ OwnI w' w.heap.size w'.heap.size v' (beL n ks b) ∧ Below w.heap.size w w' := by
  have hl := r.len
  obtain ⟨a, cap, rfl⟩ := r.form
  have R : Hid (RdI w hi (.slice a ks.length cap) ks) := r
  have K63 : Hid (∀ k ∈ ks, k ≤ 9223372036854775807) := hb63
  clear r hb63
  by_cases hok : splitB n ks = true
  · by_cases hb : 0 ≤ b ∧ b < n
    · have e3 : beL n ks b = (ks.filter (inDoor n b)).map (fun k => rv (k / 2) 15) := if_pos ⟨hok, hb⟩
      rw [e3]
      clear e3
      obtain ⟨hb0, hb1⟩ := hb
      have HK : Hid (splitB n ks = true) := hok
      have OK := splitB_iff.1 hok
      have hk1 := OK.pos
      have hk2 := OK.len
      have hn := OK.bd
      have OKH : Hid (SOk n ks) := OK
      clear hok OK
      have BX : Hid True := trivial
      have ek : keyB b 0 = mk b := by rw [keyB_yes b 0 hb0 (by omega)]; unfold mk; omega
      have hmb := mk_bd b
      have hq := size_div hn.1 hn.2
      go_enter Try.func27, Try.ntmps27
      go_wp2_with (first | (clear BX; refine wpList_box_v rfl 27 _ rfl [.int .i64 n, .slice a ks.length cap] rfl ?_; intro b2 w1 hb2 hw1 hB1 hV1; have hz1 := hB1.size; have hBa : Below w.heap.size w (w1.alloc (.cells #[] 2)) := hB1.alloc hz1 _; have hVa : VBlk (w1.alloc (.cells #[] 2)) b2 27 [.int .i64 n, .slice a ks.length cap] := hV1.of (heap_alloc_old _ _ hw1); obtain ⟨c0, c1⟩ := sp_cells hVa) | (go_at_call 13; refine (specSplitOk_any n ks _ hi _ (by simp; omega) (R.out.below hBa hh)).mono ?_; rintro er w3 ⟨rfl, hB3⟩; rw [HK.out]; have hz3 : w1.heap.size + 1 ≤ w3.heap.size := (by have := hB3.size; simpa using this); have o3 : OwnI w3 w1.heap.size (w1.heap.size + 1) (.slice (some ⟨w1.heap.size, 0, none⟩) 0 0) [] := (ownI_empty w1).below hB3 (by simp); have hV3 := hVa.of (hB3.block b2 (by simp; omega)); clear c0 c1; obtain ⟨c0, c1⟩ := sp_cells hV3; have hB13 : Below w.heap.size w w3 := hBa.trans (hB3.mono (by simp; omega))) | (go_at_call 42; refine (specMarkKey_any _ _).mono ?_; rintro er wq ⟨rfl, hq⟩; subst wq; rw [ek]) | (fail))
      obtain ⟨fr, hfr⟩ := hid_ex (mk b)
      rw [hfr.out] at hmb ⊢
      obtain ⟨q, hqq⟩ := hid_ex (65536 / n)
      rw [hqq.out] at hq
      have hqr := hqq.out
      go_loopw [5, 7] (fun v p wr => ∃ i : Nat, p = .int .i64 i ∧ i ≤ ks.length ∧ Hid (OwnI wr w1.heap.size wr.heap.size v (beT n ks b i)) ∧ Below w1.heap.size w3 wr ∧ VBlk wr b2 27 [.int .i64 n, .slice a ks.length cap]) (fun _ p _ => ks.length + 1 - (intOf p).toNat)
      case atStart => exact ⟨0, rfl, Nat.zero_le _, o3.wide (Nat.le_refl _) hz3, Below.refl _ _, hV3⟩
      case round =>
        obtain ⟨i, rfl, hi1, ho, hBr, hVr⟩ := hrel
        clear c0 c1
        obtain ⟨c0, c1⟩ := sp_cells hVr
        have hzr := hBr.size
        have hbl := beT_len n ks b i
        by_cases hlt : i < ks.length
        · have hlt' : (i : Int) < (ks.length : Int) := by omega
          obtain ⟨bb, off, rfl, hb', d1⟩ := ((R.out.below hB13 hh).below hBr (by omega)).cell i hlt
          have hkb := OKH.out.key (List.getElem_mem hlt)
          obtain ⟨k, hkk⟩ := hid_ex (ks[i])
          rw [hkk.out] at d1 hkb
          obtain ⟨hr0, hr1⟩ := hkb
          have hdef : inDoor n b k = (k % 2 == 1 && (decide (fr ≤ k) && decide (k < fr + q))) := by unfold inDoor; rw [hfr.out, hqq.out]
          rcases Int.emod_two_eq k with hm | hm
          · have hd : inDoor n b k = false := by rw [hdef, hm]; rfl
            have hm' : (k % 2 == 1) = false := by simp [hm]
            clear hdef
            have eN : Hid (beT n ks b (i + 1) = beT n ks b i) := beT_no hlt (by rw [hkk.out]; exact hd)
            go_wp2
            go_roundw
            case rel => exact ⟨i + 1, by go_num, by omega, by unfold Hid; rw [eN.out]; exact ho.out, hBr, hVr⟩
            case measure => simp [intOf]; omega
          · have hm' : (k % 2 == 1) = true := by simp [hm]
            by_cases h1 : fr ≤ k
            · by_cases h2 : k < fr + q
              · have hd : inDoor n b k = true := by rw [hdef, hm', decide_eq_true h1, decide_eq_true h2]; rfl
                clear hdef
                have eY : Hid (beT n ks b (i + 1) = beT n ks b i ++ [rv (k / 2) 15]) := by unfold Hid; rw [beT_yes hlt (by rw [hkk.out]; exact hd), hkk.out]
                have et := turn_half k hr0 hr1
                obtain ⟨t, hT⟩ := hid_ex (rv (k / 2) 15)
                rw [hT.out] at et eY
                have hBx : Below wr.heap.size wr (wr.alloc (.cells #[.int .i64 t] 2)) := (Below.refl _ _).alloc (Nat.le_refl _) _
                go_wp2_with (first | (go_at_call 43; refine (specTurned_any _ _ _).mono ?_; rintro er wq ⟨rfl, hq⟩; subst wq; rw [et]) | (at_builtin; refine wpList_append_i rfl _ _ 22 rfl Try.underlying22 w1.heap.size _ _ (beT n ks b i) rfl (ho.out.below hBx (Nat.le_refl _)) (by simp; omega) wr.heap.size 0 1 1 [t] rfl rfl (one_range wr _) (by omega) ?_; intro v5 w5 o5 hB5; have hBw5 : Below w1.heap.size wr w5 := (hBx.mono (by omega)).trans hB5; have hV5 := hVr.of (hBw5.block b2 (by omega))) | (fail))
                go_roundw
                case rel => exact ⟨i + 1, by go_num, by omega, by unfold Hid; rw [eY.out]; exact o5, hBr.trans hBw5, hV5⟩
                case measure => simp [intOf]; omega
              · have hd : inDoor n b k = false := by rw [hdef, decide_eq_false h2]; simp
                clear hdef
                have eN : Hid (beT n ks b (i + 1) = beT n ks b i) := beT_no hlt (by rw [hkk.out]; exact hd)
                go_wp2
                go_roundw
                case rel => exact ⟨i + 1, by go_num, by omega, by unfold Hid; rw [eN.out]; exact ho.out, hBr, hVr⟩
                case measure => simp [intOf]; omega
            · have hd : inDoor n b k = false := by rw [hdef, decide_eq_false h1]; simp
              clear hdef
              have eN : Hid (beT n ks b (i + 1) = beT n ks b i) := beT_no hlt (by rw [hkk.out]; exact hd)
              go_wp2
              go_roundw
              case rel => exact ⟨i + 1, by go_num, by omega, by unfold Hid; rw [eN.out]; exact ho.out, hBr, hVr⟩
              case measure => simp [intOf]; omega
        · have hlt' : ¬ (i : Int) < (ks.length : Int) := by omega
          have ho2 : OwnI wr w1.heap.size wr.heap.size u5 (beT n ks b ks.length) := by have := ho.out; rw [show i = ks.length by omega] at this; exact this
          clear ho
          go_wp2
          go_ret
          refine ⟨_, rfl, ?_, hB13.trans (hBr.mono (by omega))⟩
          have := ho2.wide (lo' := w.heap.size) (hi' := wr.heap.size) (by omega) (Nat.le_refl _)
          unfold beT at this
          rw [List.take_length] at this
          exact this
    · have e3 : beL n ks b = [] := if_neg (fun q => hb q.2)
      rw [e3]
      have HK : Hid (splitB n ks = true) := hok
      have OK := splitB_iff.1 hok
      have hk1 := OK.pos
      have hk2 := OK.len
      have hn := OK.bd
      have OKH : Hid (SOk n ks) := OK
      clear hok OK
      by_cases hb0 : b < 0
      · clear hb
        have BX : Hid True := trivial
        go_enter Try.func27, Try.ntmps27
        go_wp2_with (first | (clear BX; refine wpList_box_v rfl 27 _ rfl [.int .i64 n, .slice a ks.length cap] rfl ?_; intro b2 w1 hb2 hw1 hB1 hV1; have hz1 := hB1.size; have hBa : Below w.heap.size w (w1.alloc (.cells #[] 2)) := hB1.alloc hz1 _; have hVa : VBlk (w1.alloc (.cells #[] 2)) b2 27 [.int .i64 n, .slice a ks.length cap] := hV1.of (heap_alloc_old _ _ hw1); obtain ⟨c0, c1⟩ := sp_cells hVa) | (go_at_call 13; refine (specSplitOk_any n ks _ hi _ (by simp; omega) (R.out.below hBa hh)).mono ?_; rintro er w3 ⟨rfl, hB3⟩; rw [HK.out]; have hz3 : w1.heap.size + 1 ≤ w3.heap.size := (by have := hB3.size; simpa using this); have o3 : OwnI w3 w1.heap.size (w1.heap.size + 1) (.slice (some ⟨w1.heap.size, 0, none⟩) 0 0) [] := (ownI_empty w1).below hB3 (by simp); have hV3 := hVa.of (hB3.block b2 (by simp; omega)); clear c0 c1; obtain ⟨c0, c1⟩ := sp_cells hV3; have hB13 : Below w.heap.size w w3 := hBa.trans (hB3.mono (by simp; omega))) | (fail))
        go_ret
        exact ⟨_, rfl, o3.wide hz1 (by omega), hB13⟩
      · have hb1 : n ≤ b := by omega
        clear hb
        have BX : Hid True := trivial
        go_enter Try.func27, Try.ntmps27
        go_wp2_with (first | (clear BX; refine wpList_box_v rfl 27 _ rfl [.int .i64 n, .slice a ks.length cap] rfl ?_; intro b2 w1 hb2 hw1 hB1 hV1; have hz1 := hB1.size; have hBa : Below w.heap.size w (w1.alloc (.cells #[] 2)) := hB1.alloc hz1 _; have hVa : VBlk (w1.alloc (.cells #[] 2)) b2 27 [.int .i64 n, .slice a ks.length cap] := hV1.of (heap_alloc_old _ _ hw1); obtain ⟨c0, c1⟩ := sp_cells hVa) | (go_at_call 13; refine (specSplitOk_any n ks _ hi _ (by simp; omega) (R.out.below hBa hh)).mono ?_; rintro er w3 ⟨rfl, hB3⟩; rw [HK.out]; have hz3 : w1.heap.size + 1 ≤ w3.heap.size := (by have := hB3.size; simpa using this); have o3 : OwnI w3 w1.heap.size (w1.heap.size + 1) (.slice (some ⟨w1.heap.size, 0, none⟩) 0 0) [] := (ownI_empty w1).below hB3 (by simp); have hV3 := hVa.of (hB3.block b2 (by simp; omega)); clear c0 c1; obtain ⟨c0, c1⟩ := sp_cells hV3; have hB13 : Below w.heap.size w w3 := hBa.trans (hB3.mono (by simp; omega))) | (fail))
        go_ret
        exact ⟨_, rfl, o3.wide hz1 (by omega), hB13⟩
  · have e3 : beL n ks b = [] := if_neg (fun q => hok q.1)
    rw [e3]
    have HK : Hid (splitB n ks = false) := by unfold Hid; simpa using hok
    clear hok
    have BX : Hid True := trivial
    go_enter Try.func27, Try.ntmps27
    go_wp2_with (first | (clear BX; refine wpList_box_v rfl 27 _ rfl [.int .i64 n, .slice a ks.length cap] rfl ?_; intro b2 w1 hb2 hw1 hB1 hV1; have hz1 := hB1.size; have hBa : Below w.heap.size w (w1.alloc (.cells #[] 2)) := hB1.alloc hz1 _; have hVa : VBlk (w1.alloc (.cells #[] 2)) b2 27 [.int .i64 n, .slice a ks.length cap] := hV1.of (heap_alloc_old _ _ hw1); obtain ⟨c0, c1⟩ := sp_cells hVa) | (go_at_call 13; refine (specSplitOk_any n ks _ hi _ (by simp; omega) (R.out.below hBa hh)).mono ?_; rintro er w3 ⟨rfl, hB3⟩; rw [HK.out]; have hz3 : w1.heap.size + 1 ≤ w3.heap.size := (by have := hB3.size; simpa using this); have o3 : OwnI w3 w1.heap.size (w1.heap.size + 1) (.slice (some ⟨w1.heap.size, 0, none⟩) 0 0) [] := (ownI_empty w1).below hB3 (by simp); have hV3 := hVa.of (hB3.block b2 (by simp; omega)); clear c0 c1; obtain ⟨c0, c1⟩ := sp_cells hV3; have hB13 : Below w.heap.size w w3 := hBa.trans (hB3.mono (by simp; omega))) | (fail))
    go_ret
    exact ⟨_, rfl, o3.wide hz1 (by omega), hB13⟩

set_option maxRecDepth 100000 in
set_option maxHeartbeats 4000000 in
theorem specPassed_all (n : Int) (ks : List Int) (hb63 : ∀ k ∈ ks, k ≤ 9223372036854775807) (v : Value) (hi : Nat) (w : World) (hh : hi ≤ w.heap.size) (r : RdI w hi v ks) (h : Int) :
    Calls Try.prog 32 #[.agg #[.int .i64 n, v], .int .i64 h] w fun e w' => e = .returned (.int .i64 (paI n ks h)) ∧ Below w.heap.size w w' := by
  have hl := r.len
  obtain ⟨a, cap, rfl⟩ := r.form
  have R : Hid (RdI w hi (.slice a ks.length cap) ks) := r
  have K63 : Hid (∀ k ∈ ks, k ≤ 9223372036854775807) := hb63
  clear r hb63
  by_cases hok : splitB n ks = true
  · by_cases hf : 0 ≤ h ∧ h ≤ 32767
    · cases hA : isAt ks (mk (h % n)) with
      | true =>
        have e3 : paI n ks h = ((ks.filter (inWay (mk (h % n)) (itk h))).length : Int) := if_pos ⟨hok, hf, hA⟩
        rw [e3]
        clear e3
        obtain ⟨hf0, hf1⟩ := hf
        have HK : Hid (splitB n ks = true) := hok
        have OK := splitB_iff.1 hok
        have hk1 := OK.pos
        have hk2 := OK.len
        have hn := OK.bd
        have OKH : Hid (SOk n ks) := OK
        clear hok OK
        have hm0 := mod_bd h hn.1
        have ek : keyB (h % n) 0 = mk (h % n) := by rw [keyB_yes _ 0 hm0.1 (by omega)]; unfold mk; omega
        have eik : keyB h 1 = itk h := by rw [keyB_yes h 1 hf0 hf1]; rfl
        have hmb := mk_bd (h % n)
        have hib := itk_bd h
        obtain ⟨fr, hfr⟩ := hid_ex (mk (h % n))
        rw [hfr.out] at hmb ek hA
        obtain ⟨it, hit⟩ := hid_ex (itk h)
        rw [hit.out] at hib eik
        obtain ⟨P, hP⟩ := hid_ex (pos fr ks)
        rw [hfr.out, hit.out]
        have BX : Hid True := trivial
        go_enter Try.func32, Try.ntmps32
        go_wp2_with (first | (clear BX; refine wpList_box_v rfl 27 _ rfl [.int .i64 n, .slice a ks.length cap] rfl ?_; intro b2 w1 hb2 hw1 hB1 hV1; have hz1 := hB1.size; obtain ⟨c0, c1⟩ := sp_cells hV1) | (go_at_call 13; refine (specSplitOk_any n ks _ hi _ (by omega) (R.out.below hB1 hh)).mono ?_; rintro er w3 ⟨rfl, hB3⟩; rw [HK.out]; have hz3 := hB3.size; have hV3 := hV1.of (hB3.block b2 hw1); clear c0 c1; obtain ⟨c0, c1⟩ := sp_cells hV3; have hB13 : Below w.heap.size w w3 := hB1.trans (hB3.mono hz1)) | (go_at_call 58; refine (fifteen_yes _ hf0 hf1 _).mono ?_; rintro er wq ⟨rfl, hq⟩; subst wq) | (go_at_call 42; refine (specMarkKey_any _ _).mono ?_; rintro er wq ⟨rfl, hq⟩; subst wq; rw [ek]) | (go_at_call 59; refine (l7Find_any n ks fr _ hi _ (by omega) (R.out.below hB13 hh)).mono ?_; rintro er w4 ⟨rfl, hB4⟩; rw [hP.out, hA]; have hz4 := hB4.size; have hV4 := hV3.of (hB4.block b2 (by omega)); clear c0 c1; obtain ⟨c0, c1⟩ := sp_cells hV4; have hB14 : Below w.heap.size w w4 := hB13.trans (hB4.mono (by omega))) | (fail))
        have hR4 := R.out.below hB14 hh
        go_loop [8, 9] (fun q p => ∃ i : Nat, p = .int .i64 i ∧ i ≤ ks.length ∧ q = .int .i64 ((way fr it ks i).length : Nat)) (fun _ p => ks.length + 1 - (intOf p).toNat)
        case atStart => exact ⟨0, rfl, Nat.zero_le _, rfl⟩
        case round =>
          obtain ⟨i, rfl, hi1, rfl⟩ := hrel
          have hwl := way_len fr it ks i
          by_cases hlt : i < ks.length
          · have hlt' : (i : Int) < (ks.length : Int) := by omega
            obtain ⟨bb, off, rfl, hb', d1⟩ := hR4.cell i hlt
            have hkb := OKH.out.key (List.getElem_mem hlt)
            obtain ⟨k, hkk⟩ := hid_ex (ks[i])
            rw [hkk.out] at d1 hkb
            obtain ⟨hr0, hr1⟩ := hkb
            have hdef : inWay fr it k = (k % 2 == 1 && (decide (fr < k) && decide (k < it))) := rfl
            rcases Int.emod_two_eq k with hm | hm
            · have hd : inWay fr it k = false := by rw [hdef, hm]; rfl
              have hm' : (k % 2 == 1) = false := by simp [hm]
              clear hdef
              have eC : Hid (way fr it ks (i + 1) = way fr it ks i) := way_no hlt (by rw [hkk.out]; exact hd)
              go_wp2_with (first | (go_at_call 60; refine (specItemKey_any _ _).mono ?_; rintro er wq ⟨rfl, hq⟩; subst wq; rw [eik]) | (fail))
              go_round
              case rel => exact ⟨i + 1, by go_num, by omega, by rw [eC.out]⟩
              case measure => simp [intOf]; omega
            · have hm' : (k % 2 == 1) = true := by simp [hm]
              by_cases h1 : fr < k
              · by_cases h2 : k < it
                · have hd : inWay fr it k = true := by rw [hdef, hm', decide_eq_true h1, decide_eq_true h2]; rfl
                  clear hdef
                  have eC : Hid (way fr it ks (i + 1) = way fr it ks i ++ [ks[i]]) := way_yes hlt (by rw [hkk.out]; exact hd)
                  go_wp2_with (first | (go_at_call 60; refine (specItemKey_any _ _).mono ?_; rintro er wq ⟨rfl, hq⟩; subst wq; rw [eik]) | (fail))
                  go_round
                  case rel => exact ⟨i + 1, by go_num, by omega, by rw [eC.out]; simp only [List.length_append, List.length_cons, List.length_nil]; go_num⟩
                  case measure => simp [intOf]; omega
                · have hd : inWay fr it k = false := by rw [hdef, decide_eq_false h2]; simp
                  clear hdef
                  have eC : Hid (way fr it ks (i + 1) = way fr it ks i) := way_no hlt (by rw [hkk.out]; exact hd)
                  go_wp2_with (first | (go_at_call 60; refine (specItemKey_any _ _).mono ?_; rintro er wq ⟨rfl, hq⟩; subst wq; rw [eik]) | (fail))
                  go_round
                  case rel => exact ⟨i + 1, by go_num, by omega, by rw [eC.out]⟩
                  case measure => simp [intOf]; omega
              · have hd : inWay fr it k = false := by rw [hdef, decide_eq_false h1]; simp
                clear hdef
                have eC : Hid (way fr it ks (i + 1) = way fr it ks i) := way_no hlt (by rw [hkk.out]; exact hd)
                go_wp2_with (first | (go_at_call 60; refine (specItemKey_any _ _).mono ?_; rintro er wq ⟨rfl, hq⟩; subst wq; rw [eik]) | (fail))
                go_round
                case rel => exact ⟨i + 1, by go_num, by omega, by rw [eC.out]⟩
                case measure => simp [intOf]; omega
          · have hlt' : ¬ (i : Int) < (ks.length : Int) := by omega
            have ei : i = ks.length := by omega
            have ew : Hid (way fr it ks i = ks.filter (inWay fr it)) := by unfold Hid way; rw [ei, List.take_length]
            rw [ew.out]
            go_wp2
            go_ret
            exact ⟨rfl, hB14⟩
      | false =>
        have e3 : paI n ks h = -1 := if_neg (fun q => by rw [hA] at q; exact Bool.false_ne_true q.2.2)
        rw [e3]
        clear e3
        obtain ⟨hf0, hf1⟩ := hf
        have HK : Hid (splitB n ks = true) := hok
        have OK := splitB_iff.1 hok
        have hk1 := OK.pos
        have hk2 := OK.len
        have hn := OK.bd
        have OKH : Hid (SOk n ks) := OK
        clear hok OK
        have hm0 := mod_bd h hn.1
        have ek : keyB (h % n) 0 = mk (h % n) := by rw [keyB_yes _ 0 hm0.1 (by omega)]; unfold mk; omega
        have eik : keyB h 1 = itk h := by rw [keyB_yes h 1 hf0 hf1]; rfl
        have hmb := mk_bd (h % n)
        have hib := itk_bd h
        obtain ⟨fr, hfr⟩ := hid_ex (mk (h % n))
        rw [hfr.out] at hmb ek hA
        obtain ⟨it, hit⟩ := hid_ex (itk h)
        rw [hit.out] at hib eik
        obtain ⟨P, hP⟩ := hid_ex (pos fr ks)
        have BX : Hid True := trivial
        go_enter Try.func32, Try.ntmps32
        go_wp2_with (first | (clear BX; refine wpList_box_v rfl 27 _ rfl [.int .i64 n, .slice a ks.length cap] rfl ?_; intro b2 w1 hb2 hw1 hB1 hV1; have hz1 := hB1.size; obtain ⟨c0, c1⟩ := sp_cells hV1) | (go_at_call 13; refine (specSplitOk_any n ks _ hi _ (by omega) (R.out.below hB1 hh)).mono ?_; rintro er w3 ⟨rfl, hB3⟩; rw [HK.out]; have hz3 := hB3.size; have hV3 := hV1.of (hB3.block b2 hw1); clear c0 c1; obtain ⟨c0, c1⟩ := sp_cells hV3; have hB13 : Below w.heap.size w w3 := hB1.trans (hB3.mono hz1)) | (go_at_call 58; refine (fifteen_yes _ hf0 hf1 _).mono ?_; rintro er wq ⟨rfl, hq⟩; subst wq) | (go_at_call 42; refine (specMarkKey_any _ _).mono ?_; rintro er wq ⟨rfl, hq⟩; subst wq; rw [ek]) | (go_at_call 59; refine (l7Find_any n ks fr _ hi _ (by omega) (R.out.below hB13 hh)).mono ?_; rintro er w4 ⟨rfl, hB4⟩; rw [hP.out, hA]; have hz4 := hB4.size; have hV4 := hV3.of (hB4.block b2 (by omega)); clear c0 c1; obtain ⟨c0, c1⟩ := sp_cells hV4; have hB14 : Below w.heap.size w w4 := hB13.trans (hB4.mono (by omega))) | (fail))
        go_ret
        exact ⟨rfl, hB14⟩
    · have e3 : paI n ks h = -1 := if_neg (fun q => hf q.2.1)
      rw [e3]
      have hfif : h < 0 ∨ 32767 < h := by omega
      have HK : Hid (splitB n ks = true) := hok
      have OK := splitB_iff.1 hok
      have hk1 := OK.pos
      have hk2 := OK.len
      have hn := OK.bd
      have OKH : Hid (SOk n ks) := OK
      clear hok OK
      have BX : Hid True := trivial
      go_enter Try.func32, Try.ntmps32
      go_wp2_with (first | (clear BX; refine wpList_box_v rfl 27 _ rfl [.int .i64 n, .slice a ks.length cap] rfl ?_; intro b2 w1 hb2 hw1 hB1 hV1; have hz1 := hB1.size; obtain ⟨c0, c1⟩ := sp_cells hV1) | (go_at_call 13; refine (specSplitOk_any n ks _ hi _ (by omega) (R.out.below hB1 hh)).mono ?_; rintro er w3 ⟨rfl, hB3⟩; rw [HK.out]; have hz3 := hB3.size; have hV3 := hV1.of (hB3.block b2 hw1); clear c0 c1; obtain ⟨c0, c1⟩ := sp_cells hV3; have hB13 : Below w.heap.size w w3 := hB1.trans (hB3.mono hz1)) | (go_at_call 58; refine (fifteen_no _ hfif _).mono ?_; rintro er wq ⟨rfl, hq⟩; subst wq) | (fail))
      go_ret
      exact ⟨rfl, hB13⟩
  · have e3 : paI n ks h = -1 := if_neg (fun q => hok q.1)
    rw [e3]
    have HK : Hid (splitB n ks = false) := by unfold Hid; simpa using hok
    clear hok
    have BX : Hid True := trivial
    go_enter Try.func32, Try.ntmps32
    go_wp2_with (first | (clear BX; refine wpList_box_v rfl 27 _ rfl [.int .i64 n, .slice a ks.length cap] rfl ?_; intro b2 w1 hb2 hw1 hB1 hV1; have hz1 := hB1.size; obtain ⟨c0, c1⟩ := sp_cells hV1) | (go_at_call 13; refine (specSplitOk_any n ks _ hi _ (by omega) (R.out.below hB1 hh)).mono ?_; rintro er w3 ⟨rfl, hB3⟩; rw [HK.out]; have hz3 := hB3.size; have hV3 := hV1.of (hB3.block b2 hw1); clear c0 c1; obtain ⟨c0, c1⟩ := sp_cells hV3; have hB13 : Below w.heap.size w w3 := hB1.trans (hB3.mono hz1)) | (fail))
    go_ret
    exact ⟨rfl, hB13⟩
end Go.Proofs.Ytbialeffdpmcjaa.sx
