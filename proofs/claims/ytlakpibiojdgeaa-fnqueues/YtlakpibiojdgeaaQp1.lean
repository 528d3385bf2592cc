/- Contracts: the program's queues: right ones, the others, who is touched, all but one. -/
import Derived.Test.YtlakpibiojdgeaaQo1
namespace Go.Proofs.Ytlakpibiojdgeaa.rg
open Go.ChangeShapes Go.WideShapes Go.ChangeAt Go.RowKit
open Go.Proofs.Ytlakpibiojdgeaa.ce Go.Proofs.Ytlakpibiojdgeaa.ro
set_option linter.unusedVariables false

theorem index_any (N : List ByteArray) (s : ByteArray) (a : Option Addr) (n cap : Nat) (hn : Hid (n = N.length)) (hn1 : n ≤ N.length) (hn2 : N.length ≤ n) (w : World) (r : Rd encS w (.slice a n cap) N) :
    Calls Try.prog 48 #[.slice a n cap, .string s] w fun e w' => e = .returned (.int .i64 (posS s N)) ∧ w' = w := by
  have hl := r.len
  have R : Hid (Rd encS w (.slice a n cap) N) := r
  clear r
  obtain ⟨y, hy⟩ := hid_ex (posS s N)
  rw [hy.out]
  go_enter Try.func48, Try.ntmps48
  go_wp2
  go_loop [8] (fun p => ∃ i : Nat, i ≤ N.length ∧ p = .int .i64 i ∧ Hid (s ∉ N.take i)) (fun p => N.length - (intOf p).toNat)
  case atStart => exact ⟨0, by omega, rfl, (by unfold Hid; simp)⟩
  case round =>
    obtain ⟨i, hi1, rfl, hno⟩ := hrel
    by_cases hlt : i < N.length
    · obtain ⟨b, off, rfl, hb, d0⟩ := rdS_cell R.out i hlt
      have hlt' : (i : Int) < (n : Int) := by omega
      obtain ⟨z, hz⟩ := hid_ex (N[i])
      rw [hz.out] at d0
      by_cases he : s.toList = z.toList
      · have ey : y = i := by rw [← hy.out]; exact posS_at hlt (hz.out.trans (str_eq he.symm)) hno.out
        subst ey
        have hbe : (s.toList == z.toList) = true := by simpa using he
        clear he
        go_wp2
        go_ret
        exact ⟨rfl, rfl⟩
      · have hno2 : Hid (s ∉ N.take (i + 1)) := by
          unfold Hid
          rw [List.take_succ_eq_append_getElem hlt, List.mem_append, hz.out, List.mem_singleton]
          rintro (h | h)
          · exact hno.out h
          · exact he (by rw [h])
        have hbe : (s.toList == z.toList) = false := by simpa using he
        clear he
        go_wp2
        go_round
        case rel => exact ⟨i + 1, by omega, by go_num, hno2⟩
        case measure => simp [intOf]; omega
    · have hlt' : ¬ (i : Int) < (n : Int) := by omega
      have ey : y = -1 := by
        have h := hno.out
        rw [List.take_of_length_le (by omega)] at h
        rw [← hy.out]; exact posS_no h
      subst ey
      go_wp2
      go_ret
      exact ⟨rfl, rfl⟩

theorem contains_any (N : List ByteArray) (s : ByteArray) (a : Option Addr) (n cap : Nat) (y : Bool) (hy : Hid (decide (0 ≤ posS s N) = y)) (w : World) (r : Rd encS w (.slice a n cap) N) :
    Calls Try.prog 30 #[.slice a n cap, .string s] w fun e w' => e = .returned (.bool y) ∧ w' = w := by
  have hn : Hid (n = N.length) := r.cap.1
  have R : Hid (Rd encS w (.slice a n cap) N) := r
  clear r
  obtain ⟨p, hp⟩ := hid_ex (posS s N)
  rw [hp.out] at hy
  go_enter Try.func30, Try.ntmps30
  go_wp2_with (first | (go_at_call 48; refine (index_any N s _ _ _ hn (Nat.le_of_eq hn.out) (Nat.le_of_eq hn.out.symm) _ R.out).mono ?_; rintro e wq ⟨rfl, hq⟩; subst wq; rw [hp.out]) | (fail))
  go_ret
  rw [← hy.out]
  exact ⟨rfl, rfl⟩

theorem implQueueOk_any (q : List ByteArray) (v : Value) (w : World) (r : Rd encS w v q) (hs : ∀ s ∈ q, s.size ≤ 9223372036854775807) :
    Calls Try.prog 12 #[v] w fun e w' => e = .returned (.bool (namesB q)) ∧ w' = w := by
  have hl := r.len
  obtain ⟨a, cap, rfl⟩ := r.form
  obtain ⟨-, hc1, hc2⟩ := r.cap
  have R : Hid (Rd encS w (.slice a q.length cap) q) := r
  have HS : Hid (∀ s ∈ q, s.size ≤ 9223372036854775807) := hs
  clear r hs
  obtain ⟨y, hy⟩ := hid_ex (namesB q)
  rw [hy.out]
  by_cases h20 : (q.length : Int) > 20
  · have ey : y = false := by rw [← hy.out]; exact names_long (by omega)
    subst ey
    go_enter Try.func12, Try.ntmps12
    go_wp2
    go_ret
    exact ⟨rfl, rfl⟩
  go_enter Try.func12, Try.ntmps12
  go_wp2
  go_loop [10] (fun p => ∃ i : Nat, i ≤ q.length ∧ p = .int .i64 i ∧ Hid (Pre q i)) (fun p => q.length - (intOf p).toNat)
  case atStart => exact ⟨0, by omega, rfl, pre_zero q⟩
  case round =>
    obtain ⟨i, hi1, rfl, hP⟩ := hrel
    by_cases hlt : i < q.length
    · obtain ⟨b, off, rfl, hb, d0⟩ := rdS_cell R.out i hlt
      have RT : Hid (Rd encS w (.slice (some ⟨b, off, none⟩) i cap) (q.take i)) := R.out.take i hi1
      have hlt' : (i : Int) < (q.length : Int) := by omega
      have i1 : (i : Int) ≤ (cap : Int) := by omega
      have hsz := HS.out q[i] (List.getElem_mem hlt)
      have hp1 := @pre_not1 q i hlt
      have hp2 := @pre_not2 q i hlt
      have hp3 := pre_succ hP.out hlt
      obtain ⟨z, hz⟩ := hid_ex (q[i])
      rw [hz.out] at d0 hsz hp1 hp2 hp3
      cases hn : nameB z with
      | false =>
        have ey : y = false := by rw [← hy.out]; exact hp1 hn
        subst ey
        clear hp1 hp2 hp3
        go_wp2_with (first | (go_at_call 29; refine (implNameOk_any _ hsz _).mono ?_; rintro e wq ⟨rfl, hq⟩; subst wq; rw [hn]) | (fail))
        go_ret
        exact ⟨rfl, rfl⟩
      | true =>
        obtain ⟨x, hx⟩ := hid_ex (decide (0 ≤ posS z (q.take i)))
        cases x with
        | false =>
          have hP2 : Hid (Pre q (i + 1)) := hp3 hn (fun h => of_decide_eq_false hx.out (posS_mem.1 h))
          clear hp1 hp2 hp3
          go_wp2_with (first | (go_at_call 29; refine (implNameOk_any _ hsz _).mono ?_; rintro e wq ⟨rfl, hq⟩; subst wq; rw [hn]) | (go_at_call 30; refine (contains_any (q.take i) z _ _ _ false hx _ RT.out).mono ?_; rintro e wq ⟨rfl, hq⟩; subst wq) | (fail))
          go_round
          case rel => exact ⟨i + 1, by omega, by go_num, hP2⟩
          case measure => simp [intOf]; omega
        | true =>
          have ey : y = false := by rw [← hy.out]; exact hp2 (posS_mem.2 (of_decide_eq_true hx.out))
          subst ey
          clear hp1 hp2 hp3
          go_wp2_with (first | (go_at_call 29; refine (implNameOk_any _ hsz _).mono ?_; rintro e wq ⟨rfl, hq⟩; subst wq; rw [hn]) | (go_at_call 30; refine (contains_any (q.take i) z _ _ _ true hx _ RT.out).mono ?_; rintro e wq ⟨rfl, hq⟩; subst wq) | (fail))
          go_ret
          exact ⟨rfl, rfl⟩
    · have hlt' : ¬ (i : Int) < (q.length : Int) := by omega
      have hP2 := hP.out
      rw [show i = q.length by omega] at hP2
      have ey : y = true := by rw [← hy.out, pre_all hP2]; exact decide_eq_true (by omega)
      clear hP2
      subst ey
      go_wp2
      go_ret
      exact ⟨rfl, rfl⟩

theorem others_any (q : List ByteArray) (s : ByteArray) (v : Value) (w : World) (r : Rd encS w v q) (hq : q.length ≤ 1000000) :
    Calls Try.prog 32 #[v, .string s] w fun e w' => ∃ v', e = .returned v' ∧ Own encS w' w.heap.size w'.heap.size v' (othersS q s) ∧ Below w.heap.size w w' := by
  obtain ⟨a, cap, rfl⟩ := r.form
  have R : Hid (Rd encS w (.slice a q.length cap) q) := r
  clear r
  go_enter Try.func32, Try.ntmps32
  go_wp2
  go_loopw [5, 10] (fun o p wr => ∃ (i : Nat) (A : Option Addr) (n k : Nat), i ≤ q.length ∧ p = .int .i64 i ∧ o = .slice A n k ∧ Hid (Own encS wr w.heap.size wr.heap.size (.slice A n k) (othersS (q.take i) s)) ∧ Below w.heap.size w wr) (fun _ p _ => q.length - (intOf p).toNat)
  case atStart => exact ⟨0, none, 0, 0, by omega, rfl, rfl, own_zero encS w _ _ none, Below.refl _ _⟩
  case round =>
    obtain ⟨i, A, n, k, hi1, rfl, rfl, O, hB⟩ := hrel
    by_cases hlt : i < q.length
    · obtain ⟨b, off, rfl, hb, d0⟩ := rdS_cell (R.out.grow hB) i hlt
      have hlt' : (i : Int) < (q.length : Int) := by omega
      have hz0 := hB.size
      have ey := @others_take_yes q s i hlt
      have en := @others_take_no q s i hlt
      have hol := others_len (q.take i) s
      rw [List.length_take] at hol
      obtain ⟨z, hz⟩ := hid_ex (q[i])
      rw [hz.out] at d0 ey en
      by_cases he : z.toList = s.toList
      · have O2 := O.out
        rw [← ey (str_eq he)] at O2
        have OO : Hid (Own encS wr w.heap.size wr.heap.size (.slice A n k) (othersS (q.take (i + 1)) s)) := O2
        have hbe : (z.toList == s.toList) = true := by simpa using he
        clear he ey en O O2
        go_wp2
        go_roundw
        case rel => exact ⟨i + 1, _, _, _, by omega, by go_num, rfl, OO, hB⟩
        case measure => simp [intOf]; omega
      · have en2 := en fun e => he (by rw [e])
        have hbe : (z.toList == s.toList) = false := by simpa using he
        obtain ⟨os, hos⟩ := hid_ex (othersS (q.take i) s)
        rw [hos.out] at O hol en2
        have EN : Hid (othersS (q.take (i + 1)) s = os ++ [z]) := en2
        clear he ey en en2
        go_wp2_with (first | (at_builtin; refine wpList_append_g infoS rfl _ _ 22 rfl Try.underlying22 w.heap.size _ _ os rfl (O.out.grow ((Below.refl _ _).alloc (Nat.le_refl _) _)) (by simp; omega) _ [z] rfl (rd_new (E := encS) wr z #[.string z] rfl) (by simp; omega) ?_; intro v1 w1 o1 hT1; rw [← EN.out] at o1; obtain ⟨A1, n1, k1, rfl⟩ := o1.slice; have hB1 : Below w.heap.size w w1 := (hB.alloc hB.size _).trans hT1.low) | (fail))
        go_roundw
        case rel => exact ⟨i + 1, A1, n1, k1, by omega, by go_num, rfl, o1, hB1⟩
        case measure => simp [intOf]; omega
    · have hlt' : ¬ (i : Int) < (q.length : Int) := by omega
      have O2 := O.out
      rw [List.take_of_length_le (by omega)] at O2
      go_wp2
      go_ret
      exact ⟨_, rfl, O2, hB⟩

theorem implTouched_any (q : List ByteArray) (s : ByteArray) (hs : s.size ≤ 9223372036854775807) (v : Value) (w : World) (r : Rd encS w v q) (hss : ∀ s ∈ q, s.size ≤ 9223372036854775807) :
    Calls Try.prog 15 #[v, .string s] w fun e w' => ∃ v', e = .returned (.tuple #[v', .bool (toB q s)]) ∧ Own encS w' w.heap.size w'.heap.size v' (toR q s) ∧ Below w.heap.size w w' := by
  obtain ⟨a, cap, rfl⟩ := r.form
  have R : Hid (Rd encS w (.slice a q.length cap) q) := r
  have HS : Hid (∀ s ∈ q, s.size ≤ 9223372036854775807) := hss
  clear r hss
  cases hk : namesB q with
  | false =>
    obtain ⟨e1, e2⟩ := to_no (s := s) hk
    rw [e1, e2]
    clear e1 e2
    go_enter Try.func15, Try.ntmps15
    go_wp2_with (first | (go_at_call 12; refine (implQueueOk_any q _ _ R.out HS.out).mono ?_; rintro e wq ⟨rfl, hq⟩; subst wq; rw [hk]) | (fail))
    go_ret2
    exact ⟨_, rfl, own_zero _ _ _ _ _, Below.refl _ _⟩
  | true =>
    have hle := (namesB_iff.1 hk).2.2
    have hol := others_len q s
    have e1 : toB q s = (nameB s && !((othersS q s).length == 20)) := by unfold toB; rw [hk]; rfl
    have e2 : toR q s = if (nameB s && !((othersS q s).length == 20)) = true then othersS q s ++ [s] else othersS q s := if_pos hk
    rw [e1, e2]
    obtain ⟨os, hos⟩ := hid_ex (othersS q s)
    rw [hos.out] at hol ⊢
    clear e1 e2
    cases hm : nameB s with
    | false =>
      go_enter Try.func15, Try.ntmps15
      go_wp2_with (first | (go_at_call 12; refine (implQueueOk_any q _ _ R.out HS.out).mono ?_; rintro e wq ⟨rfl, hq⟩; subst wq; rw [hk]) | (go_at_call 32; refine (others_any q s _ _ R.out (by omega)).mono ?_; rintro e w1 ⟨v1, rfl, o1, hB1⟩; rw [hos.out] at o1; obtain ⟨A1, n1, k1, rfl⟩ := o1.slice) | (go_at_call 29; refine (implNameOk_any _ hs _).mono ?_; rintro e wq ⟨rfl, hq⟩; subst wq; rw [hm]) | (fail))
      go_ret2
      exact ⟨_, rfl, o1, hB1⟩
    | true =>
      by_cases h20 : os.length = 20
      · have h21 : (os.length == 20) = true := by simpa using h20
        rw [h21]
        have H20 : Hid (os.length = 20) := h20
        clear h20 h21
        go_enter Try.func15, Try.ntmps15
        go_wp2_with (first | (go_at_call 12; refine (implQueueOk_any q _ _ R.out HS.out).mono ?_; rintro e wq ⟨rfl, hq⟩; subst wq; rw [hk]) | (go_at_call 32; refine (others_any q s _ _ R.out (by omega)).mono ?_; rintro e w1 ⟨v1, rfl, o1, hB1⟩; rw [hos.out] at o1; obtain ⟨A1, n1, k1, rfl⟩ := o1.slice; have h22 : ((n1 : Int) == 20) = true := (by rw [o1.rd.cap.1, H20.out]; rfl)) | (go_at_call 29; refine (implNameOk_any _ hs _).mono ?_; rintro e wq ⟨rfl, hq⟩; subst wq; rw [hm]) | (fail))
        go_ret2
        exact ⟨_, rfl, o1, hB1⟩
      · have h21 : (os.length == 20) = false := by simpa using h20
        rw [h21]
        have H20 : Hid (¬ os.length = 20) := h20
        clear h20 h21
        go_enter Try.func15, Try.ntmps15
        go_wp2_with (first | (go_at_call 12; refine (implQueueOk_any q _ _ R.out HS.out).mono ?_; rintro e wq ⟨rfl, hq⟩; subst wq; rw [hk]) | (go_at_call 32; refine (others_any q s _ _ R.out (by omega)).mono ?_; rintro e w1 ⟨v1, rfl, o1, hB1⟩; rw [hos.out] at o1; obtain ⟨A1, n1, k1, rfl⟩ := o1.slice; have hz1 := hB1.size; have h22 : ((n1 : Int) == 20) = false := (by rw [o1.rd.cap.1]; have := H20.out; simp; omega)) | (go_at_call 29; refine (implNameOk_any _ hs _).mono ?_; rintro e wq ⟨rfl, hq⟩; subst wq; rw [hm]) | (at_builtin; refine wpList_append_g infoS rfl _ _ 22 rfl Try.underlying22 w.heap.size _ _ os rfl (o1.grow ((Below.refl _ _).alloc (Nat.le_refl _) _)) (by simp; omega) _ [s] rfl (rd_new (E := encS) w1 s #[.string s] rfl) (by simp; omega) ?_; intro v2 w2 o2 hT2) | (fail))
        go_ret2
        exact ⟨_, rfl, o2, (hB1.alloc hB1.size _).trans hT2.low⟩

theorem implWithout_any (q : List ByteArray) (s : ByteArray) (v : Value) (w : World) (r : Rd encS w v q) (hss : ∀ s ∈ q, s.size ≤ 9223372036854775807) :
    Calls Try.prog 19 #[v, .string s] w fun e w' => ∃ v', e = .returned v' ∧ Own encS w' w.heap.size w'.heap.size v' (wiR q s) ∧ Below w.heap.size w w' := by
  obtain ⟨a, cap, rfl⟩ := r.form
  have R : Hid (Rd encS w (.slice a q.length cap) q) := r
  have HS : Hid (∀ s ∈ q, s.size ≤ 9223372036854775807) := hss
  clear r hss
  cases hk : namesB q with
  | false =>
    rw [wi_no (s := s) hk]
    go_enter Try.func19, Try.ntmps19
    go_wp2_with (first | (go_at_call 12; refine (implQueueOk_any q _ _ R.out HS.out).mono ?_; rintro e wq ⟨rfl, hq⟩; subst wq; rw [hk]) | (fail))
    go_ret
    exact ⟨_, rfl, own_zero _ _ _ _ _, Below.refl _ _⟩
  | true =>
    have hle := (namesB_iff.1 hk).2.2
    have e2 : wiR q s = othersS q s := if_pos hk
    rw [e2]
    obtain ⟨J, hJ⟩ := hid_ex (othersS q s)
    rw [hJ.out]
    clear e2
    go_enter Try.func19, Try.ntmps19
    go_wp2_with (first | (go_at_call 12; refine (implQueueOk_any q _ _ R.out HS.out).mono ?_; rintro e wq ⟨rfl, hq⟩; subst wq; rw [hk]) | (go_at_call 32; refine (others_any q s _ _ R.out (by omega)).mono ?_; rintro e w2 ⟨v2, rfl, o2, hB2⟩; rw [hJ.out] at o2) | (fail))
    go_ret
    exact ⟨_, rfl, o2, hB2⟩
end Go.Proofs.Ytlakpibiojdgeaa.rg
