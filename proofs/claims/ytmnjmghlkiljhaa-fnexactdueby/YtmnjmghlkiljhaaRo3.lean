/- Contracts: the place of a text in a row, right names, right rings: the model's. -/
import Derived.Test.YtmnjmghlkiljhaaRo2
namespace Go.Proofs.Ytmnjmghlkiljhaa.rg
open Go.ChangeShapes Go.WideShapes Go.ChangeAt Go.RowKit
open Go.Proofs.Ytmnjmghlkiljhaa.ce Go.Proofs.Ytmnjmghlkiljhaa.ro
set_option linter.unusedVariables false

theorem l1At_any (N : List ByteArray) (s : ByteArray) (v : Value) (w : World) (r : Rd encS w v N) :
    Calls Try.prog 137 #[v, .string s] w fun e w' => e = .returned (.int .i64 (posS s N)) ∧ w' = w := by
  have hl := r.len
  obtain ⟨a, cap, rfl⟩ := r.form
  have R : Hid (Rd encS w (.slice a N.length cap) N) := r
  clear r
  obtain ⟨y, hy⟩ := hid_ex (posS s N)
  rw [hy.out]
  go_enter Try.func137, Try.ntmps137
  go_wp2
  go_loop [5] (fun p => ∃ i : Nat, i ≤ N.length ∧ p = .int .i64 i ∧ Hid (s ∉ N.take i)) (fun p => N.length - (intOf p).toNat)
  case atStart => exact ⟨0, by omega, rfl, (by unfold Hid; simp)⟩
  case round =>
    obtain ⟨i, hi1, rfl, hno⟩ := hrel
    by_cases hlt : i < N.length
    · obtain ⟨b, off, rfl, hb, d0⟩ := rdS_cell R.out i hlt
      have hlt' : (i : Int) < (N.length : Int) := by omega
      obtain ⟨z, hz⟩ := hid_ex (N[i])
      rw [hz.out] at d0
      by_cases he : z.toList = s.toList
      · have ey : y = i := by rw [← hy.out]; exact posS_at hlt (hz.out.trans (str_eq he)) hno.out
        subst ey
        have hbe : (z.toList == s.toList) = true := by simpa using he
        clear he
        go_wp2
        go_ret
        exact ⟨rfl, rfl⟩
      · have hno2 : Hid (s ∉ N.take (i + 1)) := by
          unfold Hid
          rw [List.take_succ_eq_append_getElem hlt, List.mem_append, hz.out, List.mem_singleton]
          rintro (h | h)
          · exact hno.out h
          · exact he (by rw [h])
        have hbe : (z.toList == s.toList) = false := by simpa using he
        clear he
        go_wp2
        go_round
        case rel => exact ⟨i + 1, by omega, by go_num, hno2⟩
        case measure => simp [intOf]; omega
    · have hlt' : ¬ (i : Int) < (N.length : Int) := by omega
      have ey : y = -1 := by
        have h := hno.out
        rw [List.take_of_length_le (by omega)] at h
        rw [← hy.out]; exact posS_no h
      subst ey
      go_wp2
      go_ret
      exact ⟨rfl, rfl⟩

theorem l8Names_any (N : List ByteArray) (v : Value) (w : World) (r : Rd encS w v N) (hs : ∀ s ∈ N, s.size ≤ 9223372036854775807) :
    Calls Try.prog 114 #[v] w fun e w' => e = .returned (.bool (namesB N)) ∧ w' = w := by
  have hl := r.len
  obtain ⟨a, cap, rfl⟩ := r.form
  have R : Hid (Rd encS w (.slice a N.length cap) N) := r
  have HS : Hid (∀ s ∈ N, s.size ≤ 9223372036854775807) := hs
  clear r hs
  obtain ⟨y, hy⟩ := hid_ex (namesB N)
  rw [hy.out]
  go_enter Try.func114, Try.ntmps114
  go_wp2
  go_loop [3] (fun p => ∃ i : Nat, i ≤ N.length ∧ p = .int .i64 i ∧ Hid (Pre N i)) (fun p => N.length - (intOf p).toNat)
  case atStart => exact ⟨0, by omega, rfl, pre_zero N⟩
  case round =>
    obtain ⟨i, hi1, rfl, hP⟩ := hrel
    by_cases hlt : i < N.length
    · obtain ⟨b, off, rfl, hb, d0⟩ := rdS_cell R.out i hlt
      have hlt' : (i : Int) < (N.length : Int) := by omega
      have hsz := HS.out N[i] (List.getElem_mem hlt)
      have hself := @posS_self N i hlt
      have hp1 := @pre_not1 N i hlt
      have hp2 := @pre_not2 N i hlt
      have hp3 := pre_succ hP.out hlt
      obtain ⟨z, hz⟩ := hid_ex (N[i])
      rw [hz.out] at d0 hsz hself hp1 hp2 hp3
      cases hn : nameB z with
      | false =>
        have ey : y = false := by rw [← hy.out]; exact hp1 hn
        subst ey
        clear hself hp1 hp2 hp3
        go_wp2_with (first | (go_at_call 25; refine (specNameOk_any _ hsz _).mono ?_; rintro e wq ⟨rfl, hq⟩; subst wq; rw [hn]) | (fail))
        go_ret
        exact ⟨rfl, rfl⟩
      | true =>
        obtain ⟨p, hp⟩ := hid_ex (posS z N)
        rw [hp.out] at hself
        by_cases he : p = i
        · have hP2 : Hid (Pre N (i + 1)) := hp3 hn (hself.1 he)
          have hne : ((p : Int) != (i : Int)) = false := by simpa using he
          clear hself hp1 hp2 hp3 he
          go_wp2_with (first | (go_at_call 25; refine (specNameOk_any _ hsz _).mono ?_; rintro e wq ⟨rfl, hq⟩; subst wq; rw [hn]) | (go_at_call 137; refine (l1At_any N _ _ _ R.out).mono ?_; rintro e wq ⟨rfl, hq⟩; subst wq; rw [hp.out]) | (fail))
          go_round
          case rel => exact ⟨i + 1, by omega, by go_num, hP2⟩
          case measure => simp [intOf]; omega
        · have ey : y = false := by
            rw [← hy.out]
            exact hp2 (Classical.byContradiction fun h => he (hself.2 h))
          subst ey
          have hne : ((p : Int) != (i : Int)) = true := by simpa using he
          clear hself hp1 hp2 hp3 he
          go_wp2_with (first | (go_at_call 25; refine (specNameOk_any _ hsz _).mono ?_; rintro e wq ⟨rfl, hq⟩; subst wq; rw [hn]) | (go_at_call 137; refine (l1At_any N _ _ _ R.out).mono ?_; rintro e wq ⟨rfl, hq⟩; subst wq; rw [hp.out]) | (fail))
          go_ret
          exact ⟨rfl, rfl⟩
    · have hlt' : ¬ (i : Int) < (N.length : Int) := by omega
      have hP2 := hP.out
      rw [show i = N.length by omega] at hP2
      have ey := (pre_all hP2).symm.trans hy.out
      clear hP2
      by_cases h20 : (N.length : Int) ≤ 20
      · rw [decide_eq_true h20] at ey
        subst ey
        go_wp2
        go_ret
        exact ⟨rfl, rfl⟩
      · rw [decide_eq_false h20] at ey
        subst ey
        go_wp2
        go_ret
        exact ⟨rfl, rfl⟩

/-- a ring is read -/
structure RdR (w : World) (vN vU : Value) (r : Rg) : Prop where
  n : Rd encS w vN r.N
  u : Rd encB w vU r.U
  s : ∀ s ∈ r.N, s.size ≤ 9223372036854775807
theorem RdR.grow {w w' : World} {vN vU : Value} {r : Rg} (h : RdR w vN vU r) (hb : Below w.heap.size w w') : RdR w' vN vU r := ⟨h.n.grow hb, h.u.grow hb, h.s⟩
/-- a ring is owned -/
structure OwnR (w : World) (lo hi : Nat) (vN vU : Value) (r : Rg) : Prop where
  n : Own encS w lo hi vN r.N
  u : Own encB w lo hi vU r.U
theorem OwnR.grow {w w' : World} {lo hi : Nat} {vN vU : Value} {r : Rg} (h : OwnR w lo hi vN vU r) (hb : Below w.heap.size w w') : OwnR w' lo hi vN vU r := ⟨h.n.grow hb, h.u.grow hb⟩
theorem OwnR.within {w w' : World} {lo hi l2 h2 : Nat} {vN vU : Value} {r : Rg} (h : OwnR w lo hi vN vU r) (hw : Within l2 h2 w w') (hd : hi ≤ l2 ∨ h2 ≤ lo) : OwnR w' lo hi vN vU r := ⟨h.n.within hw hd, h.u.within hw hd⟩
theorem OwnR.wide {w : World} {lo hi lo' hi' : Nat} {vN vU : Value} {r : Rg} (h : OwnR w lo hi vN vU r) (h1 : lo' ≤ lo) (h2 : hi ≤ hi') : OwnR w lo' hi' vN vU r := ⟨h.n.wide h1 h2, h.u.wide h1 h2⟩
theorem OwnR.top {w : World} {lo hi : Nat} {vN vU : Value} {r : Rg} (h : OwnR w lo hi vN vU r) : OwnR w lo w.heap.size vN vU r := ⟨h.n.top, h.u.top⟩
theorem OwnR.rd {w : World} {lo hi : Nat} {vN vU : Value} {r : Rg} (h : OwnR w lo hi vN vU r) (hs : ∀ s ∈ r.N, s.size ≤ 9223372036854775807) : RdR w vN vU r := ⟨h.n.rd, h.u.rd, hs⟩
theorem OwnR.only {w w' : World} {lo hi b : Nat} {vN vU : Value} {r : Rg} {t : TypeId} {vs : List Value} (h : OwnR w lo hi vN vU r) (ho : Only b w w') (hb : VBlk w b t vs) (h1 : 9 ≠ t) (h2 : 4 ≠ t) : OwnR w' lo hi vN vU r := ⟨h.n.only ho hb h1, h.u.only ho hb h2⟩
theorem ownR_zero (w : World) (lo hi : Nat) : OwnR w lo hi (.slice none 0 0) (.slice none 0 0) Rg.zero := ⟨own_zero _ _ _ _ _, own_zero _ _ _ _ _⟩
theorem sizeRg : (Try.prog.info? 27).map (·.size) = some 3 := by kernel_rfl
theorem zeroRg (w : World) : (zeroValue 27).run Try.prog w = .ok (.agg [Value.slice none 0 0, .slice none 0 0, .int .i64 0].toArray) w := Try.zeroValue27 w
theorem cells3 {w : World} {b : Nat} {t : TypeId} {u v x : Value} (h : VBlk w b t [u, v, x]) : w.cell? ⟨b, 0, none⟩ = some u ∧ w.cell? ⟨b, 1, none⟩ = some v ∧ w.cell? ⟨b, 2, none⟩ = some x := ⟨h.cell 0 (by simp), h.cell 1 (by simp), h.cell 2 (by simp)⟩
theorem cells2 {w : World} {b : Nat} {t : TypeId} {u v : Value} (h : VBlk w b t [u, v]) : w.cell? ⟨b, 0, none⟩ = some u ∧ w.cell? ⟨b, 1, none⟩ = some v := ⟨h.cell 0 (by simp), h.cell 1 (by simp)⟩

theorem specRingOk_any (r : Rg) (vN vU : Value) (w : World) (h : RdR w vN vU r) :
    Calls Try.prog 65 #[.agg #[vN, vU, .int .i64 r.A]] w fun e w' => e = .returned (.bool (ringB r)) ∧ Below w.heap.size w w' := by
  obtain ⟨N, U, A⟩ := r
  have hlN := h.n.len
  have hlU := h.u.len
  obtain ⟨a, cap, rfl⟩ := h.n.form
  obtain ⟨c, dc, rfl⟩ := h.u.form
  have R : Hid (RdR w (.slice a N.length cap) (.slice c U.length dc) ⟨N, U, A⟩) := h
  clear h
  dsimp only at hlN hlU ⊢
  obtain ⟨y, hy⟩ := hid_ex (ringB ⟨N, U, A⟩)
  rw [hy.out]
  replace hy : Hid ((namesB N && (U.length == N.length) && atB N.length A) = y) := hy
  have m1 : Hid True := trivial
  cases hn : namesB N with
  | false =>
    have ey : y = false := by rw [← hy.out, hn]; simp
    subst ey
    go_enter Try.func65, Try.ntmps65
    go_wp2_with (first | (clear m1; refine wpList_box_v rfl 27 _ rfl [.slice a N.length cap, .slice c U.length dc, .int .i64 A] rfl ?_; intro b1 w1 hb1 hw1 hB1 hV1; obtain ⟨c0, c1, c2⟩ := cells3 hV1) | (go_at_call 114; refine (l8Names_any N _ _ (R.out.grow hB1).n R.out.s).mono ?_; rintro e wq ⟨rfl, hq⟩; subst wq; rw [hn]) | (fail))
    go_ret
    exact ⟨rfl, hB1⟩
  | true =>
    by_cases hu : (U.length : Int) = (N.length : Int)
    · have hu1 : ((U.length : Int) == (N.length : Int)) = true := by simpa using hu
      have hu2 : (U.length == N.length) = true := by simp; omega
      by_cases h0 : (N.length : Int) = 0
      · have h01 : ((N.length : Int) == 0) = true := by simpa using h0
        by_cases hA : A = 0
        · have ey : y = true := by
            rw [← hy.out, hn, hu2]
            unfold atB
            rw [decide_eq_true (show 0 ≤ A by omega), decide_eq_true (by omega)]
            rfl
          subst ey
          have hA1 : (A == 0) = true := by simpa using hA
          clear hu hu2 h0 hA
          go_enter Try.func65, Try.ntmps65
          go_wp2_with (first | (clear m1; refine wpList_box_v rfl 27 _ rfl [.slice a N.length cap, .slice c U.length dc, .int .i64 A] rfl ?_; intro b1 w1 hb1 hw1 hB1 hV1; obtain ⟨c0, c1, c2⟩ := cells3 hV1) | (go_at_call 114; refine (l8Names_any N _ _ (R.out.grow hB1).n R.out.s).mono ?_; rintro e wq ⟨rfl, hq⟩; subst wq; rw [hn]) | (fail))
          go_ret
          exact ⟨rfl, hB1⟩
        · have hA1 : (A == 0) = false := by simpa using hA
          have hin : Hid ((decide (0 ≤ A) && decide (A ≤ (N.length : Int) - 1)) = y) := by
            unfold Hid
            rw [← hy.out, hn, hu2]
            unfold atB
            by_cases q : 0 ≤ A
            · rw [decide_eq_true q, decide_eq_false (show ¬ A ≤ (N.length : Int) - 1 by omega), decide_eq_false (by omega)]
              rfl
            · rw [decide_eq_false q]
              rfl
          clear hu hu2 h0 hA
          go_enter Try.func65, Try.ntmps65
          go_wp2_with (first | (clear m1; refine wpList_box_v rfl 27 _ rfl [.slice a N.length cap, .slice c U.length dc, .int .i64 A] rfl ?_; intro b1 w1 hb1 hw1 hB1 hV1; obtain ⟨c0, c1, c2⟩ := cells3 hV1) | (go_at_call 114; refine (l8Names_any N _ _ (R.out.grow hB1).n R.out.s).mono ?_; rintro e wq ⟨rfl, hq⟩; subst wq; rw [hn]) | (go_at_call 69; refine (in_is _ _ _ y hin.out _).mono ?_; rintro e wq ⟨rfl, hq⟩; subst wq) | (fail))
          go_ret
          exact ⟨rfl, hB1⟩
      · have h01 : ((N.length : Int) == 0) = false := by simpa using h0
        have hin : Hid ((decide (0 ≤ A) && decide (A ≤ (N.length : Int) - 1)) = y) := by
          unfold Hid
          rw [← hy.out, hn, hu2]
          unfold atB
          rw [show decide (A ≤ (N.length : Int) - 1) = decide (A < max (N.length : Int) 1) from decide_eq_decide.2 (by omega)]
          simp
        clear hu hu2 h0
        go_enter Try.func65, Try.ntmps65
        go_wp2_with (first | (clear m1; refine wpList_box_v rfl 27 _ rfl [.slice a N.length cap, .slice c U.length dc, .int .i64 A] rfl ?_; intro b1 w1 hb1 hw1 hB1 hV1; obtain ⟨c0, c1, c2⟩ := cells3 hV1) | (go_at_call 114; refine (l8Names_any N _ _ (R.out.grow hB1).n R.out.s).mono ?_; rintro e wq ⟨rfl, hq⟩; subst wq; rw [hn]) | (go_at_call 69; refine (in_is _ _ _ y hin.out _).mono ?_; rintro e wq ⟨rfl, hq⟩; subst wq) | (fail))
        go_ret
        exact ⟨rfl, hB1⟩
    · have hu1 : ((U.length : Int) == (N.length : Int)) = false := by simpa using hu
      have ey : y = false := by
        rw [← hy.out, show (U.length == N.length) = false by simp; omega]
        simp
      subst ey
      clear hu
      go_enter Try.func65, Try.ntmps65
      go_wp2_with (first | (clear m1; refine wpList_box_v rfl 27 _ rfl [.slice a N.length cap, .slice c U.length dc, .int .i64 A] rfl ?_; intro b1 w1 hb1 hw1 hB1 hV1; obtain ⟨c0, c1, c2⟩ := cells3 hV1) | (go_at_call 114; refine (l8Names_any N _ _ (R.out.grow hB1).n R.out.s).mono ?_; rintro e wq ⟨rfl, hq⟩; subst wq; rw [hn]) | (fail))
      go_ret
      exact ⟨rfl, hB1⟩
end Go.Proofs.Ytmnjmghlkiljhaa.rg
