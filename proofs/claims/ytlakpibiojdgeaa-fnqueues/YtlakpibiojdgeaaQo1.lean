/- Contracts: the model's queues: one text is cut out; who is touched, all but one, who is sampled. -/
import Derived.Test.YtlakpibiojdgeaaRo3
import Derived.Test.YtlakpibiojdgeaaQx0
import Derived.Deep.RegionHeld3
namespace Go.Proofs.Ytlakpibiojdgeaa.rg
open Go.ChangeShapes Go.WideShapes Go.ChangeAt Go.RowKit
open Go.Proofs.Ytlakpibiojdgeaa.ce Go.Proofs.Ytlakpibiojdgeaa.ro
set_option linter.unusedVariables false

theorem rdS_rest {w : World} {b off n cap : Nat} {xs : List ByteArray} (r : Rd encS w (.slice (some ⟨b, off, none⟩) n cap) xs) (m : Nat) (hm : m ≤ xs.length) :
    Rd encS w (.slice (if cap = m then some ⟨b, off, none⟩ else some ⟨b, off + m, none⟩) (n - m) (cap - m)) (xs.drop m) := by
  rcases r.rest m hm with ⟨h1, h2⟩ | ⟨h1, h2, h3, h4⟩
  · rw [if_neg (by omega)]
    simpa [encS] using h2.out
  · rw [if_pos h1.symm, h1, h2, h1, Nat.sub_self, ← h1]
    exact h4.out
theorem bl_alloc {w w' : World} {o : Obj} (h : Below w.heap.size w w') : Below w.heap.size w (w'.alloc o) := h.alloc h.size _
theorem bl_alloc_drew {w w' : World} {o : Obj} (h : Below w.heap.size w w'.drew) : Below w.heap.size w (w'.alloc o).drew := bl_alloc (w' := w'.drew) h
/-- one text is cut out -/
theorem l1Cut_any (N : List ByteArray) (v : Value) (i : Nat) (w : World) (r : Rd encS w v N) (hi : i < N.length) (hN : N.length ≤ 1000000) :
    Calls Try.prog 49 #[v, .int .i64 i] w fun e w' => ∃ v', e = .returned v' ∧ Own encS w' w.heap.size w'.heap.size v' (N.take i ++ N.drop (i + 1)) ∧ Below w.heap.size w w' := by
  obtain ⟨a, cap, rfl⟩ := r.form
  obtain ⟨b, off, rfl, hb, -⟩ := rdS_cell r i hi
  obtain ⟨-, hc1, hc2⟩ := r.cap
  obtain ⟨p, hp⟩ := hid_ex (i + 1)
  have RT := r.take i (by omega)
  have RR := rdS_rest r (i + 1) (by omega)
  clear r
  rw [hp.out] at RR ⊢
  have hpi : Hid (p = i + 1) := hp.out.symm
  have i0 : (0 : Int) ≤ (i : Int) := by omega
  have i1 : (i : Int) ≤ (cap : Int) := by omega
  have p1 : (p : Int) ≤ (N.length : Int) := by have := hpi.out; omega
  have p2 : (p : Int) ≤ (cap : Int) := by have := hpi.out; omega
  have p3 : p ≤ N.length := by omega
  have i3 : (N.length : Int) ≤ (cap : Int) := by omega
  have i4 : IntKind.i64.wrap ((i : Int) + 1) = (p : Int) := by rw [IntKind.wrap_i64]; have := hpi.out; omega
  have hlt : (N.take i).length ≤ 1000 + i := by rw [List.length_take]; omega
  have hld : (N.drop p).length ≤ N.length - p := by rw [List.length_drop]; omega
  have hip := hpi.out
  clear hp
  replace hip : i < p := by omega
  have RD : Hid (Rd encS w _ (N.drop p)) := RR
  clear RR
  go_enter Try.func49, Try.ntmps49
  go_wp2
  go_region_held3 (fun w' => Below w.heap.size w w') (first | with_reducible assumption | exact (Below.refl _ _).drew | with_reducible exact bl_alloc (by assumption) | with_reducible exact bl_alloc_drew (by assumption) | (fail)) (first | (refine step_append_g infoS rfl _ _ 22 rfl Try.underlying22 w.heap.size 0 _ [] rfl (own_zero _ _ _ _ _) (Below.size (by with_reducible assumption)) _ (N.take i) rfl (RT.grow (by with_reducible assumption)) (by simp; omega) ?_; intro v5 W5 o5 hT5; rw [List.nil_append] at o5; have hB5 : Below w.heap.size w W5 := Below.trans (by with_reducible assumption) hT5.low) | (refine step_append_g infoS rfl _ _ 22 rfl Try.underlying22 w.heap.size _ _ (N.take i) rfl o5 (Below.size hB5) _ (N.drop p) rfl (RD.out.grow hB5) (by omega) ?_; intro v6 W6 o6 hT6; have hB6 : Below w.heap.size w W6 := hB5.trans hT6.low) | (fail))
  go_wp2
  all_goals
    go_ret
    exact ⟨_, rfl, o6, hB6⟩
theorem ty_mono {lo lo' : Nat} {t : TypeId} {w w' : World} (h : Ty lo t w w') (hl : lo' ≤ lo) : Ty lo' t w w' := ⟨h.low.mono hl, h.keep⟩
theorem ty_alloc {lo : Nat} {t : TypeId} {w : World} (hl : lo ≤ w.heap.size) (o : Obj) : Ty lo t w (w.alloc o) := Ty.of_below ((Below.refl _ _).alloc (Nat.le_refl _) _) hl

set_option maxHeartbeats 1000000 in
theorem l9Touch_any (q : List ByteArray) (s : ByteArray) (hs : s.size ≤ 9223372036854775807) (v : Value) (lo hi : Nat) (w : World) (own : Own encS w lo hi v q) (hlo : lo ≤ w.heap.size) (hq : q.length ≤ 1000000) :
    Calls Try.prog 31 #[v, .string s] w fun e w' => ∃ v', e = .returned (.tuple #[v', .bool (tqB q s)]) ∧ Own encS w' lo w'.heap.size v' (tqR q s) ∧ Ty lo 9 w w' := by
  obtain ⟨a, n, cap, rfl⟩ := own.slice
  have hn : Hid (n = q.length) := own.rd.cap.1
  have O : Hid (Own encS w lo hi (.slice a n cap) q) := own
  clear own
  have ma : Hid True := trivial
  rcases posS_cases s q with ⟨h1, e⟩ | ⟨i, hi', h1, h2, e⟩
  · have e1 : tqB q s = (nameB s && !(q.length == 20)) := by unfold tqB; rw [e]; rfl
    have e2 : tqR q s = if (nameB s && !(q.length == 20)) = true then q ++ [s] else q := by unfold tqR; rw [e]; rfl
    have hp : Hid (posS s q = -1) := e
    rw [e1, e2]
    clear e1 e2 e h1
    cases hm : nameB s with
    | false =>
      go_enter Try.func31, Try.ntmps31
      go_wp2_with (first | (go_at_call 46; refine (l1At_any q s _ _ O.out.rd).mono ?_; rintro e wq ⟨rfl, hq⟩; subst wq; rw [hp.out]) | (go_at_call 45; refine (specNameOk_any _ hs _).mono ?_; rintro e wq ⟨rfl, hq⟩; subst wq; rw [hm]) | (fail))
      go_ret2
      exact ⟨_, rfl, O.out.top, Ty.refl _ _ _⟩
    | true =>
      by_cases h20 : q.length = 20
      · have h21 : (q.length == 20) = true := by simpa using h20
        have h22 : ((n : Int) == 20) = true := by rw [hn.out, h20]; rfl
        rw [h21]
        clear h20 h21
        go_enter Try.func31, Try.ntmps31
        go_wp2_with (first | (go_at_call 46; refine (l1At_any q s _ _ O.out.rd).mono ?_; rintro e wq ⟨rfl, hq⟩; subst wq; rw [hp.out]) | (go_at_call 45; refine (specNameOk_any _ hs _).mono ?_; rintro e wq ⟨rfl, hq⟩; subst wq; rw [hm]) | (fail))
        go_ret2
        exact ⟨_, rfl, O.out.top, Ty.refl _ _ _⟩
      · have h21 : (q.length == 20) = false := by simpa using h20
        have h22 : ((n : Int) == 20) = false := by rw [hn.out]; simp; omega
        rw [h21]
        clear h20 h21
        go_enter Try.func31, Try.ntmps31
        go_wp2_with (first | (go_at_call 46; refine (l1At_any q s _ _ O.out.rd).mono ?_; rintro e wq ⟨rfl, hq⟩; subst wq; rw [hp.out]) | (go_at_call 45; refine (specNameOk_any _ hs _).mono ?_; rintro e wq ⟨rfl, hq⟩; subst wq; rw [hm]) | (clear ma; at_builtin; refine wpList_append_g infoS rfl _ _ 22 rfl Try.underlying22 lo _ _ q rfl (O.out.grow ((Below.refl _ _).alloc (Nat.le_refl _) _)) (by simp; omega) _ [s] rfl (rd_new (E := encS) w s #[.string s] rfl) (by simp; omega) ?_; intro v1 w1 o1 hT1) | (fail))
        go_ret2
        exact ⟨_, rfl, o1, (ty_alloc hlo _).trans hT1⟩
  · have e1 : tqB q s = true := by unfold tqB; rw [e]; simp
    have e2 : tqR q s = (q.take i ++ q.drop (i + 1)) ++ [s] := by unfold tqR; rw [e]; simp
    have hp : Hid (posS s q = (i : Int)) := e
    have hcl : (q.take i ++ q.drop (i + 1)).length ≤ 1000000 := by simp; omega
    rw [e1, e2]
    obtain ⟨c, hc⟩ := hid_ex (q.take i ++ q.drop (i + 1))
    rw [hc.out] at hcl ⊢
    clear e1 e2 e h1 h2
    have i0 : (i : Int) ≥ 0 := by omega
    go_enter Try.func31, Try.ntmps31
    go_wp2_with (first | (go_at_call 46; refine (l1At_any q s _ _ O.out.rd).mono ?_; rintro e wq ⟨rfl, hq⟩; subst wq; rw [hp.out]) | (go_at_call 49; refine (l1Cut_any q _ i _ O.out.rd hi' hq).mono ?_; rintro e w2 ⟨v2, rfl, o2, hB2⟩; rw [hc.out] at o2; have hz2 := hB2.size) | (clear ma; at_builtin; refine wpList_append_g infoS rfl _ _ 22 rfl Try.underlying22 w.heap.size _ _ c rfl (o2.grow ((Below.refl _ _).alloc (Nat.le_refl _) _)) (by simp; omega) _ [s] rfl (rd_new (E := encS) w2 s #[.string s] rfl) (by simp; omega) ?_; intro v3 w3 o3 hT3) | (fail))
    go_ret2
    exact ⟨_, rfl, o3.wide hlo (Nat.le_refl _), ((Ty.of_below hB2 hlo).trans (ty_alloc (by omega) _)).trans (ty_mono hT3 hlo)⟩

theorem l9Without_any (q : List ByteArray) (s : ByteArray) (v : Value) (w : World) (r : Rd encS w v q) (hq : q.length ≤ 1000000) :
    Calls Try.prog 34 #[v, .string s] w fun e w' => ∃ v', e = .returned v' ∧ Own encS w' w.heap.size w'.heap.size v' (cutR q s) ∧ Below w.heap.size w w' := by
  obtain ⟨a, cap, rfl⟩ := r.form
  have R : Hid (Rd encS w (.slice a q.length cap) q) := r
  clear r
  have ma : Hid True := trivial
  rcases posS_cases s q with ⟨h1, e⟩ | ⟨i, hi', h1, h2, e⟩
  · have e2 : cutR q s = q := by unfold cutR; rw [e]; rfl
    have hp : Hid (posS s q = -1) := e
    rw [e2]
    clear e2 e h1
    go_enter Try.func34, Try.ntmps34
    go_wp2_with (first | (go_at_call 46; refine (l1At_any q s _ _ R.out).mono ?_; rintro e wq ⟨rfl, hq⟩; subst wq; rw [hp.out]) | (clear ma; at_builtin; refine wpList_append_g infoS rfl _ _ 22 rfl Try.underlying22 w.heap.size _ _ [] rfl (own_zero _ _ _ 0 _) (by simp) _ q rfl (R.out.grow ((Below.refl _ _).alloc (Nat.le_refl _) _)) (by simp; omega) ?_; intro v1 w1 o1 hT1; rw [List.nil_append] at o1) | (fail))
    go_ret
    exact ⟨_, rfl, o1, ((Below.refl _ _).alloc (Nat.le_refl _) _).trans hT1.low⟩
  · have e2 : cutR q s = q.take i ++ q.drop (i + 1) := by unfold cutR; rw [e]; simp
    have hp : Hid (posS s q = (i : Int)) := e
    rw [e2]
    obtain ⟨c, hc⟩ := hid_ex (q.take i ++ q.drop (i + 1))
    rw [hc.out]
    clear e2 e h1 h2
    have i0 : (i : Int) ≥ 0 := by omega
    go_enter Try.func34, Try.ntmps34
    go_wp2_with (first | (go_at_call 46; refine (l1At_any q s _ _ R.out).mono ?_; rintro e wq ⟨rfl, hq⟩; subst wq; rw [hp.out]) | (go_at_call 49; refine (l1Cut_any q _ i _ R.out hi' hq).mono ?_; rintro e w2 ⟨v2, rfl, o2, hB2⟩; rw [hc.out] at o2) | (fail))
    go_ret
    exact ⟨_, rfl, o2, hB2⟩

theorem specQueueOk_any (q : List ByteArray) (v : Value) (w : World) (r : Rd encS w v q) (hs : ∀ s ∈ q, s.size ≤ 9223372036854775807) :
    Calls Try.prog 10 #[v] w fun e w' => e = .returned (.bool (namesB q)) ∧ w' = w := by
  obtain ⟨a, cap, rfl⟩ := r.form
  have R : Hid (Rd encS w (.slice a q.length cap) q) := r
  have HS : Hid (∀ s ∈ q, s.size ≤ 9223372036854775807) := hs
  clear r hs
  go_enter Try.func10, Try.ntmps10
  go_wp2_with (first | (go_at_call 28; refine (l8Names_any q _ _ R.out HS.out).mono ?_; rintro e wq ⟨rfl, hq⟩; subst wq) | (fail))
  go_ret
  exact ⟨rfl, rfl⟩

theorem specTouched_any (q : List ByteArray) (s : ByteArray) (hs : s.size ≤ 9223372036854775807) (v : Value) (w : World) (r : Rd encS w v q) (hss : ∀ s ∈ q, s.size ≤ 9223372036854775807) :
    Calls Try.prog 14 #[v, .string s] w fun e w' => ∃ v', e = .returned (.tuple #[v', .bool (toB q s)]) ∧ Own encS w' w.heap.size w'.heap.size v' (toR q s) ∧ Below w.heap.size w w' := by
  obtain ⟨a, cap, rfl⟩ := r.form
  have R : Hid (Rd encS w (.slice a q.length cap) q) := r
  have HS : Hid (∀ s ∈ q, s.size ≤ 9223372036854775807) := hss
  clear r hss
  have ma : Hid True := trivial
  cases hk : namesB q with
  | false =>
    obtain ⟨e1, e2⟩ := to_no (s := s) hk
    rw [e1, e2]
    clear e1 e2
    go_enter Try.func14, Try.ntmps14
    go_wp2_with (first | (go_at_call 10; refine (specQueueOk_any q _ _ R.out HS.out).mono ?_; rintro e wq ⟨rfl, hq⟩; subst wq; rw [hk]) | (fail))
    go_ret2
    exact ⟨_, rfl, own_zero _ _ _ _ _, ((Below.refl _ _).alloc (Nat.le_refl _) _)⟩
  | true =>
    have hok := namesB_iff.1 hk
    have hle := hok.2.2
    obtain ⟨e1, e2⟩ := tq_is (s := s) hok
    rw [← e1, ← e2]
    obtain ⟨z, hz⟩ := hid_ex (tqB q s)
    obtain ⟨J, hJ⟩ := hid_ex (tqR q s)
    rw [hz.out, hJ.out]
    clear e1 e2 hok
    go_enter Try.func14, Try.ntmps14
    go_wp2_with (first | (go_at_call 10; refine (specQueueOk_any q _ _ R.out HS.out).mono ?_; rintro e wq ⟨rfl, hq⟩; subst wq; rw [hk]) | (clear ma; at_builtin; refine wpList_append_g infoS rfl _ _ 22 rfl Try.underlying22 w.heap.size _ _ [] rfl (own_zero _ _ _ 0 _) (by simp) _ q rfl (R.out.grow ((Below.refl _ _).alloc (Nat.le_refl _) _)) (by simp; omega) ?_; intro v1 w1 o1 hT1; rw [List.nil_append] at o1; have hB1 : Below w.heap.size w w1 := ((Below.refl _ _).alloc (Nat.le_refl _) _).trans hT1.low; have hz1 := hB1.size; obtain ⟨a1, n1, k1, rfl⟩ := o1.slice) | (go_at_call 31; refine (l9Touch_any q s hs _ w.heap.size _ _ o1 (by omega) (by omega)).mono ?_; rintro e w2 ⟨v2, rfl, o2, hT2⟩; rw [hz.out]; rw [hJ.out] at o2) | (fail))
    go_ret2
    exact ⟨_, rfl, o2, hB1.trans hT2.low⟩

theorem specWithout_any (q : List ByteArray) (s : ByteArray) (v : Value) (w : World) (r : Rd encS w v q) (hss : ∀ s ∈ q, s.size ≤ 9223372036854775807) :
    Calls Try.prog 18 #[v, .string s] w fun e w' => ∃ v', e = .returned v' ∧ Own encS w' w.heap.size w'.heap.size v' (wiR q s) ∧ Below w.heap.size w w' := by
  obtain ⟨a, cap, rfl⟩ := r.form
  have R : Hid (Rd encS w (.slice a q.length cap) q) := r
  have HS : Hid (∀ s ∈ q, s.size ≤ 9223372036854775807) := hss
  clear r hss
  cases hk : namesB q with
  | false =>
    rw [wi_no (s := s) hk]
    go_enter Try.func18, Try.ntmps18
    go_wp2_with (first | (go_at_call 10; refine (specQueueOk_any q _ _ R.out HS.out).mono ?_; rintro e wq ⟨rfl, hq⟩; subst wq; rw [hk]) | (fail))
    go_ret
    exact ⟨_, rfl, own_zero _ _ _ _ _, ((Below.refl _ _).alloc (Nat.le_refl _) _)⟩
  | true =>
    have hle := (namesB_iff.1 hk).2.2
    rw [← wi_is (s := s) hk]
    obtain ⟨J, hJ⟩ := hid_ex (cutR q s)
    rw [hJ.out]
    go_enter Try.func18, Try.ntmps18
    go_wp2_with (first | (go_at_call 10; refine (specQueueOk_any q _ _ R.out HS.out).mono ?_; rintro e wq ⟨rfl, hq⟩; subst wq; rw [hk]) | (go_at_call 34; refine (l9Without_any q s _ _ R.out (by omega)).mono ?_; rintro e w2 ⟨v2, rfl, o2, hB2⟩; rw [hJ.out] at o2) | (fail))
    go_ret
    exact ⟨_, rfl, o2, hB2⟩
end Go.Proofs.Ytlakpibiojdgeaa.rg
