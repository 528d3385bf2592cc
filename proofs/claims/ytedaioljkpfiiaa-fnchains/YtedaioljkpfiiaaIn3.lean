/- The laws' helpers on numbers: is one among them; do they rise. Mathematics of chains that the law of chapter 4 asks. -/
import Derived.Test.YtedaioljkpfiiaaSp6
namespace Go.Proofs.Ytedaioljkpfiiaa.ce
open Go.ChangeShapes Go.WideShapes Go.ChangeAt Go.RowKit
set_option linter.unusedVariables false

theorem hasInt_any (xs : List Int) (n : Int) (v : Value) (hi : Nat) (w : World) (r : RdI w hi v xs) :
    Calls Try.prog 27 #[v, .int .i64 n] w fun e w' => e = .returned (.bool (decide (n ∈ xs))) ∧ w' = w := by
  have hl := r.len
  obtain ⟨a, cap, rfl⟩ := r.form
  have R : Hid (RdI w hi (.slice a xs.length cap) xs) := r
  clear r
  obtain ⟨y, hy⟩ := hid_ex (decide (n ∈ xs))
  rw [hy.out]
  go_enter Try.func27, Try.ntmps27
  go_wp2
  go_loop [5] (fun p => ∃ i : Nat, i ≤ xs.length ∧ p = .int .i64 i ∧ Hid (n ∉ xs.take i)) (fun p => xs.length - (intOf p).toNat)
  case atStart => exact ⟨0, by omega, rfl, (by unfold Hid; simp)⟩
  case round =>
    obtain ⟨i, hi1, rfl, hno⟩ := hrel
    by_cases hlt : i < xs.length
    · obtain ⟨b, off, rfl, hb, d0⟩ := R.out.cell i hlt
      have hlt' : (i : Int) < xs.length := by omega
      obtain ⟨z, hz⟩ := hid_ex (xs[i])
      rw [hz.out] at d0
      by_cases he : z = n
      · have hb : (z == n) = true := by simpa using he
        have ey : y = true := by rw [← hy.out]; exact decide_eq_true (by rw [← he, ← hz.out]; exact List.getElem_mem hlt)
        subst ey
        go_wp2
        go_ret
        exact ⟨rfl, rfl⟩
      · have hb : (z == n) = false := by simpa using he
        have hno2 : Hid (n ∉ xs.take (i + 1)) := by
          unfold Hid
          rw [List.take_succ_eq_append_getElem hlt, List.mem_append, hz.out, List.mem_singleton]
          rintro (h | h)
          · exact hno.out h
          · exact he h.symm
        go_wp2
        go_round
        case rel => exact ⟨i + 1, by omega, by go_num, hno2⟩
        case measure => simp [intOf]; omega
    · have ei : i = xs.length := by omega
      have hlt' : ¬ (i : Int) < xs.length := by omega
      have ey : y = false := by
        have h := hno.out
        rw [ei, List.take_length] at h
        rw [← hy.out]; exact decide_eq_false h
      subst ey
      go_wp2
      go_ret
      exact ⟨rfl, rfl⟩

theorem rises_any (xs : List Int) (h : xs.Pairwise (· < ·)) (v : Value) (hi : Nat) (w : World) (hh : hi ≤ w.heap.size) (r : RdI w hi v xs) :
    Calls Try.prog 29 #[v] w fun e w' => e = .returned (.bool true) ∧ Below w.heap.size w w' := by
  have hl := r.len
  obtain ⟨a, cap, rfl⟩ := r.form
  have R : Hid (RdI w hi (.slice a xs.length cap) xs) := r
  have HP : Hid (xs.Pairwise (· < ·)) := h
  clear r h
  go_enter Try.func29, Try.ntmps29
  go_wp2
  go_loopw [3] (fun p wr => ∃ i : Nat, p = .int .i64 ((i : Int) + 1) ∧ Below w.heap.size w wr) (fun p _ => xs.length + 1 - (intOf p).toNat)
  case atStart => exact ⟨0, rfl, Below.refl _ _⟩
  case round =>
    obtain ⟨i, rfl, hBr⟩ := hrel
    by_cases hlt : i + 1 < xs.length
    · obtain ⟨b, off, rfl, hb, d0⟩ := (R.out.below hBr hh).cell (i + 1) hlt
      obtain ⟨b', off', e', hb', d1⟩ := (R.out.below hBr hh).cell i (by omega)
      cases e'
      have hlt' : (i : Int) + 1 < xs.length := by omega
      have hlt2 : (i : Int) < xs.length := by omega
      obtain ⟨y, hy⟩ := hid_ex (xs[i])
      obtain ⟨z, hz⟩ := hid_ex (xs[i + 1])
      have hyz : y < z := by rw [← hy.out, ← hz.out]; exact List.pairwise_iff_getElem.1 HP.out i (i + 1) (by omega) hlt (by omega)
      have hd : decide (z ≤ y) = false := decide_eq_false (by omega)
      have h0 : (0 : Int) ≤ (i : Int) + 1 := by omega
      have h0' : (0 : Int) ≤ (i : Int) := by omega
      rw [hz.out] at d0
      rw [hy.out] at d1
      go_wp2
      go_big_quiet (fail)
      go_wp2
      go_roundw
      case rel => exact ⟨i + 1, by go_num, hBr.trans (below_drewN _ _)⟩
      case measure => simp [intOf]; omega
    · have hlt' : ¬ (i : Int) + 1 < xs.length := by omega
      go_wp2
      go_ret
      exact ⟨rfl, hBr⟩

/-! ### mathematics -/
theorem ch_link {H : List C} : ∀ {L : List Int} {p : Int}, Ch H p L → ∀ (i : Nat) (h : i + 1 < L.length), (nth H L[i]).next = L[i + 1]
  | [], _, _, i, h => by simp at h
  | [y], _, _, i, h => by simp at h
  | y :: z :: L, p, hc, 0, h => by
    obtain ⟨rfl, h0, hc'⟩ := hc
    exact hc'.1
  | y :: z :: L, p, hc, i + 1, h => by
    obtain ⟨rfl, h0, hc'⟩ := hc
    have := ch_link hc' i (by simpa using h)
    simpa using this
theorem ch_last {H : List C} : ∀ {L : List Int} {p : Int}, Ch H p L → ∀ h : L.length - 1 < L.length, (nth H L[L.length - 1]).next < 0
  | [], _, _, h => by simp at h
  | [y], _, hc, _ => by
    obtain ⟨rfl, h0, hc'⟩ := hc
    exact hc'
  | y :: z :: L, p, hc, h => by
    obtain ⟨rfl, h0, hc'⟩ := hc
    have := ch_last hc' (by simp)
    simpa using this
theorem living_rises {H : List C} (u : Up H) : (living H).Pairwise (· < ·) := by
  have h := (ch_rises u (.inr (has_zero u)) (chain_ch u)).2
  unfold living
  rw [List.pairwise_map]
  exact (h.sublist (List.drop_sublist 1 _)).filter _
theorem alive_gone_len (H : List C) (L : List Int) : (alive H L).length + goneC H L = L.length := by
  induction L with
  | nil => rfl
  | cons x L ih =>
    unfold alive goneC at *
    cases hg : (nth H x).gone with
    | true => simp [hg] at ih ⊢; omega
    | false => simp [hg] at ih ⊢; omega
theorem chain_count {H : List C} (h : heapOk H) : ((living H).length : Int) + (goneC H (chain H) : Int) + 1 = ((chain H).length : Int) := by
  obtain ⟨M, hM, -⟩ := chain_head (up_ok h)
  have e : living H = alive H M := by unfold living alive; rw [hM]; rfl
  have h0 : (nth H 0).gone = false := h.2.1.2.1
  have eg : goneC H (chain H) = goneC H M := by rw [hM]; unfold goneC; simp [h0]
  have := alive_gone_len H M
  rw [e, eg, hM, List.length_cons]
  omega
theorem valueAt_has {H : List C} (u : Up H) (key : Int) : (valueAt H key).2 = decide (key ∈ living H) := by
  obtain ⟨M, hM, -⟩ := chain_head u
  rw [valueAt_find hM]
  cases e : M.find? (hit H key) with
  | none =>
    symm
    refine decide_eq_false fun hk => ?_
    unfold living at hk
    rw [hM] at hk
    obtain ⟨x, hx, hxk⟩ := List.mem_map.1 hk
    have hx' := List.mem_filter.1 hx
    have := List.find?_eq_none.1 e x (by simpa using hx'.1)
    simp [hit, hxk] at this
    simp [this] at hx'
  | some y =>
    symm
    refine decide_eq_true ?_
    have h1 := List.find?_some e
    have h2 := List.mem_of_find?_eq_some e
    simp [hit] at h1
    unfold living
    rw [hM]
    exact List.mem_map.2 ⟨y, List.mem_filter.2 ⟨by simpa using h2, by simp [h1.1]⟩, h1.2⟩
theorem valueL_has (H : List C) (key : Int) : (valueL H key).2 = decide (key ∈ livingL H) := by
  unfold valueL livingL
  by_cases h : heapOk H
  · rw [if_pos h, if_pos h]; exact valueAt_has (up_ok h) key
  · rw [if_neg h, if_neg h]; simp
end Go.Proofs.Ytedaioljkpfiiaa.ce
