/- Mathematics of chapter 7's laws: what is behind a door are those that modulo the size are it; opening moves nothing; doubling splits in two. No Go in sight. -/
import Derived.Test.YtbialeffdpmcjaaSx0
namespace Go.Proofs.Ytbialeffdpmcjaa.sx
open Go.RowKit
set_option linter.unusedVariables false

theorem pow_le (s k : Nat) (h : s ≤ k) : (2 : Int) ^ s ≤ 2 ^ k := by
  have : (2 : Nat) ^ s ≤ 2 ^ k := Nat.pow_le_pow_right (by decide) h
  have e1 : ((2 ^ s : Nat) : Int) = (2 : Int) ^ s := by simp
  have e2 : ((2 ^ k : Nat) : Int) = (2 : Int) ^ k := by simp
  omega
/-- a door below 2^s: its key's bits below are noughts -/
theorem rv_small (d : Int) (s : Nat) (hs : s ≤ 15) (h0 : 0 ≤ d) (h1 : d < 2 ^ s) : rv d 15 = 2 ^ (15 - s) * rv d s := by
  have e := rv_split d s (15 - s)
  rw [show s + (15 - s) = 15 by omega, Int.ediv_eq_zero_of_lt h0 h1, rv_zero] at e
  omega
theorem div_pow (s : Nat) (hs : s ≤ 15) : (65536 : Int) / 2 ^ s = 2 * 2 ^ (15 - s) := by
  have hp := pow_pos s
  have : (65536 : Int) = 2 ^ s * (2 * 2 ^ (15 - s)) := by
    rw [← p2, ← Int.pow_add, show s + (15 - s + 1) = 16 by omega]; decide
  rw [this, Int.mul_ediv_cancel_left _ (by omega)]
theorem band (a b q x : Int) (hq : 1 ≤ q) (h1 : q * a ≤ x) (h2 : x < q * a + q) (h3 : q * b ≤ x) (h4 : x < q * b + q) : a = b := by
  have e1 : x / q = a := by
    rw [Int.ediv_eq_iff_of_pos (by omega)]
    rw [Int.mul_comm a q]
    omega
  have e2 : x / q = b := by
    rw [Int.ediv_eq_iff_of_pos (by omega)]
    rw [Int.mul_comm b q]
    omega
  omega
/-- what stands behind door d of 2^s is d modulo 2^s -/
theorem door_mod (h d : Int) (s : Nat) (hs : s ≤ 6) (h0 : 0 ≤ h) (h1 : h ≤ 32767) (d0 : 0 ≤ d) (d1 : d < 2 ^ s) (a : rv d 15 ≤ rv h 15) (b : rv h 15 < rv d 15 + 2 ^ (15 - s)) : h % 2 ^ s = d := by
  have hp := pow_pos s
  have m0 := Int.emod_nonneg h (show (2 : Int) ^ s ≠ 0 by omega)
  have m1 := Int.emod_lt_of_pos h (show (0 : Int) < 2 ^ s by omega)
  have dr := rv_door h s (by omega)
  have e1 := rv_small d s (by omega) d0 d1
  have e2 := rv_small (h % 2 ^ s) s (by omega) m0 m1
  rw [e1] at a b
  rw [e2] at dr
  have e := band _ _ _ _ (pow_pos (15 - s)) a b dr.1 dr.2
  have r1 := rv_rv d s d0 d1
  have r2 := rv_rv (h % 2 ^ s) s m0 m1
  rw [← r1, ← r2, e]
theorem inDoor_iff {n b k : Int} : inDoor n b k = true ↔ k % 2 = 1 ∧ mk b ≤ k ∧ k < mk b + 65536 / n := by
  unfold inDoor
  simp
theorem key_rv {k : Int} (h0 : 0 ≤ k) (h1 : k ≤ 65535) : 0 ≤ rv (k / 2) 15 ∧ rv (k / 2) 15 ≤ 32767 ∧ rv (rv (k / 2) 15) 15 = k / 2 := by
  have := rv15 (k / 2)
  exact ⟨this.1, this.2, rv_rv (k / 2) 15 (by omega) (by show k / 2 < 2 ^ 15; omega)⟩
theorem beL_yes {n : Int} {ks : List Int} {b : Int} (h : SOk n ks) (h0 : 0 ≤ b) (h1 : b < n) : beL n ks b = (ks.filter (inDoor n b)).map (fun k => rv (k / 2) 15) := if_pos ⟨splitB_iff.2 h, h0, h1⟩
theorem mem_beL {n : Int} {ks : List Int} {b x : Int} (h : SOk n ks) (h0 : 0 ≤ b) (h1 : b < n) : x ∈ beL n ks b ↔ ∃ k ∈ ks, inDoor n b k = true ∧ rv (k / 2) 15 = x := by
  rw [beL_yes h h0 h1, List.mem_map]
  constructor
  · rintro ⟨k, hk, e⟩
    obtain ⟨h1, h2⟩ := List.mem_filter.1 hk
    exact ⟨k, h1, h2, e⟩
  · rintro ⟨k, h1, h2, e⟩
    exact ⟨k, List.mem_filter.2 ⟨h1, h2⟩, e⟩
/-- FnSplit: what is behind a door is it, modulo the size -/
theorem behind_mod {n : Int} {ks : List Int} {b x : Int} (h : SOk n ks) (h0 : 0 ≤ b) (h1 : b < n) (hx : x ∈ beL n ks b) : 0 ≤ x ∧ x ≤ 32767 ∧ x % n = b := by
  obtain ⟨k, hk, hd, rfl⟩ := (mem_beL h h0 h1).1 hx
  obtain ⟨s, hs, e⟩ := sizeB_pow h.size
  subst e
  obtain ⟨hb0, hb1⟩ := h.key hk
  obtain ⟨r0, r1, r2⟩ := key_rv hb0 hb1
  obtain ⟨d0, d1, d2⟩ := inDoor_iff.1 hd
  rw [div_pow s (by omega)] at d2
  unfold mk at d1 d2
  refine ⟨r0, r1, door_mod _ b s hs r0 r1 h0 h1 ?_ ?_⟩
  · rw [r2]; omega
  · rw [r2]; omega
/-- a thing that is there is behind its door -/
theorem behind_has {n : Int} {ks : List Int} {k : Int} (h : SOk n ks) (hk : k ∈ ks) (ho : k % 2 = 1) : inDoor n (rv (k / 2) 15 % n) k = true := by
  obtain ⟨s, hs, e⟩ := sizeB_pow h.size
  subst e
  obtain ⟨hb0, hb1⟩ := h.key hk
  obtain ⟨r0, r1, r2⟩ := key_rv hb0 hb1
  have d := rv_door (rv (k / 2) 15) s (by omega)
  rw [r2] at d
  refine inDoor_iff.2 ⟨ho, ?_, ?_⟩
  · unfold mk; omega
  · rw [div_pow s (by omega)]; unfold mk; omega
theorem behind_mem {n : Int} {ks : List Int} {k : Int} (h : SOk n ks) (hk : k ∈ ks) (ho : k % 2 = 1) : rv (k / 2) 15 ∈ beL n ks (rv (k / 2) 15 % n) := by
  have m := mod_bd (rv (k / 2) 15) h.bd.1
  exact (mem_beL h m.1 m.2).2 ⟨k, hk, behind_has h hk ho, rfl⟩
theorem inDoor_mk (n b d : Int) : inDoor n b (mk d) = false := by
  have := mk_even d
  unfold inDoor
  rw [this]; rfl
/-- a door that is opened moves nothing -/
theorem behind_open {n : Int} {ks : List Int} {b d : Int} (h : SOk n ks) (h1 : b < n) (f : Nat) : beL n (opn f ks b) d = beL n ks d := by
  have hn := h.bd
  have ho := opn_ok h f h1
  unfold beL
  rw [splitB_iff.2 h, splitB_iff.2 ho, opn_filter _ (inDoor_mk n d) f ks (by omega)]
theorem open_has {n : Int} {ks : List Int} {b : Int} (h : SOk n ks) (h0 : 0 ≤ b) (h1 : b < n) : mk b ∈ opn b.toNat ks b := by
  have hn := h.bd
  by_cases hb : b = 0
  · subst hb
    rw [mk_zero]
    exact opn_keep _ _ _ (by omega) h.zero
  · exact opn_has (by omega) (by omega) (by omega)
theorem filter_lt {p q : Int → Bool} {x : Int} : ∀ {ks : List Int}, (∀ k ∈ ks, p k = true → q k = true) → x ∈ ks → q x = true → p x = false → (ks.filter p).length < (ks.filter q).length
  | [], _, hx, _, _ => by simp at hx
  | k :: r, h, hx, h1, h2 => by
    have hr : ∀ k ∈ r, p k = true → q k = true := fun k hk => h k (List.mem_cons_of_mem _ hk)
    have hle : (r.filter p).length ≤ (r.filter q).length := by
      clear hx h
      induction r with
      | nil => exact Nat.le_refl _
      | cons y r ih =>
        have := ih (fun k hk => hr k (List.mem_cons_of_mem _ hk))
        rw [List.filter_cons, List.filter_cons]
        by_cases hp : p y = true
        · rw [if_pos hp, if_pos (hr y List.mem_cons_self hp)]; simpa using this
        · rw [if_neg hp]
          split
          · simp; omega
          · exact this
    rw [List.filter_cons, List.filter_cons]
    rcases List.mem_cons.1 hx with rfl | hx
    · rw [if_neg (by simp [h2]), if_pos h1]
      simp; omega
    · have ih := filter_lt (ks := r) hr hx h1 h2
      by_cases hp : p k = true
      · rw [if_pos hp, if_pos (h k List.mem_cons_self hp)]; simpa using ih
      · rw [if_neg hp]
        split
        · simp; omega
        · exact ih
/-- FnSplit: of what was stored -/
theorem stored_says {n : Int} {ks : List Int} {h : Int} (hs : SOk n ks) (h0 : 0 ≤ h) (h1 : h ≤ 32767) :
    SOk n (ins (opn (h % n).toNat ks (h % n)) (itk h)) ∧ h ∈ beL n (ins (opn (h % n).toNat ks (h % n)) (itk h)) (h % n) ∧ 0 ≤ paI n (ins (opn (h % n).toNat ks (h % n)) (itk h)) h ∧
      paI n (ins (opn (h % n).toNat ks (h % n)) (itk h)) h < ((beL n (ins (opn (h % n).toNat ks (h % n)) (itk h)) (h % n)).length : Int) := by
  have ok := stK_ok hs h
  have m := mod_bd h hs.bd.1
  have hm : mk (h % n) ∈ ins (opn (h % n).toNat ks (h % n)) (itk h) := (mem_ins _ _ _).2 (.inl (open_has hs m.1 m.2))
  have hk : itk h ∈ ins (opn (h % n).toNat ks (h % n)) (itk h) := (mem_ins _ _ _).2 (.inr rfl)
  obtain ⟨Z, hZ⟩ : ∃ Z, ins (opn (h % n).toNat ks (h % n)) (itk h) = Z := ⟨_, rfl⟩
  rw [hZ] at ok hm hk ⊢
  have hd := behind_has ok hk (itk_odd h)
  rw [itk_half h h0 h1] at hd
  have e : paI n Z h = ((Z.filter (inWay (mk (h % n)) (itk h))).length : Int) := if_pos ⟨splitB_iff.2 ok, ⟨h0, h1⟩, (isAt_iff ok.rise _).2 hm⟩
  refine ⟨ok, ?_, ?_, ?_⟩
  · have := behind_mem ok hk (itk_odd h)
    rw [itk_half h h0 h1] at this
    exact this
  · rw [e]; omega
  · rw [e, beL_yes ok m.1 m.2, List.length_map]
    have : (Z.filter (inWay (mk (h % n)) (itk h))).length < (Z.filter (inDoor n (h % n))).length := by
      refine filter_lt (x := itk h) (fun k hk' hp => ?_) hk hd (by simp [inWay])
      simp only [inWay, Bool.and_eq_true, decide_eq_true_eq, beq_iff_eq] at hp
      have := (inDoor_iff.1 hd).2.2
      exact inDoor_iff.2 ⟨hp.1, by omega, by omega⟩
    omega

/-! ### doubled -/
theorem sizeB_two {n : Int} (h : sizeB n = true) (h64 : n ≠ 64) : sizeB (2 * n) = true := by
  unfold sizeB at *
  simp only [Bool.or_eq_true, beq_iff_eq] at *
  omega
theorem double_ok {n : Int} {ks : List Int} (h : SOk n ks) (h64 : n ≠ 64) : SOk (2 * n) ks := by
  have hn := h.bd
  refine ⟨sizeB_two h.size h64, h.head, fun k hk => ?_, h.rise⟩
  have := h.each k hk
  simp only [okK, Bool.and_eq_true, Bool.or_eq_true, decide_eq_true_eq, beq_iff_eq] at this ⊢
  omega
theorem filter_cut {p : Int → Bool} {lo mid hi : Int} (h1 : lo ≤ mid) (h2 : mid ≤ hi) : ∀ {ks : List Int}, ks.Pairwise (· < ·) →
    ks.filter (fun k => p k && (decide (lo ≤ k) && decide (k < hi))) = ks.filter (fun k => p k && (decide (lo ≤ k) && decide (k < mid))) ++ ks.filter (fun k => p k && (decide (mid ≤ k) && decide (k < hi)))
  | [], _ => rfl
  | k :: r, hp => by
    obtain ⟨p1, p2⟩ := List.pairwise_cons.1 hp
    have ih := filter_cut (p := p) h1 h2 p2
    rw [List.filter_cons, List.filter_cons, List.filter_cons]
    by_cases hm : k < mid
    · have e3 : (p k && (decide (mid ≤ k) && decide (k < hi))) = false := by
        rw [decide_eq_false (show ¬ mid ≤ k by omega)]; simp
      have e12 : (p k && (decide (lo ≤ k) && decide (k < hi))) = (p k && (decide (lo ≤ k) && decide (k < mid))) := by
        rw [decide_eq_true (show k < hi by omega), decide_eq_true hm]
      rw [e12, e3]
      cases hc : (p k && (decide (lo ≤ k) && decide (k < mid))) with
      | true => simp [ih]
      | false => simpa using ih
    · have e2 : (p k && (decide (lo ≤ k) && decide (k < mid))) = false := by
        rw [decide_eq_false hm]; simp
      have e13 : (p k && (decide (lo ≤ k) && decide (k < hi))) = (p k && (decide (mid ≤ k) && decide (k < hi))) := by
        rw [decide_eq_true (show lo ≤ k by omega), decide_eq_true (show mid ≤ k by omega)]
      have er : r.filter (fun k => p k && (decide (lo ≤ k) && decide (k < mid))) = [] := by
        rw [List.filter_eq_nil_iff]
        intro x hx
        have := p1 x hx
        rw [decide_eq_false (show ¬ x < mid by omega)]
        simp
      rw [er] at ih
      rw [e13, e2, er]
      cases hc : (p k && (decide (mid ≤ k) && decide (k < hi))) with
      | true => simpa using ih
      | false => simpa using ih
theorem mk_next {n b : Int} (h : sizeB n = true) (h64 : n ≠ 64) (h0 : 0 ≤ b) (h1 : b < n) : mk (b + n) = mk b + 65536 / (2 * n) ∧ 65536 / n = 65536 / (2 * n) + 65536 / (2 * n) ∧ 0 ≤ 65536 / (2 * n) := by
  obtain ⟨s, hs, e⟩ := sizeB_pow h
  subst e
  have hs5 : s ≤ 14 := by omega
  have ht := rv_top b s (14 - s) h0 h1
  rw [show s + (14 - s + 1) = 15 by omega] at ht
  have hp := pow_pos (14 - s)
  rw [← p2, div_pow s (by omega), div_pow (s + 1) (by omega), show 15 - (s + 1) = 14 - s by omega]
  have e15 : (2 : Int) ^ (15 - s) = 2 * 2 ^ (14 - s) := by rw [← p2, show 14 - s + 1 = 15 - s by omega]
  unfold mk
  rw [e15, ht]
  omega
/-- FnDoubled: a door's things are split in two -/
theorem behind_two {n : Int} {ks : List Int} {b : Int} (h : SOk n ks) (h64 : n ≠ 64) (h0 : 0 ≤ b) (h1 : b < n) : beL n ks b = beL (2 * n) ks b ++ beL (2 * n) ks (b + n) := by
  have hd := double_ok h h64
  have hn := h.bd
  obtain ⟨e1, e2, e3⟩ := mk_next h.size h64 h0 h1
  rw [beL_yes h h0 h1, beL_yes hd h0 (by omega), beL_yes hd (by omega) (by omega), ← List.map_append]
  congr 1
  have := filter_cut (p := fun k => k % 2 == 1) (lo := mk b) (mid := mk b + 65536 / (2 * n)) (hi := mk b + 65536 / n) (by omega) (by omega) h.rise
  unfold inDoor
  rw [e1]
  rw [show mk b + 65536 / (2 * n) + 65536 / (2 * n) = mk b + 65536 / n by omega]
  exact this
end Go.Proofs.Ytbialeffdpmcjaa.sx
