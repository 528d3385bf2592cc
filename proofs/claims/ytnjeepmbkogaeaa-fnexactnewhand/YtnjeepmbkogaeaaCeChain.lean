/- The mathematics of chains: from the first cell on, key by key. -/
import Derived.Test.YtnjeepmbkogaeaaCeMath
namespace Go.Proofs.Ytnjeepmbkogaeaa.ce
open Go.ChangeShapes Go.WideShapes Go.ChangeAt Go.RowKit
set_option linter.unusedVariables false

/-- L is the chain from p on -/
def Ch (H : List C) : Int → List Int → Prop
  | p, [] => p < 0
  | p, x :: L => p = x ∧ 0 ≤ x ∧ Ch H (nth H x).next L

/-- each cell leads to -1 or to a cell with a greater key; keys from 0 to 65535 -/
structure Up (H : List C) : Prop where
  one : 1 ≤ H.length
  keys : ∀ p, has H p → 0 ≤ (nth H p).key ∧ (nth H p).key ≤ 65535
  next : ∀ p, has H p → (nth H p).next = -1 ∨ has H (nth H p).next ∧ (nth H p).key < (nth H (nth H p).next).key
theorem up_ok {H : List C} (h : heapOk H) : Up H := by
  have nthi : ∀ p, has H p → ∃ (i : Nat) (hi : i < H.length), p = i ∧ nth H p = H[i] := fun p hp => by
    obtain ⟨i, rfl⟩ : ∃ i : Nat, p = i := ⟨p.toNat, by have := hp.1; omega⟩
    have hi : i < H.length := by have := hp.2; omega
    exact ⟨i, hi, rfl, nth_nat H i hi⟩
  refine ⟨h.1.1, fun p hp => ?_, fun p hp => ?_⟩
  · obtain ⟨i, hi, rfl, e⟩ := nthi p hp
    rw [e]
    rcases (heapOk_cells h i hi).1 with h0 | h0
    · subst h0
      have := h.2.1.1
      have e0 := nth_nat H 0 hi
      simp only [Int.natCast_zero] at e0
      rw [e0] at this
      omega
    · omega
  · obtain ⟨i, hi, rfl, e⟩ := nthi p hp
    have := (heapOk_cells h i hi).2
    rw [← e] at this
    rcases this with h1 | h1
    · exact .inl h1
    · exact .inr h1

theorem ch_unique {H : List C} : ∀ {L M : List Int} {p : Int}, Ch H p L → Ch H p M → L = M
  | [], [], _, _, _ => rfl
  | [], y :: M, p, h, k => by have h1 : p < 0 := h; have := k.1; have := k.2.1; omega
  | x :: L, [], p, h, k => by have h1 : p < 0 := k; have := h.1; have := h.2.1; omega
  | x :: L, y :: M, p, h, k => by
    have e : x = y := h.1.symm.trans k.1
    subst e
    rw [ch_unique h.2.2 k.2.2]
theorem ch_exists {H : List C} (u : Up H) : ∀ (m : Nat) (p : Int), (p = -1 ∨ has H p ∧ (65536 - (nth H p).key).toNat ≤ m) → ∃ L, Ch H p L
  | m, p, .inl h => ⟨[], by subst h; show (-1 : Int) < 0; omega⟩
  | 0, p, .inr h => by have := u.keys p h.1; omega
  | m + 1, p, .inr h => by
    have hk := u.keys p h.1
    obtain ⟨L, hL⟩ := ch_exists u m (nth H p).next (by
      rcases u.next p h.1 with h1 | h1
      · exact .inl h1
      · exact .inr ⟨h1.1, by have := u.keys _ h1.1; omega⟩)
    exact ⟨p :: L, rfl, h.1.1, hL⟩
theorem ch_has {H : List C} (u : Up H) : ∀ {L : List Int} {p : Int}, (p = -1 ∨ has H p) → Ch H p L → ∀ x ∈ L, has H x
  | [], _, _, _ => fun x hx => by cases hx
  | y :: L, p, hp, h => fun x hx => by
    obtain ⟨rfl, h0, hc⟩ := h
    have hp' : has H p := by rcases hp with e | e; (· omega); (· exact e)
    rcases List.mem_cons.1 hx with rfl | hx
    · exact hp'
    · exact ch_has u (by rcases u.next p hp' with e | e; (· exact .inl e); (· exact .inr e.1)) hc x hx
/-- keys rise along the chain -/
theorem ch_rises {H : List C} (u : Up H) : ∀ {L : List Int} {p : Int}, (p = -1 ∨ has H p) → Ch H p L → (∀ x ∈ L, (nth H p).key ≤ (nth H x).key) ∧ L.Pairwise fun a b => (nth H a).key < (nth H b).key
  | [], _, _, _ => ⟨fun x hx => (by cases hx), List.Pairwise.nil⟩
  | y :: L, p, hp, h => by
    obtain ⟨rfl, h0, hc⟩ := h
    have hp' : has H p := by rcases hp with e | e; (· omega); (· exact e)
    have hn := u.next p hp'
    have ih := ch_rises u (by rcases hn with e | e; (· exact .inl e); (· exact .inr e.1)) hc
    have hlt : ∀ x ∈ L, (nth H p).key < (nth H x).key := fun x hx => by
      rcases hn with e | e
      · rw [e] at hc
        cases L with
        | nil => cases hx
        | cons z L => have h1 := hc.1; have h2 := hc.2.1; omega
      · have := ih.1 x hx; omega
    refine ⟨fun x hx => ?_, List.Pairwise.cons hlt ih.2⟩
    rcases List.mem_cons.1 hx with rfl | hx
    · exact Int.le_refl _
    · exact Int.le_of_lt (hlt x hx)
theorem ch_pos {H : List C} : ∀ {L : List Int} {p : Int}, Ch H p L → ∀ x ∈ L, 0 ≤ x
  | [], _, _ => fun x hx => by cases hx
  | y :: L, p, h => fun x hx => by
    rcases List.mem_cons.1 hx with rfl | hx
    · exact h.2.1
    · exact ch_pos h.2.2 x hx
theorem pairwise_ne {H : List C} {L : List Int} (h : L.Pairwise fun a b => (nth H a).key < (nth H b).key) : L.Nodup := h.imp fun hab e => by subst e; omega

/-! ### as a function -/
def chainF : Nat → List C → Int → List Int
  | 0, _, _ => []
  | f + 1, H, p => if p < 0 then [] else p :: chainF f H (nth H p).next
def chain (H : List C) : List Int := chainF 65537 H 0
theorem chainF_ch {H : List C} : ∀ {L : List Int} {p : Int} (f : Nat), Ch H p L → L.length < f → chainF f H p = L
  | [], p, f + 1, h, _ => by
    have h1 : p < 0 := h
    simp [chainF, h1]
  | y :: L, p, f + 1, h, hl => by
    obtain ⟨rfl, h0, hc⟩ := h
    have h1 : ¬ p < 0 := by omega
    simp only [chainF, h1, if_false]
    rw [chainF_ch f hc (by simpa using hl)]
  | L, p, 0, h, hl => by omega
theorem ch_len {H : List C} (u : Up H) : ∀ {L : List Int} {p : Int}, (p = -1 ∨ has H p) → Ch H p L → L = [] ∨ (L.length : Int) + (nth H p).key ≤ 65536
  | [], _, _, _ => .inl rfl
  | y :: L, p, hp, h => by
    obtain ⟨rfl, h0, hc⟩ := h
    have hp' : has H p := by rcases hp with e | e; (· omega); (· exact e)
    have hk := u.keys p hp'
    have hn := u.next p hp'
    right
    rcases ch_len u (by rcases hn with e | e; (· exact .inl e); (· exact .inr e.1)) hc with e | e
    · subst e; simp; omega
    · rcases hn with e' | e'
      · rw [e'] at hc
        cases L with
        | nil => simp; omega
        | cons z L => have h1 := hc.1; have h2 := hc.2.1; omega
      · simp only [List.length_cons]
        omega
theorem has_zero {H : List C} (u : Up H) : has H 0 := ⟨Int.le_refl _, by have := u.one; omega⟩
theorem chain_ch {H : List C} (u : Up H) : Ch H 0 (chain H) := by
  have h0 := has_zero u
  obtain ⟨L, hL⟩ := ch_exists u 65536 0 (.inr ⟨h0, by have := u.keys 0 h0; omega⟩)
  have hl : L.length < 65537 := by
    have hk := u.keys 0 h0
    rcases ch_len u (.inr h0) hL with e | e
    · subst e; simp
    · omega
  unfold chain
  rw [chainF_ch 65537 hL hl]
  exact hL
theorem chain_of {H : List C} (u : Up H) {L : List Int} (h : Ch H 0 L) : chain H = L := ch_unique (chain_ch u) h
theorem chain_head {H : List C} (u : Up H) : ∃ L, chain H = 0 :: L ∧ Ch H (nth H 0).next L := by
  have h := chain_ch u
  cases e : chain H with
  | nil => rw [e] at h; exact absurd (h : (0 : Int) < 0) (Int.lt_irrefl 0)
  | cons x L => rw [e] at h; obtain ⟨rfl, -, hc⟩ := h; exact ⟨L, rfl, hc⟩

/-! ### what a change of one cell does to a chain -/
theorem nth_set_ne (H : List C) (i : Nat) (c : C) (x : Int) (h : x.toNat ≠ i) : nth (H.set i c) x = nth H x := by
  unfold nth
  rw [List.getD_eq_getElem?_getD, List.getD_eq_getElem?_getD, List.getElem?_set, if_neg (fun e => h e.symm)]
theorem nth_set_eq (H : List C) (i : Nat) (hi : i < H.length) (c : C) (x : Int) (h : x.toNat = i) : nth (H.set i c) x = c := by
  unfold nth
  rw [List.getD_eq_getElem?_getD, List.getElem?_set, if_pos h.symm, if_pos hi]
  rfl
theorem nth_snoc (H : List C) (c : C) (x : Int) (h : has H x) : nth (H ++ [c]) x = nth H x := by
  unfold nth
  have hx : x.toNat < H.length := by have := h.1; have := h.2; omega
  rw [List.getD_eq_getElem?_getD, List.getD_eq_getElem?_getD, List.getElem?_append_left hx]
theorem ch_set_other {H : List C} (i : Nat) (c : C) : ∀ {L : List Int} {p : Int}, (i : Int) ∉ L → Ch H p L → Ch (H.set i c) p L
  | [], p, _, h => h
  | y :: L, p, hn, h => by
    have hy : y.toNat ≠ i := fun e => hn (by have := h.2.1; rw [show (i : Int) = y by omega]; exact List.mem_cons_self)
    refine ⟨h.1, h.2.1, ?_⟩
    rw [nth_set_ne H i c y hy]
    exact ch_set_other i c (fun hm => hn (List.mem_cons_of_mem _ hm)) h.2.2
/-- a cell's Next stays: so does the chain -/
theorem ch_set_same {H : List C} (i : Nat) (hi : i < H.length) (c : C) (hc : c.next = (nth H i).next) : ∀ {L : List Int} {p : Int}, Ch H p L → Ch (H.set i c) p L
  | [], p, h => h
  | y :: L, p, h => by
    refine ⟨h.1, h.2.1, ?_⟩
    by_cases e : y.toNat = i
    · rw [nth_set_eq H i hi c y e, hc, show (i : Int) = y by have := h.2.1; omega]
      exact ch_set_same i hi c hc h.2.2
    · rw [nth_set_ne H i c y e]
      exact ch_set_same i hi c hc h.2.2
theorem ch_snoc {H : List C} (c : C) : ∀ {L : List Int} {p : Int}, (∀ x ∈ L, has H x) → Ch H p L → Ch (H ++ [c]) p L
  | [], p, _, h => h
  | y :: L, p, hm, h => by
    refine ⟨h.1, h.2.1, ?_⟩
    rw [nth_snoc H c y (hm y List.mem_cons_self)]
    exact ch_snoc c (fun x hx => hm x (List.mem_cons_of_mem _ hx)) h.2.2
/-- one that follows is passed by -/
theorem ch_pass {H : List C} (i : Nat) (hi : i < H.length) (c : C) (x : Int) (hc : c.next = (nth H x).next) : ∀ {A B : List Int} {p : Int}, (A ++ (i : Int) :: x :: B).Nodup → Ch H p (A ++ (i : Int) :: x :: B) → Ch (H.set i c) p (A ++ (i : Int) :: B)
  | [], B, p, hn, h => by
    obtain ⟨h1, h2, h3, h4, h5⟩ := h
    refine ⟨h1, h2, ?_⟩
    rw [nth_set_eq H i hi c i (by omega), hc]
    refine ch_set_other i c (fun hm => ?_) h5
    simp only [List.nil_append, List.nodup_cons] at hn
    exact hn.1 (List.mem_cons_of_mem _ hm)
  | a :: A, B, p, hn, h => by
    obtain ⟨h1, h2, h3⟩ := h
    simp only [List.cons_append, List.nodup_cons] at hn
    refine ⟨h1, h2, ?_⟩
    rw [nth_set_ne H i c a (fun e => hn.1 (by rw [show a = (i : Int) by omega]; simp))]
    exact ch_pass i hi c x hc hn.2 h3
/-- one is put in -/
theorem ch_put {H : List C} (i : Nat) (hi : i < H.length) (c : C) (o : Int) (ho : 0 ≤ o) (hc : c.next = o) (hon : (nth H o).next = (nth H i).next) (hoi : o.toNat ≠ i) : ∀ {A B : List Int} {p : Int}, (A ++ (i : Int) :: B).Nodup → Ch H p (A ++ (i : Int) :: B) → Ch (H.set i c) p (A ++ (i : Int) :: o :: B)
  | [], B, p, hn, h => by
    obtain ⟨h1, h2, h3⟩ := h
    refine ⟨h1, h2, ?_⟩
    rw [nth_set_eq H i hi c i (by omega), hc]
    refine ⟨rfl, ho, ?_⟩
    rw [nth_set_ne H i c o hoi, hon]
    refine ch_set_other i c (fun hm => ?_) h3
    simp only [List.nil_append, List.nodup_cons] at hn
    exact hn.1 hm
  | a :: A, B, p, hn, h => by
    obtain ⟨h1, h2, h3⟩ := h
    simp only [List.cons_append, List.nodup_cons] at hn
    refine ⟨h1, h2, ?_⟩
    rw [nth_set_ne H i c a (fun e => hn.1 (by rw [show a = (i : Int) by omega]; simp))]
    exact ch_put i hi c o ho hc hon hoi hn.2 h3
/-- a chain as it lies round one of its cells -/
theorem ch_split {H : List C} : ∀ {L : List Int} {p x : Int}, Ch H p L → x ∈ L → ∃ A B, L = A ++ x :: B ∧ Ch H (nth H x).next B
  | y :: L, p, x, h, hx => by
    by_cases e : x = y
    · subst e
      exact ⟨[], L, rfl, h.2.2⟩
    · rcases List.mem_cons.1 hx with hx | hx
      · exact absurd hx e
      · obtain ⟨A, B, rfl, hB⟩ := ch_split h.2.2 hx
        exact ⟨y :: A, B, rfl, hB⟩

/-! ### who lives -/
def living (H : List C) : List Int := (((chain H).drop 1).filter fun x => !(nth H x).gone).map fun x => (nth H x).key
def goneN (H : List C) : Nat := ((chain H).filter fun x => (nth H x).gone).length
/-- the value under a key -/
def valueAt (H : List C) (k : Int) : Int × Bool :=
  match ((chain H).drop 1).find? fun x => !(nth H x).gone && (nth H x).key == k with
  | some x => ((nth H x).value, true)
  | none => (0, false)
/-- how far it may go on from q -/
def left (H : List C) (q : Int) : Nat := if q < 0 then 0 else (65536 - (nth H q).key).toNat + 1
theorem left_lt {H : List C} (u : Up H) {q : Int} (hq : has H q) : left H (nth H q).next < left H q := by
  have hk := u.keys _ hq
  have h0 := hq.1
  unfold left
  rw [if_neg (by omega : ¬ q < 0)]
  rcases u.next _ hq with e | e
  · rw [e, if_pos (by omega)]; omega
  · have := u.keys _ e.1
    have := e.1.1
    rw [if_neg (by omega)]
    omega
theorem next_or {H : List C} (u : Up H) {q : Int} (hq : has H q) : (nth H q).next = -1 ∨ has H (nth H q).next := by
  rcases u.next _ hq with e | e
  · exact .inl e
  · exact .inr e.1
theorem chain_len {H : List C} (u : Up H) : (chain H).length ≤ 65536 := by
  have h0 := has_zero u
  have hk := u.keys 0 h0
  rcases ch_len u (.inr h0) (chain_ch u) with e | e
  · rw [e]; simp
  · omega
theorem chain_has {H : List C} (u : Up H) : ∀ x ∈ chain H, has H x := ch_has u (.inr (has_zero u)) (chain_ch u)
/-- the answers of chapter 4, of whatever cells -/
def chainL (H : List C) : List Int := if heapOk H then chain H else []
def livingL (H : List C) : List Int := if heapOk H then living H else []
def valueL (H : List C) (k : Int) : Int × Bool := if heapOk H then valueAt H k else (0, false)
def goneL (H : List C) : Int := if heapOk H then (goneN H : Int) else -1
end Go.Proofs.Ytnjeepmbkogaeaa.ce
