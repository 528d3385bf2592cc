/- What one small change of the heap does to chain and living: the mathematics that one hand's moves want. -/
import Derived.Test.YtnjeepmbkogaeaaCeChain
import Derived.Test.YtnjeepmbkogaeaaHd1
namespace Go.Proofs.Ytnjeepmbkogaeaa.ce
open Go.ChangeShapes Go.WideShapes Go.ChangeAt Go.RowKit
set_option linter.unusedVariables false

theorem has_nat {H : List C} {p : Int} (h : has H p) : ∃ i : Nat, p = i ∧ i < H.length := ⟨p.toNat, by have := h.1; omega, by have := h.1; have := h.2; omega⟩
/-- a cell's Next is turned: all else of every cell stays -/
theorem swapH_nth (H : List C) (i : Nat) (hi : i < H.length) (z y : Int) : (nth (swapH H i z) y).key = (nth H y).key ∧ (nth (swapH H i z) y).value = (nth H y).value ∧ (nth (swapH H i z) y).gone = (nth H y).gone := by
  unfold swapH
  simp only [Int.toNat_natCast]
  by_cases e : y.toNat = i
  · have e2 : nth H y = nth H i := by unfold nth; rw [e]; simp
    rw [nth_set_eq H i hi _ y e, e2]
    exact ⟨rfl, rfl, rfl⟩
  · rw [nth_set_ne H i _ y e]
    exact ⟨rfl, rfl, rfl⟩
theorem swapH_next (H : List C) (i : Nat) (z y : Int) (h : y.toNat ≠ i) : (nth (swapH H i z) y).next = (nth H y).next := by
  unfold swapH
  simp only [Int.toNat_natCast]
  rw [nth_set_ne H i _ y h]
theorem swapH_next_same (H : List C) (i : Nat) (hi : i < H.length) (z : Int) : (nth (swapH H i z) i).next = z := by
  unfold swapH
  simp only [Int.toNat_natCast]
  rw [nth_set_eq H i hi _ i (by simp)]
theorem strikeH_nth (H : List C) (i : Nat) (hi : i < H.length) (y : Int) : (nth (strikeH H i) y).key = (nth H y).key ∧ (nth (strikeH H i) y).value = (nth H y).value ∧ (nth (strikeH H i) y).next = (nth H y).next ∧ (nth (strikeH H i) y).gone = (if y.toNat = i then true else (nth H y).gone) := by
  unfold strikeH
  simp only [Int.toNat_natCast]
  by_cases e : y.toNat = i
  · have e2 : nth H y = nth H i := by unfold nth; rw [e]; simp
    rw [nth_set_eq H i hi _ y e, e2, if_pos e]
    exact ⟨rfl, rfl, rfl, rfl⟩
  · rw [nth_set_ne H i _ y e, if_neg e]
    exact ⟨rfl, rfl, rfl, rfl⟩
theorem chain_hasX {H : List C} (u : Up H) {x : Int} (h : x ∈ chain H) : has H x := ch_has u (.inr (has_zero u)) (chain_ch u) x h
theorem chain_pw {H : List C} (u : Up H) : (chain H).Pairwise fun a b => (nth H a).key < (nth H b).key := (ch_rises u (.inr (has_zero u)) (chain_ch u)).2
theorem chain_nodup {H : List C} (u : Up H) : (chain H).Nodup := pairwise_ne (chain_pw u)
/-- what follows one of the chain is of the chain -/
theorem chain_next {H : List C} (u : Up H) {x : Int} (h : x ∈ chain H) (h0 : 0 ≤ (nth H x).next) : (nth H x).next ∈ chain H := by
  obtain ⟨A, B, e, hB⟩ := ch_split (chain_ch u) h
  cases B with
  | nil => have h1 : (nth H x).next < 0 := hB; omega
  | cons y B =>
    rw [e, hB.1]
    simp
theorem chain_inj {H : List C} (u : Up H) {x y : Int} (hx : x ∈ chain H) (hy : y ∈ chain H) (hk : (nth H x).key = (nth H y).key) : x = y := by
  have hp := chain_pw u
  obtain ⟨i, hi, rfl⟩ := List.getElem_of_mem hx
  obtain ⟨j, hj, rfl⟩ := List.getElem_of_mem hy
  rcases Nat.lt_trichotomy i j with h | h | h
  · have := (List.pairwise_iff_getElem.1 hp) i j hi hj h; omega
  · subst h; rfl
  · have := (List.pairwise_iff_getElem.1 hp) j i hj hi h; omega

def livL (H : List C) (L : List Int) : List Int := ((L.drop 1).filter fun x => !(nth H x).gone).map fun x => (nth H x).key
theorem living_eq (H : List C) : living H = livL H (chain H) := rfl
theorem livL_congr {H K : List C} {L : List Int} (h : ∀ x ∈ L, (nth H x).key = (nth K x).key ∧ (nth H x).gone = (nth K x).gone) : livL H L = livL K L := by
  unfold livL
  have h1 : (L.drop 1).filter (fun x => !(nth H x).gone) = (L.drop 1).filter fun x => !(nth K x).gone := List.filter_congr fun x hx => by rw [(h x (List.mem_of_mem_drop hx)).2]
  rw [h1]
  exact List.map_congr_left fun x hx => (h x (List.mem_of_mem_drop (List.mem_filter.1 hx).1)).1
theorem livL_pass {H : List C} (i x : Int) (A B : List Int) (hg : (nth H x).gone = true) : livL H (A ++ i :: x :: B) = livL H (A ++ i :: B) := by
  unfold livL
  cases A with
  | nil => simp [hg]
  | cons a A => simp [List.filter_cons, hg]
theorem mem_living {H : List C} {k : Int} : k ∈ living H ↔ ∃ x ∈ (chain H).drop 1, (nth H x).gone = false ∧ (nth H x).key = k := by
  unfold living
  simp only [List.mem_map, List.mem_filter, Bool.not_eq_true']
  constructor
  · rintro ⟨x, ⟨h1, h2⟩, h3⟩; exact ⟨x, h1, h2, h3⟩
  · rintro ⟨x, h1, h2, h3⟩; exact ⟨x, ⟨h1, h2⟩, h3⟩

/-! ### the five changes -/
/-- one that is Gone is passed by -/
theorem pass_chain {H : List C} (hok : heapOk H) (i : Nat) (hi : i < H.length) (x : Int) (hin : (i : Int) ∈ chain H) (hx : (nth H i).next = x) (hx0 : 0 ≤ x) (hok' : heapOk (swapH H i (nth H x).next)) :
    ∃ A B, chain H = A ++ (i : Int) :: x :: B ∧ chain (swapH H i (nth H x).next) = A ++ (i : Int) :: B := by
  have u := up_ok hok
  obtain ⟨A, B, e, hB⟩ := ch_split (chain_ch u) hin
  rw [hx] at hB
  cases B with
  | nil => have h1 : x < 0 := hB; omega
  | cons y B =>
    obtain ⟨rfl, -, hB'⟩ := hB
    have hc := chain_ch u
    have hn := chain_nodup u
    rw [e] at hc hn
    refine ⟨A, B, e, chain_of (up_ok hok') ?_⟩
    have := ch_pass i hi { nth H i with next := (nth H x).next } x rfl hn hc
    unfold swapH
    simpa using this
theorem pass_living {H : List C} (hok : heapOk H) (i : Nat) (hi : i < H.length) (x : Int) (hin : (i : Int) ∈ chain H) (hx : (nth H i).next = x) (hx0 : 0 ≤ x) (hg : (nth H x).gone = true) (hok' : heapOk (swapH H i (nth H x).next)) :
    living (swapH H i (nth H x).next) = living H := by
  obtain ⟨A, B, e1, e2⟩ := pass_chain hok i hi x hin hx hx0 hok'
  rw [living_eq, living_eq, e1, e2, livL_pass (H := H) (i : Int) x A B hg]
  exact livL_congr fun y _ => ⟨(swapH_nth H i hi _ y).1, (swapH_nth H i hi _ y).2.2⟩
/-- one is linked in -/
theorem link_chain {H : List C} (hok : heapOk H) (i : Nat) (hi : i < H.length) (o : Int) (ho : 0 ≤ o) (hin : (i : Int) ∈ chain H) (hon : (nth H o).next = (nth H i).next) (hoi : o ≠ i) (hok' : heapOk (swapH H i o)) :
    ∃ A B, chain H = A ++ (i : Int) :: B ∧ chain (swapH H i o) = A ++ (i : Int) :: o :: B := by
  have u := up_ok hok
  obtain ⟨A, B, e, hB⟩ := ch_split (chain_ch u) hin
  have hc := chain_ch u
  have hn := chain_nodup u
  rw [e] at hc hn
  refine ⟨A, B, e, chain_of (up_ok hok') ?_⟩
  have := ch_put i hi { nth H i with next := o } o ho rfl hon (by omega) hn hc
  unfold swapH
  simpa using this
theorem link_living {H : List C} (hok : heapOk H) (i : Nat) (hi : i < H.length) (o : Int) (ho : 0 ≤ o) (hin : (i : Int) ∈ chain H) (hon : (nth H o).next = (nth H i).next) (hoi : o ≠ i) (hg : (nth H o).gone = false) (hok' : heapOk (swapH H i o)) :
    (nth H o).key ∈ living (swapH H i o) := by
  obtain ⟨A, B, e1, e2⟩ := link_chain hok i hi o ho hin hon hoi hok'
  obtain ⟨k1, k2, k3⟩ := swapH_nth H i hi o o
  refine mem_living.2 ⟨o, ?_, by rw [k3]; exact hg, k1⟩
  rw [e2]
  cases A with
  | nil => simp
  | cons a A => simp
/-- one is struck -/
theorem strike_chain {H : List C} (hok : heapOk H) (i : Nat) (hi : i < H.length) (hok' : heapOk (strikeH H i)) : chain (strikeH H i) = chain H := by
  refine chain_of (up_ok hok') ?_
  have := ch_set_same i hi { nth H i with gone := true } rfl (chain_ch (up_ok hok))
  unfold strikeH
  simpa using this
theorem strike_living {H : List C} (hok : heapOk H) (i : Nat) (hi : i < H.length) (hin : (i : Int) ∈ chain H) (hok' : heapOk (strikeH H i)) : (nth H i).key ∉ living (strikeH H i) := fun h => by
  obtain ⟨x, h1, h2, h3⟩ := mem_living.1 h
  rw [strike_chain hok i hi hok'] at h1
  obtain ⟨k1, -, -, k4⟩ := strikeH_nth H i hi x
  rw [k1] at h3
  have e := chain_inj (up_ok hok) (List.mem_of_mem_drop h1) hin h3
  subst e
  rw [k4, if_pos (by simp)] at h2
  cases h2
/-- one is fresh -/
theorem fresh_chain {H : List C} (hok : heapOk H) (c : C) (hok' : heapOk (H ++ [c])) : chain (H ++ [c]) = chain H :=
  chain_of (up_ok hok') (ch_snoc c (fun x hx => chain_hasX (up_ok hok) hx) (chain_ch (up_ok hok)))
theorem fresh_living {H : List C} (hok : heapOk H) (c : C) (hok' : heapOk (H ++ [c])) : living (H ++ [c]) = living H := by
  rw [living_eq, living_eq, fresh_chain hok c hok']
  exact livL_congr fun x hx => by rw [nth_snoc H c x (chain_hasX (up_ok hok) hx)]; exact ⟨rfl, rfl⟩
/-- the Next of one outside the chain is turned -/
theorem outside_chain {H : List C} (hok : heapOk H) (i : Nat) (z : Int) (hout : (i : Int) ∉ chain H) (hok' : heapOk (swapH H i z)) : chain (swapH H i z) = chain H := by
  refine chain_of (up_ok hok') ?_
  have := ch_set_other i { nth H i with next := z } hout (chain_ch (up_ok hok))
  unfold swapH
  simpa using this
theorem outside_living {H : List C} (hok : heapOk H) (i : Nat) (hi : i < H.length) (z : Int) (hout : (i : Int) ∉ chain H) (hok' : heapOk (swapH H i z)) : living (swapH H i z) = living H := by
  rw [living_eq, living_eq, outside_chain hok i z hout hok']
  exact livL_congr fun y _ => ⟨(swapH_nth H i hi _ y).1, (swapH_nth H i hi _ y).2.2⟩
end Go.Proofs.Ytnjeepmbkogaeaa.ce
