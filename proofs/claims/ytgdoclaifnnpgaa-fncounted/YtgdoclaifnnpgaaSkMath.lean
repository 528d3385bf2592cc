/- What one more key does to the counts: plain facts on lists. -/
import Derived.Test.YtgdoclaifnnpgaaSk8
namespace Go.Proofs.Ytgdoclaifnnpgaa.sk
open Go.ChangeShapes Go.WideShapes Go.ChangeAt Go.RowKit
set_option linter.unusedVariables false

theorem half_bd (x : Int) (h : 0 ≤ x ∧ x ≤ 15) : 0 ≤ half x ∧ half x ≤ 15 := by unfold half; omega
theorem halfR_small {R : List (List Int)} (h : Small R) : Small (halfR R) := fun xs hx y hy => by
  obtain ⟨ys, hys, rfl⟩ := List.mem_map.1 hx
  obtain ⟨z, hz, rfl⟩ := List.mem_map.1 hy
  exact half_bd z (h ys hys z hz)
theorem added_ok {R : List (List Int)} {adds : Int} {key : ByteArray} (h : skOk R adds) : skOk (addedR R adds key) (addedN R adds) := by
  unfold addedR addedN
  rw [if_pos h, if_pos h]
  by_cases e : adds = 159
  · rw [if_pos e, if_pos e]
    have h4 := halfR_four (addR_four (key := key) h.four)
    exact ⟨h4.1, by omega, h4.2, halfR_small (addR_small key R)⟩
  · rw [if_neg e, if_neg e]
    have h4 := addR_four (key := key) h.four
    have := h.2.1
    exact ⟨h4.1, by omega, h4.2, addR_small key R⟩

/-- the count of a key in row i -/
def cnt (key : ByteArray) (R : List (List Int)) (i : Nat) : Int := (R.getD i []).getD (place.placeOf key i).toNat 0
theorem estN_cnt (key : ByteArray) (R : List (List Int)) (n : Nat) : estN key R (n + 1) = min (estN key R n) (cnt key R n) := estN_succ key R n
theorem place_lt (key : ByteArray) (i : Nat) : (place.placeOf key i).toNat < 16 := by have := place.placeOf_bd key i; omega

theorem row_get {R : List (List Int)} (h : Four R) (i : Nat) (hi : i < 4) : ∃ hi' : i < R.length, R.getD i [] = R[i] ∧ (R[i]).length = 16 := by
  have h4 := h.1
  refine ⟨by omega, ?_, h.2 _ (List.getElem_mem _)⟩
  rw [List.getD_eq_getElem?_getD, List.getElem?_eq_getElem (by omega)]; rfl
theorem cnt_get {R : List (List Int)} (h : Four R) (key : ByteArray) (i : Nat) (hi : i < 4) : ∃ (hi' : i < R.length) (hp : (place.placeOf key i).toNat < (R[i]).length), cnt key R i = (R[i])[(place.placeOf key i).toNat] := by
  obtain ⟨hi', e, h16⟩ := row_get h i hi
  have hp := place_lt key i
  refine ⟨hi', by omega, ?_⟩
  unfold cnt
  rw [e, List.getD_eq_getElem?_getD, List.getElem?_eq_getElem (by omega)]; rfl
theorem cnt_bd {R : List (List Int)} (h : Four R) (hs : Small R) (key : ByteArray) (i : Nat) (hi : i < 4) : 0 ≤ cnt key R i ∧ cnt key R i ≤ 15 := by
  obtain ⟨hi', hp, e⟩ := cnt_get h key i hi
  rw [e]
  exact hs _ (List.getElem_mem hi') _ (List.getElem_mem hp)
theorem cnt_add {R : List (List Int)} (h : Four R) (hs : Small R) (name key : ByteArray) (i : Nat) (hi : i < 4) :
    cnt key (addR name R) i = if place.placeOf name i = place.placeOf key i then min 15 (cnt key R i + 1) else cnt key R i := by
  obtain ⟨hi', hp, e⟩ := cnt_get h key i hi
  obtain ⟨hi2, hp2, e2⟩ := cnt_get (addR_four (key := name) h) key i hi
  have hn := place.placeOf_bd name i
  have hk := place.placeOf_bd key i
  have hpn : (place.placeOf name i).toNat < (R[i]).length := by have := place_lt name i; rw [h.2 _ (List.getElem_mem hi')]; exact this
  rw [e2, e]
  have er : (addR name R)[i] = (R[i]).set (place.placeOf name i).toNat (min 15 ((R[i])[(place.placeOf name i).toNat] + 1)) := by
    have : (addR name R)[i] = raise (R[i]) (place.placeOf name i).toNat := by simp [addR]
    rw [this, raise_eq _ _ hpn (hs _ (List.getElem_mem hi'))]
  simp only [er, List.getElem_set]
  by_cases q : place.placeOf name i = place.placeOf key i
  · simp [q]
  · have q' : ¬ (place.placeOf name i).toNat = (place.placeOf key i).toNat := by omega
    rw [if_neg q, if_neg q']
theorem cnt_half {R : List (List Int)} (h : Four R) (key : ByteArray) (i : Nat) (hi : i < 4) : cnt key (halfR R) i = cnt key R i / 2 := by
  obtain ⟨hi', hp, e⟩ := cnt_get h key i hi
  obtain ⟨hi2, hp2, e2⟩ := cnt_get (halfR_four h) key i hi
  rw [e2, e]
  simp [halfR, half]

/-- the least count, out of the four -/
theorem est_four (key : ByteArray) (R : List (List Int)) : estN key R 4 = min (min (min (min 15 (cnt key R 0)) (cnt key R 1)) (cnt key R 2)) (cnt key R 3) := by
  rw [estN_cnt, estN_cnt, estN_cnt, estN_cnt]; rfl
theorem est_bd {R : List (List Int)} (h : Four R) (hs : Small R) (key : ByteArray) : 0 ≤ estN key R 4 ∧ estN key R 4 ≤ 15 := by
  rw [est_four]
  have h0 := cnt_bd h hs key 0 (by omega)
  have h1 := cnt_bd h hs key 1 (by omega)
  have h2 := cnt_bd h hs key 2 (by omega)
  have h3 := cnt_bd h hs key 3 (by omega)
  omega
/-- what is added is told once more; nothing else becomes less -/
theorem est_add {R : List (List Int)} (h : Four R) (hs : Small R) (name key : ByteArray) : estN key R 4 ≤ estN key (addR name R) 4 ∧ (name = key → estN key (addR name R) 4 = min 15 (estN key R 4 + 1)) := by
  rw [est_four, est_four, cnt_add h hs name key 0 (by omega), cnt_add h hs name key 1 (by omega), cnt_add h hs name key 2 (by omega), cnt_add h hs name key 3 (by omega)]
  have h0 := cnt_bd h hs key 0 (by omega)
  have h1 := cnt_bd h hs key 1 (by omega)
  have h2 := cnt_bd h hs key 2 (by omega)
  have h3 := cnt_bd h hs key 3 (by omega)
  constructor
  · split <;> split <;> split <;> split <;> omega
  · rintro rfl
    simp only [if_true]
    omega
theorem est_half {R : List (List Int)} (h : Four R) (key : ByteArray) : estN key R 4 / 2 ≤ estN key (halfR R) 4 := by
  rw [est_four, est_four, cnt_half h key 0 (by omega), cnt_half h key 1 (by omega), cnt_half h key 2 (by omega), cnt_half h key 3 (by omega)]
  omega

end Go.Proofs.Ytgdoclaifnnpgaa.sk
