/- Mathematics of queues of names, no Go in sight: the others, who is touched, who is sampled. -/
import Derived.Test.YtlakpibiojdgeaaRx0
namespace Go.Proofs.Ytlakpibiojdgeaa.rg
open Go.RowKit
set_option linter.unusedVariables false

/-- all but those that are s -/
def othersS (q : List ByteArray) (s : ByteArray) : List ByteArray := q.filter fun x => decide (x ≠ s)
theorem others_no {q : List ByteArray} {s : ByteArray} (h : s ∉ q) : othersS q s = q := by
  unfold othersS
  rw [List.filter_eq_self]
  intro x hx
  exact decide_eq_true fun e => h (e ▸ hx)
theorem others_at {q : List ByteArray} {s : ByteArray} {i : Nat} (hi : i < q.length) (hs : q[i] = s) (hn : q.Nodup) : othersS q s = q.take i ++ q.drop (i + 1) := by
  have h1 : q = q.take i ++ q[i] :: q.drop (i + 1) := by simp
  have hn2 := hn
  rw [h1, List.nodup_append, List.nodup_cons] at hn2
  obtain ⟨-, ⟨hd, -⟩, hne⟩ := hn2
  have e1 : othersS (q.take i) s = q.take i := others_no fun h => hne s h q[i] (List.mem_cons_self ..) hs.symm
  have e2 : othersS (q.drop (i + 1)) s = q.drop (i + 1) := others_no (by rw [← hs]; exact hd)
  have e3 : othersS q s = othersS (q.take i) s ++ othersS (q[i] :: q.drop (i + 1)) s := by
    unfold othersS
    rw [← List.filter_append, ← h1]
  rw [e3, e1]
  congr 1
  have : othersS (q[i] :: q.drop (i + 1)) s = othersS (q.drop (i + 1)) s := by
    unfold othersS
    rw [List.filter_cons, if_neg (by simp [hs])]
  rw [this, e2]
theorem others_cons (x : ByteArray) (q : List ByteArray) (s : ByteArray) : othersS (x :: q) s = if x = s then othersS q s else x :: othersS q s := by
  unfold othersS
  rw [List.filter_cons]
  by_cases h : x = s <;> simp [h]
theorem others_take_yes {q : List ByteArray} {s : ByteArray} {i : Nat} (hi : i < q.length) (h : q[i] = s) : othersS (q.take (i + 1)) s = othersS (q.take i) s := by
  rw [List.take_succ_eq_append_getElem hi]
  unfold othersS
  rw [List.filter_append]
  simp [h]
theorem others_take_no {q : List ByteArray} {s : ByteArray} {i : Nat} (hi : i < q.length) (h : q[i] ≠ s) : othersS (q.take (i + 1)) s = othersS (q.take i) s ++ [q[i]] := by
  rw [List.take_succ_eq_append_getElem hi]
  unfold othersS
  rw [List.filter_append]
  simp [h]
theorem others_sub (q : List ByteArray) (s : ByteArray) : (othersS q s).Sublist q := List.filter_sublist
theorem others_gone (q : List ByteArray) (s : ByteArray) : s ∉ othersS q s := by
  unfold othersS
  simp
theorem others_len (q : List ByteArray) (s : ByteArray) : (othersS q s).length ≤ q.length := (others_sub q s).length_le
theorem namesB_iff {q : List ByteArray} : namesB q = true ↔ NOk q := by unfold namesB; exact decide_eq_true_iff
theorem others_ok {q : List ByteArray} (s : ByteArray) (h : NOk q) : NOk (othersS q s) :=
  ⟨fun x hx => h.1 x ((others_sub q s).subset hx), h.2.1.sublist (others_sub q s), Nat.le_trans (others_len q s) h.2.2⟩

/-- may it be touched? -/
def mayT (q : List ByteArray) (s : ByteArray) : Bool := nameB s && !((othersS q s).length == 20)
def toB (q : List ByteArray) (s : ByteArray) : Bool := namesB q && mayT q s
def toR (q : List ByteArray) (s : ByteArray) : List ByteArray := if namesB q = true then (if mayT q s = true then othersS q s ++ [s] else othersS q s) else []
def wiR (q : List ByteArray) (s : ByteArray) : List ByteArray := if namesB q = true then othersS q s else []

/-- the model's way, of whatever list -/
def tqB (q : List ByteArray) (s : ByteArray) : Bool := if 0 ≤ posS s q then true else nameB s && !(q.length == 20)
def tqR (q : List ByteArray) (s : ByteArray) : List ByteArray :=
  if 0 ≤ posS s q then (q.take (posS s q).toNat ++ q.drop ((posS s q).toNat + 1)) ++ [s] else if (nameB s && !(q.length == 20)) = true then q ++ [s] else q
def cutR (q : List ByteArray) (s : ByteArray) : List ByteArray := if 0 ≤ posS s q then q.take (posS s q).toNat ++ q.drop ((posS s q).toNat + 1) else q
theorem cut_is {q : List ByteArray} {s : ByteArray} (h : NOk q) : cutR q s = othersS q s := by
  unfold cutR
  rcases posS_cases s q with ⟨h1, e⟩ | ⟨i, hi, h1, h2, e⟩
  · rw [e, if_neg (by omega), others_no h1]
  · rw [e, if_pos (by omega), others_at hi h1 h.2.1]
    simp
theorem tq_is {q : List ByteArray} {s : ByteArray} (h : NOk q) : tqB q s = toB q s ∧ tqR q s = toR q s := by
  unfold tqB tqR toB toR
  rw [namesB_iff.2 h, if_pos rfl, Bool.true_and]
  rcases posS_cases s q with ⟨h1, e⟩ | ⟨i, hi, h1, h2, e⟩
  · have hm : mayT q s = (nameB s && !(q.length == 20)) := by unfold mayT; rw [others_no h1]
    rw [e, if_neg (by omega), if_neg (by omega), hm, others_no h1]
    exact ⟨rfl, rfl⟩
  · have hl : (othersS q s).length + 1 = q.length := by
      rw [others_at hi h1 h.2.1]
      simp
      omega
    have hm : mayT q s = true := by
      unfold mayT
      rw [h.1 s (h1 ▸ List.getElem_mem hi)]
      have := h.2.2
      have h3 : ((othersS q s).length == 20) = false := by simp; omega
      rw [h3]
      rfl
    rw [e, if_pos (by omega), if_pos (by omega), hm, if_pos rfl, others_at hi h1 h.2.1]
    exact ⟨rfl, by simp⟩
theorem wi_is {q : List ByteArray} {s : ByteArray} (h : namesB q = true) : cutR q s = wiR q s := by
  rw [cut_is (namesB_iff.1 h)]
  unfold wiR
  rw [if_pos h]
theorem to_no {q : List ByteArray} {s : ByteArray} (h : namesB q = false) : toB q s = false ∧ toR q s = [] := by unfold toB toR; rw [h]; exact ⟨rfl, rfl⟩
theorem wi_no {q : List ByteArray} {s : ByteArray} (h : namesB q = false) : wiR q s = [] := by unfold wiR; rw [h]; rfl
theorem toR_len (q : List ByteArray) (s : ByteArray) : (toR q s).length ≤ 21 := by
  unfold toR
  split
  · rename_i h
    have h1 := (namesB_iff.1 h).2.2
    have h2 := others_len q s
    split
    · simp; omega
    · omega
  · simp
theorem wiR_len (q : List ByteArray) (s : ByteArray) : (wiR q s).length ≤ 21 := by
  unfold wiR
  split
  · rename_i h
    have h1 := (namesB_iff.1 h).2.2
    have h2 := others_len q s
    omega
  · simp
/-- who is touched stands behind the others, and it is a queue -/
theorem to_ok {q : List ByteArray} {s : ByteArray} (h : toB q s = true) : toR q s = othersS q s ++ [s] ∧ NOk (toR q s) ∧ NOk q ∧ wiR q s = othersS q s := by
  unfold toB at h
  rw [Bool.and_eq_true] at h
  obtain ⟨h1, h2⟩ := h
  have hq := namesB_iff.1 h1
  have e : toR q s = othersS q s ++ [s] := by unfold toR; rw [if_pos h1, if_pos h2]
  refine ⟨e, ?_, hq, by unfold wiR; rw [if_pos h1]⟩
  have ho := others_ok s hq
  unfold mayT at h2
  simp only [Bool.and_eq_true, Bool.not_eq_true', beq_eq_false_iff_ne] at h2
  rw [e]
  refine ⟨fun x hx => ?_, ?_, ?_⟩
  · rcases List.mem_append.1 hx with z | z
    · exact ho.1 x z
    · rw [List.mem_singleton.1 z]; exact h2.1
  · rw [List.nodup_append]
    refine ⟨ho.2.1, by simp, fun a ha b hb e => ?_⟩
    rw [List.mem_singleton.1 hb] at e
    exact others_gone q s (e ▸ ha)
  · have := ho.2.2
    rw [List.length_append, List.length_singleton]
    omega
/-- who may not be touched, of a queue: it stays -/
theorem to_stay {q : List ByteArray} {s : ByteArray} (hq : namesB q = true) (h : toB q s = false) : toR q s = q := by
  have hk := namesB_iff.1 hq
  have h2 : mayT q s = false := by unfold toB at h; rw [hq] at h; simpa using h
  unfold toR
  rw [if_pos hq, if_neg (by rw [h2]; decide)]
  refine others_no fun hm => ?_
  have hn := hk.1 s hm
  unfold mayT at h2
  rw [hn] at h2
  simp at h2
  obtain ⟨i, hi, e⟩ := List.mem_iff_getElem.1 hm
  have := hk.2.2
  have h3 := others_at hi e hk.2.1
  rw [h3] at h2
  simp at h2
  omega

/-! ### places -/
/-- the next place -/
def nxt (n p : Nat) : Nat := (7 * p + 3) % n
/-- the foremost of k places from p on, and of b -/
def mins (n : Nat) : Nat → Nat → Nat → Nat
  | 0, b, _ => b
  | k + 1, b, p => mins n k (min b p) (nxt n p)
theorem mins_le (n : Nat) : ∀ k b p, mins n k b p ≤ b
  | 0, b, p => Nat.le_refl _
  | k + 1, b, p => Nat.le_trans (mins_le n k (min b p) (nxt n p)) (Nat.min_le_left _ _)
theorem mins_more (n : Nat) : ∀ k b p, mins n (k + 1) b p ≤ mins n k b p
  | 0, b, p => Nat.min_le_left _ _
  | k + 1, b, p => by
    show mins n (k + 1) (min b p) (nxt n p) ≤ mins n k (min b p) (nxt n p)
    exact mins_more n k _ _
theorem mins_lt {n k p : Nat} (hk : 1 ≤ k) (hp : p < n) : mins n k n p < n := by
  obtain ⟨j, rfl⟩ : ∃ j, k = j + 1 := ⟨k - 1, by omega⟩
  exact Nat.lt_of_le_of_lt (mins_le n j (min n p) (nxt n p)) (by rw [Nat.min_eq_right (by omega)]; exact hp)
theorem mins_one {n p : Nat} (hp : p < n) : mins n 1 n p = p := Nat.min_eq_right (by omega)
/-- what the k-th place is -/
def plc (n p : Nat) : Nat → Nat
  | 0 => p
  | k + 1 => plc n (nxt n p) k
theorem plc_succ (n : Nat) : ∀ k p, plc n p (k + 1) = nxt n (plc n p k)
  | 0, p => rfl
  | k + 1, p => by
    show plc n (nxt n p) (k + 1) = nxt n (plc n (nxt n p) k)
    exact plc_succ n k _
theorem nxt_lt {n : Nat} (hn : 0 < n) (p : Nat) : nxt n p < n := Nat.mod_lt _ hn
theorem plc_lt {n p : Nat} (hp : p < n) : ∀ k, plc n p k < n
  | 0 => hp
  | k + 1 => by rw [plc_succ]; exact nxt_lt (by omega) _
theorem mins_succ (n : Nat) : ∀ k b p, mins n (k + 1) b p = min (mins n k b p) (plc n p k)
  | 0, b, p => rfl
  | k + 1, b, p => by
    show mins n (k + 1) (min b p) (nxt n p) = min (mins n k (min b p) (nxt n p)) (plc n (nxt n p) k)
    exact mins_succ n k _ _
/-- the places as a list -/
def plcs (n p k : Nat) : List Int := (List.range k).map fun i => (plc n p i : Int)
theorem plcs_len (n p k : Nat) : (plcs n p k).length = k := by simp [plcs]
theorem plcs_get {n p k i : Nat} (h : i < (plcs n p k).length) : (plcs n p k)[i] = (plc n p i : Int) := by simp [plcs]
theorem plcs_succ (n p k : Nat) : plcs n p (k + 1) = plcs n p k ++ [(plc n p k : Int)] := by simp [plcs, List.range_succ]
theorem mod_tm {s : Int} {n : Nat} (hs : 0 ≤ s) : s.tmod (n : Int) = ((s.toNat % n : Nat) : Int) := by
  obtain ⟨k, rfl⟩ : ∃ k : Nat, s = k := ⟨s.toNat, by omega⟩
  rw [Int.tmod_eq_emod_of_nonneg (by omega)]
  simp

/-- is it in range? -/
def saB (q : List ByteArray) (s m : Int) : Bool := namesB q && !((q.length : Int) == 0) && (decide (0 ≤ s) && decide (s ≤ 1000000)) && (decide (1 ≤ m) && decide (m ≤ 20))
def saI (q : List ByteArray) (s m : Int) : Nat := mins q.length m.toNat q.length (s.toNat % q.length)
def saS (q : List ByteArray) (s m : Int) : ByteArray := if saB q s m = true then (q[saI q s m]?).getD ⟨#[]⟩ else ⟨#[]⟩
structure SOk (q : List ByteArray) (s m : Int) : Prop where
  nk : NOk q
  n0 : 0 < q.length
  s0 : 0 ≤ s
  s1 : s ≤ 1000000
  m0 : 1 ≤ m
  m1 : m ≤ 20
theorem saB_iff {q : List ByteArray} {s m : Int} : saB q s m = true ↔ SOk q s m := by
  simp only [saB, Bool.and_eq_true, decide_eq_true_eq, Bool.not_eq_true', beq_eq_false_iff_ne, namesB_iff]
  exact ⟨fun ⟨⟨⟨h1, h2⟩, h3, h4⟩, h5, h6⟩ => ⟨h1, by omega, h3, h4, h5, h6⟩, fun ⟨h1, h2, h3, h4, h5, h6⟩ => ⟨⟨⟨h1, by omega⟩, h3, h4⟩, h5, h6⟩⟩
theorem saI_lt {q : List ByteArray} {s m : Int} (h : SOk q s m) : saI q s m < q.length := mins_lt (by have := h.m0; omega) (Nat.mod_lt _ h.n0)
theorem saS_yes {q : List ByteArray} {s m : Int} (h : SOk q s m) : saS q s m = q[saI q s m]'(saI_lt h) := by
  unfold saS
  rw [if_pos (saB_iff.2 h), List.getElem?_eq_getElem (saI_lt h)]
  rfl
theorem saS_no {q : List ByteArray} {s m : Int} (h : saB q s m = false) : saS q s m = ⟨#[]⟩ := by
  unfold saS
  rw [h]
  rfl
end Go.Proofs.Ytlakpibiojdgeaa.rg
