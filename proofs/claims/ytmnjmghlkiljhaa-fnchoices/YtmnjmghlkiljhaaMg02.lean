/- Texts laid together: Qx0 Hx0 CeOps Ro1 Ro2 Ro3 Ro11 Qo1. -/
import Derived.Test.YtmnjmghlkiljhaaMg01
import Derived.Test.YtmnjmghlkiljhaaRows
import Derived.WalkKit
import Derived.ProofKit
import Derived.OpenShut
import Derived.Below
import Derived.OwnWalk
import Derived.ArgAppend
import Derived.Deep.MidRow
import Derived.Deep.OwnRows
import Derived.Deep.RegionHeld3
import Derived.Deep.RegionLaw
import Derived.BigQuiet
import Derived.Laws.AppendOwnNone
import Derived.Lib.SliceRun
/- Mathematics of queues of names, no Go in sight: the others, who is touched, who is sampled. -/
namespace Go.Proofs.Ytmnjmghlkiljhaa.rg
open Go.RowKit
set_option linter.unusedVariables false

/-- all but those that are s -/
def othersS (q : List ByteArray) (s : ByteArray) : List ByteArray := q.filter fun x => decide (x ≠ s)
theorem others_no {q : List ByteArray} {s : ByteArray} (h : s ∉ q) : othersS q s = q := by
  unfold othersS
  rw [List.filter_eq_self]
  intro x hx
  exact decide_eq_true fun e => h (e ▸ hx)
theorem others_at {q : List ByteArray} {s : ByteArray} {i : Nat} (hi : i < q.length) (hs : q[i] = s) (hn : q.Nodup) : othersS q s = q.take i ++ q.drop (i + 1) := by
  have h1 : q = q.take i ++ q[i] :: q.drop (i + 1) := by simp
  have hn2 := hn
  rw [h1, List.nodup_append, List.nodup_cons] at hn2
  obtain ⟨-, ⟨hd, -⟩, hne⟩ := hn2
  have e1 : othersS (q.take i) s = q.take i := others_no fun h => hne s h q[i] (List.mem_cons_self ..) hs.symm
  have e2 : othersS (q.drop (i + 1)) s = q.drop (i + 1) := others_no (by rw [← hs]; exact hd)
  have e3 : othersS q s = othersS (q.take i) s ++ othersS (q[i] :: q.drop (i + 1)) s := by
    unfold othersS
    rw [← List.filter_append, ← h1]
  rw [e3, e1]
  congr 1
  have : othersS (q[i] :: q.drop (i + 1)) s = othersS (q.drop (i + 1)) s := by
    unfold othersS
    rw [List.filter_cons, if_neg (by simp [hs])]
  rw [this, e2]
theorem others_cons (x : ByteArray) (q : List ByteArray) (s : ByteArray) : othersS (x :: q) s = if x = s then othersS q s else x :: othersS q s := by
  unfold othersS
  rw [List.filter_cons]
  by_cases h : x = s <;> simp [h]
theorem others_take_yes {q : List ByteArray} {s : ByteArray} {i : Nat} (hi : i < q.length) (h : q[i] = s) : othersS (q.take (i + 1)) s = othersS (q.take i) s := by
  rw [List.take_succ_eq_append_getElem hi]
  unfold othersS
  rw [List.filter_append]
  simp [h]
theorem others_take_no {q : List ByteArray} {s : ByteArray} {i : Nat} (hi : i < q.length) (h : q[i] ≠ s) : othersS (q.take (i + 1)) s = othersS (q.take i) s ++ [q[i]] := by
  rw [List.take_succ_eq_append_getElem hi]
  unfold othersS
  rw [List.filter_append]
  simp [h]
theorem others_sub (q : List ByteArray) (s : ByteArray) : (othersS q s).Sublist q := List.filter_sublist
theorem others_gone (q : List ByteArray) (s : ByteArray) : s ∉ othersS q s := by
  unfold othersS
  simp
theorem others_len (q : List ByteArray) (s : ByteArray) : (othersS q s).length ≤ q.length := (others_sub q s).length_le
theorem namesB_iff {q : List ByteArray} : namesB q = true ↔ NOk q := by unfold namesB; exact decide_eq_true_iff
theorem others_ok {q : List ByteArray} (s : ByteArray) (h : NOk q) : NOk (othersS q s) :=
  ⟨fun x hx => h.1 x ((others_sub q s).subset hx), h.2.1.sublist (others_sub q s), Nat.le_trans (others_len q s) h.2.2⟩

/-- may it be touched? -/
def mayT (q : List ByteArray) (s : ByteArray) : Bool := nameB s && !((othersS q s).length == 20)
def toB (q : List ByteArray) (s : ByteArray) : Bool := namesB q && mayT q s
def toR (q : List ByteArray) (s : ByteArray) : List ByteArray := if namesB q = true then (if mayT q s = true then othersS q s ++ [s] else othersS q s) else []
def wiR (q : List ByteArray) (s : ByteArray) : List ByteArray := if namesB q = true then othersS q s else []

/-- the model's way, of whatever list -/
def tqB (q : List ByteArray) (s : ByteArray) : Bool := if 0 ≤ posS s q then true else nameB s && !(q.length == 20)
def tqR (q : List ByteArray) (s : ByteArray) : List ByteArray :=
  if 0 ≤ posS s q then (q.take (posS s q).toNat ++ q.drop ((posS s q).toNat + 1)) ++ [s] else if (nameB s && !(q.length == 20)) = true then q ++ [s] else q
def cutR (q : List ByteArray) (s : ByteArray) : List ByteArray := if 0 ≤ posS s q then q.take (posS s q).toNat ++ q.drop ((posS s q).toNat + 1) else q
theorem cut_is {q : List ByteArray} {s : ByteArray} (h : NOk q) : cutR q s = othersS q s := by
  unfold cutR
  rcases posS_cases s q with ⟨h1, e⟩ | ⟨i, hi, h1, h2, e⟩
  · rw [e, if_neg (by omega), others_no h1]
  · rw [e, if_pos (by omega), others_at hi h1 h.2.1]
    simp
theorem tq_is {q : List ByteArray} {s : ByteArray} (h : NOk q) : tqB q s = toB q s ∧ tqR q s = toR q s := by
  unfold tqB tqR toB toR
  rw [namesB_iff.2 h, if_pos rfl, Bool.true_and]
  rcases posS_cases s q with ⟨h1, e⟩ | ⟨i, hi, h1, h2, e⟩
  · have hm : mayT q s = (nameB s && !(q.length == 20)) := by unfold mayT; rw [others_no h1]
    rw [e, if_neg (by omega), if_neg (by omega), hm, others_no h1]
    exact ⟨rfl, rfl⟩
  · have hl : (othersS q s).length + 1 = q.length := by
      rw [others_at hi h1 h.2.1]
      simp
      omega
    have hm : mayT q s = true := by
      unfold mayT
      rw [h.1 s (h1 ▸ List.getElem_mem hi)]
      have := h.2.2
      have h3 : ((othersS q s).length == 20) = false := by simp; omega
      rw [h3]
      rfl
    rw [e, if_pos (by omega), if_pos (by omega), hm, if_pos rfl, others_at hi h1 h.2.1]
    exact ⟨rfl, by simp⟩
theorem wi_is {q : List ByteArray} {s : ByteArray} (h : namesB q = true) : cutR q s = wiR q s := by
  rw [cut_is (namesB_iff.1 h)]
  unfold wiR
  rw [if_pos h]
theorem to_no {q : List ByteArray} {s : ByteArray} (h : namesB q = false) : toB q s = false ∧ toR q s = [] := by unfold toB toR; rw [h]; exact ⟨rfl, rfl⟩
theorem wi_no {q : List ByteArray} {s : ByteArray} (h : namesB q = false) : wiR q s = [] := by unfold wiR; rw [h]; rfl
theorem toR_len (q : List ByteArray) (s : ByteArray) : (toR q s).length ≤ 21 := by
  unfold toR
  split
  · rename_i h
    have h1 := (namesB_iff.1 h).2.2
    have h2 := others_len q s
    split
    · simp; omega
    · omega
  · simp
theorem wiR_len (q : List ByteArray) (s : ByteArray) : (wiR q s).length ≤ 21 := by
  unfold wiR
  split
  · rename_i h
    have h1 := (namesB_iff.1 h).2.2
    have h2 := others_len q s
    omega
  · simp
/-- who is touched stands behind the others, and it is a queue -/
theorem to_ok {q : List ByteArray} {s : ByteArray} (h : toB q s = true) : toR q s = othersS q s ++ [s] ∧ NOk (toR q s) ∧ NOk q ∧ wiR q s = othersS q s := by
  unfold toB at h
  rw [Bool.and_eq_true] at h
  obtain ⟨h1, h2⟩ := h
  have hq := namesB_iff.1 h1
  have e : toR q s = othersS q s ++ [s] := by unfold toR; rw [if_pos h1, if_pos h2]
  refine ⟨e, ?_, hq, by unfold wiR; rw [if_pos h1]⟩
  have ho := others_ok s hq
  unfold mayT at h2
  simp only [Bool.and_eq_true, Bool.not_eq_true', beq_eq_false_iff_ne] at h2
  rw [e]
  refine ⟨fun x hx => ?_, ?_, ?_⟩
  · rcases List.mem_append.1 hx with z | z
    · exact ho.1 x z
    · rw [List.mem_singleton.1 z]; exact h2.1
  · rw [List.nodup_append]
    refine ⟨ho.2.1, by simp, fun a ha b hb e => ?_⟩
    rw [List.mem_singleton.1 hb] at e
    exact others_gone q s (e ▸ ha)
  · have := ho.2.2
    rw [List.length_append, List.length_singleton]
    omega
/-- who may not be touched, of a queue: it stays -/
theorem to_stay {q : List ByteArray} {s : ByteArray} (hq : namesB q = true) (h : toB q s = false) : toR q s = q := by
  have hk := namesB_iff.1 hq
  have h2 : mayT q s = false := by unfold toB at h; rw [hq] at h; simpa using h
  unfold toR
  rw [if_pos hq, if_neg (by rw [h2]; decide)]
  refine others_no fun hm => ?_
  have hn := hk.1 s hm
  unfold mayT at h2
  rw [hn] at h2
  simp at h2
  obtain ⟨i, hi, e⟩ := List.mem_iff_getElem.1 hm
  have := hk.2.2
  have h3 := others_at hi e hk.2.1
  rw [h3] at h2
  simp at h2
  omega

/-! ### places -/
/-- the next place -/
def nxt (n p : Nat) : Nat := (7 * p + 3) % n
/-- the foremost of k places from p on, and of b -/
def mins (n : Nat) : Nat → Nat → Nat → Nat
  | 0, b, _ => b
  | k + 1, b, p => mins n k (min b p) (nxt n p)
theorem mins_le (n : Nat) : ∀ k b p, mins n k b p ≤ b
  | 0, b, p => Nat.le_refl _
  | k + 1, b, p => Nat.le_trans (mins_le n k (min b p) (nxt n p)) (Nat.min_le_left _ _)
theorem mins_more (n : Nat) : ∀ k b p, mins n (k + 1) b p ≤ mins n k b p
  | 0, b, p => Nat.min_le_left _ _
  | k + 1, b, p => by
    show mins n (k + 1) (min b p) (nxt n p) ≤ mins n k (min b p) (nxt n p)
    exact mins_more n k _ _
theorem mins_lt {n k p : Nat} (hk : 1 ≤ k) (hp : p < n) : mins n k n p < n := by
  obtain ⟨j, rfl⟩ : ∃ j, k = j + 1 := ⟨k - 1, by omega⟩
  exact Nat.lt_of_le_of_lt (mins_le n j (min n p) (nxt n p)) (by rw [Nat.min_eq_right (by omega)]; exact hp)
theorem mins_one {n p : Nat} (hp : p < n) : mins n 1 n p = p := Nat.min_eq_right (by omega)
/-- what the k-th place is -/
def plc (n p : Nat) : Nat → Nat
  | 0 => p
  | k + 1 => plc n (nxt n p) k
theorem plc_succ (n : Nat) : ∀ k p, plc n p (k + 1) = nxt n (plc n p k)
  | 0, p => rfl
  | k + 1, p => by
    show plc n (nxt n p) (k + 1) = nxt n (plc n (nxt n p) k)
    exact plc_succ n k _
theorem nxt_lt {n : Nat} (hn : 0 < n) (p : Nat) : nxt n p < n := Nat.mod_lt _ hn
theorem plc_lt {n p : Nat} (hp : p < n) : ∀ k, plc n p k < n
  | 0 => hp
  | k + 1 => by rw [plc_succ]; exact nxt_lt (by omega) _
theorem mins_succ (n : Nat) : ∀ k b p, mins n (k + 1) b p = min (mins n k b p) (plc n p k)
  | 0, b, p => rfl
  | k + 1, b, p => by
    show mins n (k + 1) (min b p) (nxt n p) = min (mins n k (min b p) (nxt n p)) (plc n (nxt n p) k)
    exact mins_succ n k _ _
/-- the places as a list -/
def plcs (n p k : Nat) : List Int := (List.range k).map fun i => (plc n p i : Int)
theorem plcs_len (n p k : Nat) : (plcs n p k).length = k := by simp [plcs]
theorem plcs_get {n p k i : Nat} (h : i < (plcs n p k).length) : (plcs n p k)[i] = (plc n p i : Int) := by simp [plcs]
theorem plcs_succ (n p k : Nat) : plcs n p (k + 1) = plcs n p k ++ [(plc n p k : Int)] := by simp [plcs, List.range_succ]
theorem mod_tm {s : Int} {n : Nat} (hs : 0 ≤ s) : s.tmod (n : Int) = ((s.toNat % n : Nat) : Int) := by
  obtain ⟨k, rfl⟩ : ∃ k : Nat, s = k := ⟨s.toNat, by omega⟩
  rw [Int.tmod_eq_emod_of_nonneg (by omega)]
  simp

/-- is it in range? -/
def saB (q : List ByteArray) (s m : Int) : Bool := namesB q && !((q.length : Int) == 0) && (decide (0 ≤ s) && decide (s ≤ 1000000)) && (decide (1 ≤ m) && decide (m ≤ 20))
def saI (q : List ByteArray) (s m : Int) : Nat := mins q.length m.toNat q.length (s.toNat % q.length)
def saS (q : List ByteArray) (s m : Int) : ByteArray := if saB q s m = true then (q[saI q s m]?).getD ⟨#[]⟩ else ⟨#[]⟩
structure SOk (q : List ByteArray) (s m : Int) : Prop where
  nk : NOk q
  n0 : 0 < q.length
  s0 : 0 ≤ s
  s1 : s ≤ 1000000
  m0 : 1 ≤ m
  m1 : m ≤ 20
theorem saB_iff {q : List ByteArray} {s m : Int} : saB q s m = true ↔ SOk q s m := by
  simp only [saB, Bool.and_eq_true, decide_eq_true_eq, Bool.not_eq_true', beq_eq_false_iff_ne, namesB_iff]
  exact ⟨fun ⟨⟨⟨h1, h2⟩, h3, h4⟩, h5, h6⟩ => ⟨h1, by omega, h3, h4, h5, h6⟩, fun ⟨h1, h2, h3, h4, h5, h6⟩ => ⟨⟨⟨h1, by omega⟩, h3, h4⟩, h5, h6⟩⟩
theorem saI_lt {q : List ByteArray} {s m : Int} (h : SOk q s m) : saI q s m < q.length := mins_lt (by have := h.m0; omega) (Nat.mod_lt _ h.n0)
theorem saS_yes {q : List ByteArray} {s m : Int} (h : SOk q s m) : saS q s m = q[saI q s m]'(saI_lt h) := by
  unfold saS
  rw [if_pos (saB_iff.2 h), List.getElem?_eq_getElem (saI_lt h)]
  rfl
theorem saS_no {q : List ByteArray} {s m : Int} (h : saB q s m = false) : saS q s m = ⟨#[]⟩ := by
  unfold saS
  rw [h]
  rfl
end Go.Proofs.Ytmnjmghlkiljhaa.rg
/- Mathematics of choices (who must go), no Go in sight: the names part: a ring or a queue of names; who is seen, forgotten, who must go. The sketch stands apart. -/
namespace Go.Proofs.Ytmnjmghlkiljhaa.rg
open Go.RowKit
set_option linter.unusedVariables false

/-- which way (1: a clock, 2: a queue), with a ring and a queue -/
structure Hc where
  K : Int
  R : Rg
  Q : List ByteArray
def Hc.zero : Hc := ⟨0, Rg.zero, []⟩
/-- the names part is right -/
def hcB (c : Hc) : Bool := ringB c.R && namesB c.Q && (decide (c.K = 1) && decide (c.Q.length = 0) || decide (c.K = 2) && decide (c.R.N.length = 0))
structure HOk (c : Hc) : Prop where
  r : ROk c.R
  q : NOk c.Q
  way : (c.K = 1 ∧ c.Q = []) ∨ (c.K = 2 ∧ c.R.N = [])
theorem hcB_iff {c : Hc} : hcB c = true ↔ HOk c := by
  simp only [hcB, Bool.and_eq_true, Bool.or_eq_true, decide_eq_true_eq, ringB_iff, namesB_iff, List.length_eq_zero_iff]
  exact ⟨fun ⟨⟨a, b⟩, h⟩ => ⟨a, b, h⟩, fun ⟨a, b, h⟩ => ⟨⟨a, b⟩, h⟩⟩
def namesH (c : Hc) : List ByteArray := if c.K = 2 then c.Q else c.R.N
theorem HOk.names {c : Hc} (h : HOk c) : NOk (namesH c) := by
  unfold namesH
  split
  · exact h.q
  · exact ⟨h.r.nm, h.r.nd, h.r.le⟩
theorem hnew_ok {k : Int} (h : k = 1 ∨ k = 2) : HOk ⟨k, Rg.zero, []⟩ :=
  ⟨⟨by simp [Rg.zero], by simp [Rg.zero], by simp [Rg.zero], by simp [Rg.zero], by simp [Rg.zero], by show (0 : Int) < max ((0 : Nat) : Int) 1; decide⟩, ⟨by simp, by simp, by simp⟩, h.imp (fun e => ⟨e, rfl⟩) (fun e => ⟨e, rfl⟩)⟩

/-! ### who is seen -/
def ringSee (r : Rg) (s : ByteArray) : Rg := if 0 ≤ posS s r.N then used r s else if mayB r s = true then joined r s else r
def seeH (c : Hc) (s : ByteArray) : Hc := if nameB s = true then (if c.K = 2 then ⟨c.K, c.R, tqR c.Q s⟩ else ⟨c.K, ringSee c.R s, c.Q⟩) else c
theorem used_ok {r : Rg} (h : ROk r) (s : ByteArray) : ROk (used r s) := by
  unfold used
  split
  · exact ⟨h.nm, h.nd, h.le, by show (List.set _ _ _).length = _; rw [List.length_set]; exact h.us, h.a0, h.a1⟩
  · exact h
theorem ringSee_ok {r : Rg} (h : ROk r) (s : ByteArray) : ROk (ringSee r s) := by
  unfold ringSee
  split
  · exact used_ok h s
  · split
    · exact joined_ok h (by assumption)
    · exact h
theorem toR_ok {q : List ByteArray} (h : NOk q) (s : ByteArray) : NOk (toR q s) := by
  cases hb : toB q s with
  | true => exact (to_ok hb).2.1
  | false => rw [to_stay (namesB_iff.2 h) hb]; exact h
theorem seeH_ok {c : Hc} (h : HOk c) (s : ByteArray) : HOk (seeH c s) := by
  unfold seeH
  split
  · split
    · rename_i hk
      refine ⟨h.r, ?_, .inr ⟨hk, ?_⟩⟩
      · show NOk (tqR c.Q s)
        rw [(tq_is h.q).2]
        exact toR_ok h.q s
      · rcases h.way with w | w
        · have := w.1; omega
        · exact w.2
    · rename_i hk
      refine ⟨ringSee_ok h.r s, h.q, .inl ?_⟩
      rcases h.way with w | w
      · exact w
      · exact absurd w.1 hk
  · exact h
theorem ringSee_names (r : Rg) (s : ByteArray) : (ringSee r s).N = if 0 ≤ posS s r.N then r.N else if mayB r s = true then r.N ++ [s] else r.N := by
  unfold ringSee
  split
  · unfold used
    rw [if_pos (by assumption)]
  · split <;> rfl
/-- nobody is lost where one is seen; who is seen is there, or there is no room -/
theorem seeH_says {c : Hc} (h : HOk c) {s : ByteArray} (hs : nameB s = true) : (∀ x ∈ namesH c, x ∈ namesH (seeH c s)) ∧ (s ∈ namesH (seeH c s) ∨ (namesH c).length = 20) := by
  unfold seeH
  rw [if_pos hs]
  by_cases hk : c.K = 2
  · rw [if_pos hk]
    have e : namesH ⟨c.K, c.R, tqR c.Q s⟩ = toR c.Q s := by
      unfold namesH
      rw [if_pos hk]
      exact (tq_is h.q).2
    have e2 : namesH c = c.Q := by unfold namesH; rw [if_pos hk]
    rw [e, e2]
    cases hb : toB c.Q s with
    | true =>
      rw [(to_ok hb).1]
      refine ⟨fun x hx => ?_, .inl (by simp)⟩
      by_cases hx2 : x = s
      · rw [hx2]; simp
      · exact List.mem_append_left _ (by unfold othersS; simp [hx, hx2])
    | false =>
      rw [to_stay (namesB_iff.2 h.q) hb]
      refine ⟨fun x hx => hx, ?_⟩
      by_cases hm : s ∈ c.Q
      · exact .inl hm
      · refine .inr ?_
        unfold toB at hb
        rw [namesB_iff.2 h.q] at hb
        simp only [mayT, hs, Bool.true_and, others_no hm] at hb
        simpa using hb
  · rw [if_neg hk]
    have e : namesH ⟨c.K, ringSee c.R s, c.Q⟩ = (ringSee c.R s).N := by unfold namesH; rw [if_neg hk]
    have e2 : namesH c = c.R.N := by unfold namesH; rw [if_neg hk]
    rw [e, e2, ringSee_names]
    by_cases hp : 0 ≤ posS s c.R.N
    · rw [if_pos hp]
      exact ⟨fun x hx => hx, .inl (posS_mem.2 hp)⟩
    · rw [if_neg hp]
      by_cases hm : mayB c.R s = true
      · rw [if_pos hm]
        exact ⟨fun x hx => List.mem_append_left _ hx, .inl (by simp)⟩
      · rw [if_neg hm]
        refine ⟨fun x hx => hx, .inr ?_⟩
        simp only [mayB, hs, Bool.true_and] at hm
        rw [decide_eq_true (by omega)] at hm
        simpa using hm

/-! ### who is forgotten -/
def ringForget (r : Rg) (s : ByteArray) : Rg := if 0 ≤ posS s r.N then left r (posS s r.N).toNat else r
def forgetH (c : Hc) (s : ByteArray) : Hc := if c.K = 2 then ⟨c.K, c.R, cutR c.Q s⟩ else ⟨c.K, ringForget c.R s, c.Q⟩
theorem pos_lt {s : ByteArray} {N : List ByteArray} (h : 0 ≤ posS s N) : (posS s N).toNat < N.length := by have := (posS_bd s N).2; omega
theorem pos_get {s : ByteArray} {N : List ByteArray} (h : 0 ≤ posS s N) : N[(posS s N).toNat]'(pos_lt h) = s := by
  rcases posS_cases s N with ⟨-, e⟩ | ⟨i, hi, e, -, e2⟩
  · omega
  · have : (posS s N).toNat = i := by omega
    simp only [this]
    exact e
theorem forgetH_ok {c : Hc} (h : HOk c) (s : ByteArray) : HOk (forgetH c s) ∧ s ∉ namesH (forgetH c s) := by
  unfold forgetH
  by_cases hk : c.K = 2
  · rw [if_pos hk]
    have hr : c.R.N = [] := by
      rcases h.way with w | w
      · have := w.1; omega
      · exact w.2
    have e : namesH ⟨c.K, c.R, cutR c.Q s⟩ = cutR c.Q s := by unfold namesH; rw [if_pos hk]
    rw [e]
    rw [cut_is h.q]
    exact ⟨⟨h.r, others_ok s h.q, .inr ⟨hk, hr⟩⟩, others_gone _ _⟩
  · rw [if_neg hk]
    have hq : c.K = 1 ∧ c.Q = [] := by
      rcases h.way with w | w
      · exact w
      · exact absurd w.1 hk
    have e : namesH ⟨c.K, ringForget c.R s, c.Q⟩ = (ringForget c.R s).N := by unfold namesH; rw [if_neg hk]
    rw [e]
    unfold ringForget
    by_cases hp : 0 ≤ posS s c.R.N
    · rw [if_pos hp]
      refine ⟨⟨left_ok h.r (pos_lt hp), h.q, .inl hq⟩, ?_⟩
      have := left_gone h.r (pos_lt hp)
      rw [pos_get hp] at this
      exact this
    · rw [if_neg hp]
      exact ⟨⟨h.r, h.q, .inl hq⟩, fun q => hp (posS_mem.1 q)⟩

/-! ### who must go: the clock's way -/
/-- the hand turned once -/
def tn (r : Rg) : Rg := ⟨r.N, (turned r).1, ((turned r).2 : Int)⟩
/-- one place further -/
def nx (r : Rg) : Rg := ⟨r.N, r.U, (r.A + 1) % (r.N.length : Int)⟩
/-- the name at the hand -/
def atN (r : Rg) : ByteArray := (r.N[r.A.toNat]?).getD ⟨#[]⟩
/-- turned until the name at the hand is another, at most f times more -/
def tnBut (but : ByteArray) : Nat → Rg → Rg
  | 0, r => r
  | f + 1, r => if atN r = but then tnBut but f (tn (nx r)) else r
theorem tn_ok {r : Rg} (h : ROk r) (hn : r.N.length ≠ 0) : ROk (tn r) ∧ Stop r (tn r).U (tn r).A.toNat ∧ (tn r).N = r.N := by
  have s := turned_stop h hn
  exact ⟨turned_ok h s, by show Stop r (turned r).1 ((turned r).2 : Int).toNat; rw [Int.toNat_natCast]; exact s, rfl⟩
theorem nx_ok {r : Rg} (h : ROk r) (hn : r.N.length ≠ 0) : ROk (nx r) := by
  refine ⟨h.nm, h.nd, h.le, h.us, ?_, ?_⟩
  · exact Int.emod_nonneg _ (by omega)
  · show (r.A + 1) % (r.N.length : Int) < max (r.N.length : Int) 1
    have := Int.emod_lt_of_pos (r.A + 1) (b := (r.N.length : Int)) (by omega)
    omega
theorem atN_lt {r : Rg} (h : ROk r) (hn : r.N.length ≠ 0) : r.A.toNat < r.N.length := by have := h.a0; have := h.a1; omega
theorem atN_get {r : Rg} (h : ROk r) (hn : r.N.length ≠ 0) : atN r = r.N[r.A.toNat]'(atN_lt h hn) := by
  unfold atN
  rw [List.getElem?_eq_getElem (atN_lt h hn)]
  rfl
theorem atN_mem {r : Rg} (h : ROk r) (hn : r.N.length ≠ 0) : atN r ∈ r.N := by rw [atN_get h hn]; exact List.getElem_mem _
theorem nodup_at {l : List ByteArray} (h : l.Nodup) {i j : Nat} (hi : i < l.length) (hj : j < l.length) (e : l[i] = l[j]) : i = j := by
  rcases Nat.lt_trichotomy i j with q | q | q
  · exact absurd e (List.pairwise_iff_getElem.1 h i j hi hj q)
  · exact q
  · exact absurd e.symm (List.pairwise_iff_getElem.1 h j i hj hi q)
theorem atN_inj {r r' : Rg} (h : ROk r) (h' : ROk r') (hn : r.N.length ≠ 0) (e : r'.N = r.N) (ea : atN r' = atN r) : r'.A = r.A := by
  have hn' : r'.N.length ≠ 0 := by rw [e]; exact hn
  rw [atN_get h hn, atN_get h' hn'] at ea
  have h1 := atN_lt h hn
  have h2 := atN_lt h' hn'
  rw [e] at h2
  have e3 : r.N[r'.A.toNat]'h2 = r.N[r.A.toNat]'h1 := by
    rw [← ea]
    simp only [e]
  have : r'.A.toNat = r.A.toNat := nodup_at h.nd h2 h1 e3
  have := h.a0
  have := h'.a0
  omega
/-- the mark at the hand is off where the hand has stopped -/
def offAt (r : Rg) : Prop := r.U[r.A.toNat]? = some false
theorem tn_off {r : Rg} (h : ROk r) (hn : r.N.length ≠ 0) : offAt (tn r) := (tn_ok h hn).2.1.off
theorem tn_stay {r : Rg} (h : offAt r) (h0 : 0 ≤ r.A) : tn r = r := by
  unfold tn
  have e : turned r = (r.U, r.A.toNat) := by
    unfold turned
    exact turn_stop (by unfold offAt at h; rw [h]; simp)
  rw [e]
  obtain ⟨N, U, A⟩ := r
  simp at h0
  simp
  omega
/-- who came round to the same place passed all: no mark is left -/
theorem tn_round {r : Rg} (h : ROk r) (hn : r.N.length ≠ 0) {b : Nat} (hb : b < r.N.length) (hob : r.U[b]? = some false) (ha : r.A = ((b : Int) + 1) % (r.N.length : Int)) (he : (tn r).A = (b : Int)) : ∀ j, j < r.N.length → (tn r).U[j]? = some false := by
  have hA0 := h.a0
  have haN : r.A.toNat = (b + 1) % r.N.length := by
    rw [ha]
    have : ((b : Int) + 1) % (r.N.length : Int) = (((b + 1) % r.N.length : Nat) : Int) := by simp
    rw [this, Int.toNat_natCast]
  have hlt : r.A.toNat < r.N.length := atN_lt h hn
  obtain ⟨k, g, e, ho⟩ := turn_gone (U0 := r.U) hlt (r.U.count true) r.U 0 rfl ⟨Nat.zero_le _, fun m hm => by omega, fun j => ⟨fun z => ⟨z, fun m hm => by omega⟩, fun z => z.1⟩⟩
  rw [Nat.add_zero, Nat.mod_eq_of_lt hlt] at g e ho
  have hlen : (tn r).U.length = r.N.length := by show (turned r).1.length = _; rw [← h.us]; exact turn_len _ _ _ _
  have eb : (r.A.toNat + k) % r.N.length = b := by
    have : ((turned r).2 : Int) = (b : Int) := he
    have e' : (turned r).2 = (r.A.toNat + k) % r.N.length := e
    omega
  intro j hj
  have hnt : (tn r).U[j]? ≠ some true := fun z => by
    have z2 := (g.iff j).1 z
    by_cases hjb : j = b
    · rw [hjb, hob] at z2; exact absurd z2.1 (by simp)
    · obtain ⟨m, hm, em⟩ := mod_reach hlt hj
      refine z2.2 m ?_ em
      rcases Nat.lt_or_ge m k with q | q
      · exact q
      · exfalso
        have hl : 0 < r.N.length := by omega
        have hkn := g.le
        rw [mod2 (by omega)] at em eb
        rw [mod2 (by omega)] at haN
        split at em <;> split at eb <;> split at haN <;> omega
  rw [List.getElem?_eq_getElem (by omega)] at hnt ⊢
  cases hx : (tn r).U[j]'(by omega) with
  | false => rfl
  | true => rw [hx] at hnt; exact absurd rfl hnt
/-- with two names at least, three turns do -/
theorem tnBut_done {r : Rg} (h : ROk r) (hn : 2 ≤ r.N.length) (ho : offAt r) (but : ByteArray) : ∀ f, 2 ≤ f → ROk (tnBut but f r) ∧ (tnBut but f r).N = r.N ∧ atN (tnBut but f r) ≠ but ∧ tnBut but f r = tnBut but 2 r := by
  intro f hf
  obtain ⟨f, rfl⟩ : ∃ g, f = g + 2 := ⟨f - 2, by omega⟩
  have hn0 : r.N.length ≠ 0 := by omega
  have stop : ∀ (g : Nat) (x : Rg), atN x ≠ but → tnBut but g x = x := fun g x hx => by
    cases g with
    | zero => rfl
    | succ g => simp only [tnBut, if_neg hx]
  by_cases e1 : atN r = but
  · have s1 : ∀ g, tnBut but (g + 1) r = tnBut but g (tn (nx r)) := fun g => by simp only [tnBut, if_pos e1]
    have h2 := nx_ok h hn0
    have hn2 : (nx r).N.length ≠ 0 := hn0
    obtain ⟨h3, st3, e3N⟩ := tn_ok h2 hn2
    rw [show f + 2 = (f + 1) + 1 by omega, s1, show (2 : Nat) = 1 + 1 by omega, s1]
    by_cases e2 : atN (tn (nx r)) = but
    · have hA : (tn (nx r)).A = r.A := atN_inj h h3 hn0 (by rw [e3N]; rfl) (e2.trans e1.symm)
      have hb := atN_lt h hn0
      have ha0 := h.a0
      have hall := tn_round h2 hn2 (b := r.A.toNat) hb ho (by show (r.A + 1) % (r.N.length : Int) = _; rw [Int.toNat_of_nonneg ha0]; rfl) (by rw [hA]; omega)
      have h4 := nx_ok h3 (by rw [e3N]; exact hn2)
      have h4A : (nx (tn (nx r))).A = (r.A + 1) % (r.N.length : Int) := by
        show ((tn (nx r)).A + 1) % (((tn (nx r)).N.length : Nat) : Int) = _
        rw [hA, e3N]
        rfl
      have h4l : (nx (tn (nx r))).A.toNat < r.N.length := by
        have := atN_lt h4 (by show (tn (nx r)).N.length ≠ 0; rw [e3N]; exact hn2)
        have e : (nx (tn (nx r))).N = r.N := by show (tn (nx r)).N = _; rw [e3N]; rfl
        rw [e] at this
        exact this
      have off4 : offAt (nx (tn (nx r))) := hall _ h4l
      have st : tn (nx (tn (nx r))) = nx (tn (nx r)) := tn_stay off4 h4.a0
      have hne : atN (nx (tn (nx r))) ≠ but := fun q => by
        have e5 := atN_inj h h4 hn0 (by show (tn (nx r)).N = _; rw [e3N]; rfl) (q.trans e1.symm)
        rw [h4A] at e5
        have h1 := h.a1
        by_cases q2 : r.A + 1 < (r.N.length : Int)
        · rw [Int.emod_eq_of_lt (by omega) q2] at e5; omega
        · have : r.A + 1 = (r.N.length : Int) := by omega
          rw [this, Int.emod_self] at e5
          omega
      have s2 : ∀ g, tnBut but (g + 1) (tn (nx r)) = nx (tn (nx r)) := fun g => by
        simp only [tnBut, if_pos e2]
        rw [st]
        exact stop _ _ hne
      rw [show (1 : Nat) = 0 + 1 by omega, s2, s2]
      exact ⟨h4, by show (tn (nx r)).N = _; rw [e3N]; rfl, hne, rfl⟩
    · rw [stop _ _ e2, stop _ _ e2]
      exact ⟨h3, by rw [e3N]; rfl, e2, rfl⟩
  · rw [stop _ _ e1, stop _ _ e1]
    exact ⟨h, rfl, e1, rfl⟩
end Go.Proofs.Ytmnjmghlkiljhaa.rg
/- Structs in memory: what the operations on whole structs do, each with a new letter for the world. -/
namespace Go.Proofs.Ytmnjmghlkiljhaa.ce
open Go.ChangeShapes Go.WideShapes Go.ChangeAt Go.RowKit
set_option linter.unusedVariables false

/-- block b is a row of cells, none frozen -/
def VBlk (w : World) (b : Nat) (t : TypeId) (vs : List Value) : Prop := w.heap[b]? = some (.cells vs.toArray t (0, 0))
theorem VBlk.cell {w : World} {b : Nat} {t : TypeId} {vs : List Value} (h : VBlk w b t vs) (j : Nat) (hj : j < vs.length) : w.cell? ⟨b, j, none⟩ = some vs[j] := by
  rw [cell_of_row _ _ _ _ _ _ h]; simp [hj]
theorem VBlk.frozen {w : World} {b : Nat} {t : TypeId} {vs : List Value} (h : VBlk w b t vs) (j : Nat) : w.frozen? ⟨b, j, none⟩ = false := frozen_of_row _ _ _ _ _ h
theorem VBlk.lt {w : World} {b : Nat} {t : TypeId} {vs : List Value} (h : VBlk w b t vs) : b < w.heap.size := (Array.getElem?_eq_some_iff.1 h).1
theorem VBlk.of {w w' : World} {b : Nat} {t : TypeId} {vs : List Value} (h : VBlk w b t vs) (e : w'.heap[b]? = w.heap[b]?) : VBlk w' b t vs := by unfold VBlk; rw [e]; exact h
theorem VBlk.below {w w' : World} {B b : Nat} {t : TypeId} {vs : List Value} (h : VBlk w b t vs) (hb : Below B w w') (hlt : b < B) : VBlk w' b t vs := h.of (hb.block b hlt)
theorem VBlk.set {w : World} {b : Nat} {t : TypeId} {vs : List Value} (h : VBlk w b t vs) (i : Nat) (x : Value) : VBlk (w.setCell ⟨b, i, none⟩ x) b t (vs.set i x) := by
  unfold VBlk
  rw [heap_setCell_same w b i _ t _ h]
  simp
theorem VBlk.there {w : World} {b : Nat} {t : TypeId} {vs : List Value} (h : VBlk w b t vs) : w.there b 0 vs.length := fun j hj =>
  ⟨by simp only [Nat.zero_add]; rw [h.cell j hj]; rfl, by simp only [Nat.zero_add]; exact h.frozen j⟩
theorem VBlk.range {w : World} {b : Nat} {t : TypeId} {vs : List Value} (h : VBlk w b t vs) : w.rangeAt b 0 vs := fun j v hv => by
  rw [cell_of_row _ _ _ _ _ _ h]; simpa using hv
theorem VBlk.drew {w : World} {b : Nat} {t : TypeId} {vs : List Value} (h : VBlk w b t vs) : VBlk w.drew b t vs := h

theorem heap_setCells (b : Nat) (t : TypeId) : ∀ (vs : List Value) (k : Nat) (w : World) (cs : List Value), w.heap[b]? = some (.cells cs.toArray t (0, 0)) → k + vs.length ≤ cs.length →
    (w.setCells b k vs).heap[b]? = some (.cells (cs.take k ++ vs ++ cs.drop (k + vs.length)).toArray t (0, 0))
  | [], k, w, cs, h, hk => by simpa [World.setCells] using h
  | v :: r, k, w, cs, h, hk => by
    have h1 := heap_setCell_same w b k cs.toArray t v h
    have hk' : k < cs.length := by simp at hk; omega
    have ih := heap_setCells b t r (k + 1) (w.setCell ⟨b, k, none⟩ v) (cs.set k v) (by rw [h1]; simp) (by simp at hk ⊢; omega)
    rw [World.setCells, ih]
    congr 3
    rw [List.take_succ_eq_append_getElem (by simpa using hk'), List.getElem_set_self, List.take_set_of_le (Nat.le_refl _), List.drop_set_of_lt (by omega)]
    simp [Nat.add_comm, Nat.add_left_comm]
theorem heap_setCells_other (b : Nat) : ∀ (vs : List Value) (k : Nat) (w : World) (j : Nat), j ≠ b → (w.setCells b k vs).heap[j]? = w.heap[j]?
  | [], _, _, _, _ => rfl
  | v :: r, k, w, j, h => by rw [World.setCells, heap_setCells_other b r (k + 1) _ j h]; exact Below.heap_setCell _ _ _ _ h
theorem meta_setCells (b : Nat) : ∀ (vs : List Value) (k : Nat) (w : World), (w.setCells b k vs).os = w.os ∧ (w.setCells b k vs).tape = w.tape ∧ (w.setCells b k vs).output = w.output ∧ (w.setCells b k vs).heap.size = w.heap.size
  | [], _, _ => ⟨rfl, rfl, rfl, rfl⟩
  | v :: r, k, w => by
    rw [World.setCells]
    have ih := meta_setCells b r (k + 1) (w.setCell ⟨b, k, none⟩ v)
    exact ⟨ih.1, ih.2.1, ih.2.2.1, by rw [ih.2.2.2]; simp⟩
theorem below_setCells {B b : Nat} (w : World) (hb : B ≤ b) (vs : List Value) (k : Nat) : Below B w (w.setCells b k vs) :=
  have m := meta_setCells b vs k w
  ⟨m.1, m.2.1, m.2.2.1, by rw [m.2.2.2]; exact Nat.le_refl _, fun j hj => heap_setCells_other b vs k w j (by omega)⟩
/-- only block b is turned -/
def Only (b : Nat) (w w' : World) : Prop := w'.heap.size = w.heap.size ∧ (∀ j, j ≠ b → w'.heap[j]? = w.heap[j]?) ∧ ∀ B, B ≤ b → Below B w w'
theorem only_setCells (w : World) (b : Nat) (vs : List Value) (k : Nat) : Only b w (w.setCells b k vs) := ⟨(meta_setCells b vs k w).2.2.2, heap_setCells_other b vs k w, fun B hB => below_setCells w hB vs k⟩

/-- of the blocks that were there only those from lo up to hi may be turned -/
structure Within (lo hi : Nat) (w w' : World) : Prop where
  os : w'.os = w.os
  tape : w'.tape = w.tape
  output : w'.output = w.output
  size : w.heap.size ≤ w'.heap.size
  block : ∀ k, k < w.heap.size → (k < lo ∨ hi ≤ k) → w'.heap[k]? = w.heap[k]?
theorem Within.refl (lo hi : Nat) (w : World) : Within lo hi w w := ⟨rfl, rfl, rfl, Nat.le_refl _, fun _ _ _ => rfl⟩
theorem Within.trans {lo hi : Nat} {a b c : World} (h : Within lo hi a b) (k : Within lo hi b c) : Within lo hi a c :=
  ⟨k.os.trans h.os, k.tape.trans h.tape, k.output.trans h.output, Nat.le_trans h.size k.size, fun j hj hn => (k.block j (Nat.lt_of_lt_of_le hj h.size) hn).trans (h.block j hj hn)⟩
theorem Within.of_below {lo hi B : Nat} {w w' : World} (h : Below B w w') (hB : w.heap.size ≤ B) : Within lo hi w w' := ⟨h.os, h.tape, h.output, h.size, fun k hk _ => h.block k (by omega)⟩
theorem Within.setCell {lo hi : Nat} {a w : World} (h : Within lo hi a w) {p : Addr} (h1 : lo ≤ p.block) (h2 : p.block < hi) (u : Value) : Within lo hi a (w.setCell p u) :=
  h.trans ⟨rfl, rfl, rfl, by simp, fun k hk hn => Below.heap_setCell _ _ _ _ (by omega)⟩
theorem Within.drew {lo hi : Nat} {a w : World} (h : Within lo hi a w) : Within lo hi a w.drew := ⟨h.os, h.tape, h.output, h.size, h.block⟩
theorem Within.wide {lo hi lo' hi' : Nat} {w w' : World} (h : Within lo hi w w') (h1 : lo' ≤ lo) (h2 : hi ≤ hi') : Within lo' hi' w w' := ⟨h.os, h.tape, h.output, h.size, fun k hk hn => h.block k hk (by omega)⟩
theorem Within.below {lo hi B : Nat} {w w' : World} (h : Within lo hi w w') (h1 : B ≤ lo) (h2 : B ≤ w.heap.size) : Below B w w' := ⟨h.os, h.tape, h.output, h.size, fun k hk => h.block k (by omega) (by omega)⟩
theorem Within.only {lo hi b : Nat} {a w w' : World} (h : Within lo hi a w) (o : Only b w w') (h1 : lo ≤ b) (h2 : b < hi) : Within lo hi a w' := by
  have b0 := o.2.2 0 (Nat.zero_le _)
  exact h.trans ⟨b0.os, b0.tape, b0.output, b0.size, fun k hk hn => o.2.1 k (by omega)⟩

theorem below_drewN {B : Nat} (w : World) (n : Nat) : Below B w (w.drewN n) := ⟨rfl, rfl, rfl, Nat.le_refl _, fun _ _ => rfl⟩

section laws
variable {P : Program} {ops : Array Oper} {rest : List Oper} {o : Oper} {a : Act} {w : World} {Q : Exit → Act → World → Prop} {K : Act → World → Prop} {E : Prop}
theorem wpList_val (hgd : o.guard = none) {v : Value} {w' : World} (hr : (execOp a.eval o).run P w = .ok (.value v) w') (h : wpList P ops Q rest (a.put o.dst v) w') : wpList P ops Q (o :: rest) a w :=
  wpList_plain hgd fun K hK => by unfold Oper.wp; rw [hr]; exact hK _ _ h
theorem step_val (hgd : o.guard = none) {v : Value} {w' : World} (hr : (execOp a.eval o).run P w = .ok (.value v) w') (h : K (a.put o.dst v) w') :
    if Region.wanted o (yielded ops a.tmps) = true then Oper.wp P o a w K Q else E := by
  have hw : Region.wanted o (yielded ops a.tmps) = true := by simp [Region.wanted, hgd]
  rw [if_pos hw]
  unfold Oper.wp
  rw [hr]
  exact h

/-- a new variable that holds a struct -/
theorem wpList_box_v (hgd : o.guard = none) (t : TypeId) (x : Operand) (ho : o.op = .box t x) (vs : List Value) (hx : a.eval x = .agg vs.toArray)
    (h : ∀ (b : Nat) (w' : World), w.heap.size ≤ b → b < w'.heap.size → Below w.heap.size w w' → VBlk w' b t vs → wpList P ops Q rest (a.put o.dst (.pointer (some ⟨b, 0, none⟩))) w') : wpList P ops Q (o :: rest) a w := by
  refine wpList_val hgd (v := .pointer (some ⟨w.heap.size, 0, none⟩)) (w' := w.alloc (.cells vs.toArray t)) ?_ (h _ _ (Nat.le_refl _) (by simp) ((Below.refl _ _).alloc (Nat.le_refl _) _) (heap_alloc_new _ _))
  unfold execOp
  simp only [ho, hx]
  rfl
theorem wpList_alloc_v (hgd : o.guard = none) (t : TypeId) (ho : o.op = .alloc t) (vs : List Value) (hz : ∀ w, (zeroValue t).run P w = .ok (.agg vs.toArray) w)
    (h : ∀ (b : Nat) (w' : World), w.heap.size ≤ b → b < w'.heap.size → Below w.heap.size w w' → VBlk w' b t vs → wpList P ops Q rest (a.put o.dst (.pointer (some ⟨b, 0, none⟩))) w') : wpList P ops Q (o :: rest) a w := by
  refine wpList_val hgd (v := .pointer (some ⟨w.heap.size, 0, none⟩)) (w' := w.alloc (.cells vs.toArray t)) ?_ (h _ _ (Nat.le_refl _) (by simp) ((Below.refl _ _).alloc (Nat.le_refl _) _) (heap_alloc_new _ _))
  unfold execOp
  simp only [ho, Instr.alloc, Sem.run_bind, hz, Result.andThen_ok]
  rfl
/-- a struct is stored into its variable -/
theorem wpList_store_v (hgd : o.guard = none) (t : TypeId) (x y : Operand) (ho : o.op = .store t x y) (b : Nat) (ys : List Value) (hx : a.eval x = .pointer (some ⟨b, 0, none⟩)) (hy : a.eval y = .agg ys.toArray)
    (hi : (P.info? t).map (·.size) = some ys.length) {t' : TypeId} {vs : List Value} (hb : VBlk w b t' vs) (hn : ys.length = vs.length) (h1 : ∀ v ∈ ys, v.oneCell' = true)
    (h : ∀ w', Only b w w' → VBlk w' b t' ys → wpList P ops Q rest (a.put o.dst undef) w') : wpList P ops Q (o :: rest) a w := by
  refine wpList_store_mid hgd t x y ho b 0 ys.toArray hx hy ?_ (by rw [hi]; simp) (all_oneCell_toArray h1) ?_
  · rw [List.size_toArray, hn]; exact hb.there
  · refine h _ (only_setCells _ _ _ _) ?_
    unfold VBlk
    rw [heap_setCells b t' _ 0 w vs hb (by simp [hn])]
    simp [hn]
/-- a struct is loaded -/
theorem wpList_load_r (hgd : o.guard = none) (t : TypeId) (x : Operand) (ho : o.op = .load t x) (b k : Nat) (vs : List Value) (hx : a.eval x = .pointer (some ⟨b, k, none⟩)) (d : TypeDesc) (hu : P.underlying t = some d) (hd : d.isRow = true)
    (hi : (P.info? t).map (·.size) = some vs.length) (hr : w.rangeAt b k vs) (h : wpList P ops Q rest (a.put o.dst (.agg vs.toArray)) w) : wpList P ops Q (o :: rest) a w :=
  wpList_load_mid hgd t x ho b k hx vs d hr hu hd hi h
end laws

theorem row_retv {fn : Func} {p : Tmp} {ty : TypeId} (h : fn.results = #[.cell p ty]) {R : Ending → World → Prop} {a : Act} {w : World} {b : Nat} {t : TypeId} {vs : List Value} {fs : Array Field}
    (hp : a.tmps.getD p undef = .pointer (some ⟨b, 0, none⟩)) (hb : VBlk w b t vs) (hu : Try.prog.underlying ty = some (.struct fs))
    (hi : (Try.prog.info? ty).map (·.size) = some vs.length) (hdf : a.defers = []) (hR : R (.returned (.agg vs.toArray)) w) : bodyPost Try.prog fn R .ret a w :=
  bodyPost_ret (results_cell_row h a.tmps w b t _ _ _ hp hb hu rfl (by rw [hi]; simp)) hdf hR

theorem results_ct {fn : Func} {p u : Tmp} {ty : TypeId} (h : fn.results = #[.cell p ty, .tmp u]) (tmps : Array Value) (P : Program) (w : World) :
    (results fn tmps).run P w =
      ((asAddr (tmps.getD p undef)).run P w).andThen fun a w₁ => ((loadVar ty a).run P w₁).andThen fun v w₂ => .ok (.tuple #[v, tmps.getD u undef]) w₂ := by
  simp only [results, h]
  simp [Sem.run_bind, Result.andThen]
theorem row_ct {fn : Func} {p u : Tmp} {ty : TypeId} (h : fn.results = #[.cell p ty, .tmp u]) {R : Ending → World → Prop} {a : Act} {w : World} {b : Nat} {t : TypeId} {vs : List Value} {fs : Array Field} {x : Value}
    (hp : a.tmps.getD p undef = .pointer (some ⟨b, 0, none⟩)) (hx : a.tmps.getD u undef = x) (hb : VBlk w b t vs) (hu : Try.prog.underlying ty = some (.struct fs))
    (hi : (Try.prog.info? ty).map (·.size) = some vs.length) (hdf : a.defers = []) (hR : R (.returned (.tuple #[.agg vs.toArray, x])) w) : bodyPost Try.prog fn R .ret a w := by
  have hl := run_loadVar_row (P := Try.prog) w b t ty vs.toArray (0, 0) _ hb hu rfl (by rw [hi]; simp)
  refine bodyPost_ret ?_ hdf hR
  rw [results_ct h, hp, hx]
  simp [asAddr, hl]
end Go.Proofs.Ytmnjmghlkiljhaa.ce
/- Rows in memory, of whatever things lie in k cells each: how they are read, how a call owns them, what keeps them; append. -/
namespace Go.Proofs.Ytmnjmghlkiljhaa.ro
open Go.ChangeShapes Go.WideShapes Go.ChangeAt Go.RowKit
open Go.Proofs.Ytmnjmghlkiljhaa.ce
set_option linter.unusedVariables false

/-- how a thing lies in memory: in k cells, in blocks of the type t -/
structure Enc (α : Type) where
  put : α → List Value
  k : Nat
  t : TypeId
  len : ∀ x, (put x).length = k
  one : ∀ x, ∀ v ∈ put x, v.oneCell' = true
  pos : 0 < k

section plain
variable {α : Type} (E : Enc α)
def Enc.row (xs : List α) : List Value := xs.flatMap E.put
theorem Enc.row_nil : E.row [] = [] := rfl
theorem Enc.row_cons (x : α) (xs : List α) : E.row (x :: xs) = E.put x ++ E.row xs := by simp [Enc.row]
theorem Enc.row_one' (x : α) : E.row [x] = E.put x := by simp [Enc.row]
theorem Enc.row_append (xs ys : List α) : E.row (xs ++ ys) = E.row xs ++ E.row ys := by simp [Enc.row]
theorem Enc.row_len : ∀ xs : List α, (E.row xs).length = xs.length * E.k
  | [] => by simp [Enc.row]
  | x :: r => by rw [Enc.row_cons, List.length_append, E.len, Enc.row_len r, List.length_cons, Nat.add_mul]; omega
theorem Enc.row_cells (xs : List α) : ∀ v ∈ E.row xs, v.oneCell' = true := by
  intro v hv
  obtain ⟨x, -, hx⟩ := List.mem_flatMap.1 hv
  exact E.one x v hx
theorem Enc.row_get : ∀ (xs : List α) (i j : Nat) (hi : i < xs.length), j < E.k → (E.row xs)[i * E.k + j]? = (E.put xs[i])[j]?
  | [], i, j, hi, _ => by simp at hi
  | x :: r, 0, j, hi, hj => by
    rw [Enc.row_cons, Nat.zero_mul, Nat.zero_add, List.getElem?_append_left (by rw [E.len]; exact hj)]
    rfl
  | x :: r, i + 1, j, hi, hj => by
    rw [Enc.row_cons, List.getElem?_append_right (by rw [E.len, Nat.add_mul]; omega), E.len, show (i + 1) * E.k + j - E.k = i * E.k + j by rw [Nat.add_mul]; omega]
    exact Enc.row_get r i j (by simpa using hi) hj
theorem Enc.row_take : ∀ (xs : List α) (m : Nat), (E.row xs).take (m * E.k) = E.row (xs.take m)
  | [], m => by simp [Enc.row]
  | x :: r, 0 => by simp [Enc.row]
  | x :: r, m + 1 => by
    rw [Enc.row_cons, List.take_succ_cons, Enc.row_cons, ← Enc.row_take r m, List.take_append, E.len, List.take_of_length_le (by rw [E.len, Nat.add_mul]; omega), show (m + 1) * E.k - E.k = m * E.k by rw [Nat.add_mul]; omega]
theorem Enc.row_drop (xs : List α) (m : Nat) (hm : m ≤ xs.length) : (E.row xs).drop (m * E.k) = E.row (xs.drop m) := by
  have h : E.row xs = E.row (xs.take m) ++ E.row (xs.drop m) := by rw [← Enc.row_append, List.take_append_drop]
  have hl : (E.row (xs.take m)).length = m * E.k := by rw [Enc.row_len, List.length_take, Nat.min_eq_left hm]
  rw [h, ← hl, List.drop_left]
theorem Enc.row_set : ∀ (xs : List α) (i j : Nat) (hi : i < xs.length), j < E.k → ∀ (u : Value) (y : α), E.put y = (E.put xs[i]).set j u → (E.row xs).set (i * E.k + j) u = E.row (xs.set i y)
  | [], i, j, hi, _, _, _, _ => by simp at hi
  | x :: r, 0, j, hi, hj, u, y, hy => by
    rw [List.set_cons_zero, Enc.row_cons, Enc.row_cons, Nat.zero_mul, Nat.zero_add, List.set_append_left _ _ (by rw [E.len]; exact hj), hy]
    rfl
  | x :: r, i + 1, j, hi, hj, u, y, hy => by
    rw [List.set_cons_succ, Enc.row_cons, Enc.row_cons, List.set_append_right _ _ (by rw [E.len, Nat.add_mul]; omega), E.len, show (i + 1) * E.k + j - E.k = i * E.k + j by rw [Nat.add_mul]; omega, Enc.row_set r i j (by simpa using hi) hj u y (by simpa using hy)]
theorem Enc.row_replicate (x : α) (n : Nat) (v : Value) (h : E.put x = [v]) : E.row (List.replicate n x) = List.replicate n v := by
  induction n with
  | zero => simp [Enc.row]
  | succ n ih => rw [List.replicate_succ, Enc.row_cons, ih, h, List.replicate_succ]; rfl
end plain

theorem range_of {w w' : World} {b off : Nat} {vs : List Value} (h : w.rangeAt b off vs) (e : w'.heap[b]? = w.heap[b]?) : w'.rangeAt b off vs := fun j v hv => by
  rw [World.cell?_of_block (w := w) (w' := w') (a := ⟨b, off + j, none⟩) e]; exact h j v hv
theorem range_lt {w : World} {b off : Nat} {vs : List Value} (h : w.rangeAt b off vs) (hn : vs ≠ []) : b < w.heap.size := by
  cases vs with
  | nil => exact absurd rfl hn
  | cons v r => exact World.block_lt_of_cell? w _ (h 0 v rfl)
theorem below_grown {B : Nat} {w w' : World} {row : Option Nat} (h : w.grownBy w' row) (hB : B ≤ w.heap.size) (hr : ∀ k, row = some k → B ≤ k) : Below B w w' := Below.grown (Below.refl _ w) h hB hr

variable {α : Type}
/-- the things xs are read at the slice v -/
structure Rd (E : Enc α) (w : World) (v : Value) (xs : List α) : Prop where
  fits : ∃ a cap, v = .slice a xs.length cap ∧ xs.length ≤ cap ∧ cap ≤ maxLen ∧ (xs ≠ [] → ∃ b off, a = some ⟨b, off, none⟩ ∧ b < w.heap.size ∧ w.rangeAt b off (E.row xs))
theorem Rd.grow {E : Enc α} {w w' : World} {v : Value} {xs : List α} (r : Rd E w v xs) (hb : Below w.heap.size w w') : Rd E w' v xs := by
  obtain ⟨a, cap, e, h1, h2, h3⟩ := r.fits
  refine ⟨a, cap, e, h1, h2, fun hn => ?_⟩
  obtain ⟨b, off, e2, h4, h5⟩ := h3 hn
  exact ⟨b, off, e2, Nat.lt_of_lt_of_le h4 hb.size, range_of h5 (hb.block b h4)⟩
theorem Rd.drew {E : Enc α} {w : World} {v : Value} {xs : List α} (r : Rd E w v xs) : Rd E w.drew v xs := r.grow (Below.refl _ _).drew
theorem Rd.form {E : Enc α} {w : World} {v : Value} {xs : List α} (r : Rd E w v xs) : ∃ a cap, v = .slice a xs.length cap := by
  obtain ⟨a, cap, e, -⟩ := r.fits
  exact ⟨a, cap, e⟩
theorem Rd.len {E : Enc α} {w : World} {v : Value} {xs : List α} (r : Rd E w v xs) : xs.length ≤ 9223372036854775807 := by
  obtain ⟨a, cap, e, h1, h2, h3⟩ := r.fits
  unfold maxLen at h2; omega
theorem Rd.cap {E : Enc α} {w : World} {a : Option Addr} {n cap : Nat} {xs : List α} (r : Rd E w (.slice a n cap) xs) : n = xs.length ∧ n ≤ cap ∧ cap ≤ 9223372036854775807 := by
  obtain ⟨a', cap', e, h1, h2, h3⟩ := r.fits
  cases e
  unfold maxLen at h2; exact ⟨rfl, h1, h2⟩
theorem Rd.cell {E : Enc α} {w : World} {n cap : Nat} {a : Option Addr} {xs : List α} (r : Rd E w (.slice a n cap) xs) (i j : Nat) (hi' : i < xs.length) (hj : j < E.k) :
    ∃ b off, a = some ⟨b, off, none⟩ ∧ b < w.heap.size ∧ w.cell? ⟨b, off + (i * E.k + j), none⟩ = some ((E.put xs[i])[j]'(by rw [E.len]; exact hj)) := by
  obtain ⟨a', cap', e, h1, h2, h3⟩ := r.fits
  cases e
  obtain ⟨b, off, rfl, h4, h5⟩ := h3 (by intro e; subst e; simp at hi')
  refine ⟨b, off, rfl, h4, h5 _ _ ?_⟩
  rw [E.row_get xs i j hi' hj]
  exact List.getElem?_eq_getElem _
theorem Rd.start {E : Enc α} {w : World} {n cap : Nat} {a : Option Addr} {xs : List α} (r : Rd E w (.slice a n cap) xs) (h : 1 ≤ xs.length) : ∃ b off, a = some ⟨b, off, none⟩ ∧ b < w.heap.size ∧ w.rangeAt b off (E.row xs) := by
  obtain ⟨a', cap', e, h1, h2, h3⟩ := r.fits
  cases e
  exact h3 (by intro e; subst e; simp at h)
theorem rd_zero (E : Enc α) (w : World) (a : Option Addr) (cap : Nat) (hc : cap ≤ maxLen) : Rd E w (.slice a 0 cap) [] := ⟨a, cap, rfl, Nat.zero_le _, hc, fun h => absurd rfl h⟩
theorem Rd.take {E : Enc α} {w : World} {b off n cap : Nat} {xs : List α} (r : Rd E w (.slice (some ⟨b, off, none⟩) n cap) xs) (m : Nat) (hm : m ≤ xs.length) : Rd E w (.slice (some ⟨b, off, none⟩) m cap) (xs.take m) := by
  obtain ⟨a', cap', e, h1, h2, h3⟩ := r.fits
  cases e
  have hl : (xs.take m).length = m := by rw [List.length_take]; omega
  refine ⟨_, cap, by rw [hl], by omega, h2, fun hn => ?_⟩
  have hx : xs ≠ [] := fun e => hn (by rw [e]; simp)
  obtain ⟨b', off', e2, h4, h5⟩ := h3 hx
  cases e2
  refine ⟨b, off, rfl, h4, fun j u hj => h5 j u ?_⟩
  rw [← E.row_take, List.getElem?_take] at hj
  split at hj
  · exact hj
  · cases hj
theorem Rd.drop {E : Enc α} {w : World} {b off n cap : Nat} {xs : List α} (r : Rd E w (.slice (some ⟨b, off, none⟩) n cap) xs) (m : Nat) (hm : m ≤ xs.length) : Rd E w (.slice (some ⟨b, off + m * E.k, none⟩) (n - m) (cap - m)) (xs.drop m) := by
  obtain ⟨a', cap', e, h1, h2, h3⟩ := r.fits
  cases e
  have hl : (xs.drop m).length = xs.length - m := by rw [List.length_drop]
  refine ⟨_, cap - m, by rw [hl], by omega, by omega, fun hn => ?_⟩
  have hx : xs ≠ [] := fun e => hn (by rw [e]; simp)
  obtain ⟨b', off', e2, h4, h5⟩ := h3 hx
  cases e2
  refine ⟨b, off + m * E.k, rfl, h4, fun j u hj => ?_⟩
  rw [Nat.add_assoc]
  refine h5 (m * E.k + j) u ?_
  rw [← E.row_drop xs m hm, List.getElem?_drop] at hj
  exact hj
/-- the rest of a slice: at the end of its capacity it begins where the slice does -/
theorem Rd.rest {E : Enc α} {w : World} {b off n cap : Nat} {xs : List α} (r : Rd E w (.slice (some ⟨b, off, none⟩) n cap) xs) (m : Nat) (hm : m ≤ xs.length) :
    (m < cap ∧ Hid (Rd E w (.slice (some ⟨b, off + m * E.k, none⟩) (n - m) (cap - m)) (xs.drop m))) ∨ (m = cap ∧ n = m ∧ xs.drop m = [] ∧ Hid (Rd E w (.slice (some ⟨b, off, none⟩) 0 0) (xs.drop m))) := by
  have hd := r.drop m hm
  obtain ⟨e, h1, h2⟩ := r.cap
  by_cases hc : m < cap
  · exact .inl ⟨hc, hd⟩
  · have e2 : xs.drop m = [] := List.drop_eq_nil_of_le (by omega)
    refine .inr ⟨by omega, by omega, e2, ?_⟩
    rw [e2]
    exact rd_zero E w _ 0 (Nat.zero_le _)

/-- the things xs lie in a row of their own, in a block from lo up to hi; or there are none, and there is no room -/
structure Own (E : Enc α) (w : World) (lo hi : Nat) (v : Value) (xs : List α) : Prop where
  row : (xs = [] ∧ ∃ a, v = .slice a 0 0) ∨ ∃ g cap cur, v = .slice (some ⟨g, 0, none⟩) xs.length cap ∧ (lo ≤ g ∧ g < hi) ∧ w.heap[g]? = some (.cells cur E.t (0, 0)) ∧ xs.length ≤ cap ∧ cap ≤ maxLen ∧ cur.size = cap * E.k ∧ cur.toList.take (xs.length * E.k) = E.row xs
theorem Own.keepT {E : Enc α} {w w' : World} {lo hi : Nat} {v : Value} {xs : List α} (o : Own E w lo hi v xs) (s : ∀ g cur, w.heap[g]? = some (.cells cur E.t (0, 0)) → lo ≤ g → g < hi → w'.heap[g]? = w.heap[g]?) : Own E w' lo hi v xs := by
  rcases o.row with h | ⟨g, cap, cur, e, hg, hb, h⟩
  · exact ⟨.inl h⟩
  · exact ⟨.inr ⟨g, cap, cur, e, hg, by rw [s g cur hb hg.1 hg.2]; exact hb, h⟩⟩
theorem Own.keep {E : Enc α} {w w' : World} {lo hi : Nat} {v : Value} {xs : List α} (o : Own E w lo hi v xs) (s : ∀ k, lo ≤ k → k < hi → w'.heap[k]? = w.heap[k]?) : Own E w' lo hi v xs := o.keepT fun g _ _ h1 h2 => s g h1 h2
theorem Own.grow {E : Enc α} {w w' : World} {lo hi : Nat} {v : Value} {xs : List α} (o : Own E w lo hi v xs) (hb : Below w.heap.size w w') : Own E w' lo hi v xs := o.keepT fun g cur h _ _ => hb.block g (Array.getElem?_eq_some_iff.1 h).1
theorem Own.below {E : Enc α} {w w' : World} {lo hi B : Nat} {v : Value} {xs : List α} (o : Own E w lo hi v xs) (hb : Below B w w') (hB : hi ≤ B) : Own E w' lo hi v xs := o.keep fun k _ h2 => hb.block k (by omega)
theorem Own.within {E : Enc α} {w w' : World} {lo hi l2 h2 : Nat} {v : Value} {xs : List α} (o : Own E w lo hi v xs) (hw : Within l2 h2 w w') (hd : hi ≤ l2 ∨ h2 ≤ lo) : Own E w' lo hi v xs := o.keepT fun g cur h _ _ => hw.block g (Array.getElem?_eq_some_iff.1 h).1 (by omega)
theorem Own.only {E : Enc α} {w w' : World} {lo hi b : Nat} {v : Value} {xs : List α} {t : TypeId} {vs : List Value} (o : Own E w lo hi v xs) (h : Only b w w') (hb : VBlk w b t vs) (ht : E.t ≠ t) : Own E w' lo hi v xs := o.keepT fun g cur hg _ _ => h.2.1 g fun e => by
  rw [e] at hg
  have := hg.symm.trans hb
  simp at this
  exact ht this.2
theorem Own.wide {E : Enc α} {w : World} {lo hi lo' hi' : Nat} {v : Value} {xs : List α} (o : Own E w lo hi v xs) (h1 : lo' ≤ lo) (h2 : hi ≤ hi') : Own E w lo' hi' v xs := by
  rcases o.row with h | ⟨g, cap, cur, e, hg, hb, h⟩
  · exact ⟨.inl h⟩
  · exact ⟨.inr ⟨g, cap, cur, e, ⟨by omega, by omega⟩, hb, h⟩⟩
theorem Own.top {E : Enc α} {w : World} {lo hi : Nat} {v : Value} {xs : List α} (o : Own E w lo hi v xs) : Own E w lo w.heap.size v xs := by
  rcases o.row with h | ⟨g, cap, cur, e, hg, hb, h⟩
  · exact ⟨.inl h⟩
  · exact ⟨.inr ⟨g, cap, cur, e, ⟨hg.1, (Array.getElem?_eq_some_iff.1 hb).1⟩, hb, h⟩⟩
theorem own_zero (E : Enc α) (w : World) (lo hi : Nat) (a : Option Addr) : Own E w lo hi (.slice a 0 0) [] := ⟨.inl ⟨rfl, a, rfl⟩⟩
theorem Own.rd {E : Enc α} {w : World} {lo hi : Nat} {v : Value} {xs : List α} (o : Own E w lo hi v xs) : Rd E w v xs := by
  rcases o.row with ⟨rfl, a, rfl⟩ | ⟨g, cap, cur, rfl, hg, hb, hc1, hc2, hc3, htk⟩
  · exact rd_zero E w a 0 (Nat.zero_le _)
  · refine ⟨some ⟨g, 0, none⟩, cap, rfl, hc1, hc2, fun _ => ⟨g, 0, rfl, (Array.getElem?_eq_some_iff.1 hb).1, fun j u hj => ?_⟩⟩
    rw [cell_of_row _ _ _ _ _ _ hb]
    rw [← htk, List.getElem?_take] at hj
    split at hj
    · simpa using hj
    · cases hj
theorem Own.slice {E : Enc α} {w : World} {lo hi : Nat} {v : Value} {xs : List α} (o : Own E w lo hi v xs) : ∃ a n k, v = .slice a n k := by
  obtain ⟨a, cap, e⟩ := o.rd.form
  exact ⟨a, _, cap, e⟩
theorem Own.form {E : Enc α} {w : World} {lo hi : Nat} {v : Value} {xs : List α} (o : Own E w lo hi v xs) (hn : 1 ≤ xs.length) : ∃ g cap, v = .slice (some ⟨g, 0, none⟩) xs.length cap ∧ lo ≤ g ∧ g < hi ∧ g < w.heap.size := by
  rcases o.row with ⟨rfl, -⟩ | ⟨g, cap, cur, rfl, hg, hb, -⟩
  · simp at hn
  · exact ⟨g, cap, rfl, hg.1, hg.2, (Array.getElem?_eq_some_iff.1 hb).1⟩
theorem Own.cell {E : Enc α} {w : World} {lo hi n cap : Nat} {a : Option Addr} {xs : List α} (o : Own E w lo hi (.slice a n cap) xs) (i j : Nat) (hi' : i < xs.length) (hj : j < E.k) :
    ∃ g, a = some ⟨g, 0, none⟩ ∧ (lo ≤ g ∧ g < hi) ∧ w.cell? ⟨g, i * E.k + j, none⟩ = some ((E.put xs[i])[j]'(by rw [E.len]; exact hj)) ∧ w.frozen? ⟨g, i * E.k + j, none⟩ = false := by
  obtain ⟨b, off, e, -, hc⟩ := o.rd.cell i j hi' hj
  rcases o.row with ⟨rfl, -⟩ | ⟨g, cap', cur, e', hg, hb, -⟩
  · simp at hi'
  · cases e'
    cases e
    rw [Nat.zero_add] at hc
    exact ⟨_, rfl, hg, hc, frozen_of_row _ _ _ _ _ hb⟩
theorem Own.set {E : Enc α} {w : World} {lo hi g n cap : Nat} {xs : List α} (o : Own E w lo hi (.slice (some ⟨g, 0, none⟩) n cap) xs) (i j : Nat) (hi' : i < xs.length) (hj : j < E.k) (u : Value) (y : α) (hy : E.put y = (E.put xs[i]).set j u) :
    Own E (w.setCell ⟨g, i * E.k + j, none⟩ u) lo hi (.slice (some ⟨g, 0, none⟩) n cap) (xs.set i y) := by
  rcases o.row with ⟨rfl, -⟩ | ⟨g', cap', cur, e', hg, hb, hc1, hc2, hc3, htk⟩
  · simp at hi'
  · cases e'
    refine ⟨.inr ⟨g, cap, cur.setIfInBounds (i * E.k + j) u, by rw [List.length_set], hg, heap_setCell_same _ _ _ _ _ _ hb, by rw [List.length_set]; exact hc1, hc2, by simpa using hc3, ?_⟩⟩
    rw [Array.toList_setIfInBounds, List.length_set, List.take_set, htk, E.row_set xs i j hi' hj u y hy]
theorem Own.owns {E : Enc α} {w : World} {lo hi : Nat} {v : Value} {xs : List α} (o : Own E w lo hi v xs) : (xs = [] ∧ ∃ a, v = .slice a 0 0) ∨ w.ownsRow lo E.t E.k v xs.length (E.row xs) := by
  rcases o.row with h | ⟨g, cap, cur, e, hg, hb, h1, h2, h3, h4⟩
  · exact .inl h
  · exact .inr ⟨E.row_len xs, .inr ⟨g, cap, cur, e, hg.1, hb, h1, h2, h3, h4⟩⟩
theorem own_of {E : Enc α} {w : World} {lo : Nat} {v : Value} {xs : List α} (h : w.ownsRow lo E.t E.k v xs.length (E.row xs)) : Own E w lo w.heap.size v xs := by
  rcases h.2 with ⟨e, h0⟩ | ⟨g, cap, cur, e, hg, hb, h1, h2, h3, h4⟩
  · exact ⟨.inl ⟨List.eq_nil_of_length_eq_zero h0, none, e⟩⟩
  · exact ⟨.inr ⟨g, cap, cur, e, ⟨hg, (Array.getElem?_eq_some_iff.1 hb).1⟩, hb, h1, h2, h3, h4⟩⟩

/-- what the program knows of the type -/
structure Info (E : Enc α) : Prop where
  ex : ∃ (i : TypeInfo) (z : Value), Try.prog.info? E.t = some i ∧ i.zero = some z ∧ i.size = E.k ∧ i.bytes ≤ 1024 ∧ z.cells.size = E.k

/-- of the blocks that were there only such of the type t from lo on may be turned -/
structure Ty (lo : Nat) (t : TypeId) (w w' : World) : Prop where
  low : Below lo w w'
  keep : ∀ (k : Nat) (cur : Array Value) (t' : TypeId) (f : Nat × Nat), w.heap[k]? = some (.cells cur t' f) → t' ≠ t → w'.heap[k]? = w.heap[k]?
theorem Ty.refl (lo : Nat) (t : TypeId) (w : World) : Ty lo t w w := ⟨Below.refl _ _, fun _ _ _ _ _ _ => rfl⟩
theorem Ty.trans {lo : Nat} {t : TypeId} {x y z : World} (h : Ty lo t x y) (k : Ty lo t y z) : Ty lo t x z := ⟨h.low.trans k.low, fun j cur t' f hj ht => (k.keep j cur t' f (by rw [h.keep j cur t' f hj ht]; exact hj) ht).trans (h.keep j cur t' f hj ht)⟩
theorem Ty.of_below {lo : Nat} {t : TypeId} {w w' : World} (h : Below w.heap.size w w') (hl : lo ≤ w.heap.size) : Ty lo t w w' := ⟨h.mono hl, fun k cur t' f hk _ => h.block k (Array.getElem?_eq_some_iff.1 hk).1⟩
theorem Ty.vblk {lo : Nat} {t t' : TypeId} {w w' : World} {b : Nat} {vs : List Value} (h : Ty lo t w w') (hb : VBlk w b t' vs) (hn : t' ≠ t) : VBlk w' b t' vs := hb.of (h.keep b _ t' _ hb hn)
theorem Ty.own {lo l2 h2 : Nat} {t : TypeId} {E : Enc α} {w w' : World} {v : Value} {xs : List α} (h : Ty lo t w w') (o : Own E w l2 h2 v xs) (hn : E.t ≠ t) : Own E w' l2 h2 v xs := o.keepT fun g cur hg _ _ => h.keep g cur E.t _ hg hn

theorem run_append_zero {P : Program} (w : World) (t ty e : TypeId) (i : TypeInfo) (ht : P.underlying t = some (.slice e)) (hi : P.info? e = some i) (base : Option Addr) (n c : Nat) (hn : n ≤ c) (b' : Option Addr) (c' : Nat) :
    (Builtin.append_ #[t, t] ty #[.slice base n c, .slice b' 0 c']).run P w = .ok (.slice base n c) w := by
  have hf : (Builtin.firstCells i.size 0 (.slice b' 0 c')).run P w = .ok #[] w := by
    cases b' with
    | none => exact run_firstCells_none w i.size 0 0 c'
    | some a => exact run_firstCells_some w i.size 0 a 0 c' [] (by simp) (fun j v hj => by simp at hj)
  cases base <;> simp [Builtin.append_, run_underlying ht, sizeOf, typeInfo, hi, Builtin.lenOf, hn, hf, storeCells]

/-- things are appended to a row that the call owns -/
theorem run_append_g {E : Enc α} (I : Info E) (w : World) (t ty : TypeId) (ht : Try.prog.underlying t = some (.slice E.t)) (lo hi : Nat) (v : Value) (xs : List α) (o : Own E w lo hi v xs) (hlo : lo ≤ w.heap.size) (vx : Value) (ys : List α) (r : Rd E w vx ys) (hlen : xs.length + ys.length ≤ 1073741824) :
    ∃ v' w', (Builtin.append_ #[t, t] ty #[v, vx]).run Try.prog w = .ok v' w' ∧ Own E w' lo w'.heap.size v' (xs ++ ys) ∧ Ty lo E.t w w' := by
  obtain ⟨i0, z, hi0, hz0, hz1, hz2, hz3⟩ := I.ex
  obtain ⟨ax, cx, rfl, hx1, hx2, hx3⟩ := r.fits
  have hby : (xs.length + ys.length) * i0.bytes ≤ 140737488355328 := Nat.le_trans (Nat.mul_le_mul hlen hz2) (by omega)
  by_cases h0 : ys = []
  · subst h0
    obtain ⟨a, cap, rfl, h1, h2, -⟩ := o.rd.fits
    exact ⟨_, w, run_append_zero w t ty E.t i0 ht hi0 a xs.length cap h1 ax cx, by simpa using o.top, Ty.refl _ _ _⟩
  · obtain ⟨b, off, rfl, hb, hr⟩ := hx3 h0
    have hnews : ∀ j u, (E.row ys)[j]? = some u → w.cell? ((⟨b, off, none⟩ : Addr).add j) = some u := fun j u hj => by rw [Addr.add_mid]; exact hr j u hj
    have hy1 : 0 < ys.length := List.length_pos_iff.2 h0
    have grown : ∀ row : Option Nat, (∀ k, row = some k → lo ≤ k ∧ ∃ cur f, w.heap[k]? = some (.cells cur E.t f)) → ∀ w', w.grownBy w' row → Ty lo E.t w w' := fun row hrow w' hg =>
      ⟨below_grown hg hlo (fun k hk => (hrow k hk).1), fun k cur t' f hk hn => hg.block k (Array.getElem?_eq_some_iff.1 hk).1 (fun e => by
        obtain ⟨-, cur', f', h'⟩ := hrow k e.symm
        have := hk.symm.trans h'
        simp at this
        exact hn this.2.1)⟩
    rcases o.owns with ⟨rfl, a, rfl⟩ | ow
    · cases a with
      | none =>
        obtain ⟨v', w', h1, h2, h3, -⟩ := run_append_own (P := Try.prog) w lo t ty E.t i0 z E.k i0.bytes ht hi0 hz0 hz1 rfl hz3 E.pos (.slice none 0 0) 0 [] (World.ownsRow_nil w lo E.t E.k) ⟨b, off, none⟩ ys.length cx (E.row ys) (E.row_len ys) hnews (E.row_cells ys) (by unfold maxLen; simp at hlen; omega) (by simpa using hby) hlo
        refine ⟨v', w', h1, own_of (by simpa using h2), grown _ (fun k hk => by cases hk) w' h3⟩
      | some g =>
        obtain ⟨v', w', h1, h2, h3⟩ := run_append_arg_grows (P := Try.prog) (w := w) t ty E.t i0 z E.k i0.bytes ht hi0 hz0 hz1 rfl hz3 E.pos g 0 0 [] (by simp) (fun j u hj => by simp at hj) ⟨b, off, none⟩ ys.length cx (E.row ys) (E.row_len ys) hnews (by omega) (by unfold maxLen; simp at hlen; omega) (by simpa using hby)
        refine ⟨v', w', h1, ?_, grown _ (fun k hk => by cases hk) w' h3⟩
        have h4 : Own E w' w.heap.size w'.heap.size v' ys := own_of (by simpa using h2)
        exact (by simpa using h4.wide hlo (Nat.le_refl _))
    · obtain ⟨v', w', h1, h2, h3, -⟩ := run_append_own (P := Try.prog) w lo t ty E.t i0 z E.k i0.bytes ht hi0 hz0 hz1 rfl hz3 E.pos v xs.length (E.row xs) ow ⟨b, off, none⟩ ys.length cx (E.row ys) (E.row_len ys) hnews (E.row_cells ys) (by unfold maxLen; omega) hby hlo
      rw [← E.row_append, ← List.length_append] at h2
      refine ⟨v', w', h1, own_of h2, grown _ (fun k hk => ⟨(ow.lt k hk).1, ?_⟩) w' h3⟩
      rcases ow.2 with ⟨rfl, -⟩ | ⟨g, cap, cur, rfl, -, hb', -⟩
      · cases hk
      · cases hk
        exact ⟨cur, _, hb'⟩

section laws
variable {ops : Array Oper} {rest : List Oper} {o : Oper} {a : Act} {w : World} {Q : Exit → Act → World → Prop} {K : Act → World → Prop} {X : Prop}
theorem wpList_append_g {E : Enc α} (I : Info E) (hgd : o.guard = none) (s x : Operand) (t : TypeId) (ho : o.op = .call { callee := .builtin .append, args := #[s, x], argTypes := #[t, t] }) (ht : Try.prog.underlying t = some (.slice E.t)) (lo hi : Nat) (v : Value) (xs : List α) (hs : a.eval s = v) (own : Own E w lo hi v xs) (hlo : lo ≤ w.heap.size) (vx : Value) (ys : List α) (hx : a.eval x = vx) (r : Rd E w vx ys) (hlen : xs.length + ys.length ≤ 1073741824)
    (h : ∀ v' w', Own E w' lo w'.heap.size v' (xs ++ ys) → Ty lo E.t w w' → wpList Try.prog ops Q rest (a.put o.dst v') w') : wpList Try.prog ops Q (o :: rest) a w := by
  obtain ⟨v', w', h1, h2, h3⟩ := run_append_g I w t o.type ht lo hi v xs own hlo vx ys r hlen
  refine wpList_val hgd (v := v') (w' := w') ?_ (h v' w' h2 h3)
  simp [execOp, ho, resolve, invoke, builtin, hs, hx, h1, Result.andThen]
theorem step_append_g {E : Enc α} (I : Info E) (hgd : o.guard = none) (s x : Operand) (t : TypeId) (ho : o.op = .call { callee := .builtin .append, args := #[s, x], argTypes := #[t, t] }) (ht : Try.prog.underlying t = some (.slice E.t)) (lo hi : Nat) (v : Value) (xs : List α) (hs : a.eval s = v) (own : Own E w lo hi v xs) (hlo : lo ≤ w.heap.size) (vx : Value) (ys : List α) (hx : a.eval x = vx) (r : Rd E w vx ys) (hlen : xs.length + ys.length ≤ 1073741824)
    (h : ∀ v' w', Own E w' lo w'.heap.size v' (xs ++ ys) → Ty lo E.t w w' → K (a.put o.dst v') w') : if Region.wanted o (yielded ops a.tmps) = true then Oper.wp Try.prog o a w K Q else X := by
  obtain ⟨v', w', h1, h2, h3⟩ := run_append_g I w t o.type ht lo hi v xs own hlo vx ys r hlen
  refine step_val hgd (v := v') (w' := w') ?_ (h v' w' h2 h3)
  simp [execOp, ho, resolve, invoke, builtin, hs, hx, h1, Result.andThen]
theorem wpList_skp (hgd : o.guard = none) {w' : World} (hr : (execOp a.eval o).run Try.prog w = .ok .skip w') (h : wpList Try.prog ops Q rest (a.put o.dst undef) w') : wpList Try.prog ops Q (o :: rest) a w :=
  wpList_plain hgd fun K hK => by unfold Oper.wp; rw [hr]; exact hK _ _ h
end laws
/-- one new thing lies in a block of its own -/
theorem rd_new {E : Enc α} (w : World) (x : α) (cs : Array Value) (h : E.put x = cs.toList) (f : Nat × Nat := (0, 0)) : Rd E (w.alloc (.cells cs E.t)) (.slice (some ⟨w.heap.size, 0, none⟩) 1 1) [x] := by
  refine ⟨_, 1, rfl, Nat.le_refl _, by unfold maxLen; omega, fun _ => ⟨w.heap.size, 0, rfl, by simp, fun j u hj => ?_⟩⟩
  rw [Enc.row_one', h] at hj
  rw [cell_of_row _ _ _ _ _ _ (heap_alloc_new w (.cells cs E.t))]
  simpa using hj
theorem vblk_grow {w w' : World} {b : Nat} {t : TypeId} {vs : List Value} (h : VBlk w b t vs) (hb : Below w.heap.size w w') : VBlk w' b t vs := h.of (hb.block b h.lt)
theorem vblk_only {w w' : World} {b b' : Nat} {t : TypeId} {vs : List Value} (h : VBlk w b t vs) (ho : Only b' w w') (hn : b ≠ b') : VBlk w' b t vs := h.of (ho.2.1 b hn)
theorem only_set (w : World) (b j : Nat) (u : Value) : Only b w (w.setCell ⟨b, j, none⟩ u) := only_setCells w b [u] j
end Go.Proofs.Ytmnjmghlkiljhaa.ro
/- Rows of texts, of truths, of texts with truths; names, the model's and the program's. -/
namespace Go.Proofs.Ytmnjmghlkiljhaa.rg
open Go.ChangeShapes Go.WideShapes Go.ChangeAt Go.RowKit
open Go.Proofs.Ytmnjmghlkiljhaa.ce Go.Proofs.Ytmnjmghlkiljhaa.ro
set_option linter.unusedVariables false

def encS : Enc ByteArray := ⟨fun s => [.string s], 1, 9, fun _ => rfl, fun s v hv => by rw [List.mem_singleton.1 hv]; rfl, by decide⟩
def encB : Enc Bool := ⟨fun s => [.bool s], 1, 4, fun _ => rfl, fun s v hv => by rw [List.mem_singleton.1 hv]; rfl, by decide⟩
theorem infoS : Info encS := by
  have h : (Try.prog.info? 9).map (fun i => (i.zero, i.size, i.bytes)) = some (some (.string ⟨#[]⟩), 1, 16) := by kernel_rfl
  obtain ⟨i, hi, hz⟩ := Option.map_eq_some_iff.1 h
  simp only [Prod.mk.injEq] at hz
  exact ⟨i, _, hi, hz.1, hz.2.1, by omega, rfl⟩
theorem infoB : Info encB := by
  have h : (Try.prog.info? 4).map (fun i => (i.zero, i.size, i.bytes)) = some (some (.bool false), 1, 1) := by kernel_rfl
  obtain ⟨i, hi, hz⟩ := Option.map_eq_some_iff.1 h
  simp only [Prod.mk.injEq] at hz
  exact ⟨i, _, hi, hz.1, hz.2.1, by omega, rfl⟩
theorem rdS_cell {w : World} {n cap : Nat} {a : Option Addr} {xs : List ByteArray} (r : Rd encS w (.slice a n cap) xs) (i : Nat) (hi : i < xs.length) : ∃ b off, a = some ⟨b, off, none⟩ ∧ b < w.heap.size ∧ w.cell? ⟨b, off + i, none⟩ = some (.string xs[i]) := by
  obtain ⟨b, off, e, h1, h2⟩ := r.cell i 0 hi (show 0 < 1 by decide)
  exact ⟨b, off, e, h1, by simpa [encS] using h2⟩
theorem rdB_cell {w : World} {n cap : Nat} {a : Option Addr} {xs : List Bool} (r : Rd encB w (.slice a n cap) xs) (i : Nat) (hi : i < xs.length) : ∃ b off, a = some ⟨b, off, none⟩ ∧ b < w.heap.size ∧ w.cell? ⟨b, off + i, none⟩ = some (.bool xs[i]) := by
  obtain ⟨b, off, e, h1, h2⟩ := r.cell i 0 hi (show 0 < 1 by decide)
  exact ⟨b, off, e, h1, by simpa [encB] using h2⟩
theorem ownS_cell {w : World} {lo hi n cap : Nat} {a : Option Addr} {xs : List ByteArray} (o : Own encS w lo hi (.slice a n cap) xs) (i : Nat) (h : i < xs.length) : ∃ g, a = some ⟨g, 0, none⟩ ∧ (lo ≤ g ∧ g < hi) ∧ w.cell? ⟨g, i, none⟩ = some (.string xs[i]) ∧ w.frozen? ⟨g, i, none⟩ = false := by
  obtain ⟨g, e, h1, h2, h3⟩ := o.cell i 0 h (show 0 < 1 by decide)
  exact ⟨g, e, h1, by simpa [encS] using h2, by simpa [encS] using h3⟩
theorem ownB_cell {w : World} {lo hi n cap : Nat} {a : Option Addr} {xs : List Bool} (o : Own encB w lo hi (.slice a n cap) xs) (i : Nat) (h : i < xs.length) : ∃ g, a = some ⟨g, 0, none⟩ ∧ (lo ≤ g ∧ g < hi) ∧ w.cell? ⟨g, i, none⟩ = some (.bool xs[i]) ∧ w.frozen? ⟨g, i, none⟩ = false := by
  obtain ⟨g, e, h1, h2, h3⟩ := o.cell i 0 h (show 0 < 1 by decide)
  exact ⟨g, e, h1, by simpa [encB] using h2, by simpa [encB] using h3⟩
theorem ownS_set {w : World} {lo hi g n cap : Nat} {xs : List ByteArray} (o : Own encS w lo hi (.slice (some ⟨g, 0, none⟩) n cap) xs) (i : Nat) (h : i < xs.length) (x : ByteArray) : Own encS (w.setCell ⟨g, i, none⟩ (.string x)) lo hi (.slice (some ⟨g, 0, none⟩) n cap) (xs.set i x) := by
  have := o.set i 0 h (show 0 < 1 by decide) (.string x) x rfl
  simpa [encS] using this
theorem ownB_set {w : World} {lo hi g n cap : Nat} {xs : List Bool} (o : Own encB w lo hi (.slice (some ⟨g, 0, none⟩) n cap) xs) (i : Nat) (h : i < xs.length) (x : Bool) : Own encB (w.setCell ⟨g, i, none⟩ (.bool x)) lo hi (.slice (some ⟨g, 0, none⟩) n cap) (xs.set i x) := by
  have := o.set i 0 h (show 0 < 1 by decide) (.bool x) x rfl
  simpa [encB] using this
theorem hid_ex {β : Type} (x : β) : ∃ y, Hid (x = y) := ⟨x, rfl⟩
theorem bytes_inj {a b : ByteArray} (h : a.data.toList = b.data.toList) : a = b := by
  cases a; cases b; simp at h; rw [h]
theorem str_eq {a b : ByteArray} (h : a.toList = b.toList) : a = b := bytes_inj (by rw [← ByteArray.toList_eq, ← ByteArray.toList_eq]; exact h)

theorem in_is (x lo hi : Int) (y : Bool) (h : (decide (lo ≤ x) && decide (x ≤ hi)) = y) (w : World) : Calls Try.prog 69 #[.int .i64 x, .int .i64 lo, .int .i64 hi] w fun e w' => e = .returned (.bool y) ∧ w' = w := by
  by_cases h1 : lo ≤ x
  · by_cases h3 : x ≤ hi
    · rw [decide_eq_true h1, decide_eq_true h3] at h
      subst h
      go_enter Try.func69, Try.ntmps69
      go_wp2
      go_ret
      exact ⟨rfl, rfl⟩
    · rw [decide_eq_true h1, decide_eq_false h3] at h
      subst h
      go_enter Try.func69, Try.ntmps69
      go_wp2
      go_ret
      exact ⟨rfl, rfl⟩
  · rw [decide_eq_false h1] at h
    subst h
    go_enter Try.func69, Try.ntmps69
    go_wp2
    go_ret
    exact ⟨rfl, rfl⟩

theorem isNameByte_any (c : UInt8) (w : World) : Calls Try.prog 96 #[.int .u8 c.toNat] w fun e w' => e = .returned (.bool (nbB c)) ∧ w' = w := by
  obtain ⟨z, hz⟩ := hid_ex (nbB c)
  rw [hz.out]
  replace hz := hz.out
  unfold nbB at hz
  obtain ⟨n, hn⟩ : ∃ n : Int, (c.toNat : Int) = n := ⟨_, rfl⟩
  rw [hn] at hz ⊢
  clear hn
  by_cases h1 : 97 ≤ n <;> by_cases h2 : n ≤ 122 <;> by_cases h3 : 48 ≤ n <;> by_cases h4 : n ≤ 57 <;> by_cases h5 : n = 45 <;> first | omega | skip
  all_goals
    have h5b : (n == 45) = decide (n = 45) := rfl
    (first | rw [decide_eq_true h5] at h5b | rw [decide_eq_false h5] at h5b)
    (first | rw [decide_eq_true (show 97 ≤ n by omega)] at hz | rw [decide_eq_false (show ¬ 97 ≤ n by omega)] at hz)
    (first | rw [decide_eq_true (show n ≤ 122 by omega)] at hz | rw [decide_eq_false (show ¬ n ≤ 122 by omega)] at hz)
    (first | rw [decide_eq_true (show 48 ≤ n by omega)] at hz | rw [decide_eq_false (show ¬ 48 ≤ n by omega)] at hz)
    (first | rw [decide_eq_true (show n ≤ 57 by omega)] at hz | rw [decide_eq_false (show ¬ n ≤ 57 by omega)] at hz)
    rw [h5b] at hz
    subst hz
    go_enter Try.func96, Try.ntmps96
    go_wp2
    go_ret
    exact ⟨rfl, rfl⟩

theorem all_take_succ {s : ByteArray} {i : Nat} (hi : i < s.size) (h : (s.data.toList.take i).all nbB = true) : (s.data.toList.take (i + 1)).all nbB = nbB s[i] := by
  rw [List.take_succ_eq_append_getElem (by simpa using hi), List.all_append, h]
  simp
  rfl
theorem all_not {s : ByteArray} {i : Nat} (hi : i < s.size) (h : nbB s[i] = false) : nameB s = false := by
  unfold nameB
  have : s.data.toList.all nbB = false := by
    rw [List.all_eq_false]
    exact ⟨s[i], List.mem_iff_getElem.2 ⟨i, by simpa using hi, rfl⟩, by rw [h]; exact Bool.false_ne_true⟩
  rw [this]
  rfl
theorem all_yes {s : ByteArray} {i : Nat} (hi : ¬ i < s.size) (h : (s.data.toList.take i).all nbB = true) : (decide (1 ≤ (s.size : Int)) && decide ((s.size : Int) ≤ 12)) = nameB s := by
  rw [List.take_of_length_le (by simp; omega)] at h
  unfold nameB
  rw [h]
  rfl

theorem implNameOk_any (s : ByteArray) (hs : s.size ≤ 9223372036854775807) (w : World) : Calls Try.prog 50 #[.string s] w fun e w' => e = .returned (.bool (nameB s)) ∧ w' = w := by
  obtain ⟨z, hz⟩ := hid_ex (nameB s)
  rw [hz.out]
  by_cases h0 : s.size = 0
  · have ez : z = false := by rw [← hz.out]; unfold nameB; rw [h0]; simp
    subst ez
    have h0' : ((s.size : Int) == 0) = true := by simpa using h0
    go_enter Try.func50, Try.ntmps50
    go_wp2
    go_ret
    exact ⟨rfl, rfl⟩
  · have h0' : ((s.size : Int) == 0) = false := by simpa using h0
    by_cases h12 : 12 < (s.size : Int)
    · have ez : z = false := by rw [← hz.out]; unfold nameB; rw [decide_eq_false (show ¬ ((s.size : Int) ≤ 12) by omega)]; simp
      subst ez
      go_enter Try.func50, Try.ntmps50
      go_wp2
      go_ret
      exact ⟨rfl, rfl⟩
    · go_enter Try.func50, Try.ntmps50
      go_wp2
      go_loop [14] (fun v => ∃ i : Nat, i ≤ s.size ∧ v = .int .i64 i ∧ Hid ((s.data.toList.take i).all nbB = true)) (fun v => s.size - (intOf v).toNat)
      case atStart => exact ⟨0, by omega, rfl, rfl⟩
      case round =>
        obtain ⟨i, hi1, rfl, hA⟩ := hrel
        by_cases hlt : i < s.size
        · have hlt' : (i : Int) < (s.size : Int) := by omega
          cases hb : nbB s[i] with
          | true =>
            have hA2 : Hid ((s.data.toList.take (i + 1)).all nbB = true) := (all_take_succ hlt hA.out).trans hb
            go_wp2_with (first | (go_at_call 96; refine (isNameByte_any _ _).mono ?_; rintro e wq ⟨rfl, hq⟩; subst wq; rw [hb]) | (fail))
            go_round
            case rel => exact ⟨i + 1, by omega, by go_num, hA2⟩
            case measure => simp [intOf]; omega
          | false =>
            have ez : z = false := by rw [← hz.out]; exact all_not hlt hb
            subst ez
            go_wp2_with (first | (go_at_call 96; refine (isNameByte_any _ _).mono ?_; rintro e wq ⟨rfl, hq⟩; subst wq; rw [hb]) | (fail))
            go_ret
            exact ⟨rfl, rfl⟩
        · have hlt' : ¬ (i : Int) < (s.size : Int) := by omega
          have ez : z = true := by
            rw [← hz.out, ← all_yes hlt hA.out, decide_eq_true (show 1 ≤ (s.size : Int) by omega), decide_eq_true (show (s.size : Int) ≤ 12 by omega)]
            rfl
          subst ez
          go_wp2
          go_ret
          exact ⟨rfl, rfl⟩

theorem specNameOk_any (s : ByteArray) (hs : s.size ≤ 9223372036854775807) (w : World) : Calls Try.prog 25 #[.string s] w fun e w' => e = .returned (.bool (nameB s)) ∧ w' = w := by
  obtain ⟨z, hz⟩ := hid_ex (nameB s)
  rw [hz.out]
  go_enter Try.func25, Try.ntmps25
  go_wp2
  go_loop [3] (fun v => ∃ i : Nat, i ≤ s.size ∧ v = .int .i64 i ∧ Hid ((s.data.toList.take i).all nbB = true)) (fun v => s.size - (intOf v).toNat)
  case atStart => exact ⟨0, by omega, rfl, rfl⟩
  case round =>
    obtain ⟨i, hi1, rfl, hA⟩ := hrel
    by_cases hlt : i < s.size
    · have hlt' : (i : Int) < (s.size : Int) := by omega
      have hA2 := all_take_succ hlt hA.out
      have hN := all_not (s := s) hlt
      unfold nbB at hA2 hN
      obtain ⟨n, hn⟩ : ∃ n : Int, (s[i].toNat : Int) = n := ⟨_, rfl⟩
      rw [hn] at hA2 hN
      have h5b : (n == 45) = decide (n = 45) := rfl
      have h5c : (n != 45) = !decide (n = 45) := rfl
      by_cases h1 : n < 97 <;> by_cases h2 : 122 < n <;> by_cases h3 : n < 48 <;> by_cases h4 : 57 < n <;> by_cases h5 : n = 45 <;> first | omega | skip
      all_goals
        (first | rw [decide_eq_true h5] at h5b h5c | rw [decide_eq_false h5] at h5b h5c)
        (first | rw [decide_eq_true (show 97 ≤ n by omega)] at hA2 hN | rw [decide_eq_false (show ¬ 97 ≤ n by omega)] at hA2 hN)
        (first | rw [decide_eq_true (show n ≤ 122 by omega)] at hA2 hN | rw [decide_eq_false (show ¬ n ≤ 122 by omega)] at hA2 hN)
        (first | rw [decide_eq_true (show 48 ≤ n by omega)] at hA2 hN | rw [decide_eq_false (show ¬ 48 ≤ n by omega)] at hA2 hN)
        (first | rw [decide_eq_true (show n ≤ 57 by omega)] at hA2 hN | rw [decide_eq_false (show ¬ n ≤ 57 by omega)] at hA2 hN)
        rw [h5b] at hA2 hN
        first
          | (have ez : z = false := (by rw [← hz.out]; exact hN rfl)
             subst ez
             clear hA2 hN
             go_wp2
             go_ret
             exact ⟨rfl, rfl⟩)
          | (have hA3 : Hid ((s.data.toList.take (i + 1)).all nbB = true) := hA2
             clear hA2 hN
             go_wp2
             go_round
             case rel => exact ⟨i + 1, by omega, by go_num, hA3⟩
             case measure => simp [intOf]; omega)
    · have hlt' : ¬ (i : Int) < (s.size : Int) := by omega
      have hy : Hid ((decide (1 ≤ (s.size : Int)) && decide ((s.size : Int) ≤ 12)) = z) := (all_yes hlt hA.out).trans hz.out
      go_wp2_with (first | (go_at_call 69; refine (in_is _ 1 12 z hy.out _).mono ?_; rintro e wq ⟨rfl, hq⟩; subst wq) | (fail))
      go_ret
      exact ⟨rfl, rfl⟩
end Go.Proofs.Ytmnjmghlkiljhaa.rg
/- Contracts: the place of a text in a row, right names, right rings: the model's. -/
namespace Go.Proofs.Ytmnjmghlkiljhaa.rg
open Go.ChangeShapes Go.WideShapes Go.ChangeAt Go.RowKit
open Go.Proofs.Ytmnjmghlkiljhaa.ce Go.Proofs.Ytmnjmghlkiljhaa.ro
set_option linter.unusedVariables false

theorem l1At_any (N : List ByteArray) (s : ByteArray) (v : Value) (w : World) (r : Rd encS w v N) :
    Calls Try.prog 137 #[v, .string s] w fun e w' => e = .returned (.int .i64 (posS s N)) ∧ w' = w := by
  have hl := r.len
  obtain ⟨a, cap, rfl⟩ := r.form
  have R : Hid (Rd encS w (.slice a N.length cap) N) := r
  clear r
  obtain ⟨y, hy⟩ := hid_ex (posS s N)
  rw [hy.out]
  go_enter Try.func137, Try.ntmps137
  go_wp2
  go_loop [5] (fun p => ∃ i : Nat, i ≤ N.length ∧ p = .int .i64 i ∧ Hid (s ∉ N.take i)) (fun p => N.length - (intOf p).toNat)
  case atStart => exact ⟨0, by omega, rfl, (by unfold Hid; simp)⟩
  case round =>
    obtain ⟨i, hi1, rfl, hno⟩ := hrel
    by_cases hlt : i < N.length
    · obtain ⟨b, off, rfl, hb, d0⟩ := rdS_cell R.out i hlt
      have hlt' : (i : Int) < (N.length : Int) := by omega
      obtain ⟨z, hz⟩ := hid_ex (N[i])
      rw [hz.out] at d0
      by_cases he : z.toList = s.toList
      · have ey : y = i := by rw [← hy.out]; exact posS_at hlt (hz.out.trans (str_eq he)) hno.out
        subst ey
        have hbe : (z.toList == s.toList) = true := by simpa using he
        clear he
        go_wp2
        go_ret
        exact ⟨rfl, rfl⟩
      · have hno2 : Hid (s ∉ N.take (i + 1)) := by
          unfold Hid
          rw [List.take_succ_eq_append_getElem hlt, List.mem_append, hz.out, List.mem_singleton]
          rintro (h | h)
          · exact hno.out h
          · exact he (by rw [h])
        have hbe : (z.toList == s.toList) = false := by simpa using he
        clear he
        go_wp2
        go_round
        case rel => exact ⟨i + 1, by omega, by go_num, hno2⟩
        case measure => simp [intOf]; omega
    · have hlt' : ¬ (i : Int) < (N.length : Int) := by omega
      have ey : y = -1 := by
        have h := hno.out
        rw [List.take_of_length_le (by omega)] at h
        rw [← hy.out]; exact posS_no h
      subst ey
      go_wp2
      go_ret
      exact ⟨rfl, rfl⟩

theorem l8Names_any (N : List ByteArray) (v : Value) (w : World) (r : Rd encS w v N) (hs : ∀ s ∈ N, s.size ≤ 9223372036854775807) :
    Calls Try.prog 114 #[v] w fun e w' => e = .returned (.bool (namesB N)) ∧ w' = w := by
  have hl := r.len
  obtain ⟨a, cap, rfl⟩ := r.form
  have R : Hid (Rd encS w (.slice a N.length cap) N) := r
  have HS : Hid (∀ s ∈ N, s.size ≤ 9223372036854775807) := hs
  clear r hs
  obtain ⟨y, hy⟩ := hid_ex (namesB N)
  rw [hy.out]
  go_enter Try.func114, Try.ntmps114
  go_wp2
  go_loop [3] (fun p => ∃ i : Nat, i ≤ N.length ∧ p = .int .i64 i ∧ Hid (Pre N i)) (fun p => N.length - (intOf p).toNat)
  case atStart => exact ⟨0, by omega, rfl, pre_zero N⟩
  case round =>
    obtain ⟨i, hi1, rfl, hP⟩ := hrel
    by_cases hlt : i < N.length
    · obtain ⟨b, off, rfl, hb, d0⟩ := rdS_cell R.out i hlt
      have hlt' : (i : Int) < (N.length : Int) := by omega
      have hsz := HS.out N[i] (List.getElem_mem hlt)
      have hself := @posS_self N i hlt
      have hp1 := @pre_not1 N i hlt
      have hp2 := @pre_not2 N i hlt
      have hp3 := pre_succ hP.out hlt
      obtain ⟨z, hz⟩ := hid_ex (N[i])
      rw [hz.out] at d0 hsz hself hp1 hp2 hp3
      cases hn : nameB z with
      | false =>
        have ey : y = false := by rw [← hy.out]; exact hp1 hn
        subst ey
        clear hself hp1 hp2 hp3
        go_wp2_with (first | (go_at_call 25; refine (specNameOk_any _ hsz _).mono ?_; rintro e wq ⟨rfl, hq⟩; subst wq; rw [hn]) | (fail))
        go_ret
        exact ⟨rfl, rfl⟩
      | true =>
        obtain ⟨p, hp⟩ := hid_ex (posS z N)
        rw [hp.out] at hself
        by_cases he : p = i
        · have hP2 : Hid (Pre N (i + 1)) := hp3 hn (hself.1 he)
          have hne : ((p : Int) != (i : Int)) = false := by simpa using he
          clear hself hp1 hp2 hp3 he
          go_wp2_with (first | (go_at_call 25; refine (specNameOk_any _ hsz _).mono ?_; rintro e wq ⟨rfl, hq⟩; subst wq; rw [hn]) | (go_at_call 137; refine (l1At_any N _ _ _ R.out).mono ?_; rintro e wq ⟨rfl, hq⟩; subst wq; rw [hp.out]) | (fail))
          go_round
          case rel => exact ⟨i + 1, by omega, by go_num, hP2⟩
          case measure => simp [intOf]; omega
        · have ey : y = false := by
            rw [← hy.out]
            exact hp2 (Classical.byContradiction fun h => he (hself.2 h))
          subst ey
          have hne : ((p : Int) != (i : Int)) = true := by simpa using he
          clear hself hp1 hp2 hp3 he
          go_wp2_with (first | (go_at_call 25; refine (specNameOk_any _ hsz _).mono ?_; rintro e wq ⟨rfl, hq⟩; subst wq; rw [hn]) | (go_at_call 137; refine (l1At_any N _ _ _ R.out).mono ?_; rintro e wq ⟨rfl, hq⟩; subst wq; rw [hp.out]) | (fail))
          go_ret
          exact ⟨rfl, rfl⟩
    · have hlt' : ¬ (i : Int) < (N.length : Int) := by omega
      have hP2 := hP.out
      rw [show i = N.length by omega] at hP2
      have ey := (pre_all hP2).symm.trans hy.out
      clear hP2
      by_cases h20 : (N.length : Int) ≤ 20
      · rw [decide_eq_true h20] at ey
        subst ey
        go_wp2
        go_ret
        exact ⟨rfl, rfl⟩
      · rw [decide_eq_false h20] at ey
        subst ey
        go_wp2
        go_ret
        exact ⟨rfl, rfl⟩

/-- a ring is read -/
structure RdR (w : World) (vN vU : Value) (r : Rg) : Prop where
  n : Rd encS w vN r.N
  u : Rd encB w vU r.U
  s : ∀ s ∈ r.N, s.size ≤ 9223372036854775807
theorem RdR.grow {w w' : World} {vN vU : Value} {r : Rg} (h : RdR w vN vU r) (hb : Below w.heap.size w w') : RdR w' vN vU r := ⟨h.n.grow hb, h.u.grow hb, h.s⟩
/-- a ring is owned -/
structure OwnR (w : World) (lo hi : Nat) (vN vU : Value) (r : Rg) : Prop where
  n : Own encS w lo hi vN r.N
  u : Own encB w lo hi vU r.U
theorem OwnR.grow {w w' : World} {lo hi : Nat} {vN vU : Value} {r : Rg} (h : OwnR w lo hi vN vU r) (hb : Below w.heap.size w w') : OwnR w' lo hi vN vU r := ⟨h.n.grow hb, h.u.grow hb⟩
theorem OwnR.within {w w' : World} {lo hi l2 h2 : Nat} {vN vU : Value} {r : Rg} (h : OwnR w lo hi vN vU r) (hw : Within l2 h2 w w') (hd : hi ≤ l2 ∨ h2 ≤ lo) : OwnR w' lo hi vN vU r := ⟨h.n.within hw hd, h.u.within hw hd⟩
theorem OwnR.wide {w : World} {lo hi lo' hi' : Nat} {vN vU : Value} {r : Rg} (h : OwnR w lo hi vN vU r) (h1 : lo' ≤ lo) (h2 : hi ≤ hi') : OwnR w lo' hi' vN vU r := ⟨h.n.wide h1 h2, h.u.wide h1 h2⟩
theorem OwnR.top {w : World} {lo hi : Nat} {vN vU : Value} {r : Rg} (h : OwnR w lo hi vN vU r) : OwnR w lo w.heap.size vN vU r := ⟨h.n.top, h.u.top⟩
theorem OwnR.rd {w : World} {lo hi : Nat} {vN vU : Value} {r : Rg} (h : OwnR w lo hi vN vU r) (hs : ∀ s ∈ r.N, s.size ≤ 9223372036854775807) : RdR w vN vU r := ⟨h.n.rd, h.u.rd, hs⟩
theorem OwnR.only {w w' : World} {lo hi b : Nat} {vN vU : Value} {r : Rg} {t : TypeId} {vs : List Value} (h : OwnR w lo hi vN vU r) (ho : Only b w w') (hb : VBlk w b t vs) (h1 : 9 ≠ t) (h2 : 4 ≠ t) : OwnR w' lo hi vN vU r := ⟨h.n.only ho hb h1, h.u.only ho hb h2⟩
theorem ownR_zero (w : World) (lo hi : Nat) : OwnR w lo hi (.slice none 0 0) (.slice none 0 0) Rg.zero := ⟨own_zero _ _ _ _ _, own_zero _ _ _ _ _⟩
theorem sizeRg : (Try.prog.info? 27).map (·.size) = some 3 := by kernel_rfl
theorem zeroRg (w : World) : (zeroValue 27).run Try.prog w = .ok (.agg [Value.slice none 0 0, .slice none 0 0, .int .i64 0].toArray) w := Try.zeroValue27 w
theorem cells3 {w : World} {b : Nat} {t : TypeId} {u v x : Value} (h : VBlk w b t [u, v, x]) : w.cell? ⟨b, 0, none⟩ = some u ∧ w.cell? ⟨b, 1, none⟩ = some v ∧ w.cell? ⟨b, 2, none⟩ = some x := ⟨h.cell 0 (by simp), h.cell 1 (by simp), h.cell 2 (by simp)⟩
theorem cells2 {w : World} {b : Nat} {t : TypeId} {u v : Value} (h : VBlk w b t [u, v]) : w.cell? ⟨b, 0, none⟩ = some u ∧ w.cell? ⟨b, 1, none⟩ = some v := ⟨h.cell 0 (by simp), h.cell 1 (by simp)⟩

theorem specRingOk_any (r : Rg) (vN vU : Value) (w : World) (h : RdR w vN vU r) :
    Calls Try.prog 65 #[.agg #[vN, vU, .int .i64 r.A]] w fun e w' => e = .returned (.bool (ringB r)) ∧ Below w.heap.size w w' := by
  obtain ⟨N, U, A⟩ := r
  have hlN := h.n.len
  have hlU := h.u.len
  obtain ⟨a, cap, rfl⟩ := h.n.form
  obtain ⟨c, dc, rfl⟩ := h.u.form
  have R : Hid (RdR w (.slice a N.length cap) (.slice c U.length dc) ⟨N, U, A⟩) := h
  clear h
  dsimp only at hlN hlU ⊢
  obtain ⟨y, hy⟩ := hid_ex (ringB ⟨N, U, A⟩)
  rw [hy.out]
  replace hy : Hid ((namesB N && (U.length == N.length) && atB N.length A) = y) := hy
  have m1 : Hid True := trivial
  cases hn : namesB N with
  | false =>
    have ey : y = false := by rw [← hy.out, hn]; simp
    subst ey
    go_enter Try.func65, Try.ntmps65
    go_wp2_with (first | (clear m1; refine wpList_box_v rfl 27 _ rfl [.slice a N.length cap, .slice c U.length dc, .int .i64 A] rfl ?_; intro b1 w1 hb1 hw1 hB1 hV1; obtain ⟨c0, c1, c2⟩ := cells3 hV1) | (go_at_call 114; refine (l8Names_any N _ _ (R.out.grow hB1).n R.out.s).mono ?_; rintro e wq ⟨rfl, hq⟩; subst wq; rw [hn]) | (fail))
    go_ret
    exact ⟨rfl, hB1⟩
  | true =>
    by_cases hu : (U.length : Int) = (N.length : Int)
    · have hu1 : ((U.length : Int) == (N.length : Int)) = true := by simpa using hu
      have hu2 : (U.length == N.length) = true := by simp; omega
      by_cases h0 : (N.length : Int) = 0
      · have h01 : ((N.length : Int) == 0) = true := by simpa using h0
        by_cases hA : A = 0
        · have ey : y = true := by
            rw [← hy.out, hn, hu2]
            unfold atB
            rw [decide_eq_true (show 0 ≤ A by omega), decide_eq_true (by omega)]
            rfl
          subst ey
          have hA1 : (A == 0) = true := by simpa using hA
          clear hu hu2 h0 hA
          go_enter Try.func65, Try.ntmps65
          go_wp2_with (first | (clear m1; refine wpList_box_v rfl 27 _ rfl [.slice a N.length cap, .slice c U.length dc, .int .i64 A] rfl ?_; intro b1 w1 hb1 hw1 hB1 hV1; obtain ⟨c0, c1, c2⟩ := cells3 hV1) | (go_at_call 114; refine (l8Names_any N _ _ (R.out.grow hB1).n R.out.s).mono ?_; rintro e wq ⟨rfl, hq⟩; subst wq; rw [hn]) | (fail))
          go_ret
          exact ⟨rfl, hB1⟩
        · have hA1 : (A == 0) = false := by simpa using hA
          have hin : Hid ((decide (0 ≤ A) && decide (A ≤ (N.length : Int) - 1)) = y) := by
            unfold Hid
            rw [← hy.out, hn, hu2]
            unfold atB
            by_cases q : 0 ≤ A
            · rw [decide_eq_true q, decide_eq_false (show ¬ A ≤ (N.length : Int) - 1 by omega), decide_eq_false (by omega)]
              rfl
            · rw [decide_eq_false q]
              rfl
          clear hu hu2 h0 hA
          go_enter Try.func65, Try.ntmps65
          go_wp2_with (first | (clear m1; refine wpList_box_v rfl 27 _ rfl [.slice a N.length cap, .slice c U.length dc, .int .i64 A] rfl ?_; intro b1 w1 hb1 hw1 hB1 hV1; obtain ⟨c0, c1, c2⟩ := cells3 hV1) | (go_at_call 114; refine (l8Names_any N _ _ (R.out.grow hB1).n R.out.s).mono ?_; rintro e wq ⟨rfl, hq⟩; subst wq; rw [hn]) | (go_at_call 69; refine (in_is _ _ _ y hin.out _).mono ?_; rintro e wq ⟨rfl, hq⟩; subst wq) | (fail))
          go_ret
          exact ⟨rfl, hB1⟩
      · have h01 : ((N.length : Int) == 0) = false := by simpa using h0
        have hin : Hid ((decide (0 ≤ A) && decide (A ≤ (N.length : Int) - 1)) = y) := by
          unfold Hid
          rw [← hy.out, hn, hu2]
          unfold atB
          rw [show decide (A ≤ (N.length : Int) - 1) = decide (A < max (N.length : Int) 1) from decide_eq_decide.2 (by omega)]
          simp
        clear hu hu2 h0
        go_enter Try.func65, Try.ntmps65
        go_wp2_with (first | (clear m1; refine wpList_box_v rfl 27 _ rfl [.slice a N.length cap, .slice c U.length dc, .int .i64 A] rfl ?_; intro b1 w1 hb1 hw1 hB1 hV1; obtain ⟨c0, c1, c2⟩ := cells3 hV1) | (go_at_call 114; refine (l8Names_any N _ _ (R.out.grow hB1).n R.out.s).mono ?_; rintro e wq ⟨rfl, hq⟩; subst wq; rw [hn]) | (go_at_call 69; refine (in_is _ _ _ y hin.out _).mono ?_; rintro e wq ⟨rfl, hq⟩; subst wq) | (fail))
        go_ret
        exact ⟨rfl, hB1⟩
    · have hu1 : ((U.length : Int) == (N.length : Int)) = false := by simpa using hu
      have ey : y = false := by
        rw [← hy.out, show (U.length == N.length) = false by simp; omega]
        simp
      subst ey
      clear hu
      go_enter Try.func65, Try.ntmps65
      go_wp2_with (first | (clear m1; refine wpList_box_v rfl 27 _ rfl [.slice a N.length cap, .slice c U.length dc, .int .i64 A] rfl ?_; intro b1 w1 hb1 hw1 hB1 hV1; obtain ⟨c0, c1, c2⟩ := cells3 hV1) | (go_at_call 114; refine (l8Names_any N _ _ (R.out.grow hB1).n R.out.s).mono ?_; rintro e wq ⟨rfl, hq⟩; subst wq; rw [hn]) | (fail))
      go_ret
      exact ⟨rfl, hB1⟩
end Go.Proofs.Ytmnjmghlkiljhaa.rg
/- Texts cut out of a row: what stands behind a place; the model's l1Cut. -/
namespace Go.Proofs.Ytmnjmghlkiljhaa.rg
open Go.ChangeShapes Go.WideShapes Go.ChangeAt Go.RowKit
open Go.Proofs.Ytmnjmghlkiljhaa.ce Go.Proofs.Ytmnjmghlkiljhaa.ro
set_option linter.unusedVariables false

theorem rdS_rest {w : World} {b off n cap : Nat} {xs : List ByteArray} (r : Rd encS w (.slice (some ⟨b, off, none⟩) n cap) xs) (m : Nat) (hm : m ≤ xs.length) :
    Rd encS w (.slice (if cap = m then some ⟨b, off, none⟩ else some ⟨b, off + m, none⟩) (n - m) (cap - m)) (xs.drop m) := by
  rcases r.rest m hm with ⟨h1, h2⟩ | ⟨h1, h2, h3, h4⟩
  · rw [if_neg (by omega)]
    simpa [encS] using h2.out
  · rw [if_pos h1.symm, h1, h2, h1, Nat.sub_self, ← h1]
    exact h4.out
theorem bl_alloc {w w' : World} {o : Obj} (h : Below w.heap.size w w') : Below w.heap.size w (w'.alloc o) := h.alloc h.size _
theorem bl_alloc_drew {w w' : World} {o : Obj} (h : Below w.heap.size w w'.drew) : Below w.heap.size w (w'.alloc o).drew := bl_alloc (w' := w'.drew) h
/-- one text is cut out -/
theorem l1Cut_any (N : List ByteArray) (v : Value) (i : Nat) (w : World) (r : Rd encS w v N) (hi : i < N.length) (hN : N.length ≤ 1000000) :
    Calls Try.prog 138 #[v, .int .i64 i] w fun e w' => ∃ v', e = .returned v' ∧ Own encS w' w.heap.size w'.heap.size v' (N.take i ++ N.drop (i + 1)) ∧ Below w.heap.size w w' := by
  obtain ⟨a, cap, rfl⟩ := r.form
  obtain ⟨b, off, rfl, hb, -⟩ := rdS_cell r i hi
  obtain ⟨-, hc1, hc2⟩ := r.cap
  obtain ⟨p, hp⟩ := hid_ex (i + 1)
  have RT := r.take i (by omega)
  have RR := rdS_rest r (i + 1) (by omega)
  clear r
  rw [hp.out] at RR ⊢
  have hpi : Hid (p = i + 1) := hp.out.symm
  have i0 : (0 : Int) ≤ (i : Int) := by omega
  have i1 : (i : Int) ≤ (cap : Int) := by omega
  have p1 : (p : Int) ≤ (N.length : Int) := by have := hpi.out; omega
  have p2 : (p : Int) ≤ (cap : Int) := by have := hpi.out; omega
  have p3 : p ≤ N.length := by omega
  have i3 : (N.length : Int) ≤ (cap : Int) := by omega
  have i4 : IntKind.i64.wrap ((i : Int) + 1) = (p : Int) := by rw [IntKind.wrap_i64]; have := hpi.out; omega
  have hlt : (N.take i).length ≤ 1000 + i := by rw [List.length_take]; omega
  have hld : (N.drop p).length ≤ N.length - p := by rw [List.length_drop]; omega
  have hip := hpi.out
  clear hp
  replace hip : i < p := by omega
  have RD : Hid (Rd encS w _ (N.drop p)) := RR
  clear RR
  go_enter Try.func138, Try.ntmps138
  go_wp2
  go_region_held3 (fun w' => Below w.heap.size w w') (first | with_reducible assumption | exact (Below.refl _ _).drew | with_reducible exact bl_alloc (by assumption) | with_reducible exact bl_alloc_drew (by assumption) | (fail)) (first | (refine step_append_g infoS rfl _ _ 24 rfl Try.underlying24 w.heap.size 0 _ [] rfl (own_zero _ _ _ _ _) (Below.size (by with_reducible assumption)) _ (N.take i) rfl (RT.grow (by with_reducible assumption)) (by simp; omega) ?_; intro v5 W5 o5 hT5; rw [List.nil_append] at o5; have hB5 : Below w.heap.size w W5 := Below.trans (by with_reducible assumption) hT5.low) | (refine step_append_g infoS rfl _ _ 24 rfl Try.underlying24 w.heap.size _ _ (N.take i) rfl o5 (Below.size hB5) _ (N.drop p) rfl (RD.out.grow hB5) (by omega) ?_; intro v6 W6 o6 hT6; have hB6 : Below w.heap.size w W6 := hB5.trans hT6.low) | (fail))
  go_wp2
  all_goals
    go_ret
    exact ⟨_, rfl, o6, hB6⟩
end Go.Proofs.Ytmnjmghlkiljhaa.rg
/- Contracts: the model's queues: one text is cut out; who is touched, all but one, who is sampled. -/
namespace Go.Proofs.Ytmnjmghlkiljhaa.rg
open Go.ChangeShapes Go.WideShapes Go.ChangeAt Go.RowKit
open Go.Proofs.Ytmnjmghlkiljhaa.ce Go.Proofs.Ytmnjmghlkiljhaa.ro
set_option linter.unusedVariables false

theorem ty_mono {lo lo' : Nat} {t : TypeId} {w w' : World} (h : Ty lo t w w') (hl : lo' ≤ lo) : Ty lo' t w w' := ⟨h.low.mono hl, h.keep⟩
theorem ty_alloc {lo : Nat} {t : TypeId} {w : World} (hl : lo ≤ w.heap.size) (o : Obj) : Ty lo t w (w.alloc o) := Ty.of_below ((Below.refl _ _).alloc (Nat.le_refl _) _) hl

set_option maxHeartbeats 1000000 in
theorem l9Touch_any (q : List ByteArray) (s : ByteArray) (hs : s.size ≤ 9223372036854775807) (v : Value) (lo hi : Nat) (w : World) (own : Own encS w lo hi v q) (hlo : lo ≤ w.heap.size) (hq : q.length ≤ 1000000) :
    Calls Try.prog 109 #[v, .string s] w fun e w' => ∃ v', e = .returned (.tuple #[v', .bool (tqB q s)]) ∧ Own encS w' lo w'.heap.size v' (tqR q s) ∧ Ty lo 9 w w' := by
  obtain ⟨a, n, cap, rfl⟩ := own.slice
  have hn : Hid (n = q.length) := own.rd.cap.1
  have O : Hid (Own encS w lo hi (.slice a n cap) q) := own
  clear own
  have ma : Hid True := trivial
  rcases posS_cases s q with ⟨h1, e⟩ | ⟨i, hi', h1, h2, e⟩
  · have e1 : tqB q s = (nameB s && !(q.length == 20)) := by unfold tqB; rw [e]; rfl
    have e2 : tqR q s = if (nameB s && !(q.length == 20)) = true then q ++ [s] else q := by unfold tqR; rw [e]; rfl
    have hp : Hid (posS s q = -1) := e
    rw [e1, e2]
    clear e1 e2 e h1
    cases hm : nameB s with
    | false =>
      go_enter Try.func109, Try.ntmps109
      go_wp2_with (first | (go_at_call 137; refine (l1At_any q s _ _ O.out.rd).mono ?_; rintro e wq ⟨rfl, hq⟩; subst wq; rw [hp.out]) | (go_at_call 25; refine (specNameOk_any _ hs _).mono ?_; rintro e wq ⟨rfl, hq⟩; subst wq; rw [hm]) | (fail))
      go_ret2
      exact ⟨_, rfl, O.out.top, Ty.refl _ _ _⟩
    | true =>
      by_cases h20 : q.length = 20
      · have h21 : (q.length == 20) = true := by simpa using h20
        have h22 : ((n : Int) == 20) = true := by rw [hn.out, h20]; rfl
        rw [h21]
        clear h20 h21
        go_enter Try.func109, Try.ntmps109
        go_wp2_with (first | (go_at_call 137; refine (l1At_any q s _ _ O.out.rd).mono ?_; rintro e wq ⟨rfl, hq⟩; subst wq; rw [hp.out]) | (go_at_call 25; refine (specNameOk_any _ hs _).mono ?_; rintro e wq ⟨rfl, hq⟩; subst wq; rw [hm]) | (fail))
        go_ret2
        exact ⟨_, rfl, O.out.top, Ty.refl _ _ _⟩
      · have h21 : (q.length == 20) = false := by simpa using h20
        have h22 : ((n : Int) == 20) = false := by rw [hn.out]; simp; omega
        rw [h21]
        clear h20 h21
        go_enter Try.func109, Try.ntmps109
        go_wp2_with (first | (go_at_call 137; refine (l1At_any q s _ _ O.out.rd).mono ?_; rintro e wq ⟨rfl, hq⟩; subst wq; rw [hp.out]) | (go_at_call 25; refine (specNameOk_any _ hs _).mono ?_; rintro e wq ⟨rfl, hq⟩; subst wq; rw [hm]) | (clear ma; at_builtin; refine wpList_append_g infoS rfl _ _ 24 rfl Try.underlying24 lo _ _ q rfl (O.out.grow ((Below.refl _ _).alloc (Nat.le_refl _) _)) (by simp; omega) _ [s] rfl (rd_new (E := encS) w s #[.string s] rfl) (by simp; omega) ?_; intro v1 w1 o1 hT1) | (fail))
        go_ret2
        exact ⟨_, rfl, o1, (ty_alloc hlo _).trans hT1⟩
  · have e1 : tqB q s = true := by unfold tqB; rw [e]; simp
    have e2 : tqR q s = (q.take i ++ q.drop (i + 1)) ++ [s] := by unfold tqR; rw [e]; simp
    have hp : Hid (posS s q = (i : Int)) := e
    have hcl : (q.take i ++ q.drop (i + 1)).length ≤ 1000000 := by simp; omega
    rw [e1, e2]
    obtain ⟨c, hc⟩ := hid_ex (q.take i ++ q.drop (i + 1))
    rw [hc.out] at hcl ⊢
    clear e1 e2 e h1 h2
    have i0 : (i : Int) ≥ 0 := by omega
    go_enter Try.func109, Try.ntmps109
    go_wp2_with (first | (go_at_call 137; refine (l1At_any q s _ _ O.out.rd).mono ?_; rintro e wq ⟨rfl, hq⟩; subst wq; rw [hp.out]) | (go_at_call 138; refine (l1Cut_any q _ i _ O.out.rd hi' hq).mono ?_; rintro e w2 ⟨v2, rfl, o2, hB2⟩; rw [hc.out] at o2; have hz2 := hB2.size) | (clear ma; at_builtin; refine wpList_append_g infoS rfl _ _ 24 rfl Try.underlying24 w.heap.size _ _ c rfl (o2.grow ((Below.refl _ _).alloc (Nat.le_refl _) _)) (by simp; omega) _ [s] rfl (rd_new (E := encS) w2 s #[.string s] rfl) (by simp; omega) ?_; intro v3 w3 o3 hT3) | (fail))
    go_ret2
    exact ⟨_, rfl, o3.wide hlo (Nat.le_refl _), ((Ty.of_below hB2 hlo).trans (ty_alloc (by omega) _)).trans (ty_mono hT3 hlo)⟩

theorem l9Without_any (q : List ByteArray) (s : ByteArray) (v : Value) (w : World) (r : Rd encS w v q) (hq : q.length ≤ 1000000) :
    Calls Try.prog 112 #[v, .string s] w fun e w' => ∃ v', e = .returned v' ∧ Own encS w' w.heap.size w'.heap.size v' (cutR q s) ∧ Below w.heap.size w w' := by
  obtain ⟨a, cap, rfl⟩ := r.form
  have R : Hid (Rd encS w (.slice a q.length cap) q) := r
  clear r
  have ma : Hid True := trivial
  rcases posS_cases s q with ⟨h1, e⟩ | ⟨i, hi', h1, h2, e⟩
  · have e2 : cutR q s = q := by unfold cutR; rw [e]; rfl
    have hp : Hid (posS s q = -1) := e
    rw [e2]
    clear e2 e h1
    go_enter Try.func112, Try.ntmps112
    go_wp2_with (first | (go_at_call 137; refine (l1At_any q s _ _ R.out).mono ?_; rintro e wq ⟨rfl, hq⟩; subst wq; rw [hp.out]) | (clear ma; at_builtin; refine wpList_append_g infoS rfl _ _ 24 rfl Try.underlying24 w.heap.size _ _ [] rfl (own_zero _ _ _ 0 _) (by simp) _ q rfl (R.out.grow ((Below.refl _ _).alloc (Nat.le_refl _) _)) (by simp; omega) ?_; intro v1 w1 o1 hT1; rw [List.nil_append] at o1) | (fail))
    go_ret
    exact ⟨_, rfl, o1, ((Below.refl _ _).alloc (Nat.le_refl _) _).trans hT1.low⟩
  · have e2 : cutR q s = q.take i ++ q.drop (i + 1) := by unfold cutR; rw [e]; simp
    have hp : Hid (posS s q = (i : Int)) := e
    rw [e2]
    obtain ⟨c, hc⟩ := hid_ex (q.take i ++ q.drop (i + 1))
    rw [hc.out]
    clear e2 e h1 h2
    have i0 : (i : Int) ≥ 0 := by omega
    go_enter Try.func112, Try.ntmps112
    go_wp2_with (first | (go_at_call 137; refine (l1At_any q s _ _ R.out).mono ?_; rintro e wq ⟨rfl, hq⟩; subst wq; rw [hp.out]) | (go_at_call 138; refine (l1Cut_any q _ i _ R.out hi' hq).mono ?_; rintro e w2 ⟨v2, rfl, o2, hB2⟩; rw [hc.out] at o2) | (fail))
    go_ret
    exact ⟨_, rfl, o2, hB2⟩

theorem specQueueOk_any (q : List ByteArray) (v : Value) (w : World) (r : Rd encS w v q) (hs : ∀ s ∈ q, s.size ≤ 9223372036854775807) :
    Calls Try.prog 66 #[v] w fun e w' => e = .returned (.bool (namesB q)) ∧ w' = w := by
  obtain ⟨a, cap, rfl⟩ := r.form
  have R : Hid (Rd encS w (.slice a q.length cap) q) := r
  have HS : Hid (∀ s ∈ q, s.size ≤ 9223372036854775807) := hs
  clear r hs
  go_enter Try.func66, Try.ntmps66
  go_wp2_with (first | (go_at_call 114; refine (l8Names_any q _ _ R.out HS.out).mono ?_; rintro e wq ⟨rfl, hq⟩; subst wq) | (fail))
  go_ret
  exact ⟨rfl, rfl⟩

end Go.Proofs.Ytmnjmghlkiljhaa.rg
