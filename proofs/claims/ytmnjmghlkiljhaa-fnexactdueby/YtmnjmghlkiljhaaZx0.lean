/- Mathematics of a heap of things, no Go in sight: what is put on top of it and what is taken. -/
import Derived.Test.YtmnjmghlkiljhaaAx0
namespace Go.Proofs.Ytmnjmghlkiljhaa.rg
open Go.RowKit
set_option linter.unusedVariables false

def earB (x y : It) : Bool := if x.U = y.U then ltS x.N y.N else decide (x.U < y.U)
theorem earB_iff {x y : It} : earB x y = true ↔ Ear x y := by
  unfold earB Ear
  by_cases h : x.U = y.U
  · rw [if_pos h]
    exact ⟨fun q => .inr ⟨h, q⟩, fun q => q.elim (fun z => by omega) (fun z => z.2)⟩
  · rw [if_neg h, decide_eq_true_eq]
    exact ⟨.inl, fun q => q.elim id (fun z => absurd z.1 h)⟩
theorem ear_trans {x y z : It} (h : Ear x y) (k : Ear y z) : Ear x z := by
  rcases h with h | ⟨h, h'⟩ <;> rcases k with k | ⟨k, k'⟩
  · exact .inl (by omega)
  · exact .inl (by omega)
  · exact .inl (by omega)
  · exact .inr ⟨h.trans k, ltS_trans h' k'⟩
theorem ear_irr {x : It} (h : Ear x x) : False := by
  rcases h with h | ⟨_, h⟩
  · omega
  · exact ltS_ne h rfl
theorem ear_asym {x y : It} (h : Ear x y) (k : Ear y x) : False := ear_irr (ear_trans h k)
/-- no later -/
def Nl (x y : It) : Prop := ¬ Ear y x
theorem ear_flip {x y : It} (h : ¬ Ear x y) (hn : x.N ≠ y.N) : Ear y x := by
  by_cases e : x.U = y.U
  · refine .inr ⟨e.symm, ?_⟩
    cases q : ltS x.N y.N with
    | false => exact ltS_total q hn
    | true => exact absurd (.inr ⟨e, q⟩) h
  · by_cases l : x.U < y.U
    · exact absurd (.inl l) h
    · exact .inl (by omega)
theorem nl_trans {x y z : It} (h : Nl x y) (k : Nl y z) : Nl x z := fun q => by
  -- q : z before x; y not before x; z not before y
  rcases q with q | ⟨q, q'⟩
  · by_cases a : y.U < x.U
    · exact h (.inl a)
    · by_cases b : z.U < y.U
      · exact k (.inl b)
      · omega
  · by_cases a : y.U < x.U
    · exact h (.inl a)
    · by_cases b : z.U < y.U
      · exact k (.inl b)
      · have e1 : y.U = x.U := by omega
        have e2 : z.U = y.U := by omega
        have h1 : ltS y.N x.N = false := by
          cases c : ltS y.N x.N with
          | false => rfl
          | true => exact absurd (.inr ⟨e1, c⟩) h
        have h2 : ltS z.N y.N = false := by
          cases c : ltS z.N y.N with
          | false => rfl
          | true => exact absurd (.inr ⟨e2, c⟩) k
        by_cases n : y.N = x.N
        · rw [n] at h2; rw [h2] at q'; cases q'
        · have h3 := ltS_total h1 n
          have h4 := ltS_trans q' h3
          rw [h2] at h4; cases h4
theorem nl_refl (x : It) : Nl x x := fun q => ear_irr q
theorem nl_of {x y : It} (h : Ear x y) : Nl x y := fun q => ear_asym h q

/-- two are swapped -/
def swp (l : List It) (i j : Nat) : List It := if h : i < l.length ∧ j < l.length then (l.set i l[j]).set j l[i] else l
theorem swp_len (l : List It) (i j : Nat) : (swp l i j).length = l.length := by unfold swp; split <;> simp
theorem swp_is {l : List It} {i j : Nat} (hi : i < l.length) (hj : j < l.length) : swp l i j = (l.set i l[j]).set j l[i] := dif_pos ⟨hi, hj⟩
theorem swp_at {l : List It} {i j : Nat} (hi : i < l.length) (hj : j < l.length) (k : Nat) (hk : k < (swp l i j).length) (hk' : k < l.length) :
    (swp l i j)[k] = if k = j then l[i] else if k = i then l[j] else l[k] := by
  have e := swp_is hi hj
  simp only [e, List.getElem_set]
  by_cases a : k = j
  · subst a; simp
  · rw [if_neg (show ¬ j = k from fun q => a q.symm), if_neg a]
    by_cases b : k = i
    · subst b; simp
    · rw [if_neg (show ¬ i = k from fun q => b q.symm), if_neg b]
theorem set_perm {l : List It} {i : Nat} (hi : i < l.length) (x : It) : (l[i] :: l.set i x).Perm (x :: l) := by
  induction l generalizing i with
  | nil => simp at hi
  | cons a r ih =>
    cases i with
    | zero => simpa using List.Perm.swap x a r
    | succ k =>
      have hk : k < r.length := by simpa using hi
      simp only [List.getElem_cons_succ, List.set_cons_succ]
      exact ((List.Perm.swap a r[k] (r.set k x)).trans ((ih hk).cons a)).trans (List.Perm.swap x a r)
theorem swp_perm (l : List It) (i j : Nat) : (swp l i j).Perm l := by
  by_cases h : i < l.length ∧ j < l.length
  · obtain ⟨hi, hj⟩ := h
    rw [swp_is hi hj]
    by_cases e : i = j
    · subst e; simp
    · have h1 := set_perm hi l[j]
      have hj2 : j < (l.set i l[j]).length := by simpa using hj
      have h2 := set_perm hj2 l[i]
      rw [List.getElem_set_ne e] at h2
      -- l[j] :: S ~ l[i] :: A ~ l[j] :: l
      exact (h2.trans h1).cons_inv
  · unfold swp; rw [dif_neg h]

/-- where one's better lies -/
def par (k : Nat) : Nat := (k - 1) / 2
/-- the first n are a heap -/
def Hp (n : Nat) (l : List It) : Prop := ∀ k (h : k < l.length), 0 < k → k < n → Nl (l[par k]'(by unfold par; omega)) l[k]
theorem hp_first {n : Nat} {l : List It} (h : Hp n l) (hn : n ≤ l.length) : ∀ k (hk : k < l.length), k < n → Nl (l[0]'(by omega)) l[k] := by
  intro k
  induction k using Nat.strongRecOn with
  | _ k ih =>
    intro hk hkn
    by_cases e : k = 0
    · subst e; exact nl_refl _
    · have hp : par k < k := by unfold par; omega
      exact nl_trans (ih (par k) hp (by omega) (by omega)) (h k hk (by omega) hkn)
/-- a heap but that the j-th may be sooner than its better -/
structure Up (n j : Nat) (l : List It) : Prop where
  a : ∀ k (h : k < l.length), 0 < k → k < n → k ≠ j → Nl (l[par k]'(by unfold par; omega)) l[k]
  b : ∀ k (h : k < l.length), 0 < k → k < n → (e : par k = j) → 0 < j → Nl (l[par j]'(by unfold par at *; omega)) l[k]
theorem up_end {n j : Nat} {l : List It} (u : Up n j l) (hj : j < l.length) (h : j = 0 ∨ Nl (l[par j]'(by unfold par; omega)) l[j]) : Hp n l := fun k hk h0 hn => by
  by_cases e : k = j
  · subst e
    rcases h with h | h
    · omega
    · exact h
  · exact u.a k hk h0 hn e
theorem up_step {n j : Nat} {l : List It} (u : Up n j l) (hj : j < l.length) (hn : n ≤ l.length) (hjn : j < n) (h0 : 0 < j) (h : Ear l[j] (l[par j]'(by unfold par; omega))) : Up n (par j) (swp l (par j) j) := by
  have hp : par j < j := by unfold par; omega
  have hpl : par j < l.length := by omega
  have L := swp_len l (par j) j
  have A : ∀ k (hk : k < (swp l (par j) j).length) (hk' : k < l.length), (swp l (par j) j)[k] = if k = j then l[par j] else if k = par j then l[j] else l[k] := swp_at hpl hj
  constructor
  · intro k hk k0 kn kp
    have hk' : k < l.length := by omega
    have hpk : par k < k := by unfold par; omega
    rw [A k hk hk', A (par k) (by omega) (by omega)]
    by_cases e : k = j
    · subst e
      rw [if_pos rfl, if_neg (by omega), if_pos rfl]
      exact nl_of h
    · rw [if_neg e, if_neg kp]
      by_cases e2 : par k = j
      · rw [if_pos e2]
        exact u.b k hk' k0 kn e2 h0
      · rw [if_neg e2]
        by_cases e3 : par k = par j
        · rw [if_pos e3]
          have := u.a k hk' k0 kn e
          simp only [e3] at this
          exact nl_trans (nl_of h) this
        · rw [if_neg e3]
          exact u.a k hk' k0 kn e
  · intro k hk k0 kn kp p0
    have hk' : k < l.length := by omega
    have hpp : par (par j) < par j := by unfold par at *; omega
    have hpk : par k < k := by unfold par; omega
    rw [A k hk hk', A (par (par j)) (by omega) (by omega), if_neg (by omega), if_neg (by omega)]
    have hpj := u.a (par j) hpl p0 (by omega) (by omega)
    by_cases e : k = j
    · subst e
      rw [if_pos rfl]
      exact hpj
    · rw [if_neg e, if_neg (by omega)]
      have := u.a k hk' k0 kn e
      simp only [kp] at this
      exact nl_trans hpj this
/-- a heap but that the i-th may be later than those below it -/
structure Dn (n i : Nat) (l : List It) : Prop where
  a : ∀ k (h : k < l.length), 0 < k → k < n → par k ≠ i → Nl (l[par k]'(by unfold par; omega)) l[k]
  b : ∀ k (h : k < l.length), 0 < k → k < n → (e : par k = i) → 0 < i → Nl (l[par i]'(by unfold par at *; omega)) l[k]
theorem dn_end {n i : Nat} {l : List It} (u : Dn n i l) (h : ∀ k (h : k < l.length), 0 < k → k < n → par k = i → Nl (l[par k]'(by unfold par; omega)) l[k]) : Hp n l := fun k hk h0 hn => by
  by_cases e : par k = i
  · exact h k hk h0 hn e
  · exact u.a k hk h0 hn e
/-- j is below i, and none below i is sooner -/
theorem dn_step {n i j : Nat} {l : List It} (u : Dn n i l) (hn : n ≤ l.length) (hj0 : 0 < j) (hjn : j < n) (hpj : par j = i) (h : Ear (l[j]'(by omega)) (l[i]'(by unfold par at hpj; omega)))
    (hs : ∀ k (h : k < l.length), 0 < k → k < n → par k = i → Nl (l[j]'(by omega)) l[k]) : Dn n j (swp l i j) := by
  have hij : i < j := by unfold par at hpj; omega
  have hjl : j < l.length := by omega
  have hil : i < l.length := by omega
  have L := swp_len l i j
  have A : ∀ k (hk : k < (swp l i j).length) (hk' : k < l.length), (swp l i j)[k] = if k = j then l[i] else if k = i then l[j] else l[k] := swp_at hil hjl
  constructor
  · intro k hk k0 kn kp
    have hk' : k < l.length := by omega
    have hpk : par k < k := by unfold par; omega
    rw [A k hk hk', A (par k) (by omega) (by omega), if_neg kp]
    by_cases e : k = j
    · subst e
      rw [if_pos rfl, if_pos hpj]
      exact nl_of h
    · rw [if_neg e]
      by_cases e1 : par k = i
      · rw [if_pos e1, if_neg (by omega)]
        exact hs k hk' k0 kn e1
      · rw [if_neg e1]
        by_cases e2 : k = i
        · subst e2
          rw [if_pos rfl]
          have := u.b j hjl hj0 hjn hpj (by omega)
          exact this
        · rw [if_neg e2]
          exact u.a k hk' k0 kn e1
  · intro k hk k0 kn kp j0
    have hk' : k < l.length := by omega
    have hpk : par k < k := by unfold par; omega
    rw [A k hk hk', A (par j) (by omega) (by omega), if_neg (show ¬ par j = j by omega), if_pos hpj, if_neg (show ¬ k = j by omega), if_neg (show ¬ k = i by omega)]
    have := u.a k hk' k0 kn (by omega)
    simp only [kp] at this
    exact this
/-- of the two below -/
theorem below_two {k i : Nat} (h0 : 0 < k) (h : par k = i) : k = 2 * i + 1 ∨ k = 2 * i + 2 := by unfold par at h; omega
theorem hp_up {n : Nat} {l : List It} (h : Hp n l) (hl : l.length = n) (x : It) : Up (n + 1) n (l ++ [x]) := by
  constructor
  · intro k hk k0 kn kj
    have hkn : k < n := by omega
    have hpk : par k < k := by unfold par; omega
    rw [List.getElem_append_left (by omega), List.getElem_append_left (by omega)]
    exact h k (by omega) k0 hkn
  · intro k hk k0 kn kp j0
    unfold par at kp; omega
/-- the first and the last are swapped: all but the last are a heap but for the first -/
theorem hp_dn {n : Nat} {l : List It} (h : Hp (n + 1) l) (hl : l.length = n + 1) : Dn n 0 (swp l 0 n) := by
  have A : ∀ k (hk : k < (swp l 0 n).length) (hk' : k < l.length), (swp l 0 n)[k] = if k = n then l[0] else if k = 0 then l[n] else l[k] := swp_at (by omega) (by omega)
  have L := swp_len l 0 n
  constructor
  · intro k hk k0 kn kp
    have hpk : par k < k := by unfold par; omega
    rw [A k hk (by omega), A (par k) (by omega) (by omega), if_neg (show ¬ par k = n by omega), if_neg kp, if_neg (show ¬ k = n by omega), if_neg (show ¬ k = 0 by omega)]
    exact h k (by omega) k0 (by omega)
  · intro k hk k0 kn kp i0
    omega
theorem hp_take {n : Nat} {l : List It} (h : Hp n l) : Hp n (l.take n) := fun k hk k0 kn => by
  have hpk : par k < k := by unfold par; omega
  have hk2 : k < l.length := by rw [List.length_take] at hk; omega
  rw [List.getElem_take, List.getElem_take]
  exact h k hk2 k0 kn
theorem hp_zero (l : List It) (n : Nat) (h : n ≤ 1) : Hp n l := fun k hk k0 kn => by omega
/-- what is the same but for an order is the same in order -/
theorem sorted_one : ∀ (P D : List It), P.Perm D → P.Pairwise Ear → D.Pairwise Ear → P = D
  | [], D, hp, _, _ => (List.Perm.nil_eq hp)
  | x :: P, [], hp, _, _ => by have := hp.length_eq; simp at this
  | x :: P, y :: D, hp, h1, h2 => by
    obtain ⟨a1, a2⟩ := List.pairwise_cons.1 h1
    obtain ⟨b1, b2⟩ := List.pairwise_cons.1 h2
    have e : x = y := by
      have hx : x ∈ y :: D := hp.subset (List.mem_cons_self ..)
      have hy : y ∈ x :: P := hp.symm.subset (List.mem_cons_self ..)
      rcases List.mem_cons.1 hx with q | q
      · exact q
      · rcases List.mem_cons.1 hy with r | r
        · exact r.symm
        · exact (ear_asym (b1 x q) (a1 y r)).elim
    subst e
    rw [sorted_one P D hp.cons_inv a2 b2]
/-- what has been taken, and what is left -/
structure Tk (b : List It) (P q : List It) : Prop where
  perm : (P ++ q).Perm b
  s : P.Pairwise Ear
  pq : ∀ x ∈ P, ∀ y ∈ q, Ear x y
theorem tk_start {b q : List It} (h : q.Perm b) : Tk b [] q := ⟨by simpa using h, .nil, fun x hx => by simp at hx⟩
theorem names_apart {b P : List It} (h : Srt b) {x : It} {r : List It} (hp : (P ++ (x :: r)).Perm b) : ∀ y ∈ r, x.N ≠ y.N := by
  intro y hy e
  have hb : (b.map (·.N)).Nodup := by
    have := srt_map.2 h
    exact this.imp fun q => ltS_ne q
  have h2 : ((P ++ (x :: r)).map (·.N)).Nodup := (hp.map _).nodup_iff.2 hb
  rw [List.map_append, List.map_cons] at h2
  have h3 := (List.nodup_append.1 h2).2.1
  exact (List.nodup_cons.1 h3).1 (e ▸ List.mem_map_of_mem hy)
theorem tk_next {b P q : List It} (hb : Srt b) (t : Tk b P q) {x : It} {r : List It} (hq : (x :: r).Perm q) (hm : ∀ y ∈ r, Nl x y) : Tk b (P ++ [x]) r := by
  have hp : (P ++ (x :: r)).Perm b := (List.Perm.append_left P hq).trans t.perm
  have hx : x ∈ q := hq.subset (List.mem_cons_self ..)
  refine ⟨by simpa using hp, ?_, fun z hz y hy => ?_⟩
  · refine List.pairwise_append.2 ⟨t.s, by simp, fun z hz y hy => ?_⟩
    rw [List.mem_singleton.1 hy]
    exact t.pq z hz x hx
  · rcases List.mem_append.1 hz with hz | hz
    · exact t.pq z hz y (hq.subset (List.mem_cons_of_mem _ hy))
    · rw [List.mem_singleton.1 hz]
      exact ear_flip (hm y hy) fun e => names_apart hb hp y hy e.symm
theorem tk_end {b P : List It} (t : Tk b P []) {D : List It} (hD : D.Perm b) (hs : D.Pairwise Ear) : P = D := by
  have := t.perm
  rw [List.append_nil] at this
  exact sorted_one P D (this.trans hD.symm) t.s hs
theorem ins_perm (x : It) : ∀ l : List It, (insU l x).Perm (x :: l)
  | [] => by simp [insU]
  | y :: l => by
    rw [ins_cons]
    split
    · exact ((ins_perm x l).cons y).trans (List.Perm.swap x y l)
    · exact .refl _
theorem dueF_perm : ∀ (n : Nat) (l : List It), l.length = n → (dueF l).Perm l
  | 0, l, hl => by rw [List.eq_nil_of_length_eq_zero hl]; simp [dueF]
  | n + 1, l, hl => by
    have hne : l ≠ [] := fun e => by rw [e] at hl; simp at hl
    have e : l = l.dropLast ++ [l.getLast hne] := (List.dropLast_concat_getLast hne).symm
    rw [e, dueF_snoc]
    refine (ins_perm _ _).trans ?_
    refine ((dueF_perm n l.dropLast (by rw [List.length_dropLast]; omega)).cons _).trans ?_
    exact (List.perm_append_singleton _ _).symm
theorem due_perm (b : List It) (now : Int) : (dueL b now).Perm (b.filter fun i => overB i now) := dueF_perm _ _ rfl
end Go.Proofs.Ytmnjmghlkiljhaa.rg
