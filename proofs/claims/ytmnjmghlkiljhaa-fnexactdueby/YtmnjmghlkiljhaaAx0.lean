/- Mathematics of what is over, no Go in sight: those that are due, soonest first. -/
import Derived.Test.YtmnjmghlkiljhaaBx1
namespace Go.Proofs.Ytmnjmghlkiljhaa.rg
open Go.RowKit
set_option linter.unusedVariables false

def outB (a b : It) : Bool := itemB a && itemB b && (decide (a.U = 0) || (!decide (b.U = 0) && decide (b.U ≤ a.U)))
/-- put behind those that are no later -/
def insU (l : List It) (x : It) : List It := l.takeWhile (fun y => decide (y.U ≤ x.U)) ++ x :: l.dropWhile (fun y => decide (y.U ≤ x.U))
def dueF (l : List It) : List It := l.foldl insU []
def dueL (b : List It) (now : Int) : List It := dueF (b.filter fun i => overB i now)
def duR (b : List It) (now : Int) : List ByteArray := if bookB b = true then (dueL b now).map (·.N) else []
/-- sooner, or at the same time with a lesser name -/
def Ear (x y : It) : Prop := x.U < y.U ∨ (x.U = y.U ∧ ltS x.N y.N = true)
theorem ins_cons (y : It) (l : List It) (x : It) : insU (y :: l) x = if y.U ≤ x.U then y :: insU l x else x :: y :: l := by
  unfold insU
  rw [List.takeWhile_cons, List.dropWhile_cons]
  by_cases h : y.U ≤ x.U <;> simp [h]
theorem ins_mem (x : It) : ∀ (l : List It) (z : It), z ∈ insU l x ↔ z = x ∨ z ∈ l
  | [], z => by simp [insU]
  | y :: l, z => by
    rw [ins_cons]
    by_cases h : y.U ≤ x.U
    · rw [if_pos h, List.mem_cons, ins_mem x l z, List.mem_cons]
      constructor
      · rintro (q | q | q)
        · exact .inr (.inl q)
        · exact .inl q
        · exact .inr (.inr q)
      · rintro (q | q | q)
        · exact .inr (.inl q)
        · exact .inl q
        · exact .inr (.inr q)
    · rw [if_neg h, List.mem_cons]
theorem ins_len (x : It) : ∀ l : List It, (insU l x).length = l.length + 1
  | [] => rfl
  | y :: l => by
    rw [ins_cons]
    split
    · simp [ins_len x l]
    · rfl
theorem ins_ear (x : It) : ∀ l : List It, l.Pairwise Ear → (∀ y ∈ l, ltS y.N x.N = true) → (insU l x).Pairwise Ear
  | [], _, _ => by simp [insU]
  | y :: l, h, hn => by
    obtain ⟨h1, h2⟩ := List.pairwise_cons.1 h
    rw [ins_cons]
    by_cases hu : y.U ≤ x.U
    · rw [if_pos hu]
      refine List.pairwise_cons.2 ⟨fun z hz => ?_, ins_ear x l h2 fun z hz => hn z (List.mem_cons_of_mem _ hz)⟩
      rcases (ins_mem x l z).1 hz with rfl | hz
      · by_cases e : y.U = z.U
        · exact .inr ⟨e, hn y (List.mem_cons_self ..)⟩
        · exact .inl (by omega)
      · exact h1 z hz
    · rw [if_neg hu]
      refine List.pairwise_cons.2 ⟨fun z hz => .inl ?_, h⟩
      rcases List.mem_cons.1 hz with rfl | hz
      · omega
      · rcases h1 z hz with q | q
        · omega
        · omega
theorem dueF_snoc (l : List It) (x : It) : dueF (l ++ [x]) = insU (dueF l) x := by unfold dueF; rw [List.foldl_append]; rfl
theorem dueF_mem : ∀ (n : Nat) (l : List It), l.length = n → ∀ z, z ∈ dueF l ↔ z ∈ l
  | 0, l, hl, z => by rw [List.eq_nil_of_length_eq_zero hl]; simp [dueF]
  | n + 1, l, hl, z => by
    have hne : l ≠ [] := fun e => by rw [e] at hl; simp at hl
    have e : l = l.dropLast ++ [l.getLast hne] := (List.dropLast_concat_getLast hne).symm
    rw [e, dueF_snoc, ins_mem, dueF_mem n l.dropLast (by rw [List.length_dropLast]; omega), List.mem_append, List.mem_singleton]
    exact ⟨fun q => q.symm, fun q => q.symm⟩
theorem dueF_len : ∀ (n : Nat) (l : List It), l.length = n → (dueF l).length = n
  | 0, l, hl => by rw [List.eq_nil_of_length_eq_zero hl]; rfl
  | n + 1, l, hl => by
    have hne : l ≠ [] := fun e => by rw [e] at hl; simp at hl
    have e : l = l.dropLast ++ [l.getLast hne] := (List.dropLast_concat_getLast hne).symm
    rw [e, dueF_snoc, ins_len, dueF_len n l.dropLast (by rw [List.length_dropLast]; omega)]
theorem dueF_ear : ∀ (n : Nat) (l : List It), l.length = n → Srt l → (dueF l).Pairwise Ear
  | 0, l, hl, _ => by rw [List.eq_nil_of_length_eq_zero hl]; simp [dueF]
  | n + 1, l, hl, h => by
    have hne : l ≠ [] := fun e => by rw [e] at hl; simp at hl
    have e : l = l.dropLast ++ [l.getLast hne] := (List.dropLast_concat_getLast hne).symm
    have h' := h
    rw [e] at h'
    obtain ⟨h1, -, h3⟩ := List.pairwise_append.1 h'
    rw [e, dueF_snoc]
    refine ins_ear _ _ (dueF_ear n l.dropLast (by rw [List.length_dropLast]; omega) h1) fun y hy => ?_
    exact h3 y ((dueF_mem _ _ rfl y).1 hy) _ (List.mem_singleton.2 rfl)
theorem due_mem {b : List It} {now : Int} {z : It} : z ∈ dueL b now ↔ z ∈ b ∧ overB z now = true := by
  unfold dueL
  rw [dueF_mem _ _ rfl, List.mem_filter]
theorem due_ear {b : List It} (h : Srt b) (now : Int) : (dueL b now).Pairwise Ear := dueF_ear _ _ rfl (h.filter _)
theorem due_len (b : List It) (now : Int) : (dueL b now).length = (b.filter fun i => overB i now).length := dueF_len _ _ rfl
theorem due_name {b : List It} (h : Srt b) {now : Int} {x : It} (hx : x ∈ b) : x.N ∈ (dueL b now).map (·.N) ↔ overB x now = true := by
  rw [List.mem_map]
  constructor
  · rintro ⟨y, hy, e⟩
    obtain ⟨h1, h2⟩ := due_mem.1 hy
    rw [← h.one h1 hx e]
    exact h2
  · exact fun ho => ⟨x, due_mem.2 ⟨hx, ho⟩, rfl⟩
/-- how many of the first k are over -/
def overN (b : List It) (now : Int) (k : Nat) : Nat := ((b.take k).filter fun i => overB i now).length
theorem overN_next {b : List It} {now : Int} {k : Nat} (hk : k < b.length) : overN b now (k + 1) = overN b now k + (if overB b[k] now = true then 1 else 0) := by
  unfold overN
  rw [List.take_succ_eq_append_getElem hk, List.filter_append, List.length_append]
  cases h : overB b[k] now <;> simp [h]
theorem over_u {x : It} {now : Int} (h : overB x now = true) : x.U ≠ 0 ∧ x.U ≤ now := by
  unfold overB at h
  simp only [Bool.and_eq_true, Bool.not_eq_true', beq_eq_false_iff_ne, decide_eq_true_eq] at h
  exact h
/-- the soonest -/
def sooF (n : Int) (l : List It) : Int := l.foldl (fun n i => if i.U ≠ 0 ∧ (n = 0 ∨ i.U < n) then i.U else n) n
def sooI (b : List It) : Int := if bookB b = true then sooF 0 b else 0
theorem sooF_cons (n : Int) (i : It) (l : List It) : sooF n (i :: l) = sooF (if i.U ≠ 0 ∧ (n = 0 ∨ i.U < n) then i.U else n) l := by unfold sooF; rw [List.foldl_cons]
theorem sooF_snoc (l : List It) (i : It) (n : Int) : sooF n (l ++ [i]) = if i.U ≠ 0 ∧ (sooF n l = 0 ∨ i.U < sooF n l) then i.U else sooF n l := by
  unfold sooF
  rw [List.foldl_append, List.foldl_cons, List.foldl_nil]
theorem sooF_is : ∀ (l : List It) (n : Int), (∀ i ∈ l, 0 ≤ i.U) → 0 ≤ n → 0 ≤ sooF n l ∧ (n ≠ 0 → sooF n l ≠ 0 ∧ sooF n l ≤ n) ∧ (∀ i ∈ l, i.U ≠ 0 → sooF n l ≠ 0 ∧ sooF n l ≤ i.U) ∧ (sooF n l ≠ 0 → sooF n l = n ∨ ∃ i ∈ l, sooF n l = i.U)
  | [], n, _, hn => ⟨hn, fun h => ⟨h, Int.le_refl _⟩, fun i hi => by simp at hi, fun _ => .inl rfl⟩
  | i :: l, n, hu, hn => by
    have hi := hu i (List.mem_cons_self ..)
    have hl : ∀ j ∈ l, 0 ≤ j.U := fun j hj => hu j (List.mem_cons_of_mem _ hj)
    rw [sooF_cons]
    by_cases hc : i.U ≠ 0 ∧ (n = 0 ∨ i.U < n)
    · rw [if_pos hc]
      obtain ⟨a1, a2, a3, a4⟩ := sooF_is l i.U hl hi
      refine ⟨a1, fun h => ⟨(a2 hc.1).1, ?_⟩, fun j hj h0 => ?_, fun h0 => ?_⟩
      · have := (a2 hc.1).2
        rcases hc.2 with q | q
        · exact absurd q h
        · omega
      · rcases List.mem_cons.1 hj with rfl | hj
        · exact a2 hc.1
        · exact a3 j hj h0
      · rcases a4 h0 with q | ⟨j, hj, q⟩
        · exact .inr ⟨i, List.mem_cons_self .., q⟩
        · exact .inr ⟨j, List.mem_cons_of_mem _ hj, q⟩
    · rw [if_neg hc]
      obtain ⟨a1, a2, a3, a4⟩ := sooF_is l n hl hn
      refine ⟨a1, a2, fun j hj h0 => ?_, fun h0 => ?_⟩
      · rcases List.mem_cons.1 hj with rfl | hj
        · have h1 : n ≠ 0 := fun e => hc ⟨h0, .inl e⟩
          have h2 : ¬ j.U < n := fun e => hc ⟨h0, .inr e⟩
          have := a2 h1
          exact ⟨this.1, by omega⟩
        · exact a3 j hj h0
      · rcases a4 h0 with q | ⟨j, hj, q⟩
        · exact .inl q
        · exact .inr ⟨j, List.mem_cons_of_mem _ hj, q⟩
/-- the first of those that are due is the soonest of all -/
theorem due_first {b : List It} (h : BOk b) {now : Int} {x : It} {r : List It} (e : dueL b now = x :: r) : x.U = sooF 0 b := by
  have hu : ∀ i ∈ b, 0 ≤ i.U := fun i hi => (itemB_iff.1 (h.1 i hi)).u0
  obtain ⟨a1, -, a3, a4⟩ := sooF_is b 0 hu (Int.le_refl _)
  have hx : x ∈ dueL b now := by rw [e]; exact List.mem_cons_self ..
  obtain ⟨hxb, hxo⟩ := due_mem.1 hx
  obtain ⟨u1, u2⟩ := over_u hxo
  obtain ⟨s1, s2⟩ := a3 x hxb u1
  rcases a4 s1 with q | ⟨j, hj, q⟩
  · exact absurd q s1
  · have hjo : overB j now = true := by
      unfold overB
      simp only [Bool.and_eq_true, Bool.not_eq_true', beq_eq_false_iff_ne, decide_eq_true_eq]
      exact ⟨by rw [← q]; exact s1, by omega⟩
    have hjd : j ∈ dueL b now := due_mem.2 ⟨hj, hjo⟩
    have hp := due_ear h.srt now
    rw [e] at hp hjd
    rcases List.mem_cons.1 hjd with rfl | hjr
    · exact q.symm
    · rcases (List.pairwise_cons.1 hp).1 j hjr with z | z
      · omega
      · omega
theorem ear_out {b : List It} (h : BOk b) {now : Int} {x y : It} (hx : x ∈ dueL b now) (hy : y ∈ dueL b now) (hr : Ear x y) : outB y x = true ∧ (x.U = y.U → ltS x.N y.N = true) := by
  obtain ⟨x1, x2⟩ := due_mem.1 hx
  obtain ⟨y1, y2⟩ := due_mem.1 hy
  have ux := over_u x2
  constructor
  · unfold outB
    rw [h.1 x x1, h.1 y y1]
    have h1 : decide (x.U = 0) = false := decide_eq_false ux.1
    have h2 : decide (x.U ≤ y.U) = true := decide_eq_true (by rcases hr with q | q <;> omega)
    rw [h1, h2]
    simp
  · intro e
    rcases hr with q | q
    · omega
    · exact q.2
end Go.Proofs.Ytmnjmghlkiljhaa.rg
