/- Mathematics of chapter 7: splits as a size and a rising list of keys; a key is put in, doors are opened, what is behind a door. No Go in sight. -/
import Derived.Test.YtbialeffdpmcjaaKeys1
namespace Go.Proofs.Ytbialeffdpmcjaa.sx
open Go.RowKit

def sizeB (n : Int) : Bool := n == 1 || n == 2 || n == 4 || n == 8 || n == 16 || n == 32 || n == 64
theorem sizeB_pow {n : Int} (h : sizeB n = true) : ∃ s : Nat, s ≤ 6 ∧ n = 2 ^ s := by
  unfold sizeB at h
  simp only [Bool.or_eq_true, beq_iff_eq] at h
  rcases h with (((((h | h) | h) | h) | h) | h) | h
  · exact ⟨0, by omega, h⟩
  · exact ⟨1, by omega, h⟩
  · exact ⟨2, by omega, h⟩
  · exact ⟨3, by omega, h⟩
  · exact ⟨4, by omega, h⟩
  · exact ⟨5, by omega, h⟩
  · exact ⟨6, by omega, h⟩
theorem sizeB_bd {n : Int} (h : sizeB n = true) : 1 ≤ n ∧ n ≤ 64 := by
  unfold sizeB at h
  simp only [Bool.or_eq_true, beq_iff_eq] at h
  omega
def okK (n k : Int) : Bool := decide (0 ≤ k) && (decide (k ≤ 65535) && (k % 2 == 1 || decide (rv (k / 2) 15 < n)))
def okFrom (n : Int) : Int → List Int → Bool
  | _, [] => true
  | last, k :: r => decide (last < k) && (okK n k && okFrom n k r)
def splitB (n : Int) (ks : List Int) : Bool := sizeB n && (ks.head? == some 0 && okFrom n (-1) ks)
theorem okFrom_cons (n last k : Int) (r : List Int) : okFrom n last (k :: r) = (decide (last < k) && (okK n k && okFrom n k r)) := rfl
theorem okFrom_len {n : Int} : ∀ {ks : List Int} {last : Int}, last ≤ 65535 → okFrom n last ks = true → (ks.length : Int) + last ≤ 65535
  | [], last, h, _ => by simp; omega
  | k :: r, last, h, ho => by
    rw [okFrom_cons] at ho
    simp only [Bool.and_eq_true, decide_eq_true_eq, okK] at ho
    have := okFrom_len (ks := r) ho.2.1.2.1 ho.2.2
    simp only [List.length_cons]
    omega
theorem okFrom_all {n : Int} : ∀ {ks : List Int} {last : Int}, okFrom n last ks = true → (∀ k ∈ ks, last < k ∧ okK n k = true) ∧ ks.Pairwise (· < ·)
  | [], last, _ => ⟨fun k h => by simp at h, List.Pairwise.nil⟩
  | k :: r, last, ho => by
    rw [okFrom_cons] at ho
    simp only [Bool.and_eq_true, decide_eq_true_eq] at ho
    obtain ⟨h1, h2⟩ := okFrom_all (ks := r) ho.2.2
    refine ⟨fun x hx => ?_, List.pairwise_cons.2 ⟨fun x hx => (h1 x hx).1, h2⟩⟩
    rcases List.mem_cons.1 hx with rfl | hx
    · exact ⟨ho.1, ho.2.1⟩
    · have := (h1 x hx).1
      exact ⟨by omega, (h1 x hx).2⟩
theorem okFrom_mk {n : Int} : ∀ {ks : List Int} {last : Int}, (∀ k ∈ ks, last < k ∧ okK n k = true) → ks.Pairwise (· < ·) → okFrom n last ks = true
  | [], _, _, _ => rfl
  | k :: r, last, h, hp => by
    rw [okFrom_cons]
    obtain ⟨p1, p2⟩ := List.pairwise_cons.1 hp
    have h0 := h k List.mem_cons_self
    have := okFrom_mk (ks := r) (last := k) (fun x hx => ⟨p1 x hx, (h x (List.mem_cons_of_mem _ hx)).2⟩) p2
    simp [h0.1, h0.2, this]

/-- a right split -/
structure SOk (n : Int) (ks : List Int) : Prop where
  size : sizeB n = true
  head : ks.head? = some 0
  each : ∀ k ∈ ks, okK n k = true
  rise : ks.Pairwise (· < ·)
theorem splitB_iff {n : Int} {ks : List Int} : splitB n ks = true ↔ SOk n ks := by
  unfold splitB
  simp only [Bool.and_eq_true, beq_iff_eq]
  constructor
  · rintro ⟨h1, h2, h3⟩
    obtain ⟨a, b⟩ := okFrom_all h3
    exact ⟨h1, h2, fun k hk => (a k hk).2, b⟩
  · rintro ⟨h1, h2, h3, h4⟩
    refine ⟨h1, h2, okFrom_mk (fun k hk => ⟨?_, h3 k hk⟩) h4⟩
    have := h3 k hk
    simp only [okK, Bool.and_eq_true, decide_eq_true_eq] at this
    omega
theorem SOk.len {n : Int} {ks : List Int} (h : SOk n ks) : ks.length ≤ 65536 := by
  have := splitB_iff.2 h
  unfold splitB at this
  simp only [Bool.and_eq_true] at this
  have := okFrom_len (by omega) this.2.2
  omega
theorem SOk.bd {n : Int} {ks : List Int} (h : SOk n ks) : 1 ≤ n ∧ n ≤ 64 := sizeB_bd h.size
theorem SOk.key {n : Int} {ks : List Int} (h : SOk n ks) {k : Int} (hk : k ∈ ks) : 0 ≤ k ∧ k ≤ 65535 := by
  have := h.each k hk
  simp only [okK, Bool.and_eq_true, decide_eq_true_eq] at this
  omega
theorem SOk.zero {n : Int} {ks : List Int} (h : SOk n ks) : (0 : Int) ∈ ks := by
  have := h.head
  cases ks with
  | nil => simp at this
  | cons k r => simp at this; subst this; exact List.mem_cons_self
theorem SOk.pos {n : Int} {ks : List Int} (h : SOk n ks) : 1 ≤ ks.length := by
  have := h.zero
  cases ks with
  | nil => simp at this
  | cons k r => simp

/-! ### the place of a key -/
def pos (key : Int) : List Int → Nat
  | [] => 0
  | k :: r => if k < key then pos key r + 1 else 0
theorem pos_le (key : Int) : ∀ ks : List Int, pos key ks ≤ ks.length
  | [] => Nat.le_refl _
  | k :: r => by unfold pos; split <;> simp [pos_le key r]
theorem pos_unique (key : Int) : ∀ (ks : List Int) (p : Nat), p ≤ ks.length → (∀ t (h : t < ks.length), t < p → ks[t] < key) → (∀ h : p < ks.length, key ≤ ks[p]) → pos key ks = p
  | [], p, h, _, _ => by simp at h; subst h; rfl
  | k :: r, 0, h, h1, h2 => by
    have := h2 (by simp)
    simp at this
    unfold pos
    rw [if_neg (by omega)]
  | k :: r, p + 1, h, h1, h2 => by
    have h0 := h1 0 (by simp) (by omega)
    simp at h0
    unfold pos
    rw [if_pos h0, pos_unique key r p (by simpa using h) (fun t ht hp => h1 (t + 1) (by simpa using ht) (by omega)) (fun hp => h2 (by simpa using hp))]
theorem pos_lt (key : Int) : ∀ (ks : List Int) (t : Nat) (h : t < ks.length), t < pos key ks → ks[t] < key
  | [], t, h, _ => by simp at h
  | k :: r, t, h, hp => by
    unfold pos at hp
    split at hp
    · rename_i hk
      cases t with
      | zero => simpa using hk
      | succ t => simpa using pos_lt key r t (by simpa using h) (by omega)
    · omega
theorem pos_ge (key : Int) : ∀ (ks : List Int) (h : pos key ks < ks.length), key ≤ ks[pos key ks]
  | [], h => by simp at h
  | k :: r, h => by
    by_cases hk : k < key
    · have e : pos key (k :: r) = pos key r + 1 := by simp [pos, hk]
      have := pos_ge key r (by rw [e] at h; simpa using h)
      simp only [e, List.getElem_cons_succ]
      exact this
    · have e : pos key (k :: r) = 0 := by simp [pos, hk]
      simp only [e, List.getElem_cons_zero]
      omega
def isAt (ks : List Int) (key : Int) : Bool := ks[pos key ks]? == some key
theorem isAt_mem {ks : List Int} {key : Int} (h : isAt ks key = true) : key ∈ ks := by
  unfold isAt at h
  exact List.mem_of_getElem? (by simpa using h)
theorem isAt_iff {ks : List Int} (hs : ks.Pairwise (· < ·)) (key : Int) : isAt ks key = true ↔ key ∈ ks := by
  refine ⟨isAt_mem, fun h => ?_⟩
  obtain ⟨i, hi, e⟩ := List.mem_iff_getElem.1 h
  have hp := List.pairwise_iff_getElem.1 hs
  have : pos key ks = i := pos_unique key ks i (by omega) (fun t ht hti => by rw [← e]; exact hp t i ht hi hti) (fun _ => by omega)
  unfold isAt
  rw [this, List.getElem?_eq_getElem hi, e]
  simp
/-- a key is put in -/
def ins (ks : List Int) (key : Int) : List Int := if isAt ks key = true then ks else ks.take (pos key ks) ++ key :: ks.drop (pos key ks)
theorem ins_yes {ks : List Int} {key : Int} (h : isAt ks key = true) : ins ks key = ks := if_pos h
theorem ins_no {ks : List Int} {key : Int} (h : ¬ isAt ks key = true) : ins ks key = ks.take (pos key ks) ++ key :: ks.drop (pos key ks) := if_neg h
theorem ins_len (ks : List Int) (key : Int) : (ins ks key).length ≤ ks.length + 1 := by
  unfold ins
  split
  · omega
  · simp; omega
theorem mem_ins (ks : List Int) (key x : Int) : x ∈ ins ks key ↔ x ∈ ks ∨ x = key := by
  unfold ins
  split
  · rename_i h
    have := isAt_mem h
    constructor
    · exact .inl
    · rintro (h | rfl)
      · exact h
      · exact this
  · rw [List.mem_append, List.mem_cons]
    constructor
    · rintro (h | rfl | h)
      · exact .inl (List.mem_of_mem_take h)
      · exact .inr rfl
      · exact .inl (List.mem_of_mem_drop h)
    · rintro (h | rfl)
      · rw [← List.take_append_drop (pos key ks) ks, List.mem_append] at h
        rcases h with h | h
        · exact .inl h
        · exact .inr (.inr h)
      · exact .inr (.inl rfl)
theorem filter_ins (p : Int → Bool) (ks : List Int) (key : Int) (h : p key = false) : (ins ks key).filter p = ks.filter p := by
  unfold ins
  split
  · rfl
  · rw [List.filter_append, List.filter_cons, if_neg (by simp [h]), ← List.filter_append, List.take_append_drop]
theorem ins_rise {ks : List Int} (hs : ks.Pairwise (· < ·)) (key : Int) : (ins ks key).Pairwise (· < ·) := by
  unfold ins
  split
  · exact hs
  · rename_i h
    have hm : key ∉ ks := fun hk => h ((isAt_iff hs key).2 hk)
    have hp := List.pairwise_iff_getElem.1 hs
    have h1 : ∀ x ∈ ks.take (pos key ks), x < key := fun x hx => by
      obtain ⟨i, hi, e⟩ := List.mem_iff_getElem.1 hx
      rw [List.length_take] at hi
      rw [List.getElem_take] at e
      have := pos_lt key ks i (by omega) (by omega)
      omega
    have h2 : ∀ x ∈ ks.drop (pos key ks), key < x := fun x hx => by
      obtain ⟨i, hi, e⟩ := List.mem_iff_getElem.1 hx
      rw [List.length_drop] at hi
      rw [List.getElem_drop] at e
      have hl : pos key ks < ks.length := by omega
      have g := pos_ge key ks hl
      have hne : key ≠ x := fun e' => hm (by rw [e', ← e]; exact List.getElem_mem _)
      by_cases h0 : i = 0
      · subst h0
        simp only [Nat.add_zero] at e
        omega
      · have := hp (pos key ks) (pos key ks + i) hl (by omega) (by omega)
        omega
    refine List.pairwise_append.2 ⟨hs.sublist (List.take_sublist _ _), List.pairwise_cons.2 ⟨h2, hs.sublist (List.drop_sublist _ _)⟩, fun x hx y hy => ?_⟩
    rcases List.mem_cons.1 hy with rfl | hy
    · exact h1 x hx
    · have a := h1 x hx
      have b := h2 y hy
      omega
theorem ins_head {ks : List Int} (h : ks.head? = some 0) {key : Int} (hk : 0 ≤ key) : (ins ks key).head? = some 0 := by
  cases ks with
  | nil => simp at h
  | cons k r =>
    simp at h
    subst h
    unfold ins
    split
    · rfl
    · rename_i hn
      by_cases h0 : key = 0
      · subst h0; exact (hn (by simp [isAt, pos])).elim
      · have e : pos key (0 :: r) = pos key r + 1 := by
          simp only [pos]
          rw [if_pos (by omega)]
        rw [e]
        simp
theorem ins_ok {n : Int} {ks : List Int} (h : SOk n ks) {key : Int} (hk : okK n key = true) : SOk n (ins ks key) := by
  have hk0 : 0 ≤ key := by simp only [okK, Bool.and_eq_true, decide_eq_true_eq] at hk; omega
  refine ⟨h.size, ins_head h.head hk0, fun k hm => ?_, ins_rise h.rise key⟩
  rcases (mem_ins ks key k).1 hm with hm | rfl
  · exact h.each k hm
  · exact hk
theorem ins_zero {ks : List Int} (h : ks.head? = some 0) : ins ks 0 = ks := by
  apply ins_yes
  cases ks with
  | nil => simp at h
  | cons k r =>
    simp at h
    subst h
    simp [isAt, pos]

/-! ### doors are opened -/
def mk (b : Int) : Int := 2 * rv b 15
theorem mk_bd (b : Int) : 0 ≤ mk b ∧ mk b ≤ 65534 := by have := rv15 b; unfold mk; omega
theorem mk_even (b : Int) : mk b % 2 = 0 := by unfold mk; omega
theorem mk_zero : mk 0 = 0 := by unfold mk; rw [rv_zero]; rfl
theorem mk_half (b : Int) (h0 : 0 ≤ b) (h1 : b ≤ 32767) : rv (mk b / 2) 15 = b := by
  unfold mk
  rw [show 2 * rv b 15 / 2 = rv b 15 by omega]
  exact rv_rv b 15 h0 (by show b < 2 ^ 15; omega)
theorem mk_ok {n b : Int} (h0 : 0 ≤ b) (h1 : b < n) (h2 : n ≤ 64) : okK n (mk b) = true := by
  have := mk_bd b
  unfold okK
  rw [mk_half b h0 (by omega)]
  simp [h1]
  omega
theorem parent_zero : parent 0 = -1 := by unfold parent; rw [if_neg (by omega)]
theorem parent_lt {b : Int} (h : 1 ≤ b) (h2 : b ≤ 32767) : 0 ≤ parent b ∧ parent b < b := by
  have := parent_less b h h2
  omega
def opn : Nat → List Int → Int → List Int
  | 0, ks, _ => ks
  | f + 1, ks, b => if 0 < b then opn f (ins ks (mk b)) (parent b) else ks
theorem opn_step {f : Nat} {ks : List Int} {b : Int} (h : 0 < b) : opn (f + 1) ks b = opn f (ins ks (mk b)) (parent b) := if_pos h
theorem opn_stop {f : Nat} {ks : List Int} {b : Int} (h : ¬ 0 < b) : opn f ks b = ks := by
  cases f with
  | zero => rfl
  | succ f => exact if_neg h
theorem opn_ind {P : List Int → Prop} {m : Int} (h : ∀ ks b, 0 < b → b < m → P ks → P (ins ks (mk b))) (hm : m ≤ 32768) : ∀ (f : Nat) (ks : List Int) (b : Int), b < m → P ks → P (opn f ks b)
  | 0, ks, b, _, hp => hp
  | f + 1, ks, b, hb, hp => by
    by_cases h0 : 0 < b
    · rw [opn_step h0]
      have := parent_lt (b := b) (by omega) (by omega)
      exact opn_ind h hm f _ _ (by omega) (h ks b h0 hb hp)
    · rw [opn_stop h0]; exact hp
theorem opn_ok {n : Int} {ks : List Int} (h : SOk n ks) (f : Nat) {b : Int} (hb : b < n) : SOk n (opn f ks b) := by
  have hn := h.bd
  exact opn_ind (P := SOk n) (m := n) (fun ks b h0 hb hp => ins_ok hp (mk_ok (by omega) hb hn.2)) (by omega) f ks b hb h
theorem opn_keep (x : Int) (f : Nat) (ks : List Int) {b : Int} (hb : b < 32768) (hx : x ∈ ks) : x ∈ opn f ks b :=
  opn_ind (P := fun ks => x ∈ ks) (m := 32768) (fun ks b h0 hb hp => (mem_ins _ _ _).2 (.inl hp)) (by omega) f ks b hb hx
theorem opn_filter (p : Int → Bool) (hp : ∀ b, p (mk b) = false) (f : Nat) (ks : List Int) {b : Int} (hb : b < 32768) : (opn f ks b).filter p = ks.filter p :=
  opn_ind (P := fun ks' => ks'.filter p = ks.filter p) (m := 32768) (fun ks' b h0 hb h => by rw [filter_ins p _ _ (hp b), h]) (by omega) f ks b hb rfl
theorem opn_has {f : Nat} {ks : List Int} {b : Int} (h0 : 0 < b) (h1 : b ≤ f) (hb : b < 32768) : mk b ∈ opn f ks b := by
  obtain ⟨f, rfl⟩ : ∃ g, f = g + 1 := ⟨f - 1, by omega⟩
  rw [opn_step h0]
  have := parent_lt (b := b) (by omega) (by omega)
  exact opn_keep _ _ _ (by omega) ((mem_ins _ _ _).2 (.inr rfl))
theorem opn_len : ∀ (f : Nat) (ks : List Int) (b : Int), (opn f ks b).length ≤ ks.length + f
  | 0, ks, b => Nat.le_refl _
  | f + 1, ks, b => by
    by_cases h0 : 0 < b
    · rw [opn_step h0]
      have h1 := opn_len f (ins ks (mk b)) (parent b)
      have h2 := ins_len ks (mk b)
      omega
    · rw [opn_stop h0]; omega
/-- the doors that are opened with b, and door 0 -/
def doorsL : Nat → Int → List Int
  | 0, _ => []
  | f + 1, b => if b < 0 then [] else b :: doorsL f (parent b)
theorem doorsL_neg {f : Nat} {b : Int} (h : b < 0) : doorsL f b = [] := by
  cases f with
  | zero => rfl
  | succ f => exact if_pos h
theorem doorsL_cons {f : Nat} {b : Int} (h : 0 ≤ b) : doorsL (f + 1) b = b :: doorsL f (parent b) := if_neg (by omega)
theorem opn_fold : ∀ (f : Nat) (ks : List Int) (b : Int), ks.head? = some 0 → 0 ≤ b → b ≤ f → b ≤ 32767 → (doorsL (f + 1) b).foldl (fun ks d => ins ks (mk d)) ks = opn f ks b
  | 0, ks, b, hh, h0, h1, _ => by
    obtain rfl : b = 0 := by omega
    rw [doorsL_cons (by omega), parent_zero, doorsL_neg (by omega)]
    simp only [List.foldl_cons, List.foldl_nil]
    rw [mk_zero, ins_zero hh]
    rfl
  | f + 1, ks, b, hh, h0, h1, h2 => by
    by_cases hb : b = 0
    · subst hb
      rw [doorsL_cons (by omega), parent_zero, doorsL_neg (by omega)]
      simp only [List.foldl_cons, List.foldl_nil]
      rw [mk_zero, ins_zero hh, opn_stop (by omega)]
    · rw [doorsL_cons h0, opn_step (by omega), List.foldl_cons]
      have := parent_lt (b := b) (by omega) h2
      exact opn_fold f _ _ (ins_head hh (mk_bd b).1) this.1 (by omega) (by omega)
theorem doorsL_len : ∀ (f : Nat) (b : Int), (doorsL f b).length ≤ f
  | 0, _ => Nat.le_refl _
  | f + 1, b => by
    by_cases h : b < 0
    · rw [doorsL_neg h]; simp
    · rw [doorsL_cons (by omega)]; simp [doorsL_len f]

/-! ### what the functions answer, of whatever split -/
def itk (h : Int) : Int := 2 * rv h 15 + 1
theorem itk_bd (h : Int) : 1 ≤ itk h ∧ itk h ≤ 65535 := by have := rv15 h; unfold itk; omega
theorem itk_odd (h : Int) : itk h % 2 = 1 := by unfold itk; omega
theorem itk_half (h : Int) (h0 : 0 ≤ h) (h1 : h ≤ 32767) : rv (itk h / 2) 15 = h := by
  unfold itk
  rw [show (2 * rv h 15 + 1) / 2 = rv h 15 by omega]
  exact rv_rv h 15 h0 (by show h < 2 ^ 15; omega)
theorem itk_ok (n h : Int) : okK n (itk h) = true := by
  have := itk_bd h
  have := itk_odd h
  unfold okK
  simp [*]
  omega
def opB (n : Int) (ks : List Int) (b : Int) : Bool := splitB n ks && (decide (0 ≤ b) && decide (b < n))
def opN (n : Int) (ks : List Int) : Int := if splitB n ks = true then n else 0
def opK (n : Int) (ks : List Int) (b : Int) : List Int := if splitB n ks = true then (if 0 ≤ b ∧ b < n then opn b.toNat ks b else ks) else []
def stB (n : Int) (ks : List Int) (h : Int) : Bool := splitB n ks && (decide (0 ≤ h) && (decide (h ≤ 32767) && !isAt ks (itk h)))
def stK (n : Int) (ks : List Int) (h : Int) : List Int := if splitB n ks = true then (if (0 ≤ h ∧ h ≤ 32767) ∧ ¬ isAt ks (itk h) = true then ins (opn (h % n).toNat ks (h % n)) (itk h) else ks) else []
def dbB (n : Int) (ks : List Int) : Bool := splitB n ks && n != 64
def dbN (n : Int) (ks : List Int) : Int := if splitB n ks = true then (if n = 64 then n else 2 * n) else 0
def dbK (n : Int) (ks : List Int) : List Int := if splitB n ks = true then ks else []
def inDoor (n b k : Int) : Bool := k % 2 == 1 && (decide (mk b ≤ k) && decide (k < mk b + 65536 / n))
def beL (n : Int) (ks : List Int) (b : Int) : List Int := if splitB n ks = true ∧ 0 ≤ b ∧ b < n then (ks.filter (inDoor n b)).map (fun k => rv (k / 2) 15) else []
def inWay (lo hi k : Int) : Bool := k % 2 == 1 && (decide (lo < k) && decide (k < hi))
def paI (n : Int) (ks : List Int) (h : Int) : Int := if splitB n ks = true ∧ (0 ≤ h ∧ h ≤ 32767) ∧ isAt ks (mk (h % n)) = true then ((ks.filter (inWay (mk (h % n)) (itk h))).length : Int) else -1
theorem opK_len (n : Int) (ks : List Int) (b : Int) : (opK n ks b).length ≤ 65536 := by
  unfold opK
  split
  · rename_i h
    have hs := splitB_iff.1 h
    split
    · rename_i hb
      exact (opn_ok hs _ hb.2).len
    · exact hs.len
  · simp
theorem mod_bd {n : Int} (h : Int) (hn : 1 ≤ n) : 0 ≤ h % n ∧ h % n < n := ⟨Int.emod_nonneg _ (by omega), Int.emod_lt_of_pos _ (by omega)⟩
theorem stK_ok {n : Int} {ks : List Int} (hs : SOk n ks) (h : Int) : SOk n (ins (opn (h % n).toNat ks (h % n)) (itk h)) :=
  ins_ok (opn_ok hs _ (mod_bd h hs.bd.1).2) (itk_ok n h)
theorem stK_len (n : Int) (ks : List Int) (h : Int) : (stK n ks h).length ≤ 65536 := by
  unfold stK
  split
  · rename_i h0
    have hs := splitB_iff.1 h0
    split
    · exact (stK_ok hs h).len
    · exact hs.len
  · simp
theorem dbK_len (n : Int) (ks : List Int) : (dbK n ks).length ≤ 65536 := by
  unfold dbK
  split
  · rename_i h
    exact (splitB_iff.1 h).len
  · simp
theorem beL_len (n : Int) (ks : List Int) (b : Int) : (beL n ks b).length ≤ 65536 := by
  unfold beL
  split
  · rename_i h
    have := (splitB_iff.1 h.1).len
    rw [List.length_map]
    have := List.length_filter_le (inDoor n b) ks
    omega
  · simp
end Go.Proofs.Ytbialeffdpmcjaa.sx
