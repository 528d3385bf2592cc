/- Texts laid together: Cx1 Cx2 Cx3 Px0 Bx0 Bx1. -/
import Derived.Test.YtldflfmglpojlaaDoorMg01
import Derived.Test.YtldflfmglpojlaaDoorMg00
/- Mathematics of commands, no Go in sight: right ones, how they are shown, how a line is read. -/
namespace Go.Proofs.YtldflfmglpojlaaDoor.cm
open Go.RowKit
open Go.Proofs.YtldflfmglpojlaaDoor.rg (nameB nbB nameB_size)
set_option linter.unusedVariables false

/-- a command -/
structure Cm where
  V : Int
  N : ByteArray
  F : Int
  U : Int
  B : ByteArray
  C : Int
  D : Int
  Q : Bool
def emp : ByteArray := ⟨#[]⟩
def Cm.zero : Cm := ⟨0, emp, 0, 0, emp, 0, 0, false⟩
def sized (v : Int) : Bool := decide (3 ≤ v) && decide (v ≤ 8)
def full (v : Int) : Bool := (decide (3 ≤ v) && decide (v ≤ 5)) || decide (v = 8)
def stepV (v : Int) : Bool := decide (v = 9) || decide (v = 10)
/-- a right one -/
structure COk (c : Cm) : Prop where
  v0 : 1 ≤ c.V
  v1 : c.V ≤ 13
  q : c.Q = true → 3 ≤ c.V
  n0 : c.V = 13 → c.N = emp
  nm : c.V ≠ 13 → nameB c.N = true
  f : full c.V = false → c.F = 0
  u : full c.V = false → c.V ≠ 11 → c.U = 0
  b : sized c.V = false → c.B = emp
  c8 : c.V ≠ 8 → c.C = 0
  d : stepV c.V = false → c.D = 0
  c1 : c.V = 8 → 1 ≤ c.C ∧ c.C ≤ 1000000
  f1 : 0 ≤ c.F ∧ c.F ≤ 65535
  u1 : 0 ≤ c.U ∧ c.U ≤ 1000000
  b1 : c.B.size ≤ 64
  d1 : 0 ≤ c.D ∧ c.D ≤ 1000000
open Classical in
noncomputable def cmdB (c : Cm) : Bool := decide (COk c)
open Classical in
theorem cmdB_iff {c : Cm} : cmdB c = true ↔ COk c := by unfold cmdB; exact decide_eq_true_iff

/-! ### how it is shown -/
def verbs : List (List UInt8) := [[103, 101, 116], [103, 101, 116, 115], [115, 101, 116], [97, 100, 100], [114, 101, 112, 108, 97, 99, 101], [116, 97, 105, 108], [104, 101, 97, 100], [99, 97, 115], [117, 112], [100, 111, 119, 110], [116, 111, 117, 99, 104], [99, 117, 116], [99, 108, 101, 97, 114]]
def quiet : List UInt8 := [113, 117, 105, 101, 116]
def vw (v : Int) : List UInt8 := (verbs[(v - 1).toNat]?).getD []
def bs (s : ByteArray) : List UInt8 := s.data.toList
def tx (l : List UInt8) : ByteArray := ⟨l.toArray⟩
theorem bs_tx (l : List UInt8) : bs (tx l) = l := by simp [bs, tx]
theorem tx_bs (s : ByteArray) : tx (bs s) = s := by cases s; simp [bs, tx]
theorem bs_len (s : ByteArray) : (bs s).length = s.size := by cases s; simp [bs, ByteArray.size]
theorem tx_size (l : List UInt8) : (tx l).size = l.length := by simp [tx, ByteArray.size]
theorem bs_emp : bs emp = [] := rfl
theorem tx_nil : tx [] = emp := rfl
/-- the numbers of a command, k bytes behind it -/
def numsK (c : Cm) (k : Nat) : List Nat :=
  (if full c.V then [c.F.toNat, c.U.toNat] else []) ++ (if sized c.V then [k] else if c.V = 11 then [c.U.toNat] else if stepV c.V then [c.D.toNat] else []) ++ (if c.V = 8 then [c.C.toNat] else [])
def wordsK (c : Cm) (k : Nat) : List (List UInt8) :=
  vw c.V :: (if c.V = 13 then [] else [bs c.N]) ++ (numsK c k).map digs ++ (if c.Q then [quiet] else [])
def lineK (c : Cm) (k : Nat) : List UInt8 := wordsL (wordsK c k)
def showL (c : Cm) : List UInt8 := lineK c c.B.size ++ 10 :: (if sized c.V then bs c.B ++ [10] else [])

/-! ### how a line is read -/
def quietB (v : Int) (w : List (List UInt8)) : Bool := decide (1 < w.length) && (w.getLast? == some quiet) && decide (2 < v) && (decide (2 < w.length) || decide (v = 13))
def want (v : Int) : Nat := (if full v then 2 else 0) + (if sized v || decide (v = 11) || stepV v then 1 else 0) + (if v = 8 then 1 else 0)
def nth (n : List Nat) (i : Nat) : Int := ((n[i]?).getD 0 : Nat)
def build (v : Int) (q : Bool) (nm : ByteArray) (n : List Nat) : Cm :=
  if full v then ⟨v, nm, nth n 0, nth n 1, emp, if v = 8 then nth n 3 else 0, 0, q⟩
  else if sized v then ⟨v, nm, 0, 0, emp, 0, 0, q⟩
  else if v = 11 then ⟨v, nm, 0, nth n 0, emp, 0, 0, q⟩
  else if stepV v then ⟨v, nm, 0, 0, emp, 0, nth n 0, q⟩
  else ⟨v, nm, 0, 0, emp, 0, 0, q⟩
def sizeN (v : Int) (n : List Nat) : Nat := if full v then (n[2]?).getD 0 else if sized v then (n[0]?).getD 0 else 0
/-- the words but for the last quiet -/
def plainW (v : Int) (w : List (List UInt8)) : List (List UInt8) := if quietB v w then w.dropLast else w
def nameW (v : Int) (u : List (List UInt8)) : ByteArray := if v = 13 then emp else tx ((u[1]?).getD [])
def restW (v : Int) (u : List (List UInt8)) : List (List UInt8) := u.drop (if v = 13 then 1 else 2)
open Classical in
noncomputable def lineL (v : Int) (w : List (List UInt8)) : Option (Cm × Nat) :=
  if (v ≠ 13 ∧ (plainW v w).length < 2) ∨ ¬ (∀ x ∈ restW v (plainW v w), canon x = true) ∨ (restW v (plainW v w)).length ≠ want v then none
  else if sizeN v ((restW v (plainW v w)).map (val 0)) ≤ 64 ∧ COk (build v (quietB v w) (nameW v (plainW v w)) ((restW v (plainW v w)).map (val 0))) then
    some (build v (quietB v w) (nameW v (plainW v w)) ((restW v (plainW v w)).map (val 0)), sizeN v ((restW v (plainW v w)).map (val 0)))
  else none

theorem verb_cases {v : Int} (h0 : 1 ≤ v) (h1 : v ≤ 13) : v = 1 ∨ v = 2 ∨ v = 3 ∨ v = 4 ∨ v = 5 ∨ v = 6 ∨ v = 7 ∨ v = 8 ∨ v = 9 ∨ v = 10 ∨ v = 11 ∨ v = 12 ∨ v = 13 := by omega
theorem digs_quiet (n : Nat) : digs n ≠ quiet := fun e => by
  have h := digs_all n
  rw [e] at h
  have := h 113 (by simp [quiet])
  exact absurd this (by decide)
theorem map_val (l : List Nat) : (l.map digs).map (val 0) = l := by
  rw [List.map_map]
  have : (val 0 ∘ digs) = id := by funext n; exact val_digs n
  rw [this, List.map_id]
theorem map_digs {l : List (List UInt8)} (h : ∀ x ∈ l, canon x = true) : (l.map (val 0)).map digs = l := by
  rw [List.map_map]
  exact (List.map_congr_left (fun x hx => digs_canon (h x hx))).trans (List.map_id' l)
theorem len_key (a b s : Bool) (p r : Prop) [Decidable p] [Decidable r] (x1 x2 x3 x4 x5 x6 : Nat) :
    ((if a then [x1, x2] else []) ++ (if b then [x3] else if p then [x4] else if s then [x5] else []) ++ (if r then [x6] else [])).length = (if a then 2 else 0) + (if b || decide p || s then 1 else 0) + (if r then 1 else 0) := by
  by_cases hp : p <;> by_cases hr : r <;> cases a <;> cases b <;> cases s <;> simp [hp, hr]
theorem want_len (c : Cm) (k : Nat) : (numsK c k).length = want c.V := by
  unfold numsK want
  exact len_key _ _ _ _ _ _ _ _ _ _ _
theorem nums_small {c : Cm} (h : COk c) {k : Nat} (hk : k ≤ 64) : ∀ n ∈ numsK c k, n ≤ 1000000 := by
  have h1 := h.f1
  have h2 := h.u1
  have h3 := h.d1
  have h4 := h.c1
  intro n hn
  unfold numsK at hn
  rcases List.mem_append.1 hn with hn | hn
  · rcases List.mem_append.1 hn with hn | hn
    · split at hn
      · simp at hn
        omega
      · simp at hn
    · split at hn
      · simp at hn
        omega
      · split at hn
        · simp at hn
          omega
        · split at hn
          · simp at hn
            omega
          · simp at hn
  · split at hn
    · rename_i e
      have := h4 e
      simp at hn
      omega
    · simp at hn
/-- the words without the last quiet -/
def coreK (c : Cm) (k : Nat) : List (List UInt8) := vw c.V :: (if c.V = 13 then [] else [bs c.N]) ++ (numsK c k).map digs
theorem words_core (c : Cm) (k : Nat) : wordsK c k = coreK c k ++ (if c.Q then [quiet] else []) := rfl
theorem core_len (c : Cm) (k : Nat) : (coreK c k).length = 1 + (if c.V = 13 then 0 else 1) + want c.V := by
  unfold coreK
  rw [List.length_append, List.length_map, want_len]
  split <;> simp
theorem want_pos {v : Int} (h : want v = 0) (h0 : 3 ≤ v) (h1 : v ≤ 13) : v = 12 ∨ v = 13 := by
  unfold want sized stepV full at h
  have hc : v = 3 ∨ v = 4 ∨ v = 5 ∨ v = 6 ∨ v = 7 ∨ v = 8 ∨ v = 9 ∨ v = 10 ∨ v = 11 ∨ v = 12 ∨ v = 13 := by omega
  rcases hc with rfl | rfl | rfl | rfl | rfl | rfl | rfl | rfl | rfl | rfl | rfl <;> simp at h ⊢
theorem quiet_show {c : Cm} (h : COk c) (k : Nat) : quietB c.V (wordsK c k) = c.Q := by
  have hv0 := h.v0
  have hv1 := h.v1
  cases hq : c.Q with
  | true =>
    have h3 := h.q hq
    have e : wordsK c k = coreK c k ++ [quiet] := by rw [words_core, hq]; rfl
    have hl := core_len c k
    unfold quietB
    rw [e, List.length_append, List.length_singleton, List.getLast?_append, hl]
    by_cases h13 : c.V = 13
    · simp [h13]
      omega
    · simp [h13]
      omega
  | false =>
    have e : wordsK c k = coreK c k := by rw [words_core, hq]; simp
    have hl := core_len c k
    rw [e]
    by_cases h3 : 3 ≤ c.V
    · by_cases hw : want c.V = 0
      · have := want_pos hw h3 hv1
        unfold quietB
        rw [hl, hw]
        by_cases h13 : c.V = 13
        · simp [h13]
        · simp [h13]
      · have hne : numsK c k ≠ [] := fun e => hw (by rw [← want_len c k, e]; rfl)
        have hlast : (coreK c k).getLast? = some (digs ((numsK c k).getLast hne)) := by
          unfold coreK
          rw [List.getLast?_append, List.getLast?_map, List.getLast?_eq_some_getLast hne]
          rfl
        unfold quietB
        rw [hlast]
        have : (some (digs ((numsK c k).getLast hne)) == some quiet) = false := by
          simp only [beq_eq_false_iff_ne, ne_eq, Option.some.injEq]
          exact digs_quiet _
        rw [this]
        simp
    · unfold quietB
      rw [decide_eq_false (show ¬ 2 < c.V by omega)]
      simp
theorem plain_show {c : Cm} (h : COk c) (k : Nat) : plainW c.V (wordsK c k) = coreK c k := by
  unfold plainW
  rw [quiet_show h, words_core]
  cases c.Q <;> simp
theorem rest_core (c : Cm) (k : Nat) : restW c.V (coreK c k) = (numsK c k).map digs := by
  unfold restW coreK
  by_cases h : c.V = 13 <;> simp [h]
theorem name_core {c : Cm} (h : COk c) (k : Nat) : nameW c.V (coreK c k) = c.N := by
  unfold nameW coreK
  by_cases h13 : c.V = 13
  · rw [if_pos h13, h.n0 h13]
  · simp [h13, tx_bs]
/-- the command without its bytes -/
def bare (c : Cm) : Cm := ⟨c.V, c.N, c.F, c.U, emp, c.C, c.D, c.Q⟩
theorem bare_ok {c : Cm} (h : COk c) : COk (bare c) := ⟨h.v0, h.v1, h.q, h.n0, h.nm, h.f, h.u, fun _ => rfl, h.c8, h.d, h.c1, h.f1, h.u1, by show emp.size ≤ 64; decide, h.d1⟩
theorem build_show {c : Cm} (h : COk c) (k : Nat) : build c.V c.Q c.N (numsK c k) = bare c := by
  have hf := h.f
  have hu := h.u
  have hc8 := h.c8
  have hd := h.d
  have f1 := h.f1
  have u1 := h.u1
  have d1 := h.d1
  have c1 := h.c1
  have e : ∀ x : Int, 0 ≤ x → ((x.toNat : Nat) : Int) = x := fun x hx => by omega
  unfold build bare numsK
  cases hfull : full c.V with
  | true =>
    have hs : sized c.V = true := by
      unfold full at hfull
      unfold sized
      simp at hfull ⊢
      omega
    have hd0 : c.D = 0 := hd (by unfold full at hfull; unfold stepV; simp at hfull ⊢; omega)
    by_cases h8 : c.V = 8
    · have e8 : sized 8 = true := rfl
      simp [e8, h8, nth, e c.F f1.1, e c.U u1.1, e c.C (by have := c1 h8; omega), hd0]
    · simp [hs, h8, nth, e c.F f1.1, e c.U u1.1, hd0, hc8 h8]
  | false =>
    have hF := hf hfull
    have h8 : c.V ≠ 8 := fun e => by rw [e] at hfull; simp [full] at hfull
    cases hs : sized c.V with
    | true =>
      have h11 : c.V ≠ 11 := fun e => by rw [e] at hs; simp [sized] at hs
      have hd0 : c.D = 0 := hd (by unfold sized at hs; unfold stepV; simp at hs ⊢; omega)
      simp [hF, hu hfull h11, hc8 h8, hd0]
    | false =>
      by_cases h11 : c.V = 11
      · have hd0 : c.D = 0 := hd (by rw [h11]; rfl)
        simp [h11, nth, e c.U u1.1, hF, hc8 h8, hd0]
      · cases hst : stepV c.V with
        | true => simp [h11, nth, e c.D d1.1, hF, hc8 h8, hu hfull h11]
        | false => simp [h11, hF, hc8 h8, hu hfull h11, hd hst]
theorem size_show {c : Cm} (h : COk c) (k : Nat) (hk : sized c.V = false → k = 0) : sizeN c.V (numsK c k) = k := by
  unfold sizeN numsK
  cases hfull : full c.V with
  | true =>
    have hs : sized c.V = true := by
      unfold full at hfull
      unfold sized
      simp at hfull ⊢
      omega
    simp [hs]
  | false =>
    cases hs : sized c.V with
    | true => simp
    | false => simp [hk hs]
/-- a line is read from what it is shown as -/
theorem line_show {c : Cm} (h : COk c) : lineL c.V (wordsK c c.B.size) = some (bare c, c.B.size) := by
  have hb := h.b1
  have hk : sized c.V = false → c.B.size = 0 := fun e => by rw [h.b e]; rfl
  have hr : restW c.V (plainW c.V (wordsK c c.B.size)) = (numsK c c.B.size).map digs := by rw [plain_show h, rest_core]
  unfold lineL
  rw [hr, plain_show h, quiet_show h, name_core h, map_val, build_show h, size_show h _ hk, core_len, if_neg, if_pos ⟨hb, bare_ok h⟩]
  rintro (⟨h1, h2⟩ | h1 | h1)
  · rw [if_neg h1] at h2
    omega
  · refine h1 fun x hx => ?_
    obtain ⟨n, hn, rfl⟩ := List.mem_map.1 hx
    exact canon_digs (by have := nums_small h hb n hn; omega)
  · rw [List.length_map, want_len] at h1
    exact h1 rfl
end Go.Proofs.YtldflfmglpojlaaDoor.cm
/- Mathematics of commands, second part: what a line that is read is shown as; what stands at the head of bytes. -/
namespace Go.Proofs.YtldflfmglpojlaaDoor.cm
open Go.RowKit
open Go.Proofs.YtldflfmglpojlaaDoor.rg (nameB nbB nameB_size)
set_option linter.unusedVariables false

theorem list_two {l : List (List UInt8)} (h : 2 ≤ l.length) : ∃ a b r, l = a :: b :: r := by
  match l, h with
  | a :: b :: r, _ => exact ⟨a, b, r, rfl⟩
/-- the numbers of what is built are the numbers -/
theorem build_nums {v : Int} {q : Bool} {nm : ByteArray} {n : List Nat} (hl : n.length = want v) : numsK (build v q nm n) (sizeN v n) = n ∧ (build v q nm n).V = v ∧ (build v q nm n).N = nm ∧ (build v q nm n).Q = q ∧ (build v q nm n).B = emp ∧ (sized v = false → sizeN v n = 0) := by
  unfold want at hl
  unfold build sizeN numsK
  cases hfull : full v with
  | true =>
    have hs : sized v = true := by
      unfold full at hfull
      unfold sized
      simp at hfull ⊢
      omega
    rw [hfull, hs] at hl
    by_cases h8 : v = 8
    · have e8 : sized 8 = true := rfl
      have f8 : full 8 = true := rfl
      simp [h8] at hl
      match n, hl with
      | [a, b, c, d], _ => simp [h8, e8, f8, nth]
    · simp [h8] at hl
      match n, hl with
      | [a, b, c], _ => simp [h8, hs, hfull, nth]
  | false =>
    have h8 : v ≠ 8 := fun e => by rw [e] at hfull; simp [full] at hfull
    cases hs : sized v with
    | true =>
      rw [hfull, hs] at hl
      simp [h8] at hl
      match n, hl with
      | [a], _ => simp [h8, hs, hfull]
    | false =>
      by_cases h11 : v = 11
      · have e11 : sized 11 = false := rfl
        have f11 : full 11 = false := rfl
        rw [hfull, hs] at hl
        simp [h11] at hl
        match n, hl with
        | [a], _ => simp [h11, e11, f11, nth]
      · cases hst : stepV v with
        | true =>
          rw [hfull, hs, hst] at hl
          simp [h8, h11] at hl
          match n, hl with
          | [a], _ => simp [h8, h11, hs, hfull, hst, nth]
        | false =>
          rw [hfull, hs, hst] at hl
          simp [h8, h11] at hl
          rw [hl]
          simp [h8, h11, hs, hfull, hst]
/-- a line that is read is what it is shown as -/
theorem line_is {v : Int} {w : List (List UInt8)} {c : Cm} {k : Nat} (h : lineL v w = some (c, k)) (hw : w.head? = some (vw v)) : COk c ∧ c.V = v ∧ c.B = emp ∧ k ≤ 64 ∧ (sized v = false → k = 0) ∧ wordsK c k = w := by
  unfold lineL at h
  split at h
  · cases h
  · rename_i hn
    split at h
    · rename_i hy
      simp only [Option.some.injEq, Prod.mk.injEq] at h
      obtain ⟨hc, hk⟩ := h
      simp only [not_or, Classical.not_not, ne_eq] at hn
      obtain ⟨h1, h2, h3⟩ := hn
      obtain ⟨b1, b2, b3, b4, b5, b6⟩ := build_nums (v := v) (q := quietB v w) (nm := nameW v (plainW v w)) (n := (restW v (plainW v w)).map (val 0)) (by rw [List.length_map]; exact h3)
      rw [hc, hk] at b1
      rw [hc] at b2 b3 b4 b5
      rw [hk] at b6
      rw [hc, hk] at hy
      refine ⟨hy.2, b2, b5, hy.1, b6, ?_⟩
      have hd := map_digs h2
      unfold wordsK
      rw [b1, b2, b3, b4, hd]
      have hpl : vw v :: (if v = 13 then [] else [bs (nameW v (plainW v w))]) ++ restW v (plainW v w) = plainW v w := by
        have hhead : (plainW v w).head? = some (vw v) := by
          unfold plainW
          split
          · rename_i hq
            unfold quietB at hq
            simp only [Bool.and_eq_true, decide_eq_true_eq] at hq
            match w, hw, hq with
            | a :: b :: r, hw, _ => simpa using hw
          · exact hw
        unfold nameW restW
        by_cases h13 : v = 13
        · cases hp : plainW v w with
          | nil => rw [hp] at hhead; simp at hhead
          | cons a r =>
            rw [hp] at hhead
            have ha : a = vw v := by simpa using hhead
            simp [h13, ha]
        · obtain ⟨a, b, r, hp⟩ := list_two (l := plainW v w) (Nat.le_of_not_lt fun q => h1 ⟨h13, q⟩)
          rw [hp] at hhead ⊢
          have ha : a = vw v := by simpa using hhead
          simp [h13, ha, bs_tx]
      rw [hpl]
      unfold plainW
      cases hq : quietB v w with
      | false => simp
      | true =>
        simp only [if_true]
        unfold quietB at hq
        simp only [Bool.and_eq_true, decide_eq_true_eq, beq_iff_eq] at hq
        have hne : w ≠ [] := fun e => by rw [e] at hw; simp at hw
        have hl : w.getLast hne = quiet := by
          have := hq.1.1.2
          rw [List.getLast?_eq_some_getLast hne] at this
          simpa using this
        rw [← hl, List.dropLast_concat_getLast]
    · cases h

/-! ### what stands at the head -/
/-- the number of a verb's word; 0: it is none -/
def verbOf (w : List UInt8) : Int := ((verbs.findIdx? (· == w)).map fun i => (i : Int) + 1).getD 0
theorem verbOf_pos {w : List UInt8} (h : verbOf w ≠ 0) : 1 ≤ verbOf w ∧ verbOf w ≤ 13 ∧ vw (verbOf w) = w := by
  unfold verbOf at h ⊢
  cases e : verbs.findIdx? (· == w) with
  | none => rw [e] at h; simp at h
  | some i =>
    obtain ⟨hi, h2, -⟩ := List.findIdx?_eq_some_iff_getElem.1 e
    have hi' : i < 13 := hi
    refine ⟨by simp; omega, by simp; omega, ?_⟩
    show (verbs[(((i : Int) + 1) - 1).toNat]?).getD [] = w
    rw [Int.add_sub_cancel, Int.toNat_natCast, List.getElem?_eq_getElem hi]
    simpa using h2
theorem verbOf_vw {v : Int} (h0 : 1 ≤ v) (h1 : v ≤ 13) : verbOf (vw v) = v := by
  rcases verb_cases h0 h1 with rfl | rfl | rfl | rfl | rfl | rfl | rfl | rfl | rfl | rfl | rfl | rfl | rfl <;> decide
/-- the line that stands at the head -/
def lineOf (t : List UInt8) : List UInt8 := t.takeWhile fun c => c != 10
noncomputable def cmdOf (t : List UInt8) : Cm × Nat × Int :=
  if 100 < (lineOf t).length then (Cm.zero, 101, 3)
  else if (lineOf t).length = t.length then (Cm.zero, 0, 1)
  else if verbOf ((splitL 32 (lineOf t)).headD []) = 0 then (Cm.zero, (lineOf t).length + 1, 2)
  else match lineL (verbOf ((splitL 32 (lineOf t)).headD [])) (splitL 32 (lineOf t)) with
    | none => (Cm.zero, (lineOf t).length + 1, 3)
    | some (c, k) =>
      if sized c.V = false then (c, (lineOf t).length + 1, 0)
      else if t.length ≤ (lineOf t).length + 1 + k then (Cm.zero, 0, 1)
      else if t[(lineOf t).length + 1 + k]? ≠ some 10 then (Cm.zero, (lineOf t).length + 1, 3)
      else (⟨c.V, c.N, c.F, c.U, tx ((t.drop ((lineOf t).length + 1)).take k), c.C, c.D, c.Q⟩, (lineOf t).length + 1 + k + 1, 0)

theorem lineOf_le (t : List UInt8) : (lineOf t).length ≤ t.length := (List.takeWhile_sublist _).length_le
theorem lineOf_no (t : List UInt8) : 10 ∉ lineOf t := fun h => by
  have := List.all_eq_true.1 (List.all_takeWhile (p := fun c => c != 10) (l := t)) 10 h
  simp at this
/-- behind the line stands a byte 10, or nothing -/
theorem lineOf_end {t : List UInt8} (h : (lineOf t).length ≠ t.length) : ∃ u, t = lineOf t ++ 10 :: u := by
  have e : lineOf t ++ t.dropWhile (fun c => c != 10) = t := List.takeWhile_append_dropWhile
  cases hd : t.dropWhile (fun c => c != 10) with
  | nil => rw [hd, List.append_nil] at e; exact absurd (congrArg List.length e) h
  | cons c r =>
    have hc : (c != 10) = false := by
      have := List.head?_dropWhile_not (fun c => c != 10) t
      rw [hd] at this
      simpa using this
    have : c = 10 := by simpa using hc
    rw [hd, this] at e
    exact ⟨r, e.symm⟩
theorem lineOf_app {l : List UInt8} (h : 10 ∉ l) (u : List UInt8) : lineOf (l ++ 10 :: u) = l := by
  unfold lineOf
  rw [List.takeWhile_append_of_pos (fun c hc => by simp; intro e; rw [e] at hc; exact h hc)]
  simp
theorem lineOf_all : ∀ {l : List UInt8}, 10 ∉ l → lineOf l = l
  | [], _ => rfl
  | c :: r, h => by
    simp only [List.mem_cons, not_or] at h
    have hc : (c != 10) = true := by simp; exact fun e => h.1 e.symm
    have := lineOf_all h.2
    unfold lineOf at this ⊢
    rw [List.takeWhile_cons, hc, if_pos rfl, this]
/-- a line of at most a hundred bytes -/
theorem cmd_long {t : List UInt8} (h : 100 < (lineOf t).length) : cmdOf t = (Cm.zero, 101, 3) := by unfold cmdOf; rw [if_pos h]
theorem cmd_more {t : List UInt8} (h : ¬ 100 < (lineOf t).length) (h2 : (lineOf t).length = t.length) : cmdOf t = (Cm.zero, 0, 1) := by unfold cmdOf; rw [if_neg h, if_pos h2]
/-- what is told of a whole line l and what stands behind it -/
noncomputable def cmdLine (l u : List UInt8) : Cm × Nat × Int :=
  if verbOf ((splitL 32 l).headD []) = 0 then (Cm.zero, l.length + 1, 2)
  else match lineL (verbOf ((splitL 32 l).headD [])) (splitL 32 l) with
    | none => (Cm.zero, l.length + 1, 3)
    | some (c, k) =>
      if sized c.V = false then (c, l.length + 1, 0)
      else if u.length ≤ k then (Cm.zero, 0, 1)
      else if u[k]? ≠ some 10 then (Cm.zero, l.length + 1, 3)
      else (⟨c.V, c.N, c.F, c.U, tx (u.take k), c.C, c.D, c.Q⟩, l.length + 1 + k + 1, 0)
theorem cmd_line {l u : List UInt8} (h : 10 ∉ l) (hl : l.length ≤ 100) : cmdOf (l ++ 10 :: u) = cmdLine l u := by
  unfold cmdOf cmdLine
  rw [lineOf_app h, if_neg (by omega), if_neg (by simp)]
  split
  · rfl
  · split
    · rfl
    · rename_i c k e
      have e1 : ((l ++ 10 :: u).length ≤ l.length + 1 + k) = (u.length ≤ k) := by simp only [List.length_append, List.length_cons, eq_iff_iff]; omega
      have e2 : (l ++ 10 :: u)[l.length + 1 + k]? = u[k]? := by
        rw [List.getElem?_append_right (by omega), show l.length + 1 + k - l.length = k + 1 by omega, List.getElem?_cons_succ]
      have e3 : (l ++ 10 :: u).drop (l.length + 1) = u := by
        rw [List.drop_append, List.drop_eq_nil_of_le (by omega), show l.length + 1 - l.length = 1 by omega]
        rfl
      simp only [e1, e2, e3]
/-- bytes: a line that is too long, a line that does not end, or a line and what stands behind it -/
theorem cmd_cases (t : List UInt8) : (100 < (lineOf t).length ∧ cmdOf t = (Cm.zero, 101, 3)) ∨ (10 ∉ t ∧ t.length ≤ 100 ∧ cmdOf t = (Cm.zero, 0, 1)) ∨ ∃ l u, t = l ++ 10 :: u ∧ 10 ∉ l ∧ l.length ≤ 100 ∧ cmdOf t = cmdLine l u := by
  by_cases h : 100 < (lineOf t).length
  · exact .inl ⟨h, cmd_long h⟩
  · by_cases h2 : (lineOf t).length = t.length
    · have e : lineOf t = t := (List.takeWhile_sublist _).eq_of_length h2
      refine .inr (.inl ⟨e ▸ lineOf_no t, by omega, cmd_more h h2⟩)
    · obtain ⟨u, hu⟩ := lineOf_end h2
      refine .inr (.inr ⟨lineOf t, u, hu, lineOf_no t, by omega, ?_⟩)
      conv => lhs; rw [hu]
      exact cmd_line (lineOf_no t) (by omega)
/-- what is told of a line, one of four ways -/
inductive Told (l u : List UInt8) : Cm × Nat × Int → Prop
  | bad (k : Int) (h : k = 2 ∨ k = 3) : Told l u (Cm.zero, l.length + 1, k)
  | more (c : Cm) (k : Nat) (hc : COk c) (hb : c.B = emp) (hw : wordsL (wordsK c k) = l) (hs : sized c.V = true) (h : u.length ≤ k) (hk : k ≤ 64) : Told l u (Cm.zero, 0, 1)
  | plain (c : Cm) (hc : COk c) (hw : showL c = l ++ [10]) : Told l u (c, l.length + 1, 0)
  | bytes (c : Cm) (r : List UInt8) (hc : COk c) (hu : u = bs c.B ++ 10 :: r) (hw : showL c = l ++ 10 :: (bs c.B ++ [10])) : Told l u (c, (l.length + 1 + c.B.size) + 1, 0)
theorem told (l u : List UInt8) : Told l u (cmdLine l u) := by
  unfold cmdLine
  split
  · exact .bad 2 (.inl rfl)
  · rename_i hv
    obtain ⟨v0, v1, vv⟩ := verbOf_pos hv
    split
    · exact .bad 3 (.inr rfl)
    · rename_i c k e
      have hh : (splitL 32 l).head? = some (vw (verbOf ((splitL 32 l).headD []))) := by
        rw [vv]
        cases hs : splitL 32 l with
        | nil => exact absurd hs (splitL_ne _ _)
        | cons a r => rfl
      obtain ⟨b1, b2, b3, b4, b5, b6⟩ := line_is e hh
      rw [← b2] at b5
      have hl : wordsL (wordsK c k) = l := by rw [b6]; exact words_split l
      split
      · rename_i hs
        refine .plain c b1 ?_
        have hk := b5 hs
        unfold showL lineK
        rw [hs, b3, show emp.size = 0 from rfl, ← hk, hl]
        rfl
      · rename_i hs
        replace hs : sized c.V = true := by simpa using hs
        split
        · rename_i h
          exact .more c k b1 b3 hl hs h b4
        · rename_i h
          split
          · exact .bad 3 (.inr rfl)
          · rename_i h10
            have hk : (u.take k).length = k := by rw [List.length_take]; omega
            have h10' : u[k]? = some 10 := Classical.byContradiction h10
            have ok : COk ⟨c.V, c.N, c.F, c.U, tx (u.take k), c.C, c.D, c.Q⟩ := ⟨b1.v0, b1.v1, b1.q, b1.n0, b1.nm, b1.f, b1.u, fun q => (by rw [show sized c.V = false from q] at hs; exact absurd hs (by decide)), b1.c8, b1.d, b1.c1, b1.f1, b1.u1, by show (tx (u.take k)).size ≤ 64; rw [tx_size, hk]; exact b4, b1.d1⟩
            have hu : u = u.take k ++ 10 :: u.drop (k + 1) := by
              obtain ⟨hlt, h11⟩ := List.getElem?_eq_some_iff.1 h10'
              rw [← h11]
              simp
            have hsz : (tx (u.take k)).size = k := by rw [tx_size, hk]
            have := Told.bytes (l := l) (u := u) ⟨c.V, c.N, c.F, c.U, tx (u.take k), c.C, c.D, c.Q⟩ (u.drop (k + 1)) ok (by show u = bs (tx (u.take k)) ++ _; rw [bs_tx]; exact hu) (by
              show lineK _ (tx (u.take k)).size ++ 10 :: (if sized c.V then bs (tx (u.take k)) ++ [10] else []) = l ++ 10 :: (bs (tx (u.take k)) ++ [10])
              rw [hsz, hs, if_pos rfl]
              congr 1)
            dsimp only at this
            rw [hsz] at this
            exact this
end Go.Proofs.YtldflfmglpojlaaDoor.cm
/- Mathematics of commands, third part: what the laws FnCmds and FnCut say. -/
namespace Go.Proofs.YtldflfmglpojlaaDoor.cm
open Go.RowKit
open Go.Proofs.YtldflfmglpojlaaDoor.rg (nameB nbB nameB_size)
set_option linter.unusedVariables false

/-- what stands there is shown as it stands -/
theorem cmd_sound {t : List UInt8} {c : Cm} {m : Nat} (h : cmdOf t = (c, m, 0)) : COk c ∧ showL c = t.take m ∧ 1 ≤ m ∧ m ≤ t.length := by
  rcases cmd_cases t with ⟨-, e⟩ | ⟨-, -, e⟩ | ⟨l, u, ht, -, -, e⟩
  · rw [e] at h; simp at h
  · rw [e] at h; simp at h
  · rw [e] at h
    have ho := told l u
    rw [h] at ho
    cases ho with
    | bad k hk => omega
    | plain c hc hw =>
      refine ⟨hc, ?_, by omega, by rw [ht]; simp⟩
      rw [hw, ht, List.take_append, List.take_of_length_le (by omega), show l.length + 1 - l.length = 1 by omega]
      rfl
    | bytes c r hc hu hw =>
      refine ⟨hc, ?_, by omega, by rw [ht, hu]; simp [bs_len]; omega⟩
      have e2 : t = (l ++ 10 :: (bs c.B ++ [10])) ++ r := by rw [ht, hu]; simp
      have hl : (l ++ 10 :: (bs c.B ++ [10])).length = l.length + 1 + c.B.size + 1 := by simp [bs_len]; omega
      rw [hw, e2, ← hl, List.take_left]
/-- the codes -/
theorem cmd_codes {t : List UInt8} {c : Cm} {m : Nat} {k : Int} (h : cmdOf t = (c, m, k)) : (k = 0 ∨ k = 1 ∨ k = 2 ∨ k = 3) ∧ (k ≠ 0 → c = Cm.zero) ∧ (k = 1 → m = 0) ∧ (k ≠ 1 → 1 ≤ m ∧ m ≤ t.length) := by
  by_cases h0 : k = 0
  · rw [h0] at h
    obtain ⟨-, -, h1, h2⟩ := cmd_sound h
    exact ⟨.inl h0, fun q => absurd h0 q, fun q => by omega, fun _ => ⟨h1, h2⟩⟩
  · rcases cmd_cases t with ⟨hl, e⟩ | ⟨-, -, e⟩ | ⟨l, u, ht, -, -, e⟩
    · rw [e] at h
      simp only [Prod.mk.injEq] at h
      have := lineOf_le t
      exact ⟨by omega, fun _ => h.1.symm, fun q => by omega, fun _ => by omega⟩
    · rw [e] at h
      simp only [Prod.mk.injEq] at h
      exact ⟨by omega, fun _ => h.1.symm, fun q => by omega, fun q => absurd h.2.2.symm q⟩
    · rw [e] at h
      have ho := told l u
      rw [h] at ho
      cases ho with
      | bad k hk => exact ⟨by omega, fun _ => rfl, fun q => by omega, fun _ => ⟨by omega, by rw [ht]; simp⟩⟩
      | more c k hc hb hw hs h1 h2 => exact ⟨by omega, fun _ => rfl, fun _ => rfl, fun q => absurd rfl q⟩
      | plain c hc hw => exact absurd rfl h0
      | bytes c r hc hu hw => exact absurd rfl h0

/-! ### what is shown is read -/
theorem name_bytes {s : ByteArray} (h : nameB s = true) {c : UInt8} (hc : c ∈ bs s) : c ≠ 32 ∧ c ≠ 10 := by
  unfold nameB at h
  simp only [Bool.and_eq_true, List.all_eq_true] at h
  have h1 := h.1 c hc
  constructor
  · intro e; rw [e] at h1; exact absurd h1 (by decide)
  · intro e; rw [e] at h1; exact absurd h1 (by decide)
theorem digs_bytes {n : Nat} {c : UInt8} (hc : c ∈ digs n) : c ≠ 32 ∧ c ≠ 10 := by
  have h1 := digs_all n c hc
  constructor
  · intro e; rw [e] at h1; exact absurd h1 (by decide)
  · intro e; rw [e] at h1; exact absurd h1 (by decide)
theorem vw_ok {v : Int} (h0 : 1 ≤ v) (h1 : v ≤ 13) : (∀ c ∈ vw v, c ≠ 32 ∧ c ≠ 10) ∧ (vw v).length ≤ 12 := by
  rcases verb_cases h0 h1 with rfl | rfl | rfl | rfl | rfl | rfl | rfl | rfl | rfl | rfl | rfl | rfl | rfl <;> decide
theorem words_ok {c : Cm} (h : COk c) {k : Nat} (hk : k ≤ 64) : ∀ w ∈ wordsK c k, (∀ x ∈ w, x ≠ 32 ∧ x ≠ 10) ∧ w.length ≤ 12 := by
  intro w hw
  unfold wordsK at hw
  rcases List.mem_append.1 hw with hw | hw
  · rcases List.mem_append.1 hw with hw | hw
    · rcases List.mem_cons.1 hw with rfl | hw
      · exact vw_ok h.v0 h.v1
      · split at hw
        · simp at hw
        · rename_i h13
          rw [List.mem_singleton.1 hw]
          exact ⟨fun x hx => name_bytes (h.nm h13) hx, by rw [bs_len]; exact (nameB_size (h.nm h13)).2⟩
    · obtain ⟨n, hn, rfl⟩ := List.mem_map.1 hw
      have := nums_small h hk n hn
      exact ⟨fun x hx => digs_bytes hx, Nat.le_trans (digs_len 6 n (by omega)) (by omega)⟩
  · split at hw
    · rw [List.mem_singleton.1 hw]
      decide
    · simp at hw
theorem want_le (v : Int) : want v ≤ 4 := by
  unfold want
  split <;> split <;> split <;> omega
theorem words_len (c : Cm) (k : Nat) : (wordsK c k).length ≤ 7 := by
  rw [words_core, List.length_append, core_len]
  have := want_le c.V
  split <;> split <;> simp <;> omega
theorem line_ok {c : Cm} (h : COk c) {k : Nat} (hk : k ≤ 64) : 10 ∉ lineK c k ∧ (lineK c k).length ≤ 100 := by
  have ho := words_ok h hk
  constructor
  · intro hx
    rcases wordsL_mem _ hx with e | ⟨w, hw, hx⟩
    · exact absurd e (by decide)
    · exact ((ho w hw).1 10 hx).2 rfl
  · have h1 := wordsL_len (wordsK c k) 12 (fun w hw => (ho w hw).2)
    have h2 := words_len c k
    unfold lineK
    have : (wordsK c k).length * (12 + 1) ≤ 7 * 13 := Nat.mul_le_mul_right _ h2
    omega
theorem split_show {c : Cm} (h : COk c) {k : Nat} (hk : k ≤ 64) : splitL 32 (lineK c k) = wordsK c k :=
  split_words _ (by unfold wordsK; simp) (fun w hw hx => ((words_ok h hk w hw).1 32 hx).1 rfl)
theorem head_words (c : Cm) (k : Nat) : (wordsK c k).headD [] = vw c.V := by unfold wordsK; simp
theorem bare_back {c : Cm} {b : ByteArray} (h : c.B = b) : (⟨c.V, c.N, c.F, c.U, b, c.C, c.D, c.Q⟩ : Cm) = c := by cases c; simp at h; subst h; rfl
/-- of a line of a right command -/
theorem line_told {c : Cm} (h : COk c) (u : List UInt8) : cmdLine (lineK c c.B.size) u =
    if sized c.V = false then (c, (lineK c c.B.size).length + 1, 0)
    else if u.length ≤ c.B.size then (Cm.zero, 0, 1)
    else if u[c.B.size]? ≠ some 10 then (Cm.zero, (lineK c c.B.size).length + 1, 3)
    else (⟨c.V, c.N, c.F, c.U, tx (u.take c.B.size), c.C, c.D, c.Q⟩, (lineK c c.B.size).length + 1 + c.B.size + 1, 0) := by
  unfold cmdLine
  rw [split_show h h.b1, head_words, verbOf_vw h.v0 h.v1, if_neg (by have := h.v0; omega), line_show h]
  dsimp only [bare]
  by_cases hs : sized c.V = false
  · rw [if_pos hs, if_pos hs, bare_back (h.b hs)]
  · rw [if_neg hs, if_neg hs]
theorem cmd_show {c : Cm} (h : COk c) (u : List UInt8) : cmdOf (showL c ++ u) = (c, (showL c).length, 0) := by
  obtain ⟨h1, h2⟩ := line_ok h h.b1
  unfold showL
  rw [List.append_assoc, List.cons_append, cmd_line h1 h2, line_told h]
  by_cases hs : sized c.V = false
  · rw [if_pos hs, hs]
    simp
  · have hs' : sized c.V = true := by simpa using hs
    have e : ∀ x : List UInt8, (bs c.B ++ [10]) ++ x = bs c.B ++ 10 :: x := fun x => by simp
    rw [if_neg hs, hs', if_pos rfl, e, if_neg (by simp [bs_len]), if_neg, ← bs_len, List.take_left, tx_bs, bare_back rfl]
    · simp only [List.length_append, List.length_cons, List.length_nil]
      congr 2
      omega
    · rw [← bs_len, List.getElem?_append_right (Nat.le_refl _), Nat.sub_self]
      simp
/-- cut it is not yet one -/
theorem cmd_cut {c : Cm} (h : COk c) {m : Nat} (hm : m < (showL c).length) : cmdOf ((showL c).take m) = (Cm.zero, 0, 1) := by
  obtain ⟨h1, h2⟩ := line_ok h h.b1
  by_cases hl : m ≤ (lineK c c.B.size).length
  · have e : (showL c).take m = (lineK c c.B.size).take m := by unfold showL; rw [List.take_append_of_le_length hl]
    rw [e]
    have hno : 10 ∉ (lineK c c.B.size).take m := fun hx => h1 (List.mem_of_mem_take hx)
    have hle : ((lineK c c.B.size).take m).length ≤ 100 := by rw [List.length_take]; omega
    exact cmd_more (by rw [lineOf_all hno]; omega) (by rw [lineOf_all hno])
  · have hs : sized c.V = true := by
      cases hq : sized c.V with
      | true => rfl
      | false =>
        unfold showL at hm
        rw [hq] at hm
        simp at hm
        omega
    have e : (showL c).take m = lineK c c.B.size ++ 10 :: (bs c.B ++ [10]).take (m - (lineK c c.B.size).length - 1) := by
      unfold showL
      rw [hs, if_pos rfl, List.take_append, List.take_of_length_le (by omega)]
      obtain ⟨j, hj⟩ : ∃ j, m - (lineK c c.B.size).length = j + 1 := ⟨m - (lineK c c.B.size).length - 1, by omega⟩
      rw [hj, List.take_succ_cons]
      rfl
    have hlen : ((bs c.B ++ [10]).take (m - (lineK c c.B.size).length - 1)).length ≤ c.B.size := by
      unfold showL at hm
      rw [hs, if_pos rfl] at hm
      simp [bs_len] at hm
      rw [List.length_take]
      omega
    rw [e, cmd_line h1 h2, line_told h, if_neg (by rw [hs]; decide), if_pos hlen]

/-! ### what comes later changes nothing -/
theorem lineOf_more (t u : List UInt8) : (lineOf t).length ≤ (lineOf (t ++ u)).length := by
  unfold lineOf
  rw [List.takeWhile_append]
  split
  · rw [List.length_append]
    rename_i h
    rw [h]
    omega
  · exact Nat.le_refl _
theorem cmd_prefix {t : List UInt8} (h : (cmdOf t).2.2 ≠ 1) (u : List UInt8) : cmdOf (t ++ u) = cmdOf t := by
  rcases cmd_cases t with ⟨hl, e⟩ | ⟨-, -, e⟩ | ⟨l, r, ht, hn, hl, e⟩
  · rw [e]
    exact cmd_long (Nat.lt_of_lt_of_le hl (lineOf_more t u))
  · rw [e] at h
    exact absurd rfl h
  · have e2 : t ++ u = l ++ 10 :: (r ++ u) := by rw [ht]; simp
    rw [e2, cmd_line hn hl, e]
    rw [e] at h
    unfold cmdLine at h ⊢
    split
    · rfl
    · rename_i hv
      rw [if_neg hv] at h
      split
      · rfl
      · rename_i c k hk
        rw [hk] at h
        dsimp only at h
        split
        · rfl
        · rename_i hs
          rw [if_neg hs] at h
          by_cases hr : r.length ≤ k
          · rw [if_pos hr] at h
            exact absurd rfl h
          · rw [if_neg hr, if_neg (by rw [List.length_append]; omega), List.getElem?_append_left (by omega), List.take_append_of_le_length (by omega)]

/-! ### one behind the other -/
noncomputable def cmdsF : Nat → List UInt8 → List Cm × List Int × Nat
  | 0, _ => ([], [], 0)
  | f + 1, t => if (cmdOf t).2.2 = 1 then ([], [], 0) else
    ((if (cmdOf t).2.2 = 0 then [(cmdOf t).1] else []) ++ (cmdsF f (t.drop (cmdOf t).2.1)).1, (cmdOf t).2.2 :: (cmdsF f (t.drop (cmdOf t).2.1)).2.1, (cmdOf t).2.1 + (cmdsF f (t.drop (cmdOf t).2.1)).2.2)
theorem cmdsF_fuel : ∀ (f g : Nat) (t : List UInt8), t.length < f → t.length < g → cmdsF f t = cmdsF g t
  | 0, g, t, h, _ => by omega
  | f + 1, 0, t, _, h => by omega
  | f + 1, g + 1, t, h1, h2 => by
    unfold cmdsF
    by_cases hk : (cmdOf t).2.2 = 1
    · rw [if_pos hk, if_pos hk]
    · obtain ⟨-, -, -, hm⟩ := cmd_codes (t := t) (c := (cmdOf t).1) (m := (cmdOf t).2.1) (k := (cmdOf t).2.2) rfl
      have := hm hk
      rw [if_neg hk, if_neg hk, cmdsF_fuel f g (t.drop (cmdOf t).2.1) (by rw [List.length_drop]; omega) (by rw [List.length_drop]; omega)]
noncomputable def cmdsL (t : List UInt8) : List Cm × List Int × Nat := cmdsF (t.length + 1) t
theorem cmds_stop {t : List UInt8} (h : (cmdOf t).2.2 = 1) : cmdsL t = ([], [], 0) := by unfold cmdsL cmdsF; rw [if_pos h]
theorem cmds_step {t : List UInt8} (h : (cmdOf t).2.2 ≠ 1) : cmdsL t =
    ((if (cmdOf t).2.2 = 0 then [(cmdOf t).1] else []) ++ (cmdsL (t.drop (cmdOf t).2.1)).1, (cmdOf t).2.2 :: (cmdsL (t.drop (cmdOf t).2.1)).2.1, (cmdOf t).2.1 + (cmdsL (t.drop (cmdOf t).2.1)).2.2) := by
  obtain ⟨-, -, -, hm⟩ := cmd_codes (t := t) (c := (cmdOf t).1) (m := (cmdOf t).2.1) (k := (cmdOf t).2.2) rfl
  have := hm h
  have e := cmdsF_fuel t.length ((t.drop (cmdOf t).2.1).length + 1) (t.drop (cmdOf t).2.1) (by rw [List.length_drop]; omega) (by omega)
  unfold cmdsL
  conv => lhs; unfold cmdsF
  rw [if_neg h, e]
theorem cmds_le (n : Nat) : ∀ t : List UInt8, t.length ≤ n → (cmdsL t).2.2 ≤ t.length := by
  induction n with
  | zero =>
    intro t ht
    by_cases hk : (cmdOf t).2.2 = 1
    · rw [cmds_stop hk]; exact Nat.zero_le _
    · have := (cmd_codes (t := t) (c := (cmdOf t).1) (m := (cmdOf t).2.1) (k := (cmdOf t).2.2) rfl).2.2.2 hk
      omega
  | succ n ih =>
    intro t ht
    by_cases hk : (cmdOf t).2.2 = 1
    · rw [cmds_stop hk]; exact Nat.zero_le _
    · have hm := (cmd_codes (t := t) (c := (cmdOf t).1) (m := (cmdOf t).2.1) (k := (cmdOf t).2.2) rfl).2.2.2 hk
      rw [cmds_step hk]
      have := ih (t.drop (cmdOf t).2.1) (by rw [List.length_drop]; omega)
      rw [List.length_drop] at this
      show (cmdOf t).2.1 + (cmdsL (t.drop (cmdOf t).2.1)).2.2 ≤ t.length
      omega
theorem cmds_take (t : List UInt8) : (cmdsL t).2.2 ≤ t.length := cmds_le t.length t (Nat.le_refl _)
/-- wherever bytes are cut -/
theorem cmds_cut (n : Nat) : ∀ (t : List UInt8) (k : Nat), t.length ≤ n → k ≤ t.length →
    cmdsL t = ((cmdsL (t.take k)).1 ++ (cmdsL (t.drop (cmdsL (t.take k)).2.2)).1, (cmdsL (t.take k)).2.1 ++ (cmdsL (t.drop (cmdsL (t.take k)).2.2)).2.1, (cmdsL (t.take k)).2.2 + (cmdsL (t.drop (cmdsL (t.take k)).2.2)).2.2) := by
  induction n with
  | zero =>
    intro t k ht hk
    have : t = [] := List.eq_nil_of_length_eq_zero (by omega)
    subst this
    have e : cmdOf [] = (Cm.zero, 0, 1) := cmd_more (by decide) rfl
    have : cmdsL [] = ([], [], 0) := cmds_stop (by rw [e])
    simp [this]
  | succ n ih =>
    intro t k ht hk
    by_cases h1 : (cmdOf (t.take k)).2.2 = 1
    · rw [cmds_stop h1]
      simp
    · have hm := (cmd_codes (t := t.take k) (c := (cmdOf (t.take k)).1) (m := (cmdOf (t.take k)).2.1) (k := (cmdOf (t.take k)).2.2) rfl).2.2.2 h1
      have e : cmdOf t = cmdOf (t.take k) := by
        have := cmd_prefix h1 (t.drop k)
        rw [List.take_append_drop] at this
        exact this
      rw [List.length_take] at hm
      obtain ⟨m, hme⟩ : ∃ m, (cmdOf (t.take k)).2.1 = m := ⟨_, rfl⟩
      have h2 : (cmdOf t).2.2 ≠ 1 := by rw [e]; exact h1
      have hd : (t.take k).drop m = (t.drop m).take (k - m) := List.drop_take ..
      have hi := ih (t.drop m) (k - m) (by rw [List.length_drop]; omega) (by rw [List.length_drop]; omega)
      rw [cmds_step h1, cmds_step h2, e, hme, hd]
      rw [← List.drop_drop]
      rw [hi]
      simp [Nat.add_assoc]
theorem cmds_cut' (t : List UInt8) {k : Nat} (hk : k ≤ t.length) : (cmdsL (t.take k)).1 ++ (cmdsL (t.drop (cmdsL (t.take k)).2.2)).1 = (cmdsL t).1 ∧ (cmdsL (t.take k)).2.1 ++ (cmdsL (t.drop (cmdsL (t.take k)).2.2)).2.1 = (cmdsL t).2.1 ∧ (cmdsL (t.take k)).2.2 + (cmdsL (t.drop (cmdsL (t.take k)).2.2)).2.2 = (cmdsL t).2.2 := by
  have h := cmds_cut t.length t k (Nat.le_refl _) hk
  exact ⟨(congrArg (·.1) h).symm, (congrArg (·.2.1) h).symm, (congrArg (·.2.2) h).symm⟩
/-- there are as many commands as codes that say so -/
theorem cmds_good (n : Nat) : ∀ t : List UInt8, t.length ≤ n → (cmdsL t).2.1.count 0 = (cmdsL t).1.length := by
  induction n with
  | zero =>
    intro t ht
    by_cases hk : (cmdOf t).2.2 = 1
    · rw [cmds_stop hk]; rfl
    · have := (cmd_codes (t := t) (c := (cmdOf t).1) (m := (cmdOf t).2.1) (k := (cmdOf t).2.2) rfl).2.2.2 hk
      omega
  | succ n ih =>
    intro t ht
    by_cases hk : (cmdOf t).2.2 = 1
    · rw [cmds_stop hk]; rfl
    · have hm := (cmd_codes (t := t) (c := (cmdOf t).1) (m := (cmdOf t).2.1) (k := (cmdOf t).2.2) rfl).2.2.2 hk
      have hi := ih (t.drop (cmdOf t).2.1) (by rw [List.length_drop]; omega)
      rw [cmds_step hk]
      dsimp only
      rw [List.count_cons, hi, List.length_append]
      by_cases h0 : (cmdOf t).2.2 = 0
      · simp [h0]
        omega
      · simp [h0]
end Go.Proofs.YtldflfmglpojlaaDoor.cm
/- Mathematics of replies, no Go in sight: right ones, how they are shown; of whatever stands there at most one is shown so. -/
namespace Go.Proofs.YtldflfmglpojlaaDoor.cm
open Go.RowKit
open Go.Proofs.YtldflfmglpojlaaDoor.rg (nameB nbB nameB_size)
set_option linter.unusedVariables false

/-- a reply -/
structure Rp where
  K : Int
  N : ByteArray
  F : Int
  B : ByteArray
  C : Int
  M : Int
def Rp.zero : Rp := ⟨0, emp, 0, emp, 0, 0⟩
/-- a right one -/
structure POk (r : Rp) : Prop where
  k0 : 1 ≤ r.K
  k1 : r.K ≤ 12
  nm : r.K = 5 → nameB r.N = true
  n0 : r.K ≠ 5 → r.N = emp
  f1 : r.K = 5 → 0 ≤ r.F ∧ r.F ≤ 65535
  f0 : r.K ≠ 5 → r.F = 0
  b1 : r.B.size ≤ 64
  b0 : r.K ≠ 5 → r.B = emp
  c1 : r.K = 5 → 0 ≤ r.C ∧ r.C ≤ 1000000
  c0 : r.K ≠ 5 → r.C = 0
  m1 : r.K = 6 → 0 ≤ r.M ∧ r.M ≤ 999999999
  m0 : r.K ≠ 6 → r.M = 0
open Classical in
noncomputable def repB (r : Rp) : Bool := decide (POk r)
open Classical in
theorem repB_iff {r : Rp} : repB r = true ↔ POk r := by unfold repB; exact decide_eq_true_iff
def kinds : List (List UInt8) := [[115, 116, 111, 114, 101, 100], [110, 111, 116], [101, 120, 105, 115, 116, 115], [109, 105, 115, 115, 105, 110, 103], [118, 97, 108, 117, 101], [110, 117, 109, 98, 101, 114], [116, 111, 117, 99, 104, 101, 100], [99, 117, 116], [99, 108, 101, 97, 114, 101, 100], [101, 114, 114, 111, 114], [98, 97, 100], [98, 105, 103]]
def kw (k : Int) : List UInt8 := (kinds[(k - 1).toNat]?).getD []
def wordsR (r : Rp) : List (List UInt8) :=
  kw r.K :: (if r.K = 6 then [digs r.M.toNat] else if r.K = 5 then [bs r.N, digs r.F.toNat, digs r.B.size] ++ (if r.C = 0 then [] else [digs r.C.toNat]) else [])
def tailR (r : Rp) : List UInt8 := if r.K = 5 then bs r.B ++ [10] else []
def showR (r : Rp) : List UInt8 := wordsL (wordsR r) ++ 10 :: tailR r
theorem kind_cases {v : Int} (h0 : 1 ≤ v) (h1 : v ≤ 12) : v = 1 ∨ v = 2 ∨ v = 3 ∨ v = 4 ∨ v = 5 ∨ v = 6 ∨ v = 7 ∨ v = 8 ∨ v = 9 ∨ v = 10 ∨ v = 11 ∨ v = 12 := by omega
theorem kw_ok {v : Int} (h0 : 1 ≤ v) (h1 : v ≤ 12) : (∀ c ∈ kw v, c ≠ 32 ∧ c ≠ 10) ∧ (kw v).length ≤ 12 := by
  rcases kind_cases h0 h1 with rfl | rfl | rfl | rfl | rfl | rfl | rfl | rfl | rfl | rfl | rfl | rfl <;> decide
def kindOf (w : List UInt8) : Int := ((kinds.findIdx? (· == w)).map fun i => (i : Int) + 1).getD 0
theorem kindOf_kw {v : Int} (h0 : 1 ≤ v) (h1 : v ≤ 12) : kindOf (kw v) = v := by
  rcases kind_cases h0 h1 with rfl | rfl | rfl | rfl | rfl | rfl | rfl | rfl | rfl | rfl | rfl | rfl <;> decide
theorem wordsR_ok {r : Rp} (h : POk r) : ∀ w ∈ wordsR r, ∀ x ∈ w, x ≠ 32 ∧ x ≠ 10 := by
  intro w hw
  unfold wordsR at hw
  rcases List.mem_cons.1 hw with rfl | hw
  · exact (kw_ok h.k0 h.k1).1
  · split at hw
    · rw [List.mem_singleton.1 hw]
      exact fun x hx => digs_bytes hx
    · split at hw
      · rename_i h5
        rcases List.mem_append.1 hw with hw | hw
        · simp only [List.mem_cons, List.not_mem_nil, or_false] at hw
          rcases hw with rfl | rfl | rfl
          · exact fun x hx => name_bytes (h.nm h5) hx
          · exact fun x hx => digs_bytes hx
          · exact fun x hx => digs_bytes hx
        · split at hw
          · simp at hw
          · rw [List.mem_singleton.1 hw]
            exact fun x hx => digs_bytes hx
      · simp at hw
theorem lineR_no {r : Rp} (h : POk r) : 10 ∉ wordsL (wordsR r) := fun hx => by
  rcases wordsL_mem _ hx with e | ⟨w, hw, hx⟩
  · exact absurd e (by decide)
  · exact (wordsR_ok h w hw 10 hx).2 rfl
theorem splitR {r : Rp} (h : POk r) : splitL 32 (wordsL (wordsR r)) = wordsR r :=
  split_words _ (by unfold wordsR; simp) (fun w hw hx => (wordsR_ok h w hw 32 hx).1 rfl)
theorem lineOf_show {r : Rp} (h : POk r) (u : List UInt8) : lineOf (showR r ++ u) = wordsL (wordsR r) := by
  unfold showR
  rw [List.append_assoc, List.cons_append]
  exact lineOf_app (lineR_no h) _
theorem digs_inj {a b : Nat} (h : digs a = digs b) : a = b := by rw [← val_digs a, h, val_digs]
theorem bs_inj {a b : ByteArray} (h : bs a = bs b) : a = b := by rw [← tx_bs a, h, tx_bs]
theorem nat_inj {a b : Int} (ha : 0 ≤ a) (hb : 0 ≤ b) (h : a.toNat = b.toNat) : a = b := by omega
/-- of whatever stands there at most one reply is shown so -/
theorem show_inj {r r' : Rp} (h : POk r) (h' : POk r') {u u' : List UInt8} (e : showR r ++ u = showR r' ++ u') : r = r' := by
  have e1 : wordsL (wordsR r) = wordsL (wordsR r') := by rw [← lineOf_show h u, e, lineOf_show h' u']
  have e2 : wordsR r = wordsR r' := by rw [← splitR h, e1, splitR h']
  have eK : r.K = r'.K := by
    have : kw r.K = kw r'.K := by
      have := congrArg List.head? e2
      unfold wordsR at this
      simpa using this
    rw [← kindOf_kw h.k0 h.k1, this, kindOf_kw h'.k0 h'.k1]
  obtain ⟨K, N, F, B, C, M⟩ := r
  obtain ⟨K', N', F', B', C', M'⟩ := r'
  dsimp only at eK
  subst eK
  by_cases h6 : K = 6
  · have h5 : K ≠ 5 := by omega
    have n1 := h.n0 h5
    have n2 := h'.n0 h5
    have f1 := h.f0 h5
    have f2 := h'.f0 h5
    have b1 := h.b0 h5
    have b2 := h'.b0 h5
    have c1 := h.c0 h5
    have c2 := h'.c0 h5
    have m1 := (h.m1 h6).1
    have m2 := (h'.m1 h6).1
    dsimp only at n1 n2 f1 f2 b1 b2 c1 c2 m1 m2
    unfold wordsR at e2
    simp only [h6, if_true, List.cons.injEq, and_true, true_and] at e2
    have := nat_inj m1 m2 (digs_inj e2)
    rw [n1, n2, f1, f2, b1, b2, c1, c2, this]
  · have m1 := h.m0 h6
    have m2 := h'.m0 h6
    dsimp only at m1 m2
    by_cases h5 : K = 5
    · have f1 := (h.f1 h5).1
      have f2 := (h'.f1 h5).1
      have c1 := (h.c1 h5).1
      have c2 := (h'.c1 h5).1
      dsimp only at f1 f2 c1 c2
      have hN : bs N = bs N' ∧ digs F.toNat = digs F'.toNat ∧ digs B.size = digs B'.size ∧ (if C = 0 then [] else [digs C.toNat]) = (if C' = 0 then [] else [digs C'.toNat]) := by
        unfold wordsR at e2
        simp only [h5] at e2
        simp at e2
        exact e2
      obtain ⟨q1, q2, q3, q4⟩ := hN
      have eC : C = C' := by
        by_cases z : C = 0
        · by_cases z' : C' = 0
          · rw [z, z']
          · rw [if_pos z, if_neg z'] at q4
            simp at q4
        · by_cases z' : C' = 0
          · rw [if_neg z, if_pos z'] at q4
            simp at q4
          · rw [if_neg z, if_neg z'] at q4
            exact nat_inj c1 c2 (digs_inj (by simpa using q4))
      have eB : B = B' := by
        unfold showR tailR at e
        rw [e1, if_pos h5, if_pos h5] at e
        simp only [List.append_assoc, List.cons_append, List.nil_append] at e
        have e3 := List.append_cancel_left e
        simp only [List.cons.injEq, true_and] at e3
        have hl : (bs B).length = (bs B').length := by rw [bs_len, bs_len]; exact digs_inj q3
        exact bs_inj (List.append_inj_left e3 hl)
      rw [bs_inj q1, nat_inj f1 f2 (digs_inj q2), eB, eC, m1, m2]
    · have n1 := h.n0 h5
      have n2 := h'.n0 h5
      have f1 := h.f0 h5
      have f2 := h'.f0 h5
      have b1 := h.b0 h5
      have b2 := h'.b0 h5
      have c1 := h.c0 h5
      have c2 := h'.c0 h5
      dsimp only at n1 n2 f1 f2 b1 b2 c1 c2
      rw [n1, n2, f1, f2, b1, b2, c1, c2, m1, m2]
/-- the reply that stands at the head of bytes -/
def Reads (t : List UInt8) (r : Rp) : Prop := POk r ∧ showR r <+: t
theorem reads_one {t : List UInt8} {r r' : Rp} (h : Reads t r) (h' : Reads t r') : r = r' := by
  obtain ⟨u, e⟩ := h.2
  obtain ⟨u', e'⟩ := h'.2
  exact show_inj h.1 h'.1 (e.trans e'.symm)
open Classical in
noncomputable def repL (t : List UInt8) : Option Rp := if h : ∃ r, Reads t r then some h.choose else none
theorem repL_some {t : List UInt8} {r : Rp} (h : Reads t r) : repL t = some r := by
  have hx : ∃ r, Reads t r := ⟨r, h⟩
  unfold repL
  rw [dif_pos hx, reads_one hx.choose_spec h]
theorem repL_is {t : List UInt8} {r : Rp} (h : repL t = some r) : Reads t r := by
  unfold repL at h
  split at h
  · rename_i hx
    rw [← Option.some.inj h]
    exact hx.choose_spec
  · cases h
theorem repL_none {t : List UInt8} (h : ∀ r, ¬ Reads t r) : repL t = none := by
  unfold repL
  rw [dif_neg (fun ⟨r, hr⟩ => h r hr)]
theorem repL_show {r : Rp} (h : POk r) (u : List UInt8) : repL (showR r ++ u) = some r := repL_some ⟨h, List.prefix_append _ _⟩
end Go.Proofs.YtldflfmglpojlaaDoor.cm
/- Mathematics of books, no Go in sight: things put where they belong, stamped, over, asked for. -/
namespace Go.Proofs.YtldflfmglpojlaaDoor.rg
open Go.RowKit
open Go.Proofs.YtldflfmglpojlaaDoor.cm
set_option linter.unusedVariables false

theorem less_flip : ∀ x y : List UInt8, Op.bytesLess x y = false → x ≠ y → Op.bytesLess y x = true
  | [], [], _, h => absurd rfl h
  | [], b :: y, h, _ => by simp [Op.bytesLess] at h
  | a :: x, [], _, _ => by simp [Op.bytesLess]
  | a :: x, b :: y, h, hn => by
    simp only [Op.bytesLess, Bool.or_eq_false_iff, Bool.and_eq_false_iff, decide_eq_false_iff_not, beq_eq_false_iff_ne, Bool.or_eq_true, Bool.and_eq_true, decide_eq_true_eq, beq_iff_eq] at h ⊢
    obtain ⟨h1, h2⟩ := h
    by_cases e : a = b
    · subst e
      rcases h2 with h2 | h2
      · exact absurd rfl h2
      · exact .inr ⟨rfl, less_flip x y h2 (fun e => hn (by rw [e]))⟩
    · refine .inl ?_
      have h3 : ¬ a.toNat < b.toNat := h1
      have h4 : a.toNat ≠ b.toNat := fun q => e (UInt8.toNat_inj.1 q)
      show b.toNat < a.toNat
      omega
theorem bytes_eq {a b : ByteArray} (h : a.toList = b.toList) : a = b := by
  rw [ByteArray.toList_eq, ByteArray.toList_eq] at h
  cases a; cases b; simp at h; rw [h]
theorem ltS_total {a b : ByteArray} (h : ltS a b = false) (hn : a ≠ b) : ltS b a = true := less_flip _ _ h fun e => hn (bytes_eq e)

/-- in the order of their names -/
def Srt (l : List It) : Prop := l.Pairwise fun x y => ltS x.N y.N = true
theorem srt_map {l : List It} : (l.map (·.N)).Pairwise (fun x y => ltS x y = true) ↔ Srt l := List.pairwise_map
theorem BOk.srt {b : List It} (h : BOk b) : Srt b := srt_map.1 h.2.1
theorem bok_of {b : List It} (h1 : ∀ i ∈ b, itemB i = true) (h2 : Srt b) (h3 : b.length ≤ 20) : BOk b := ⟨h1, srt_map.2 h2, h3⟩
theorem Srt.one {l : List It} (h : Srt l) {x y : It} (hx : x ∈ l) (hy : y ∈ l) (e : x.N = y.N) : x = y := by
  induction l with
  | nil => simp at hx
  | cons a r ih =>
    obtain ⟨h1, h2⟩ := List.pairwise_cons.1 h
    rcases List.mem_cons.1 hx with rfl | hx'
    · rcases List.mem_cons.1 hy with rfl | hy'
      · rfl
      · exact absurd e (ltS_ne (h1 y hy'))
    · rcases List.mem_cons.1 hy with rfl | hy'
      · exact absurd e.symm (ltS_ne (h1 x hx'))
      · exact ih h2 hx' hy'

/-- a thing is put where it belongs -/
def behind (i : It) : List It → List It
  | [] => []
  | x :: r => if x.N = i.N then r else x :: r
theorem behind_yes {i x : It} (h : x.N = i.N) (r : List It) : behind i (x :: r) = r := if_pos h
theorem behind_no {i x : It} (h : x.N ≠ i.N) (r : List It) : behind i (x :: r) = x :: r := if_neg h
def putL (l : List It) (i : It) : List It := l.takeWhile (fun x => ltS x.N i.N) ++ i :: behind i (l.dropWhile fun x => ltS x.N i.N)
theorem put_cons (x : It) (l : List It) (i : It) : putL (x :: l) i = if ltS x.N i.N = true then x :: putL l i else i :: behind i (x :: l) := by
  unfold putL
  rw [List.takeWhile_cons, List.dropWhile_cons]
  cases ltS x.N i.N <;> simp
theorem put_mem {l : List It} (h : Srt l) (i : It) : ∀ x, x ∈ putL l i ↔ x = i ∨ (x ∈ l ∧ x.N ≠ i.N) := by
  induction l with
  | nil => intro x; simp [putL, behind]
  | cons y r ih =>
    obtain ⟨h1, h2⟩ := List.pairwise_cons.1 h
    intro x
    rw [put_cons]
    by_cases hy : ltS y.N i.N = true
    · rw [if_pos hy, List.mem_cons, ih h2 x, List.mem_cons]
      constructor
      · rintro (rfl | rfl | ⟨h3, h4⟩)
        · exact .inr ⟨.inl rfl, ltS_ne hy⟩
        · exact .inl rfl
        · exact .inr ⟨.inr h3, h4⟩
      · rintro (rfl | ⟨rfl | h3, h4⟩)
        · exact .inr (.inl rfl)
        · exact .inl rfl
        · exact .inr (.inr ⟨h3, h4⟩)
    · rw [if_neg hy, List.mem_cons]
      by_cases hn : y.N = i.N
      · rw [behind_yes hn]
        constructor
        · rintro (rfl | h3)
          · exact .inl rfl
          · exact .inr ⟨List.mem_cons_of_mem _ h3, fun e => ltS_ne (h1 x h3) (hn.trans e.symm)⟩
        · rintro (rfl | ⟨h3, h4⟩)
          · exact .inl rfl
          · rcases List.mem_cons.1 h3 with rfl | h3
            · exact absurd hn h4
            · exact .inr h3
      · rw [behind_no hn]
        constructor
        · rintro (rfl | h3)
          · exact .inl rfl
          · refine .inr ⟨h3, fun e => ?_⟩
            rcases List.mem_cons.1 h3 with rfl | h3
            · exact hn e
            · exact hy (e ▸ h1 x h3)
        · rintro (rfl | ⟨h3, h4⟩)
          · exact .inl rfl
          · exact .inr h3
theorem put_srt {l : List It} (h : Srt l) (i : It) : Srt (putL l i) := by
  induction l with
  | nil => simp [putL, behind, Srt]
  | cons y r ih =>
    obtain ⟨h1, h2⟩ := List.pairwise_cons.1 h
    rw [put_cons]
    by_cases hy : ltS y.N i.N = true
    · rw [if_pos hy]
      refine List.pairwise_cons.2 ⟨fun x hx => ?_, ih h2⟩
      rcases (put_mem h2 i x).1 hx with rfl | ⟨h3, -⟩
      · exact hy
      · exact h1 x h3
    · rw [if_neg hy]
      have hy' : ltS y.N i.N = false := by simpa using hy
      by_cases hn : y.N = i.N
      · rw [behind_yes hn]
        exact List.pairwise_cons.2 ⟨fun x hx => hn ▸ h1 x hx, h2⟩
      · rw [behind_no hn]
        have hi := ltS_total hy' hn
        refine List.pairwise_cons.2 ⟨fun x hx => ?_, h⟩
        rcases List.mem_cons.1 hx with rfl | hx
        · exact hi
        · exact ltS_trans hi (h1 x hx)
theorem put_len {l : List It} (h : Srt l) (i : It) : (putL l i).length ≤ l.length + 1 ∧ ((∃ x ∈ l, x.N = i.N) → (putL l i).length = l.length) := by
  induction l with
  | nil => exact ⟨by simp [putL, behind], fun ⟨x, hx, _⟩ => by simp at hx⟩
  | cons y r ih =>
    obtain ⟨h1, h2⟩ := List.pairwise_cons.1 h
    obtain ⟨i1, i2⟩ := ih h2
    rw [put_cons]
    by_cases hy : ltS y.N i.N = true
    · rw [if_pos hy]
      refine ⟨by simp; omega, fun ⟨x, hx, e⟩ => ?_⟩
      rcases List.mem_cons.1 hx with rfl | hx
      · exact absurd e (ltS_ne hy)
      · have := i2 ⟨x, hx, e⟩
        simp
        omega
    · rw [if_neg hy]
      by_cases hn : y.N = i.N
      · rw [behind_yes hn]
        exact ⟨by simp, fun _ => by simp⟩
      · rw [behind_no hn]
        refine ⟨by simp, fun ⟨x, hx, e⟩ => ?_⟩
        rcases List.mem_cons.1 hx with rfl | hx
        · exact absurd e hn
        · exact absurd (e ▸ h1 x hx) hy

/-- the one with a name -/
def lookI (l : List It) (s : ByteArray) : Option It := if 0 ≤ findI l s then l[(findI l s).toNat]? else none
theorem look_some {l : List It} {s : ByteArray} {x : It} (h : lookI l s = some x) : x ∈ l ∧ x.N = s ∧ ∃ k : Nat, ∃ hk : k < l.length, findI l s = k ∧ l[k] = x := by
  unfold lookI at h
  split at h
  · rename_i h0
    obtain ⟨k, hk, e1, e2⟩ := findI_at h0
    rw [e1, Int.toNat_natCast, List.getElem?_eq_getElem hk] at h
    have e3 : l[k] = x := Option.some.inj h
    rw [e3] at e2
    exact ⟨e3 ▸ List.getElem_mem hk, e2, k, hk, e1, e3⟩
  · cases h
theorem look_none {l : List It} {s : ByteArray} (h : lookI l s = none) : findI l s = -1 ∧ ∀ x ∈ l, x.N ≠ s := by
  have hneg : ¬ 0 ≤ findI l s := fun h0 => by
    unfold lookI at h
    rw [if_pos h0] at h
    obtain ⟨k, hk, e1, e2⟩ := findI_at h0
    rw [e1, Int.toNat_natCast, List.getElem?_eq_getElem hk] at h
    cases h
  have hb := posS_bd s (l.map (·.N))
  refine ⟨by unfold findI at hneg ⊢; omega, fun x hx e => hneg ?_⟩
  unfold findI
  exact posS_mem.1 (List.mem_map.2 ⟨x, hx, e⟩)
theorem look_mem {l : List It} (h : Srt l) {x : It} (hx : x ∈ l) : lookI l x.N = some x := by
  cases e : lookI l x.N with
  | none => exact absurd rfl ((look_none e).2 x hx)
  | some y =>
    obtain ⟨hy, hn, -⟩ := look_some e
    rw [h.one hy hx hn]

/-! ### books -/
structure Bk where
  I : List It
  X : Int
def Bk.zero : Bk := ⟨[], 0⟩
def Bk.new : Bk := ⟨[], 1⟩
def storeB (b : Bk) : Bool := bookB b.I && (decide (1 ≤ b.X) && decide (b.X ≤ 1000000))
structure StOk (b : Bk) : Prop where
  bk : BOk b.I
  x0 : 1 ≤ b.X
  x1 : b.X ≤ 1000000
theorem storeB_iff {b : Bk} : storeB b = true ↔ StOk b := by
  simp only [storeB, Bool.and_eq_true, decide_eq_true_eq, bookB_iff]
  exact ⟨fun ⟨h1, h2, h3⟩ => ⟨h1, h2, h3⟩, fun ⟨h1, h2, h3⟩ => ⟨h1, h2, h3⟩⟩
theorem new_ok : StOk Bk.new := ⟨⟨by simp [Bk.new], by simp [Bk.new], by simp [Bk.new]⟩, by decide, by decide⟩
def timeB (n : Int) : Bool := decide (0 ≤ n) && decide (n ≤ 1000000)
def ageL (l : List It) (now : Int) : List It := l.filter fun i => !overB i now
def goneL (l : List It) (now : Int) : List ByteArray := (l.filter fun i => overB i now).map (·.N)
def agR (b : Bk) (now : Int) : Bk := if (storeB b && timeB now) = true then ⟨ageL b.I now, b.X⟩ else Bk.zero
def agN (b : Bk) (now : Int) : List ByteArray := if (storeB b && timeB now) = true then goneL b.I now else []
theorem age_mem {l : List It} {now : Int} {x : It} : x ∈ ageL l now ↔ x ∈ l ∧ overB x now = false := by unfold ageL; rw [List.mem_filter]; simp
theorem age_ok {l : List It} (h : BOk l) (now : Int) : BOk (ageL l now) :=
  bok_of (fun i hi => h.1 i (age_mem.1 hi).1) (h.srt.filter _) (Nat.le_trans (List.length_filter_le _ _) h.2.2)
theorem age_twice (l : List It) (now : Int) : ageL (ageL l now) now = ageL l now ∧ goneL (ageL l now) now = [] := by
  constructor
  · unfold ageL
    rw [List.filter_filter]
    simp
  · unfold goneL
    have : (ageL l now).filter (fun i => overB i now) = [] := by
      rw [List.filter_eq_nil_iff]
      intro x hx
      rw [(age_mem.1 hx).2]
      decide
    rw [this]
    rfl
theorem age_len (l : List It) (now : Int) : (goneL l now).length + (ageL l now).length = l.length := by
  induction l with
  | nil => rfl
  | cons x r ih =>
    unfold goneL ageL at ih ⊢
    simp only [List.filter_cons, List.length_map] at ih ⊢
    cases overB x now <;> simp <;> omega
theorem gone_mem {l : List It} (h : Srt l) {now : Int} {x : It} (hx : x ∈ l) : x.N ∈ goneL l now ↔ overB x now = true := by
  unfold goneL
  rw [List.mem_map]
  constructor
  · rintro ⟨y, hy, e⟩
    obtain ⟨h1, h2⟩ := List.mem_filter.1 hy
    rw [← h.one h1 hx e]
    exact h2
  · exact fun ho => ⟨x, List.mem_filter.2 ⟨hx, ho⟩, rfl⟩
theorem stays_find {l : List It} (h : Srt l) {now : Int} {x : It} (hx : x ∈ l) : 0 ≤ findI (ageL l now) x.N ↔ overB x now = false := by
  constructor
  · intro h0
    obtain ⟨k, hk, e1, e2⟩ := findI_at h0
    obtain ⟨m1, m2⟩ := age_mem.1 (List.getElem_mem hk)
    rw [← h.one m1 hx e2]
    exact m2
  · intro ho
    unfold findI
    exact posS_mem.1 (List.mem_map.2 ⟨x, age_mem.2 ⟨hx, ho⟩, rfl⟩)
/-- at time 0 nothing is over -/
theorem age_zero {l : List It} (h : BOk l) : ageL l 0 = l := by
  unfold ageL
  rw [List.filter_eq_self]
  intro i hi
  have := (itemB_iff.1 (h.1 i hi)).u0
  unfold overB
  by_cases h0 : i.U = 0
  · simp [h0]
  · simp [h0]
    omega

/-! ### stamped -/
def stampI (b : Bk) (i : It) : It := ⟨i.N, i.F, i.B, b.X, i.U⟩
def stampOk (b : Bk) (i : It) : Bool := itemB (stampI b i) && decide (((putL b.I (stampI b i)).length : Int) ≤ 20)
def nextX (x : Int) : Int := if x + 1 > 1000000 then 1 else x + 1
def stampR (b : Bk) (i : It) : Bk := ⟨putL b.I (stampI b i), nextX b.X⟩
def stB (b : Bk) (i : It) : Bool := storeB b && stampOk b i
def stR (b : Bk) (i : It) : Bk := if storeB b = true then (if stampOk b i = true then stampR b i else b) else Bk.zero
theorem nextX_ok {x : Int} (h0 : 1 ≤ x) (h1 : x ≤ 1000000) : 1 ≤ nextX x ∧ nextX x ≤ 1000000 ∧ nextX x ≠ x := by unfold nextX; split <;> omega
theorem stamp_ok {b : Bk} (h : StOk b) {i : It} (hi : stampOk b i = true) : StOk (stampR b i) ∧ stampI b i ∈ (stampR b i).I ∧ ∀ x ∈ b.I, x.N ≠ i.N → x ∈ (stampR b i).I := by
  unfold stampOk at hi
  simp only [Bool.and_eq_true, decide_eq_true_eq] at hi
  obtain ⟨h1, h2⟩ := hi
  have hm := put_mem h.bk.srt (stampI b i)
  obtain ⟨n1, n2, -⟩ := nextX_ok h.x0 h.x1
  refine ⟨⟨bok_of (fun x hx => ?_) (put_srt h.bk.srt _) (by show (putL b.I (stampI b i)).length ≤ 20; omega), n1, n2⟩, (hm _).2 (.inl rfl), fun x hx hn => (hm x).2 (.inr ⟨hx, hn⟩)⟩
  rcases (hm x).1 hx with rfl | ⟨h3, -⟩
  · exact h1
  · exact h.bk.1 x h3
end Go.Proofs.YtldflfmglpojlaaDoor.rg
/- Mathematics of books, second part: what a command does to a book; what the laws FnBooks, FnCas say. -/
namespace Go.Proofs.YtldflfmglpojlaaDoor.rg
open Go.RowKit
open Go.Proofs.YtldflfmglpojlaaDoor.cm
set_option linter.unusedVariables false

def rp (k : Int) : Rp := ⟨k, emp, 0, emp, 0, 0⟩
def fresh (c : Cm) : It := ⟨c.N, c.F, c.B, 0, c.U⟩
def keepK (b : Bk) (i : It) : Bk × Rp := if stampOk b i = true then (stampR b i, rp 1) else (b, rp 2)
def keepBig (b : Bk) (i : It) : Bk × Rp := if i.B.size > 64 then (b, rp 12) else keepK b i
def touchI (u : Int) (x : It) : It := ⟨x.N, x.F, x.B, x.C, u⟩
def touchL (l : List It) (s : ByteArray) (u : Int) : List It := l.map fun x => if x.N = s then touchI u x else x
def dropL (l : List It) (s : ByteArray) : List It := l.filter fun x => decide (x.N ≠ s)
/-- a number from 0 on, as it is shown -/
def numB (s : ByteArray) : Option Nat := if canon (bs s) = true then some (val 0 (bs s)) else none
def upN (c : Cm) (n : Nat) : Nat := if c.V = 9 then (n + c.D.toNat) % 1000000000 else n - c.D.toNat
def withB (o : It) (l : List UInt8) : It := ⟨o.N, o.F, tx l, o.C, o.U⟩
def doK (b : Bk) (c : Cm) : Bk × Rp :=
  if c.V = 13 then (⟨[], b.X⟩, rp 9)
  else if c.V = 3 then keepK b (fresh c)
  else match lookI b.I c.N with
  | none => if c.V = 4 then keepK b (fresh c) else if c.V = 5 ∨ c.V = 6 ∨ c.V = 7 then (b, rp 2) else (b, rp 4)
  | some o =>
    if c.V = 4 then (b, rp 2)
    else if c.V = 5 then keepBig b (fresh c)
    else if c.V = 6 then keepBig b (withB o (bs o.B ++ bs c.B))
    else if c.V = 7 then keepBig b (withB o (bs c.B ++ bs o.B))
    else if c.V = 1 ∨ c.V = 2 then (b, ⟨5, o.N, o.F, o.B, if c.V = 2 then o.C else 0, 0⟩)
    else if c.V = 8 then (if o.C = c.C then keepK b (fresh c) else (b, rp 3))
    else if c.V = 11 then (⟨touchL b.I c.N c.U, b.X⟩, rp 7)
    else if c.V = 12 then (⟨dropL b.I c.N, b.X⟩, rp 8)
    else match numB o.B with
      | none => (b, rp 11)
      | some n => ((if stampOk b (withB o (digs (upN c n))) = true then stampR b (withB o (digs (upN c n))) else b), ⟨6, emp, 0, emp, 0, (upN c n : Int)⟩)
open Classical in
noncomputable def diR (b : Bk) (c : Cm) (now : Int) : Bk × Rp :=
  if (storeB b && timeB now) = true then (if cmdB c = true then doK (agR b now) c else (b, rp 10)) else (Bk.zero, rp 10)

theorem rp_ok {k : Int} (h0 : 1 ≤ k) (h1 : k ≤ 12) (h5 : k ≠ 5) (h6 : k ≠ 6) : POk (rp k) :=
  ⟨h0, h1, fun h => absurd h h5, fun _ => rfl, fun h => absurd h h5, fun _ => rfl, by show emp.size ≤ 64; decide, fun _ => rfl, fun h => absurd h h5, fun _ => rfl, fun h => absurd h h6, fun _ => rfl⟩
theorem touch_map (l : List It) (s : ByteArray) (u : Int) : (touchL l s u).map (·.N) = l.map (·.N) := by
  unfold touchL
  rw [List.map_map]
  refine List.map_congr_left fun x _ => ?_
  show (if x.N = s then touchI u x else x).N = x.N
  split <;> rfl
theorem touch_ok {l : List It} (h : BOk l) (s : ByteArray) {u : Int} (h0 : 0 ≤ u) (h1 : u ≤ 1000000) : BOk (touchL l s u) := by
  refine ⟨fun i hi => ?_, by rw [touch_map]; exact h.2.1, by unfold touchL; rw [List.length_map]; exact h.2.2⟩
  obtain ⟨x, hx, rfl⟩ := List.mem_map.1 hi
  have hk := itemB_iff.1 (h.1 x hx)
  split
  · exact itemB_iff.2 ⟨hk.nm, hk.f0, hk.f1, hk.b1, hk.c0, hk.c1, h0, h1⟩
  · exact h.1 x hx
theorem touch_stays {l : List It} {s : ByteArray} {u : Int} {x : It} (hx : x ∈ l) (hn : x.N ≠ s) : x ∈ touchL l s u := List.mem_map.2 ⟨x, hx, if_neg hn⟩
/-- by its place -/
theorem touch_at {l : List It} (h : Srt l) {k : Nat} (hk : k < l.length) (u : Int) : touchL l l[k].N u = l.set k (touchI u l[k]) := by
  have e0 : touchL l l[k].N u = l.map fun x => if x.N = l[k].N then touchI u x else x := rfl
  rw [e0]
  refine List.ext_getElem (by simp) fun j h1 h2 => ?_
  rw [List.getElem_map, List.getElem_set]
  have hj : j < l.length := by simpa using h1
  by_cases e : k = j
  · subst e
    rw [if_pos rfl, if_pos rfl]
  · rw [if_neg e, if_neg]
    intro en
    rcases Nat.lt_or_gt_of_ne e with q | q
    · exact ltS_ne (List.pairwise_iff_getElem.1 h k j hk hj q) en.symm
    · exact ltS_ne (List.pairwise_iff_getElem.1 h j k hj hk q) en
theorem drop_at {l : List It} (h : Srt l) {k : Nat} (hk : k < l.length) : dropL l l[k].N = l.take k ++ l.drop (k + 1) := by
  have h1 : l = l.take k ++ l[k] :: l.drop (k + 1) := by simp
  have h0 : ∀ s : ByteArray, dropL l s = (l.take k ++ l[k] :: l.drop (k + 1)).filter fun x => decide (x.N ≠ s) := fun s => by rw [← h1]; rfl
  rw [h0, List.filter_append, List.filter_cons, if_neg (by simp)]
  congr 1
  · rw [List.filter_eq_self]
    intro x hx
    obtain ⟨j, hj, e⟩ := List.mem_iff_getElem.1 hx
    simp at hj e
    rw [← e]
    exact decide_eq_true (ltS_ne (List.pairwise_iff_getElem.1 h j k (by omega) hk (by omega)))
  · rw [List.filter_eq_self]
    intro x hx
    obtain ⟨j, hj, e⟩ := List.mem_iff_getElem.1 hx
    simp at hj e
    rw [← e]
    exact decide_eq_true fun q => ltS_ne (List.pairwise_iff_getElem.1 h k (k + 1 + j) hk (by omega) (by omega)) q.symm
theorem drop_no {l : List It} {s : ByteArray} (h : ∀ x ∈ l, x.N ≠ s) : dropL l s = l := by
  unfold dropL
  rw [List.filter_eq_self]
  exact fun x hx => decide_eq_true (h x hx)
theorem drop_ok {l : List It} (h : BOk l) (s : ByteArray) : BOk (dropL l s) :=
  bok_of (fun i hi => h.1 i (List.mem_filter.1 hi).1) (h.srt.filter _) (Nat.le_trans (List.length_filter_le _ _) h.2.2)
theorem drop_stays {l : List It} {s : ByteArray} {x : It} (hx : x ∈ l) (hn : x.N ≠ s) : x ∈ dropL l s := List.mem_filter.2 ⟨hx, decide_eq_true hn⟩

/-- what FnBooks says of a right command on a right book -/
structure Did (a : Bk) (c : Cm) (r : Bk × Rp) : Prop where
  ok : StOk r.1
  rk : POk r.2
  stay : c.V ≠ 13 → ∀ y ∈ a.I, y.N ≠ c.N → y ∈ r.1.I
  new : r.2.K = 1 ∨ r.2.K = 6 → ∃ y ∈ r.1.I, y.N = c.N ∧ y.C = a.X
  same : r.2.K ≠ 1 → r.2.K ≠ 6 → c.V = 11 ∨ c.V = 12 ∨ c.V = 13 ∨ r.1 = a
theorem did_same {a : Bk} {c : Cm} (h : StOk a) {r : Rp} (hr : POk r) (h1 : r.K ≠ 1) (h6 : r.K ≠ 6) : Did a c (a, r) :=
  ⟨h, hr, fun _ y hy _ => hy, fun q => by rcases q with q | q; exact absurd q h1; exact absurd q h6, fun _ _ => .inr (.inr (.inr rfl))⟩
theorem did_keep {a : Bk} {c : Cm} (h : StOk a) {i : It} (hi : i.N = c.N) : Did a c (keepK a i) := by
  unfold keepK
  split
  · rename_i hs
    obtain ⟨s1, s2, s3⟩ := stamp_ok h hs
    exact ⟨s1, rp_ok (by decide) (by decide) (by decide) (by decide), fun _ y hy hn => s3 y hy (by rw [hi]; exact hn), fun _ => ⟨_, s2, hi, rfl⟩, fun q _ => absurd rfl q⟩
  · exact did_same h (rp_ok (by decide) (by decide) (by decide) (by decide)) (by decide) (by decide)
theorem did_big {a : Bk} {c : Cm} (h : StOk a) {i : It} (hi : i.N = c.N) : Did a c (keepBig a i) := by
  unfold keepBig
  split
  · exact did_same h (rp_ok (by decide) (by decide) (by decide) (by decide)) (by decide) (by decide)
  · exact did_keep h hi
theorem up_le {c : Cm} {n : Nat} (h : n ≤ 999999999) : upN c n ≤ 999999999 := by
  unfold upN
  split
  · have := Nat.mod_lt (n + c.D.toNat) (show 0 < 1000000000 by decide)
    omega
  · omega
theorem numB_some {s : ByteArray} {n : Nat} (h : numB s = some n) : canon (bs s) = true ∧ val 0 (bs s) = n ∧ n ≤ 999999999 := by
  unfold numB at h
  split at h
  · rename_i hc
    have := Option.some.inj h
    exact ⟨hc, this, by rw [← this]; exact val_canon hc⟩
  · cases h
/-- a number in the place of a thing's bytes is always stamped -/
theorem stamp_num {a : Bk} (h : StOk a) {o : It} (ho : o ∈ a.I) {m : Nat} (hm : m ≤ 999999999) : stampOk a (withB o (digs m)) = true := by
  have hk := itemB_iff.1 (h.bk.1 o ho)
  have hl : (digs m).length ≤ 9 := digs_len 8 m (by omega)
  have hp := (put_len h.bk.srt (stampI a (withB o (digs m)))).2 ⟨o, ho, rfl⟩
  have h20 := h.bk.2.2
  unfold stampOk
  rw [hp]
  simp only [Bool.and_eq_true, decide_eq_true_eq]
  refine ⟨itemB_iff.2 ⟨hk.nm, hk.f0, hk.f1, ?_, h.x0, h.x1, hk.u0, hk.u1⟩, by omega⟩
  show (tx (digs m)).size ≤ 64
  rw [tx_size]
  omega
theorem do_none {a : Bk} {c : Cm} (h : StOk a) : Did a c (if c.V = 4 then keepK a (fresh c) else if c.V = 5 ∨ c.V = 6 ∨ c.V = 7 then (a, rp 2) else (a, rp 4)) := by
  by_cases h4 : c.V = 4
  · rw [if_pos h4]
    exact did_keep h rfl
  · rw [if_neg h4]
    by_cases h5 : c.V = 5 ∨ c.V = 6 ∨ c.V = 7
    · rw [if_pos h5]
      exact did_same h (rp_ok (by decide) (by decide) (by decide) (by decide)) (by decide) (by decide)
    · rw [if_neg h5]
      exact did_same h (rp_ok (by decide) (by decide) (by decide) (by decide)) (by decide) (by decide)
theorem do_up {a : Bk} {c : Cm} (h : StOk a) {o : It} (ho : o ∈ a.I) (hn : o.N = c.N) : Did a c (match numB o.B with
      | none => (a, rp 11)
      | some n => ((if stampOk a (withB o (digs (upN c n))) = true then stampR a (withB o (digs (upN c n))) else a), ⟨6, emp, 0, emp, 0, (upN c n : Int)⟩)) := by
  cases hnum : numB o.B with
  | none => exact did_same h (rp_ok (by decide) (by decide) (by decide) (by decide)) (by decide) (by decide)
  | some n =>
    obtain ⟨-, -, hle⟩ := numB_some hnum
    have hu := up_le (c := c) hle
    have hs := stamp_num h ho hu
    obtain ⟨s1, s2, s3⟩ := stamp_ok h hs
    dsimp only
    rw [if_pos hs]
    refine ⟨s1, ⟨by show (1 : Int) ≤ 6; decide, by show (6 : Int) ≤ 12; decide, fun q => absurd q (by show ¬ ((6 : Int) = 5); decide), fun _ => rfl, fun q => absurd q (by show ¬ ((6 : Int) = 5); decide), fun _ => rfl, by show emp.size ≤ 64; decide, fun _ => rfl, fun q => absurd q (by show ¬ ((6 : Int) = 5); decide), fun _ => rfl, fun _ => ?_, fun q => absurd rfl q⟩, fun _ y hy hn2 => s3 y hy (by show y.N ≠ o.N; rw [hn]; exact hn2), fun _ => ⟨_, s2, hn, rfl⟩, fun _ q => absurd rfl q⟩
    show (0 : Int) ≤ (upN c n : Int) ∧ (upN c n : Int) ≤ 999999999
    omega
theorem no16 {r : Rp} {P : Prop} (h1 : r.K ≠ 1) (h6 : r.K ≠ 6) : r.K = 1 ∨ r.K = 6 → P := fun q => by
  rcases q with q | q
  · exact absurd q h1
  · exact absurd q h6
theorem do_did {a : Bk} {c : Cm} (h : StOk a) (hc : COk c) : Did a c (doK a c) := by
  unfold doK
  by_cases h13 : c.V = 13
  · rw [if_pos h13]
    exact ⟨⟨⟨by simp, by simp, by simp⟩, h.x0, h.x1⟩, rp_ok (by decide) (by decide) (by decide) (by decide), fun q => absurd h13 q, no16 (r := rp 9) (by decide) (by decide), fun _ _ => .inr (.inr (.inl h13))⟩
  rw [if_neg h13]
  by_cases h3 : c.V = 3
  · rw [if_pos h3]
    exact did_keep h rfl
  rw [if_neg h3]
  cases e : lookI a.I c.N with
  | none => exact do_none h
  | some o =>
    obtain ⟨ho, hn, -⟩ := look_some e
    have hk := itemB_iff.1 (h.bk.1 o ho)
    dsimp only
    by_cases h4 : c.V = 4
    · rw [if_pos h4]
      exact did_same h (rp_ok (by decide) (by decide) (by decide) (by decide)) (by decide) (by decide)
    rw [if_neg h4]
    by_cases h5 : c.V = 5
    · rw [if_pos h5]
      exact did_big h rfl
    rw [if_neg h5]
    by_cases h6 : c.V = 6
    · rw [if_pos h6]
      exact did_big h hn
    rw [if_neg h6]
    by_cases h7 : c.V = 7
    · rw [if_pos h7]
      exact did_big h hn
    rw [if_neg h7]
    by_cases h12 : c.V = 1 ∨ c.V = 2
    · rw [if_pos h12]
      refine did_same h ⟨by show (1 : Int) ≤ 5; decide, by show (5 : Int) ≤ 12; decide, fun _ => hk.nm, fun q => absurd rfl q, fun _ => ⟨hk.f0, hk.f1⟩, fun q => absurd rfl q, hk.b1, fun q => absurd rfl q, fun _ => ?_, fun q => absurd rfl q, fun q => absurd q (by show ¬ ((5 : Int) = 6); decide), fun _ => rfl⟩ (by show (5 : Int) ≠ 1; decide) (by show (5 : Int) ≠ 6; decide)
      have q1 := hk.c0
      have q2 := hk.c1
      show (0 : Int) ≤ (if c.V = 2 then o.C else 0) ∧ (if c.V = 2 then o.C else 0) ≤ 1000000
      by_cases h2 : c.V = 2
      · rw [if_pos h2]
        omega
      · rw [if_neg h2]
        omega
    rw [if_neg h12]
    by_cases h8 : c.V = 8
    · rw [if_pos h8]
      by_cases hx : o.C = c.C
      · rw [if_pos hx]
        exact did_keep h rfl
      · rw [if_neg hx]
        exact did_same h (rp_ok (by decide) (by decide) (by decide) (by decide)) (by decide) (by decide)
    rw [if_neg h8]
    by_cases h11 : c.V = 11
    · rw [if_pos h11]
      exact ⟨⟨touch_ok h.bk _ hc.u1.1 hc.u1.2, h.x0, h.x1⟩, rp_ok (by decide) (by decide) (by decide) (by decide), fun _ y hy hn => touch_stays hy hn, no16 (r := rp 7) (by decide) (by decide), fun _ _ => .inl h11⟩
    rw [if_neg h11]
    by_cases hcut : c.V = 12
    · rw [if_pos hcut]
      exact ⟨⟨drop_ok h.bk _, h.x0, h.x1⟩, rp_ok (by decide) (by decide) (by decide) (by decide), fun _ y hy hn => drop_stays hy hn, no16 (r := rp 8) (by decide) (by decide), fun _ _ => .inr (.inl hcut)⟩
    rw [if_neg hcut]
    exact do_up h ho hn

/-! ### FnCas -/
/-- what is stored is told with its stamp -/
theorem gets_told {x : Bk} (h : StOk x) {y : It} (hy : y ∈ x.I) (c : Cm) (hv : c.V = 2) (hn : c.N = y.N) : doK x c = (x, ⟨5, y.N, y.F, y.B, y.C, 0⟩) := by
  unfold doK
  rw [hn, look_mem h.bk.srt hy]
  simp [hv]
theorem cas_stores {x : Bk} (h : StOk x) {y : It} (hy : y ∈ x.I) (c : Cm) (hc : COk c) (hv : c.V = 8) (hn : c.N = y.N) (hx : y.C = c.C) : doK x c = (stampR x (fresh c), rp 1) := by
  have hs : stampOk x (fresh c) = true := by
    have hp := (put_len h.bk.srt (stampI x (fresh c))).2 ⟨y, hy, hn.symm⟩
    have h20 := h.bk.2.2
    unfold stampOk
    rw [hp]
    simp only [Bool.and_eq_true, decide_eq_true_eq]
    exact ⟨itemB_iff.2 ⟨hc.nm (by omega), hc.f1.1, hc.f1.2, hc.b1, h.x0, h.x1, hc.u1.1, hc.u1.2⟩, by omega⟩
  unfold doK
  rw [hn, look_mem h.bk.srt hy]
  simp [hv, hx, keepK, hs]
theorem cas_exists {x : Bk} (h : StOk x) {y : It} (hy : y ∈ x.I) (c : Cm) (hv : c.V = 8) (hn : c.N = y.N) (hx : y.C ≠ c.C) : doK x c = (x, rp 3) := by
  unfold doK
  rw [hn, look_mem h.bk.srt hy]
  simp [hv, hx]
end Go.Proofs.YtldflfmglpojlaaDoor.rg
