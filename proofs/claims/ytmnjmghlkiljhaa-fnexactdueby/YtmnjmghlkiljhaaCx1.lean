/- Mathematics of commands, no Go in sight: right ones, how they are shown, how a line is read. -/
import Derived.Test.YtmnjmghlkiljhaaCx0
namespace Go.Proofs.Ytmnjmghlkiljhaa.cm
open Go.RowKit
open Go.Proofs.Ytmnjmghlkiljhaa.rg (nameB nbB nameB_size)
set_option linter.unusedVariables false

/-- a command -/
structure Cm where
  V : Int
  N : ByteArray
  F : Int
  U : Int
  B : ByteArray
  C : Int
  D : Int
  Q : Bool
def emp : ByteArray := ⟨#[]⟩
def Cm.zero : Cm := ⟨0, emp, 0, 0, emp, 0, 0, false⟩
def sized (v : Int) : Bool := decide (3 ≤ v) && decide (v ≤ 8)
def full (v : Int) : Bool := (decide (3 ≤ v) && decide (v ≤ 5)) || decide (v = 8)
def stepV (v : Int) : Bool := decide (v = 9) || decide (v = 10)
/-- a right one -/
structure COk (c : Cm) : Prop where
  v0 : 1 ≤ c.V
  v1 : c.V ≤ 13
  q : c.Q = true → 3 ≤ c.V
  n0 : c.V = 13 → c.N = emp
  nm : c.V ≠ 13 → nameB c.N = true
  f : full c.V = false → c.F = 0
  u : full c.V = false → c.V ≠ 11 → c.U = 0
  b : sized c.V = false → c.B = emp
  c8 : c.V ≠ 8 → c.C = 0
  d : stepV c.V = false → c.D = 0
  c1 : c.V = 8 → 1 ≤ c.C ∧ c.C ≤ 1000000
  f1 : 0 ≤ c.F ∧ c.F ≤ 65535
  u1 : 0 ≤ c.U ∧ c.U ≤ 1000000
  b1 : c.B.size ≤ 64
  d1 : 0 ≤ c.D ∧ c.D ≤ 1000000
open Classical in
noncomputable def cmdB (c : Cm) : Bool := decide (COk c)
open Classical in
theorem cmdB_iff {c : Cm} : cmdB c = true ↔ COk c := by unfold cmdB; exact decide_eq_true_iff

/-! ### how it is shown -/
def verbs : List (List UInt8) := [[103, 101, 116], [103, 101, 116, 115], [115, 101, 116], [97, 100, 100], [114, 101, 112, 108, 97, 99, 101], [116, 97, 105, 108], [104, 101, 97, 100], [99, 97, 115], [117, 112], [100, 111, 119, 110], [116, 111, 117, 99, 104], [99, 117, 116], [99, 108, 101, 97, 114]]
def quiet : List UInt8 := [113, 117, 105, 101, 116]
def vw (v : Int) : List UInt8 := (verbs[(v - 1).toNat]?).getD []
def bs (s : ByteArray) : List UInt8 := s.data.toList
def tx (l : List UInt8) : ByteArray := ⟨l.toArray⟩
theorem bs_tx (l : List UInt8) : bs (tx l) = l := by simp [bs, tx]
theorem tx_bs (s : ByteArray) : tx (bs s) = s := by cases s; simp [bs, tx]
theorem bs_len (s : ByteArray) : (bs s).length = s.size := by cases s; simp [bs, ByteArray.size]
theorem tx_size (l : List UInt8) : (tx l).size = l.length := by simp [tx, ByteArray.size]
theorem bs_emp : bs emp = [] := rfl
theorem tx_nil : tx [] = emp := rfl
/-- the numbers of a command, k bytes behind it -/
def numsK (c : Cm) (k : Nat) : List Nat :=
  (if full c.V then [c.F.toNat, c.U.toNat] else []) ++ (if sized c.V then [k] else if c.V = 11 then [c.U.toNat] else if stepV c.V then [c.D.toNat] else []) ++ (if c.V = 8 then [c.C.toNat] else [])
def wordsK (c : Cm) (k : Nat) : List (List UInt8) :=
  vw c.V :: (if c.V = 13 then [] else [bs c.N]) ++ (numsK c k).map digs ++ (if c.Q then [quiet] else [])
def lineK (c : Cm) (k : Nat) : List UInt8 := wordsL (wordsK c k)
def showL (c : Cm) : List UInt8 := lineK c c.B.size ++ 10 :: (if sized c.V then bs c.B ++ [10] else [])

/-! ### how a line is read -/
def quietB (v : Int) (w : List (List UInt8)) : Bool := decide (1 < w.length) && (w.getLast? == some quiet) && decide (2 < v) && (decide (2 < w.length) || decide (v = 13))
def want (v : Int) : Nat := (if full v then 2 else 0) + (if sized v || decide (v = 11) || stepV v then 1 else 0) + (if v = 8 then 1 else 0)
def nth (n : List Nat) (i : Nat) : Int := ((n[i]?).getD 0 : Nat)
def build (v : Int) (q : Bool) (nm : ByteArray) (n : List Nat) : Cm :=
  if full v then ⟨v, nm, nth n 0, nth n 1, emp, if v = 8 then nth n 3 else 0, 0, q⟩
  else if sized v then ⟨v, nm, 0, 0, emp, 0, 0, q⟩
  else if v = 11 then ⟨v, nm, 0, nth n 0, emp, 0, 0, q⟩
  else if stepV v then ⟨v, nm, 0, 0, emp, 0, nth n 0, q⟩
  else ⟨v, nm, 0, 0, emp, 0, 0, q⟩
def sizeN (v : Int) (n : List Nat) : Nat := if full v then (n[2]?).getD 0 else if sized v then (n[0]?).getD 0 else 0
/-- the words but for the last quiet -/
def plainW (v : Int) (w : List (List UInt8)) : List (List UInt8) := if quietB v w then w.dropLast else w
def nameW (v : Int) (u : List (List UInt8)) : ByteArray := if v = 13 then emp else tx ((u[1]?).getD [])
def restW (v : Int) (u : List (List UInt8)) : List (List UInt8) := u.drop (if v = 13 then 1 else 2)
open Classical in
noncomputable def lineL (v : Int) (w : List (List UInt8)) : Option (Cm × Nat) :=
  if (v ≠ 13 ∧ (plainW v w).length < 2) ∨ ¬ (∀ x ∈ restW v (plainW v w), canon x = true) ∨ (restW v (plainW v w)).length ≠ want v then none
  else if sizeN v ((restW v (plainW v w)).map (val 0)) ≤ 64 ∧ COk (build v (quietB v w) (nameW v (plainW v w)) ((restW v (plainW v w)).map (val 0))) then
    some (build v (quietB v w) (nameW v (plainW v w)) ((restW v (plainW v w)).map (val 0)), sizeN v ((restW v (plainW v w)).map (val 0)))
  else none

theorem verb_cases {v : Int} (h0 : 1 ≤ v) (h1 : v ≤ 13) : v = 1 ∨ v = 2 ∨ v = 3 ∨ v = 4 ∨ v = 5 ∨ v = 6 ∨ v = 7 ∨ v = 8 ∨ v = 9 ∨ v = 10 ∨ v = 11 ∨ v = 12 ∨ v = 13 := by omega
theorem digs_quiet (n : Nat) : digs n ≠ quiet := fun e => by
  have h := digs_all n
  rw [e] at h
  have := h 113 (by simp [quiet])
  exact absurd this (by decide)
theorem map_val (l : List Nat) : (l.map digs).map (val 0) = l := by
  rw [List.map_map]
  have : (val 0 ∘ digs) = id := by funext n; exact val_digs n
  rw [this, List.map_id]
theorem map_digs {l : List (List UInt8)} (h : ∀ x ∈ l, canon x = true) : (l.map (val 0)).map digs = l := by
  rw [List.map_map]
  exact (List.map_congr_left (fun x hx => digs_canon (h x hx))).trans (List.map_id' l)
theorem len_key (a b s : Bool) (p r : Prop) [Decidable p] [Decidable r] (x1 x2 x3 x4 x5 x6 : Nat) :
    ((if a then [x1, x2] else []) ++ (if b then [x3] else if p then [x4] else if s then [x5] else []) ++ (if r then [x6] else [])).length = (if a then 2 else 0) + (if b || decide p || s then 1 else 0) + (if r then 1 else 0) := by
  by_cases hp : p <;> by_cases hr : r <;> cases a <;> cases b <;> cases s <;> simp [hp, hr]
theorem want_len (c : Cm) (k : Nat) : (numsK c k).length = want c.V := by
  unfold numsK want
  exact len_key _ _ _ _ _ _ _ _ _ _ _
theorem nums_small {c : Cm} (h : COk c) {k : Nat} (hk : k ≤ 64) : ∀ n ∈ numsK c k, n ≤ 1000000 := by
  have h1 := h.f1
  have h2 := h.u1
  have h3 := h.d1
  have h4 := h.c1
  intro n hn
  unfold numsK at hn
  rcases List.mem_append.1 hn with hn | hn
  · rcases List.mem_append.1 hn with hn | hn
    · split at hn
      · simp at hn
        omega
      · simp at hn
    · split at hn
      · simp at hn
        omega
      · split at hn
        · simp at hn
          omega
        · split at hn
          · simp at hn
            omega
          · simp at hn
  · split at hn
    · rename_i e
      have := h4 e
      simp at hn
      omega
    · simp at hn
/-- the words without the last quiet -/
def coreK (c : Cm) (k : Nat) : List (List UInt8) := vw c.V :: (if c.V = 13 then [] else [bs c.N]) ++ (numsK c k).map digs
theorem words_core (c : Cm) (k : Nat) : wordsK c k = coreK c k ++ (if c.Q then [quiet] else []) := rfl
theorem core_len (c : Cm) (k : Nat) : (coreK c k).length = 1 + (if c.V = 13 then 0 else 1) + want c.V := by
  unfold coreK
  rw [List.length_append, List.length_map, want_len]
  split <;> simp
theorem want_pos {v : Int} (h : want v = 0) (h0 : 3 ≤ v) (h1 : v ≤ 13) : v = 12 ∨ v = 13 := by
  unfold want sized stepV full at h
  have hc : v = 3 ∨ v = 4 ∨ v = 5 ∨ v = 6 ∨ v = 7 ∨ v = 8 ∨ v = 9 ∨ v = 10 ∨ v = 11 ∨ v = 12 ∨ v = 13 := by omega
  rcases hc with rfl | rfl | rfl | rfl | rfl | rfl | rfl | rfl | rfl | rfl | rfl <;> simp at h ⊢
theorem quiet_show {c : Cm} (h : COk c) (k : Nat) : quietB c.V (wordsK c k) = c.Q := by
  have hv0 := h.v0
  have hv1 := h.v1
  cases hq : c.Q with
  | true =>
    have h3 := h.q hq
    have e : wordsK c k = coreK c k ++ [quiet] := by rw [words_core, hq]; rfl
    have hl := core_len c k
    unfold quietB
    rw [e, List.length_append, List.length_singleton, List.getLast?_append, hl]
    by_cases h13 : c.V = 13
    · simp [h13]
      omega
    · simp [h13]
      omega
  | false =>
    have e : wordsK c k = coreK c k := by rw [words_core, hq]; simp
    have hl := core_len c k
    rw [e]
    by_cases h3 : 3 ≤ c.V
    · by_cases hw : want c.V = 0
      · have := want_pos hw h3 hv1
        unfold quietB
        rw [hl, hw]
        by_cases h13 : c.V = 13
        · simp [h13]
        · simp [h13]
      · have hne : numsK c k ≠ [] := fun e => hw (by rw [← want_len c k, e]; rfl)
        have hlast : (coreK c k).getLast? = some (digs ((numsK c k).getLast hne)) := by
          unfold coreK
          rw [List.getLast?_append, List.getLast?_map, List.getLast?_eq_some_getLast hne]
          rfl
        unfold quietB
        rw [hlast]
        have : (some (digs ((numsK c k).getLast hne)) == some quiet) = false := by
          simp only [beq_eq_false_iff_ne, ne_eq, Option.some.injEq]
          exact digs_quiet _
        rw [this]
        simp
    · unfold quietB
      rw [decide_eq_false (show ¬ 2 < c.V by omega)]
      simp
theorem plain_show {c : Cm} (h : COk c) (k : Nat) : plainW c.V (wordsK c k) = coreK c k := by
  unfold plainW
  rw [quiet_show h, words_core]
  cases c.Q <;> simp
theorem rest_core (c : Cm) (k : Nat) : restW c.V (coreK c k) = (numsK c k).map digs := by
  unfold restW coreK
  by_cases h : c.V = 13 <;> simp [h]
theorem name_core {c : Cm} (h : COk c) (k : Nat) : nameW c.V (coreK c k) = c.N := by
  unfold nameW coreK
  by_cases h13 : c.V = 13
  · rw [if_pos h13, h.n0 h13]
  · simp [h13, tx_bs]
/-- the command without its bytes -/
def bare (c : Cm) : Cm := ⟨c.V, c.N, c.F, c.U, emp, c.C, c.D, c.Q⟩
theorem bare_ok {c : Cm} (h : COk c) : COk (bare c) := ⟨h.v0, h.v1, h.q, h.n0, h.nm, h.f, h.u, fun _ => rfl, h.c8, h.d, h.c1, h.f1, h.u1, by show emp.size ≤ 64; decide, h.d1⟩
theorem build_show {c : Cm} (h : COk c) (k : Nat) : build c.V c.Q c.N (numsK c k) = bare c := by
  have hf := h.f
  have hu := h.u
  have hc8 := h.c8
  have hd := h.d
  have f1 := h.f1
  have u1 := h.u1
  have d1 := h.d1
  have c1 := h.c1
  have e : ∀ x : Int, 0 ≤ x → ((x.toNat : Nat) : Int) = x := fun x hx => by omega
  unfold build bare numsK
  cases hfull : full c.V with
  | true =>
    have hs : sized c.V = true := by
      unfold full at hfull
      unfold sized
      simp at hfull ⊢
      omega
    have hd0 : c.D = 0 := hd (by unfold full at hfull; unfold stepV; simp at hfull ⊢; omega)
    by_cases h8 : c.V = 8
    · have e8 : sized 8 = true := rfl
      simp [e8, h8, nth, e c.F f1.1, e c.U u1.1, e c.C (by have := c1 h8; omega), hd0]
    · simp [hs, h8, nth, e c.F f1.1, e c.U u1.1, hd0, hc8 h8]
  | false =>
    have hF := hf hfull
    have h8 : c.V ≠ 8 := fun e => by rw [e] at hfull; simp [full] at hfull
    cases hs : sized c.V with
    | true =>
      have h11 : c.V ≠ 11 := fun e => by rw [e] at hs; simp [sized] at hs
      have hd0 : c.D = 0 := hd (by unfold sized at hs; unfold stepV; simp at hs ⊢; omega)
      simp [hF, hu hfull h11, hc8 h8, hd0]
    | false =>
      by_cases h11 : c.V = 11
      · have hd0 : c.D = 0 := hd (by rw [h11]; rfl)
        simp [h11, nth, e c.U u1.1, hF, hc8 h8, hd0]
      · cases hst : stepV c.V with
        | true => simp [h11, nth, e c.D d1.1, hF, hc8 h8, hu hfull h11]
        | false => simp [h11, hF, hc8 h8, hu hfull h11, hd hst]
theorem size_show {c : Cm} (h : COk c) (k : Nat) (hk : sized c.V = false → k = 0) : sizeN c.V (numsK c k) = k := by
  unfold sizeN numsK
  cases hfull : full c.V with
  | true =>
    have hs : sized c.V = true := by
      unfold full at hfull
      unfold sized
      simp at hfull ⊢
      omega
    simp [hs]
  | false =>
    cases hs : sized c.V with
    | true => simp
    | false => simp [hk hs]
/-- a line is read from what it is shown as -/
theorem line_show {c : Cm} (h : COk c) : lineL c.V (wordsK c c.B.size) = some (bare c, c.B.size) := by
  have hb := h.b1
  have hk : sized c.V = false → c.B.size = 0 := fun e => by rw [h.b e]; rfl
  have hr : restW c.V (plainW c.V (wordsK c c.B.size)) = (numsK c c.B.size).map digs := by rw [plain_show h, rest_core]
  unfold lineL
  rw [hr, plain_show h, quiet_show h, name_core h, map_val, build_show h, size_show h _ hk, core_len, if_neg, if_pos ⟨hb, bare_ok h⟩]
  rintro (⟨h1, h2⟩ | h1 | h1)
  · rw [if_neg h1] at h2
    omega
  · refine h1 fun x hx => ?_
    obtain ⟨n, hn, rfl⟩ := List.mem_map.1 hx
    exact canon_digs (by have := nums_small h hb n hn; omega)
  · rw [List.length_map, want_len] at h1
    exact h1 rfl
end Go.Proofs.Ytmnjmghlkiljhaa.cm
