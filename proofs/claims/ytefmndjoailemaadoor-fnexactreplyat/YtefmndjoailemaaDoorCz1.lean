/- Mathematics of chapter 11: how the program reads a line word by word, and that it reads what the model reads. No Go in sight. -/
import Derived.Test.YtefmndjoailemaaDoorCz0
namespace Go.Proofs.YtefmndjoailemaaDoor.cm
open Go.RowKit
open Go.Proofs.YtefmndjoailemaaDoor.rg (nameB nbB nameB_size)
set_option linter.unusedVariables false

/-- what is told of a verb: name, flags, until, bytes, cas, delta, quiet -/
def pN (v : Int) : Bool := decide (v ≠ 13)
def pU (v : Int) : Bool := full v || decide (v = 11)
def pC (v : Int) : Bool := decide (v = 8)
def pQ (v : Int) : Bool := decide (v ≠ 1) && decide (v ≠ 2)
/-- the reader: the words that are left; is something wrong? -/
structure Rs where
  l : List (List UInt8)
  x : Bool
def wordF (s : Rs) : List UInt8 × Rs := match s.l with
  | [] => ([], ⟨[], true⟩)
  | a :: r => (a, ⟨r, s.x⟩)
def nameF (t : Bool) (s : Rs) : List UInt8 × Rs := if t then wordF s else ([], s)
def numF (t : Bool) (s : Rs) : Int × Rs := if t then ((rdF (wordF s).1).1, ⟨(wordF s).2.l, (wordF s).2.x || !(rdF (wordF s).1).2⟩) else (0, s)
def quietF (t : Bool) (s : Rs) : Bool × Rs := if t then (match s.l with
  | [] => (false, s)
  | a :: r => (true, ⟨r, s.x || !(a == quiet)⟩)) else (false, s)
theorem nameF_ok {t : Bool} {s : Rs} (h : (nameF t s).2.x = false) : s.x = false ∧ s.l = (if t then [(nameF t s).1] else []) ++ (nameF t s).2.l := by
  obtain ⟨l, x⟩ := s
  cases t with
  | false => exact ⟨h, rfl⟩
  | true =>
    cases l with
    | nil => simp [nameF, wordF] at h
    | cons a r => exact ⟨h, rfl⟩
theorem numF_ok {t : Bool} {s : Rs} (h : (numF t s).2.x = false) (h0 : 0 ≤ (numF t s).1) : s.x = false ∧ s.l = (if t then [digs (numF t s).1.toNat] else []) ++ (numF t s).2.l := by
  obtain ⟨l, x⟩ := s
  cases t with
  | false => exact ⟨h, rfl⟩
  | true =>
    cases l with
    | nil => simp [numF, wordF] at h
    | cons a r =>
      simp only [numF, wordF, if_true, Bool.or_eq_false_iff, Bool.not_eq_false'] at h h0
      have hc := rdF_nat h.2 h0
      refine ⟨h.1, ?_⟩
      simp only [numF, wordF, if_true, rdF_yes hc, Int.toNat_natCast, digs_canon hc]
      rfl
theorem numF_off {s : Rs} : numF false s = (0, s) := rfl
theorem quietF_ok {t : Bool} {s : Rs} (h : (quietF t s).2.x = false) (hl : (quietF t s).2.l = []) : s.x = false ∧ s.l = if (quietF t s).1 then [quiet] else [] := by
  obtain ⟨l, x⟩ := s
  cases t with
  | false => exact ⟨h, hl⟩
  | true =>
    cases l with
    | nil => exact ⟨h, rfl⟩
    | cons a r =>
      simp only [quietF, if_true, Bool.or_eq_false_iff, Bool.not_eq_false', beq_iff_eq] at h hl ⊢
      rw [hl, h.2]
      exact ⟨h.1, rfl⟩
theorem quietF_told {t : Bool} {s : Rs} (h : (quietF t s).1 = true) : t = true := by
  cases t with
  | false => exact h
  | true => rfl
/-- what is read, step by step -/
def hA (v : Int) (ws : List (List UInt8)) := nameF (pN v) ⟨ws, false⟩
def hF (v : Int) (ws : List (List UInt8)) := numF (full v) (hA v ws).2
def hU (v : Int) (ws : List (List UInt8)) := numF (pU v) (hF v ws).2
def hS (v : Int) (ws : List (List UInt8)) := numF (sized v) (hU v ws).2
def hC (v : Int) (ws : List (List UInt8)) := numF (pC v) (hS v ws).2
def hD (v : Int) (ws : List (List UInt8)) := numF (stepV v) (hC v ws).2
def hQ (v : Int) (ws : List (List UInt8)) := quietF (pQ v) (hD v ws).2
def headC (v : Int) (ws : List (List UInt8)) : Cm := ⟨v, tx (hA v ws).1, (hF v ws).1, (hU v ws).1, emp, (hC v ws).1, (hD v ws).1, (hQ v ws).1⟩
noncomputable def headOk (v : Int) (ws : List (List UInt8)) : Bool := (!(hQ v ws).2.x && (hQ v ws).2.l.isEmpty) && cmdB (headC v ws) && (decide (0 ≤ (hS v ws).1) && decide ((hS v ws).1 ≤ 64))
theorem headOk_iff {v : Int} {ws : List (List UInt8)} : headOk v ws = true ↔ (hQ v ws).2.x = false ∧ (hQ v ws).2.l = [] ∧ COk (headC v ws) ∧ 0 ≤ (hS v ws).1 ∧ (hS v ws).1 ≤ 64 := by
  unfold headOk
  simp only [Bool.and_eq_true, Bool.not_eq_true', List.isEmpty_iff, cmdB_iff, decide_eq_true_eq, and_assoc]
theorem words_key {v : Int} (h0 : 1 ≤ v) (h1 : v ≤ 13) (a : List UInt8) (f u s c d : Nat) (q : List (List UInt8)) (hs : sized v = false → s = 0) :
    (if pN v then [a] else []) ++ ((if full v then [digs f] else []) ++ ((if pU v then [digs u] else []) ++ ((if sized v then [digs s] else []) ++ ((if pC v then [digs c] else []) ++ ((if stepV v then [digs d] else []) ++ q))))) =
    (if v = 13 then [] else [a]) ++ (((if full v then [f, u] else []) ++ (if sized v then [s] else if v = 11 then [u] else if stepV v then [d] else []) ++ (if v = 8 then [c] else [])).map digs) ++ q := by
  rcases verb_cases h0 h1 with rfl | rfl | rfl | rfl | rfl | rfl | rfl | rfl | rfl | rfl | rfl | rfl | rfl <;> simp [pN, pU, pC, full, sized, stepV]
/-- what the program reads as right is what the words show -/
theorem head_ws {v : Int} (h0 : 1 ≤ v) (h1 : v ≤ 13) {ws : List (List UInt8)} (h : headOk v ws = true) : wordsK (headC v ws) (hS v ws).1.toNat = vw v :: ws := by
  obtain ⟨q1, q2, ok, s0, s1⟩ := headOk_iff.1 h
  have f0 : 0 ≤ (hF v ws).1 := ok.f1.1
  have u0 : 0 ≤ (hU v ws).1 := ok.u1.1
  have d0 : 0 ≤ (hD v ws).1 := ok.d1.1
  have c0 : 0 ≤ (hC v ws).1 := by
    by_cases e : v = 8
    · have := (ok.c1 e).1
      show 0 ≤ (headC v ws).C
      omega
    · show 0 ≤ (headC v ws).C
      rw [ok.c8 e]
      exact Int.le_refl _
  obtain ⟨a7, b7⟩ := quietF_ok (t := pQ v) (s := (hD v ws).2) q1 q2
  obtain ⟨a6, b6⟩ := numF_ok (t := stepV v) (s := (hC v ws).2) a7 d0
  obtain ⟨a5, b5⟩ := numF_ok (t := pC v) (s := (hS v ws).2) a6 c0
  obtain ⟨a4, b4⟩ := numF_ok (t := sized v) (s := (hU v ws).2) a5 s0
  obtain ⟨a3, b3⟩ := numF_ok (t := pU v) (s := (hF v ws).2) a4 u0
  obtain ⟨a2, b2⟩ := numF_ok (t := full v) (s := (hA v ws).2) a3 f0
  obtain ⟨a1, b1⟩ := nameF_ok (t := pN v) (s := ⟨ws, false⟩) a2
  have hw : ws = (if pN v then [(hA v ws).1] else []) ++ ((if full v then [digs (hF v ws).1.toNat] else []) ++ ((if pU v then [digs (hU v ws).1.toNat] else []) ++ ((if sized v then [digs (hS v ws).1.toNat] else []) ++ ((if pC v then [digs (hC v ws).1.toNat] else []) ++ ((if stepV v then [digs (hD v ws).1.toNat] else []) ++ (if (hQ v ws).1 then [quiet] else [])))))) := by
    have e6 : (hC v ws).2.l = (if stepV v then [digs (hD v ws).1.toNat] else []) ++ (if (hQ v ws).1 then [quiet] else []) := b6.trans (congrArg _ b7)
    have e5 := b5.trans (congrArg _ e6)
    have e4 := b4.trans (congrArg _ e5)
    have e3 := b3.trans (congrArg _ e4)
    have e2 := b2.trans (congrArg _ e3)
    exact b1.trans (congrArg _ e2)
  have hs : sized v = false → (hS v ws).1.toNat = 0 := fun e => by
    unfold hS
    rw [e]
    rfl
  have key := words_key h0 h1 (hA v ws).1 (hF v ws).1.toNat (hU v ws).1.toNat (hS v ws).1.toNat (hC v ws).1.toNat (hD v ws).1.toNat (if (hQ v ws).1 then [quiet] else []) hs
  rw [key] at hw
  unfold wordsK numsK
  show vw v :: (if v = 13 then [] else [bs (tx (hA v ws).1)]) ++ _ ++ _ = _
  rw [bs_tx, List.cons_append, List.cons_append]
  exact congrArg (vw v :: ·) hw.symm
theorem numF_digs {n : Nat} (h : n ≤ 1000000) (r : List (List UInt8)) : numF true ⟨digs n :: r, false⟩ = ((n : Int), ⟨r, false⟩) := by
  have hc : canon (digs n) = true := canon_digs (by omega)
  simp only [numF, wordF, if_true, rdF_yes hc, val_digs]
  rfl
/-- a word's line that is shown is read as it is shown -/
theorem head_show {c : Cm} (ok : COk c) (hb : c.B = emp) {k : Nat} (hk : k ≤ 64) (hs : sized c.V = false → k = 0) {ws : List (List UInt8)} (hw : wordsK c k = vw c.V :: ws) : headC c.V ws = c ∧ (hS c.V ws).1 = k ∧ (hQ c.V ws).2.x = false ∧ (hQ c.V ws).2.l = [] := by
  have hws : ws = (if c.V = 13 then [] else [bs c.N]) ++ (numsK c k).map digs ++ (if c.Q then [quiet] else []) := by
    unfold wordsK at hw
    simp only [List.cons_append, List.cons.injEq, true_and] at hw
    exact hw.symm
  obtain ⟨V, N, F, U, B, C, D, Q⟩ := c
  have q0 := ok.q
  have n0 := ok.n0
  have f0 := ok.f
  have u0 := ok.u
  have c8 := ok.c8
  have d0 := ok.d
  have c1 := ok.c1
  have f1 := ok.f1
  have u1 := ok.u1
  have d1 := ok.d1
  have v0 := ok.v0
  have v1 := ok.v1
  clear ok hw
  dsimp only at *
  subst hb
  have eF : (F.toNat : Int) = F := by omega
  have eU : (U.toNat : Int) = U := by omega
  have eD : (D.toNat : Int) = D := by omega
  obtain ⟨rF, hrF⟩ : ∃ f : Nat, F = f := ⟨F.toNat, eF.symm⟩
  obtain ⟨rU, hrU⟩ : ∃ f : Nat, U = f := ⟨U.toNat, eU.symm⟩
  obtain ⟨rD, hrD⟩ : ∃ f : Nat, D = f := ⟨D.toNat, eD.symm⟩
  obtain ⟨rC, hrC⟩ : ∃ f : Nat, C = f := ⟨C.toNat, by
    by_cases e : V = 8
    · have := c1 e; omega
    · rw [c8 e]; rfl⟩
  subst hrF hrU hrD hrC
  have nF := numF_digs (n := rF) (by omega)
  have nU := numF_digs (n := rU) (by omega)
  have nD := numF_digs (n := rD) (by omega)
  have nC := numF_digs (n := rC) (by
    by_cases e : V = 8
    · have := c1 e; omega
    · have := c8 e; omega)
  have nK := numF_digs (n := k) (by omega)
  subst hws
  rcases verb_cases v0 v1 with rfl | rfl | rfl | rfl | rfl | rfl | rfl | rfl | rfl | rfl | rfl | rfl | rfl
  all_goals
    simp [full, sized, stepV] at f0 u0 c8 d0 hs n0 q0
    cases Q <;> (try simp at q0) <;> simp [headC, hQ, hD, hC, hS, hU, hF, hA, numsK, full, sized, stepV, pN, pU, pC, pQ, nameF, wordF, numF_off, quietF, nF, nU, nD, nC, nK, tx_bs, tx_nil, f0, u0, c8, d0, hs, n0]
/-- the program reads a line as the model does -/
theorem head_line {v : Int} (h0 : 1 ≤ v) (h1 : v ≤ 13) (ws : List (List UInt8)) : lineL v (vw v :: ws) = if headOk v ws = true then some (headC v ws, (hS v ws).1.toNat) else none := by
  by_cases h : headOk v ws = true
  · rw [if_pos h]
    have hw := head_ws h0 h1 h
    obtain ⟨q1, q2, ok, s0, s1⟩ := headOk_iff.1 h
    obtain ⟨k, hk⟩ : ∃ k, (hS v ws).1.toNat = k := ⟨_, rfl⟩
    have hk64 : k ≤ 64 := by omega
    rw [hk] at hw ⊢
    have hs : sized v = false → k = 0 := fun e => by
      rw [← hk]
      unfold hS
      rw [e]
      rfl
    obtain ⟨c, hc⟩ : ∃ c, headC v ws = c := ⟨_, rfl⟩
    have hcV : c.V = v := by rw [← hc]; rfl
    have hcB : c.B = emp := by rw [← hc]; rfl
    rw [hc] at hw ok ⊢
    have sz : (tx (List.replicate k (0 : UInt8))).size = k := by rw [tx_size]; simp
    have ok' : COk ⟨c.V, c.N, c.F, c.U, tx (List.replicate k 0), c.C, c.D, c.Q⟩ := ⟨ok.v0, ok.v1, ok.q, ok.n0, ok.nm, ok.f, ok.u, fun e => (by
      rw [hs (by rw [← hcV]; exact e)]; rfl), ok.c8, ok.d, ok.c1, ok.f1, ok.u1, by show (tx (List.replicate k (0 : UInt8))).size ≤ 64; omega, ok.d1⟩
    have := line_show ok'
    simp only [sz] at this
    have e1 : wordsK ⟨c.V, c.N, c.F, c.U, tx (List.replicate k 0), c.C, c.D, c.Q⟩ k = wordsK c k := rfl
    rw [e1, hw, hcV] at this
    rw [this]
    refine congrArg (fun x => some (x, k)) ?_
    unfold bare
    obtain ⟨V, N, F, U, B, C, D, Q⟩ := c
    dsimp only at hcB hcV ⊢
    rw [hcB, hcV]
  · rw [if_neg h]
    cases e : lineL v (vw v :: ws) with
    | none => rfl
    | some x =>
      obtain ⟨c, k⟩ := x
      obtain ⟨b1, b2, b3, b4, b5, b6⟩ := line_is e rfl
      subst b2
      obtain ⟨a1, a2, a3, a4⟩ := head_show b1 b3 b4 b5 b6
      refine absurd (headOk_iff.2 ⟨a3, a4, by rw [a1]; exact b1, by omega, by omega⟩) h
end Go.Proofs.YtefmndjoailemaaDoor.cm
