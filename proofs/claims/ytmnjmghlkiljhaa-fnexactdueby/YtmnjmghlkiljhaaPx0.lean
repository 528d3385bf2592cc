/- Mathematics of replies, no Go in sight: right ones, how they are shown; of whatever stands there at most one is shown so. -/
import Derived.Test.YtmnjmghlkiljhaaCx3
namespace Go.Proofs.Ytmnjmghlkiljhaa.cm
open Go.RowKit
open Go.Proofs.Ytmnjmghlkiljhaa.rg (nameB nbB nameB_size)
set_option linter.unusedVariables false

/-- a reply -/
structure Rp where
  K : Int
  N : ByteArray
  F : Int
  B : ByteArray
  C : Int
  M : Int
def Rp.zero : Rp := ⟨0, emp, 0, emp, 0, 0⟩
/-- a right one -/
structure POk (r : Rp) : Prop where
  k0 : 1 ≤ r.K
  k1 : r.K ≤ 12
  nm : r.K = 5 → nameB r.N = true
  n0 : r.K ≠ 5 → r.N = emp
  f1 : r.K = 5 → 0 ≤ r.F ∧ r.F ≤ 65535
  f0 : r.K ≠ 5 → r.F = 0
  b1 : r.B.size ≤ 64
  b0 : r.K ≠ 5 → r.B = emp
  c1 : r.K = 5 → 0 ≤ r.C ∧ r.C ≤ 1000000
  c0 : r.K ≠ 5 → r.C = 0
  m1 : r.K = 6 → 0 ≤ r.M ∧ r.M ≤ 999999999
  m0 : r.K ≠ 6 → r.M = 0
open Classical in
noncomputable def repB (r : Rp) : Bool := decide (POk r)
open Classical in
theorem repB_iff {r : Rp} : repB r = true ↔ POk r := by unfold repB; exact decide_eq_true_iff
def kinds : List (List UInt8) := [[115, 116, 111, 114, 101, 100], [110, 111, 116], [101, 120, 105, 115, 116, 115], [109, 105, 115, 115, 105, 110, 103], [118, 97, 108, 117, 101], [110, 117, 109, 98, 101, 114], [116, 111, 117, 99, 104, 101, 100], [99, 117, 116], [99, 108, 101, 97, 114, 101, 100], [101, 114, 114, 111, 114], [98, 97, 100], [98, 105, 103]]
def kw (k : Int) : List UInt8 := (kinds[(k - 1).toNat]?).getD []
def wordsR (r : Rp) : List (List UInt8) :=
  kw r.K :: (if r.K = 6 then [digs r.M.toNat] else if r.K = 5 then [bs r.N, digs r.F.toNat, digs r.B.size] ++ (if r.C = 0 then [] else [digs r.C.toNat]) else [])
def tailR (r : Rp) : List UInt8 := if r.K = 5 then bs r.B ++ [10] else []
def showR (r : Rp) : List UInt8 := wordsL (wordsR r) ++ 10 :: tailR r
theorem kind_cases {v : Int} (h0 : 1 ≤ v) (h1 : v ≤ 12) : v = 1 ∨ v = 2 ∨ v = 3 ∨ v = 4 ∨ v = 5 ∨ v = 6 ∨ v = 7 ∨ v = 8 ∨ v = 9 ∨ v = 10 ∨ v = 11 ∨ v = 12 := by omega
theorem kw_ok {v : Int} (h0 : 1 ≤ v) (h1 : v ≤ 12) : (∀ c ∈ kw v, c ≠ 32 ∧ c ≠ 10) ∧ (kw v).length ≤ 12 := by
  rcases kind_cases h0 h1 with rfl | rfl | rfl | rfl | rfl | rfl | rfl | rfl | rfl | rfl | rfl | rfl <;> decide
def kindOf (w : List UInt8) : Int := ((kinds.findIdx? (· == w)).map fun i => (i : Int) + 1).getD 0
theorem kindOf_kw {v : Int} (h0 : 1 ≤ v) (h1 : v ≤ 12) : kindOf (kw v) = v := by
  rcases kind_cases h0 h1 with rfl | rfl | rfl | rfl | rfl | rfl | rfl | rfl | rfl | rfl | rfl | rfl <;> decide
theorem wordsR_ok {r : Rp} (h : POk r) : ∀ w ∈ wordsR r, ∀ x ∈ w, x ≠ 32 ∧ x ≠ 10 := by
  intro w hw
  unfold wordsR at hw
  rcases List.mem_cons.1 hw with rfl | hw
  · exact (kw_ok h.k0 h.k1).1
  · split at hw
    · rw [List.mem_singleton.1 hw]
      exact fun x hx => digs_bytes hx
    · split at hw
      · rename_i h5
        rcases List.mem_append.1 hw with hw | hw
        · simp only [List.mem_cons, List.not_mem_nil, or_false] at hw
          rcases hw with rfl | rfl | rfl
          · exact fun x hx => name_bytes (h.nm h5) hx
          · exact fun x hx => digs_bytes hx
          · exact fun x hx => digs_bytes hx
        · split at hw
          · simp at hw
          · rw [List.mem_singleton.1 hw]
            exact fun x hx => digs_bytes hx
      · simp at hw
theorem lineR_no {r : Rp} (h : POk r) : 10 ∉ wordsL (wordsR r) := fun hx => by
  rcases wordsL_mem _ hx with e | ⟨w, hw, hx⟩
  · exact absurd e (by decide)
  · exact (wordsR_ok h w hw 10 hx).2 rfl
theorem splitR {r : Rp} (h : POk r) : splitL 32 (wordsL (wordsR r)) = wordsR r :=
  split_words _ (by unfold wordsR; simp) (fun w hw hx => (wordsR_ok h w hw 32 hx).1 rfl)
theorem lineOf_show {r : Rp} (h : POk r) (u : List UInt8) : lineOf (showR r ++ u) = wordsL (wordsR r) := by
  unfold showR
  rw [List.append_assoc, List.cons_append]
  exact lineOf_app (lineR_no h) _
theorem digs_inj {a b : Nat} (h : digs a = digs b) : a = b := by rw [← val_digs a, h, val_digs]
theorem bs_inj {a b : ByteArray} (h : bs a = bs b) : a = b := by rw [← tx_bs a, h, tx_bs]
theorem nat_inj {a b : Int} (ha : 0 ≤ a) (hb : 0 ≤ b) (h : a.toNat = b.toNat) : a = b := by omega
/-- of whatever stands there at most one reply is shown so -/
theorem show_inj {r r' : Rp} (h : POk r) (h' : POk r') {u u' : List UInt8} (e : showR r ++ u = showR r' ++ u') : r = r' := by
  have e1 : wordsL (wordsR r) = wordsL (wordsR r') := by rw [← lineOf_show h u, e, lineOf_show h' u']
  have e2 : wordsR r = wordsR r' := by rw [← splitR h, e1, splitR h']
  have eK : r.K = r'.K := by
    have : kw r.K = kw r'.K := by
      have := congrArg List.head? e2
      unfold wordsR at this
      simpa using this
    rw [← kindOf_kw h.k0 h.k1, this, kindOf_kw h'.k0 h'.k1]
  obtain ⟨K, N, F, B, C, M⟩ := r
  obtain ⟨K', N', F', B', C', M'⟩ := r'
  dsimp only at eK
  subst eK
  by_cases h6 : K = 6
  · have h5 : K ≠ 5 := by omega
    have n1 := h.n0 h5
    have n2 := h'.n0 h5
    have f1 := h.f0 h5
    have f2 := h'.f0 h5
    have b1 := h.b0 h5
    have b2 := h'.b0 h5
    have c1 := h.c0 h5
    have c2 := h'.c0 h5
    have m1 := (h.m1 h6).1
    have m2 := (h'.m1 h6).1
    dsimp only at n1 n2 f1 f2 b1 b2 c1 c2 m1 m2
    unfold wordsR at e2
    simp only [h6, if_true, List.cons.injEq, and_true, true_and] at e2
    have := nat_inj m1 m2 (digs_inj e2)
    rw [n1, n2, f1, f2, b1, b2, c1, c2, this]
  · have m1 := h.m0 h6
    have m2 := h'.m0 h6
    dsimp only at m1 m2
    by_cases h5 : K = 5
    · have f1 := (h.f1 h5).1
      have f2 := (h'.f1 h5).1
      have c1 := (h.c1 h5).1
      have c2 := (h'.c1 h5).1
      dsimp only at f1 f2 c1 c2
      have hN : bs N = bs N' ∧ digs F.toNat = digs F'.toNat ∧ digs B.size = digs B'.size ∧ (if C = 0 then [] else [digs C.toNat]) = (if C' = 0 then [] else [digs C'.toNat]) := by
        unfold wordsR at e2
        simp only [h5] at e2
        simp at e2
        exact e2
      obtain ⟨q1, q2, q3, q4⟩ := hN
      have eC : C = C' := by
        by_cases z : C = 0
        · by_cases z' : C' = 0
          · rw [z, z']
          · rw [if_pos z, if_neg z'] at q4
            simp at q4
        · by_cases z' : C' = 0
          · rw [if_neg z, if_pos z'] at q4
            simp at q4
          · rw [if_neg z, if_neg z'] at q4
            exact nat_inj c1 c2 (digs_inj (by simpa using q4))
      have eB : B = B' := by
        unfold showR tailR at e
        rw [e1, if_pos h5, if_pos h5] at e
        simp only [List.append_assoc, List.cons_append, List.nil_append] at e
        have e3 := List.append_cancel_left e
        simp only [List.cons.injEq, true_and] at e3
        have hl : (bs B).length = (bs B').length := by rw [bs_len, bs_len]; exact digs_inj q3
        exact bs_inj (List.append_inj_left e3 hl)
      rw [bs_inj q1, nat_inj f1 f2 (digs_inj q2), eB, eC, m1, m2]
    · have n1 := h.n0 h5
      have n2 := h'.n0 h5
      have f1 := h.f0 h5
      have f2 := h'.f0 h5
      have b1 := h.b0 h5
      have b2 := h'.b0 h5
      have c1 := h.c0 h5
      have c2 := h'.c0 h5
      dsimp only at n1 n2 f1 f2 b1 b2 c1 c2
      rw [n1, n2, f1, f2, b1, b2, c1, c2, m1, m2]
/-- the reply that stands at the head of bytes -/
def Reads (t : List UInt8) (r : Rp) : Prop := POk r ∧ showR r <+: t
theorem reads_one {t : List UInt8} {r r' : Rp} (h : Reads t r) (h' : Reads t r') : r = r' := by
  obtain ⟨u, e⟩ := h.2
  obtain ⟨u', e'⟩ := h'.2
  exact show_inj h.1 h'.1 (e.trans e'.symm)
open Classical in
noncomputable def repL (t : List UInt8) : Option Rp := if h : ∃ r, Reads t r then some h.choose else none
theorem repL_some {t : List UInt8} {r : Rp} (h : Reads t r) : repL t = some r := by
  have hx : ∃ r, Reads t r := ⟨r, h⟩
  unfold repL
  rw [dif_pos hx, reads_one hx.choose_spec h]
theorem repL_is {t : List UInt8} {r : Rp} (h : repL t = some r) : Reads t r := by
  unfold repL at h
  split at h
  · rename_i hx
    rw [← Option.some.inj h]
    exact hx.choose_spec
  · cases h
theorem repL_none {t : List UInt8} (h : ∀ r, ¬ Reads t r) : repL t = none := by
  unfold repL
  rw [dif_neg (fun ⟨r, hr⟩ => h r hr)]
theorem repL_show {r : Rp} (h : POk r) (u : List UInt8) : repL (showR r ++ u) = some r := repL_some ⟨h, List.prefix_append _ _⟩
end Go.Proofs.Ytmnjmghlkiljhaa.cm
