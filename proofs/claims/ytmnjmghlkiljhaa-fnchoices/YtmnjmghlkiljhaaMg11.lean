/- Texts laid together: Lw1 Lw2 LwOpen Lw3 Ch3 Lw4 Ch4 Lw5. -/
import Derived.Test.YtmnjmghlkiljhaaMg01
import Derived.Test.YtmnjmghlkiljhaaMg10
import Derived.Deep.Matrix
import Derived.Lib.SmallJoins
import Derived.ShutString
import Derived.ChangeOld
import Derived.Deep.Slices
import Derived.Deep.RegionHeld3
import Derived.BigQuiet
import Derived.Deep.DeepCutAuto
/- Contracts of the laws' helpers on sketches: sizes, copies, comparisons. -/
namespace Go.Proofs.Ytmnjmghlkiljhaa.sk
open Go.ChangeShapes Go.WideShapes Go.ChangeAt Go.RowKit
set_option linter.unusedVariables false

def Modest (R : List (List Int)) : Prop := R.length ≤ 1048576 ∧ ∀ xs ∈ R, xs.length ≤ 1048576

end Go.Proofs.Ytmnjmghlkiljhaa.sk
/- Contracts of the laws' helpers on sketches: copies of many rows, comparisons. -/
namespace Go.Proofs.Ytmnjmghlkiljhaa.sk
open Go.ChangeShapes Go.WideShapes Go.ChangeAt Go.RowKit
set_option linter.unusedVariables false

set_option maxRecDepth 100000 in
theorem rd_at {w : World} {lo hi : Nat} {a : Option Addr} {R : List (List Int)} {n c : Nat} (hrows : R = [] ∨ ∃ b off, a = some ⟨b, off, none⟩ ∧ lo ≤ b ∧ b < hi ∧
    ∀ i (h : i < R.length), ∃ a' c', w.cell? ⟨b, off + i, none⟩ = some (.slice a' (R[i]).length c') ∧ RowR w lo hi a' R[i]) :
    ∃ b off, (R ≠ [] → a = some ⟨b, off, none⟩ ∧ b < hi) ∧ ∀ i (h : i < R.length), ∃ a' c', w.cell? ⟨b, off + i, none⟩ = some (.slice a' (R[i]).length c') ∧ RowR w lo hi a' R[i] := by
  rcases hrows with rfl | ⟨b, off, rfl, -, hb, hc⟩
  · exact ⟨0, 0, fun h => absurd rfl h, fun i hi => by simp at hi⟩
  · exact ⟨b, off, fun _ => ⟨rfl, hb⟩, hc⟩

end Go.Proofs.Ytmnjmghlkiljhaa.sk
/- A sketch that came in as an argument, read as rows. -/
namespace Go.Proofs.Ytmnjmghlkiljhaa.sk
open Go.ChangeShapes Go.WideShapes Go.ChangeAt Go.RowKit
open Go.Deep Go.Joins
set_option linter.unusedVariables false

set_option maxRecDepth 100000 in
theorem cells46 : Try.prog.cellsOf 100 = 1 := by kernel_rfl
set_option maxRecDepth 100000 in
theorem add_none {a : Addr} (h : a.spot = none) (j : Nat) : a.add j = ⟨a.block, a.off + j, none⟩ := by
  obtain ⟨b, o, s⟩ := a
  simp at h
  subst h
  exact Addr.add_mid b o j

set_option maxRecDepth 100000 in
theorem rd_of_trod {H : Type} {enc : TypeId × Value → H} {w : World} {n : Nat} {v : Value} {x : DataW H × List MemPlace} (h : DataW.trod enc Try.prog w 0 (fun _ => true) true n 28 [v] = some x) : ∃ R, Rd w 0 w.heap.size v R := by
  rcases open_int_rows Try.underlying28 Try.underlying100 Try.underlying2 cells46 cells2 h with ⟨hcs, -⟩ | ⟨a, len, cap, A, L, C, Z, hcs, -, hl, hm, -, hrow⟩
  · obtain rfl : v = .slice none 0 0 := by simpa using hcs
    exact ⟨[], by simp, none, 0, rfl, .inl rfl⟩
  · obtain rfl : v = .slice (some a) len cap := by simpa using hcs
    refine ⟨(List.range len).map fun r => (Z r).take (L r), by simp; omega, some a, cap, by simp, ?_⟩
    by_cases h0 : len = 0
    · subst h0; exact .inl rfl
    have hc0 := (hrow 0 (by omega)).1
    have hspot : (a.add 0).spot = none := World.cell?_spot hc0
    have hsp : a.spot = none := by
      obtain ⟨b, o, s⟩ := a
      cases s with
      | none => rfl
      | some s => simp [Addr.add] at hspot
    rw [add_none hsp] at hc0
    refine .inr ⟨a.block, a.off, by obtain ⟨b, o, s⟩ := a; simp at hsp; subst hsp; rfl, Nat.zero_le _, World.block_lt_of_cell? w ⟨a.block, a.off + 0, none⟩ hc0, fun i hi => ?_⟩
    have hi' : i < len := by simpa using hi
    obtain ⟨c1, c2, c3, c4, c5, c6, c7⟩ := hrow i (by omega)
    have hlen : ((Z i).take (L i)).length = L i := by simp; omega
    refine ⟨A i, C i, ?_, ?_, ?_⟩
    · rw [add_none hsp] at c1
      simp only [List.getElem_map, List.getElem_range, hlen]
      exact c1
    · simp only [List.getElem_map, List.getElem_range, hlen]; omega
    · simp only [List.getElem_map, List.getElem_range]
      by_cases hL : L i = 0
      · left; rw [hL]; rfl
      · right
        cases hA : A i with
        | none => have := c6 hA; omega
        | some a' =>
          obtain ⟨-, hcell⟩ := c7 a' hA
          have hd0 := hcell 0 (by omega)
          have hspot' : (a'.add 0).spot = none := World.cell?_spot hd0
          have hsp' : a'.spot = none := by
            obtain ⟨b, o, s⟩ := a'
            cases s with
            | none => rfl
            | some s => simp [Addr.add] at hspot'
          rw [add_none hsp'] at hd0
          refine ⟨a'.block, a'.off, by obtain ⟨b, o, s⟩ := a'; simp at hsp'; subst hsp'; rfl, Nat.zero_le _, World.block_lt_of_cell? w ⟨a'.block, a'.off + 0, none⟩ hd0, fun j u hj => ?_⟩
          have hjl : j < L i := by have := (List.getElem?_eq_some_iff.1 hj).1; simp [ints] at this; omega
          have := hcell j (by omega)
          rw [add_none hsp'] at this
          rw [this]
          have hjz : j < (Z i).length := by omega
          rw [ints_get, List.getElem?_take, if_pos hjl, List.getElem?_eq_getElem hjz] at hj
          rw [List.getD_eq_getElem?_getD, List.getElem?_eq_getElem hjz]
          simpa using hj

end Go.Proofs.Ytmnjmghlkiljhaa.sk
/- Contracts of the laws' helpers that write numbers into a sketch's rows and look for them. -/
namespace Go.Proofs.Ytmnjmghlkiljhaa.sk
open Go.ChangeShapes Go.WideShapes Go.ChangeAt Go.RowKit
set_option linter.unusedVariables false

/-- of what was there, nothing turned but the blocks from lo up to hi -/
structure Within (lo hi : Nat) (w w' : World) : Prop where
  os : w'.os = w.os
  tape : w'.tape = w.tape
  output : w'.output = w.output
  size : w.heap.size ≤ w'.heap.size
  block : ∀ k, k < w.heap.size → (k < lo ∨ hi ≤ k) → w'.heap[k]? = w.heap[k]?
set_option maxRecDepth 100000 in
theorem Within.refl (lo hi : Nat) (w : World) : Within lo hi w w := ⟨rfl, rfl, rfl, Nat.le_refl _, fun _ _ _ => rfl⟩
set_option maxRecDepth 100000 in
theorem Within.below {lo hi B : Nat} {w w' : World} (h : Within lo hi w w') (hB : B ≤ lo) (hB2 : B ≤ w.heap.size) : Below B w w' := ⟨h.os, h.tape, h.output, h.size, fun k hk => h.block k (by omega) (.inl (by omega))⟩
set_option maxRecDepth 100000 in
theorem Within.trans {lo hi : Nat} {a b c : World} (h : Within lo hi a b) (k : Within lo hi b c) : Within lo hi a c :=
  ⟨k.os.trans h.os, k.tape.trans h.tape, k.output.trans h.output, Nat.le_trans h.size k.size, fun j hj hn => (k.block j (Nat.lt_of_lt_of_le hj h.size) hn).trans (h.block j hj hn)⟩
set_option maxRecDepth 100000 in
theorem Within.of_below {lo hi B : Nat} {w w' : World} (h : Below B w w') (hB : w.heap.size ≤ B) : Within lo hi w w' := ⟨h.os, h.tape, h.output, h.size, fun k hk _ => h.block k (by omega)⟩
set_option maxRecDepth 100000 in
theorem Within.setCell {lo hi : Nat} {a w : World} (h : Within lo hi a w) {p : Addr} (h1 : lo ≤ p.block) (h2 : p.block < hi) (u : Value) : Within lo hi a (w.setCell p u) :=
  h.trans ⟨rfl, rfl, rfl, by simp, fun k hk hn => Below.heap_setCell _ _ _ _ (by omega)⟩
set_option maxRecDepth 100000 in
theorem Within.wide {lo hi lo' hi' : Nat} {w w' : World} (h : Within lo hi w w') (h1 : lo' ≤ lo) (h2 : hi ≤ hi') : Within lo' hi' w w' := ⟨h.os, h.tape, h.output, h.size, fun k hk hn => h.block k hk (by omega)⟩

/-- numbers from k on -/
def marks (k : Int) (n : Nat) : List Int := (List.range n).map fun j : Nat => k + (j : Int)
set_option maxRecDepth 100000 in
theorem marks_len (k : Int) (n : Nat) : (marks k n).length = n := by simp [marks]
set_option maxRecDepth 100000 in
theorem marks_get (k : Int) (n i : Nat) (h : i < (marks k n).length) : (marks k n)[i] = k + i := by simp [marks]

/-- how many numbers lie in the rows -/
def sumLen (R : List (List Int)) : Nat := (R.map List.length).sum
set_option maxRecDepth 100000 in
theorem sumLen_snoc (R : List (List Int)) (i : Nat) (h : i < R.length) : sumLen (R.take (i + 1)) = sumLen (R.take i) + (R[i]).length := by
  unfold sumLen; rw [take_snoc R i h, List.map_append, List.sum_append]; simp
set_option maxRecDepth 100000 in
theorem sumLen_le (R : List (List Int)) (hm : ∀ xs ∈ R, xs.length ≤ 1048576) : sumLen R ≤ R.length * 1048576 := by
  induction R with
  | nil => simp [sumLen]
  | cons x R ih =>
    have h1 := hm x (by simp)
    have h2 := ih (fun y hy => hm y (by simp [hy]))
    simp only [sumLen, List.map_cons, List.sum_cons, List.length_cons] at h2 ⊢
    omega
set_option maxRecDepth 100000 in
theorem sumLen_take_le (R : List (List Int)) (hm : Modest R) (i : Nat) : sumLen (R.take i) ≤ 1099511627776 := by
  have h1 := sumLen_le (R.take i) (fun xs hx => hm.2 xs (List.mem_of_mem_take hx))
  have h2 := hm.1
  have h3 : (R.take i).length ≤ 1048576 := by simp; omega
  have h4 : (R.take i).length * 1048576 ≤ 1048576 * 1048576 := Nat.mul_le_mul_right _ h3
  omega
/-- the rows filled with numbers from k on -/
def markR (k : Int) (R : List (List Int)) : List (List Int) := R.mapIdx fun i xs => marks (k + (sumLen (R.take i) : Int)) xs.length
set_option maxRecDepth 100000 in
theorem markR_len (k : Int) (R : List (List Int)) : (markR k R).length = R.length := by simp [markR]
set_option maxRecDepth 100000 in
theorem markR_get (k : Int) (R : List (List Int)) (i : Nat) (h : i < R.length) (h' : i < (markR k R).length) : (markR k R)[i] = marks (k + (sumLen (R.take i) : Int)) (R[i]).length := by simp [markR]

set_option maxRecDepth 100000 in
theorem OwnAt.setRow {w w' : World} {lo hi bo : Nat} {B C : Nat → Nat} {R : List (List Int)} (h : OwnAt w lo hi bo B C R) (i : Nat) (hi' : i < R.length) (ys : List Int) (hl : ys.length = (R[i]).length) (hW : Within (B i) (B i + 1) w w') (hr : Row w' (B i) ys) :
    OwnAt w' lo hi bo B C (R.set i ys) := by
  obtain ⟨h0, h1, h2, h3⟩ := h
  have hne : R ≠ [] := by intro e; subst e; simp at hi'
  have hb := h0 hne
  obtain ⟨d1, d2, d3, d4, d5, d6⟩ := h3 i hi'
  refine ⟨fun _ => hb, by have := hW.size; omega, fun a b ha hb => h2 a b (by simpa using ha) (by simpa using hb), fun j hj => ?_⟩
  have hj' : j < R.length := by simpa using hj
  obtain ⟨c1, c2, c3, c4, c5, c6⟩ := h3 j hj'
  have hcell : w'.cell? ⟨bo, j, none⟩ = w.cell? ⟨bo, j, none⟩ := World.cell?_of_block (w := w) (hW.block bo (by omega) (by omega))
  by_cases e : i = j
  · subst e
    simp only [List.getElem_set_self]
    exact ⟨by rw [hcell, hl]; exact c1, by rw [hl]; exact c2, c3, c4, c5, hr⟩
  · rw [List.getElem_set_ne e]
    have hB := h2 j i hj' hi' (fun q => e q.symm)
    exact ⟨by rw [hcell]; exact c1, c2, c3, c4, c5, c6.of' (hW.block _ c6.1 (by omega))⟩

end Go.Proofs.Ytmnjmghlkiljhaa.sk
/- The laws' helpers on choices. -/
namespace Go.Proofs.Ytmnjmghlkiljhaa.rg
open Go.ChangeShapes Go.WideShapes Go.ChangeAt Go.RowKit
open Go.Deep Go.Joins
open Go.Proofs.Ytmnjmghlkiljhaa.ce Go.Proofs.Ytmnjmghlkiljhaa.ro
set_option linter.unusedVariables false
set_option linter.unusedSimpArgs false

theorem wpList_store_sub {ops : Array Oper} {rest : List Oper} {o : Oper} {a : Act} {w : World} {Q : Exit → Act → World → Prop} (hgd : o.guard = none) (t : TypeId) (x y : Operand) (ho : o.op = .store t x y) (b k : Nat) (ys : List Value) (hx : a.eval x = .pointer (some ⟨b, k, none⟩)) (hy : a.eval y = .agg ys.toArray)
    (hi : (Try.prog.info? t).map (·.size) = some ys.length) {t' : TypeId} {vs ws : List Value} (hb : VBlk w b t' vs) (hk : k + ys.length ≤ vs.length) (hws : vs.take k ++ ys ++ vs.drop (k + ys.length) = ws) (h1 : ∀ v ∈ ys, v.oneCell' = true)
    (h : ∀ w', Only b w w' → VBlk w' b t' ws → wpList Try.prog ops Q rest (a.put o.dst undef) w') : wpList Try.prog ops Q (o :: rest) a w := by
  refine wpList_store_mid hgd t x y ho b k ys.toArray hx hy ?_ (by rw [hi]; simp) (all_oneCell_toArray h1) ?_
  · intro j hj
    have hj' : j < ys.length := by simpa using hj
    have := hb.there (k + j) (by omega)
    simpa [Nat.add_assoc] using this
  · refine h _ (only_setCells _ _ _ _) ?_
    unfold VBlk
    rw [heap_setCells b t' _ k w vs hb (by simpa using hk), ← hws]
theorem szI1 : (Try.prog.info? 2).map (·.size) = some 1 := by kernel_rfl
theorem sizeSk2 : (Try.prog.info? 30).map (·.size) = some 2 := by kernel_rfl
/-- at most so much -/
structure Mod (c : Ch) : Prop where
  n : c.R.N.length ≤ 1048576
  u : c.R.U.length ≤ 1048576
  q : c.Q.length ≤ 1048576
  s : sk.Modest c.S
theorem cellsRR : Try.prog.cellsOf 28 = 1 := by kernel_rfl
end Go.Proofs.Ytmnjmghlkiljhaa.rg
/- Small facts on how many numbers a sketch holds. -/
namespace Go.Proofs.Ytmnjmghlkiljhaa.sk
open Go.ChangeShapes Go.WideShapes Go.ChangeAt Go.RowKit
set_option linter.unusedVariables false
set_option maxRecDepth 100000 in
theorem Four.modest {R : List (List Int)} (h : Four R) : Modest R := ⟨by rw [h.1]; omega, fun xs hx => by rw [h.2 xs hx]; omega⟩
set_option maxRecDepth 100000 in
theorem zeros_modest : Modest zeros := zeros_four.modest
set_option maxRecDepth 100000 in
theorem addedR_modest (R : List (List Int)) (adds : Int) (key : ByteArray) : Modest (addedR R adds key) := by
  unfold addedR
  split
  · rename_i h
    split
    · exact (halfR_four (addR_four h.four)).modest
    · exact (addR_four h.four).modest
  · exact ⟨by simp, fun xs hx => by simp at hx⟩
end Go.Proofs.Ytmnjmghlkiljhaa.sk
/- The laws' marks on a choice without names; a choice kept. -/
namespace Go.Proofs.Ytmnjmghlkiljhaa.rg
open Go.ChangeShapes Go.WideShapes Go.ChangeAt Go.RowKit
open Go.Deep Go.Joins
open Go.Proofs.Ytmnjmghlkiljhaa.ce Go.Proofs.Ytmnjmghlkiljhaa.ro
set_option linter.unusedVariables false
set_option linter.unusedSimpArgs false

theorem within_sk {lo hi : Nat} {w w' : World} (h : sk.Within lo hi w w') : Within lo hi w w' := ⟨h.os, h.tape, h.output, h.size, h.block⟩
def mkC (c : Ch) : Ch := ⟨c.K, c.R, c.Q, sk.markR 1 c.S, c.D⟩
theorem markR_modest {S : List (List Int)} (hm : sk.Modest S) : sk.Modest (sk.markR 1 S) := by
  refine ⟨by rw [sk.markR_len]; exact hm.1, fun xs hx => ?_⟩
  obtain ⟨i, hi, rfl⟩ := List.mem_iff_getElem.1 hx
  have hi2 : i < S.length := by rw [← sk.markR_len 1 S]; exact hi
  rw [sk.markR_get 1 S i hi2 hi, sk.marks_len]
  exact hm.2 _ (List.getElem_mem hi2)
/-- no names in it -/
structure Bare (c : Ch) : Prop where
  n : c.R.N = []
  u : c.R.U = []
  q : c.Q = []
  s : sk.Modest c.S
theorem bare_new (k : Int) : Bare (cpC (newC k)) := by
  unfold cpC
  split
  · exact ⟨rfl, rfl, rfl, sk.zeros_modest⟩
  · exact ⟨rfl, rfl, rfl, ⟨by show (0 : Nat) ≤ _; omega, fun xs hx => by cases hx⟩⟩
theorem Bare.rd {w : World} {lo hi : Nat} {vN vU vQ vS : Value} {c : Ch} (b : Bare c) (h : OwnC w lo hi vN vU vQ vS c) : RdC w vN vU vQ vS c :=
  h.rd (fun s hs => by rw [b.n] at hs; cases hs) (fun s hs => by rw [b.q] at hs; cases hs)
theorem RdC.forms {w : World} {vN vU vQ vS : Value} {c : Ch} (h : RdC w vN vU vQ vS c) : (∃ a n k, vN = .slice a n k) ∧ (∃ a n k, vU = .slice a n k) ∧ (∃ a n k, vQ = .slice a n k) ∧ ∃ a n k, vS = .slice a n k := by
  obtain ⟨a, b, e1⟩ := h.r.n.form
  obtain ⟨a2, b2, e2⟩ := h.r.u.form
  obtain ⟨a3, b3, e3⟩ := h.q.form
  obtain ⟨a4, b4, e4⟩ := sk_form h.s
  exact ⟨⟨_, _, _, e1⟩, ⟨_, _, _, e2⟩, ⟨_, _, _, e3⟩, ⟨_, _, _, e4⟩⟩
theorem sk_within {w w' : World} {lo hi l2 h2 : Nat} {v : Value} {R : List (List Int)} (h : sk.Own w lo hi v R) (hw : Within l2 h2 w w') (hd : hi ≤ l2 ∨ h2 ≤ lo) : sk.Own w' lo hi v R :=
  sk.Own.keep h (fun k x y => hw.block k (by have := sk_hi h; omega) (by omega)) hw.size
end Go.Proofs.Ytmnjmghlkiljhaa.rg
/- The laws' marks on a sketch from whatever number on. -/
namespace Go.Proofs.Ytmnjmghlkiljhaa.sk
open Go.ChangeShapes Go.WideShapes Go.ChangeAt Go.RowKit
set_option linter.unusedVariables false

end Go.Proofs.Ytmnjmghlkiljhaa.sk
