/- Contracts: a book without what is over, both sides. -/
import Derived.Test.YtekladbkhplchaaBb1
import Derived.Lib.SmallJoins
import Derived.Deep.Slices
import Derived.Deep.DeepCutAuto
import Derived.Deep.RegionHeld3
import Derived.BigQuiet
namespace Go.Proofs.Ytekladbkhplchaa.rg
open Go.ChangeShapes Go.WideShapes Go.ChangeAt Go.RowKit
open Go.Deep Go.Joins
open Go.Proofs.Ytekladbkhplchaa.ce Go.Proofs.Ytekladbkhplchaa.ro
set_option linter.unusedVariables false

/-- only the variable q changes, besides what is new -/
structure Onb (q : Nat) (w w' : World) : Prop where
  size : w.heap.size ≤ w'.heap.size
  keep : ∀ k, k < w.heap.size → k ≠ q → w'.heap[k]? = w.heap[k]?
  low : ∀ B, B ≤ q → B ≤ w.heap.size → Below B w w'
theorem Onb.refl (q : Nat) (w : World) : Onb q w w := ⟨Nat.le_refl _, fun _ _ _ => rfl, fun _ _ _ => Below.refl _ _⟩
theorem Onb.below {q : Nat} {w w' : World} (h : Below w.heap.size w w') : Onb q w w' := ⟨h.size, fun k hk _ => h.block k hk, fun B _ hB => h.mono hB⟩
theorem Onb.trans {q : Nat} {x y z : World} (h : Onb q x y) (k : Onb q y z) : Onb q x z := ⟨Nat.le_trans h.size k.size, fun j hj hb => (k.keep j (Nat.lt_of_lt_of_le hj h.size) hb).trans (h.keep j hj hb), fun B h1 h2 => (h.low B h1 h2).trans (k.low B h1 (Nat.le_trans h2 h.size))⟩
theorem Onb.only {q : Nat} {w w' : World} (h : Only q w w') : Onb q w w' := ⟨Nat.le_of_eq h.1.symm, fun k _ hk => h.2.1 k hk, fun B hB _ => h.2.2 B hB⟩
theorem Onb.vblk {q b : Nat} {w w' : World} {t : TypeId} {vs : List Value} (h : Onb q w w') (hb : VBlk w b t vs) (hn : b ≠ q) : VBlk w' b t vs := hb.of (h.keep b hb.lt hn)
theorem Onb.own {α : Type} {E : Enc α} {q lo hi : Nat} {w w' : World} {v : Value} {xs : List α} {t : TypeId} {vs : List Value} (h : Onb q w w') (o : Own E w lo hi v xs) (hv : VBlk w q t vs) (ht : E.t ≠ t) : Own E w' lo hi v xs := o.keepT fun g cur hg _ _ => h.keep g (Array.getElem?_eq_some_iff.1 hg).1 fun e => by
  rw [e] at hg
  have := hg.symm.trans hv
  simp at this
  exact ht this.2
theorem take_age {I : List It} {i : Nat} (hi : i < I.length) (now : Int) : ageL (I.take (i + 1)) now = ageL (I.take i) now ++ (if overB I[i] now = true then [] else [I[i]]) := by
  unfold ageL
  rw [List.take_succ_eq_append_getElem hi, List.filter_append]
  congr 1
  cases h : overB I[i] now <;> simp [h]
theorem take_gone {I : List It} {i : Nat} (hi : i < I.length) (now : Int) : goneL (I.take (i + 1)) now = goneL (I.take i) now ++ (if overB I[i] now = true then [I[i].N] else []) := by
  unfold goneL
  rw [List.take_succ_eq_append_getElem hi, List.filter_append, List.map_append]
  congr 1
  cases h : overB I[i] now <;> simp [h]
theorem age_le (I : List It) (now : Int) (i : Nat) : (ageL (I.take i) now).length ≤ I.length ∧ (goneL (I.take i) now).length ≤ I.length := by
  have h1 : (I.take i).length ≤ I.length := by rw [List.length_take]; omega
  refine ⟨Nat.le_trans (List.length_filter_le _ _) h1, ?_⟩
  unfold goneL
  rw [List.length_map]
  exact Nat.le_trans (List.length_filter_le _ _) h1
/-- two variables that hold books -/
structure Two2 (wr : World) (b1 b2 : Nat) (vs : List Value) : Prop where
  a : VBlk wr b1 31 vs
  b : ∃ x y, VBlk wr b2 31 [x, y]
theorem Two2.grow {w w' : World} {b1 b2 : Nat} {vs : List Value} (h : Two2 w b1 b2 vs) (hb : Below w.heap.size w w') : Two2 w' b1 b2 vs := by
  obtain ⟨h1, x, y, h2⟩ := h
  exact ⟨vblk_grow h1 hb, x, y, vblk_grow h2 hb⟩
theorem Two2.only {w w' : World} {b1 b2 b : Nat} {vs : List Value} (h : Two2 w b1 b2 vs) (ho : Only b w w') {n : Nat} (hb : n ≤ b) (h1 : b1 < n) (h2 : b2 < n) : Two2 w' b1 b2 vs := by
  obtain ⟨h1, x, y, h2⟩ := h
  exact ⟨vblk_only h1 ho (by omega), x, y, vblk_only h2 ho (by omega)⟩
theorem Two2.ty {w w' : World} {b1 b2 lo : Nat} {t : TypeId} {vs : List Value} (h : Two2 w b1 b2 vs) (hT : Ty lo t w w') (ht : 31 ≠ t) : Two2 w' b1 b2 vs := by
  obtain ⟨h1, x, y, h2⟩ := h
  exact ⟨hT.vblk h1 ht, x, y, hT.vblk h2 ht⟩
theorem Two2.lt {w : World} {b1 b2 : Nat} {vs : List Value} (h : Two2 w b1 b2 vs) : b1 < w.heap.size ∧ b2 < w.heap.size := by
  obtain ⟨h1, x, y, h2⟩ := h
  exact ⟨h1.lt, h2.lt⟩
/-- while a book is aged: its things are read, two rows grow -/
structure Agd (w wr : World) (v : Value) (I G : List It) (N : List ByteArray) (vi vg : Value) : Prop where
  R : Rd encIt wr v I
  oi : Own encIt wr w.heap.size wr.heap.size vi G
  og : Own encS wr w.heap.size wr.heap.size vg N
  b : Below w.heap.size w wr
theorem Agd.size {w wr : World} {v vi vg : Value} {I G : List It} {N : List ByteArray} (h : Agd w wr v I G N vi vg) : w.heap.size ≤ wr.heap.size := h.b.size
theorem Agd.grow {w wr w' : World} {v vi vg : Value} {I G : List It} {N : List ByteArray} (h : Agd w wr v I G N vi vg) (hb : Below wr.heap.size wr w') : Agd w w' v I G N vi vg :=
  ⟨h.R.grow hb, (h.oi.grow hb).top, (h.og.grow hb).top, h.b.trans (hb.mono h.b.size)⟩
theorem Agd.only {w wr w' : World} {v vi vg : Value} {I G : List It} {N : List ByteArray} {b : Nat} {t : TypeId} {vs : List Value} (h : Agd w wr v I G N vi vg) (R0 : Rd encIt w v I) (ho : Only b wr w') (hb : VBlk wr b t vs) (h1 : encIt.t ≠ t) (h2 : encS.t ≠ t) (hlo : w.heap.size ≤ b) : Agd w w' v I G N vi vg :=
  have hB := h.b.trans (ho.2.2 _ hlo)
  ⟨R0.grow hB, (h.oi.only ho hb h1).top, (h.og.only ho hb h2).top, hB⟩
theorem Agd.appI {w wr w' : World} {v vi vg v' : Value} {I G G' : List It} {N : List ByteArray} (h : Agd w wr v I G N vi vg) (R0 : Rd encIt w v I) (hT : Ty w.heap.size encIt.t wr w') (o' : Own encIt w' w.heap.size w'.heap.size v' G') : Agd w w' v I G' N v' vg :=
  ⟨R0.grow (h.b.trans hT.low), o', (hT.own h.og (by decide)).top, h.b.trans hT.low⟩
theorem Agd.appG {w wr w' : World} {v vi vg v' : Value} {I G : List It} {N N' : List ByteArray} (h : Agd w wr v I G N vi vg) (R0 : Rd encIt w v I) (hT : Ty w.heap.size encS.t wr w') (o' : Own encS w' w.heap.size w'.heap.size v' N') : Agd w w' v I G N' vi v' :=
  ⟨R0.grow (h.b.trans hT.low), (hT.own h.oi (by decide)).top, o', h.b.trans hT.low⟩
theorem ag_no {I : List It} {X now : Int} (h : (storeB ⟨I, X⟩ && timeB now) = false) : agR ⟨I, X⟩ now = ⟨[], 0⟩ ∧ agN ⟨I, X⟩ now = [] := by
  unfold agR agN
  rw [h]
  exact ⟨rfl, rfl⟩
theorem ag_yes {I : List It} {X now : Int} (h : (storeB ⟨I, X⟩ && timeB now) = true) : agR ⟨I, X⟩ now = ⟨ageL I now, X⟩ ∧ agN ⟨I, X⟩ now = goneL I now := by
  unfold agR agN
  rw [h]
  exact ⟨rfl, rfl⟩
theorem ag_len (I : List It) (X now : Int) : (agR ⟨I, X⟩ now).I.length ≤ I.length ∧ (agN ⟨I, X⟩ now).length ≤ I.length := by
  have h := age_le I now I.length
  rw [List.take_length] at h
  cases e : (storeB ⟨I, X⟩ && timeB now) with
  | false => rw [(ag_no e).1, (ag_no e).2]; simp
  | true => rw [(ag_yes e).1, (ag_yes e).2]; exact h
/-- what Aged tells -/
def PostG (I : List It) (X now : Int) (w : World) (e : Ending) (w' : World) : Prop := ∃ v' vg, e = .returned (.tuple #[.agg #[v', .int .i64 (agR ⟨I, X⟩ now).X], vg]) ∧ Own encIt w' w.heap.size w'.heap.size v' (agR ⟨I, X⟩ now).I ∧ Own encS w' w.heap.size w'.heap.size vg (agN ⟨I, X⟩ now) ∧ Below w.heap.size w w'
end Go.Proofs.Ytekladbkhplchaa.rg
