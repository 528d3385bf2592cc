/- A law for a range over a function: what a round keeps is told by the types of the boxes and by the numbers of the blocks; so an iterator may itself range over another one. -/
import Derived.Test.YtbialeffdpmcjaaRows
import Derived.RangeFuncNested
import Derived.RangeFuncBound
import Derived.RangeFuncCalls
import Derived.RangeFuncLeaves
import Derived.Shelf.Abstract
import Derived.Shelf.RegionOpen
import Derived.WalkKit
import Derived.OwnWalkIn
import Derived.TacticsInMore
import Derived.LoopNIn
import Derived.LoopIn
namespace Go.Proofs.Ytbialeffdpmcjaa.it
open Go.RowKit Go.Shelf
set_option linter.unusedVariables false

/-- what a round keeps: all below n₀, and the boxes of the two types that iterators read between rounds -/
structure Kp (T1 T2 : TypeId) (n₀ : Nat) (W W' : World) : Prop where
  below : Below n₀ W W'
  box : ∀ k t v, (t = T1 ∨ t = T2) → Boxed W k t v → Boxed W' k t v
theorem Kp.refl {T1 T2 : TypeId} {n₀ : Nat} (W : World) : Kp T1 T2 n₀ W W := ⟨Below.refl _ _, fun _ _ _ _ h => h⟩
theorem Kp.trans {T1 T2 : TypeId} {n₀ : Nat} {A B D : World} (h : Kp T1 T2 n₀ A B) (k : Kp T1 T2 n₀ B D) : Kp T1 T2 n₀ A D := ⟨h.below.trans k.below, fun i t v ht hb => k.box i t v ht (h.box i t v ht hb)⟩
/-- a step that turns at most one block that is no such box -/
theorem Kp.grown {T1 T2 : TypeId} {n₀ : Nat} {W W' : World} {row : Option Nat} (hg : W.grownBy W' row) (hn : n₀ ≤ W.heap.size) (hr : ∀ k, row = some k → n₀ ≤ k ∧ ∀ t v, (t = T1 ∨ t = T2) → ¬ Boxed W k t v) : Kp T1 T2 n₀ W W' :=
  ⟨(Below.refl n₀ W).grown hg hn (fun k e => (hr k e).1), fun k t v ht hb => hb.kept hg (fun e => (hr k e.symm).2 t v ht hb)⟩
theorem Kp.putObj {T1 T2 : TypeId} {n₀ : Nat} {W : World} {l : Nat} {o : Obj} (o' : Obj) (h : W.heap[l]? = some o) (ho : o.isCells = false) (hn : n₀ ≤ l) : Kp T1 T2 n₀ W (W.putObj l o') :=
  Kp.grown (grownBy_putObj' W l o') (by have := (Array.getElem?_eq_some_iff.1 h).1; omega) (fun k e => by
    cases e
    refine ⟨hn, fun t v _ hb => ?_⟩
    rw [show W.heap[l]? = _ from hb] at h
    cases h
    cases ho)
theorem ownFrom_mono {β : Type} {B B' : Nat} {I : β → World → Prop} (h : OwnFrom B I) (hB : B ≤ B') : OwnFrom B' I := fun s X Y row hs hg hr => h s X Y row hs hg (fun r e => ⟨Nat.le_trans hB (hr r e).1, (hr r e).2⟩)
theorem keepsFrom_mono {B B' : Nat} {W W' : World} (h : KeepsFrom B W W') (hB : B ≤ B') : KeepsFrom B' W W' := ⟨h.size, fun k o hk => h.same k o (Nat.le_trans hB hk)⟩

/-- the iterator g yields xs, one by one, till a round says no more -/
def Seq {α : Type} (n : Nat) (P : Program) (g : Nat) (lb : Array Value) (encs : α → Array Value) (T1 T2 : TypeId) (n₀ : Nat) (xs : List α) (w : World) : Prop :=
  ∀ (l : Nat) (J Jx : List α → World → Prop) (W : World), Below w.heap.size w W → OwnFrom W.heap.size J → OwnFrom W.heap.size Jx →
    (∀ pre x rest W1, xs = pre ++ x :: rest → J pre W1 → YieldAt Fence.wide (n - 1) P l (encs x) W1 fun e W' =>
      (e = .returned (.bool true) ∧ J (pre ++ [x]) W' ∧ Kp T1 T2 n₀ W1 W' ∧ KeepsFrom W.heap.size W1 W') ∨ (e = .returned (.bool false) ∧ Jx (pre ++ [x]) W' ∧ KeepsFrom W.heap.size W1 W')) →
    J [] W →
    CallsIn Fence.wide n P g (#[.func (.yield l) #[] #[]] ++ lb) W fun e W' => (∃ v, e = .returned v) ∧ (J xs W' ∨ ∃ pre rest, xs = pre ++ rest ∧ Jx pre W')

/-- how a round's body may be left -/
def roundEnd {α : Type} (B : Nat) (T1 T2 : TypeId) (n₀ : Nat) (I Ix : List α → World → Prop) (pre : List α) (W : World) : Exit → Act → World → Prop
  | .normal, _, W' => KeepsFrom B W W' ∧ Kp T1 T2 n₀ W W' ∧ I pre W'
  | .ret, _, W' => KeepsFrom B W W' ∧ Ix pre W'
  | _, _, _ => False

variable {P : Program}

/-- THE LAW: a range over an iterator, at an outermost loop of a function; the body goes on or returns -/
theorem range_law {α : Type} (n : Nat) {g : Operand} {ps : Array Tmp} {assign body : Code} {Q : Exit → Act → World → Prop} {a : Act} {w : World}
    {gf : Nat} {lb : Array Value} (hg : a.eval g = .func (.func gf) #[] lb) (eg : Enters P gf)
    {encs : α → Array Value} {T1 T2 : TypeId} {n₀ : Nat} {xs : List α} {w0 : World} (hseq : Seq (n - 1) P gf lb encs T1 T2 n₀ xs w0) (hn₀ : n₀ ≤ w.heap.size) (hb0 : Below w0.heap.size w0 w) (hps : ∀ x, (encs x).size = ps.size)
    (I Ix : List α → World → Prop) (hI : OwnFrom w.heap.size I) (hIx : OwnFrom w.heap.size Ix) (h0 : I [] w)
    (hround : ∀ (l : Nat) (pre : List α) (x : α) (rest : List α) (W : World), xs = pre ++ x :: rest → w.heap.size + 1 < W.heap.size → I pre W →
      assign.wpIn (Fence.wide.inRound l) (n - 1 - 1) P (Exit.then (fun a' Wa => W.grownBy Wa none ∧ ∀ Wb : World, Wb.heap.size = Wa.heap.size → (∀ k, k ≠ w.heap.size + 1 → Wb.heap[k]? = Wa.heap[k]?) → I pre Wb →
        body.wpIn (Fence.wide.inRound l) (n - 1 - 1) P (roundEnd w.heap.size T1 T2 n₀ I Ix (pre ++ [x]) Wb) a' Wb) (fun _ _ _ => False))
        { tmps := (ps.zip (encs x)).foldl (fun t (p, v) => t.setIfInBounds p v) a.tmps, defers := [] } W)
    (hdone : ∀ (D : Nat) (W : World), w.heap.size ≤ D → I xs W → W.heap[D]? = some (.deferred (some [])) → Q .normal { a with defers := { target := .collected D, args := #[] } :: a.defers } W)
    (hstop : ∀ (D : Nat) (pre rest : List α) (W : World), xs = pre ++ rest → w.heap.size ≤ D → Ix pre W → W.heap[D]? = some (.deferred (some [])) → Code.ret.wpIn Fence.wide n P Q { a with defers := { target := .collected D, args := #[] } :: a.defers } W) :
    (Code.rangeFunc g ps assign body).wpIn Fence.wide n P Q a w := by
  refine wpIn_rangeFunc fun fn _ => ?_
  obtain ⟨R, hR⟩ : ∃ R : LoopState → Option Code → Loop, R = fun st pe => ⟨st, pe, fn, a.tmps, ps, assign, body, w.heap.size⟩ := ⟨_, rfl⟩
  obtain ⟨W1, hW1⟩ : ∃ W1, W1 = (w.alloc (.deferred (some []))).alloc (.loop (R .ready none)) := ⟨_, rfl⟩
  have hg1 : (w.alloc (.deferred (some []))).grownBy W1 none := by rw [hW1]; exact World.grownBy_alloc _ _ none
  have hg0 : w.grownBy (w.alloc (.deferred (some []))) none := World.grownBy_alloc _ _ none
  have size1 : W1.heap.size = w.heap.size + 2 := by rw [hW1]; simp
  have hD1 : W1.heap[w.heap.size]? = some (.deferred (some [])) := (hg1.block _ (by simp) (by simp)).trans (World.alloc_heap_new w _)
  have hL1 : W1.heap[w.heap.size + 1]? = some (.loop (R .ready none)) := by
    have := World.alloc_heap_new (w.alloc (.deferred (some []))) (.loop (R .ready none)); rw [World.size_alloc, ← hW1] at this; exact this
  have hI1 : I [] W1 := by rw [hW1]; exact hI.alloc _ (hI.alloc _ h0)
  have hb1 : Below w0.heap.size w0 W1 := (hb0.grown hg0 hb0.size (fun k e => by cases e)).grown hg1 (by have := hb0.size; simp; omega) (fun k e => by cases e)
  refine ⟨w.heap.size + 1, [{ target := .collected w.heap.size, args := #[] }], W1, { target := .fn (.func gf) lb, args := #[.func (.yield (w.heap.size + 1)) #[] #[]] }, W1, gf, #[.func (.yield (w.heap.size + 1)) #[] #[]] ++ lb, W1, ?_, ?_, fun _ _ => trivial, ?_, (fun h => by cases h), ?_⟩
  · rw [hW1, hR]; exact run_enterLoop_outer _ _ _ _ _
  · simp only [resolve, hg]
    simp [go_sem]
  · simp [invoke, go_sem, eg _ _]
  -- the two blocks that the loop laid, as the iterator's call leaves them
  have keeps : ∀ {A B : World} {row : Option Nat} {k : Nat} {o : Obj}, A.grownBy B row → (∀ r, row = some r → W1.heap.size ≤ r ∧ ∃ o : Obj, A.heap[r]? = some o ∧ o.isCells = false) → k < w.heap.size + 2 → A.heap[k]? = some o → B.heap[k]? = some o := fun hg hr hk ho =>
    (hg.block _ (Array.getElem?_eq_some_iff.1 ho).1 (fun e => by have := (hr _ e.symm).1; omega)).trans ho
  have lift : ∀ {A : World} {row : Option Nat}, (∀ r, row = some r → W1.heap.size ≤ r ∧ ∃ o : Obj, A.heap[r]? = some o ∧ o.isCells = false) → ∀ r, row = some r → w.heap.size ≤ r ∧ ∃ o : Obj, A.heap[r]? = some o ∧ o.isCells = false := fun hr r e => ⟨by have := (hr r e).1; omega, (hr r e).2⟩
  refine (hseq (w.heap.size + 1)
    (fun pre W => (I pre W ∧ W.heap[w.heap.size + 1]? = some (.loop (R .ready none))) ∧ W.heap[w.heap.size]? = some (.deferred (some [])))
    (fun pre W => (Ix pre W ∧ W.heap[w.heap.size + 1]? = some (.loop (R .done (some .ret)))) ∧ W.heap[w.heap.size]? = some (.deferred (some [])))
    W1 hb1
    (fun s A B row hs hg hr => ⟨⟨hI s A B row hs.1.1 hg (lift hr), keeps hg hr (by omega) hs.1.2⟩, keeps hg hr (by omega) hs.2⟩)
    (fun s A B row hs hg hr => ⟨⟨hIx s A B row hs.1.1 hg (lift hr), keeps hg hr (by omega) hs.1.2⟩, keeps hg hr (by omega) hs.2⟩)
    ?_ ⟨⟨hI1, hL1⟩, hD1⟩).mono ?_
  · rintro pre x rest W hx ⟨⟨hi, hl⟩, hd⟩
    have hlt := (Array.getElem?_eq_some_iff.1 hl).1
    have hy := run_yield (P := P) (args := encs x) hl (by rw [hR]; exact hps x)
    rw [hR] at hy
    refine ⟨fn, _, assign, body, hy, roundIn_of_wpIn trivial (wpIn_mono (hround _ pre x rest W hx hlt hi) ?_)⟩
    rintro (_ | _ | _ | _ | _ | _) a' Wa h
    case normal =>
      obtain ⟨hga, hbody⟩ := h
      have hla : Wa.heap[w.heap.size + 1]? = some (.loop (R .ready none)) := (hga.block _ hlt (by simp)).trans hl
      have hda : Wa.heap[w.heap.size]? = some (.deferred (some [])) := (hga.block _ (by omega) (by simp)).trans hd
      have hlta := (Array.getElem?_eq_some_iff.1 hla).1
      refine ⟨_, run_beginRound hla (by rw [hR]), ?_⟩
      obtain ⟨Wb, hWb⟩ : ∃ Wb, Wb = Wa.putObj (w.heap.size + 1) (.loop { R .ready none with state := .busy }) := ⟨_, rfl⟩
      rw [← hWb]
      have hgb : Wa.grownBy Wb (some (w.heap.size + 1)) := by rw [hWb]; exact grownBy_putObj' _ _ _
      have hlb : Wb.heap[w.heap.size + 1]? = some (.loop { R .ready none with state := .busy }) := by rw [hWb]; exact World.putObj_heap_same hlta
      have hdb : Wb.heap[w.heap.size]? = some (.deferred (some [])) := by rw [hWb]; exact (World.putObj_heap_other (by omega)).trans hda
      have hib : I pre Wb := by rw [hWb]; exact hI.putObj _ (hI _ _ _ _ hi hga (fun r e => by cases e)) (by omega) hla rfl
      have kab : Kp T1 T2 n₀ W Wb := (Kp.grown hga (by omega) (fun k e => by cases e)).trans (by rw [hWb]; exact Kp.putObj _ hla rfl (by omega))
      have kfb : KeepsFrom W1.heap.size W Wb := ⟨Nat.le_trans hga.size hgb.size, fun k o hk hko _ => by
        have hkl := (Array.getElem?_eq_some_iff.1 hko).1
        rw [hgb.block k (Nat.lt_of_lt_of_le hkl hga.size) (by intro e; cases e; omega), hga.block k hkl (by simp), hko]⟩
      refine wpIn_mono (hbody Wb (by rw [hWb]; simp) (fun k hk => by rw [hWb]; exact World.putObj_heap_other hk) hib) ?_
      -- the round's end
      have fin : ∀ (jump : Option Code) (W3 : World), KeepsFrom w.heap.size Wb W3 →
          ∃ W4, (Instr.endRound (w.heap.size + 1) jump).run P W3 = .ok (.bool jump.isNone) W4 ∧ W4.heap[w.heap.size + 1]? = some (.loop (R (if jump.isNone then .ready else .done) jump)) ∧ W4.heap[w.heap.size]? = some (.deferred (some [])) ∧
            W4 = W3.putObj (w.heap.size + 1) (.loop (R (if jump.isNone then .ready else .done) jump)) ∧ W3.heap[w.heap.size + 1]? = some (.loop { R .ready none with state := .busy }) ∧ KeepsFrom W1.heap.size W W4 := fun jump W3 hk => by
        have hl3 := hk.same _ _ (by omega) hlb rfl
        have hd3 := hk.same _ _ (Nat.le_refl _) hdb rfl
        have hr := run_endRound (P := P) jump hl3
        refine ⟨W3.putObj (w.heap.size + 1) (.loop (R (if jump.isNone then .ready else .done) jump)), by rw [hr, hR], World.putObj_heap_same (Array.getElem?_eq_some_iff.1 hl3).1, (World.putObj_heap_other (by omega)).trans hd3, rfl, hl3, ?_⟩
        exact (kfb.trans (keepsFrom_mono hk (by omega))).trans ⟨by simp, fun k o hk' hko _ => (World.putObj_heap_other (by omega)).trans hko⟩
      rintro (_ | _ | _ | _ | _ | _) a3 W3 h3
      case normal =>
        obtain ⟨hk3, hp3, hi3⟩ := h3
        obtain ⟨W4, hr, hl4, hd4, e4, hl3, hk4⟩ := fin none W3 hk3
        refine ⟨_, W4, hr, .inl ⟨rfl, ⟨⟨by rw [e4]; exact hI.putObj _ hi3 (by omega) hl3 rfl, hl4⟩, hd4⟩, (kab.trans hp3).trans (by rw [e4]; exact Kp.putObj _ hl3 rfl (by omega)), hk4⟩⟩
      case ret =>
        obtain ⟨hk3, hi3⟩ := h3
        obtain ⟨W4, hr, hl4, hd4, e4, hl3, hk4⟩ := fin (some .ret) W3 hk3
        exact ⟨_, W4, hr, .inr ⟨rfl, ⟨⟨by rw [e4]; exact hIx.putObj _ hi3 (by omega) hl3 rfl, hl4⟩, hd4⟩, hk4⟩⟩
      all_goals exact h3.elim
    all_goals exact h.elim
  · rintro e W2 ⟨⟨v, rfl⟩, (⟨⟨hi, hl⟩, hd⟩ | ⟨pre, rest, hx, ⟨hi, hl⟩, hd⟩)⟩
    · have he := run_endLoop (P := P) hl (by rw [hR]; simp)
      rw [hR] at he
      exact ⟨none, _, he, hdone _ _ (Nat.le_refl _) (hI.putObj _ hi (by omega) hl rfl) ((World.putObj_heap_other (by omega)).trans hd)⟩
    · have he := run_endLoop (P := P) hl (by rw [hR]; simp)
      rw [hR] at he
      exact ⟨some .ret, _, he, hstop _ pre rest _ hx (Nat.le_refl _) (hIx.putObj _ hi (by omega) hl rfl) ((World.putObj_heap_other (by omega)).trans hd)⟩
end Go.Proofs.Ytbialeffdpmcjaa.it
