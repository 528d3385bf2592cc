/- Texts laid together: It1 It2 Sp5 Sp6 It3 It7 Ih2 Ih3 Ih4 Ih5. -/
import Derived.Test.YthjkhghlhjndmaaRows
import Derived.Test.YthjkhghlhjndmaaMg04
import Derived.Test.YthjkhghlhjndmaaMg08
import Derived.Test.YthjkhghlhjndmaaMg07
import Derived.RangeFuncNested
import Derived.RangeFuncBound
import Derived.RangeFuncCalls
import Derived.RangeFuncLeaves
import Derived.Shelf.Abstract
import Derived.Shelf.RegionOpen
import Derived.WalkKit
import Derived.OwnWalkIn
import Derived.TacticsInMore
import Derived.LoopNIn
import Derived.LoopIn
import Derived.RangeFuncBox
import Derived.Maps.AppendAt
import Derived.Deep.RegionHeld3
import Derived.BigQuiet
/- A law for a range over a function: what a round keeps is told by the types of the boxes and by the numbers of the blocks; so an iterator may itself range over another one. -/
namespace Go.Proofs.Ythjkhghlhjndmaa.it
open Go.RowKit Go.Shelf
set_option linter.unusedVariables false

/-- what a round keeps: all below n₀, and the boxes of the two types that iterators read between rounds -/
structure Kp (T1 T2 : TypeId) (n₀ : Nat) (W W' : World) : Prop where
  below : Below n₀ W W'
  box : ∀ k t v, (t = T1 ∨ t = T2) → Boxed W k t v → Boxed W' k t v
theorem Kp.refl {T1 T2 : TypeId} {n₀ : Nat} (W : World) : Kp T1 T2 n₀ W W := ⟨Below.refl _ _, fun _ _ _ _ h => h⟩
theorem Kp.trans {T1 T2 : TypeId} {n₀ : Nat} {A B D : World} (h : Kp T1 T2 n₀ A B) (k : Kp T1 T2 n₀ B D) : Kp T1 T2 n₀ A D := ⟨h.below.trans k.below, fun i t v ht hb => k.box i t v ht (h.box i t v ht hb)⟩
/-- a step that turns at most one block that is no such box -/
theorem Kp.grown {T1 T2 : TypeId} {n₀ : Nat} {W W' : World} {row : Option Nat} (hg : W.grownBy W' row) (hn : n₀ ≤ W.heap.size) (hr : ∀ k, row = some k → n₀ ≤ k ∧ ∀ t v, (t = T1 ∨ t = T2) → ¬ Boxed W k t v) : Kp T1 T2 n₀ W W' :=
  ⟨(Below.refl n₀ W).grown hg hn (fun k e => (hr k e).1), fun k t v ht hb => hb.kept hg (fun e => (hr k e.symm).2 t v ht hb)⟩
theorem Kp.putObj {T1 T2 : TypeId} {n₀ : Nat} {W : World} {l : Nat} {o : Obj} (o' : Obj) (h : W.heap[l]? = some o) (ho : o.isCells = false) (hn : n₀ ≤ l) : Kp T1 T2 n₀ W (W.putObj l o') :=
  Kp.grown (grownBy_putObj' W l o') (by have := (Array.getElem?_eq_some_iff.1 h).1; omega) (fun k e => by
    cases e
    refine ⟨hn, fun t v _ hb => ?_⟩
    rw [show W.heap[l]? = _ from hb] at h
    cases h
    cases ho)
theorem ownFrom_mono {β : Type} {B B' : Nat} {I : β → World → Prop} (h : OwnFrom B I) (hB : B ≤ B') : OwnFrom B' I := fun s X Y row hs hg hr => h s X Y row hs hg (fun r e => ⟨Nat.le_trans hB (hr r e).1, (hr r e).2⟩)
theorem keepsFrom_mono {B B' : Nat} {W W' : World} (h : KeepsFrom B W W') (hB : B ≤ B') : KeepsFrom B' W W' := ⟨h.size, fun k o hk => h.same k o (Nat.le_trans hB hk)⟩

/-- the iterator g yields xs, one by one, till a round says no more -/
def Seq {α : Type} (n : Nat) (P : Program) (g : Nat) (lb : Array Value) (encs : α → Array Value) (T1 T2 : TypeId) (n₀ : Nat) (xs : List α) (w : World) : Prop :=
  ∀ (l : Nat) (J Jx : List α → World → Prop) (W : World), Below w.heap.size w W → OwnFrom W.heap.size J → OwnFrom W.heap.size Jx →
    (∀ pre x rest W1, xs = pre ++ x :: rest → J pre W1 → YieldAt Fence.wide (n - 1) P l (encs x) W1 fun e W' =>
      (e = .returned (.bool true) ∧ J (pre ++ [x]) W' ∧ Kp T1 T2 n₀ W1 W' ∧ KeepsFrom W.heap.size W1 W') ∨ (e = .returned (.bool false) ∧ Jx (pre ++ [x]) W' ∧ KeepsFrom W.heap.size W1 W')) →
    J [] W →
    CallsIn Fence.wide n P g (#[.func (.yield l) #[] #[]] ++ lb) W fun e W' => (∃ v, e = .returned v) ∧ (J xs W' ∨ ∃ pre rest, xs = pre ++ rest ∧ Jx pre W')

/-- how a round's body may be left -/
def roundEnd {α : Type} (B : Nat) (T1 T2 : TypeId) (n₀ : Nat) (I Ix : List α → World → Prop) (pre : List α) (W : World) : Exit → Act → World → Prop
  | .normal, _, W' => KeepsFrom B W W' ∧ Kp T1 T2 n₀ W W' ∧ I pre W'
  | .ret, _, W' => KeepsFrom B W W' ∧ Ix pre W'
  | _, _, _ => False

variable {P : Program}

/-- THE LAW: a range over an iterator, at an outermost loop of a function; the body goes on or returns -/
theorem range_law {α : Type} (n : Nat) {g : Operand} {ps : Array Tmp} {assign body : Code} {Q : Exit → Act → World → Prop} {a : Act} {w : World}
    {gf : Nat} {lb : Array Value} (hg : a.eval g = .func (.func gf) #[] lb) (eg : Enters P gf)
    {encs : α → Array Value} {T1 T2 : TypeId} {n₀ : Nat} {xs : List α} {w0 : World} (hseq : Seq (n - 1) P gf lb encs T1 T2 n₀ xs w0) (hn₀ : n₀ ≤ w.heap.size) (hb0 : Below w0.heap.size w0 w) (hps : ∀ x, (encs x).size = ps.size)
    (I Ix : List α → World → Prop) (hI : OwnFrom w.heap.size I) (hIx : OwnFrom w.heap.size Ix) (h0 : I [] w)
    (hround : ∀ (l : Nat) (pre : List α) (x : α) (rest : List α) (W : World), xs = pre ++ x :: rest → w.heap.size + 1 < W.heap.size → I pre W →
      assign.wpIn (Fence.wide.inRound l) (n - 1 - 1) P (Exit.then (fun a' Wa => W.grownBy Wa none ∧ ∀ Wb : World, Wb.heap.size = Wa.heap.size → (∀ k, k ≠ w.heap.size + 1 → Wb.heap[k]? = Wa.heap[k]?) → I pre Wb →
        body.wpIn (Fence.wide.inRound l) (n - 1 - 1) P (roundEnd w.heap.size T1 T2 n₀ I Ix (pre ++ [x]) Wb) a' Wb) (fun _ _ _ => False))
        { tmps := (ps.zip (encs x)).foldl (fun t (p, v) => t.setIfInBounds p v) a.tmps, defers := [] } W)
    (hdone : ∀ (D : Nat) (W : World), w.heap.size ≤ D → I xs W → W.heap[D]? = some (.deferred (some [])) → Q .normal { a with defers := { target := .collected D, args := #[] } :: a.defers } W)
    (hstop : ∀ (D : Nat) (pre rest : List α) (W : World), xs = pre ++ rest → w.heap.size ≤ D → Ix pre W → W.heap[D]? = some (.deferred (some [])) → Code.ret.wpIn Fence.wide n P Q { a with defers := { target := .collected D, args := #[] } :: a.defers } W) :
    (Code.rangeFunc g ps assign body).wpIn Fence.wide n P Q a w := by
  refine wpIn_rangeFunc fun fn _ => ?_
  obtain ⟨R, hR⟩ : ∃ R : LoopState → Option Code → Loop, R = fun st pe => ⟨st, pe, fn, a.tmps, ps, assign, body, w.heap.size⟩ := ⟨_, rfl⟩
  obtain ⟨W1, hW1⟩ : ∃ W1, W1 = (w.alloc (.deferred (some []))).alloc (.loop (R .ready none)) := ⟨_, rfl⟩
  have hg1 : (w.alloc (.deferred (some []))).grownBy W1 none := by rw [hW1]; exact World.grownBy_alloc _ _ none
  have hg0 : w.grownBy (w.alloc (.deferred (some []))) none := World.grownBy_alloc _ _ none
  have size1 : W1.heap.size = w.heap.size + 2 := by rw [hW1]; simp
  have hD1 : W1.heap[w.heap.size]? = some (.deferred (some [])) := (hg1.block _ (by simp) (by simp)).trans (World.alloc_heap_new w _)
  have hL1 : W1.heap[w.heap.size + 1]? = some (.loop (R .ready none)) := by
    have := World.alloc_heap_new (w.alloc (.deferred (some []))) (.loop (R .ready none)); rw [World.size_alloc, ← hW1] at this; exact this
  have hI1 : I [] W1 := by rw [hW1]; exact hI.alloc _ (hI.alloc _ h0)
  have hb1 : Below w0.heap.size w0 W1 := (hb0.grown hg0 hb0.size (fun k e => by cases e)).grown hg1 (by have := hb0.size; simp; omega) (fun k e => by cases e)
  refine ⟨w.heap.size + 1, [{ target := .collected w.heap.size, args := #[] }], W1, { target := .fn (.func gf) lb, args := #[.func (.yield (w.heap.size + 1)) #[] #[]] }, W1, gf, #[.func (.yield (w.heap.size + 1)) #[] #[]] ++ lb, W1, ?_, ?_, fun _ _ => trivial, ?_, (fun h => by cases h), ?_⟩
  · rw [hW1, hR]; exact run_enterLoop_outer _ _ _ _ _
  · simp only [resolve, hg]
    simp [go_sem]
  · simp [invoke, go_sem, eg _ _]
  -- the two blocks that the loop laid, as the iterator's call leaves them
  have keeps : ∀ {A B : World} {row : Option Nat} {k : Nat} {o : Obj}, A.grownBy B row → (∀ r, row = some r → W1.heap.size ≤ r ∧ ∃ o : Obj, A.heap[r]? = some o ∧ o.isCells = false) → k < w.heap.size + 2 → A.heap[k]? = some o → B.heap[k]? = some o := fun hg hr hk ho =>
    (hg.block _ (Array.getElem?_eq_some_iff.1 ho).1 (fun e => by have := (hr _ e.symm).1; omega)).trans ho
  have lift : ∀ {A : World} {row : Option Nat}, (∀ r, row = some r → W1.heap.size ≤ r ∧ ∃ o : Obj, A.heap[r]? = some o ∧ o.isCells = false) → ∀ r, row = some r → w.heap.size ≤ r ∧ ∃ o : Obj, A.heap[r]? = some o ∧ o.isCells = false := fun hr r e => ⟨by have := (hr r e).1; omega, (hr r e).2⟩
  refine (hseq (w.heap.size + 1)
    (fun pre W => (I pre W ∧ W.heap[w.heap.size + 1]? = some (.loop (R .ready none))) ∧ W.heap[w.heap.size]? = some (.deferred (some [])))
    (fun pre W => (Ix pre W ∧ W.heap[w.heap.size + 1]? = some (.loop (R .done (some .ret)))) ∧ W.heap[w.heap.size]? = some (.deferred (some [])))
    W1 hb1
    (fun s A B row hs hg hr => ⟨⟨hI s A B row hs.1.1 hg (lift hr), keeps hg hr (by omega) hs.1.2⟩, keeps hg hr (by omega) hs.2⟩)
    (fun s A B row hs hg hr => ⟨⟨hIx s A B row hs.1.1 hg (lift hr), keeps hg hr (by omega) hs.1.2⟩, keeps hg hr (by omega) hs.2⟩)
    ?_ ⟨⟨hI1, hL1⟩, hD1⟩).mono ?_
  · rintro pre x rest W hx ⟨⟨hi, hl⟩, hd⟩
    have hlt := (Array.getElem?_eq_some_iff.1 hl).1
    have hy := run_yield (P := P) (args := encs x) hl (by rw [hR]; exact hps x)
    rw [hR] at hy
    refine ⟨fn, _, assign, body, hy, roundIn_of_wpIn trivial (wpIn_mono (hround _ pre x rest W hx hlt hi) ?_)⟩
    rintro (_ | _ | _ | _ | _ | _) a' Wa h
    case normal =>
      obtain ⟨hga, hbody⟩ := h
      have hla : Wa.heap[w.heap.size + 1]? = some (.loop (R .ready none)) := (hga.block _ hlt (by simp)).trans hl
      have hda : Wa.heap[w.heap.size]? = some (.deferred (some [])) := (hga.block _ (by omega) (by simp)).trans hd
      have hlta := (Array.getElem?_eq_some_iff.1 hla).1
      refine ⟨_, run_beginRound hla (by rw [hR]), ?_⟩
      obtain ⟨Wb, hWb⟩ : ∃ Wb, Wb = Wa.putObj (w.heap.size + 1) (.loop { R .ready none with state := .busy }) := ⟨_, rfl⟩
      rw [← hWb]
      have hgb : Wa.grownBy Wb (some (w.heap.size + 1)) := by rw [hWb]; exact grownBy_putObj' _ _ _
      have hlb : Wb.heap[w.heap.size + 1]? = some (.loop { R .ready none with state := .busy }) := by rw [hWb]; exact World.putObj_heap_same hlta
      have hdb : Wb.heap[w.heap.size]? = some (.deferred (some [])) := by rw [hWb]; exact (World.putObj_heap_other (by omega)).trans hda
      have hib : I pre Wb := by rw [hWb]; exact hI.putObj _ (hI _ _ _ _ hi hga (fun r e => by cases e)) (by omega) hla rfl
      have kab : Kp T1 T2 n₀ W Wb := (Kp.grown hga (by omega) (fun k e => by cases e)).trans (by rw [hWb]; exact Kp.putObj _ hla rfl (by omega))
      have kfb : KeepsFrom W1.heap.size W Wb := ⟨Nat.le_trans hga.size hgb.size, fun k o hk hko _ => by
        have hkl := (Array.getElem?_eq_some_iff.1 hko).1
        rw [hgb.block k (Nat.lt_of_lt_of_le hkl hga.size) (by intro e; cases e; omega), hga.block k hkl (by simp), hko]⟩
      refine wpIn_mono (hbody Wb (by rw [hWb]; simp) (fun k hk => by rw [hWb]; exact World.putObj_heap_other hk) hib) ?_
      -- the round's end
      have fin : ∀ (jump : Option Code) (W3 : World), KeepsFrom w.heap.size Wb W3 →
          ∃ W4, (Instr.endRound (w.heap.size + 1) jump).run P W3 = .ok (.bool jump.isNone) W4 ∧ W4.heap[w.heap.size + 1]? = some (.loop (R (if jump.isNone then .ready else .done) jump)) ∧ W4.heap[w.heap.size]? = some (.deferred (some [])) ∧
            W4 = W3.putObj (w.heap.size + 1) (.loop (R (if jump.isNone then .ready else .done) jump)) ∧ W3.heap[w.heap.size + 1]? = some (.loop { R .ready none with state := .busy }) ∧ KeepsFrom W1.heap.size W W4 := fun jump W3 hk => by
        have hl3 := hk.same _ _ (by omega) hlb rfl
        have hd3 := hk.same _ _ (Nat.le_refl _) hdb rfl
        have hr := run_endRound (P := P) jump hl3
        refine ⟨W3.putObj (w.heap.size + 1) (.loop (R (if jump.isNone then .ready else .done) jump)), by rw [hr, hR], World.putObj_heap_same (Array.getElem?_eq_some_iff.1 hl3).1, (World.putObj_heap_other (by omega)).trans hd3, rfl, hl3, ?_⟩
        exact (kfb.trans (keepsFrom_mono hk (by omega))).trans ⟨by simp, fun k o hk' hko _ => (World.putObj_heap_other (by omega)).trans hko⟩
      rintro (_ | _ | _ | _ | _ | _) a3 W3 h3
      case normal =>
        obtain ⟨hk3, hp3, hi3⟩ := h3
        obtain ⟨W4, hr, hl4, hd4, e4, hl3, hk4⟩ := fin none W3 hk3
        refine ⟨_, W4, hr, .inl ⟨rfl, ⟨⟨by rw [e4]; exact hI.putObj _ hi3 (by omega) hl3 rfl, hl4⟩, hd4⟩, (kab.trans hp3).trans (by rw [e4]; exact Kp.putObj _ hl3 rfl (by omega)), hk4⟩⟩
      case ret =>
        obtain ⟨hk3, hi3⟩ := h3
        obtain ⟨W4, hr, hl4, hd4, e4, hl3, hk4⟩ := fin (some .ret) W3 hk3
        exact ⟨_, W4, hr, .inr ⟨rfl, ⟨⟨by rw [e4]; exact hIx.putObj _ hi3 (by omega) hl3 rfl, hl4⟩, hd4⟩, hk4⟩⟩
      all_goals exact h3.elim
    all_goals exact h.elim
  · rintro e W2 ⟨⟨v, rfl⟩, (⟨⟨hi, hl⟩, hd⟩ | ⟨pre, rest, hx, ⟨hi, hl⟩, hd⟩)⟩
    · have he := run_endLoop (P := P) hl (by rw [hR]; simp)
      rw [hR] at he
      exact ⟨none, _, he, hdone _ _ (Nat.le_refl _) (hI.putObj _ hi (by omega) hl rfl) ((World.putObj_heap_other (by omega)).trans hd)⟩
    · have he := run_endLoop (P := P) hl (by rw [hR]; simp)
      rw [hR] at he
      exact ⟨some .ret, _, he, hstop _ pre rest _ hx (Nat.le_refl _) (hIx.putObj _ hi (by omega) hl rfl) ((World.putObj_heap_other (by omega)).trans hd)⟩
end Go.Proofs.Ythjkhghlhjndmaa.it
/- The chain's iterator: what it yields, one by one. -/
namespace Go.Proofs.Ythjkhghlhjndmaa.it
open Go.RowKit Go.Shelf Go.Proofs.Ythjkhghlhjndmaa.ce
set_option linter.unusedVariables false

abbrev T1 : TypeId := 101
abbrev T2 : TypeId := 103
def links (H : List C) (L : List Int) : List (Int × C) := L.map fun p => (p, nth H p)
def encL (x : Int × C) : Array Value := #[.int .i64 x.1, .agg #[.int .i64 x.2.key, .int .i64 x.2.value, .int .i64 x.2.next, .bool x.2.gone]]

theorem chained_any (v : Value) (a : Option Addr) (n cap : Nat) (hv : v = .slice a n cap) (w : World) :
    Calls Try.prog 107 #[v] w fun e w' => e = .returned (.func (.func 110) #[] #[.pointer (some ⟨w.heap.size, 0, none⟩)]) ∧ w' = w.alloc (.cells #[v] T1) := by
  subst hv
  go_enter Try.func107, Try.ntmps107
  go_wp2
  go_ret
  exact ⟨rfl, rfl⟩

theorem links_snoc (H : List C) (A : List Int) (p : Int) : links H (A ++ [p]) = links H A ++ [(p, nth H p)] := by simp [links]

set_option maxRecDepth 100000 in
set_option maxHeartbeats 2000000 in
theorem chained1_seq (H : List C) (u : Up H) (hlen : H.length ≤ 1048576) (v : Value) (hi n₀ Bn : Nat) (w : World) (hn₀ : n₀ ≤ w.heap.size) (hh : hi ≤ n₀) (hB : Boxed w Bn T1 v) (r : Rd w hi v H) (n : Nat) :
    Seq n Try.prog 110 #[.pointer (some ⟨Bn, 0, none⟩)] encL T1 T2 n₀ (links H (chain H)) w := by
  intro l J Jx W hW hJ hJx hY h0
  have hBW : Boxed W Bn T1 v := (hW.block Bn hB.lt).trans hB
  have rW : Rd W hi v H := r.below hW (by omega)
  obtain ⟨a, cap, rfl⟩ := r.form
  clear r hB
  refine callsIn_of_wp Try.func110 rfl trivial ?_ rfl
  simp only [Try.ntmps110, List.size_toArray, List.length_cons, List.length_nil, Nat.reduceAdd, Nat.reduceSub, Array.replicate_succ, Array.replicate_zero, List.push_toArray, List.append_toArray, List.nil_append, List.cons_append]
  gi_wp2
  gi_loopw [3] (fun p wr => ∃ (A L : List Int) (q : Int), p = .int .i64 q ∧ chain H = A ++ L ∧ Ch H q L ∧ (q = -1 ∨ ce.has H q) ∧ Boxed wr Bn T1 (.slice a H.length cap) ∧ Rd wr hi (.slice a H.length cap) H ∧ J (links H A) wr)
    (fun p wr => left H (intOf p))
  case atStart =>
    exact ⟨[], chain H, 0, rfl, rfl, chain_ch u, .inr (has_zero u), hBW, rW, h0⟩
  case round =>
    obtain ⟨A, L, q, rfl, hc, hch, hq, hb, hr, hj⟩ := hrel
    cases L with
    | nil =>
      have hq0 : q < 0 := hch
      obtain rfl : q = -1 := by rcases hq with e | e; (· exact e); (· have := e.1; omega)
      gi_wp2
      go_end0
      exact ⟨⟨_, rfl⟩, .inl (by first | exact hj | (rw [hc, List.append_nil]; exact hj))⟩
    | cons y L =>
      obtain ⟨rfl, hq0, hch'⟩ := hch
      have hh1 : ce.has H q := by rcases hq with e | e; (· omega); (· exact e)
      obtain ⟨i, rfl⟩ : ∃ i : Nat, q = i := ⟨q.toNat, by omega⟩
      have hi1 : i < H.length := by have := hh1.2; omega
      have hi1' : (i : Int) < H.length := by omega
      have en := nth_nat H i hi1
      have hne : (((i : Int) == -1) = false) := by simp
      obtain ⟨b, off, rfl, hbh, c0, c1, c2, c3⟩ := hr.cell i hi1
      have hbc := hb.cell
      obtain ⟨fn, tmps, assign, body, hy, hR⟩ := hY (links H A) ((i : Int), nth H i) (links H L) wr (by rw [hc]; simp [links]) hj
      rw [en] at hy
      dsimp only [encL] at hy
      gi_wp2
      refine ⟨fun h => (by cases h), hR.mono ?_⟩
      rintro e W3 (⟨rfl, hj3, hk3, -⟩ | ⟨rfl, hx3, -⟩)
      · have hb3 := hk3.box Bn T1 _ (.inl rfl) hb
        have hr3 := hr.below hk3.below hh
        have hbc3 := hb3.cell
        have c23 : W3.cell? ⟨b, off + i * 4 + 2, none⟩ = some (.int .i64 (H[i]).next) := (hk3.below.cell (p := ⟨b, off + i * 4 + 2, none⟩) (Nat.lt_of_lt_of_le hbh hh)).trans c2
        clear hbc c0 c1 c2 c3
        gi_wp2
        go_roundw
        case rel =>
          refine ⟨A ++ [(i : Int)], L, (H[i]).next, rfl, by simp [hc], by rw [← en]; exact hch', ?_, hb3, hr3, by rw [links_snoc]; exact hj3⟩
          rw [← en]
          rcases u.next _ hh1 with e | e
          · exact .inl e
          · exact .inr e.1
        case measure =>
          show left H (H[i]).next < left H (i : Int)
          rw [← en]
          exact left_lt u hh1
      · gi_wp2
        refine bodyPost_ret (results_none rfl _ _ _) rfl ?_
        exact ⟨⟨_, rfl⟩, .inr ⟨_, links H L, by rw [hc]; simp [links], hx3⟩⟩
end Go.Proofs.Ythjkhghlhjndmaa.it
/- Contracts: the model's chapter 4, those that go along the chain. -/
namespace Go.Proofs.Ythjkhghlhjndmaa.ce
open Go.ChangeShapes Go.WideShapes Go.ChangeAt Go.RowKit
set_option linter.unusedVariables false

def alive (H : List C) (L : List Int) : List Int := (L.filter fun x => !(nth H x).gone).map fun x => (nth H x).key
theorem alive_gone (H : List C) (L : List Int) (x : Int) (h : (nth H x).gone = true) : alive H (L ++ [x]) = alive H L := by simp [alive, List.filter_append, h]
theorem alive_live (H : List C) (L : List Int) (x : Int) (h : (nth H x).gone = false) : alive H (L ++ [x]) = alive H L ++ [(nth H x).key] := by simp [alive, List.filter_append, h]
theorem alive_len (H : List C) (L : List Int) : (alive H L).length ≤ L.length := by simp [alive]; exact List.length_filter_le _ _
def goneC (H : List C) (L : List Int) : Nat := (L.filter fun x => (nth H x).gone).length
theorem goneC_gone (H : List C) (L : List Int) (x : Int) (h : (nth H x).gone = true) : goneC H (L ++ [x]) = goneC H L + 1 := by simp [goneC, List.filter_append, h]
theorem goneC_live (H : List C) (L : List Int) (x : Int) (h : (nth H x).gone = false) : goneC H (L ++ [x]) = goneC H L := by simp [goneC, List.filter_append, h]
theorem goneC_len (H : List C) (L : List Int) : goneC H L ≤ L.length := List.length_filter_le _ _
/-- the cell that the k-th of the chain is -/
theorem chain_at {H : List C} (u : Up H) {L : List Int} (hL : ∀ x ∈ L, has H x) (k : Nat) (hk : k < L.length) : ∃ (i : Nat) (hi : i < H.length), L[k] = (i : Int) ∧ nth H L[k] = H[i] := by
  have h := hL _ (List.getElem_mem hk)
  refine ⟨(L[k]).toNat, by have := h.1; have := h.2; omega, by have := h.1; omega, ?_⟩
  unfold nth
  rw [List.getD_eq_getElem?_getD, List.getElem?_eq_getElem (by have := h.1; have := h.2; omega)]
  rfl

theorem l4Living_any (H : List C) (u : Up H) (hlen : H.length ≤ 1048576) (v : Value) (hi : Nat) (w : World) (hh : hi ≤ w.heap.size) (r : Rd w hi v H) :
    Calls Try.prog 74 #[v] w fun e w' => ∃ v', e = .returned v' ∧ OwnI w' w.heap.size w'.heap.size v' (living H) ∧ Below w.heap.size w w' := by
  obtain ⟨a, cap, rfl⟩ := r.form
  have R : Hid (Rd w hi (.slice a H.length cap) H) := r
  obtain ⟨M, hM, -⟩ := chain_head u
  have eL : Hid (living H = alive H M) := by unfold Hid living alive; rw [hM]; rfl
  rw [eL.out]
  have hcl : M.length + 1 ≤ 65536 := by have := chain_len u; rw [hM] at this; simpa using this
  have hM' : Hid (chain H = 0 :: M) := hM
  have hMh : Hid (∀ x ∈ M, has H x) := fun x hx => chain_has u x (by rw [hM]; exact List.mem_cons_of_mem _ hx)
  have U : Hid (Up H) := u
  clear r hM
  have hB0 : Below w.heap.size w (w.alloc (.cells #[] 2)) := (Below.refl _ w).alloc (Nat.le_refl _) _
  have hE : Hid (OwnI (w.alloc (.cells #[] 2)) w.heap.size (w.heap.size + 1) (.slice (some ⟨w.heap.size, 0, none⟩) 0 0) []) := ownI_empty w
  go_enter Try.func74, Try.ntmps74
  go_wp2_with (first | (go_at_call 76; refine (l4Chain_any H u hlen _ hi _ (by simp; omega) (R.out.below hB0 hh)).mono ?_; rintro e w1 ⟨vl, rfl, hO1, hB1⟩; rw [hM'.out] at hO1) | (fail))
  have hz1 : w.heap.size + 1 ≤ w1.heap.size := by have := hB1.size; simpa using this
  have hBw : Below w.heap.size w w1 := hB0.trans (hB1.mono (by simp))
  have hE1 : Hid (OwnI w1 w.heap.size (w.heap.size + 1) (.slice (some ⟨w.heap.size, 0, none⟩) 0 0) []) := hE.out.below hB1 (by simp)
  have R1 : Hid (Rd w1 hi (.slice a H.length cap) H) := R.out.below hBw hh
  have RL : Hid (RdI w1 w1.heap.size vl (0 :: M)) := hO1.rd
  obtain ⟨al, capl, rfl⟩ := hO1.rd.form
  clear hO1 R hE
  go_loopw [3, 5] (fun vv p wr => ∃ k : Nat, k ≤ M.length ∧ p = .int .i64 ((k : Int) + 1) ∧ Hid (OutI wr w.heap.size w1.heap.size wr.heap.size vv (alive H (M.take k))) ∧ Below w1.heap.size w1 wr) (fun _ p _ => M.length + 1 - (intOf p).toNat)
  case atStart => exact ⟨0, by omega, rfl, .inl ⟨rfl, rfl⟩, Below.refl _ _⟩
  case round =>
    obtain ⟨k, hk, rfl, ho, hBr⟩ := hrel
    have hzr := hBr.size
    by_cases hlt : k < M.length
    · obtain ⟨i, hi1, ei, en⟩ := chain_at u hMh.out k hlt
      obtain ⟨z, hz⟩ := hid_ex (H[i])
      obtain ⟨b, off, rfl, hb, d0⟩ := (RL.out.below hBr (Nat.le_refl _)).cell (k + 1) (by simp; omega)
      obtain ⟨b', off', rfl, hb', c0, c1, c2, c3⟩ := (R1.out.below hBr (by omega)).cell i hi1
      simp only [List.getElem_cons_succ] at d0
      rw [ei] at d0 en
      rw [hz.out] at c0 c3 en
      clear c1 c2
      have hlt' : (k : Int) + 1 < (M.length : Int) + 1 := by omega
      have hi1' : (i : Int) < H.length := by omega
      have htk : Hid (M.take (k + 1) = M.take k ++ [(i : Int)]) := by unfold Hid; rw [List.take_succ_eq_append_getElem hlt, ei]
      cases hg : z.gone with
      | true =>
        rw [hg] at c3
        go_wp2
        go_roundw
        case rel =>
          refine ⟨k + 1, by omega, by go_num, ?_, hBr⟩
          have e := alive_gone H (M.take k) (i : Int) (by rw [en]; exact hg)
          rw [← htk.out] at e
          rw [e]
          exact ho
        case measure => simp [intOf]; omega
      | false =>
        rw [hg] at c3
        have hAl : (alive H (M.take k)).length + 1 ≤ 65536 := by have := alive_len H (M.take k); simp at this; omega
        go_wp2_with (first | (at_builtin; refine wpList_append_o rfl _ _ 45 rfl Try.underlying45 w.heap.size w1.heap.size wr.heap.size _ (alive H (M.take k)) rfl (ho.out.below ((Below.refl wr.heap.size wr).alloc (Nat.le_refl _) _) (Nat.le_refl _)) (by simp; omega) wr.heap.size 1 1 [z.key] rfl rfl (Nat.le_refl _) (one_range wr _) (by simp; omega) ?_; intro v' w2 hO2 hB2) | (fail))
        have e := alive_live H (M.take k) (i : Int) (by rw [en]; exact hg)
        rw [← htk.out, en] at e
        refine ⟨?_, by simp [intOf]; omega⟩
        repeat apply Exists.intro
        refine ⟨⟨k + 1, by omega, by go_num, ?_, (hBr.alloc (by omega) _).trans hB2⟩, rfl⟩
        rw [e]
        exact .inr hO2
    · have ek : k = M.length := by omega
      have hlt' : ¬ ((k : Int) + 1 < (M.length : Int) + 1) := by omega
      have ho' : Hid (OutI wr w.heap.size w1.heap.size wr.heap.size u3 (alive H M)) := by
        have := ho
        rw [ek, List.take_length] at this
        exact this
      go_wp2
      go_ret
      exact ⟨_, rfl, ho'.out.own (by omega) ((hE1.out.below hBr (by omega)).wide (Nat.le_refl _) (by omega)), hBw.trans (hBr.mono (by omega))⟩

theorem specLiving_any (H : List C) (v : Value) (hi : Nat) (w : World) (hh : hi ≤ w.heap.size) (r : Rd w hi v H) :
    Calls Try.prog 42 #[v] w fun e w' => ∃ v', e = .returned v' ∧ OwnI w' w.heap.size w'.heap.size v' (livingL H) ∧ Below w.heap.size w w' := by
  obtain ⟨a, cap, rfl⟩ := r.form
  have R : Hid (Rd w hi (.slice a H.length cap) H) := r
  clear r
  by_cases hok : heapOk H
  · have HK : Hid (decide (heapOk H) = true) := decide_eq_true hok
    have eL : Hid (livingL H = living H) := if_pos hok
    rw [eL.out]
    have h2 : H.length ≤ 1048576 := by have := hok.1.2; omega
    have U : Hid (Up H) := up_ok hok
    clear hok
    go_enter Try.func42, Try.ntmps42
    go_wp2_with (first | (go_at_call 38; refine (specHeapOk_any H _ hi _ hh R.out).mono ?_; rintro e w1 ⟨rfl, hB1⟩; rw [HK.out]; have hz1 := hB1.size) | (go_at_call 74; refine (l4Living_any H U.out h2 _ hi _ (by omega) (R.out.below hB1 hh)).mono ?_; rintro e w2 ⟨v2, rfl, hO2, hB2⟩) | (fail))
    go_ret
    exact ⟨_, rfl, hO2.wide (by omega) (Nat.le_refl _), hB1.trans (hB2.mono hz1)⟩
  · have HK : Hid (decide (heapOk H) = false) := decide_eq_false hok
    have eL : Hid (livingL H = []) := if_neg hok
    rw [eL.out]
    clear hok
    go_enter Try.func42, Try.ntmps42
    go_wp2_with (first | (go_at_call 38; refine (specHeapOk_any H _ hi _ hh R.out).mono ?_; rintro e w1 ⟨rfl, hB1⟩; rw [HK.out]; have hz1 := hB1.size) | (fail))
    go_ret
    exact ⟨_, rfl, (ownI_empty w1).wide (by omega) (by simp), hB1.alloc (by omega) _⟩

end Go.Proofs.Ythjkhghlhjndmaa.ce
/- Contracts: the model's ValueAt. -/
namespace Go.Proofs.Ythjkhghlhjndmaa.ce
open Go.ChangeShapes Go.WideShapes Go.ChangeAt Go.RowKit
set_option linter.unusedVariables false

def hit (H : List C) (key : Int) (x : Int) : Bool := !(nth H x).gone && (nth H x).key == key
theorem find_none {p : Int → Bool} {M : List Int} (h : ∀ x ∈ M, p x = false) : M.find? p = none := List.find?_eq_none.2 fun x hx => by rw [h x hx]; simp
theorem find_at {p : Int → Bool} {M : List Int} (k : Nat) (hk : k < M.length) (h : ∀ x ∈ M.take k, p x = false) (hp : p M[k] = true) : M.find? p = some M[k] := by
  have e : M = M.take k ++ M[k] :: M.drop (k + 1) := by rw [← List.drop_eq_getElem_cons hk, List.take_append_drop]
  have h1 : List.find? p (M.take k ++ M[k] :: M.drop (k + 1)) = some M[k] := by
    rw [List.find?_append, find_none h, List.find?_cons, hp]
    rfl
  rw [← e] at h1
  exact h1
theorem valueAt_find {H : List C} {M : List Int} (hM : chain H = 0 :: M) (key : Int) : valueAt H key = match M.find? (hit H key) with | some x => ((nth H x).value, true) | none => (0, false) := by
  unfold valueAt
  rw [hM]
  rfl

end Go.Proofs.Ythjkhghlhjndmaa.ce
/- Contracts: the program's Chain and Gone. -/
namespace Go.Proofs.Ythjkhghlhjndmaa.it
open Go.RowKit Go.Shelf Go.Proofs.Ythjkhghlhjndmaa.ce
set_option linter.unusedVariables false
attribute [local go_sem] Oper.semAt_some

theorem links_fst (H : List C) (L : List Int) : (links H L).map Prod.fst = L := by simp [links, List.map_map, Function.comp_def]

theorem Kp.appended {W w1 : World} {n₀ B : Nat} {t e : TypeId} {size : Nat} {v v' : Value} {k : Nat} {xs : List Value} {tmp : Obj} (hv : Boxed W B t v) (hrow : W.ownsRow n₀ e size v k xs) (hgrow : (W.alloc tmp).grownBy w1 v.ownBlock)
    (hb : Below n₀ W (w1.setCell ⟨B, 0, none⟩ v')) (h1 : T1 ≠ e) (h2 : T2 ≠ e) (h3 : T1 ≠ t) (h4 : T2 ≠ t) : Kp T1 T2 n₀ W (w1.setCell ⟨B, 0, none⟩ v') := by
  refine ⟨hb, fun j s u hs hj => ?_⟩
  have hse : s ≠ e := by rcases hs with rfl | rfl; (· exact h1); (· exact h2)
  have hst : s ≠ t := by rcases hs with rfl | rfl; (· exact h3); (· exact h4)
  refine ((hj.alloc tmp).kept hgrow (hj.not_row hse hrow)).other (fun e' => ?_) _
  subst e'
  have := (show W.heap[j]? = _ from hj).symm.trans hv
  simp at this
  exact hst this.2
theorem grown_refl (W : World) : W.grownBy W none := ⟨rfl, rfl, rfl, Nat.le_refl _, fun _ _ _ => rfl⟩
/-- a block is turned at the function's end that was not there at its beginning -/
theorem below_put {n₀ : Nat} {w W : World} {D : Nat} {o : Obj} (o' : Obj) (hB : Below n₀ w W) (hn : n₀ ≤ D) (hD : W.heap[D]? = some o) : Below n₀ w (W.putObj D o') :=
  hB.trans ((Below.refl n₀ W).grown (grownBy_putObj' W D o') (by have := (Array.getElem?_eq_some_iff.1 hD).1; omega) (fun k e => by cases e; exact hn))

theorem Kp.setBox {W : World} {n₀ B : Nat} {t : TypeId} {v : Value} (u : Value) (hv : Boxed W B t v) (hn : n₀ ≤ B) (h3 : T1 ≠ t) (h4 : T2 ≠ t) : Kp T1 T2 n₀ W (W.setCell ⟨B, 0, none⟩ u) :=
  Kp.grown (grownBy_setCell' W B u) (by have := hv.lt; omega) (fun k e => by
    cases e
    refine ⟨hn, fun s x hs hx => ?_⟩
    have := (show W.heap[B]? = _ from hx).symm.trans hv
    simp at this
    rcases hs with rfl | rfl
    · exact h3 this.2
    · exact h4 this.2)
def cnt (pre : List (Int × C)) : Nat := (pre.filter fun x => x.2.gone).length
theorem cnt_gone (pre : List (Int × C)) (x : Int × C) (h : x.2.gone = true) : cnt (pre ++ [x]) = cnt pre + 1 := by simp [cnt, List.filter_append, h]
theorem cnt_live (pre : List (Int × C)) (x : Int × C) (h : x.2.gone = false) : cnt (pre ++ [x]) = cnt pre := by simp [cnt, List.filter_append, h]
theorem cnt_links (H : List C) (L : List Int) : cnt (links H L) = goneC H L := by simp [cnt, links, goneC, List.filter_map, Function.comp_def]
theorem cnt_len (pre : List (Int × C)) : cnt pre ≤ pre.length := List.length_filter_le _ _

end Go.Proofs.Ythjkhghlhjndmaa.it
/- Contracts: the program's inChain and walkable. -/
namespace Go.Proofs.Ythjkhghlhjndmaa.it
open Go.RowKit Go.Shelf Go.Proofs.Ythjkhghlhjndmaa.ce
set_option linter.unusedVariables false
attribute [local go_sem] Oper.semAt_some

theorem boxed_below {W W' : World} {n B : Nat} {t : TypeId} {v : Value} (h : Boxed W B t v) (hb : Below n W W') (hn : B < n) : Boxed W' B t v := (hb.block B hn).trans h

set_option maxRecDepth 100000 in
set_option maxHeartbeats 2000000 in
theorem inChain_any (H : List C) (hok : heapOk H) (p : Int) (v : Value) (hi : Nat) (w : World) (hh : hi ≤ w.heap.size) (r : Rd w hi v H) :
    Calls Try.prog 99 #[v, .int .i64 p] w fun e w' => e = .returned (.bool (decide (p ∈ chain H))) ∧ Below w.heap.size w w' := by
  obtain ⟨a, cap, rfl⟩ := r.form
  have R : Hid (Rd w hi (.slice a H.length cap) H) := r
  clear r
  obtain ⟨z, hz⟩ := hid_ex (decide (p ∈ chain H))
  rw [hz.out]
  have h2 : H.length ≤ 1048576 := by have := hok.1.2; omega
  have U : Hid (Up H) := up_ok hok
  clear hok
  have hB0 : Below w.heap.size w ((w.alloc (.cells #[.int .i64 p] 2)).alloc (.cells #[.bool false] 4)) := ((Below.refl _ w).alloc (Nat.le_refl _) _).alloc (by simp) _
  have bK := (Boxed.new w 2 (.int .i64 p)).alloc (.cells #[.bool false] 4)
  have bT := Boxed.new (w.alloc (.cells #[.int .i64 p] 2)) 4 (.bool false)
  simp only [World.size_alloc] at bT
  have bH := Boxed.new ((w.alloc (.cells #[.int .i64 p] 2)).alloc (.cells #[.bool false] 4)) T1 (.slice a H.length cap)
  simp only [World.size_alloc] at bH
  replace bK := bK.alloc (.cells #[.slice a H.length cap] T1)
  replace bT := bT.alloc (.cells #[.slice a H.length cap] T1)
  have hB2 : Below w.heap.size w (((w.alloc (.cells #[.int .i64 p] 2)).alloc (.cells #[.bool false] 4)).alloc (.cells #[.slice a H.length cap] T1)) := hB0.alloc (by simp; omega) _
  refine (callsIn_wide (n := 3)).1 ?_
  refine callsIn_of_wp_marks Try.func99 rfl trivial ?_ rfl
  simp only [Try.ntmps99, List.size_toArray, List.length_cons, List.length_nil, Nat.reduceAdd, Nat.reduceSub, Array.replicate_succ, Array.replicate_zero, List.push_toArray, List.append_toArray, List.nil_append, List.cons_append]
  gi_wp2_with (first | (refine ⟨trivial, ?_⟩; gi_at_call 107; refine (callsIn_wide.2 (chained_any _ _ _ _ rfl _)).mono ?_; rintro e w2 ⟨rfl, rfl⟩) | (fail))
  obtain ⟨W0, hW0⟩ : ∃ W0, ((w.alloc (.cells #[.int .i64 p] 2)).alloc (.cells #[.bool false] 4)).alloc (.cells #[.slice a H.length cap] T1) = W0 := ⟨_, rfl⟩
  have hsz : W0.heap.size = w.heap.size + 1 + 1 + 1 := by rw [← hW0]; simp
  rw [hW0] at bK bT bH hB2 ⊢
  refine range_law 3 (w := W0) (gf := 110) (lb := #[.pointer (some ⟨w.heap.size + 1 + 1, 0, none⟩)]) rfl (enters_of Try.func110 (by kernel_rfl) rfl)
    (chained1_seq H U.out h2 _ hi w.heap.size (w.heap.size + 1 + 1) W0 (by omega) hh bH (R.out.below hB2 hh) 2) (by omega) (Below.refl _ _) (fun _ => rfl)
    (fun pre W => (p ∉ pre.map Prod.fst ∧ Boxed W w.heap.size 2 (.int .i64 p) ∧ Boxed W (w.heap.size + 1) 4 (.bool false)) ∧ Below w.heap.size w W)
    (fun pre W => (p ∈ pre.map Prod.fst ∧ Boxed W (w.heap.size + 1) 4 (.bool true)) ∧ Below w.heap.size w W)
    (OwnFrom.and (Own.from (fun s X Y row hs hg hr => ⟨hs.1, boxed_own _ _ (fun _ : List (Int × C) => Value.int .i64 p) s X Y row hs.2.1 hg hr, boxed_own _ _ (fun _ : List (Int × C) => Value.bool false) s X Y row hs.2.2 hg hr⟩) _) (ownFrom_below (Nat.le_refl _) (by omega)))
    (OwnFrom.and (Own.from (fun s X Y row hs hg hr => ⟨hs.1, boxed_own _ _ (fun _ : List (Int × C) => Value.bool true) s X Y row hs.2 hg hr⟩) _) (ownFrom_below (Nat.le_refl _) (by omega)))
    ⟨⟨by simp, bK, bT⟩, hB2⟩ ?round ?done ?stop
  case round =>
    rintro l pre x rest W hx hlt -
    obtain ⟨q, k, u, n, g⟩ := x
    dsimp only [encL]
    gi_wp2
    refine ⟨grown_refl _, ?_⟩
    rintro Wb - - ⟨⟨hno, hk, ht⟩, hB⟩
    have hkc := hk.cell
    have htf := ht.frozen
    have htc := ht.cell
    by_cases hke : q = p
    · have hkb : (q == p) = true := by simpa using hke
      gi_wp2
      exact ⟨(KeepsOthers.setCell _ _ _).from _, ⟨by simp [hke], ht.set _⟩, hB.setCell (p := ⟨w.heap.size + 1, 0, none⟩) (by simp) _⟩
    · have hkb : (q == p) = false := by simpa using hke
      gi_wp2
      refine ⟨KeepsFrom.refl _ _, Kp.refl _, ⟨?_, hk, ht⟩, hB⟩
      rw [List.map_append, List.mem_append]
      rintro (h | h)
      · exact hno h
      · simp at h; exact hke h.symm
  case done =>
    rintro D W hD ⟨⟨hno, hk, ht⟩, hB⟩ hK
    have ey : Hid (z = false) := by unfold Hid; rw [← hz.out]; rw [links_fst] at hno; exact decide_eq_false hno
    have htc := ht.cell
    have htf := ht.frozen
    have hK' := (KeepsOthers.setCell W ⟨w.heap.size + 1, 0, none⟩ (.bool false)).same D _ hK rfl
    gi_wp2
    refine ⟨by simp, .inl ⟨_, _, rfl, run_takeDeferred hK', ?_⟩⟩
    have hc6 := ((boxed_own _ _ (fun _ : Unit => Value.bool false)).putObj (s := ()) (.deferred none) (ht.set (.bool false)) hK' rfl).cell
    refine ⟨.bool false, ?_, by rw [ey.out], below_put _ (hB.setCell (p := ⟨w.heap.size + 1, 0, none⟩) (by simp) _) (by omega) hK'⟩
    simp [results, Try.f99, go_sem, hc6]
  case stop =>
    rintro D pre rest W hx hD ⟨⟨hin, ht⟩, hB⟩ hK
    have ey : Hid (z = true) := by
      unfold Hid; rw [← hz.out]
      have := congrArg (List.map Prod.fst) hx
      rw [links_fst, List.map_append] at this
      exact decide_eq_true (by rw [this]; exact List.mem_append_left _ hin)
    gi_wp2
    refine ⟨by simp, .inl ⟨_, _, rfl, run_takeDeferred hK, ?_⟩⟩
    have hc6 := ((boxed_own _ _ (fun _ : Unit => Value.bool true)).putObj (s := ()) (.deferred none) ht hK rfl).cell
    refine ⟨.bool true, ?_, by rw [ey.out], below_put _ hB (by omega) hK⟩
    simp [results, Try.f99, go_sem, hc6]
end Go.Proofs.Ythjkhghlhjndmaa.it
/- Contracts: the program's walkable, leftRight, hereRight. -/
namespace Go.Proofs.Ythjkhghlhjndmaa.ce
open Go.ChangeShapes Go.WideShapes Go.ChangeAt Go.RowKit
set_option linter.unusedVariables false
open Go.Proofs.Ythjkhghlhjndmaa.it

/-- where a hand may stand -/
def wlk (H : List C) (p : Int) : Prop := has H p ∧ ((nth H p).gone = true ∨ p ∈ chain H)
instance (H : List C) (p : Int) : Decidable (wlk H p) := by unfold wlk; infer_instance

theorem walkable_any (H : List C) (hok : heapOk H) (p : Int) (v : Value) (hi : Nat) (w : World) (hh : hi ≤ w.heap.size) (r : Rd w hi v H) :
    Calls Try.prog 97 #[v, .int .i64 p] w fun e w' => e = .returned (.bool (decide (wlk H p))) ∧ Below w.heap.size w w' := by
  have hl := r.len
  obtain ⟨a, cap, rfl⟩ := r.form
  have R : Hid (Rd w hi (.slice a H.length cap) H) := r
  have HO : Hid (heapOk H) := hok
  clear r hok
  obtain ⟨z, hz⟩ := hid_ex (decide (wlk H p))
  rw [hz.out]
  by_cases hp : has H p
  · have hd : Hid (decide (has H p) = true) := decide_eq_true hp
    obtain ⟨i, rfl⟩ : ∃ i : Nat, p = i := ⟨p.toNat, by have := hp.1; omega⟩
    have hi1 : i < H.length := by have := hp.2; omega
    have hi1' : (i : Int) < H.length := by omega
    have en := nth_nat H i hi1
    obtain ⟨b, off, rfl, hbh, c0, c1, c2, c3⟩ := R.out.cell i hi1
    cases hg : (H[i]).gone with
    | true =>
      rw [hg] at c3
      have ez : z = true := by rw [← hz.out]; exact decide_eq_true ⟨hp, .inl (by rw [en]; exact hg)⟩
      clear hp
      subst ez
      go_enter Try.func97, Try.ntmps97
      go_wp2_with (first | (go_at_call 98; refine (has_any H (i : Int) _ _ hl _).mono ?_; rintro e wq ⟨rfl, hq⟩; subst wq; rw [hd.out]) | (fail))
      go_ret
      exact ⟨rfl, Below.refl _ _⟩
    | false =>
      rw [hg] at c3
      have ez : Hid (decide ((i : Int) ∈ chain H) = z) := by
        unfold Hid
        rw [← hz.out]
        simp [wlk, hp, en, hg]
      clear hp
      go_enter Try.func97, Try.ntmps97
      go_wp2_with (first | (go_at_call 98; refine (has_any H (i : Int) _ _ hl _).mono ?_; rintro e wq ⟨rfl, hq⟩; subst wq; rw [hd.out]) | (go_at_call 99; refine (inChain_any H HO.out (i : Int) _ hi _ hh R.out).mono ?_; rintro e w1 ⟨he, hB1⟩; rw [ez.out] at he; subst he) | (fail))
      go_ret
      exact ⟨rfl, hB1⟩
  · have hd : Hid (decide (has H p) = false) := decide_eq_false hp
    have ez : z = false := by rw [← hz.out]; exact decide_eq_false fun h => hp h.1
    clear hp
    subst ez
    go_enter Try.func97, Try.ntmps97
    go_wp2_with (first | (go_at_call 98; refine (has_any H p _ _ hl _).mono ?_; rintro e wq ⟨rfl, hq⟩; subst wq; rw [hd.out]) | (fail))
    go_ret
    exact ⟨rfl, Below.refl _ _⟩
end Go.Proofs.Ythjkhghlhjndmaa.ce
/- Contracts: the program's leftRight, hereRight. -/
namespace Go.Proofs.Ythjkhghlhjndmaa.ce
open Go.ChangeShapes Go.WideShapes Go.ChangeAt Go.RowKit
set_option linter.unusedVariables false

def leftB (H : List C) (x s l : Int) : Bool := if s = 0 ∨ s = 5 then decide (l = -1) else decide (wlk H l ∧ (nth H l).key < x)

set_option maxHeartbeats 1000000 in
theorem leftRight_any (H : List C) (hok : heapOk H) (d : Hd) (v : Value) (hi : Nat) (w : World) (hh : hi ≤ w.heap.size) (r : Rd w hi v H) :
    Calls Try.prog 83 #[v, .agg (hv d).toArray] w fun e w' => e = .returned (.bool (leftB H d.key d.step d.left)) ∧ Below w.heap.size w w' := by
  have hl := r.len
  obtain ⟨a, cap, rfl⟩ := r.form
  have R : Hid (Rd w hi (.slice a H.length cap) H) := r
  have HO : Hid (heapOk H) := hok
  clear r hok
  obtain ⟨k, x, y, s, l, e, o, t⟩ := d
  obtain ⟨z, hz⟩ := hid_ex (leftB H x s l)
  show Calls Try.prog 83 _ w fun e w' => e = .returned (.bool (leftB H x s l)) ∧ Below w.heap.size w w'
  rw [hz.out]
  by_cases hs : s = 0 ∨ s = 5
  · have SS : Hid (decide (s = 0 ∨ s = 5) = true) := decide_eq_true hs
    have ez : (l == -1) = z := by rw [← hz.out, ibeq]; simp [leftB, hs]
    clear hs
    go_enter Try.func83, Try.ntmps83
    go_wp2_with (first | (refine wpList_box_v rfl 58 _ rfl (hv ⟨k, x, y, s, l, e, o, t⟩) rfl ?_; intro b1 w1 hb1 hw1 hB1 hV1; have hz1 := hB1.size; have hb : HB w1 b1 ⟨k, x, y, s, l, e, o, t⟩ := ⟨hV1⟩; obtain ⟨c0, c1, c2, c3, c4, c5, c6, c7⟩ := hb.cells) | (go_at_call 96; refine (standsNowhere_any ⟨k, x, y, s, l, e, o, t⟩ _).mono ?_; rintro er w2 ⟨rfl, hB2⟩; rw [SS.out]; have hz2 := hB2.size; replace hb := hb.of (hB2.block b1 hw1); clear c0 c1 c2 c3 c4 c5 c6 c7; obtain ⟨c0, c1, c2, c3, c4, c5, c6, c7⟩ := hb.cells; have hB : Below w.heap.size w w2 := hB1.trans (hB2.mono hz1); clear hB1 hB2) | (fail))
    go_ret
    exact ⟨by simp, hB⟩
  · have SS : Hid (decide (s = 0 ∨ s = 5) = false) := decide_eq_false hs
    by_cases hp : wlk H l
    · have WW : Hid (decide (wlk H l) = true) := decide_eq_true hp
      obtain ⟨i, rfl⟩ : ∃ i : Nat, l = i := ⟨l.toNat, by have := hp.1.1; omega⟩
      have hi1 : i < H.length := by have := hp.1.2; omega
      have hi1' : (i : Int) < H.length := by omega
      have en := nth_nat H i hi1
      obtain ⟨b, off, rfl, hbh, e0, -, -, -⟩ := R.out.cell i hi1
      obtain ⟨kk, hkk⟩ := hid_ex (H[i].key)
      rw [hkk.out] at e0
      have ez : decide (kk < x) = z := by rw [← hz.out]; simp [leftB, hs, hp, en, hkk.out]
      clear hs hp
      go_enter Try.func83, Try.ntmps83
      go_wp2_with (first | (refine wpList_box_v rfl 58 _ rfl (hv ⟨k, x, y, s, (i : Int), e, o, t⟩) rfl ?_; intro b1 w1 hb1 hw1 hB1 hV1; have hz1 := hB1.size; have hb : HB w1 b1 ⟨k, x, y, s, (i : Int), e, o, t⟩ := ⟨hV1⟩; obtain ⟨c0, c1, c2, c3, c4, c5, c6, c7⟩ := hb.cells) | (go_at_call 96; refine (standsNowhere_any ⟨k, x, y, s, (i : Int), e, o, t⟩ _).mono ?_; rintro er w2 ⟨rfl, hB2⟩; rw [SS.out]; have hz2 := hB2.size; replace hb := hb.of (hB2.block b1 hw1); clear c0 c1 c2 c3 c4 c5 c6 c7; obtain ⟨c0, c1, c2, c3, c4, c5, c6, c7⟩ := hb.cells; have hB : Below w.heap.size w w2 := hB1.trans (hB2.mono hz1); clear hB1 hB2) | (fail))
      have e2 : w2.drew.cell? ⟨b, off + i * 4, none⟩ = some (.int .i64 kk) := (World.cell?_of_block (w := w) (w' := w2.drew) (a := ⟨b, off + i * 4, none⟩) (hB.drew.block b (by omega))).trans e0
      have S0 : w2.drew.cell? ⟨b1, 4, none⟩ = some (.int .i64 (i : Int)) ∧ w2.drew.cell? ⟨b1, 1, none⟩ = some (.int .i64 x) ∧ w2.drew.cell? ⟨b, off + i * 4, none⟩ = some (.int .i64 kk) := ⟨c4, c1, e2⟩
      go_region_held3 (fun w' => w'.cell? ⟨b1, 4, none⟩ = some (.int .i64 (i : Int)) ∧ w'.cell? ⟨b1, 1, none⟩ = some (.int .i64 x) ∧ w'.cell? ⟨b, off + i * 4, none⟩ = some (.int .i64 kk)) (first | assumption | exact S0 | (fail)) (first | (go_at_call 97; refine (walkable_any H HO.out (i : Int) _ hi w2.drew (by show hi ≤ w2.heap.size; omega) (R.out.below hB.drew hh)).mono ?_; rintro er w3 ⟨rfl, hB3⟩; rw [WW.out]; have hb3 := hb.of (w' := w3) (hB3.block b1 (by show b1 < w2.heap.size; omega)); obtain ⟨f0, f1, f2, f3, f4, f5, f6, f7⟩ := hb3.cells; have e3 := (World.cell?_of_block (w := w2.drew) (w' := w3) (a := ⟨b, off + i * 4, none⟩) (hB3.block b (by show b < w2.heap.size; omega))).trans e2; have S4 := And.intro f4 (And.intro f1 e3)) | (fail))
      go_wp2
      go_ret
      exact ⟨by simp, hB.drew.trans (hB3.mono (by show w.heap.size ≤ w2.heap.size; omega))⟩
    · have WW : Hid (decide (wlk H l) = false) := decide_eq_false hp
      have ez : z = false := by rw [← hz.out]; simp [leftB, hs, hp]
      clear hs hp
      subst ez
      go_enter Try.func83, Try.ntmps83
      go_wp2_with (first | (refine wpList_box_v rfl 58 _ rfl (hv ⟨k, x, y, s, l, e, o, t⟩) rfl ?_; intro b1 w1 hb1 hw1 hB1 hV1; have hz1 := hB1.size; have hb : HB w1 b1 ⟨k, x, y, s, l, e, o, t⟩ := ⟨hV1⟩; obtain ⟨c0, c1, c2, c3, c4, c5, c6, c7⟩ := hb.cells) | (go_at_call 96; refine (standsNowhere_any ⟨k, x, y, s, l, e, o, t⟩ _).mono ?_; rintro er w2 ⟨rfl, hB2⟩; rw [SS.out]; have hz2 := hB2.size; replace hb := hb.of (hB2.block b1 hw1); clear c0 c1 c2 c3 c4 c5 c6 c7; obtain ⟨c0, c1, c2, c3, c4, c5, c6, c7⟩ := hb.cells; have hB : Below w.heap.size w w2 := hB1.trans (hB2.mono hz1); clear hB1 hB2) | (fail))
      refine wp_region_held_drew (S := fun w' => w'.cell? ⟨b1, 4, none⟩ = some (.int .i64 l)) (by kernel_rfl) c4 (fun hHeld => ?_)
      refine takeW 0 10 (.slice a H.length cap) rfl (by kernel_rfl) (by kernel_rfl) (by kernel_rfl) (fun _ _ _ h => h) (by kernel_rfl) (fun w' hS => by go_simp) hHeld ?_
      go_frame
      refine takeW 1 11 (.pointer (some ⟨b1, 4, none⟩)) rfl (by kernel_rfl) (by kernel_rfl) (by kernel_rfl) (fun _ _ _ h => h) (by kernel_rfl) (fun w' hS => by go_simp) hHeld ?_
      go_frame
      refine takeW 2 12 (.int .i64 l) rfl (by kernel_rfl) (by kernel_rfl) (by kernel_rfl) (fun _ _ _ h => h) (by kernel_rfl) (fun w' hS => by go_simp) hHeld ?_
      go_frame
      refine wpAnyH_ready (rs := [3]) (by kernel_rfl) (by simp) ?_
      refine AllReadyH.cons rfl (fun K hK => ?_) AllReadyH.nil
      go_simp
      go_at_call 97
      refine (walkable_any H HO.out l _ hi w2.drew (by show hi ≤ w2.heap.size; omega) (R.out.below hB.drew hh)).mono ?_
      rintro er w3 ⟨rfl, hB3⟩
      rw [WW.out]
      have hS3 : w3.cell? ⟨b1, 4, none⟩ = some (.int .i64 l) := (World.cell?_of_block (w := w2.drew) (w' := w3) (a := ⟨b1, 4, none⟩) (hB3.block b1 (by show b1 < w2.heap.size; omega))).trans c4
      refine hK.out _ _ hS3 (fun _ => ?_)
      refine takeW 4 14 (.bool false) rfl (by kernel_rfl) (by kernel_rfl) (by kernel_rfl) (fun _ _ _ h => h) (by kernel_rfl) (fun w' hS => by go_simp) hS3 ?_
      go_frame
      refine takeU 5 15 rfl (by kernel_rfl) (by kernel_rfl) (by kernel_rfl) (fun _ _ _ h => h) (by kernel_rfl) hS3 ?_
      go_frame
      refine takeU 6 16 rfl (by kernel_rfl) (by kernel_rfl) (by kernel_rfl) (fun _ _ _ h => h) (by kernel_rfl) hS3 ?_
      go_frame
      refine takeU 7 17 rfl (by kernel_rfl) (by kernel_rfl) (by kernel_rfl) (fun _ _ _ h => h) (by kernel_rfl) hS3 ?_
      go_frame
      refine takeU 8 18 rfl (by kernel_rfl) (by kernel_rfl) (by kernel_rfl) (fun _ _ _ h => h) (by kernel_rfl) hS3 ?_
      go_frame
      refine takeU 9 19 rfl (by kernel_rfl) (by kernel_rfl) (by kernel_rfl) (fun _ _ _ h => h) (by kernel_rfl) hS3 ?_
      go_frame
      refine takeU 10 20 rfl (by kernel_rfl) (by kernel_rfl) (by kernel_rfl) (fun _ _ _ h => h) (by kernel_rfl) hS3 ?_
      go_frame
      refine takeU 11 21 rfl (by kernel_rfl) (by kernel_rfl) (by kernel_rfl) (fun _ _ _ h => h) (by kernel_rfl) hS3 ?_
      go_frame
      refine takeU 12 22 rfl (by kernel_rfl) (by kernel_rfl) (by kernel_rfl) (fun _ _ _ h => h) (by kernel_rfl) hS3 ?_
      go_frame
      refine takeU 13 23 rfl (by kernel_rfl) (by kernel_rfl) (by kernel_rfl) (fun _ _ _ h => h) (by kernel_rfl) hS3 ?_
      go_frame
      refine takeW 14 24 (.bool false) rfl (by kernel_rfl) (by kernel_rfl) (by kernel_rfl) (fun _ _ _ h => h) (by kernel_rfl) (fun w' hS => by go_simp) hS3 ?_
      go_frame
      refine takeW 15 4 (.bool false) rfl (by kernel_rfl) (by kernel_rfl) (by kernel_rfl) (fun _ _ _ h => h) (by kernel_rfl) (fun w' hS => by go_simp) hS3 ?_
      go_frame
      refine wpAnyH_done (by kernel_rfl) ?_ _
      go_wp2
      go_ret
      exact ⟨rfl, hB.drew.trans (hB3.mono (by show w.heap.size ≤ w2.heap.size; omega))⟩
end Go.Proofs.Ythjkhghlhjndmaa.ce
/- Contracts: the program's hereRight. -/
namespace Go.Proofs.Ythjkhghlhjndmaa.ce
open Go.ChangeShapes Go.WideShapes Go.ChangeAt Go.RowKit
set_option linter.unusedVariables false

def hereB (H : List C) (x s e : Int) : Bool := if (s = 0 ∨ s = 5) ∨ e = -1 then decide (e = -1 ∧ s ≠ 4) else decide (e ≠ 0 ∧ wlk H e ∧ (s = 2 → x ≤ (nth H e).key) ∧ (s = 3 → x < (nth H e).key) ∧ (s = 4 → (nth H e).key = x))

set_option maxHeartbeats 2000000 in
theorem hereRight_any (H : List C) (hok : heapOk H) (d : Hd) (v : Value) (hi : Nat) (w : World) (hh : hi ≤ w.heap.size) (r : Rd w hi v H) :
    Calls Try.prog 84 #[v, .agg (hv d).toArray] w fun e w' => e = .returned (.bool (hereB H d.key d.step d.here)) ∧ Below w.heap.size w w' := by
  have hl := r.len
  obtain ⟨a, cap, rfl⟩ := r.form
  have R : Hid (Rd w hi (.slice a H.length cap) H) := r
  have HO : Hid (heapOk H) := hok
  clear r hok
  obtain ⟨k, x, y, s, l, e, o, t⟩ := d
  obtain ⟨z, hz⟩ := hid_ex (hereB H x s e)
  show Calls Try.prog 84 _ w fun e' w' => e' = .returned (.bool (hereB H x s e)) ∧ Below w.heap.size w w'
  rw [hz.out]
  by_cases he : e = -1
  · have ge : (e == -1) = true := by simpa using he
    have ez : (s != 4) = z := by rw [← hz.out, bne, ibeq]; simp [hereB, he]
    clear he
    by_cases hs : s = 0 ∨ s = 5
    · have SS : Hid (decide (s = 0 ∨ s = 5) = true) := decide_eq_true hs
      clear hs
      go_enter Try.func84, Try.ntmps84
      go_wp2_with (first | (refine wpList_box_v rfl 58 _ rfl (hv ⟨k, x, y, s, l, e, o, t⟩) rfl ?_; intro b1 w1 hb1 hw1 hB1 hV1; have hz1 := hB1.size; have hb : HB w1 b1 ⟨k, x, y, s, l, e, o, t⟩ := ⟨hV1⟩; obtain ⟨c0, c1, c2, c3, c4, c5, c6, c7⟩ := hb.cells) | (go_at_call 96; refine (standsNowhere_any ⟨k, x, y, s, l, e, o, t⟩ _).mono ?_; rintro er w2 ⟨rfl, hB2⟩; rw [SS.out]; have hz2 := hB2.size; replace hb := hb.of (hB2.block b1 hw1); clear c0 c1 c2 c3 c4 c5 c6 c7; obtain ⟨c0, c1, c2, c3, c4, c5, c6, c7⟩ := hb.cells; have hB : Below w.heap.size w w2 := hB1.trans (hB2.mono hz1); clear hB1 hB2) | (fail))
      go_ret
      exact ⟨by simp, hB⟩
    · have SS : Hid (decide (s = 0 ∨ s = 5) = false) := decide_eq_false hs
      clear hs
      go_enter Try.func84, Try.ntmps84
      go_wp2_with (first | (refine wpList_box_v rfl 58 _ rfl (hv ⟨k, x, y, s, l, e, o, t⟩) rfl ?_; intro b1 w1 hb1 hw1 hB1 hV1; have hz1 := hB1.size; have hb : HB w1 b1 ⟨k, x, y, s, l, e, o, t⟩ := ⟨hV1⟩; obtain ⟨c0, c1, c2, c3, c4, c5, c6, c7⟩ := hb.cells) | (go_at_call 96; refine (standsNowhere_any ⟨k, x, y, s, l, e, o, t⟩ _).mono ?_; rintro er w2 ⟨rfl, hB2⟩; rw [SS.out]; have hz2 := hB2.size; replace hb := hb.of (hB2.block b1 hw1); clear c0 c1 c2 c3 c4 c5 c6 c7; obtain ⟨c0, c1, c2, c3, c4, c5, c6, c7⟩ := hb.cells; have hB : Below w.heap.size w w2 := hB1.trans (hB2.mono hz1); clear hB1 hB2) | (fail))
      go_ret
      exact ⟨by simp, hB⟩
  have ge : (e == -1) = false := by simpa using he
  by_cases hs : s = 0 ∨ s = 5
  · have SS : Hid (decide (s = 0 ∨ s = 5) = true) := decide_eq_true hs
    have ez : z = false := by rw [← hz.out]; simp [hereB, he, hs]
    clear hs he
    subst ez
    go_enter Try.func84, Try.ntmps84
    go_wp2_with (first | (refine wpList_box_v rfl 58 _ rfl (hv ⟨k, x, y, s, l, e, o, t⟩) rfl ?_; intro b1 w1 hb1 hw1 hB1 hV1; have hz1 := hB1.size; have hb : HB w1 b1 ⟨k, x, y, s, l, e, o, t⟩ := ⟨hV1⟩; obtain ⟨c0, c1, c2, c3, c4, c5, c6, c7⟩ := hb.cells) | (go_at_call 96; refine (standsNowhere_any ⟨k, x, y, s, l, e, o, t⟩ _).mono ?_; rintro er w2 ⟨rfl, hB2⟩; rw [SS.out]; have hz2 := hB2.size; replace hb := hb.of (hB2.block b1 hw1); clear c0 c1 c2 c3 c4 c5 c6 c7; obtain ⟨c0, c1, c2, c3, c4, c5, c6, c7⟩ := hb.cells; have hB : Below w.heap.size w w2 := hB1.trans (hB2.mono hz1); clear hB1 hB2) | (fail))
    go_ret
    exact ⟨rfl, hB⟩
  have SS : Hid (decide (s = 0 ∨ s = 5) = false) := decide_eq_false hs
  by_cases h0 : e = 0
  · have g0 : (e == 0) = true := by simpa using h0
    have ez : z = false := by rw [← hz.out]; simp [hereB, hs, h0]
    clear hs he h0
    subst ez
    go_enter Try.func84, Try.ntmps84
    go_wp2_with (first | (refine wpList_box_v rfl 58 _ rfl (hv ⟨k, x, y, s, l, e, o, t⟩) rfl ?_; intro b1 w1 hb1 hw1 hB1 hV1; have hz1 := hB1.size; have hb : HB w1 b1 ⟨k, x, y, s, l, e, o, t⟩ := ⟨hV1⟩; obtain ⟨c0, c1, c2, c3, c4, c5, c6, c7⟩ := hb.cells) | (go_at_call 96; refine (standsNowhere_any ⟨k, x, y, s, l, e, o, t⟩ _).mono ?_; rintro er w2 ⟨rfl, hB2⟩; rw [SS.out]; have hz2 := hB2.size; replace hb := hb.of (hB2.block b1 hw1); clear c0 c1 c2 c3 c4 c5 c6 c7; obtain ⟨c0, c1, c2, c3, c4, c5, c6, c7⟩ := hb.cells; have hB : Below w.heap.size w w2 := hB1.trans (hB2.mono hz1); clear hB1 hB2) | (fail))
    go_ret
    exact ⟨rfl, hB⟩
  have g0 : (e == 0) = false := by simpa using h0
  by_cases hp : wlk H e
  · have WW : Hid (decide (wlk H e) = true) := decide_eq_true hp
    obtain ⟨i, rfl⟩ : ∃ i : Nat, e = i := ⟨e.toNat, by have := hp.1.1; omega⟩
    have hi1 : i < H.length := by have := hp.1.2; omega
    have hi1' : (i : Int) < H.length := by omega
    have hi0 : ¬ ((i : Int) = -1) := he
    have en := nth_nat H i hi1
    obtain ⟨b, off, rfl, hbh, e0, -, -, -⟩ := R.out.cell i hi1
    obtain ⟨kk, hkk⟩ := hid_ex (H[i].key)
    rw [hkk.out] at e0
    clear he
    have h00 : ¬ i = 0 := by omega
    clear h0
    by_cases h2 : s = 2
    · have g2 : (s == 2) = true := by simpa using h2
      have ez : decide (x ≤ kk) = z := by rw [← hz.out]; simp [hereB, hp, en, hkk.out, h2, hi0, h00]
      clear hs hp h2
      go_enter Try.func84, Try.ntmps84
      go_wp2_with (first | (refine wpList_box_v rfl 58 _ rfl (hv ⟨k, x, y, s, l, (i : Int), o, t⟩) rfl ?_; intro b1 w1 hb1 hw1 hB1 hV1; have hz1 := hB1.size; have hb : HB w1 b1 ⟨k, x, y, s, l, (i : Int), o, t⟩ := ⟨hV1⟩; obtain ⟨c0, c1, c2, c3, c4, c5, c6, c7⟩ := hb.cells) | (go_at_call 96; refine (standsNowhere_any ⟨k, x, y, s, l, (i : Int), o, t⟩ _).mono ?_; rintro er w2 ⟨rfl, hB2⟩; rw [SS.out]; have hz2 := hB2.size; replace hb := hb.of (hB2.block b1 hw1); clear c0 c1 c2 c3 c4 c5 c6 c7; obtain ⟨c0, c1, c2, c3, c4, c5, c6, c7⟩ := hb.cells; have hB : Below w.heap.size w w2 := hB1.trans (hB2.mono hz1); clear hB1 hB2) | (go_at_call 97; refine (walkable_any H HO.out (i : Int) _ hi _ (by omega) (R.out.below hB hh)).mono ?_; rintro er w3 ⟨rfl, hB3⟩; rw [WW.out]; have hz3 := hB3.size; replace hb := hb.of (hB3.block b1 (by omega)); clear c0 c1 c2 c3 c4 c5 c6 c7; obtain ⟨c0, c1, c2, c3, c4, c5, c6, c7⟩ := hb.cells; replace hB := hB.trans (hB3.mono (by omega)); have e3 := (World.cell?_of_block (w := w) (w' := w3) (a := ⟨b, off + i * 4, none⟩) (hB.block b (by omega))).trans e0) | (fail))
      try go_frame
      go_big_quiet (fail)
      go_wp2
      go_ret
      exact ⟨by simp, hB.trans (below_drewN _ _)⟩
    · have g2 : (s == 2) = false := by simpa using h2
      by_cases h3 : s = 3
      · have g3 : (s == 3) = true := by simpa using h3
        have ez : decide (x < kk) = z := by rw [← hz.out]; simp [hereB, hp, en, hkk.out, h3, hi0, h00]
        clear hs hp h2 h3
        go_enter Try.func84, Try.ntmps84
        go_wp2_with (first | (refine wpList_box_v rfl 58 _ rfl (hv ⟨k, x, y, s, l, (i : Int), o, t⟩) rfl ?_; intro b1 w1 hb1 hw1 hB1 hV1; have hz1 := hB1.size; have hb : HB w1 b1 ⟨k, x, y, s, l, (i : Int), o, t⟩ := ⟨hV1⟩; obtain ⟨c0, c1, c2, c3, c4, c5, c6, c7⟩ := hb.cells) | (go_at_call 96; refine (standsNowhere_any ⟨k, x, y, s, l, (i : Int), o, t⟩ _).mono ?_; rintro er w2 ⟨rfl, hB2⟩; rw [SS.out]; have hz2 := hB2.size; replace hb := hb.of (hB2.block b1 hw1); clear c0 c1 c2 c3 c4 c5 c6 c7; obtain ⟨c0, c1, c2, c3, c4, c5, c6, c7⟩ := hb.cells; have hB : Below w.heap.size w w2 := hB1.trans (hB2.mono hz1); clear hB1 hB2) | (go_at_call 97; refine (walkable_any H HO.out (i : Int) _ hi _ (by omega) (R.out.below hB hh)).mono ?_; rintro er w3 ⟨rfl, hB3⟩; rw [WW.out]; have hz3 := hB3.size; replace hb := hb.of (hB3.block b1 (by omega)); clear c0 c1 c2 c3 c4 c5 c6 c7; obtain ⟨c0, c1, c2, c3, c4, c5, c6, c7⟩ := hb.cells; replace hB := hB.trans (hB3.mono (by omega)); have e3 := (World.cell?_of_block (w := w) (w' := w3) (a := ⟨b, off + i * 4, none⟩) (hB.block b (by omega))).trans e0) | (fail))
        try go_frame
        go_big_quiet (fail)
        go_wp2
        go_ret
        exact ⟨by simp, hB.trans (below_drewN _ _)⟩
      · have g3 : (s == 3) = false := by simpa using h3
        by_cases h4 : s = 4
        · have g4 : (s == 4) = true := by simpa using h4
          have ez : (kk == x) = z := by rw [← hz.out, ibeq]; simp [hereB, hp, en, hkk.out, h4, hi0, h00]
          clear hs hp h2 h3 h4
          go_enter Try.func84, Try.ntmps84
          go_wp2_with (first | (refine wpList_box_v rfl 58 _ rfl (hv ⟨k, x, y, s, l, (i : Int), o, t⟩) rfl ?_; intro b1 w1 hb1 hw1 hB1 hV1; have hz1 := hB1.size; have hb : HB w1 b1 ⟨k, x, y, s, l, (i : Int), o, t⟩ := ⟨hV1⟩; obtain ⟨c0, c1, c2, c3, c4, c5, c6, c7⟩ := hb.cells) | (go_at_call 96; refine (standsNowhere_any ⟨k, x, y, s, l, (i : Int), o, t⟩ _).mono ?_; rintro er w2 ⟨rfl, hB2⟩; rw [SS.out]; have hz2 := hB2.size; replace hb := hb.of (hB2.block b1 hw1); clear c0 c1 c2 c3 c4 c5 c6 c7; obtain ⟨c0, c1, c2, c3, c4, c5, c6, c7⟩ := hb.cells; have hB : Below w.heap.size w w2 := hB1.trans (hB2.mono hz1); clear hB1 hB2) | (go_at_call 97; refine (walkable_any H HO.out (i : Int) _ hi _ (by omega) (R.out.below hB hh)).mono ?_; rintro er w3 ⟨rfl, hB3⟩; rw [WW.out]; have hz3 := hB3.size; replace hb := hb.of (hB3.block b1 (by omega)); clear c0 c1 c2 c3 c4 c5 c6 c7; obtain ⟨c0, c1, c2, c3, c4, c5, c6, c7⟩ := hb.cells; replace hB := hB.trans (hB3.mono (by omega)); have e3 := (World.cell?_of_block (w := w) (w' := w3) (a := ⟨b, off + i * 4, none⟩) (hB.block b (by omega))).trans e0) | (fail))
          try go_frame
          go_big_quiet (fail)
          go_wp2
          go_ret
          exact ⟨by simp, hB.trans (below_drewN _ _)⟩
        · have g4 : (s == 4) = false := by simpa using h4
          have ez : z = true := by rw [← hz.out]; simp [hereB, hp, en, hs, h2, h3, h4, hi0, h00]
          clear hs hp h2 h3 h4
          subst ez
          go_enter Try.func84, Try.ntmps84
          go_wp2_with (first | (refine wpList_box_v rfl 58 _ rfl (hv ⟨k, x, y, s, l, (i : Int), o, t⟩) rfl ?_; intro b1 w1 hb1 hw1 hB1 hV1; have hz1 := hB1.size; have hb : HB w1 b1 ⟨k, x, y, s, l, (i : Int), o, t⟩ := ⟨hV1⟩; obtain ⟨c0, c1, c2, c3, c4, c5, c6, c7⟩ := hb.cells) | (go_at_call 96; refine (standsNowhere_any ⟨k, x, y, s, l, (i : Int), o, t⟩ _).mono ?_; rintro er w2 ⟨rfl, hB2⟩; rw [SS.out]; have hz2 := hB2.size; replace hb := hb.of (hB2.block b1 hw1); clear c0 c1 c2 c3 c4 c5 c6 c7; obtain ⟨c0, c1, c2, c3, c4, c5, c6, c7⟩ := hb.cells; have hB : Below w.heap.size w w2 := hB1.trans (hB2.mono hz1); clear hB1 hB2) | (go_at_call 97; refine (walkable_any H HO.out (i : Int) _ hi _ (by omega) (R.out.below hB hh)).mono ?_; rintro er w3 ⟨rfl, hB3⟩; rw [WW.out]; have hz3 := hB3.size; replace hb := hb.of (hB3.block b1 (by omega)); clear c0 c1 c2 c3 c4 c5 c6 c7; obtain ⟨c0, c1, c2, c3, c4, c5, c6, c7⟩ := hb.cells; replace hB := hB.trans (hB3.mono (by omega))) | (fail))
          go_ret
          exact ⟨rfl, hB⟩
  · have WW : Hid (decide (wlk H e) = false) := decide_eq_false hp
    have ez : z = false := by rw [← hz.out]; simp [hereB, hs, he, hp]
    clear hs he h0 hp
    subst ez
    go_enter Try.func84, Try.ntmps84
    go_wp2_with (first | (refine wpList_box_v rfl 58 _ rfl (hv ⟨k, x, y, s, l, e, o, t⟩) rfl ?_; intro b1 w1 hb1 hw1 hB1 hV1; have hz1 := hB1.size; have hb : HB w1 b1 ⟨k, x, y, s, l, e, o, t⟩ := ⟨hV1⟩; obtain ⟨c0, c1, c2, c3, c4, c5, c6, c7⟩ := hb.cells) | (go_at_call 96; refine (standsNowhere_any ⟨k, x, y, s, l, e, o, t⟩ _).mono ?_; rintro er w2 ⟨rfl, hB2⟩; rw [SS.out]; have hz2 := hB2.size; replace hb := hb.of (hB2.block b1 hw1); clear c0 c1 c2 c3 c4 c5 c6 c7; obtain ⟨c0, c1, c2, c3, c4, c5, c6, c7⟩ := hb.cells; have hB : Below w.heap.size w w2 := hB1.trans (hB2.mono hz1); clear hB1 hB2) | (go_at_call 97; refine (walkable_any H HO.out e _ hi _ (by omega) (R.out.below hB hh)).mono ?_; rintro er w3 ⟨rfl, hB3⟩; rw [WW.out]; have hz3 := hB3.size; replace hb := hb.of (hB3.block b1 (by omega)); clear c0 c1 c2 c3 c4 c5 c6 c7; obtain ⟨c0, c1, c2, c3, c4, c5, c6, c7⟩ := hb.cells; replace hB := hB.trans (hB3.mono (by omega))) | (fail))
    go_ret
    exact ⟨rfl, hB⟩
end Go.Proofs.Ythjkhghlhjndmaa.ce
/- Contracts: the program's ownRight. -/
namespace Go.Proofs.Ythjkhghlhjndmaa.ce
open Go.ChangeShapes Go.WideShapes Go.ChangeAt Go.RowKit
set_option linter.unusedVariables false
open Go.Proofs.Ythjkhghlhjndmaa.it
theorem has_is (H : List C) (p : Int) (a : Option Addr) (cap : Nat) (hl : H.length ≤ 9223372036854775807) (z : Bool) (hz : decide (has H p) = z) (w : World) :
    Calls Try.prog 98 #[.slice a H.length cap, .int .i64 p] w fun e w' => e = .returned (.bool z) ∧ w' = w := by
  rw [← hz]; exact has_any H p a cap hl w
def ownB (H : List C) (k x y s e o : Int) : Bool := if o = -1 then decide (s ≠ 3) else decide (k = 1 ∧ has H o ∧ (nth H o).key = x ∧ (nth H o).value = y ∧ (s = 5 ∨ ((nth H o).gone = false ∧ o ∉ chain H ∧ (s = 3 → (nth H o).next = e))))

set_option maxRecDepth 100000 in
set_option maxHeartbeats 4000000 in
theorem ownRight_any (H : List C) (hok : heapOk H) (d : Hd) (v : Value) (hi : Nat) (w : World) (hh : hi ≤ w.heap.size) (r : Rd w hi v H) :
    Calls Try.prog 85 #[v, .agg (hv d).toArray] w fun e w' => e = .returned (.bool (ownB H d.kind d.key d.value d.step d.here d.own)) ∧ Below w.heap.size w w' := by
  have hl := r.len
  obtain ⟨a, cap, rfl⟩ := r.form
  have R : Hid (Rd w hi (.slice a H.length cap) H) := r
  have HO : Hid (heapOk H) := hok
  clear r hok
  obtain ⟨k, x, y, s, l, e, o, t⟩ := d
  obtain ⟨z, hz⟩ := hid_ex (ownB H k x y s e o)
  show Calls Try.prog 85 _ w fun e' w' => e' = .returned (.bool (ownB H k x y s e o)) ∧ Below w.heap.size w w'
  rw [hz.out]
  by_cases ho : o = -1
  · have go : (o == -1) = true := by simpa using ho
    have ez : (s != 3) = z := by rw [← hz.out, bne, ibeq]; simp [ownB, ho]
    clear ho
    go_enter Try.func85, Try.ntmps85
    go_wp2_with (first | (refine wpList_box_v rfl 58 _ rfl (hv ⟨k, x, y, s, l, e, o, t⟩) rfl ?_; intro b1 w1 hb1 hw1 hB1 hV1; have hz1 := hB1.size; have hb : HB w1 b1 ⟨k, x, y, s, l, e, o, t⟩ := ⟨hV1⟩; obtain ⟨c0, c1, c2, c3, c4, c5, c6, c7⟩ := hb.cells) | (fail))
    go_ret
    exact ⟨by simp, hB1⟩
  have go : (o == -1) = false := by simpa using ho
  by_cases hk : k = 1
  · have gk : (k != 1) = false := by simpa using hk
    by_cases hp : has H o
    · have HH : Hid (decide (has H o) = true) := decide_eq_true hp
      obtain ⟨i, rfl⟩ : ∃ i : Nat, o = i := ⟨o.toNat, by have := hp.1; omega⟩
      have hi1 : i < H.length := by have := hp.2; omega
      have hi1' : (i : Int) < H.length := by omega
      have en := nth_nat H i hi1
      obtain ⟨b, off, rfl, hbh, e0, e1, e2, e3⟩ := R.out.cell i hi1
      obtain ⟨q, hq⟩ := hid_ex (H[i])
      rw [hq.out] at e0 e1 e2 e3
      by_cases hx : q.key = x
      · have gx : (q.key != x) = false := by simpa using hx
        by_cases hy : q.value = y
        · have gy : (q.value != y) = false := by simpa using hy
          by_cases h5 : s = 5
          · have g5 : (s == 5) = true := by simpa using h5
            have ez : z = true := by rw [← hz.out]; simp [ownB, ho, hk, hp, en, hq.out, hx, hy, h5]
            clear ho hk hp hx hy h5
            subst ez
            go_enter Try.func85, Try.ntmps85
            go_wp2_with (first | (refine wpList_box_v rfl 58 _ rfl (hv ⟨k, x, y, s, l, e, (i : Int), t⟩) rfl ?_; intro b1 w1 hb1 hw1 hB1 hV1; have hz1 := hB1.size; have hb : HB w1 b1 ⟨k, x, y, s, l, e, (i : Int), t⟩ := ⟨hV1⟩; obtain ⟨c0, c1, c2, c3, c4, c5, c6, c7⟩ := hb.cells) | (fail))
            have f0 := (World.cell?_of_block (w := w) (w' := w1) (a := ⟨b, off + i * 4, none⟩) (hB1.block b (by omega))).trans e0
            have f1 := (World.cell?_of_block (w := w) (w' := w1) (a := ⟨b, off + i * 4 + 1, none⟩) (hB1.block b (by omega))).trans e1
            have f2 := (World.cell?_of_block (w := w) (w' := w1) (a := ⟨b, off + i * 4 + 2, none⟩) (hB1.block b (by omega))).trans e2
            have f3 := (World.cell?_of_block (w := w) (w' := w1) (a := ⟨b, off + i * 4 + 3, none⟩) (hB1.block b (by omega))).trans e3
            try go_frame
            go_big_quiet (first | (go_at_call 98; exact Calls.quiet_of_same (has_is H (i : Int) _ _ hl _ HH.out _)) | (fail))
            go_wp2
            go_ret
            exact ⟨rfl, hB1.trans (below_drewN _ _)⟩
          · have g5 : (s == 5) = false := by simpa using h5
            cases hg : q.gone with
            | true =>
              have ez : z = false := by rw [← hz.out]; simp [ownB, ho, hk, hp, en, hq.out, hx, hy, h5, hg]
              rw [hg] at e3
              clear ho hk hp hx hy h5
              subst ez
              go_enter Try.func85, Try.ntmps85
              go_wp2_with (first | (refine wpList_box_v rfl 58 _ rfl (hv ⟨k, x, y, s, l, e, (i : Int), t⟩) rfl ?_; intro b1 w1 hb1 hw1 hB1 hV1; have hz1 := hB1.size; have hb : HB w1 b1 ⟨k, x, y, s, l, e, (i : Int), t⟩ := ⟨hV1⟩; obtain ⟨c0, c1, c2, c3, c4, c5, c6, c7⟩ := hb.cells) | (fail))
              have f0 := (World.cell?_of_block (w := w) (w' := w1) (a := ⟨b, off + i * 4, none⟩) (hB1.block b (by omega))).trans e0
              have f1 := (World.cell?_of_block (w := w) (w' := w1) (a := ⟨b, off + i * 4 + 1, none⟩) (hB1.block b (by omega))).trans e1
              have f2 := (World.cell?_of_block (w := w) (w' := w1) (a := ⟨b, off + i * 4 + 2, none⟩) (hB1.block b (by omega))).trans e2
              have f3 := (World.cell?_of_block (w := w) (w' := w1) (a := ⟨b, off + i * 4 + 3, none⟩) (hB1.block b (by omega))).trans e3
              try go_frame
              go_big_quiet (first | (go_at_call 98; exact Calls.quiet_of_same (has_is H (i : Int) _ _ hl _ HH.out _)) | (fail))
              go_wp2
              try go_frame
              go_big_quiet (fail)
              go_wp2
              go_ret
              exact ⟨rfl, (hB1.trans (below_drewN _ _)).trans (below_drewN _ _)⟩
            | false =>
              rw [hg] at e3
              by_cases hc : (i : Int) ∈ chain H
              · have CC : Hid (decide ((i : Int) ∈ chain H) = true) := decide_eq_true hc
                have ez : z = false := by rw [← hz.out]; simp [ownB, ho, hk, hp, en, hq.out, hx, hy, h5, hc]
                clear ho hk hp hx hy h5 hc
                subst ez
                go_enter Try.func85, Try.ntmps85
                go_wp2_with (first | (refine wpList_box_v rfl 58 _ rfl (hv ⟨k, x, y, s, l, e, (i : Int), t⟩) rfl ?_; intro b1 w1 hb1 hw1 hB1 hV1; have hz1 := hB1.size; have hb : HB w1 b1 ⟨k, x, y, s, l, e, (i : Int), t⟩ := ⟨hV1⟩; obtain ⟨c0, c1, c2, c3, c4, c5, c6, c7⟩ := hb.cells) | (fail))
                have f0 := (World.cell?_of_block (w := w) (w' := w1) (a := ⟨b, off + i * 4, none⟩) (hB1.block b (by omega))).trans e0
                have f1 := (World.cell?_of_block (w := w) (w' := w1) (a := ⟨b, off + i * 4 + 1, none⟩) (hB1.block b (by omega))).trans e1
                have f2 := (World.cell?_of_block (w := w) (w' := w1) (a := ⟨b, off + i * 4 + 2, none⟩) (hB1.block b (by omega))).trans e2
                have f3 := (World.cell?_of_block (w := w) (w' := w1) (a := ⟨b, off + i * 4 + 3, none⟩) (hB1.block b (by omega))).trans e3
                try go_frame
                go_big_quiet (first | (go_at_call 98; exact Calls.quiet_of_same (has_is H (i : Int) _ _ hl _ HH.out _)) | (fail))
                go_wp2_with (first | (go_at_call 99; refine (inChain_any H HO.out (i : Int) _ hi _ (by show hi ≤ w1.heap.size; omega) ((R.out.below hB1 hh).drewN _)).mono ?_; rintro er w3 ⟨rfl, hB3⟩; rw [CC.out]; have hz3 : w1.heap.size ≤ w3.heap.size := hB3.size; replace hb := hb.of (w' := w3) (hB3.block b1 (by show b1 < w1.heap.size; omega)); clear c0 c1 c2 c3 c4 c5 c6 c7; obtain ⟨c0, c1, c2, c3, c4, c5, c6, c7⟩ := hb.cells; have hB : Below w.heap.size w w3 := (hB1.trans (below_drewN _ _)).trans (hB3.mono (by show w.heap.size ≤ w1.heap.size; omega)); have f2 := (World.cell?_of_block (w := w) (w' := w3) (a := ⟨b, off + i * 4 + 2, none⟩) (hB.block b (by omega))).trans e2) | (fail))
                try go_frame
                go_big_quiet (fail)
                go_wp2
                go_ret
                exact ⟨rfl, hB.trans (below_drewN _ _)⟩
              · have CC : Hid (decide ((i : Int) ∈ chain H) = false) := decide_eq_false hc
                by_cases h3 : s = 3
                · have g3 : (s != 3) = false := by simpa using h3
                  have ez : (q.next == e) = z := by rw [← hz.out, ibeq]; simp [ownB, ho, hk, hp, en, hq.out, hx, hy, hg, hc, h3]
                  clear ho hk hp hx hy h5 hc h3
                  go_enter Try.func85, Try.ntmps85
                  go_wp2_with (first | (refine wpList_box_v rfl 58 _ rfl (hv ⟨k, x, y, s, l, e, (i : Int), t⟩) rfl ?_; intro b1 w1 hb1 hw1 hB1 hV1; have hz1 := hB1.size; have hb : HB w1 b1 ⟨k, x, y, s, l, e, (i : Int), t⟩ := ⟨hV1⟩; obtain ⟨c0, c1, c2, c3, c4, c5, c6, c7⟩ := hb.cells) | (fail))
                  have f0 := (World.cell?_of_block (w := w) (w' := w1) (a := ⟨b, off + i * 4, none⟩) (hB1.block b (by omega))).trans e0
                  have f1 := (World.cell?_of_block (w := w) (w' := w1) (a := ⟨b, off + i * 4 + 1, none⟩) (hB1.block b (by omega))).trans e1
                  have f2 := (World.cell?_of_block (w := w) (w' := w1) (a := ⟨b, off + i * 4 + 2, none⟩) (hB1.block b (by omega))).trans e2
                  have f3 := (World.cell?_of_block (w := w) (w' := w1) (a := ⟨b, off + i * 4 + 3, none⟩) (hB1.block b (by omega))).trans e3
                  try go_frame
                  go_big_quiet (first | (go_at_call 98; exact Calls.quiet_of_same (has_is H (i : Int) _ _ hl _ HH.out _)) | (fail))
                  go_wp2_with (first | (go_at_call 99; refine (inChain_any H HO.out (i : Int) _ hi _ (by show hi ≤ w1.heap.size; omega) ((R.out.below hB1 hh).drewN _)).mono ?_; rintro er w3 ⟨rfl, hB3⟩; rw [CC.out]; have hz3 : w1.heap.size ≤ w3.heap.size := hB3.size; replace hb := hb.of (w' := w3) (hB3.block b1 (by show b1 < w1.heap.size; omega)); clear c0 c1 c2 c3 c4 c5 c6 c7; obtain ⟨c0, c1, c2, c3, c4, c5, c6, c7⟩ := hb.cells; have hB : Below w.heap.size w w3 := (hB1.trans (below_drewN _ _)).trans (hB3.mono (by show w.heap.size ≤ w1.heap.size; omega)); have f2 := (World.cell?_of_block (w := w) (w' := w3) (a := ⟨b, off + i * 4 + 2, none⟩) (hB.block b (by omega))).trans e2) | (fail))
                  try go_frame
                  go_big_quiet (fail)
                  go_wp2
                  go_ret
                  exact ⟨by simp, hB.trans (below_drewN _ _)⟩
                · have g3 : (s != 3) = true := by simpa using h3
                  have ez : z = true := by rw [← hz.out]; simp [ownB, ho, hk, hp, en, hq.out, hx, hy, hg, hc, h3]
                  clear ho hk hp hx hy h5 hc h3
                  subst ez
                  go_enter Try.func85, Try.ntmps85
                  go_wp2_with (first | (refine wpList_box_v rfl 58 _ rfl (hv ⟨k, x, y, s, l, e, (i : Int), t⟩) rfl ?_; intro b1 w1 hb1 hw1 hB1 hV1; have hz1 := hB1.size; have hb : HB w1 b1 ⟨k, x, y, s, l, e, (i : Int), t⟩ := ⟨hV1⟩; obtain ⟨c0, c1, c2, c3, c4, c5, c6, c7⟩ := hb.cells) | (fail))
                  have f0 := (World.cell?_of_block (w := w) (w' := w1) (a := ⟨b, off + i * 4, none⟩) (hB1.block b (by omega))).trans e0
                  have f1 := (World.cell?_of_block (w := w) (w' := w1) (a := ⟨b, off + i * 4 + 1, none⟩) (hB1.block b (by omega))).trans e1
                  have f2 := (World.cell?_of_block (w := w) (w' := w1) (a := ⟨b, off + i * 4 + 2, none⟩) (hB1.block b (by omega))).trans e2
                  have f3 := (World.cell?_of_block (w := w) (w' := w1) (a := ⟨b, off + i * 4 + 3, none⟩) (hB1.block b (by omega))).trans e3
                  try go_frame
                  go_big_quiet (first | (go_at_call 98; exact Calls.quiet_of_same (has_is H (i : Int) _ _ hl _ HH.out _)) | (fail))
                  go_wp2_with (first | (go_at_call 99; refine (inChain_any H HO.out (i : Int) _ hi _ (by show hi ≤ w1.heap.size; omega) ((R.out.below hB1 hh).drewN _)).mono ?_; rintro er w3 ⟨rfl, hB3⟩; rw [CC.out]; have hz3 : w1.heap.size ≤ w3.heap.size := hB3.size; replace hb := hb.of (w' := w3) (hB3.block b1 (by show b1 < w1.heap.size; omega)); clear c0 c1 c2 c3 c4 c5 c6 c7; obtain ⟨c0, c1, c2, c3, c4, c5, c6, c7⟩ := hb.cells; have hB : Below w.heap.size w w3 := (hB1.trans (below_drewN _ _)).trans (hB3.mono (by show w.heap.size ≤ w1.heap.size; omega)); have f2 := (World.cell?_of_block (w := w) (w' := w3) (a := ⟨b, off + i * 4 + 2, none⟩) (hB.block b (by omega))).trans e2) | (fail))
                  try go_frame
                  go_big_quiet (fail)
                  go_wp2
                  go_ret
                  exact ⟨rfl, hB.trans (below_drewN _ _)⟩
        · have gy : (q.value != y) = true := by simpa using hy
          have ez : z = false := by rw [← hz.out]; simp [ownB, ho, hk, hp, en, hq.out, hx, hy]
          clear ho hk hp hx hy
          subst ez
          go_enter Try.func85, Try.ntmps85
          go_wp2_with (first | (refine wpList_box_v rfl 58 _ rfl (hv ⟨k, x, y, s, l, e, (i : Int), t⟩) rfl ?_; intro b1 w1 hb1 hw1 hB1 hV1; have hz1 := hB1.size; have hb : HB w1 b1 ⟨k, x, y, s, l, e, (i : Int), t⟩ := ⟨hV1⟩; obtain ⟨c0, c1, c2, c3, c4, c5, c6, c7⟩ := hb.cells) | (fail))
          have f0 := (World.cell?_of_block (w := w) (w' := w1) (a := ⟨b, off + i * 4, none⟩) (hB1.block b (by omega))).trans e0
          have f1 := (World.cell?_of_block (w := w) (w' := w1) (a := ⟨b, off + i * 4 + 1, none⟩) (hB1.block b (by omega))).trans e1
          have f2 := (World.cell?_of_block (w := w) (w' := w1) (a := ⟨b, off + i * 4 + 2, none⟩) (hB1.block b (by omega))).trans e2
          have f3 := (World.cell?_of_block (w := w) (w' := w1) (a := ⟨b, off + i * 4 + 3, none⟩) (hB1.block b (by omega))).trans e3
          try go_frame
          go_big_quiet (first | (go_at_call 98; exact Calls.quiet_of_same (has_is H (i : Int) _ _ hl _ HH.out _)) | (fail))
          go_wp2
          go_ret
          exact ⟨rfl, hB1.trans (below_drewN _ _)⟩
      · have gx : (q.key != x) = true := by simpa using hx
        have ez : z = false := by rw [← hz.out]; simp [ownB, ho, hk, hp, en, hq.out, hx]
        clear ho hk hp hx
        subst ez
        go_enter Try.func85, Try.ntmps85
        go_wp2_with (first | (refine wpList_box_v rfl 58 _ rfl (hv ⟨k, x, y, s, l, e, (i : Int), t⟩) rfl ?_; intro b1 w1 hb1 hw1 hB1 hV1; have hz1 := hB1.size; have hb : HB w1 b1 ⟨k, x, y, s, l, e, (i : Int), t⟩ := ⟨hV1⟩; obtain ⟨c0, c1, c2, c3, c4, c5, c6, c7⟩ := hb.cells) | (fail))
        have f0 := (World.cell?_of_block (w := w) (w' := w1) (a := ⟨b, off + i * 4, none⟩) (hB1.block b (by omega))).trans e0
        have f1 := (World.cell?_of_block (w := w) (w' := w1) (a := ⟨b, off + i * 4 + 1, none⟩) (hB1.block b (by omega))).trans e1
        have f2 := (World.cell?_of_block (w := w) (w' := w1) (a := ⟨b, off + i * 4 + 2, none⟩) (hB1.block b (by omega))).trans e2
        have f3 := (World.cell?_of_block (w := w) (w' := w1) (a := ⟨b, off + i * 4 + 3, none⟩) (hB1.block b (by omega))).trans e3
        try go_frame
        go_big_quiet (first | (go_at_call 98; exact Calls.quiet_of_same (has_is H (i : Int) _ _ hl _ HH.out _)) | (fail))
        go_wp2
        go_ret
        exact ⟨rfl, hB1.trans (below_drewN _ _)⟩
    · have HH : Hid (decide (has H o) = false) := decide_eq_false hp
      have ez : z = false := by rw [← hz.out]; simp [ownB, ho, hk, hp]
      clear ho hk hp
      subst ez
      go_enter Try.func85, Try.ntmps85
      go_wp2_with (first | (refine wpList_box_v rfl 58 _ rfl (hv ⟨k, x, y, s, l, e, o, t⟩) rfl ?_; intro b1 w1 hb1 hw1 hB1 hV1; have hz1 := hB1.size; have hb : HB w1 b1 ⟨k, x, y, s, l, e, o, t⟩ := ⟨hV1⟩; obtain ⟨c0, c1, c2, c3, c4, c5, c6, c7⟩ := hb.cells) | (fail))
      try go_frame
      go_big_quiet (first | (go_at_call 98; exact Calls.quiet_of_same (has_is H o _ _ hl _ HH.out _)) | (fail))
      go_wp2
      go_ret
      exact ⟨rfl, hB1.trans (below_drewN _ _)⟩
  · have gk : (k != 1) = true := by simpa using hk
    have ez : z = false := by rw [← hz.out]; simp [ownB, ho, hk]
    clear ho hk
    subst ez
    go_enter Try.func85, Try.ntmps85
    go_wp2_with (first | (refine wpList_box_v rfl 58 _ rfl (hv ⟨k, x, y, s, l, e, o, t⟩) rfl ?_; intro b1 w1 hb1 hw1 hB1 hV1; have hz1 := hB1.size; have hb : HB w1 b1 ⟨k, x, y, s, l, e, o, t⟩ := ⟨hV1⟩; obtain ⟨c0, c1, c2, c3, c4, c5, c6, c7⟩ := hb.cells) | (fail))
    try go_frame
    go_big_quiet (fail)
    go_wp2
    go_ret
    exact ⟨rfl, hB1.trans (below_drewN _ _)⟩
end Go.Proofs.Ythjkhghlhjndmaa.ce
