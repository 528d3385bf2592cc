/- A heap of things in memory: the program's Pop and Push. -/
import Derived.Test.YtmnjmghlkiljhaaWh4
namespace Go.Proofs.Ytmnjmghlkiljhaa.rg
open Go.ChangeShapes Go.WideShapes Go.ChangeAt Go.RowKit
open Go.Deep Go.Joins
open Go.Proofs.Ytmnjmghlkiljhaa.ce Go.Proofs.Ytmnjmghlkiljhaa.ro
set_option linter.unusedVariables false
set_option linter.unusedSimpArgs false

theorem RowAt.cutq {w : World} {g cap : Nat} {xs : List It} (r : RowAt encIt w g cap xs) (m : Nat) : RowAt encIt w g cap (xs.take m) := r.cut m
theorem szWt : (Try.prog.info? 102).map (·.size) = some 1 := by kernel_rfl
section
variable {ops : Array Oper} {rest : List Oper} {o : Oper} {a : Act} {w : World} {Q : Exit → Act → World → Prop}
theorem cells_oneq {v : Value} (h : v.oneCell' = true) : v.cells = #[v] := by cases v <;> first | rfl | cases h
theorem wpList_store_q1 (hgd : o.guard = none) (t : TypeId) (x y : Operand) (ho : o.op = .store t x y) (g j : Nat) (u : Value) (hx : a.eval x = .pointer (some ⟨g, j, none⟩)) (hy : a.eval y = u) (h1 : u.oneCell' = true) (hi : (Try.prog.info? t).map (·.size) = some 1)
    (old : Value) (hc : w.cell? ⟨g, j, none⟩ = some old) (hf : w.frozen? ⟨g, j, none⟩ = false) (h : wpList Try.prog ops Q rest (a.put o.dst undef) (w.setCell ⟨g, j, none⟩ u)) : wpList Try.prog ops Q (o :: rest) a w :=
  wpList_plain hgd fun _ hK => by
    unfold Oper.wp execOp
    obtain ⟨i, hi1, hi2⟩ := Option.map_eq_some_iff.1 hi
    simp [ho, hx, hy, Instr.storeAt, Instr.sureAddr, storeVar, sizeOf, typeInfo, hi1, hi2, cells_oneq h1, storeCells, run_store _ _ _ _ _ h1, hc, hf, Addr.add]
    exact hK _ _ h
end
theorem wpList_store_q {ops : Array Oper} {rest : List Oper} {o : Oper} {a : Act} {w : World} {Q : Exit → Act → World → Prop} (hgd : o.guard = none) (t : TypeId) (x y : Operand) (ho : o.op = .store t x y) (b j : Nat) (u : Value) (hx : a.eval x = .pointer (some ⟨b, j, none⟩)) (hy : a.eval y = u) (h1 : u.oneCell' = true) (hi : (Try.prog.info? t).map (·.size) = some 1)
    {T : TypeId} {vs : List Value} (V : VBlk w b T vs) (hj : j < vs.length) (h : ∀ w', Only b w w' → VBlk w' b T (vs.set j u) → wpList Try.prog ops Q rest (a.put o.dst undef) w') : wpList Try.prog ops Q (o :: rest) a w :=
  wpList_store_q1 hgd t x y ho b j u hx hy h1 hi _ (V.cell j hj) (V.frozen j) (h _ (only_set _ _ _ _) (V.set j u))
set_option maxRecDepth 100000 in
set_option maxHeartbeats 4000000 in
theorem pop1_any (m b g cap : Nat) (xs : List It) (hm : xs.length = m + 1) (w : World) (H : Hq w b g cap xs) :
    Calls Try.prog 165 #[.pointer (some ⟨b, 0, none⟩)] w fun e w' => (∃ u, e = .returned u) ∧ Hq w' b g cap (xs.take m) ∧ Ob b w w' := by
  obtain ⟨L, hL⟩ := hid_ex xs.length
  have hLm : Hid (L = m + 1) := hL.out.symm.trans hm
  have hw : wrap64 ((L : Int) - 1) = (m : Int) := by
    have := hLm.out; have := H.l
    rw [IntWalk.wrap64_in _ ⟨by omega, by omega⟩]; omega
  have hmL : (m : Int) < (L : Int) := by have := hLm.out; omega
  have hm0 : (0 : Int) ≤ (m : Int) := by omega
  have hcap : (m : Int) ≤ (cap : Int) := by have := H.r.le; omega
  have hcap2 : m ≤ cap := by have := H.r.le; omega
  have HQ : Hid (Hq w b g cap xs) := H
  have V := H.V
  rw [hL.out] at V
  have cV := V.cell 0 (by simp)
  simp only [List.getElem_cons_zero] at cV
  obtain ⟨c0, c1, c2, c3, c4⟩ := row_cells H.r m (by omega)
  generalize xs[m]'(by omega) = x at c0 c1 c2 c3 c4
  obtain ⟨N, F, B, C, U⟩ := x
  dsimp only at c0 c1 c2 c3 c4
  have hne := H.ne
  have HM : Hid (xs.length = m + 1) := hm
  clear H
  clear hm
  go_enter Try.func165, Try.ntmps165
  go_wp2_with (first | (refine wpList_alloc_v rfl 53 rfl _ zeroIt ?_; intro b4 w1 hb4 hw4 hB1 V4) | (refine wpList_store_v rfl 53 _ _ rfl b4 [.string N, .int .i64 F, .string B, .int .i64 C, .int .i64 U] rfl rfl sizeIt V4 rfl (by simp [Value.oneCell']) ?_; intro w2 hO2 V42; have hB12 : Below w.heap.size w w2 := hB1.trans (hO2.2.2 _ hb4); have V2 := vblk_grow V hB12; have cV2 := V2.cell 0 (by simp); simp only [List.getElem_cons_zero] at cV2; have hbl := V.lt) | (refine wpList_store_q rfl 102 _ _ rfl b 0 (.slice (some ⟨g, 0, none⟩) m cap) rfl rfl rfl szWt V2 (by simp) ?_; intro w3 hO3 V3; have V43 := vblk_only V42 hO3 (by omega); obtain ⟨d0, d1, d2, d3, d4⟩ := cells5 V43) | (fail))
  go_ret
  have r3 : RowAt encIt w3 g cap xs := (HQ.out.r.grow hB12).of (hO3.2.1 g (fun e => hne e.symm))
  have hl : (xs.take m).length = m := by have := HM.out; rw [List.length_take]; omega
  refine ⟨⟨_, rfl⟩, ⟨by rw [hl]; exact V3, r3.cut m, by have := HQ.out.l; rw [hl]; have := HM.out; omega⟩, (Ob.of_below hB12).trans (Ob.of_only hO3)⟩
/-- what is below lo stays, and what is neither a heap's variable nor a thing -/
structure Tq (lo : Nat) (w w' : World) : Prop where
  low : Below lo w w'
  keep : ∀ (k : Nat) (cur : Array Value) (t : TypeId) (f : Nat × Nat), w.heap[k]? = some (.cells cur t f) → t ≠ 102 → t ≠ 53 → w'.heap[k]? = w.heap[k]?
theorem Tq.refl (lo : Nat) (w : World) : Tq lo w w := ⟨Below.refl _ _, fun _ _ _ _ _ _ _ => rfl⟩
theorem Tq.trans {lo : Nat} {x y z : World} (h : Tq lo x y) (k : Tq lo y z) : Tq lo x z :=
  ⟨h.low.trans k.low, fun j cur t f hj h1 h2 => (k.keep j cur t f (by rw [h.keep j cur t f hj h1 h2]; exact hj) h1 h2).trans (h.keep j cur t f hj h1 h2)⟩
theorem Tq.of_below {lo : Nat} {w w' : World} (h : Below w.heap.size w w') (hl : lo ≤ w.heap.size) : Tq lo w w' := ⟨h.mono hl, fun k cur t f hk _ _ => h.block k (Array.getElem?_eq_some_iff.1 hk).1⟩
theorem Tq.of_row {lo g cap : Nat} {w w' : World} {xs : List It} (h : Ob g w w') (r : RowAt encIt w g cap xs) (hg : lo ≤ g) (hl : lo ≤ w.heap.size) : Tq lo w w' :=
  ⟨h.below hg hl, fun k cur t f hk h1 h2 => h.keep k (Array.getElem?_eq_some_iff.1 hk).1 fun e => by
    subst e
    obtain ⟨c2, hb, -⟩ := r.blk
    have := hk.symm.trans hb
    simp at this
    exact h2 this.2.1⟩
theorem Tq.of_var {lo b : Nat} {w w' : World} {vs : List Value} (h : Ob b w w') (V : VBlk w b 102 vs) (hg : lo ≤ b) (hl : lo ≤ w.heap.size) : Tq lo w w' :=
  ⟨h.below hg hl, fun k cur t f hk h1 h2 => h.keep k (Array.getElem?_eq_some_iff.1 hk).1 fun e => by
    subst e
    have := hk.symm.trans V
    simp at this
    exact h1 this.2.1⟩
theorem Tq.of_ty {lo : Nat} {w w' : World} (h : Ty lo 53 w w') : Tq lo w w' := ⟨h.low, fun k cur t f hk _ h2 => h.keep k cur t f hk h2⟩
theorem Tq.own {α : Type} {E : Enc α} {lo l2 h2 : Nat} {w w' : World} {v : Value} {xs : List α} (h : Tq lo w w') (o : Own E w l2 h2 v xs) (h1 : E.t ≠ 102) (h3 : E.t ≠ 53) : Own E w' l2 h2 v xs := o.keepT fun g cur hg _ _ => h.keep g cur _ _ hg h1 h3
end Go.Proofs.Ytmnjmghlkiljhaa.rg
