/- Rows that a call made, of whatever things: written at a place, cut short, copied into. -/
import Derived.Test.YtmnjmghlkiljhaaRo1
namespace Go.Proofs.Ytmnjmghlkiljhaa.ro
open Go.ChangeShapes Go.WideShapes Go.ChangeAt Go.RowKit
open Go.Proofs.Ytmnjmghlkiljhaa.ce
set_option linter.unusedVariables false
variable {α : Type}

theorem write_list {β : Type} (L : List β) (k n i m : Nat) (R : List β) (hR : R.length = m * k) (hin : i ≤ n) (hL : n * k ≤ L.length) (hc : (i + m) * k ≤ L.length) :
    (L.take (i * k) ++ R ++ L.drop (i * k + R.length)).take ((if i + m ≤ n then n else i + m) * k) = (L.take (n * k)).take (i * k) ++ R ++ (L.take (n * k)).drop ((i + m) * k) := by
  have e1 : (i + m) * k = i * k + m * k := Nat.add_mul _ _ _
  have h1 : i * k ≤ n * k := Nat.mul_le_mul_right _ hin
  have h2 : (L.take (i * k)).length = i * k := by rw [List.length_take]; omega
  rw [List.take_take, Nat.min_eq_left h1]
  have h3 : (L.take (i * k) ++ R).length = (i + m) * k := by rw [List.length_append, h2, hR, e1]
  rw [hR, ← e1]
  split
  · next h =>
    have h4 : (i + m) * k ≤ n * k := Nat.mul_le_mul_right _ h
    rw [List.take_append, h3, List.take_of_length_le (by rw [h3]; exact h4), List.drop_take]
  · next h =>
    have h4 : n * k ≤ (i + m) * k := Nat.mul_le_mul_right _ (by omega)
    rw [List.take_append_of_le_length (by rw [h3]; exact Nat.le_refl _), List.take_of_length_le (by rw [h3]; exact Nat.le_refl _), List.drop_of_length_le (by rw [List.length_take]; omega), List.append_nil]
/-- the block g has room for cap things; the first of them are xs -/
structure RowAt (E : Enc α) (w : World) (g cap : Nat) (xs : List α) : Prop where
  blk : ∃ cur : Array Value, w.heap[g]? = some (.cells cur E.t (0, 0)) ∧ cur.size = cap * E.k ∧ cur.toList.take (xs.length * E.k) = E.row xs
  le : xs.length ≤ cap
  cap : cap ≤ maxLen
theorem Own.at {E : Enc α} {w : World} {lo hi g n cap : Nat} {xs : List α} (o : Own E w lo hi (.slice (some ⟨g, 0, none⟩) n cap) xs) (hne : xs ≠ []) : RowAt E w g cap xs ∧ lo ≤ g ∧ g < hi := by
  rcases o.row with ⟨e, -⟩ | ⟨g', cap', cur, e, hg, hb, hc1, hc2, hc3, htk⟩
  · exact absurd e hne
  cases e
  exact ⟨⟨⟨cur, hb, hc3, htk⟩, hc1, hc2⟩, hg⟩
theorem RowAt.own {E : Enc α} {w : World} {g cap : Nat} {xs : List α} (r : RowAt E w g cap xs) {lo hi n : Nat} (h1 : lo ≤ g) (h2 : g < hi) (hn : n = xs.length) : Own E w lo hi (.slice (some ⟨g, 0, none⟩) n cap) xs := by
  subst hn
  obtain ⟨cur, hb, hs, ht⟩ := r.blk
  exact ⟨.inr ⟨g, cap, cur, rfl, ⟨h1, h2⟩, hb, r.le, r.cap, hs, ht⟩⟩
theorem RowAt.lt {E : Enc α} {w : World} {g cap : Nat} {xs : List α} (r : RowAt E w g cap xs) : g < w.heap.size := by
  obtain ⟨cur, hb, -, -⟩ := r.blk
  exact (Array.getElem?_eq_some_iff.1 hb).1
theorem RowAt.of {E : Enc α} {w w' : World} {g cap : Nat} {xs : List α} (r : RowAt E w g cap xs) (e : w'.heap[g]? = w.heap[g]?) : RowAt E w' g cap xs := by
  obtain ⟨cur, hb, hs, ht⟩ := r.blk
  exact ⟨⟨cur, by rw [e]; exact hb, hs, ht⟩, r.le, r.cap⟩
theorem RowAt.grow {E : Enc α} {w w' : World} {g cap : Nat} {xs : List α} (r : RowAt E w g cap xs) (hb : Below w.heap.size w w') : RowAt E w' g cap xs := r.of (hb.block g r.lt)
/-- things are written at the place i, maybe over the end -/
theorem RowAt.write {E : Enc α} {w : World} {g cap : Nat} {xs : List α} (r : RowAt E w g cap xs) (i : Nat) (hi' : i ≤ xs.length) (ys : List α) (hc : i + ys.length ≤ cap) : RowAt E (w.setCells g (i * E.k) (E.row ys)) g cap (xs.take i ++ ys ++ xs.drop (i + ys.length)) := by
  obtain ⟨cur, hb, hc3, htk⟩ := r.blk
  have hc1 := r.le
  have hL : cur.toList.length = cap * E.k := by rw [Array.length_toList, hc3]
  have hk : (i + ys.length) * E.k ≤ cap * E.k := Nat.mul_le_mul_right _ hc
  have hk1 : xs.length * E.k ≤ cap * E.k := Nat.mul_le_mul_right _ hc1
  have hRl := E.row_len ys
  have e1 : (i + ys.length) * E.k = i * E.k + ys.length * E.k := Nat.add_mul _ _ _
  have hlen : (xs.take i ++ ys ++ xs.drop (i + ys.length)).length = if i + ys.length ≤ xs.length then xs.length else i + ys.length := by
    simp only [List.length_append, List.length_take, List.length_drop]
    split <;> omega
  have hw := write_list cur.toList E.k xs.length i ys.length (E.row ys) hRl hi' (by rw [hL]; exact hk1) (by rw [hL]; exact hk)
  refine ⟨⟨(cur.toList.take (i * E.k) ++ E.row ys ++ cur.toList.drop (i * E.k + (E.row ys).length)).toArray, ?_, ?_, ?_⟩, ?_, r.cap⟩
  · exact heap_setCells g E.t (E.row ys) (i * E.k) w cur.toList (by simpa using hb) (by rw [hL, hRl]; omega)
  · simp only [List.size_toArray, List.length_append, List.length_take, List.length_drop, hL, hRl]; omega
  · rw [hlen]
    show (cur.toList.take (i * E.k) ++ E.row ys ++ cur.toList.drop (i * E.k + (E.row ys).length)).take _ = _
    rw [hw, htk, E.row_take, E.row_append, E.row_append]
    congr 1
    by_cases h : i + ys.length ≤ xs.length
    · exact E.row_drop xs _ h
    · have e3 : xs.drop (i + ys.length) = [] := List.drop_of_length_le (by omega)
      rw [e3, List.drop_of_length_le (by rw [E.row_len]; exact Nat.mul_le_mul_right _ (by omega))]; rfl
  · rw [hlen]; split <;> omega
theorem RowAt.cut {E : Enc α} {w : World} {g cap : Nat} {xs : List α} (r : RowAt E w g cap xs) (m : Nat) : RowAt E w g cap (xs.take m) := by
  obtain ⟨cur, hb, hs, ht⟩ := r.blk
  have hl := r.le
  have h2 : (xs.take m).length = min m xs.length := List.length_take
  refine ⟨⟨cur, hb, hs, ?_⟩, by omega, r.cap⟩
  rw [h2, ← E.row_take, ← ht, List.take_take, ← Nat.mul_min_mul_right]
/-- the cells of a row are there -/
theorem RowAt.there {E : Enc α} {w : World} {g cap : Nat} {xs : List α} (r : RowAt E w g cap xs) : (∀ j, j < cap * E.k → (w.cell? ⟨g, j, none⟩).isSome = true) ∧ (∀ j, w.frozen? ⟨g, j, none⟩ = false) ∧ w.shape? g = some (E.t, cap * E.k) := by
  obtain ⟨cur, hb, hs, ht⟩ := r.blk
  refine ⟨fun j hj => ?_, fun j => frozen_of_row _ _ _ _ _ hb, ?_⟩
  · rw [cell_of_row _ _ _ _ _ _ hb]
    simp; omega
  · simp [World.shape?, hb, hs]
theorem RowAt.ty {E : Enc α} {w w' : World} {g cap lo : Nat} {xs : List α} (r : RowAt E w g cap xs) (hg : lo ≤ g) (h : Only g w w') : Ty lo E.t w w' := by
  obtain ⟨cur, hb, hs, htk⟩ := r.blk
  refine ⟨h.2.2 _ hg, fun k cu t' f hk ht => h.2.1 k fun e => ?_⟩
  subst e
  rw [hk] at hb
  simp at hb
  exact ht hb.2.1
/-- the things from the place i on are read -/
theorem RowAt.range {E : Enc α} {w : World} {g cap : Nat} {xs : List α} (r : RowAt E w g cap xs) (i : Nat) (hi' : i ≤ xs.length) : w.rangeAt g (i * E.k) (E.row (xs.drop i)) := fun j v hv => by
  obtain ⟨cur, hb, hs, ht⟩ := r.blk
  rw [cell_of_row _ _ _ _ _ _ hb]
  rw [← E.row_drop xs i hi', ← ht, List.getElem?_drop, List.getElem?_take] at hv
  split at hv
  · simpa using hv
  · cases hv
theorem RowAt.head {E : Enc α} {w : World} {g cap : Nat} {xs : List α} (r : RowAt E w g cap xs) (i : Nat) : w.rangeAt g 0 (E.row (xs.take i)) := by
  have := (r.cut i).range 0 (Nat.zero_le _)
  simpa using this
/-- the elements are read at a, all of them or as many as there is room for -/
theorem run_copy_e {P : Program} {E : Enc α} (w : World) (dT sT ty : TypeId) (hu : P.underlying dT = some (.slice E.t)) (hs : (P.info? E.t).map (·.size) = some E.k) (g j dLen dCap b off sLen sCap : Nat) (ys : List α) (hn : ys.length = Nat.min sLen dLen)
    (hr : w.rangeAt b off (E.row ys)) (hc : ∀ q, q < ys.length * E.k → (w.cell? ⟨g, j + q, none⟩).isSome = true) (hf : ∀ q, w.frozen? ⟨g, q, none⟩ = false) :
    (Builtin.copy_ #[dT, sT] ty #[.slice (some ⟨g, j, none⟩) dLen dCap, .slice (some ⟨b, off, none⟩) sLen sCap]).run P w = .ok (goInt ys.length) (w.setCells g j (E.row ys)) := by
  have hl := run_loadCells_list (P := P) w ⟨b, off, none⟩ (E.row ys) (fun q v hv => by rw [Addr.add_mid]; exact hr q v hv)
  have hst := run_storeCells_cells (P := P) g j (E.row ys) 0 w (by rw [E.row_len]; simpa using hc) (by intro q hq; exact hf _) (E.row_cells ys)
  have hrl := E.row_len ys
  cases hq : P.info? E.t with
  | none => simp [hq] at hs
  | some i =>
    have hi : i.size = E.k := by simpa [hq] using hs
    have hm : min sLen dLen = ys.length := hn.symm
    simp [Builtin.copy_, run_underlying hu, Builtin.lenOf, Builtin.firstCells, sizeOf, typeInfo, hq, hi, hm, ← hrl, hl, hst]
section
variable {ops : Array Oper} {rest : List Oper} {o : Oper} {a : Act} {w : World} {Q : Exit → Act → World → Prop} {K : Act → World → Prop} {X : Prop}
theorem wpList_cp (hgd : o.guard = none) (d s : Operand) (dT sT : TypeId) (ho : o.op = .call { callee := .builtin .copy, args := #[d, s], argTypes := #[dT, sT] }) (v u : Value) (hd : a.eval d = v) (hs : a.eval s = u) {v' : Value} {w' : World} (hr : (Builtin.copy_ #[dT, sT] o.type #[v, u]).run Try.prog w = .ok v' w')
    (h : wpList Try.prog ops Q rest (a.put o.dst v') w') : wpList Try.prog ops Q (o :: rest) a w :=
  wpList_val hgd (v := v') (w' := w') (by simp [execOp, ho, resolve, invoke, builtin, hd, hs, hr, Result.andThen]) h
theorem step_cp (hgd : o.guard = none) (d s : Operand) (dT sT : TypeId) (ho : o.op = .call { callee := .builtin .copy, args := #[d, s], argTypes := #[dT, sT] }) (v u : Value) (hd : a.eval d = v) (hs : a.eval s = u) {v' : Value} {w' : World} (hr : (Builtin.copy_ #[dT, sT] o.type #[v, u]).run Try.prog w = .ok v' w')
    (h : K (a.put o.dst v') w') : if Region.wanted o (yielded ops a.tmps) = true then Oper.wp Try.prog o a w K Q else X :=
  step_val hgd (v := v') (w' := w') (by simp [execOp, ho, resolve, invoke, builtin, hd, hs, hr, Result.andThen]) h
/-- a thing is stored at a place of a row that the call made -/
theorem wpList_store_e {E : Enc α} (hsz : (Try.prog.info? E.t).map (·.size) = some E.k) (hgd : o.guard = none) (x y : Operand) (ho : o.op = .store E.t x y) (lo hi g n cap i j0 : Nat) (xs : List α) (c : α) (hx : a.eval x = .pointer (some ⟨g, j0, none⟩)) (hj0 : j0 = i * E.k) (hy : a.eval y = .agg (E.put c).toArray)
    (own : Own E w lo hi (.slice (some ⟨g, 0, none⟩) n cap) xs) (hlt : i < xs.length) (h : ∀ w', Only g w w' → Own E w' lo hi (.slice (some ⟨g, 0, none⟩) n cap) (xs.set i c) → wpList Try.prog ops Q rest (a.put o.dst undef) w') : wpList Try.prog ops Q (o :: rest) a w := by
  subst hj0
  have hne : xs ≠ [] := fun e => by rw [e] at hlt; simp at hlt
  obtain ⟨r, hg1, hg2⟩ := own.at hne
  obtain ⟨h1, h2, -⟩ := r.there
  obtain ⟨hn, hc, -⟩ := own.rd.cap
  have es : xs.take i ++ [c] ++ xs.drop (i + [c].length) = xs.set i c := by
    rw [List.set_eq_take_append_cons_drop, if_pos hlt]; simp
  have hw := r.write i (by omega) [c] (by simp; omega)
  rw [E.row_one', es] at hw
  refine wpList_store_mid hgd E.t x y ho g (i * E.k) (E.put c).toArray hx hy (fun j hj => ⟨h1 _ ?_, h2 _⟩) (by rw [hsz, List.size_toArray, E.len]) (all_oneCell_toArray (E.one c)) (h _ (only_setCells _ _ _ _) (hw.own hg1 hg2 (by simp; omega)))
  rw [List.size_toArray, E.len] at hj
  have : (i + 1) * E.k ≤ cap * E.k := Nat.mul_le_mul_right _ (by omega)
  rw [Nat.add_mul] at this
  omega
end
end Go.Proofs.Ytmnjmghlkiljhaa.ro
