/- Cells that a call made: how they are owned; make, copy, append on them; copies of a heap. -/
import Derived.Test.YthjkhghlhjndmaaCe4
namespace Go.Proofs.Ythjkhghlhjndmaa.ce
open Go.ChangeShapes Go.WideShapes Go.ChangeAt Go.RowKit
set_option linter.unusedVariables false

/-- the cells H lie in a row of their own in a block from lo up to hi -/
structure Own (w : World) (lo hi : Nat) (v : Value) (H : List C) : Prop where
  row : w.ownsRow lo 97 4 v H.length (cvs H)
  top : ∀ g, v.ownBlock = some g → g < hi

theorem Own.form {w : World} {lo hi : Nat} {v : Value} {H : List C} (o : Own w lo hi v H) (hn : 1 ≤ H.length) :
    ∃ g cap, v = .slice (some ⟨g, 0, none⟩) H.length cap ∧ lo ≤ g ∧ g < hi ∧ g < w.heap.size := by
  rcases o.row.2 with ⟨_, h0⟩ | ⟨g, cap, cur, rfl, hg, hb, hc1, hc2, hc3, htk⟩
  · omega
  · exact ⟨g, cap, rfl, hg, o.top g rfl, (Array.getElem?_eq_some_iff.1 hb).1⟩
theorem Own.keep {w w' : World} {lo hi : Nat} {v : Value} {H : List C} (o : Own w lo hi v H) (s : ∀ k, lo ≤ k → k < hi → w'.heap[k]? = w.heap[k]?) : Own w' lo hi v H := by
  refine ⟨⟨o.row.1, ?_⟩, o.top⟩
  rcases o.row.2 with h | ⟨g, cap, cur, rfl, hg, hb, h⟩
  · exact .inl h
  · exact .inr ⟨g, cap, cur, rfl, hg, by rw [s g hg (o.top g rfl)]; exact hb, h⟩
theorem Own.below {w w' : World} {lo hi B : Nat} {v : Value} {H : List C} (o : Own w lo hi v H) (hb : Below B w w') (hB : hi ≤ B) : Own w' lo hi v H := o.keep fun k _ h2 => hb.block k (by omega)
theorem Own.wide {w : World} {lo hi lo' hi' : Nat} {v : Value} {H : List C} (o : Own w lo hi v H) (h1 : lo' ≤ lo) (h2 : hi ≤ hi') : Own w lo' hi' v H := by
  refine ⟨⟨o.row.1, ?_⟩, fun g hg => by have := o.top g hg; omega⟩
  rcases o.row.2 with h | ⟨g, cap, cur, rfl, hg, hb, h⟩
  · exact .inl h
  · exact .inr ⟨g, cap, cur, rfl, by omega, hb, h⟩
theorem Own.rd {w : World} {lo hi : Nat} {v : Value} {H : List C} (o : Own w lo hi v H) : Rd w hi v H := by
  rcases o.row.2 with ⟨rfl, h0⟩ | ⟨g, cap, cur, rfl, hg, hb, hc1, hc2, hc3, htk⟩
  · have e := List.eq_nil_of_length_eq_zero h0
    subst e
    exact ⟨none, 0, rfl, Nat.le_refl _, Nat.zero_le _, fun h => absurd rfl h⟩
  · refine ⟨some ⟨g, 0, none⟩, cap, rfl, hc1, hc2, fun _ => ⟨g, 0, rfl, o.top g rfl, fun j u hj => ?_⟩⟩
    rw [cell_of_row _ _ _ _ _ _ hb]
    rw [← htk, List.getElem?_take] at hj
    split at hj
    · simpa using hj
    · cases hj
theorem own_none (w : World) (lo hi : Nat) : Own w lo hi (.slice none 0 0) [] := ⟨World.ownsRow_nil w lo _ 4, fun g h => by cases h⟩
theorem Own.set {w : World} {lo hi g cap : Nat} {H : List C} (o : Own w lo hi (.slice (some ⟨g, 0, none⟩) H.length cap) H) (i : Nat) (hi' : i < H.length) (j : Nat) (hj : j < 4) (u : Value) (c : C) (hc : cv c = (cv H[i]).set j u) :
    Own (w.setCell ⟨g, i * 4 + j, none⟩ u) lo hi (.slice (some ⟨g, 0, none⟩) H.length cap) (H.set i c) := by
  have := (o.row.stored (i * 4 + j) u).1
  rw [cvs_set H i hi' j hj u c hc] at this
  exact ⟨by rw [List.length_set]; exact this, o.top⟩
theorem Own.frozen {w : World} {lo hi g cap : Nat} {H : List C} (o : Own w lo hi (.slice (some ⟨g, 0, none⟩) H.length cap) H) (j : Nat) : w.frozen? ⟨g, j, none⟩ = false := o.row.frozenAt j
theorem below_grown {B : Nat} {w w' : World} {row : Option Nat} (h : w.grownBy w' row) (hB : B ≤ w.heap.size) (hr : ∀ k, row = some k → B ≤ k) : Below B w w' := Below.grown (Below.refl _ w) h hB hr

theorem infoC : ∃ i : TypeInfo, Try.prog.info? 97 = some i ∧ i.zero = some (.agg #[.int .i64 0, .int .i64 0, .int .i64 0, .bool false]) ∧ i.size = 4 ∧ i.bytes = 32 := by
  have h : (Try.prog.info? 97).map (fun i => (i.zero, i.size, i.bytes)) = some (some (.agg #[.int .i64 0, .int .i64 0, .int .i64 0, .bool false]), 4, 32) := by kernel_rfl
  obtain ⟨i, hi, hz⟩ := Option.map_eq_some_iff.1 h
  simp only [Prod.mk.injEq] at hz
  exact ⟨i, hi, hz.1, hz.2.1, hz.2.2⟩

section ops
variable {P : Program} {ops : Array Oper} {rest : List Oper} {o : Oper} {a : Act} {w : World} {Q : Exit → Act → World → Prop}

theorem run_copy_cells4 (w : World) (dT sT ty elem : TypeId) (b o dCap : Nat) (a : Addr) (n sCap : Nat) (cs : List Value)
    (hu : P.underlying dT = some (.slice elem)) (hs : (P.info? elem).map (·.size) = some 4) (hn : cs.length = n * 4)
    (hsrc : ∀ j v, cs[j]? = some v → w.cell? (a.add j) = some v) (hc : ∀ j, j < cs.length → (w.cell? ⟨b, o + j, none⟩).isSome = true) (hf : ∀ j, j < cs.length → w.frozen? ⟨b, o + j, none⟩ = false) (h1 : ∀ v ∈ cs, v.oneCell' = true) :
    (Builtin.copy_ #[dT, sT] ty #[.slice (some ⟨b, o, none⟩) n dCap, .slice (some a) n sCap]).run P w = .ok (goInt n) (w.setCells b o cs) := by
  have hl := run_loadCells_list (P := P) w a cs hsrc
  have hst := run_storeCells_cells (P := P) b o cs 0 w (by simpa using hc) (by simpa using hf) h1
  cases hq : P.info? elem with
  | none => simp [hq] at hs
  | some i =>
    have hi : i.size = 4 := by simpa [hq] using hs
    simp [Builtin.copy_, run_underlying hu, Builtin.lenOf, Builtin.firstCells, sizeOf, typeInfo, hq, hi, ← hn, hl, hst]

/-- all cells of one slice are copied into a row that the call made -/
theorem wpList_copy_c (hgd : o.guard = none) (d s : Operand) (dT sT : TypeId) (ho : o.op = .call { callee := .builtin .copy, args := #[d, s], argTypes := #[dT, sT] }) (elem : TypeId) (hu : P.underlying dT = some (.slice elem)) (hsz : (P.info? elem).map (·.size) = some 4)
    (b n c b' k' c' : Nat) (H : List C) (hn : H.length = n) (hd : a.eval d = .slice (some ⟨b, 0, none⟩) n c) (hs : a.eval s = .slice (some ⟨b', k', none⟩) n c') (hr : w.rangeAt b' k' (cvs H)) (lo : Nat) (e : TypeId) (X : List Value) (hown : w.ownsRow lo e 4 (.slice (some ⟨b, 0, none⟩) n c) n X)
    (h : ∀ w', Only b w w' → w'.ownsRow lo e 4 (.slice (some ⟨b, 0, none⟩) n c) n (cvs H) → wpList P ops Q rest (a.put o.dst (goInt n)) w') : wpList P ops Q (o :: rest) a w := by
  subst hn
  rcases hown.2 with ⟨h', _⟩ | ⟨g, cap, cur, h', hg, hb, hc1, hc2, hc3, htk⟩
  · simp at h'
  · cases h'
    have hrun := run_copy_cells4 (P := P) w dT sT o.type elem b 0 c ⟨b', k', none⟩ H.length c' (cvs H) hu hsz (cvs_len H) (fun j v hv => by rw [Addr.add_mid]; exact hr j v hv)
      (fun j hj => by rw [cvs_len] at hj; rw [cell_of_row _ _ _ _ _ _ hb]; simp; omega) (fun j hj => frozen_of_row _ _ _ _ _ hb) (cvs_one H)
    refine wpList_val hgd (w' := w.setCells b 0 (cvs H)) (v := goInt H.length) ?_ (h _ (only_setCells _ _ _ _) ⟨cvs_len H, .inr ⟨b, c, _, rfl, hg, heap_setCells b e (cvs H) 0 w cur.toList (by simpa using hb) (by rw [cvs_len]; simp; omega), hc1, hc2, ?_, ?_⟩⟩)
    · simp [execOp, ho, resolve, invoke, builtin, hd, hs, hrun, Result.andThen]
    · simp [cvs_len]; omega
    · simp [cvs_len]
/-- a row of so many elements, whatever they hold -/
structure Raw (w : World) (lo : Nat) (v : Value) (n : Nat) : Prop where
  own : ∃ X, w.ownsRow lo 97 4 v n X
theorem wpList_make_c {o : Oper} {a : Act} {w : World} {ops : Array Oper} {rest : List Oper} {Q : Exit → Act → World → Prop} (hgd : o.guard = none) (l c : Operand) (t : TypeId) (ho : o.op = .makeSlice t l c) (ht : Try.prog.underlying t = some (.slice 97)) (n : Nat) (hn : n ≤ 1048576) (hl : a.eval l = .int .i64 n) (hc : a.eval c = .int .i64 n)
    (h : ∀ b w', w.heap.size ≤ b → b < w'.heap.size → Below w.heap.size w w' → Raw w' w.heap.size (.slice (some ⟨b, 0, none⟩) n n) n → wpList Try.prog ops Q rest (a.put o.dst (.slice (some ⟨b, 0, none⟩) n n)) w') : wpList Try.prog ops Q (o :: rest) a w := by
  obtain ⟨i0, hi0, hz0, hz1, hz2⟩ := infoC
  refine wpList_make_full _ hgd l c t ho w.heap.size 97 i0 _ 4 ht hi0 hz0 hz1 .i64 .i64 n n n hl hc rfl rfl (by rw [hz2]; omega) (by unfold maxLen; omega) (Nat.le_refl _) ?_
  intro w1 h1 h2
  have hb : Below w.heap.size w w1 := below_grown h2 (Nat.le_refl _) (fun k hk => by cases hk)
  exact h _ w1 (Nat.le_refl _) (h1.lt _ rfl).2 hb ⟨_, h1⟩
theorem wpList_copy_raw {o : Oper} {a : Act} {w : World} {ops : Array Oper} {rest : List Oper} {Q : Exit → Act → World → Prop} (hgd : o.guard = none) (d s : Operand) (dT sT : TypeId) (ho : o.op = .call { callee := .builtin .copy, args := #[d, s], argTypes := #[dT, sT] }) (hu : Try.prog.underlying dT = some (.slice 97))
    (b n c b' k' c' : Nat) (H : List C) (hn : H.length = n) (hd : a.eval d = .slice (some ⟨b, 0, none⟩) n c) (hs : a.eval s = .slice (some ⟨b', k', none⟩) n c') (hr : w.rangeAt b' k' (cvs H)) (lo : Nat) (hown : Raw w lo (.slice (some ⟨b, 0, none⟩) n c) n)
    (h : ∀ w', Only b w w' → Own w' lo (b + 1) (.slice (some ⟨b, 0, none⟩) n c) H → wpList Try.prog ops Q rest (a.put o.dst (goInt n)) w') : wpList Try.prog ops Q (o :: rest) a w := by
  obtain ⟨X, hX⟩ := hown.own
  refine wpList_copy_c hgd d s dT sT ho 97 hu sizeC b n c b' k' c' H hn hd hs hr lo 97 X hX ?_
  intro w' h1 h2
  exact h w' h1 ⟨by rw [hn]; exact h2, fun g hg => by cases hg; exact Nat.lt_succ_self _⟩
/-- cells are appended to cells that the call made -/
theorem wpList_append_c {o : Oper} {a : Act} {w : World} {ops : Array Oper} {rest : List Oper} {Q : Exit → Act → World → Prop} (hgd : o.guard = none) (s x : Operand) (t : TypeId) (ho : o.op = .call { callee := .builtin .append, args := #[s, x], argTypes := #[t, t] }) (ht : Try.prog.underlying t = some (.slice 97))
    (lo hi : Nat) (v : Value) (H : List C) (hs : a.eval s = v) (hown : Own w lo hi v H) (hlo : lo ≤ w.heap.size) (b off m c : Nat) (G : List C) (hx : a.eval x = .slice (some ⟨b, off, none⟩) m c) (hm : G.length = m) (hr : w.rangeAt b off (cvs G)) (hlen : H.length + m ≤ 1048576)
    (h : ∀ v' w', Own w' lo w'.heap.size v' (H ++ G) → Below lo w w' → wpList Try.prog ops Q rest (a.put o.dst v') w') : wpList Try.prog ops Q (o :: rest) a w := by
  obtain ⟨i0, hi0, hz0, hz1, hz2⟩ := infoC
  subst hm
  refine wpList_append_own _ hgd s x t ho lo 97 i0 _ 4 32 ht hi0 hz0 hz1 hz2 rfl (by decide) v H.length (cvs H) hs hown.row ⟨b, off, none⟩ G.length c (cvs G) hx (cvs_len G) (fun j u hj => by rw [Addr.add_mid]; exact hr j u hj) (cvs_one G) (by unfold maxLen; omega) (by omega) hlo ?_
  intro v' w' h2 h3 h4
  rw [← cvs_append] at h2
  refine h v' w' ⟨by rw [List.length_append]; exact h2, fun g hg => (h2.lt g hg).2⟩ (below_grown h3 hlo fun k hk => (hown.row.lt k hk).1)
/-- one cell more behind a view that has no room: a new row -/
theorem step_grow {o : Oper} {a : Act} {w : World} {ops : Array Oper} {K : Act → World → Prop} {Q : Exit → Act → World → Prop} {E : Prop} (hgd : o.guard = none) (s x : Operand) (t : TypeId) (ho : o.op = .call { callee := .builtin .append, args := #[s, x], argTypes := #[t, t] }) (ht : Try.prog.underlying t = some (.slice 97))
    (b off n : Nat) (H : List C) (hn : H.length = n) (hs : a.eval s = .slice (some ⟨b, off, none⟩) n n) (hr : w.rangeAt b off (cvs H)) (hlen : n ≤ 1048576) (b' : Nat) (c : C) (hx : a.eval x = .slice (some ⟨b', 0, none⟩) 1 1) (hr' : w.rangeAt b' 0 (cv c))
    (h : ∀ v' w', Own w' w.heap.size w'.heap.size v' (H ++ [c]) → Below w.heap.size w w' → K (a.put o.dst v') w') :
    if Region.wanted o (yielded ops a.tmps) = true then Oper.wp Try.prog o a w K Q else E := by
  obtain ⟨i0, hi0, hz0, hz1, hz2⟩ := infoC
  subst hn
  obtain ⟨v', w', hrun, h2, h3⟩ := run_append_arg_grows (P := Try.prog) (w := w) t o.type 97 i0 _ 4 32 ht hi0 hz0 hz1 hz2 rfl (by decide) ⟨b, off, none⟩ H.length H.length (cvs H) (cvs_len H) (fun j u hj => by rw [Addr.add_mid]; exact hr j u hj) ⟨b', 0, none⟩ 1 1 (cv c) rfl (fun j u hj => by rw [Addr.add_mid]; exact hr' j u hj) (by omega) (by unfold maxLen; omega) (by omega)
  have e : cvs H ++ cv c = cvs (H ++ [c]) := by rw [cvs_append]; simp [cvs]
  rw [e] at h2
  refine step_val hgd (v := v') (w' := w') ?_ (h v' w' ⟨by rw [List.length_append]; exact h2, fun g hg => (h2.lt g hg).2⟩ (below_grown h3 (Nat.le_refl _) fun k hk => by cases hk))
  simp [execOp, ho, resolve, invoke, builtin, hs, hx, hrun, Result.andThen]
end ops

theorem copied_any (H : List C) (v : Value) (hi : Nat) (w : World) (hh : hi ≤ w.heap.size) (r : Rd w hi v H) (h1 : 1 ≤ H.length) (h2 : H.length ≤ 1048576) :
    Calls Try.prog 88 #[v] w fun e w' => ∃ v', e = .returned v' ∧ Own w' w.heap.size w'.heap.size v' H ∧ Below w.heap.size w w' := by
  obtain ⟨a, cap, rfl, hlc, hcm, hA⟩ := r.fits
  obtain ⟨b, off, rfl, hb, hr⟩ := hA (by intro e; subst e; simp at h1)
  have RG : Hid (w.rangeAt b off (cvs H)) := hr
  clear hA hr r
  go_enter Try.func88, Try.ntmps88
  go_wp2_with (first | (refine wpList_make_c rfl _ _ 101 rfl Try.underlying101 H.length h2 rfl rfl ?_; intro g w1 hg1 hg2 hB1 hR1) | (refine wpList_copy_raw rfl _ _ _ _ rfl Try.underlying101 g H.length H.length b off cap H rfl rfl rfl (range_of RG.out (hB1.block b (by omega))) w.heap.size hR1 ?_; intro w2 hO2 hR2))
  go_ret
  exact ⟨_, rfl, hR2.wide (Nat.le_refl _) (by have := hO2.1; omega), hB1.trans (hO2.2.2 _ hg1)⟩

theorem l3Copy_any (H : List C) (v : Value) (hi : Nat) (w : World) (hh : hi ≤ w.heap.size) (r : Rd w hi v H) (h1 : 1 ≤ H.length) (h2 : H.length ≤ 1048576) :
    Calls Try.prog 87 #[v] w fun e w' => ∃ v', e = .returned v' ∧ Own w' w.heap.size w'.heap.size v' H ∧ Below w.heap.size w w' := by
  obtain ⟨a, cap, rfl, hlc, hcm, hA⟩ := r.fits
  obtain ⟨b, off, rfl, hb, hr⟩ := hA (by intro e; subst e; simp at h1)
  have RG : Hid (w.rangeAt b off (cvs H)) := hr
  clear hA hr r
  have hown : Own (w.alloc (.cells #[] 97)) w.heap.size (w.heap.size + 1) (.slice (some ⟨w.heap.size, 0, none⟩) 0 0) [] :=
    ⟨⟨rfl, .inr ⟨w.heap.size, 0, #[], rfl, Nat.le_refl _, heap_alloc_new _ _, Nat.le_refl _, by unfold maxLen; omega, rfl, rfl⟩⟩, fun g hg => by cases hg; exact Nat.lt_succ_self _⟩
  have hB0 : Below w.heap.size w (w.alloc (.cells #[] 97)) := (Below.refl _ w).alloc (Nat.le_refl _) _
  go_enter Try.func87, Try.ntmps87
  go_wp2_with (first | (at_builtin; refine wpList_append_c rfl _ _ 28 rfl Try.underlying28 w.heap.size _ _ [] rfl hown (by simp) b off H.length cap H rfl rfl (range_of RG.out (hB0.block b (by omega))) (by simp; omega) ?_; intro v' w2 hO2 hB2))
  go_ret
  exact ⟨_, rfl, hO2, hB0.trans hB2⟩

theorem with_any (H : List C) (c : C) (v : Value) (hi : Nat) (w : World) (hh : hi ≤ w.heap.size) (r : Rd w hi v H) (h1 : 1 ≤ H.length) (h2 : H.length ≤ 1048576) :
    Calls Try.prog 138 #[v, .agg (cv c).toArray] w fun e w' => ∃ v', e = .returned v' ∧ Own w' w.heap.size w'.heap.size v' (H ++ [c]) ∧ Below w.heap.size w w' := by
  obtain ⟨a, cap, rfl, hlc, hcm, hA⟩ := r.fits
  obtain ⟨b, off, rfl, hb, hr⟩ := hA (by intro e; subst e; simp at h1)
  have RG : Hid (w.rangeAt b off (cvs H)) := hr
  have hcap : cap ≤ 9223372036854775807 := by unfold maxLen at hcm; omega
  clear hA hr r
  obtain ⟨k, x, n, g⟩ := c
  have hlc' : (H.length : Int) ≤ cap := by omega
  go_enter Try.func138, Try.ntmps138
  go_wp2_with (first | (refine wpList_box_v rfl 97 _ rfl [.int .i64 k, .int .i64 x, .int .i64 n, .bool g] rfl ?_; intro b1 w1 hb1 hw1 hB1 hV1; have c0 := hV1.cell 0 (by simp); have c1 := hV1.cell 1 (by simp); have c2 := hV1.cell 2 (by simp); have c3 := hV1.cell 3 (by simp); simp only [List.getElem_cons_zero, List.getElem_cons_succ] at c0 c1 c2 c3))
  obtain ⟨w2, hw2⟩ := hid_ex (w1.alloc (.cells #[.int .i64 k, .int .i64 x, .int .i64 n, .bool g] 97))
  have hB2 : Below w1.heap.size w1 w2 := by rw [← hw2.out]; exact (Below.refl _ w1).alloc (Nat.le_refl _) _
  have hV2 : VBlk w2 w1.heap.size 97 [.int .i64 k, .int .i64 x, .int .i64 n, .bool g] := by rw [← hw2.out]; exact heap_alloc_new _ _
  have hBs := hB1.size
  have RG2 : Hid (w2.drew.rangeAt b off (cvs H)) := range_of (range_of RG.out (hB1.block b (by omega))) (hB2.block b (by omega))
  have RN2 : Hid (w2.drew.rangeAt w1.heap.size 0 (cv ⟨k, x, n, g⟩)) := hV2.drew.range
  have S1 : w1.drew.cell? ⟨b1, 0, none⟩ = some (.int .i64 k) ∧ w1.drew.cell? ⟨b1, 1, none⟩ = some (.int .i64 x) ∧ w1.drew.cell? ⟨b1, 2, none⟩ = some (.int .i64 n) ∧ w1.drew.cell? ⟨b1, 3, none⟩ = some (.bool g) := ⟨c0, c1, c2, c3⟩
  have hV12 := (hV1.below hB2 hw1).drew
  have S2 : w2.drew.cell? ⟨b1, 0, none⟩ = some (.int .i64 k) ∧ w2.drew.cell? ⟨b1, 1, none⟩ = some (.int .i64 x) ∧ w2.drew.cell? ⟨b1, 2, none⟩ = some (.int .i64 n) ∧ w2.drew.cell? ⟨b1, 3, none⟩ = some (.bool g) := ⟨hV12.cell 0 (by simp), hV12.cell 1 (by simp), hV12.cell 2 (by simp), hV12.cell 3 (by simp)⟩
  go_region_held3 (fun w' => w'.cell? ⟨b1, 0, none⟩ = some (.int .i64 k) ∧ w'.cell? ⟨b1, 1, none⟩ = some (.int .i64 x) ∧ w'.cell? ⟨b1, 2, none⟩ = some (.int .i64 n) ∧ w'.cell? ⟨b1, 3, none⟩ = some (.bool g)) (first | assumption | (rw [hw2.out]; exact S2)) (first | (rw [hw2.out]; refine step_grow rfl _ _ 101 rfl Try.underlying101 b off H.length H rfl rfl RG2.out h2 w1.heap.size ⟨k, x, n, g⟩ rfl RN2.out ?_; intro v' w3 hO3 hB3; have hV13 := hV12.below hB3 hV12.lt; have S3 : w3.cell? ⟨b1, 0, none⟩ = some (.int .i64 k) ∧ w3.cell? ⟨b1, 1, none⟩ = some (.int .i64 x) ∧ w3.cell? ⟨b1, 2, none⟩ = some (.int .i64 n) ∧ w3.cell? ⟨b1, 3, none⟩ = some (.bool g) := ⟨hV13.cell 0 (by simp), hV13.cell 1 (by simp), hV13.cell 2 (by simp), hV13.cell 3 (by simp)⟩) | (fail))
  go_wp2
  go_ret
  have hs2 : w1.heap.size ≤ w2.drew.heap.size := hB2.size
  exact ⟨_, rfl, hO3.wide (by omega) (Nat.le_refl _), (hB1.trans ((hB2.mono hBs).drew)).trans (hB3.mono (by omega))⟩

end Go.Proofs.Ythjkhghlhjndmaa.ce
