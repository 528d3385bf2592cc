/- Texts laid together: Bb1 Ro9 Is1 Ro10 Is2 Rs1 Rs2 Mk0 MkIt Bh1. -/
import Derived.Test.YtldflfmglpojlaaDoorMg00
import Derived.Test.YtldflfmglpojlaaDoorMg01
import Derived.Test.YtldflfmglpojlaaDoorMg02
import Derived.Deep.RegionHeld3
import Derived.BigQuiet
import Derived.Deep.Slices
import Derived.Lib.SmallJoins
import Derived.ShutString
import Derived.ChangeOld
/- Books in memory: right ones, new ones, both sides; the model's copy. -/
namespace Go.Proofs.YtldflfmglpojlaaDoor.rg
open Go.ChangeShapes Go.WideShapes Go.ChangeAt Go.RowKit
open Go.Proofs.YtldflfmglpojlaaDoor.ce Go.Proofs.YtldflfmglpojlaaDoor.ro
set_option linter.unusedVariables false

theorem oneBk (a : Option Addr) (n k : Nat) (X : Int) : ∀ v ∈ [Value.slice a n k, .int .i64 X], v.oneCell' = true := by
  intro v hv
  simp only [List.mem_cons, List.not_mem_nil, or_false] at hv
  rcases hv with rfl | rfl <;> rfl
theorem bAl (w : World) (o : Obj) : Below w.heap.size w (w.alloc o) := (Below.refl _ _).alloc (Nat.le_refl _) _
theorem own_store2 {α : Type} {E : Enc α} {w' : World} {b2 lo hi : Nat} {y0 y1 v : Value} {t : TypeId} {vs : List Value} {xs : List α} (o : Own E w' lo hi v xs) (hv : VBlk w' b2 t vs) (ht : E.t ≠ t) : Own E ((w'.setCell ⟨b2, 0, none⟩ y0).setCell ⟨b2, 1, none⟩ y1) lo hi v xs :=
  (o.only (only_set _ _ _ _) hv ht).only (only_set _ _ _ _) (hv.set 0 y0) ht
theorem copy2_end {w' : World} {b2 : Nat} {t : TypeId} {q0 q1 y0 y1 : Value} (hv : VBlk w' b2 t [q0, q1]) : VBlk ((w'.setCell ⟨b2, 0, none⟩ y0).setCell ⟨b2, 1, none⟩ y1) b2 t [y0, y1] := by simpa using (hv.set 0 y0).set 1 y1
end Go.Proofs.YtldflfmglpojlaaDoor.rg
/- A row that is filled from its head on, of whatever things: made, stored into, full. -/
namespace Go.Proofs.YtldflfmglpojlaaDoor.ro
open Go.ChangeShapes Go.WideShapes Go.ChangeAt Go.RowKit
open Go.Proofs.YtldflfmglpojlaaDoor.ce
set_option linter.unusedVariables false
variable {α : Type}

structure Part (E : Enc α) (w : World) (lo g n cap : Nat) (G : List α) : Prop where
  own : ∃ X, w.ownsRow lo E.t E.k (.slice (some ⟨g, 0, none⟩) n cap) n X ∧ X.take (G.length * E.k) = E.row G
theorem Part.keep {E : Enc α} {w w' : World} {lo g n cap : Nat} {G : List α} (p : Part E w lo g n cap G) (e : w'.heap[g]? = w.heap[g]?) : Part E w' lo g n cap G := by
  obtain ⟨X, hX, ht⟩ := p.own
  refine ⟨X, ⟨hX.1, ?_⟩, ht⟩
  rcases hX.2 with h | ⟨g', cap', cur, e', hg, hb, h⟩
  · exact .inl h
  · cases e'
    exact .inr ⟨g, cap, cur, rfl, hg, by rw [e]; exact hb, h⟩
theorem Part.lt {E : Enc α} {w : World} {lo g n cap : Nat} {G : List α} (p : Part E w lo g n cap G) : lo ≤ g ∧ g < w.heap.size := by
  obtain ⟨X, hX, ht⟩ := p.own
  exact hX.lt g rfl
theorem Part.full {E : Enc α} {w : World} {lo g n cap : Nat} {G : List α} (p : Part E w lo g n cap G) (hn : G.length = n) : Own E w lo w.heap.size (.slice (some ⟨g, 0, none⟩) n cap) G := by
  subst hn
  obtain ⟨X, hX, ht⟩ := p.own
  rw [List.take_of_length_le (by rw [hX.1]; exact Nat.le_refl _)] at ht
  subst ht
  exact own_of hX
section
variable {ops : Array Oper} {rest : List Oper} {o : Oper} {a : Act} {w : World} {Q : Exit → Act → World → Prop}
theorem wpList_make_p {E : Enc α} (I : Info E) (hgd : o.guard = none) (l c : Operand) (t : TypeId) (ho : o.op = .makeSlice t l c) (ht : Tryd.prog.underlying t = some (.slice E.t)) (n : Nat) (hn : n ≤ 1048576) (hl : a.eval l = .int .i64 n) (hc : a.eval c = .int .i64 n)
    (h : ∀ b w', w.heap.size ≤ b → b < w'.heap.size → Below w.heap.size w w' → Part E w' w.heap.size b n n [] → wpList Tryd.prog ops Q rest (a.put o.dst (.slice (some ⟨b, 0, none⟩) n n)) w') : wpList Tryd.prog ops Q (o :: rest) a w := by
  obtain ⟨i0, z, hi0, hz0, hz1, hz2, hz3⟩ := I.ex
  refine wpList_make_full _ hgd l c t ho w.heap.size E.t i0 z E.k ht hi0 hz0 hz1 .i64 .i64 n n n hl hc rfl rfl (by have := Nat.mul_le_mul hz2 hn; omega) (by unfold maxLen; omega) (Nat.le_refl _) ?_
  intro w1 h1 h2
  have hb : Below w.heap.size w w1 := below_grown h2 (Nat.le_refl _) (fun k hk => by cases hk)
  exact h _ w1 (Nat.le_refl _) (h1.lt _ rfl).2 hb ⟨_, h1, by simp [Enc.row]⟩
theorem wpList_store_p {E : Enc α} (hsz : (Tryd.prog.info? E.t).map (·.size) = some E.k) (hgd : o.guard = none) (x y : Operand) (ho : o.op = .store E.t x y) (lo g n cap i j0 : Nat) (G : List α) (c : α) (hx : a.eval x = .pointer (some ⟨g, j0, none⟩)) (hj0 : j0 = i * E.k) (hy : a.eval y = .agg (E.put c).toArray)
    (hp : Part E w lo g n cap G) (hi : G.length = i) (hlt : i < n) (h : ∀ w', Only g w w' → Part E w' lo g n cap (G ++ [c]) → wpList Tryd.prog ops Q rest (a.put o.dst undef) w') : wpList Tryd.prog ops Q (o :: rest) a w := by
  subst hi
  subst hj0
  obtain ⟨X, hX, ht⟩ := hp.own
  have h4 : (E.put c).length = E.k := E.len c
  have hm : (G.length + 1) * E.k = G.length * E.k + E.k := by rw [Nat.add_mul]; omega
  have hm2 : (G.length + 1) * E.k ≤ n * E.k := Nat.mul_le_mul_right _ (by omega)
  rcases hX.2 with ⟨h', _⟩ | ⟨g', cap', cur, h', hg, hb, hc1, hc2, hc3, htk⟩
  · simp at h'
  · cases h'
    have hm3 : n * E.k ≤ cap * E.k := Nat.mul_le_mul_right _ hc1
    have hcs : cur.toList.length = cur.size := Array.length_toList
    refine wpList_store_mid hgd E.t x y ho g (G.length * E.k) (E.put c).toArray hx hy (fun j hj => ⟨?_, frozen_of_row _ _ _ _ _ hb⟩) (by rw [hsz, List.size_toArray, h4]) (all_oneCell_toArray (E.one c)) (h _ (only_setCells _ _ _ _) ⟨(cur.toList.take (G.length * E.k) ++ E.put c ++ cur.toList.drop (G.length * E.k + E.k)).take (n * E.k), ⟨?_, .inr ⟨g, cap, (cur.toList.take (G.length * E.k) ++ E.put c ++ cur.toList.drop (G.length * E.k + E.k)).toArray, rfl, hg, ?_, hc1, hc2, ?_, rfl⟩⟩, ?_⟩)
    · rw [cell_of_row _ _ _ _ _ _ hb]
      have hj' : j < E.k := by rw [List.size_toArray, h4] at hj; exact hj
      simp; omega
    · simp only [List.length_take, List.length_append, List.length_drop, h4]; omega
    · have := heap_setCells g E.t (E.put c) (G.length * E.k) w cur.toList (by simpa using hb) (by omega)
      rw [h4] at this
      exact this
    · simp only [List.size_toArray, List.length_take, List.length_append, List.length_drop, h4]; omega
    · rw [E.row_append, ← ht, ← htk, List.take_take, List.take_take, List.length_append, List.length_singleton, show min ((G.length + 1) * E.k) (n * E.k) = G.length * E.k + E.k by omega, show min (G.length * E.k) (n * E.k) = G.length * E.k by omega, List.append_assoc, List.take_append, List.take_append]
      have hl : (cur.toList.take (G.length * E.k)).length = G.length * E.k := by simp; omega
      rw [hl, h4, show G.length * E.k + E.k - G.length * E.k = E.k by omega, List.take_of_length_le (l := cur.toList.take (G.length * E.k)) (by omega), List.take_of_length_le (l := E.put c) (by omega), E.row_one']
      simp
end
end Go.Proofs.YtldflfmglpojlaaDoor.ro
/- Contracts of the laws' helpers on things and books: sizes, copies, comparisons. -/
namespace Go.Proofs.YtldflfmglpojlaaDoor.rg
open Go.ChangeShapes Go.WideShapes Go.ChangeAt Go.RowKit
open Go.Proofs.YtldflfmglpojlaaDoor.ce Go.Proofs.YtldflfmglpojlaaDoor.ro
set_option linter.unusedVariables false

end Go.Proofs.YtldflfmglpojlaaDoor.rg
/- A row of whatever things that came in as an argument, read as a list. -/
namespace Go.Proofs.YtldflfmglpojlaaDoor.ro
open Go.ChangeShapes Go.WideShapes Go.ChangeAt Go.RowKit
open Go.Deep Go.Joins
open Go.Proofs.YtldflfmglpojlaaDoor.ce
set_option linter.unusedVariables false

theorem add_noneK {a : Addr} (h : a.spot = none) (j : Nat) : a.add j = ⟨a.block, a.off + j, none⟩ := by
  obtain ⟨b, o, s⟩ := a
  simp at h
  subst h
  simp [Addr.add]
/-- a row of whatever things, among the arguments -/
theorem rd_of_trodK {α : Type} [Inhabited α] (E : Enc α) (p : α → Prop) {H : Type} {enc : TypeId × Value → H} {w : World} {n : Nat} {v : Value} {T : TypeId} {x : DataW H × List MemPlace} (hT : Tryd.prog.underlying T = some (.slice E.t)) (hc : Tryd.prog.cellsOf E.t = E.k)
    (dec : ∀ m cs y, DataW.trod enc Tryd.prog w 0 (fun _ => true) true m E.t cs = some y → ∃ z, cs = E.put z ∧ p z)
    (h : DataW.trod enc Tryd.prog w 0 (fun _ => true) true n T [v] = some x) : ∃ L, Rd E w v L ∧ ∀ z ∈ L, p z := by
  have hkp := E.pos
  rcases open_slice hT h with ⟨hcs, -⟩ | ⟨a, len, cap, m, n', D, Pl, hcs, -, hl, hm, hmm, -, hrow⟩
  · obtain rfl : v = .slice none 0 0 := by simpa using hcs
    exact ⟨[], rd_zero E w none 0 (Nat.zero_le _), fun k hk => by simp at hk⟩
  · obtain rfl : v = .slice (some a) len cap := by simpa using hcs
    rw [hc] at hrow
    have hlm : len ≤ m := by rw [hmm]; simp; exact hl
    have hex : ∀ i, i < len → ∃ z : α, w.cells? 0 (a.add (i * E.k)) E.k = some (E.put z) ∧ p z := fun i hi => by
      obtain ⟨cs', h1, h2⟩ := hrow i (by omega)
      obtain ⟨z, e0, hz⟩ := dec _ _ _ h2
      rw [e0] at h1
      exact ⟨z, h1, hz⟩
    obtain ⟨F, hF⟩ := choose_lt hex
    refine ⟨(List.range len).map F, ⟨some a, cap, by simp, by simpa using hl, hm, fun hn => ?_⟩, fun k hk => ?_⟩
    rotate_left
    · obtain ⟨i, hi, rfl⟩ := List.mem_map.1 hk
      exact (hF i (by simpa using hi)).2
    have h0 : 0 < len := by
      rcases Nat.eq_zero_or_pos len with e | e
      · subst e; exact absurd rfl hn
      · exact e
    have hcell : ∀ i, i < len → ∀ j, j < E.k → w.cell? ((a.add (i * E.k)).add j) = (E.put (F i))[j]? := fun i hi j hj => by
      obtain ⟨h1, h2, h3⟩ := World.cells?_some (hF i hi).1
      exact h3 j hj
    have hsome : ∀ i, i < len → ∀ j, j < E.k → ∃ u, w.cell? ((a.add (i * E.k)).add j) = some u := fun i hi j hj => by
      rw [hcell i hi j hj, List.getElem?_eq_getElem (by rw [E.len]; exact hj)]
      exact ⟨_, rfl⟩
    have hspot : a.spot = none := by
      obtain ⟨u, hu⟩ := hsome 0 h0 0 hkp
      have h5 : ((a.add (0 * E.k)).add 0).spot = none := World.cell?_spot hu
      obtain ⟨b, o, s⟩ := a
      cases s with
      | none => rfl
      | some s => simp [Addr.add] at h5
    have hlt : a.block < w.heap.size := by
      obtain ⟨u, hu⟩ := hsome 0 h0 0 hkp
      rw [add_noneK hspot, Addr.add_mid] at hu
      exact World.block_lt_of_cell? w ⟨a.block, a.off + 0 * E.k + 0, none⟩ hu
    refine ⟨a.block, a.off, by obtain ⟨b, o, s⟩ := a; simp at hspot; subst hspot; rfl, hlt, fun k u hku => ?_⟩
    have hkl : k < len * E.k := by
      have := (List.getElem?_eq_some_iff.1 hku).1
      rw [Enc.row_len] at this
      simpa using this
    obtain ⟨i, j, rfl, hj⟩ : ∃ i j, k = i * E.k + j ∧ j < E.k := ⟨k / E.k, k % E.k, by rw [Nat.mul_comm]; exact (Nat.div_add_mod k E.k).symm, Nat.mod_lt _ hkp⟩
    have hi : i < len := by
      rcases Nat.lt_or_ge i len with q | q
      · exact q
      · have := Nat.mul_le_mul_right E.k q; omega
    have hg := E.row_get ((List.range len).map F) i j (by simpa using hi) hj
    rw [hg] at hku
    have e : ((List.range len).map F)[i]'(by simpa using hi) = F i := by simp
    have := hcell i hi j hj
    rw [add_noneK hspot, Addr.add_mid, Nat.add_assoc] at this
    rw [e, ← this] at hku
    exact hku
end Go.Proofs.YtldflfmglpojlaaDoor.ro
/- Contracts of the laws' helpers on books: sizes, copies, comparisons; a thing and a book among the arguments. -/
namespace Go.Proofs.YtldflfmglpojlaaDoor.rg
open Go.ChangeShapes Go.WideShapes Go.ChangeAt Go.RowKit
open Go.Deep Go.Joins
open Go.Proofs.YtldflfmglpojlaaDoor.ce Go.Proofs.YtldflfmglpojlaaDoor.ro
set_option linter.unusedVariables false

/-- no text is longer than what a machine holds -/
def Lo (b : List It) : Prop := ∀ i ∈ b, i.N.size ≤ 9223372036854775807 ∧ i.B.size ≤ 9223372036854775807

theorem cellsStrK : Tryd.prog.cellsOf 9 = 1 := by kernel_rfl
theorem cellsIntK : Tryd.prog.cellsOf 2 = 1 := by kernel_rfl
end Go.Proofs.YtldflfmglpojlaaDoor.rg
/- Contracts of the laws' helpers on rows of texts and of truths: sizes, copies, comparisons, marks. -/
namespace Go.Proofs.YtldflfmglpojlaaDoor.rg
open Go.ChangeShapes Go.WideShapes Go.ChangeAt Go.RowKit
open Go.Proofs.YtldflfmglpojlaaDoor.ce Go.Proofs.YtldflfmglpojlaaDoor.ro
set_option linter.unusedVariables false

theorem wpList_make_string {o : Oper} {a : Act} {w : World} {ops : Array Oper} {rest : List Oper} {Q : Exit → Act → World → Prop} (hgd : o.guard = none) (l c : Operand) (t : TypeId) (ho : o.op = .makeSlice t l c) (ht : Tryd.prog.underlying t = some (.slice 9)) (n : Nat) (hn : n ≤ 1048576) (hl : a.eval l = .int .i64 n) (hc : a.eval c = .int .i64 n)
    (h : ∀ b w', w.heap.size ≤ b → b < w'.heap.size → Below w.heap.size w w' → Own encS w' w.heap.size w'.heap.size (.slice (some ⟨b, 0, none⟩) n n) (List.replicate n (⟨#[]⟩ : ByteArray)) → wpList Tryd.prog ops Q rest (a.put o.dst (.slice (some ⟨b, 0, none⟩) n n)) w') : wpList Tryd.prog ops Q (o :: rest) a w := by
  have hi : (Tryd.prog.info? 9).map (fun i => (i.zero, i.size, i.bytes ≤ 16)) = some (some (Value.string ⟨#[]⟩), 1, True) := by
    obtain ⟨i, z, h1, h2, h3, h4, h5⟩ := infoS.ex
    have : Tryd.prog.info? 9 = some i := h1
    have hh : (Tryd.prog.info? 9).map (fun i => (i.zero, i.size, decide (i.bytes ≤ 16))) = some (some (Value.string ⟨#[]⟩), 1, true) := by kernel_rfl
    rw [this] at hh ⊢
    simp at hh ⊢
    exact hh
  obtain ⟨i0, hi0, hz⟩ := Option.map_eq_some_iff.1 hi
  simp only [Prod.mk.injEq, eq_iff_iff, iff_true] at hz
  refine wpList_make_full _ hgd l c t ho w.heap.size 9 i0 _ 1 ht hi0 hz.1 hz.2.1 .i64 .i64 n n n hl hc rfl rfl (by have h3 := hz.2.2; have := Nat.mul_le_mul h3 hn; omega) (by unfold maxLen; omega) (Nat.le_refl _) ?_
  intro w1 h1 h2
  have hb : Below w.heap.size w w1 := ro.below_grown h2 (Nat.le_refl _) (fun k hk => by cases hk)
  refine h _ w1 (Nat.le_refl _) (h1.lt _ rfl).2 hb (own_of ?_)
  have hr : (madeCells (Value.cells (Value.string ⟨#[]⟩)) (n * 1)).toList = encS.row (List.replicate n (⟨#[]⟩ : ByteArray)) := by
    rw [Enc.row_replicate encS (⟨#[]⟩ : ByteArray) n (Value.string ⟨#[]⟩) rfl]
    simp [Value.cells, toList_madeCells_one]
  rw [hr] at h1
  rw [List.length_replicate]
  exact h1

theorem wpList_make_bool {o : Oper} {a : Act} {w : World} {ops : Array Oper} {rest : List Oper} {Q : Exit → Act → World → Prop} (hgd : o.guard = none) (l c : Operand) (t : TypeId) (ho : o.op = .makeSlice t l c) (ht : Tryd.prog.underlying t = some (.slice 4)) (n : Nat) (hn : n ≤ 1048576) (hl : a.eval l = .int .i64 n) (hc : a.eval c = .int .i64 n)
    (h : ∀ b w', w.heap.size ≤ b → b < w'.heap.size → Below w.heap.size w w' → Own encB w' w.heap.size w'.heap.size (.slice (some ⟨b, 0, none⟩) n n) (List.replicate n false) → wpList Tryd.prog ops Q rest (a.put o.dst (.slice (some ⟨b, 0, none⟩) n n)) w') : wpList Tryd.prog ops Q (o :: rest) a w := by
  have hi : (Tryd.prog.info? 4).map (fun i => (i.zero, i.size, i.bytes ≤ 16)) = some (some (Value.bool false), 1, True) := by
    obtain ⟨i, z, h1, h2, h3, h4, h5⟩ := infoB.ex
    have : Tryd.prog.info? 4 = some i := h1
    have hh : (Tryd.prog.info? 4).map (fun i => (i.zero, i.size, decide (i.bytes ≤ 16))) = some (some (Value.bool false), 1, true) := by kernel_rfl
    rw [this] at hh ⊢
    simp at hh ⊢
    exact hh
  obtain ⟨i0, hi0, hz⟩ := Option.map_eq_some_iff.1 hi
  simp only [Prod.mk.injEq, eq_iff_iff, iff_true] at hz
  refine wpList_make_full _ hgd l c t ho w.heap.size 4 i0 _ 1 ht hi0 hz.1 hz.2.1 .i64 .i64 n n n hl hc rfl rfl (by have h3 := hz.2.2; have := Nat.mul_le_mul h3 hn; omega) (by unfold maxLen; omega) (Nat.le_refl _) ?_
  intro w1 h1 h2
  have hb : Below w.heap.size w w1 := ro.below_grown h2 (Nat.le_refl _) (fun k hk => by cases hk)
  refine h _ w1 (Nat.le_refl _) (h1.lt _ rfl).2 hb (own_of ?_)
  have hr : (madeCells (Value.cells (Value.bool false)) (n * 1)).toList = encB.row (List.replicate n false) := by
    rw [Enc.row_replicate encB false n (Value.bool false) rfl]
    simp [Value.cells, toList_madeCells_one]
  rw [hr] at h1
  rw [List.length_replicate]
  exact h1

end Go.Proofs.YtldflfmglpojlaaDoor.rg
/- Contracts of the laws' marks on rows of texts and of truths. -/
namespace Go.Proofs.YtldflfmglpojlaaDoor.rg
open Go.ChangeShapes Go.WideShapes Go.ChangeAt Go.RowKit
open Go.Proofs.YtldflfmglpojlaaDoor.ce Go.Proofs.YtldflfmglpojlaaDoor.ro
set_option linter.unusedVariables false

theorem own_ty {α : Type} {E : Enc α} {w : World} {lo hi g n cap : Nat} {xs : List α} (o : Own E w lo hi (.slice (some ⟨g, 0, none⟩) n cap) xs) (h : 1 ≤ xs.length) (j : Nat) (x : Value) : Ty lo E.t w (w.setCell ⟨g, j, none⟩ x) := by
  rcases o.row with ⟨rfl, -⟩ | ⟨g2, cap2, cur, e2, hg, hb, -⟩
  · simp at h
  · cases e2
    exact ⟨(only_set w g j x).2.2 _ hg.1, fun k cur' t' f hk hn => (only_set w g j x).2.1 k fun e => by
      rw [e, hb] at hk
      simp at hk
      exact hn hk.2.1.symm⟩
theorem own_lo {α : Type} {E : Enc α} {w : World} {lo hi n cap : Nat} {a : Option Addr} {xs : List α} (o : Own E w lo hi (.slice a n cap) xs) (h : 1 ≤ xs.length) : lo ≤ w.heap.size := by
  obtain ⟨g, c, e, h1, h2, h3⟩ := o.form h
  omega
def dig (d : Nat) : ByteArray := ⟨#[UInt8.ofNat (48 + d)]⟩
/-- what markText tells -/
def mgo : Nat → Nat → ByteArray → ByteArray
  | 0, _, out => ⟨#[109]⟩ ++ out
  | f + 1, k, out => if k = 0 then ⟨#[109]⟩ ++ out else mgo f (k / 10) (dig (k % 10) ++ out)
theorem mgo_zero (f : Nat) (out : ByteArray) : mgo f 0 out = ⟨#[109]⟩ ++ out := by cases f <;> simp [mgo]
theorem mgo_step {f k : Nat} (h : 0 < k) (out : ByteArray) : mgo (f + 1) k out = mgo f (k / 10) (dig (k % 10) ++ out) := by
  simp only [mgo]
  rw [if_neg (by omega)]
def mtx (k : Nat) : ByteArray := mgo k k ⟨#[]⟩
theorem dig_conv (d : Nat) (h1 : d ≤ 9) (w : World) : (convert 22 9 (Value.slice (some { block := w.heap.size, off := 0 }) 1 1)).run Tryd.prog (w.alloc (Obj.cells #[Value.int IntKind.u8 (48 + (d : Int))] 5)) = .ok (.string (dig d)) (w.alloc (Obj.cells #[Value.int IntKind.u8 (48 + (d : Int))] 5)) :=
  run_convert_bytes_back (P := Tryd.prog) (w.alloc (Obj.cells #[Value.int IntKind.u8 (48 + (d : Int))] 5)) 22 9 5 ⟨w.heap.size, 0, none⟩ 1 [UInt8.ofNat (48 + d)] Tryd.underlying22 Tryd.underlying5 Tryd.underlying9 (fun j hj => by
    have hj0 : j = 0 := by simpa using hj
    subst hj0
    have e : (((UInt8.ofNat (48 + d)).toNat : Nat) : Int) = 48 + d := by
      rw [UInt8.toNat_ofNat']; omega
    simp only [List.getElem_cons_zero, e]
    show (w.alloc _).cell? ⟨w.heap.size, 0, none⟩ = _
    rw [cell_of_row _ _ 0 _ _ _ (heap_alloc_new w _)]; rfl)

def smarks (k n : Nat) : List ByteArray := (List.range n).map fun j => mtx (k + j)
theorem smarks_len (k n : Nat) : (smarks k n).length = n := by simp [smarks]
theorem smarks_succ (k n : Nat) : smarks k (n + 1) = smarks k n ++ [mtx (k + n)] := by simp [smarks, List.range_succ]
theorem smarks_get (k n i : Nat) (h : i < (smarks k n).length) : (smarks k n)[i] = mtx (k + i) := by simp [smarks]
def bmarks (k n : Nat) : List Bool := (List.range n).map fun j => ((((k + j : Nat) : Int) % 3) == 0)
theorem bmarks_len (k n : Nat) : (bmarks k n).length = n := by simp [bmarks]
theorem bmarks_succ (k n : Nat) : bmarks k (n + 1) = bmarks k n ++ [((((k + n : Nat) : Int) % 3) == 0)] := by simp [bmarks, List.range_succ]
theorem bmarks_get (k n i : Nat) (h : i < (bmarks k n).length) : (bmarks k n)[i] = ((((k + i : Nat) : Int) % 3) == 0) := by simp [bmarks]
end Go.Proofs.YtldflfmglpojlaaDoor.rg
/- One cell is stored into a row that the call owns, whatever things lie in it. -/
namespace Go.Proofs.YtldflfmglpojlaaDoor.rg
open Go.ChangeShapes Go.WideShapes Go.ChangeAt Go.RowKit
open Go.Deep Go.Joins
open Go.Proofs.YtldflfmglpojlaaDoor.ce Go.Proofs.YtldflfmglpojlaaDoor.ro
set_option linter.unusedVariables false

section
variable {α : Type} {ops : Array Oper} {rest : List Oper} {o : Oper} {a : Act} {w : World} {Q : Exit → Act → World → Prop}
theorem cells_one {v : Value} (h : v.oneCell' = true) : v.cells = #[v] := by cases v <;> first | rfl | cases h
theorem wpList_store_c (hgd : o.guard = none) (t : TypeId) (x y : Operand) (ho : o.op = .store t x y) (g j : Nat) (u : Value) (hx : a.eval x = .pointer (some ⟨g, j, none⟩)) (hy : a.eval y = u) (h1 : u.oneCell' = true) (hi : (Tryd.prog.info? t).map (·.size) = some 1)
    (old : Value) (hc : w.cell? ⟨g, j, none⟩ = some old) (hf : w.frozen? ⟨g, j, none⟩ = false) (h : wpList Tryd.prog ops Q rest (a.put o.dst undef) (w.setCell ⟨g, j, none⟩ u)) : wpList Tryd.prog ops Q (o :: rest) a w :=
  wpList_plain hgd fun _ hK => by
    unfold Oper.wp execOp
    obtain ⟨i, hi1, hi2⟩ := Option.map_eq_some_iff.1 hi
    simp [ho, hx, hy, Instr.storeAt, Instr.sureAddr, storeVar, sizeOf, typeInfo, hi1, hi2, cells_one h1, storeCells, run_store _ _ _ _ _ h1, hc, hf, Addr.add]
    exact hK _ _ h
/-- a row while it is marked: what lies in it, what was written -/
structure Mkd (E : Enc α) (w0 w : World) (lo hi : Nat) (v : Value) (L : List α) : Prop where
  o : Own E w lo hi v L
  wi : Within lo hi w0 w
  ty : Ty lo E.t w0 w
  lo : lo ≤ w.heap.size
theorem Mkd.grow {E : Enc α} {w0 w w' : World} {lo hi : Nat} {v : Value} {L : List α} (h : Mkd E w0 w lo hi v L) (hb : Below w.heap.size w w') : Mkd E w0 w' lo hi v L :=
  ⟨h.o.grow hb, h.wi.trans (Within.of_below hb (Nat.le_refl _)), h.ty.trans (Ty.of_below hb h.lo), Nat.le_trans h.lo hb.size⟩
theorem wpList_store_f {E : Enc α} (hgd : o.guard = none) (t : TypeId) (x y : Operand) (ho : o.op = .store t x y) {w0 : World} {lo hi g n cap : Nat} {A B : List α} {z : α} (m : Mkd E w0 w lo hi (.slice (some ⟨g, 0, none⟩) n cap) (A ++ z :: B)) (i j : Nat) (hA : A.length = i) (hj : j < E.k) (u : Value) (z' : α) (hz : E.put z' = (E.put z).set j u) (h1 : u.oneCell' = true) (hsz : (Tryd.prog.info? t).map (·.size) = some 1)
    (hx : a.eval x = .pointer (some ⟨g, i * E.k + j, none⟩)) (hy : a.eval y = u) (h : ∀ w', Mkd E w0 w' lo hi (.slice (some ⟨g, 0, none⟩) n cap) (A ++ z' :: B) → wpList Tryd.prog ops Q rest (a.put o.dst undef) w') : wpList Tryd.prog ops Q (o :: rest) a w := by
  subst hA
  have hl : A.length < (A ++ z :: B).length := by simp
  obtain ⟨g', e, hg, hc, hf⟩ := m.o.cell A.length j hl hj
  cases e
  refine wpList_store_c hgd t x y ho g _ u hx hy h1 hsz _ hc hf (h _ ⟨?_, ?_, ?_, ?_⟩)
  · have := m.o.set A.length j hl hj u z' (by rw [hz]; simp)
    simpa using this
  · exact m.wi.setCell (p := ⟨g, _, none⟩) hg.1 hg.2 _
  · exact m.ty.trans (own_ty m.o (by simp; omega) _ _)
  · simpa using m.lo
end
end Go.Proofs.YtldflfmglpojlaaDoor.rg
/- The laws' marks on lists of Item. -/
namespace Go.Proofs.YtldflfmglpojlaaDoor.rg
open Go.ChangeShapes Go.WideShapes Go.ChangeAt Go.RowKit
open Go.Deep Go.Joins
open Go.Proofs.YtldflfmglpojlaaDoor.ce Go.Proofs.YtldflfmglpojlaaDoor.ro
set_option linter.unusedVariables false

/-- what is marked from m on -/
def mkIt (m : Nat) : It := ⟨mtx (m), (((m + 1 : Nat)) : Int), mtx (m + 2), (((m + 3 : Nat)) : Int), (((m + 4 : Nat)) : Int)⟩
def mksIt (k n : Nat) : List It := (List.range n).map fun i => mkIt (k + 5 * i)
theorem mksIt_len (k n : Nat) : (mksIt k n).length = n := by simp [mksIt]
theorem mksIt_succ (k n : Nat) : mksIt k (n + 1) = mksIt k n ++ [mkIt (k + 5 * n)] := by simp [mksIt, List.range_succ]
theorem mksIt_get (k n i : Nat) (h : i < (mksIt k n).length) : (mksIt k n)[i] = mkIt (k + 5 * i) := by simp [mksIt]
theorem sizeIt_s : (Tryd.prog.info? 9).map (·.size) = some 1 := by kernel_rfl
theorem sizeIt_i : (Tryd.prog.info? 2).map (·.size) = some 1 := by kernel_rfl
theorem rdIt_of {α : Type} {E : Enc α} {w : World} {n cap : Nat} {a : Option Addr} {xs : List α} (r : Rd E w (.slice a n cap) xs) (i : Nat) (hi : i < xs.length) :
    ∃ b off, a = some ⟨b, off, none⟩ ∧ b < w.heap.size ∧ ∀ j v, (E.put xs[i])[j]? = some v → w.cell? ⟨b, off + i * E.k + j, none⟩ = some v := by
  obtain ⟨b, off, e, h1, h2⟩ := r.start (by omega)
  refine ⟨b, off, e, h1, fun j v hv => ?_⟩
  have hj : j < E.k := by have := (List.getElem?_eq_some_iff.1 hv).1; rw [E.len] at this; exact this
  have := E.row_get xs i j hi hj
  rw [hv] at this
  have := h2 _ _ this
  rw [Nat.add_assoc]
  exact this
theorem heldIt_grow {w w' : World} {b off i : Nat} {c0 c1 c2 c3 c4 : Value} (hB : Below w.heap.size w w') (hb : b < w.heap.size) (h : w.cell? ⟨b, off + i * 5, none⟩ = some c0 ∧ w.cell? ⟨b, off + i * 5 + 1, none⟩ = some c1 ∧ w.cell? ⟨b, off + i * 5 + 2, none⟩ = some c2 ∧ w.cell? ⟨b, off + i * 5 + 3, none⟩ = some c3 ∧ w.cell? ⟨b, off + i * 5 + 4, none⟩ = some c4) : w'.cell? ⟨b, off + i * 5, none⟩ = some c0 ∧ w'.cell? ⟨b, off + i * 5 + 1, none⟩ = some c1 ∧ w'.cell? ⟨b, off + i * 5 + 2, none⟩ = some c2 ∧ w'.cell? ⟨b, off + i * 5 + 3, none⟩ = some c3 ∧ w'.cell? ⟨b, off + i * 5 + 4, none⟩ = some c4 := by
  have g : ∀ p v, w.cell? ⟨b, p, none⟩ = some v → w'.cell? ⟨b, p, none⟩ = some v := fun p v hv => (World.cell?_of_block (w := w) (w' := w') (a := ⟨b, p, none⟩) (hB.block b hb)).trans hv
  obtain ⟨h0, h1, h2, h3, h4⟩ := h
  exact ⟨g _ _ h0, g _ _ h1, g _ _ h2, g _ _ h3, g _ _ h4⟩
end Go.Proofs.YtldflfmglpojlaaDoor.rg
/- The laws' helpers on a book; a book among the arguments. -/
namespace Go.Proofs.YtldflfmglpojlaaDoor.rg
open Go.ChangeShapes Go.WideShapes Go.ChangeAt Go.RowKit
open Go.Deep Go.Joins
open Go.Proofs.YtldflfmglpojlaaDoor.ce Go.Proofs.YtldflfmglpojlaaDoor.ro
set_option linter.unusedVariables false

theorem szI1 : (Tryd.prog.info? 2).map (·.size) = some 1 := by kernel_rfl
theorem wpList_store_cell {ops : Array Oper} {rest : List Oper} {o : Oper} {a : Act} {w : World} {Q : Exit → Act → World → Prop} (hgd : o.guard = none) (t : TypeId) (x y : Operand) (ho : o.op = .store t x y) (b j : Nat) (u : Value) (hx : a.eval x = .pointer (some ⟨b, j, none⟩)) (hy : a.eval y = u) (h1 : u.oneCell' = true) (hi : (Tryd.prog.info? t).map (·.size) = some 1)
    {T : TypeId} {vs : List Value} (V : VBlk w b T vs) (hj : j < vs.length) (h : ∀ w', Only b w w' → VBlk w' b T (vs.set j u) → wpList Tryd.prog ops Q rest (a.put o.dst undef) w') : wpList Tryd.prog ops Q (o :: rest) a w :=
  wpList_store_c hgd t x y ho b j u hx hy h1 hi _ (V.cell j hj) (V.frozen j) (h _ (only_set _ _ _ _) (V.set j u))
end Go.Proofs.YtldflfmglpojlaaDoor.rg
