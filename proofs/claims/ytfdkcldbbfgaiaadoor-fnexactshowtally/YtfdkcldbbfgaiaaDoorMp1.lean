/- Maps of integers by integers in memory: what is made, looked up, set, cleared, counted; each with a new letter for the world. -/
import Derived.Test.YtfdkcldbbfgaiaaDoorRo1
import Derived.Maps.OwnSet
namespace Go.Proofs.YtfdkcldbbfgaiaaDoor.rg
open Go.ChangeShapes Go.WideShapes Go.ChangeAt Go.RowKit
open Go.ChangeMaps (setBlock heap_setBlock_same heap_setBlock_other)
open Go.Proofs.YtfdkcldbbfgaiaaDoor.ce Go.Proofs.YtfdkcldbbfgaiaaDoor.ro
set_option linter.unusedVariables false

/-- keys and values in the order in which the keys came -/
def kv (p : Int × Int) : Value × Value := (.int .i64 p.1, .int .i64 p.2)
def kvE (e : MapEntry) : Value × Value := (e.key, e.val)
def MapL (w : World) (b : Nat) (l : List (Int × Int)) : Prop := ∃ es clock, w.heap[b]? = some (.map es clock) ∧ es.toList.map kvE = l.map kv
def mget : List (Int × Int) → Int → Option Int
  | [], _ => none
  | (k, v) :: r, x => if x = k then some v else mget r x
def mset : List (Int × Int) → Int → Int → List (Int × Int)
  | [], x, y => [(x, y)]
  | (k, v) :: r, x, y => if x = k then (k, y) :: r else (k, v) :: mset r x y
theorem MapL.lt {w : World} {b : Nat} {l : List (Int × Int)} (h : MapL w b l) : b < w.heap.size := by
  obtain ⟨es, c, hb, -⟩ := h
  exact (Array.getElem?_eq_some_iff.1 hb).1
theorem MapL.of {w w' : World} {b : Nat} {l : List (Int × Int)} (h : MapL w b l) (e : w'.heap[b]? = w.heap[b]?) : MapL w' b l := by
  obtain ⟨es, c, hb, hl⟩ := h
  exact ⟨es, c, by rw [e]; exact hb, hl⟩
theorem MapL.grow {w w' : World} {b : Nat} {l : List (Int × Int)} (h : MapL w b l) (hB : Below w.heap.size w w') : MapL w' b l := h.of (hB.block b h.lt)
theorem MapL.below {w w' : World} {b B : Nat} {l : List (Int × Int)} (h : MapL w b l) (hB : Below B w w') (hb : b < B) : MapL w' b l := h.of (hB.block b hb)
theorem MapL.only {w w' : World} {b b' : Nat} {l : List (Int × Int)} (h : MapL w b l) (hO : Only b' w w') (hn : b ≠ b') : MapL w' b l := h.of (hO.2.1 b hn)
theorem MapL.drew {w : World} {b : Nat} {l : List (Int × Int)} (h : MapL w b l) : MapL w.drew b l := h
/-- a block of cells is no map -/
theorem MapL.apart {w : World} {b b' : Nat} {l : List (Int × Int)} {t : TypeId} {vs : List Value} (h : MapL w b l) (k : VBlk w b' t vs) : b ≠ b' := fun e => by
  obtain ⟨es, c, hb, -⟩ := h
  rw [e] at hb
  have := hb.symm.trans k
  simp at this
theorem MapL.rows {α : Type} {E : Enc α} {w w' : World} {b lo hi : Nat} {l : List (Int × Int)} {v : Value} {xs : List α} (h : MapL w b l) (o : Own E w lo hi v xs) (hO : Only b w w') : Own E w' lo hi v xs := o.keepT fun g cur hg _ _ => hO.2.1 g fun e => by
  obtain ⟨es, c, hb, -⟩ := h
  rw [e] at hg
  have := hg.symm.trans hb
  simp at this
theorem MapL.ty {w w' : World} {b lo : Nat} {l : List (Int × Int)} {t : TypeId} (h : MapL w b l) (hT : Ty lo t w w') : b < lo → MapL w' b l := fun hb => h.of (hT.low.block b hb)

theorem find_none (q : IntKind) (x : Int) : ∀ (es : List MapEntry) (l : List (Int × Int)) (i : Nat), es.map kvE = l.map kv → mget l x = none → Instr.findNow (.int q) (.int .i64 x) es i = some none
  | [], l, i, _, _ => rfl
  | e :: es, [], i, h, _ => by simp at h
  | e :: es, (k, v) :: l, i, h, hm => by
    simp only [List.map_cons, List.cons.injEq] at h
    obtain ⟨h1, h2⟩ := h
    simp only [kvE, kv, Prod.mk.injEq] at h1
    by_cases hx : x = k
    · simp [mget, hx] at hm
    · rw [mget, if_neg hx] at hm
      have hb : (x == k) = false := by simpa using hx
      simp only [Instr.findNow, h1.1, Instr.sameNow, hb]
      exact find_none q x es l (i + 1) h2 hm
theorem find_some (q : IntKind) (x : Int) : ∀ (es : List MapEntry) (l : List (Int × Int)) (i : Nat) (y : Int), es.map kvE = l.map kv → mget l x = some y →
    ∃ j, Instr.findNow (.int q) (.int .i64 x) es i = some (some (i + j, .int .i64 y)) ∧ (∃ e, es[j]? = some e ∧ e.key = .int .i64 x) ∧ ∀ z, (es.modify j fun e => { e with key := .int .i64 x, val := .int .i64 z }).map kvE = (mset l x z).map kv
  | [], l, i, y, h, hm => by
    cases l with
    | nil => simp [mget] at hm
    | cons a l => simp at h
  | e :: es, [], i, y, h, _ => by simp at h
  | e :: es, (k, v) :: l, i, y, h, hm => by
    simp only [List.map_cons, List.cons.injEq] at h
    obtain ⟨h1, h2⟩ := h
    simp only [kvE, kv, Prod.mk.injEq] at h1
    by_cases hx : x = k
    · subst hx
      simp [mget] at hm
      subst hm
      refine ⟨0, ?_, ⟨e, rfl, h1.1⟩, fun z => ?_⟩
      · simp [Instr.findNow, h1.1, h1.2, Instr.sameNow]
      · simp [mset, kvE, kv, h2]
    · rw [mget, if_neg hx] at hm
      have hb : (x == k) = false := by simpa using hx
      obtain ⟨j, g1, ⟨e', g2, g3⟩, g4⟩ := find_some q x es l (i + 1) y h2 hm
      refine ⟨j + 1, ?_, ⟨e', by simpa using g2, g3⟩, fun z => ?_⟩
      · simp only [Instr.findNow, h1.1, Instr.sameNow, hb]
        rw [g1]
        simp [Nat.add_assoc, Nat.add_comm 1 j]
      · rw [mset, if_neg hx]
        simp only [List.modify_succ_cons, List.map_cons, g4 z]
        rw [show kvE e = kv (k, v) by simp [kvE, kv, h1]]
theorem mset_new : ∀ (l : List (Int × Int)) (x y : Int), mget l x = none → mset l x y = l ++ [(x, y)]
  | [], x, y, _ => rfl
  | (k, v) :: l, x, y, h => by
    by_cases hx : x = k
    · simp [mget, hx] at h
    · rw [mget, if_neg hx] at h
      rw [mset, if_neg hx, mset_new l x y h]
      rfl
theorem only_block {w : World} {b : Nat} {es : Array MapEntry} {c : Nat} (hb : w.heap[b]? = some (.map es c)) (o : Obj) : Only b w (setBlock w b o) :=
  ⟨by simp [setBlock], fun j hj => heap_setBlock_other hb o hj, fun B hB => ⟨rfl, rfl, rfl, by simp [setBlock], fun k hk => heap_setBlock_other hb o (by omega)⟩⟩
theorem check_int {P : Program} (w : World) {k : TypeId} {q : IntKind} (hk : P.underlying k = some (.int q)) (e : Bool) (n : Nat) (x : Int) : (Instr.checkKey e (n + 1) k (.int .i64 x)).run P w = .ok () w := by
  unfold Instr.checkKey
  simp [run_underlying hk, Result.andThen]

section
variable {P : Program} {t k e : TypeId} {q q2 : IntKind} {w : World} {b : Nat} {l : List (Int × Int)}
theorem MapL.look (h : MapL w b l) (ht : P.underlying t = some (.map k e)) (hk : P.underlying k = some (.int q)) (hz : (zeroValue e).run P w = .ok (.int .i64 0) w) (x : Int) (ok : Bool) :
    (Instr.lookup t (.map (some b)) (.int .i64 x) ok).run P w = .ok (if ok then .tuple #[.int .i64 ((mget l x).getD 0), .bool (mget l x).isSome] else .int .i64 ((mget l x).getD 0)) w := by
  obtain ⟨es, c, hb, hl⟩ := h
  cases hm : mget l x with
  | none =>
    have := find_none q x es.toList l 0 hl hm
    cases ok <;> simp [Instr.lookup, run_underlying ht, MapKept.run_getObj_map hb, check_int w hk, Instr.findKey, run_underlying hk, this, hz, Result.andThen]
  | some y =>
    obtain ⟨j, h1, -, -⟩ := find_some q x es.toList l 0 y hl hm
    cases ok <;> simp [Instr.lookup, run_underlying ht, MapKept.run_getObj_map hb, check_int w hk, Instr.findKey, run_underlying hk, h1, Result.andThen]
theorem MapL.put (h : MapL w b l) (ht : P.underlying t = some (.map k e)) (hk : P.underlying k = some (.int q)) (x y : Int) :
    ∃ w', (Instr.mapUpdate t (.map (some b)) (.int .i64 x) (.int .i64 y)).run P w = .ok () w' ∧ MapL w' b (mset l x y) ∧ Only b w w' := by
  obtain ⟨es, c, hb, hl⟩ := h
  cases hm : mget l x with
  | none =>
    have := find_none q x es.toList l 0 hl hm
    refine ⟨setBlock w b (.map (es.push ⟨.int .i64 x, .int .i64 y, c⟩) (c + 1)), ?_, ⟨_, _, heap_setBlock_same hb _, ?_⟩, only_block hb _⟩
    · simp [Instr.mapUpdate, run_underlying ht, MapKept.run_getObj_map hb, check_int w hk, Instr.findKey, run_underlying hk, this, MapKept.run_setObj_map _ hb, Result.andThen, setBlock]
    · rw [mset_new l x y hm, Array.toList_push, List.map_append, List.map_append, hl]
      rfl
  | some v =>
    obtain ⟨j, h1, ⟨e0, h2, h3⟩, h4⟩ := find_some q x es.toList l 0 v hl hm
    have h2' : es[j]? = some e0 := by simpa using h2
    refine ⟨setBlock w b (.map (es.modify j fun e => { e with key := .int .i64 x, val := .int .i64 y }) c), ?_, ⟨_, _, heap_setBlock_same hb _, ?_⟩, only_block hb _⟩
    · rw [Nat.zero_add] at h1
      simp [Instr.mapUpdate, run_underlying ht, MapKept.run_getObj_map hb, check_int w hk, Instr.findKey, run_underlying hk, h1, h2', h3, Instr.keyThatStays, Instr.sameBits, MapKept.run_setObj_map _ hb, Result.andThen, setBlock]
    · rw [Array.toList_modify]
      exact h4 y
theorem MapL.clear (h : MapL w b l) (ht : P.underlying t = some (.map k e)) (ty : TypeId) : ∃ w', (Builtin.clear_ #[t] ty #[.map (some b)]).run P w = .ok (.tuple #[]) w' ∧ MapL w' b [] ∧ Only b w w' := by
  obtain ⟨es, c, hb, hl⟩ := h
  refine ⟨setBlock w b (.map #[] c), ?_, ⟨_, _, heap_setBlock_same hb _, rfl⟩, only_block hb _⟩
  simp [Builtin.clear_, run_underlying ht, MapKept.run_getObj_map hb, MapKept.run_setObj_map _ hb, Result.andThen, setBlock]
theorem MapL.len (h : MapL w b l) (ht : P.underlying t = some (.map k e)) (ty : TypeId) : (Builtin.len_ #[t] ty #[.map (some b)]).run P w = .ok (.int .i64 (l.length : Int)) w := by
  obtain ⟨es, c, hb, hl⟩ := h
  have : es.size = l.length := by have := congrArg List.length hl; simpa using this
  simp [Builtin.len_, run_underlying ht, MapKept.run_getObj_map hb, goInt, Result.andThen, this]
end

section laws
variable {ops : Array Oper} {rest : List Oper} {o : Oper} {a : Act} {w : World} {Q : Exit → Act → World → Prop}
theorem wpList_make_m (hgd : o.guard = none) (t : TypeId) (ho : o.op = .makeMap t none) (h : ∀ (b : Nat) (w' : World), w.heap.size ≤ b → b < w'.heap.size → Below w.heap.size w w' → MapL w' b [] → wpList Tryd.prog ops Q rest (a.put o.dst (.map (some b))) w') :
    wpList Tryd.prog ops Q (o :: rest) a w := by
  refine wpList_val hgd (v := .map (some w.heap.size)) (w' := w.alloc (.map #[] 0)) ?_ (h _ _ (Nat.le_refl _) (by simp) ((Below.refl _ _).alloc (Nat.le_refl _) _) ⟨#[], 0, heap_alloc_new _ _, rfl⟩)
  unfold execOp
  simp only [ho]
  rfl
theorem wpList_look_m (hgd : o.guard = none) (m x : Operand) (t : TypeId) (ok : Bool) (ho : o.op = .lookup t m x ok) {k e : TypeId} {q : IntKind} (ht : Tryd.prog.underlying t = some (.map k e)) (hk : Tryd.prog.underlying k = some (.int q)) (hz : ∀ w, (zeroValue e).run Tryd.prog w = .ok (.int .i64 0) w)
    (b : Nat) (l : List (Int × Int)) (hm : a.eval m = .map (some b)) (M : MapL w b l) (y : Int) (hx : a.eval x = .int .i64 y)
    (h : wpList Tryd.prog ops Q rest (a.put o.dst (if ok then .tuple #[.int .i64 ((mget l y).getD 0), .bool (mget l y).isSome] else .int .i64 ((mget l y).getD 0))) w) : wpList Tryd.prog ops Q (o :: rest) a w := by
  refine wpList_val hgd (w' := w) ?_ h
  simp [execOp, ho, hm, hx, M.look ht hk (hz w) y ok, Result.andThen]
theorem wpList_set_m (hgd : o.guard = none) (m x v : Operand) (t : TypeId) (ho : o.op = .mapUpdate t m x v ∨ o.op = .insert t m x v) {k e : TypeId} {q : IntKind} (ht : Tryd.prog.underlying t = some (.map k e)) (hk : Tryd.prog.underlying k = some (.int q))
    (b : Nat) (l : List (Int × Int)) (hm : a.eval m = .map (some b)) (M : MapL w b l) (y z : Int) (hx : a.eval x = .int .i64 y) (hv : a.eval v = .int .i64 z)
    (h : ∀ w', MapL w' b (mset l y z) → Only b w w' → wpList Tryd.prog ops Q rest (a.put o.dst undef) w') : wpList Tryd.prog ops Q (o :: rest) a w := by
  obtain ⟨w', h1, h2, h3⟩ := M.put ht hk y z
  refine wpList_plain hgd fun K hK => ?_
  unfold Oper.wp
  rcases ho with ho | ho <;> simp [execOp, ho, hm, hx, hv, h1, Result.andThen] <;> exact hK _ _ (h w' h2 h3)
theorem wpList_clear_m (hgd : o.guard = none) (m : Operand) (t : TypeId) (ho : o.op = .call { callee := .builtin .clear, args := #[m], argTypes := #[t] }) {k e : TypeId} (ht : Tryd.prog.underlying t = some (.map k e))
    (b : Nat) (l : List (Int × Int)) (hm : a.eval m = .map (some b)) (M : MapL w b l)
    (h : ∀ w', MapL w' b [] → Only b w w' → wpList Tryd.prog ops Q rest (a.put o.dst (.tuple #[])) w') : wpList Tryd.prog ops Q (o :: rest) a w := by
  obtain ⟨w', h1, h2, h3⟩ := M.clear ht o.type
  refine wpList_val hgd (w' := w') ?_ (h w' h2 h3)
  simp [execOp, ho, resolve, invoke, builtin, hm, h1, Result.andThen]
theorem wpList_len_m (hgd : o.guard = none) (m : Operand) (t : TypeId) (ho : o.op = .call { callee := .builtin .len, args := #[m], argTypes := #[t] }) {k e : TypeId} (ht : Tryd.prog.underlying t = some (.map k e))
    (b : Nat) (l : List (Int × Int)) (hm : a.eval m = .map (some b)) (M : MapL w b l) (h : wpList Tryd.prog ops Q rest (a.put o.dst (.int .i64 (l.length : Int))) w) : wpList Tryd.prog ops Q (o :: rest) a w := by
  refine wpList_val hgd (w' := w) ?_ h
  simp [execOp, ho, resolve, invoke, builtin, hm, M.len ht o.type, Result.andThen]
end laws
end Go.Proofs.YtfdkcldbbfgaiaaDoor.rg
