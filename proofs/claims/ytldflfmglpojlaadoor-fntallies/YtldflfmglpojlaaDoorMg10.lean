/- Texts laid together: RcTl Rg1 Rg2. -/
import Derived.Test.YtldflfmglpojlaaDoorMg09
import Derived.Test.YtldflfmglpojlaaDoorMg03
import Derived.Test.YtldflfmglpojlaaDoorMg00
import Derived.Test.YtldflfmglpojlaaDoorRows
import Derived.BigQuiet
import Derived.Deep.RegionHeld3
import Derived.Deep.DeepCutAuto
import Derived.Deep.Slices
import Derived.Lib.SmallJoins
import Derived.ShutString
import Derived.ChangeOld
import Derived.Maps.RangeWalk
/- The record Tally in memory: its cells, rows of it, the laws' helpers on it, among the arguments. -/
namespace Go.Proofs.YtldflfmglpojlaaDoor.rg
open Go.ChangeShapes Go.WideShapes Go.ChangeAt Go.RowKit
open Go.Deep Go.Joins
open Go.Proofs.YtldflfmglpojlaaDoor.ce Go.Proofs.YtldflfmglpojlaaDoor.ro
set_option linter.unusedVariables false

/-- the cells of a Tally -/
def csTl (x : Tl) : List Value := [.int .i64 x.A, .int .i64 x.H, .int .i64 x.S, .int .i64 x.D, .int .i64 x.O]
theorem oneTl (x : Tl) : ∀ v ∈ csTl x, v.oneCell' = true := by
  intro v hv
  simp only [csTl, List.mem_cons, List.not_mem_nil, or_false] at hv
  rcases hv with rfl | rfl | rfl | rfl | rfl <;> rfl
def encTl : Enc Tl := ⟨csTl, 5, 25, fun _ => rfl, oneTl, by decide⟩
theorem infoTl : Info encTl := by
  have h : (Tryd.prog.info? 25).map (fun i => (i.zero, i.size, i.bytes)) = some (some (.agg #[Value.int .i64 0, Value.int .i64 0, Value.int .i64 0, Value.int .i64 0, Value.int .i64 0]), 5, 40) := by kernel_rfl
  obtain ⟨i, hi, hz⟩ := Option.map_eq_some_iff.1 h
  simp only [Prod.mk.injEq] at hz
  exact ⟨i, _, hi, hz.1, hz.2.1, by omega, rfl⟩
theorem sizeTl : (Tryd.prog.info? 25).map (·.size) = some 5 := by kernel_rfl
theorem zeroTl (w : World) : (zeroValue 25).run Tryd.prog w = .ok (.agg [Value.int .i64 0, Value.int .i64 0, Value.int .i64 0, Value.int .i64 0, Value.int .i64 0].toArray) w := Tryd.zeroValue25 w
theorem cellsTl {w : World} {b : Nat} {t : TypeId} {v0 v1 v2 v3 v4 : Value} (h : VBlk w b t [v0, v1, v2, v3, v4]) : w.cell? ⟨b, 0, none⟩ = some v0 ∧ w.cell? ⟨b, 1, none⟩ = some v1 ∧ w.cell? ⟨b, 2, none⟩ = some v2 ∧ w.cell? ⟨b, 3, none⟩ = some v3 ∧ w.cell? ⟨b, 4, none⟩ = some v4 :=
  ⟨h.cell 0 (by simp), h.cell 1 (by simp), h.cell 2 (by simp), h.cell 3 (by simp), h.cell 4 (by simp)⟩
theorem frozTl {w : World} {b : Nat} {t : TypeId} {vs : List Value} (h : VBlk w b t vs) : w.frozen? ⟨b, 0, none⟩ = false ∧ w.frozen? ⟨b, 1, none⟩ = false ∧ w.frozen? ⟨b, 2, none⟩ = false ∧ w.frozen? ⟨b, 3, none⟩ = false ∧ w.frozen? ⟨b, 4, none⟩ = false :=
  ⟨h.frozen _, h.frozen _, h.frozen _, h.frozen _, h.frozen _⟩
/-- the one at the place i of a row -/
theorem rdTl_at {E : Enc Tl} (hp : E.put = csTl) (hk : E.k = 5) {w : World} {n cap : Nat} {a : Option Addr} {xs : List Tl} (r : Rd E w (.slice a n cap) xs) (i : Nat) (hi : i < xs.length) :
    ∃ b off, a = some ⟨b, off, none⟩ ∧ b < w.heap.size ∧ w.rangeAt b (off + i * 5) (csTl xs[i]) := by
  obtain ⟨b, off, e, h1, h2⟩ := r.start (by omega)
  refine ⟨b, off, e, h1, fun j v hv => ?_⟩
  have hj : j < 5 := (List.getElem?_eq_some_iff.1 hv).1
  have := E.row_get xs i j hi (by rw [hk]; exact hj)
  rw [hk, hp, hv] at this
  have := h2 _ _ this
  rw [Nat.add_assoc]
  exact this
theorem rngTl {w : World} {b k : Nat} {v0 v1 v2 v3 v4 : Value} (h : w.rangeAt b k [v0, v1, v2, v3, v4]) : w.cell? ⟨b, k, none⟩ = some v0 ∧ w.cell? ⟨b, k + 1, none⟩ = some v1 ∧ w.cell? ⟨b, k + 2, none⟩ = some v2 ∧ w.cell? ⟨b, k + 3, none⟩ = some v3 ∧ w.cell? ⟨b, k + 4, none⟩ = some v4 :=
  ⟨h 0 _ rfl, h 1 _ rfl, h 2 _ rfl, h 3 _ rfl, h 4 _ rfl⟩
/-- no text in it is longer than what a machine holds; none is long -/
def LoTl (l : List Tl) : Prop := ∀ x ∈ l, True
def SmTl (l : List Tl) : Prop := ∀ x ∈ l, True

end Go.Proofs.YtldflfmglpojlaaDoor.rg
/- By hand through a region that draws its order: one operation taken first, wanted or passed over. -/
namespace Go.Proofs.YtldflfmglpojlaaDoor.ce
open Go.RowKit
set_option linter.unusedVariables false
variable {P : Program} {ops : Array Oper} {Q : Exit → Act → World → Prop} {md : Region.Mode} {S : World → Prop}

/-- an operation that is wanted and yields v in every world that meets S -/
theorem takeW (i d : Nat) (v : Value) {op : Op} {ty : TypeId} {pos : String} {after : Array Edge} {g : Option (Nat × Bool)} {tmps : Array Value} {defers : List Deferred} {fuel : Nat} {listed : Array Bool} {w : World}
    (hi : ops[i]? = some ⟨some d, op, ty, pos, after, g⟩) (hs : Region.noSelect ops = true) (hf : Region.free md ops listed i = true) (hr : (Region.ready md ops listed).contains i = true)
    (hQ : ∀ c a w, Q (.panic c) (Act.put a (some d) v) w → Q (.panic c) a w)
    (hw : Region.wanted ⟨some d, op, ty, pos, after, g⟩ (yielded ops tmps) = true) (hy : ∀ w, S w → (execOp (Act.eval ⟨tmps, defers⟩) ⟨some d, op, ty, pos, after, g⟩).run P w = .ok (.value v) w) (hS : S w)
    (h : wpAnyH P md ops Q S fuel (listed.setIfInBounds i true) ⟨tmps.setIfInBounds d v, defers⟩ w) : wpAnyH P md ops Q S (fuel + 1) listed ⟨tmps, defers⟩ w :=
  wpAnyH_take (oi := ⟨some d, op, ty, pos, after, g⟩) (v := v) hi hs hf hr hQ (Or.inl ⟨hw, hy⟩) hS h
/-- an operation that is passed over -/
theorem takeU (i d : Nat) {op : Op} {ty : TypeId} {pos : String} {after : Array Edge} {g : Option (Nat × Bool)} {tmps : Array Value} {defers : List Deferred} {fuel : Nat} {listed : Array Bool} {w : World}
    (hi : ops[i]? = some ⟨some d, op, ty, pos, after, g⟩) (hs : Region.noSelect ops = true) (hf : Region.free md ops listed i = true) (hr : (Region.ready md ops listed).contains i = true)
    (hQ : ∀ c a w, Q (.panic c) (Act.put a (some d) undef) w → Q (.panic c) a w)
    (hw : Region.wanted ⟨some d, op, ty, pos, after, g⟩ (yielded ops tmps) = false) (hS : S w)
    (h : wpAnyH P md ops Q S fuel (listed.setIfInBounds i true) ⟨tmps.setIfInBounds d undef, defers⟩ w) : wpAnyH P md ops Q S (fuel + 1) listed ⟨tmps, defers⟩ w :=
  wpAnyH_take (oi := ⟨some d, op, ty, pos, after, g⟩) (v := undef) hi hs hf hr hQ (Or.inr ⟨hw, rfl⟩) hS h
end Go.Proofs.YtldflfmglpojlaaDoor.ce
/- By hand through a region that draws its order: a struct's variable is laid, a struct is stored. -/
namespace Go.Proofs.YtldflfmglpojlaaDoor.ce
open Go.ChangeShapes Go.WideShapes Go.ChangeAt Go.RowKit
set_option linter.unusedVariables false
variable {P : Program} {ops : Array Oper} {o : Oper} {a : Act} {w : World} {Q : Exit → Act → World → Prop} {K : Act → World → Prop} {E : Prop}

theorem step_alloc_v (hgd : o.guard = none) (t : TypeId) (ho : o.op = .alloc t) (vs : List Value) (hz : ∀ w, (zeroValue t).run P w = .ok (.agg vs.toArray) w)
    (h : ∀ (b : Nat) (w' : World), w.heap.size ≤ b → b < w'.heap.size → Below w.heap.size w w' → VBlk w' b t vs → K (a.put o.dst (.pointer (some ⟨b, 0, none⟩))) w') : if Region.wanted o (yielded ops a.tmps) = true then Oper.wp P o a w K Q else E := by
  refine step_val hgd (v := .pointer (some ⟨w.heap.size, 0, none⟩)) (w' := w.alloc (.cells vs.toArray t)) ?_ (h _ _ (Nat.le_refl _) (by simp) ((Below.refl _ _).alloc (Nat.le_refl _) _) (heap_alloc_new _ _))
  unfold execOp
  simp only [ho, Instr.alloc, Sem.run_bind, hz, Result.andThen_ok]
  rfl
theorem step_store_v (hgd : o.guard = none) (t : TypeId) (x y : Operand) (ho : o.op = .store t x y) (b : Nat) (ys : List Value) (hx : a.eval x = .pointer (some ⟨b, 0, none⟩)) (hy : a.eval y = .agg ys.toArray)
    (hi : (P.info? t).map (·.size) = some ys.length) {t' : TypeId} {vs : List Value} (hb : VBlk w b t' vs) (hn : ys.length = vs.length) (h1 : ∀ v ∈ ys, v.oneCell' = true)
    (h : ∀ w', Only b w w' → VBlk w' b t' ys → K (a.put o.dst undef) w') : if Region.wanted o (yielded ops a.tmps) = true then Oper.wp P o a w K Q else E := by
  have hw : Region.wanted o (yielded ops a.tmps) = true := by simp [Region.wanted, hgd]
  rw [if_pos hw]
  refine wp_store_mid t x y ho b 0 ys.toArray hx hy ?_ (by rw [hi]; simp) (all_oneCell_toArray h1) ?_
  · rw [List.size_toArray, hn]; exact hb.there
  · refine h _ (only_setCells _ _ _ _) ?_
    unfold VBlk
    rw [heap_setCells b t' _ 0 w vs hb (by simp [hn])]
    simp [hn]
/-- an operation that comes up, its parts by name -/
theorem consM {md : Region.Mode} {S : World → Prop} {fuel : Nat} {listed : Array Bool} {tmps : Array Value} {defers : List Deferred} {i : Nat} {dst : Option Tmp} {op : Op} {ty : TypeId} {pos : String} {after : Array Edge} {g : Option (Nat × Bool)} {rs : List Nat} (ho : ops[i]? = some ⟨dst, op, ty, pos, after, g⟩)
    (h : ∀ K' : Act → World → Prop, Shut (∀ a w, S w → (S w → wpAnyH P md ops Q S fuel (listed.setIfInBounds i true) a w) → K' a w) → if Region.wanted ⟨dst, op, ty, pos, after, g⟩ (yielded ops tmps) = true then Oper.wp P ⟨dst, op, ty, pos, after, g⟩ ⟨tmps, defers⟩ w K' Q else K' (Act.put ⟨tmps, defers⟩ dst undef) w)
    (hs : AllReadyH P md ops Q S fuel listed ⟨tmps, defers⟩ w rs) : AllReadyH P md ops Q S fuel listed ⟨tmps, defers⟩ w (i :: rs) := AllReadyH.cons ho h hs
end Go.Proofs.YtldflfmglpojlaaDoor.ce
