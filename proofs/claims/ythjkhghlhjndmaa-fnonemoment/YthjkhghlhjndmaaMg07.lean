/- Texts laid together: He4 Rg1 Rg2 Hw1 Hr1 Cr1 Ih1 Hf2 Ih8 Pl2 Cw0 HdMath3 HdMath4 HdMath10. -/
import Derived.Test.YthjkhghlhjndmaaHe3
import Derived.Test.YthjkhghlhjndmaaRows
import Derived.Test.YthjkhghlhjndmaaMg00
import Derived.Test.YthjkhghlhjndmaaMg04
import Derived.Deep.RegionHeld3
import Derived.Maps.RangeWalk
/- The model's small move is the function move. -/
namespace Go.Proofs.Ythjkhghlhjndmaa.ce
open Go.ChangeShapes Go.WideShapes Go.ChangeAt Go.RowKit
set_option linter.unusedVariables false

/-- a hand whose next move is in bounds -/
structure Bd (n : Nat) (d : Hd) : Prop where
  kind : d.kind = 1 ∨ d.kind = 2 ∨ d.kind = 3
  step : d.step = 0 ∨ d.step = 1 ∨ d.step = 2 ∨ d.step = 3 ∨ d.step = 4 ∨ d.step = 5
  here : d.step = 1 ∨ d.step = 2 → d.here = -1 ∨ 0 ≤ d.here
  hern : d.here < (n : Int)
  mark : d.step = 4 → 0 ≤ d.here
  own : d.own < 0 ∨ d.own < (n : Int)
theorem OkH.bd {H : List C} {d : Hd} (ok : OkH H d) (h1 : 1 ≤ H.length) : Bd H.length d := by
  have hk := ok.kind
  have hs := ok.step
  by_cases hi : d.step = 0 ∨ d.step = 5
  · have h := ok.idle hi
    refine ⟨by omega, by omega, fun _ => .inl h.2, by rw [h.2]; omega, fun e => by omega, ?_⟩
    rcases ok.own with e | e
    · exact .inl (by omega)
    · exact .inr e.2.1.2
  · have h := ok.way hi
    have hm := ok.mark
    refine ⟨by omega, by omega, fun _ => by omega, by omega, fun e => ?_, ?_⟩
    · have h2 := (hm e).1
      have hky := ok.key
      unfold there at h2
      split at h2
      · assumption
      · omega
    · rcases ok.own with e | e
      · exact .inl (by omega)
      · exact .inr e.2.1.2

theorem l5MoveA (H : List C) (d : Hd) (v : Value) (lo g q f : Nat) (ty : TypeId) (A B : List Value) (w : World) (m : Me w lo g q f ty A B v H d) (bd : Bd H.length d) :
    Calls Try.prog 90 #[v, .pointer (some ⟨q, f, none⟩)] w fun er w' => ∃ v' g', er = .returned v' ∧ Me w' lo g' q f ty A B v' (move H d).1 (move H d).2 ∧ Mw lo q w w' := by
  obtain ⟨k, x, y, s, l, e, o, t⟩ := d
  have hk := bd.kind
  have hs := bd.step
  have hh := bd.here
  have hn := bd.hern
  have hm := bd.mark
  have ho := bd.own
  simp only at hk hs hh hn hm ho
  clear bd
  rcases hs with rfl | rfl | rfl | rfl | rfl | rfl
  · exact mv_start H k x y l e o t v lo g q f ty A B w m
  · rcases hh (.inl rfl) with rfl | h0
    · have e1 : move H ⟨k, x, y, 1, l, -1, o, t⟩ = (H, ⟨k, x, y, 2, l, -1, o, t⟩) := by simp [move, moveW, stops]
      rw [e1]
      exact mv_walk_end H k x y l 0 o t v lo g q f ty A B w m
    · have hne : ¬ e = -1 := by omega
      cases hg : (nth H e).gone with
      | false =>
        by_cases hkk : x ≤ (nth H e).key
        · have e1 : move H ⟨k, x, y, 1, l, e, o, t⟩ = (H, ⟨k, x, y, 2, l, e, o, t⟩) := by simp [move, moveW, stops, hg, hkk]
          rw [e1]
          exact mv_walk_stop H k x y l e o t v lo g q f ty A B w m h0 hn hg hkk
        · have e1 : move H ⟨k, x, y, 1, l, e, o, t⟩ = (H, ⟨k, x, y, 1, e, (nth H e).next, o, t⟩) := by simp [move, moveW, stops, hg, hkk, hne]
          rw [e1]
          exact mv_walk_on H k x y l e o t v lo g q f ty A B w m h0 hn hg hkk
      | true =>
        by_cases hsw : swapOk H l e (nth H e).next
        · have e1 : move H ⟨k, x, y, 1, l, e, o, t⟩ = (swapH H l (nth H e).next, ⟨k, x, y, 1, l, (nth H e).next, o, t⟩) := by simp [move, moveW, stops, hg, hne, hsw]
          rw [e1]
          exact mv_walk_pass H k x y l e o t v lo g q f ty A B w m h0 hn hg hsw
        · have e1 : move H ⟨k, x, y, 1, l, e, o, t⟩ = (H, startD ⟨k, x, y, 1, l, e, o, t⟩) := by simp [move, moveW, stops, hg, hne, hsw]
          rw [e1]
          exact mv_walk_lost H k x y l e o t v lo g q f ty A B w m h0 hn hg hsw
  · rcases hh (.inr rfl) with rfl | h0
    · rcases hk with rfl | rfl | rfl
      · have e1 : move H ⟨1, x, y, 2, l, -1, o, t⟩ = movePut H ⟨1, x, y, 2, l, -1, o, t⟩ := by simp [move, moveA, found]
        rw [e1]
        exact mv_act1_end H 0 x y l 0 o t v lo g q f ty A B w m ho
      · have e1 : move H ⟨2, x, y, 2, l, -1, o, t⟩ = (H, doneD ⟨2, x, y, 2, l, -1, o, t⟩ false) := by simp [move, moveA, found]
        rw [e1]
        exact mv_act2_end H 0 x y l 0 o t v lo g q f ty A B w m
      · have e1 : move H ⟨3, x, y, 2, l, -1, o, t⟩ = (H, doneD ⟨3, x, y, 2, l, -1, o, t⟩ false) := by simp [move, moveA, found]
        rw [e1]
        exact mv_act3_end H 0 x y l 0 o t v lo g q f ty A B w m
    · by_cases hkk : (nth H e).key = x
      · rcases hk with rfl | rfl | rfl
        · have e1 : move H ⟨1, x, y, 2, l, e, o, t⟩ = (H, doneD ⟨1, x, y, 2, l, e, o, t⟩ false) := by simp [move, moveA, found, h0, hkk]
          rw [e1]
          exact mv_act1_found H 0 x y l e o t v lo g q f ty A B w m h0 hn hkk
        · have e1 : move H ⟨2, x, y, 2, l, e, o, t⟩ = (H, ⟨2, x, y, 4, l, e, o, t⟩) := by simp [move, moveA, found, h0, hkk]
          rw [e1]
          exact mv_act2_found H 0 x y l e o t v lo g q f ty A B w m h0 hn hkk
        · have e1 : move H ⟨3, x, y, 2, l, e, o, t⟩ = (H, doneD ⟨3, x, y, 2, l, e, o, t⟩ true) := by simp [move, moveA, found, h0, hkk]
          rw [e1]
          exact mv_act3_found H 0 x y l e o t v lo g q f ty A B w m h0 hn hkk
      · rcases hk with rfl | rfl | rfl
        · have e1 : move H ⟨1, x, y, 2, l, e, o, t⟩ = movePut H ⟨1, x, y, 2, l, e, o, t⟩ := by simp [move, moveA, found, hkk]
          rw [e1]
          exact mv_act1_other H 0 x y l e o t v lo g q f ty A B w m h0 hn hkk ho
        · have e1 : move H ⟨2, x, y, 2, l, e, o, t⟩ = (H, doneD ⟨2, x, y, 2, l, e, o, t⟩ false) := by simp [move, moveA, found, hkk]
          rw [e1]
          exact mv_act2_other H 0 x y l e o t v lo g q f ty A B w m h0 hn hkk
        · have e1 : move H ⟨3, x, y, 2, l, e, o, t⟩ = (H, doneD ⟨3, x, y, 2, l, e, o, t⟩ false) := by simp [move, moveA, found, hkk]
          rw [e1]
          exact mv_act3_other H 0 x y l e o t v lo g q f ty A B w m h0 hn hkk
  · by_cases hsw : swapOk H l e o
    · have e1 : move H ⟨k, x, y, 3, l, e, o, t⟩ = (swapH H l o, doneD ⟨k, x, y, 3, l, e, o, t⟩ true) := by simp [move, moveL, hsw]
      rw [e1]
      exact mv_link H k x y l e o t v lo g q f ty A B w m hsw
    · have e1 : move H ⟨k, x, y, 3, l, e, o, t⟩ = (H, startD ⟨k, x, y, 3, l, e, o, t⟩) := by simp [move, moveL, hsw]
      rw [e1]
      exact mv_link_lost H k x y l e o t v lo g q f ty A B w m hsw
  · have h0 := hm rfl
    cases hg : (nth H e).gone with
    | true =>
      have e1 : move H ⟨k, x, y, 4, l, e, o, t⟩ = (H, startD ⟨k, x, y, 4, l, e, o, t⟩) := by simp [move, moveM, hg]
      rw [e1]
      exact mv_mark_lost H k x y l e o t v lo g q f ty A B w m h0 hn hg
    | false =>
      have e1 : move H ⟨k, x, y, 4, l, e, o, t⟩ = (strike1 H e (nth H e).next, doneD ⟨k, x, y, 4, l, e, o, t⟩ true) := by simp [move, moveM, hg]
      rw [e1]
      exact mv_mark H k x y l e o t v lo g q f ty A B w m h0 hn hg
  · exact mv_done H k x y l e o t v lo g q f ty A B w m
end Go.Proofs.Ythjkhghlhjndmaa.ce
/- By hand through a region that draws its order: one operation taken first, wanted or passed over. -/
namespace Go.Proofs.Ythjkhghlhjndmaa.ce
open Go.RowKit
set_option linter.unusedVariables false
variable {P : Program} {ops : Array Oper} {Q : Exit → Act → World → Prop} {md : Region.Mode} {S : World → Prop}

/-- an operation that is wanted and yields v in every world that meets S -/
theorem takeW (i d : Nat) (v : Value) {op : Op} {ty : TypeId} {pos : String} {after : Array Edge} {g : Option (Nat × Bool)} {tmps : Array Value} {defers : List Deferred} {fuel : Nat} {listed : Array Bool} {w : World}
    (hi : ops[i]? = some ⟨some d, op, ty, pos, after, g⟩) (hs : Region.noSelect ops = true) (hf : Region.free md ops listed i = true) (hr : (Region.ready md ops listed).contains i = true)
    (hQ : ∀ c a w, Q (.panic c) (Act.put a (some d) v) w → Q (.panic c) a w)
    (hw : Region.wanted ⟨some d, op, ty, pos, after, g⟩ (yielded ops tmps) = true) (hy : ∀ w, S w → (execOp (Act.eval ⟨tmps, defers⟩) ⟨some d, op, ty, pos, after, g⟩).run P w = .ok (.value v) w) (hS : S w)
    (h : wpAnyH P md ops Q S fuel (listed.setIfInBounds i true) ⟨tmps.setIfInBounds d v, defers⟩ w) : wpAnyH P md ops Q S (fuel + 1) listed ⟨tmps, defers⟩ w :=
  wpAnyH_take (oi := ⟨some d, op, ty, pos, after, g⟩) (v := v) hi hs hf hr hQ (Or.inl ⟨hw, hy⟩) hS h
/-- an operation that is passed over -/
theorem takeU (i d : Nat) {op : Op} {ty : TypeId} {pos : String} {after : Array Edge} {g : Option (Nat × Bool)} {tmps : Array Value} {defers : List Deferred} {fuel : Nat} {listed : Array Bool} {w : World}
    (hi : ops[i]? = some ⟨some d, op, ty, pos, after, g⟩) (hs : Region.noSelect ops = true) (hf : Region.free md ops listed i = true) (hr : (Region.ready md ops listed).contains i = true)
    (hQ : ∀ c a w, Q (.panic c) (Act.put a (some d) undef) w → Q (.panic c) a w)
    (hw : Region.wanted ⟨some d, op, ty, pos, after, g⟩ (yielded ops tmps) = false) (hS : S w)
    (h : wpAnyH P md ops Q S fuel (listed.setIfInBounds i true) ⟨tmps.setIfInBounds d undef, defers⟩ w) : wpAnyH P md ops Q S (fuel + 1) listed ⟨tmps, defers⟩ w :=
  wpAnyH_take (oi := ⟨some d, op, ty, pos, after, g⟩) (v := undef) hi hs hf hr hQ (Or.inr ⟨hw, rfl⟩) hS h
end Go.Proofs.Ythjkhghlhjndmaa.ce
/- By hand through a region that draws its order: a struct's variable is laid, a struct is stored. -/
namespace Go.Proofs.Ythjkhghlhjndmaa.ce
open Go.ChangeShapes Go.WideShapes Go.ChangeAt Go.RowKit
set_option linter.unusedVariables false
variable {P : Program} {ops : Array Oper} {o : Oper} {a : Act} {w : World} {Q : Exit → Act → World → Prop} {K : Act → World → Prop} {E : Prop}

theorem step_alloc_v (hgd : o.guard = none) (t : TypeId) (ho : o.op = .alloc t) (vs : List Value) (hz : ∀ w, (zeroValue t).run P w = .ok (.agg vs.toArray) w)
    (h : ∀ (b : Nat) (w' : World), w.heap.size ≤ b → b < w'.heap.size → Below w.heap.size w w' → VBlk w' b t vs → K (a.put o.dst (.pointer (some ⟨b, 0, none⟩))) w') : if Region.wanted o (yielded ops a.tmps) = true then Oper.wp P o a w K Q else E := by
  refine step_val hgd (v := .pointer (some ⟨w.heap.size, 0, none⟩)) (w' := w.alloc (.cells vs.toArray t)) ?_ (h _ _ (Nat.le_refl _) (by simp) ((Below.refl _ _).alloc (Nat.le_refl _) _) (heap_alloc_new _ _))
  unfold execOp
  simp only [ho, Instr.alloc, Sem.run_bind, hz, Result.andThen_ok]
  rfl
theorem step_store_v (hgd : o.guard = none) (t : TypeId) (x y : Operand) (ho : o.op = .store t x y) (b : Nat) (ys : List Value) (hx : a.eval x = .pointer (some ⟨b, 0, none⟩)) (hy : a.eval y = .agg ys.toArray)
    (hi : (P.info? t).map (·.size) = some ys.length) {t' : TypeId} {vs : List Value} (hb : VBlk w b t' vs) (hn : ys.length = vs.length) (h1 : ∀ v ∈ ys, v.oneCell' = true)
    (h : ∀ w', Only b w w' → VBlk w' b t' ys → K (a.put o.dst undef) w') : if Region.wanted o (yielded ops a.tmps) = true then Oper.wp P o a w K Q else E := by
  have hw : Region.wanted o (yielded ops a.tmps) = true := by simp [Region.wanted, hgd]
  rw [if_pos hw]
  refine wp_store_mid t x y ho b 0 ys.toArray hx hy ?_ (by rw [hi]; simp) (all_oneCell_toArray h1) ?_
  · rw [List.size_toArray, hn]; exact hb.there
  · refine h _ (only_setCells _ _ _ _) ?_
    unfold VBlk
    rw [heap_setCells b t' _ 0 w vs hb (by simp [hn])]
    simp [hn]
/-- an operation that comes up, its parts by name -/
theorem consM {md : Region.Mode} {S : World → Prop} {fuel : Nat} {listed : Array Bool} {tmps : Array Value} {defers : List Deferred} {i : Nat} {dst : Option Tmp} {op : Op} {ty : TypeId} {pos : String} {after : Array Edge} {g : Option (Nat × Bool)} {rs : List Nat} (ho : ops[i]? = some ⟨dst, op, ty, pos, after, g⟩)
    (h : ∀ K' : Act → World → Prop, Shut (∀ a w, S w → (S w → wpAnyH P md ops Q S fuel (listed.setIfInBounds i true) a w) → K' a w) → if Region.wanted ⟨dst, op, ty, pos, after, g⟩ (yielded ops tmps) = true then Oper.wp P ⟨dst, op, ty, pos, after, g⟩ ⟨tmps, defers⟩ w K' Q else K' (Act.put ⟨tmps, defers⟩ dst undef) w)
    (hs : AllReadyH P md ops Q S fuel listed ⟨tmps, defers⟩ w rs) : AllReadyH P md ops Q S fuel listed ⟨tmps, defers⟩ w (i :: rs) := AllReadyH.cons ho h hs
end Go.Proofs.Ythjkhghlhjndmaa.ce
/- Hands in a row that the call made: how they are owned, one more behind them, one of them turned. -/
namespace Go.Proofs.Ythjkhghlhjndmaa.ce
open Go.ChangeShapes Go.WideShapes Go.ChangeAt Go.RowKit
set_option linter.unusedVariables false

def hvs (ds : List Hd) : List Value := ds.flatMap hv
theorem hvs_len (ds : List Hd) : (hvs ds).length = ds.length * 8 := by
  induction ds with
  | nil => rfl
  | cons d ds ih => simp only [hvs, List.flatMap_cons, List.length_append, List.length_cons] at ih ⊢; rw [ih, hv_len]; omega
theorem hvs_one (ds : List Hd) : ∀ v ∈ hvs ds, v.oneCell' = true := by
  intro v hv'
  obtain ⟨d, -, hd⟩ := List.mem_flatMap.1 hv'
  exact hv_one d v hd
theorem hvs_append (a b : List Hd) : hvs (a ++ b) = hvs a ++ hvs b := by simp [hvs]
theorem hvs_single (d : Hd) : hvs [d] = hv d := by simp [hvs]
/-- the hands ds lie in a row of their own in a block from lo up to hi -/
structure OwnH (w : World) (lo hi : Nat) (v : Value) (ds : List Hd) : Prop where
  row : w.ownsRow lo 58 8 v ds.length (hvs ds)
  top : ∀ g, v.ownBlock = some g → g < hi
theorem ownH_none (w : World) (lo hi : Nat) : OwnH w lo hi (.slice none 0 0) [] := ⟨World.ownsRow_nil w lo _ 8, fun g h => by cases h⟩
theorem OwnH.keep {w w' : World} {lo hi : Nat} {v : Value} {ds : List Hd} (o : OwnH w lo hi v ds) (s : ∀ k, lo ≤ k → k < hi → w'.heap[k]? = w.heap[k]?) : OwnH w' lo hi v ds := by
  refine ⟨⟨o.row.1, ?_⟩, o.top⟩
  rcases o.row.2 with h | ⟨g, cap, cur, rfl, hg, hb, h⟩
  · exact .inl h
  · exact .inr ⟨g, cap, cur, rfl, hg, by rw [s g hg (o.top g rfl)]; exact hb, h⟩
/-- it is enough that its own block stays -/
theorem OwnH.keepB {w w' : World} {lo hi : Nat} {v : Value} {ds : List Hd} (o : OwnH w lo hi v ds) (s : ∀ k, v.ownBlock = some k → w'.heap[k]? = w.heap[k]?) : OwnH w' lo hi v ds := by
  refine ⟨⟨o.row.1, ?_⟩, o.top⟩
  rcases o.row.2 with h | ⟨g, cap, cur, rfl, hg, hb, h⟩
  · exact .inl h
  · exact .inr ⟨g, cap, cur, rfl, hg, by rw [s g rfl]; exact hb, h⟩
theorem OwnH.below {w w' : World} {lo hi B : Nat} {v : Value} {ds : List Hd} (o : OwnH w lo hi v ds) (hb : Below B w w') (hB : hi ≤ B) : OwnH w' lo hi v ds := o.keep fun k _ h2 => hb.block k (by omega)
theorem OwnH.wide {w : World} {lo hi lo' hi' : Nat} {v : Value} {ds : List Hd} (o : OwnH w lo hi v ds) (h1 : lo' ≤ lo) (h2 : hi ≤ hi') : OwnH w lo' hi' v ds := by
  refine ⟨⟨o.row.1, ?_⟩, fun g hg => by have := o.top g hg; omega⟩
  rcases o.row.2 with h | ⟨g, cap, cur, rfl, hg, hb, h⟩
  · exact .inl h
  · exact .inr ⟨g, cap, cur, rfl, by omega, hb, h⟩
theorem OwnH.lo {w : World} {lo hi : Nat} {v : Value} {ds : List Hd} (o : OwnH w lo hi v ds) (g : Nat) (hg : v.ownBlock = some g) : lo ≤ g ∧ g < hi ∧ g < w.heap.size := by
  rcases o.row.2 with ⟨rfl, -⟩ | ⟨g', cap, cur, rfl, hg', hb, h⟩
  · cases hg
  · cases hg
    exact ⟨hg', o.top _ rfl, (Array.getElem?_eq_some_iff.1 hb).1⟩
theorem OwnH.len {w : World} {lo hi : Nat} {v : Value} {ds : List Hd} (o : OwnH w lo hi v ds) : ∃ a cap, v = .slice a ds.length cap := by
  rcases o.row.2 with ⟨rfl, h0⟩ | ⟨g', cap, cur, rfl, hg', hb, h⟩
  · exact ⟨none, 0, by rw [h0]⟩
  · exact ⟨_, cap, rfl⟩
/-- a row of hands that are there -/
theorem OwnH.form {w : World} {lo hi : Nat} {v : Value} {ds : List Hd} (o : OwnH w lo hi v ds) (h1 : 1 ≤ ds.length) :
    ∃ g cap sp, v = .slice (some ⟨g, 0, none⟩) ds.length cap ∧ lo ≤ g ∧ g < hi ∧ g < w.heap.size ∧ VBlk w g 58 (hvs ds ++ sp) ∧ ds.length ≤ cap ∧ cap ≤ maxLen ∧ (hvs ds ++ sp).length = cap * 8 := by
  rcases o.row.2 with ⟨_, h0⟩ | ⟨g, cap, cur, rfl, hg, hb, hc1, hc2, hc3, htk⟩
  · omega
  · have e : hvs ds ++ cur.toList.drop (ds.length * 8) = cur.toList := by rw [← htk]; exact List.take_append_drop _ _
    refine ⟨g, cap, cur.toList.drop (ds.length * 8), rfl, hg, o.top g rfl, (Array.getElem?_eq_some_iff.1 hb).1, ?_, hc1, hc2, ?_⟩
    · rw [e]; unfold VBlk; rw [hb]
    · rw [e]; simpa using hc3
theorem ownH_of {w : World} {lo hi g cap : Nat} {ds : List Hd} {sp : List Value} (hb : VBlk w g 58 (hvs ds ++ sp)) (h1 : lo ≤ g) (h2 : g < hi) (hc1 : ds.length ≤ cap) (hc2 : cap ≤ maxLen) (hl : (hvs ds ++ sp).length = cap * 8) :
    OwnH w lo hi (.slice (some ⟨g, 0, none⟩) ds.length cap) ds := by
  refine ⟨⟨hvs_len ds, .inr ⟨g, cap, (hvs ds ++ sp).toArray, rfl, h1, hb, hc1, hc2, by simpa using hl, ?_⟩⟩, fun k hk => by cases hk; exact h2⟩
  rw [← hvs_len ds]
  simp
theorem infoH : ∃ i : TypeInfo, Try.prog.info? 58 = some i ∧ i.zero = some (.agg (hv ⟨0, 0, 0, 0, 0, 0, 0, 0⟩).toArray) ∧ i.size = 8 ∧ i.bytes = 64 := by
  have h : (Try.prog.info? 58).map (fun i => (i.zero, i.size, i.bytes)) = some (some (.agg (hv ⟨0, 0, 0, 0, 0, 0, 0, 0⟩).toArray), 8, 64) := by kernel_rfl
  obtain ⟨i, hi, hz⟩ := Option.map_eq_some_iff.1 h
  simp only [Prod.mk.injEq] at hz
  exact ⟨i, hi, hz.1, hz.2.1, hz.2.2⟩
/-- one hand more, in a region that draws its order -/
theorem step_append_h {o : Oper} {a : Act} {w : World} {ops : Array Oper} {K : Act → World → Prop} {Q : Exit → Act → World → Prop} {E : Prop} (hgd : o.guard = none) (s x : Operand) (t : TypeId) (ho : o.op = .call { callee := .builtin .append, args := #[s, x], argTypes := #[t, t] }) (ht : Try.prog.underlying t = some (.slice 58))
    (lo hi : Nat) (v : Value) (ds : List Hd) (hs : a.eval s = v) (hown : OwnH w lo hi v ds) (hlo : lo ≤ w.heap.size) (b : Nat) (d : Hd) (hx : a.eval x = .slice (some ⟨b, 0, none⟩) 1 1) (hr : w.rangeAt b 0 (hv d)) (hlen : ds.length ≤ 1000)
    (h : ∀ v' w', OwnH w' lo w'.heap.size v' (ds ++ [d]) → w.grownBy w' v.ownBlock → K (a.put o.dst v') w') :
    if Region.wanted o (yielded ops a.tmps) = true then Oper.wp Try.prog o a w K Q else E := by
  have hw : Region.wanted o (yielded ops a.tmps) = true := by simp [Region.wanted, hgd]
  rw [if_pos hw]
  obtain ⟨i0, hi0, hz0, hz1, hz2⟩ := infoH
  refine wp_append_own w s x t ho lo 58 i0 _ 8 64 ht hi0 hz0 hz1 hz2 rfl (by decide) v ds.length (hvs ds) hs hown.row ⟨b, 0, none⟩ 1 1 (hv d) hx rfl (fun j u hj => by rw [Addr.add_mid]; exact hr j u hj) (hv_one d) (by unfold maxLen; omega) (by omega) hlo ?_
  intro v' w' h2 h3 h4
  rw [← hvs_single d, ← hvs_append] at h2
  exact h v' w' ⟨by rw [List.length_append]; exact h2, fun g hg => (h2.lt g hg).2⟩ h3
/-- the hand number i of a row -/
theorem hvs_split (ds : List Hd) (i : Nat) (hi : i < ds.length) : hvs ds = hvs (ds.take i) ++ hv ds[i] ++ hvs (ds.drop (i + 1)) := by
  conv => lhs; rw [← List.take_append_drop i ds, List.drop_eq_getElem_cons hi]
  rw [hvs_append, show ds[i] :: ds.drop (i + 1) = [ds[i]] ++ ds.drop (i + 1) from rfl, hvs_append, hvs_single, List.append_assoc]
theorem hvs_set (ds : List Hd) (i : Nat) (hi : i < ds.length) (d : Hd) : hvs (ds.set i d) = hvs (ds.take i) ++ hv d ++ hvs (ds.drop (i + 1)) := by
  rw [List.set_eq_take_append_cons_drop, if_pos hi, hvs_append, show d :: ds.drop (i + 1) = [d] ++ ds.drop (i + 1) from rfl, hvs_append, hvs_single, List.append_assoc]
theorem HA.of_row {w : World} {g : Nat} {ds : List Hd} {sp : List Value} (h : VBlk w g 58 (hvs ds ++ sp)) (i : Nat) (hi : i < ds.length) : HA w g (8 * i) 58 (hvs (ds.take i)) (hvs (ds.drop (i + 1)) ++ sp) ds[i] := by
  refine ⟨?_, by rw [hvs_len, List.length_take]; omega⟩
  rw [hvs_split ds i hi] at h
  simpa [List.append_assoc] using h
theorem HA.to_row {w : World} {g : Nat} {ds : List Hd} {sp : List Value} {d : Hd} {i : Nat} (hi : i < ds.length) (h : HA w g (8 * i) 58 (hvs (ds.take i)) (hvs (ds.drop (i + 1)) ++ sp) d) : VBlk w g 58 (hvs (ds.set i d) ++ sp) := by
  rw [hvs_set ds i hi d]
  simpa [List.append_assoc] using h.blk
end Go.Proofs.Ythjkhghlhjndmaa.ce
/- Hands that are read: a slice of hands under a bound. -/
namespace Go.Proofs.Ythjkhghlhjndmaa.ce
open Go.ChangeShapes Go.WideShapes Go.ChangeAt Go.RowKit
set_option linter.unusedVariables false

theorem hvs_get (ds : List Hd) (i : Nat) (hi : i < ds.length) (j : Nat) (hj : j < 8) : (hvs ds)[i * 8 + j]? = (hv ds[i])[j]? := by
  induction ds generalizing i with
  | nil => simp at hi
  | cons d ds ih =>
    simp only [hvs, List.flatMap_cons] at ih ⊢
    cases i with
    | zero => rw [List.getElem?_append_left (by simp [hv]; omega)]; simp
    | succ i =>
      have h8 : (hv d).length = 8 := rfl
      rw [List.getElem?_append_right (by rw [h8]; omega), h8, show (i + 1) * 8 + j - 8 = i * 8 + j by omega, ih i (by simpa using hi)]
      simp
/-- the hands ds are read at the slice v, in blocks under hi -/
structure RdH (w : World) (hi : Nat) (v : Value) (ds : List Hd) : Prop where
  fits : ∃ a cap, v = .slice a ds.length cap ∧ ds.length ≤ cap ∧ cap ≤ maxLen ∧ (ds ≠ [] → ∃ b off, a = some ⟨b, off, none⟩ ∧ b < hi ∧ w.rangeAt b off (hvs ds))
theorem RdH.keep {w w' : World} {hi : Nat} {v : Value} {ds : List Hd} (r : RdH w hi v ds) (s : ∀ k, k < hi → w'.heap[k]? = w.heap[k]?) : RdH w' hi v ds := by
  obtain ⟨a, cap, e, h1, h2, h3⟩ := r.fits
  refine ⟨a, cap, e, h1, h2, fun hn => ?_⟩
  obtain ⟨b, off, e2, h4, h5⟩ := h3 hn
  exact ⟨b, off, e2, h4, range_of h5 (s b h4)⟩
theorem RdH.below {w w' : World} {hi B : Nat} {v : Value} {ds : List Hd} (r : RdH w hi v ds) (hb : Below B w w') (hB : hi ≤ B) : RdH w' hi v ds := r.keep fun k hk => hb.block k (by omega)
theorem RdH.drew {w : World} {hi : Nat} {v : Value} {ds : List Hd} (r : RdH w hi v ds) : RdH w.drew hi v ds := r.keep fun k hk => rfl
theorem RdH.drewN {w : World} {hi : Nat} {v : Value} {ds : List Hd} (r : RdH w hi v ds) (n : Nat) : RdH (w.drewN n) hi v ds := r.keep fun k hk => rfl
theorem RdH.wide {w : World} {hi hi' : Nat} {v : Value} {ds : List Hd} (r : RdH w hi v ds) (hh : hi ≤ hi') : RdH w hi' v ds := by
  obtain ⟨a, cap, e, h1, h2, h3⟩ := r.fits
  refine ⟨a, cap, e, h1, h2, fun hn => ?_⟩
  obtain ⟨b, off, e2, h4, h5⟩ := h3 hn
  exact ⟨b, off, e2, by omega, h5⟩
theorem RdH.form {w : World} {hi : Nat} {v : Value} {ds : List Hd} (r : RdH w hi v ds) : ∃ a cap, v = .slice a ds.length cap := by
  obtain ⟨a, cap, e, -⟩ := r.fits
  exact ⟨a, cap, e⟩
theorem RdH.len {w : World} {hi : Nat} {v : Value} {ds : List Hd} (r : RdH w hi v ds) : ds.length ≤ 9223372036854775807 := by
  obtain ⟨a, cap, e, h1, h2, h3⟩ := r.fits
  unfold maxLen at h2; omega
/-- the eight cells of hand number i -/
theorem RdH.cell {w : World} {hi n cap : Nat} {a : Option Addr} {ds : List Hd} (r : RdH w hi (.slice a n cap) ds) (i : Nat) (hi' : i < ds.length) {k x y s l e o t : Int} (hd : ds[i] = ⟨k, x, y, s, l, e, o, t⟩) : ∃ b off, a = some ⟨b, off, none⟩ ∧ b < hi ∧
    w.cell? ⟨b, off + i * 8, none⟩ = some (.int .i64 k) ∧ w.cell? ⟨b, off + i * 8 + 1, none⟩ = some (.int .i64 x) ∧ w.cell? ⟨b, off + i * 8 + 2, none⟩ = some (.int .i64 y) ∧ w.cell? ⟨b, off + i * 8 + 3, none⟩ = some (.int .i64 s) ∧ w.cell? ⟨b, off + i * 8 + 4, none⟩ = some (.int .i64 l) ∧ w.cell? ⟨b, off + i * 8 + 5, none⟩ = some (.int .i64 e) ∧ w.cell? ⟨b, off + i * 8 + 6, none⟩ = some (.int .i64 o) ∧ w.cell? ⟨b, off + i * 8 + 7, none⟩ = some (.int .i64 t) := by
  obtain ⟨a', cap', e', h1, h2, h3⟩ := r.fits
  cases e'
  obtain ⟨b, off, rfl, h4, h5⟩ := h3 (by intro q; subst q; simp at hi')
  have g : ∀ j (hj : j < 8) v, (hv ds[i])[j]? = some v → w.cell? ⟨b, off + i * 8 + j, none⟩ = some v := fun j hj v hjv => by
    have := h5 (i * 8 + j) v (by rw [hvs_get ds i hi' j hj]; exact hjv)
    rw [← Nat.add_assoc] at this; exact this
  rw [hd] at g
  exact ⟨b, off, rfl, h4, g 0 (by omega) _ rfl, g 1 (by omega) _ rfl, g 2 (by omega) _ rfl, g 3 (by omega) _ rfl, g 4 (by omega) _ rfl, g 5 (by omega) _ rfl, g 6 (by omega) _ rfl, g 7 (by omega) _ rfl⟩
/-- hand number i as a range -/
theorem RdH.range {w : World} {hi n cap : Nat} {a : Option Addr} {ds : List Hd} (r : RdH w hi (.slice a n cap) ds) (i : Nat) (hi' : i < ds.length) : ∃ b off, a = some ⟨b, off, none⟩ ∧ b < hi ∧ w.rangeAt b (off + i * 8) (hv ds[i]) := by
  obtain ⟨a', cap', e', h1, h2, h3⟩ := r.fits
  cases e'
  obtain ⟨b, off, rfl, h4, h5⟩ := h3 (by intro q; subst q; simp at hi')
  refine ⟨b, off, rfl, h4, fun j v hj => ?_⟩
  have hj8 : j < 8 := by
    have := (List.getElem?_eq_some_iff.1 hj).1
    exact this
  have := h5 (i * 8 + j) v (by rw [hvs_get ds i hi' j hj8]; exact hj)
  rw [← Nat.add_assoc] at this; exact this
theorem OwnH.rd {w : World} {lo hi : Nat} {v : Value} {ds : List Hd} (o : OwnH w lo hi v ds) : RdH w hi v ds := by
  rcases o.row.2 with ⟨rfl, h0⟩ | ⟨g, cap, cur, rfl, hg, hb, hc1, hc2, hc3, htk⟩
  · have e := List.eq_nil_of_length_eq_zero h0
    subst e
    exact ⟨none, 0, rfl, Nat.le_refl _, Nat.zero_le _, fun h => absurd rfl h⟩
  · refine ⟨some ⟨g, 0, none⟩, cap, rfl, hc1, hc2, fun _ => ⟨g, 0, rfl, o.top g rfl, fun j u hj => ?_⟩⟩
    rw [cell_of_row _ _ _ _ _ _ hb]
    rw [← htk, List.getElem?_take] at hj
    split at hj
    · simpa using hj
    · cases hj
end Go.Proofs.Ythjkhghlhjndmaa.ce
/- Contracts of the laws' helpers on rows of hands: sizes, copies, comparisons, marks. -/
namespace Go.Proofs.Ythjkhghlhjndmaa.ce
open Go.ChangeShapes Go.WideShapes Go.ChangeAt Go.RowKit
set_option linter.unusedVariables false

theorem szHands (a : Option Addr) (n c : Nat) (hn : n ≤ 9223372036854775807) (l : Int) (h0 : 0 ≤ l) (hl : l ≤ 1048576) (w : World) :
    Calls Try.prog 16 #[.slice a n c, .int .i64 l] w fun e w' => ∃ r : Int, e = .returned (.int .i64 r) ∧ w' = w ∧ (0 ≤ r → n ≤ 1048576) := by
  by_cases h : (n : Int) ≤ l
  · have e : Hid (wrap64 (l - (n : Int)) = l - n) := IntWalk.wrap64_in _ ⟨by omega, by omega⟩
    have e1 : ¬ (l - (n : Int) < 0) := by omega
    go_enter Try.func16, Try.ntmps16
    go_wp2
    go_ret
    exact ⟨_, rfl, rfl, fun _ => by omega⟩
  · have e : Hid (wrap64 (l - (n : Int)) = l - n) := IntWalk.wrap64_in _ ⟨by omega, by omega⟩
    have e1 : (l - (n : Int) < 0) := by omega
    go_enter Try.func16, Try.ntmps16
    go_wp2
    go_ret
    exact ⟨-1, rfl, rfl, fun _ => by omega⟩
/-- how many cells there are, told so that one can go on counting -/
theorem szCells2 (a : Option Addr) (n c : Nat) (hn : n ≤ 9223372036854775807) (w : World) :
    Calls Try.prog 44 #[.slice a n c, .int .i64 1048576] w fun e w' => ∃ r : Int, e = .returned (.int .i64 r) ∧ w' = w ∧ r ≤ 1048576 ∧ (0 ≤ r → n ≤ 1048576) := by
  by_cases h : (n : Int) ≤ 1048576
  · have e : Hid (wrap64 (1048576 - (n : Int)) = 1048576 - n) := IntWalk.wrap64_in _ ⟨by omega, by omega⟩
    go_enter Try.func44, Try.ntmps44
    go_wp2
    go_ret
    exact ⟨_, rfl, rfl, by omega, fun _ => by omega⟩
  · go_enter Try.func44, Try.ntmps44
    go_wp2
    go_ret
    exact ⟨-1, rfl, rfl, by omega, fun _ => by omega⟩

/-- a row of so many hands, whatever they hold -/
structure RawH (w : World) (lo : Nat) (v : Value) (n : Nat) : Prop where
  own : ∃ X, w.ownsRow lo 58 8 v n X
theorem wpList_make_h {o : Oper} {a : Act} {w : World} {ops : Array Oper} {rest : List Oper} {Q : Exit → Act → World → Prop} (hgd : o.guard = none) (l c : Operand) (t : TypeId) (ho : o.op = .makeSlice t l c) (ht : Try.prog.underlying t = some (.slice 58)) (n : Nat) (hn : n ≤ 1048576) (hl : a.eval l = .int .i64 n) (hc : a.eval c = .int .i64 n)
    (h : ∀ b w', w.heap.size ≤ b → b < w'.heap.size → Below w.heap.size w w' → RawH w' w.heap.size (.slice (some ⟨b, 0, none⟩) n n) n → wpList Try.prog ops Q rest (a.put o.dst (.slice (some ⟨b, 0, none⟩) n n)) w') : wpList Try.prog ops Q (o :: rest) a w := by
  obtain ⟨i0, hi0, hz0, hz1, hz2⟩ := infoH
  refine wpList_make_full _ hgd l c t ho w.heap.size 58 i0 _ 8 ht hi0 hz0 hz1 .i64 .i64 n n n hl hc rfl rfl (by rw [hz2]; omega) (by unfold maxLen; omega) (Nat.le_refl _) ?_
  intro w1 h1 h2
  have hb : Below w.heap.size w w1 := below_grown h2 (Nat.le_refl _) (fun k hk => by cases hk)
  exact h _ w1 (Nat.le_refl _) (h1.lt _ rfl).2 hb ⟨_, h1⟩
/-- a row of hands that is filled from its head on -/
structure PartH (w : World) (lo g n cap : Nat) (G : List Hd) : Prop where
  own : ∃ X, w.ownsRow lo 58 8 (.slice (some ⟨g, 0, none⟩) n cap) n X ∧ X.take (G.length * 8) = hvs G
theorem RawH.part {w : World} {lo g n cap : Nat} (r : RawH w lo (.slice (some ⟨g, 0, none⟩) n cap) n) : PartH w lo g n cap [] := by
  obtain ⟨X, hX⟩ := r.own
  exact ⟨X, hX, by simp [hvs]⟩
theorem PartH.keep {w w' : World} {lo g n cap : Nat} {G : List Hd} (p : PartH w lo g n cap G) (e : w'.heap[g]? = w.heap[g]?) : PartH w' lo g n cap G := by
  obtain ⟨X, hX, ht⟩ := p.own
  refine ⟨X, ⟨hX.1, ?_⟩, ht⟩
  rcases hX.2 with h | ⟨g', cap', cur, e', hg, hb, h⟩
  · exact .inl h
  · cases e'
    exact .inr ⟨g, cap, cur, rfl, hg, by rw [e]; exact hb, h⟩
theorem PartH.full {w : World} {lo g n cap : Nat} {G : List Hd} (p : PartH w lo g n cap G) (hn : G.length = n) : OwnH w lo (g + 1) (.slice (some ⟨g, 0, none⟩) n cap) G := by
  subst hn
  obtain ⟨X, hX, ht⟩ := p.own
  rw [List.take_of_length_le (by rw [hX.1]; exact Nat.le_refl _)] at ht
  subst ht
  exact ⟨hX, fun k hk => by cases hk; exact Nat.lt_succ_self _⟩
theorem PartH.lt {w : World} {lo g n cap : Nat} {G : List Hd} (p : PartH w lo g n cap G) : lo ≤ g ∧ g < w.heap.size := by
  obtain ⟨X, hX, ht⟩ := p.own
  exact hX.lt g rfl
theorem wpList_store_parth {o : Oper} {a : Act} {w : World} {ops : Array Oper} {rest : List Oper} {Q : Exit → Act → World → Prop} (hgd : o.guard = none) (x y : Operand) (ho : o.op = .store 58 x y) (lo g n cap i : Nat) (G : List Hd) (c : Hd) (hx : a.eval x = .pointer (some ⟨g, i * 8, none⟩)) (hy : a.eval y = .agg (hv c).toArray)
    (hp : PartH w lo g n cap G) (hi : G.length = i) (hlt : i < n) (h : ∀ w', Only g w w' → PartH w' lo g n cap (G ++ [c]) → wpList Try.prog ops Q rest (a.put o.dst undef) w') : wpList Try.prog ops Q (o :: rest) a w := by
  subst hi
  obtain ⟨X, hX, ht⟩ := hp.own
  rcases hX.2 with ⟨h', _⟩ | ⟨g', cap', cur, h', hg, hb, hc1, hc2, hc3, htk⟩
  · simp at h'
  · cases h'
    refine wpList_store_mid hgd 58 x y ho g (G.length * 8) (hv c).toArray hx hy (fun j hj => ⟨?_, frozen_of_row _ _ _ _ _ hb⟩) sizeH (all_oneCell_toArray (hv_one c)) (h _ (only_setCells _ _ _ _) ⟨(cur.toList.take (G.length * 8) ++ hv c ++ cur.toList.drop (G.length * 8 + 8)).take (n * 8), ⟨?_, .inr ⟨g, cap, _, rfl, hg, heap_setCells g 58 (hv c) (G.length * 8) w cur.toList (by simpa using hb) ?_, hc1, hc2, ?_, rfl⟩⟩, ?_⟩)
    · rw [cell_of_row _ _ _ _ _ _ hb]
      have hj' : j < 8 := hj
      simp; omega
    · have h4 : (hv c).length = 8 := rfl
      simp only [List.length_take, List.length_append, List.length_drop, Array.length_toList, h4]; omega
    · have h4 : (hv c).length = 8 := rfl
      have hcs : cur.toList.length = cur.size := Array.length_toList
      rw [h4]; omega
    · have h4 : (hv c).length = 8 := rfl
      simp only [List.size_toArray, List.length_take, List.length_append, List.length_drop, Array.length_toList, h4]; omega
    · have h4 : (hv c).length = 8 := rfl
      rw [hvs_append, ← ht, ← htk, List.take_take, List.take_take, List.length_append, List.length_singleton, show min ((G.length + 1) * 8) (n * 8) = G.length * 8 + 8 by omega, show min (G.length * 8) (n * 8) = G.length * 8 by omega, List.append_assoc, List.take_append, List.take_append]
      have hl : (cur.toList.take (G.length * 8)).length = G.length * 8 := by simp; omega
      rw [hl, h4, show G.length * 8 + 8 - G.length * 8 = 8 by omega, List.take_of_length_le (l := cur.toList.take (G.length * 8)) (by omega), List.take_of_length_le (l := hv c) (by omega)]
      simp [hvs]

theorem toHands_any (ds : List Hd) (v : Value) (hi : Nat) (w : World) (hh : hi ≤ w.heap.size) (r : RdH w hi v ds) (h2 : ds.length ≤ 1048576) :
    Calls Try.prog 18 #[v] w fun e w' => ∃ v', e = .returned v' ∧ OwnH w' w.heap.size w'.heap.size v' ds ∧ Below w.heap.size w w' := by
  obtain ⟨a, cap, rfl, hlc, hcm, hA0⟩ := r.fits
  have R : Hid (RdH w hi (.slice a ds.length cap) ds) := r
  clear r hA0
  go_enter Try.func18, Try.ntmps18
  go_wp2_with (first | (refine wpList_make_h rfl _ _ 29 rfl Try.underlying29 ds.length h2 rfl rfl ?_; intro g w1 hg1 hg2 hB1 hR1) | (fail))
  go_loopw [4] (fun v wr => ∃ i : Nat, i ≤ ds.length ∧ v = .int .i64 i ∧ PartH wr w.heap.size g ds.length ds.length (ds.take i) ∧ Below w.heap.size w wr) (fun v _ => ds.length - (intOf v).toNat)
  case atStart => exact ⟨0, by omega, rfl, hR1.part, hB1⟩
  case round =>
    obtain ⟨i, hi1, rfl, hp, hBr⟩ := hrel
    by_cases hlt : i < ds.length
    · obtain ⟨c, hc⟩ := hid_ex (ds[i])
      obtain ⟨b, off, rfl, hb, rg0⟩ := (R.out.below hBr hh).range i hlt
      have rg : Hid (wr.rangeAt b (off + i * 8) (hv c)) := by
        rw [hc.out] at rg0
        exact rg0
      clear rg0
      have hlt' : (i : Int) < ds.length := by omega
      have hbr := hBr.size
      have hil : Hid ((ds.take i).length = i) := by unfold Hid; simp; omega
      have hpl := hp.lt
      go_wp2_with (first | (refine wpList_load_r rfl 75 _ rfl b (off + i * 8) (hv c) rfl _ Try.underlying75 rfl sizeLH rg.out ?_) | (go_at_call 53; refine (toHand_any c _).mono ?_; rintro e w3 ⟨rfl, hB3⟩; have hp3 := hp.keep (hB3.block g hpl.2)) | (refine wpList_store_parth rfl _ _ rfl w.heap.size g ds.length ds.length i (ds.take i) c rfl rfl hp3 hil.out hlt ?_; intro w4 hO4 hp4) | (fail))
      go_roundw
      case rel =>
        refine ⟨i + 1, by omega, by go_num, ?_, (hBr.trans (hB3.mono hbr)).trans (hO4.2.2 _ (by omega))⟩
        rw [List.take_succ_eq_append_getElem hlt, hc.out]
        exact hp4
      case measure => simp [intOf]; omega
    · have ei : i = ds.length := by omega
      have hp' : PartH wr w.heap.size g ds.length ds.length ds := by
        have := hp
        rw [ei, List.take_length] at this
        exact this
      clear hp
      go_wp2
      go_ret
      exact ⟨_, rfl, (hp'.full rfl).wide (Nat.le_refl _) hp'.lt.2, hBr⟩

set_option maxHeartbeats 2000000 in
theorem eqHands_any (ds : List Hd) (v v' : Value) (hi hi' : Nat) (w : World) (hh : hi ≤ w.heap.size) (hh' : hi' ≤ w.heap.size) (r : RdH w hi v ds) (r' : RdH w hi' v' ds) :
    Calls Try.prog 20 #[v, v'] w fun e w' => e = .returned (.bool true) ∧ Below w.heap.size w w' := by
  have hl := r.len
  obtain ⟨a, cap, rfl⟩ := r.form
  obtain ⟨a', cap', rfl⟩ := r'.form
  have R : Hid (RdH w hi (.slice a ds.length cap) ds) := r
  have R' : Hid (RdH w hi' (.slice a' ds.length cap') ds) := r'
  clear r r'
  go_enter Try.func20, Try.ntmps20
  go_wp2
  go_loopw [5] (fun v' wr => ∃ i : Nat, i ≤ ds.length ∧ v' = .int .i64 i ∧ Below w.heap.size w wr) (fun v' _ => ds.length - (intOf v').toNat)
  case atStart => exact ⟨0, by omega, rfl, Below.refl _ _⟩
  case round =>
    obtain ⟨i, hi1, rfl, hBr⟩ := hrel
    by_cases hlt : i < ds.length
    · obtain ⟨c, hc⟩ := hid_ex (ds[i])
      obtain ⟨k, x, y, s, l, e, o, t⟩ := c
      obtain ⟨b, off, rfl, hb, d0, d1, d2, d3, d4, d5, d6, d7⟩ := (R.out.below hBr hh).cell i hlt hc.out
      obtain ⟨b', off', rfl, hb', e0, e1, e2, e3, e4, e5, e6, e7⟩ := (R'.out.below hBr hh').cell i hlt hc.out
      have hlt' : (i : Int) < ds.length := by omega
      have hbr := hBr.size
      have S0 : wr.cell? ⟨b, off + i * 8, none⟩ = some (.int .i64 k) ∧ wr.cell? ⟨b, off + i * 8 + 1, none⟩ = some (.int .i64 x) ∧ wr.cell? ⟨b, off + i * 8 + 2, none⟩ = some (.int .i64 y) ∧ wr.cell? ⟨b, off + i * 8 + 3, none⟩ = some (.int .i64 s) ∧ wr.cell? ⟨b, off + i * 8 + 4, none⟩ = some (.int .i64 l) ∧ wr.cell? ⟨b, off + i * 8 + 5, none⟩ = some (.int .i64 e) ∧ wr.cell? ⟨b, off + i * 8 + 6, none⟩ = some (.int .i64 o) ∧ wr.cell? ⟨b, off + i * 8 + 7, none⟩ = some (.int .i64 t) ∧
        wr.cell? ⟨b', off' + i * 8, none⟩ = some (.int .i64 k) ∧ wr.cell? ⟨b', off' + i * 8 + 1, none⟩ = some (.int .i64 x) ∧ wr.cell? ⟨b', off' + i * 8 + 2, none⟩ = some (.int .i64 y) ∧ wr.cell? ⟨b', off' + i * 8 + 3, none⟩ = some (.int .i64 s) ∧ wr.cell? ⟨b', off' + i * 8 + 4, none⟩ = some (.int .i64 l) ∧ wr.cell? ⟨b', off' + i * 8 + 5, none⟩ = some (.int .i64 e) ∧ wr.cell? ⟨b', off' + i * 8 + 6, none⟩ = some (.int .i64 o) ∧ wr.cell? ⟨b', off' + i * 8 + 7, none⟩ = some (.int .i64 t) := ⟨d0, d1, d2, d3, d4, d5, d6, d7, e0, e1, e2, e3, e4, e5, e6, e7⟩
      go_wp2
      go_region_held3 (fun w' => w'.cell? ⟨b, off + i * 8, none⟩ = some (.int .i64 k) ∧ w'.cell? ⟨b, off + i * 8 + 1, none⟩ = some (.int .i64 x) ∧ w'.cell? ⟨b, off + i * 8 + 2, none⟩ = some (.int .i64 y) ∧ w'.cell? ⟨b, off + i * 8 + 3, none⟩ = some (.int .i64 s) ∧ w'.cell? ⟨b, off + i * 8 + 4, none⟩ = some (.int .i64 l) ∧ w'.cell? ⟨b, off + i * 8 + 5, none⟩ = some (.int .i64 e) ∧ w'.cell? ⟨b, off + i * 8 + 6, none⟩ = some (.int .i64 o) ∧ w'.cell? ⟨b, off + i * 8 + 7, none⟩ = some (.int .i64 t) ∧
        w'.cell? ⟨b', off' + i * 8, none⟩ = some (.int .i64 k) ∧ w'.cell? ⟨b', off' + i * 8 + 1, none⟩ = some (.int .i64 x) ∧ w'.cell? ⟨b', off' + i * 8 + 2, none⟩ = some (.int .i64 y) ∧ w'.cell? ⟨b', off' + i * 8 + 3, none⟩ = some (.int .i64 s) ∧ w'.cell? ⟨b', off' + i * 8 + 4, none⟩ = some (.int .i64 l) ∧ w'.cell? ⟨b', off' + i * 8 + 5, none⟩ = some (.int .i64 e) ∧ w'.cell? ⟨b', off' + i * 8 + 6, none⟩ = some (.int .i64 o) ∧ w'.cell? ⟨b', off' + i * 8 + 7, none⟩ = some (.int .i64 t)) (first | assumption | exact S0) (first | (go_at_call 57; refine (eqHand_any ⟨k, x, y, s, l, e, o, t⟩ _).mono ?_; rintro er w5 ⟨rfl, hB5⟩; have q1 : ∀ o u, wr.cell? ⟨b, o, none⟩ = some u → w5.cell? ⟨b, o, none⟩ = some u := (fun o u h => by rw [hB5.cell (by show b < wr.heap.size; omega)]; exact h); have q2 : ∀ o u, wr.cell? ⟨b', o, none⟩ = some u → w5.cell? ⟨b', o, none⟩ = some u := (fun o u h => by rw [hB5.cell (by show b' < wr.heap.size; omega)]; exact h); have S5 := And.intro (q1 _ _ d0) (And.intro (q1 _ _ d1) (And.intro (q1 _ _ d2) (And.intro (q1 _ _ d3) (And.intro (q1 _ _ d4) (And.intro (q1 _ _ d5) (And.intro (q1 _ _ d6) (And.intro (q1 _ _ d7) (And.intro (q2 _ _ e0) (And.intro (q2 _ _ e1) (And.intro (q2 _ _ e2) (And.intro (q2 _ _ e3) (And.intro (q2 _ _ e4) (And.intro (q2 _ _ e5) (And.intro (q2 _ _ e6) (q2 _ _ e7))))))))))))))); clear q1 q2) | (fail))
      go_wp2
      go_roundw
      case rel => exact ⟨i + 1, by omega, by go_num, hBr.drew.trans (hB5.mono hbr)⟩
      case measure => simp [intOf]; omega
    · go_wp2
      go_ret
      exact ⟨rfl, hBr⟩

def hmark (k : Int) : Hd := ⟨k, k + 1, k + 1 + 1, k + 1 + 1 + 1, k + 1 + 1 + 1 + 1, k + 1 + 1 + 1 + 1 + 1, k + 1 + 1 + 1 + 1 + 1 + 1, k + 1 + 1 + 1 + 1 + 1 + 1 + 1⟩
def hmarks (k : Int) (n : Nat) : List Hd := (List.range n).map fun j : Nat => hmark (k + 8 * (j : Int))
theorem hmarks_len (k : Int) (n : Nat) : (hmarks k n).length = n := by simp [hmarks]
theorem hmarks_succ (k : Int) (n : Nat) : hmarks k (n + 1) = hmarks k n ++ [hmark (k + 8 * (n : Int))] := by simp [hmarks, List.range_succ]
theorem hmarks_get (k : Int) (n i : Nat) (h : i < (hmarks k n).length) : (hmarks k n)[i] = hmark (k + 8 * (i : Int)) := by simp [hmarks]
theorem OwnH.len' {w : World} {lo hi n cap : Nat} {a : Option Addr} {X : List Hd} (o : OwnH w lo hi (.slice a n cap) X) : n = X.length := by
  rcases o.row.2 with ⟨e, h0⟩ | ⟨g, cap', cur, e, -⟩
  · cases e; omega
  · cases e; rfl
theorem OwnH.frozen' {w : World} {lo hi g n cap : Nat} {X : List Hd} (o : OwnH w lo hi (.slice (some ⟨g, 0, none⟩) n cap) X) (j : Nat) : w.frozen? ⟨g, j, none⟩ = false := by
  have e := o.len'
  subst e
  exact o.row.frozenAt j
theorem hvs_set1 (ds : List Hd) (i : Nat) (hi : i < ds.length) (j : Nat) (hj : j < 8) (u : Value) (d : Hd) (hd : hv d = (hv ds[i]).set j u) : (hvs ds).set (i * 8 + j) u = hvs (ds.set i d) := by
  rw [hvs_set ds i hi d, hd]
  conv => lhs; rw [hvs_split ds i hi]
  have hl : (hvs (ds.take i)).length = i * 8 := by rw [hvs_len, List.length_take]; omega
  rw [List.set_append_left _ _ (by rw [List.length_append, hl, hv_len]; omega), List.set_append_right _ _ (by rw [hl]; omega), hl, show i * 8 + j - i * 8 = j by omega]
theorem OwnH.set1 {w : World} {lo hi g n cap : Nat} {X : List Hd} (o : OwnH w lo hi (.slice (some ⟨g, 0, none⟩) n cap) X) (i : Nat) (hi' : i < X.length) (j : Nat) (hj : j < 8) (u : Value) (d : Hd) (hd : hv d = (hv X[i]).set j u) :
    OwnH (w.setCell ⟨g, i * 8 + j, none⟩ u) lo hi (.slice (some ⟨g, 0, none⟩) n cap) (X.set i d) := by
  have e := o.len'
  subst e
  have := (o.row.stored (i * 8 + j) u).1
  rw [hvs_set1 X i hi' j hj u d hd] at this
  exact ⟨by rw [List.length_set]; exact this, o.top⟩
theorem OwnH.again {w : World} {lo hi g n cap : Nat} {X : List Hd} {i : Nat} {d0 : Hd} (o : OwnH w lo hi (.slice (some ⟨g, 0, none⟩) n cap) (X.set i d0)) (hi' : i < X.length) (j : Nat) (hj : j < 8) (u : Value) (d : Hd) (hd : hv d = (hv d0).set j u) :
    OwnH (w.setCell ⟨g, i * 8 + j, none⟩ u) lo hi (.slice (some ⟨g, 0, none⟩) n cap) (X.set i d) := by
  have := o.set1 i (by simpa using hi') j hj u d (by simpa using hd)
  rwa [List.set_set] at this
theorem OwnH.mark8 {w : World} {lo hi g n cap : Nat} {X : List Hd} (o : OwnH w lo hi (.slice (some ⟨g, 0, none⟩) n cap) X) (i : Nat) (hi' : i < X.length) (c : Hd) :
    OwnH ((((((((w.setCell ⟨g, i * 8, none⟩ (.int .i64 c.kind)).setCell ⟨g, i * 8 + 1, none⟩ (.int .i64 c.key)).setCell ⟨g, i * 8 + 2, none⟩ (.int .i64 c.value)).setCell ⟨g, i * 8 + 3, none⟩ (.int .i64 c.step)).setCell ⟨g, i * 8 + 4, none⟩ (.int .i64 c.left)).setCell ⟨g, i * 8 + 5, none⟩ (.int .i64 c.here)).setCell ⟨g, i * 8 + 6, none⟩ (.int .i64 c.own)).setCell ⟨g, i * 8 + 7, none⟩ (.int .i64 c.told)) lo hi (.slice (some ⟨g, 0, none⟩) n cap) (X.set i c) := by
  have e0 := o.set1 i hi' 0 (by omega) (.int .i64 c.kind) { X[i] with kind := c.kind } rfl
  have e1 := e0.again hi' 1 (by omega) (.int .i64 c.key) { X[i] with kind := c.kind, key := c.key } rfl
  have e2 := e1.again hi' 2 (by omega) (.int .i64 c.value) { X[i] with kind := c.kind, key := c.key, value := c.value } rfl
  have e3 := e2.again hi' 3 (by omega) (.int .i64 c.step) { X[i] with kind := c.kind, key := c.key, value := c.value, step := c.step } rfl
  have e4 := e3.again hi' 4 (by omega) (.int .i64 c.left) { X[i] with kind := c.kind, key := c.key, value := c.value, step := c.step, left := c.left } rfl
  have e5 := e4.again hi' 5 (by omega) (.int .i64 c.here) { X[i] with kind := c.kind, key := c.key, value := c.value, step := c.step, left := c.left, here := c.here } rfl
  have e6 := e5.again hi' 6 (by omega) (.int .i64 c.own) { X[i] with kind := c.kind, key := c.key, value := c.value, step := c.step, left := c.left, here := c.here, own := c.own } rfl
  exact e6.again hi' 7 (by omega) (.int .i64 c.told) c rfl

set_option maxRecDepth 100000 in
set_option maxHeartbeats 2000000 in
theorem markHands_any (ds : List Hd) (v : Value) (lo hi : Nat) (w : World) (own : OwnH w lo hi v ds) (h2 : ds.length ≤ 1048576) (k0 : Int) (hk0 : 0 ≤ k0) (hk1 : k0 ≤ 8388608) :
    Calls Try.prog 21 #[v, .int .i64 k0] w fun e w' => e = .returned (.int .i64 (k0 + 8 * (ds.length : Int))) ∧ OwnH w' lo hi v (hmarks k0 ds.length) ∧ Within lo hi w w' := by
  obtain ⟨a, cap, rfl⟩ := own.rd.form
  have hA : Hid (1 ≤ ds.length → ∃ g, a = some ⟨g, 0, none⟩ ∧ lo ≤ g ∧ g < hi) := fun h => by
    obtain ⟨g, cap', sp, e, h1, h2, -⟩ := own.form h
    cases e
    exact ⟨g, rfl, h1, h2⟩
  have O : Hid (OwnH w lo hi (.slice a ds.length cap) ds) := own
  clear own
  go_enter Try.func21, Try.ntmps21
  go_wp2
  go_loopw [1, 5] (fun q v' wr => ∃ i : Nat, i ≤ ds.length ∧ v' = .int .i64 i ∧ q = .int .i64 (k0 + 8 * (i : Int)) ∧ Hid (OwnH wr lo hi (.slice a ds.length cap) (hmarks k0 i ++ ds.drop i)) ∧ Within lo hi w wr) (fun _ v' _ => ds.length - (intOf v').toNat)
  case atStart => exact ⟨0, by omega, rfl, by simp, by simpa [hmarks] using O, Within.refl _ _ _⟩
  case round =>
    obtain ⟨i, hi1, rfl, rfl, ho, hW⟩ := hrel
    by_cases hlt : i < ds.length
    · obtain ⟨g, rfl, hg1, hg2⟩ := hA.out (by omega)
      have hil : Hid (i < (hmarks k0 i ++ ds.drop i).length) := by unfold Hid; simp [hmarks_len]; omega
      obtain ⟨dd, hdd⟩ := hid_ex ((hmarks k0 i ++ ds.drop i)[i]'hil.out)
      obtain ⟨q0, q1, q2, q3, q4, q5, q6, q7⟩ := dd
      obtain ⟨b', off', eb, -, d0, d1, d2, d3, d4, d5, d6, d7⟩ := ho.out.rd.cell i hil.out hdd.out
      cases eb
      simp only [Nat.zero_add] at d0 d1 d2 d3 d4 d5 d6 d7
      have f0 := ho.out.frozen' (i * 8)
      have f1 := ho.out.frozen' (i * 8 + 1)
      have f2 := ho.out.frozen' (i * 8 + 2)
      have f3 := ho.out.frozen' (i * 8 + 3)
      have f4 := ho.out.frozen' (i * 8 + 4)
      have f5 := ho.out.frozen' (i * 8 + 5)
      have f6 := ho.out.frozen' (i * 8 + 6)
      have f7 := ho.out.frozen' (i * 8 + 7)
      have hlt' : (i : Int) < ds.length := by omega
      go_wp2
      go_roundw
      case rel =>
        have h1 := ho.out.mark8 i hil.out (hmark (k0 + 8 * (i : Int)))
        have e : (hmarks k0 i ++ ds.drop i).set i (hmark (k0 + 8 * (i : Int))) = hmarks k0 (i + 1) ++ ds.drop (i + 1) := by
          rw [List.set_append_right _ _ (by rw [hmarks_len]; omega), hmarks_len, Nat.sub_self, List.drop_eq_getElem_cons hlt, List.set_cons_zero, hmarks_succ]
          simp
        rw [e] at h1
        exact ⟨i + 1, by omega, by go_num, by go_num, h1, (((((((hW.setCell hg1 hg2 _).setCell hg1 hg2 _).setCell hg1 hg2 _).setCell hg1 hg2 _).setCell hg1 hg2 _).setCell hg1 hg2 _).setCell hg1 hg2 _).setCell hg1 hg2 _⟩
      case measure => simp [intOf]; omega
    · have ei : i = ds.length := by omega
      have ho' : OwnH wr lo hi (.slice a ds.length cap) (hmarks k0 ds.length) := by
        have := ho.out
        rw [ei, List.drop_length, List.append_nil] at this
        exact this
      clear ho
      go_wp2
      go_ret
      exact ⟨by first | rfl | (rw [ei]; rfl), ho', hW⟩

set_option maxRecDepth 100000 in
set_option maxHeartbeats 2000000 in
theorem heldHands_any (n : Nat) (v : Value) (hi : Nat) (w : World) (k0 : Int) (hk0 : 0 ≤ k0) (hk1 : k0 ≤ 8388608) (r : RdH w hi v (hmarks k0 n)) (h2 : n ≤ 1048576) :
    Calls Try.prog 60 #[v, .int .i64 k0] w fun e w' => e = .returned (.int .i64 (k0 + 8 * (n : Int))) ∧ w' = w := by
  obtain ⟨a, cap, rfl⟩ := r.form
  rw [hmarks_len] at r ⊢
  have R : Hid (RdH w hi (.slice a n cap) (hmarks k0 n)) := r
  clear r
  go_enter Try.func60, Try.ntmps60
  go_wp2
  go_loop [1, 5] (fun q v' => ∃ i : Nat, i ≤ n ∧ v' = .int .i64 i ∧ q = .int .i64 (k0 + 8 * (i : Int))) (fun _ v' => n - (intOf v').toNat)
  case atStart => exact ⟨0, by omega, rfl, by simp⟩
  case round =>
    obtain ⟨i, hi', rfl, rfl⟩ := hrel
    by_cases hlt : i < n
    · have hil : i < (hmarks k0 n).length := by rw [hmarks_len]; exact hlt
      obtain ⟨b, off, rfl, -, d0, d1, d2, d3, d4, d5, d6, d7⟩ := R.out.cell i hil (hmarks_get k0 n i hil)
      clear hil
      have hlt' : (i : Int) < n := by omega
      go_wp2
      go_round
      case rel => exact ⟨i + 1, by omega, by go_num, by go_num⟩
      case measure => simp [intOf]; omega
    · have e : i = n := by omega
      go_wp2
      go_ret
      exact ⟨by first | rfl | (rw [e]; rfl), rfl⟩
end Go.Proofs.Ythjkhghlhjndmaa.ce
/- Contracts: the program's small methods on a hand. -/
namespace Go.Proofs.Ythjkhghlhjndmaa.ce
open Go.ChangeShapes Go.WideShapes Go.ChangeAt Go.RowKit
set_option linter.unusedVariables false

theorem ibeq (a b : Int) : (a == b) = decide (a = b) := by
  by_cases h : a = b
  · simp [h]
  · simp [h]

theorem asksRight_any (d : Hd) (w : World) :
    Calls Try.prog 80 #[.agg (hv d).toArray] w fun e w' => e = .returned (.bool (decide ((1 ≤ d.kind ∧ d.kind ≤ 3) ∧ 1 ≤ d.key ∧ d.key ≤ 65535))) ∧ Below w.heap.size w w' := by
  obtain ⟨k, x, y, s, l, e, o, t⟩ := d
  obtain ⟨z, hz⟩ := hid_ex (decide ((1 ≤ k ∧ k ≤ 3) ∧ 1 ≤ x ∧ x ≤ 65535))
  show Calls Try.prog 80 _ w fun e w' => e = .returned (.bool (decide ((1 ≤ k ∧ k ≤ 3) ∧ 1 ≤ x ∧ x ≤ 65535))) ∧ Below w.heap.size w w'
  rw [hz.out]
  go_enter Try.func80, Try.ntmps80
  by_cases h1 : 1 ≤ k
  · have g0 : decide (1 ≤ k) = true := decide_eq_true h1
    by_cases h2 : k ≤ 3
    · have g1 : decide (k ≤ 3) = true := decide_eq_true h2
      by_cases h3 : 1 ≤ x
      · have g2 : decide (1 ≤ x) = true := decide_eq_true h3
        have ez : decide (x ≤ 65535) = z := by rw [← hz.out]; simp [h1, h2, h3]
        clear h1 h2 h3
        go_wp2_with (first | (refine wpList_box_v rfl 58 _ rfl (hv ⟨k, x, y, s, l, e, o, t⟩) rfl ?_; intro b1 w1 hb1 hw1 hB1 hV1; have hz1 := hB1.size; have hb : HB w1 b1 ⟨k, x, y, s, l, e, o, t⟩ := ⟨hV1⟩; obtain ⟨c0, c1, c2, c3, c4, c5, c6, c7⟩ := hb.cells) | (fail))
        go_ret
        exact ⟨by simp, hB1⟩
      · have g2 : decide (1 ≤ x) = false := decide_eq_false h3
        have ez : z = false := by rw [← hz.out]; simp [h3]
        clear h1 h2 h3
        subst ez
        go_wp2_with (first | (refine wpList_box_v rfl 58 _ rfl (hv ⟨k, x, y, s, l, e, o, t⟩) rfl ?_; intro b1 w1 hb1 hw1 hB1 hV1; have hz1 := hB1.size; have hb : HB w1 b1 ⟨k, x, y, s, l, e, o, t⟩ := ⟨hV1⟩; obtain ⟨c0, c1, c2, c3, c4, c5, c6, c7⟩ := hb.cells) | (fail))
        go_ret
        exact ⟨rfl, hB1⟩
    · have g1 : decide (k ≤ 3) = false := decide_eq_false h2
      have ez : z = false := by rw [← hz.out]; simp [h2]
      clear h1 h2
      subst ez
      go_wp2_with (first | (refine wpList_box_v rfl 58 _ rfl (hv ⟨k, x, y, s, l, e, o, t⟩) rfl ?_; intro b1 w1 hb1 hw1 hB1 hV1; have hz1 := hB1.size; have hb : HB w1 b1 ⟨k, x, y, s, l, e, o, t⟩ := ⟨hV1⟩; obtain ⟨c0, c1, c2, c3, c4, c5, c6, c7⟩ := hb.cells) | (fail))
      go_ret
      exact ⟨rfl, hB1⟩
  · have g0 : decide (1 ≤ k) = false := decide_eq_false h1
    have ez : z = false := by rw [← hz.out]; simp [h1]
    clear h1
    subst ez
    go_wp2_with (first | (refine wpList_box_v rfl 58 _ rfl (hv ⟨k, x, y, s, l, e, o, t⟩) rfl ?_; intro b1 w1 hb1 hw1 hB1 hV1; have hz1 := hB1.size; have hb : HB w1 b1 ⟨k, x, y, s, l, e, o, t⟩ := ⟨hV1⟩; obtain ⟨c0, c1, c2, c3, c4, c5, c6, c7⟩ := hb.cells) | (fail))
    go_ret
    exact ⟨rfl, hB1⟩

theorem standsNowhere_any (d : Hd) (w : World) :
    Calls Try.prog 96 #[.agg (hv d).toArray] w fun e w' => e = .returned (.bool (decide (d.step = 0 ∨ d.step = 5))) ∧ Below w.heap.size w w' := by
  obtain ⟨k, x, y, s, l, e, o, t⟩ := d
  obtain ⟨z, hz⟩ := hid_ex (decide (s = 0 ∨ s = 5))
  show Calls Try.prog 96 _ w fun e w' => e = .returned (.bool (decide (s = 0 ∨ s = 5))) ∧ Below w.heap.size w w'
  rw [hz.out]
  go_enter Try.func96, Try.ntmps96
  by_cases h1 : s = 0
  · have g1 : (s == 0) = true := by simpa using h1
    have ez : z = true := by rw [← hz.out]; simp [h1]
    clear h1
    subst ez
    go_wp2_with (first | (refine wpList_box_v rfl 58 _ rfl (hv ⟨k, x, y, s, l, e, o, t⟩) rfl ?_; intro b1 w1 hb1 hw1 hB1 hV1; have hz1 := hB1.size; have hb : HB w1 b1 ⟨k, x, y, s, l, e, o, t⟩ := ⟨hV1⟩; obtain ⟨c0, c1, c2, c3, c4, c5, c6, c7⟩ := hb.cells) | (fail))
    go_ret
    exact ⟨rfl, hB1⟩
  · have g1 : (s == 0) = false := by simpa using h1
    have ez : (s == 5) = z := by rw [← hz.out, ibeq]; simp [h1]
    clear h1
    go_wp2_with (first | (refine wpList_box_v rfl 58 _ rfl (hv ⟨k, x, y, s, l, e, o, t⟩) rfl ?_; intro b1 w1 hb1 hw1 hB1 hV1; have hz1 := hB1.size; have hb : HB w1 b1 ⟨k, x, y, s, l, e, o, t⟩ := ⟨hV1⟩; obtain ⟨c0, c1, c2, c3, c4, c5, c6, c7⟩ := hb.cells) | (fail))
    go_ret
    exact ⟨by simp, hB1⟩

def toldB (s t : Int) : Bool := if s = 5 then decide (t = 1 ∨ t = 2) else decide (t = 0)
def stepB (k s : Int) : Bool := if s = 0 ∨ s = 1 ∨ s = 2 ∨ s = 5 then true else if s = 3 then decide (k = 1) else if s = 4 then decide (k = 2) else false

theorem toldRight_any (d : Hd) (w : World) :
    Calls Try.prog 82 #[.agg (hv d).toArray] w fun e w' => e = .returned (.bool (toldB d.step d.told)) ∧ Below w.heap.size w w' := by
  obtain ⟨k, x, y, s, l, e, o, t⟩ := d
  obtain ⟨z, hz⟩ := hid_ex (toldB s t)
  show Calls Try.prog 82 _ w fun e w' => e = .returned (.bool (toldB s t)) ∧ Below w.heap.size w w'
  rw [hz.out]
  go_enter Try.func82, Try.ntmps82
  by_cases h1 : s = 5
  · have g1 : (s == 5) = true := by simpa using h1
    by_cases h2 : t = 1
    · have g2 : (t == 1) = true := by simpa using h2
      have ez : z = true := by rw [← hz.out]; simp [toldB, h1, h2]
      clear h1 h2
      subst ez
      go_wp2_with (first | (refine wpList_box_v rfl 58 _ rfl (hv ⟨k, x, y, s, l, e, o, t⟩) rfl ?_; intro b1 w1 hb1 hw1 hB1 hV1; have hz1 := hB1.size; have hb : HB w1 b1 ⟨k, x, y, s, l, e, o, t⟩ := ⟨hV1⟩; obtain ⟨c0, c1, c2, c3, c4, c5, c6, c7⟩ := hb.cells) | (fail))
      go_ret
      exact ⟨rfl, hB1⟩
    · have g2 : (t == 1) = false := by simpa using h2
      have ez : (t == 2) = z := by rw [← hz.out, ibeq]; simp [toldB, h1, h2]
      clear h1 h2
      go_wp2_with (first | (refine wpList_box_v rfl 58 _ rfl (hv ⟨k, x, y, s, l, e, o, t⟩) rfl ?_; intro b1 w1 hb1 hw1 hB1 hV1; have hz1 := hB1.size; have hb : HB w1 b1 ⟨k, x, y, s, l, e, o, t⟩ := ⟨hV1⟩; obtain ⟨c0, c1, c2, c3, c4, c5, c6, c7⟩ := hb.cells) | (fail))
      go_ret
      exact ⟨by simp, hB1⟩
  · have g1 : (s == 5) = false := by simpa using h1
    have ez : (t == 0) = z := by rw [← hz.out, ibeq]; simp [toldB, h1]
    clear h1
    go_wp2_with (first | (refine wpList_box_v rfl 58 _ rfl (hv ⟨k, x, y, s, l, e, o, t⟩) rfl ?_; intro b1 w1 hb1 hw1 hB1 hV1; have hz1 := hB1.size; have hb : HB w1 b1 ⟨k, x, y, s, l, e, o, t⟩ := ⟨hV1⟩; obtain ⟨c0, c1, c2, c3, c4, c5, c6, c7⟩ := hb.cells) | (fail))
    go_ret
    exact ⟨by simp, hB1⟩

theorem stepRight_any (d : Hd) (w : World) :
    Calls Try.prog 81 #[.agg (hv d).toArray] w fun e w' => e = .returned (.bool (stepB d.kind d.step)) ∧ Below w.heap.size w w' := by
  obtain ⟨k, x, y, s, l, e, o, t⟩ := d
  obtain ⟨z, hz⟩ := hid_ex (stepB k s)
  show Calls Try.prog 81 _ w fun e w' => e = .returned (.bool (stepB k s)) ∧ Below w.heap.size w w'
  rw [hz.out]
  go_enter Try.func81, Try.ntmps81
  by_cases h0 : s = 0
  · have g0 : (s == 0) = true := by simpa using h0
    have ez : z = true := by rw [← hz.out]; simp [stepB, h0]
    clear h0
    subst ez
    go_wp2_with (first | (refine wpList_box_v rfl 58 _ rfl (hv ⟨k, x, y, s, l, e, o, t⟩) rfl ?_; intro b1 w1 hb1 hw1 hB1 hV1; have hz1 := hB1.size; have hb : HB w1 b1 ⟨k, x, y, s, l, e, o, t⟩ := ⟨hV1⟩; obtain ⟨c0, c1, c2, c3, c4, c5, c6, c7⟩ := hb.cells) | (fail))
    go_ret
    exact ⟨rfl, hB1⟩
  · have g0 : (s == 0) = false := by simpa using h0
    by_cases h1 : s = 1
    · have g1 : (s == 1) = true := by simpa using h1
      have ez : z = true := by rw [← hz.out]; simp [stepB, h1]
      clear h0 h1
      subst ez
      go_wp2_with (first | (refine wpList_box_v rfl 58 _ rfl (hv ⟨k, x, y, s, l, e, o, t⟩) rfl ?_; intro b1 w1 hb1 hw1 hB1 hV1; have hz1 := hB1.size; have hb : HB w1 b1 ⟨k, x, y, s, l, e, o, t⟩ := ⟨hV1⟩; obtain ⟨c0, c1, c2, c3, c4, c5, c6, c7⟩ := hb.cells) | (fail))
      go_ret
      exact ⟨rfl, hB1⟩
    · have g1 : (s == 1) = false := by simpa using h1
      by_cases h2 : s = 2
      · have g2 : (s == 2) = true := by simpa using h2
        have ez : z = true := by rw [← hz.out]; simp [stepB, h2]
        clear h0 h1 h2
        subst ez
        go_wp2_with (first | (refine wpList_box_v rfl 58 _ rfl (hv ⟨k, x, y, s, l, e, o, t⟩) rfl ?_; intro b1 w1 hb1 hw1 hB1 hV1; have hz1 := hB1.size; have hb : HB w1 b1 ⟨k, x, y, s, l, e, o, t⟩ := ⟨hV1⟩; obtain ⟨c0, c1, c2, c3, c4, c5, c6, c7⟩ := hb.cells) | (fail))
        go_ret
        exact ⟨rfl, hB1⟩
      · have g2 : (s == 2) = false := by simpa using h2
        by_cases h5 : s = 5
        · have g5 : (s == 5) = true := by simpa using h5
          have ez : z = true := by rw [← hz.out]; simp [stepB, h5]
          clear h0 h1 h2 h5
          subst ez
          go_wp2_with (first | (refine wpList_box_v rfl 58 _ rfl (hv ⟨k, x, y, s, l, e, o, t⟩) rfl ?_; intro b1 w1 hb1 hw1 hB1 hV1; have hz1 := hB1.size; have hb : HB w1 b1 ⟨k, x, y, s, l, e, o, t⟩ := ⟨hV1⟩; obtain ⟨c0, c1, c2, c3, c4, c5, c6, c7⟩ := hb.cells) | (fail))
          go_ret
          exact ⟨rfl, hB1⟩
        · have g5 : (s == 5) = false := by simpa using h5
          by_cases h3 : s = 3
          · have g3 : (s == 3) = true := by simpa using h3
            have ez : (k == 1) = z := by rw [← hz.out, ibeq]; simp [stepB, h3]
            clear h0 h1 h2 h5 h3
            go_wp2_with (first | (refine wpList_box_v rfl 58 _ rfl (hv ⟨k, x, y, s, l, e, o, t⟩) rfl ?_; intro b1 w1 hb1 hw1 hB1 hV1; have hz1 := hB1.size; have hb : HB w1 b1 ⟨k, x, y, s, l, e, o, t⟩ := ⟨hV1⟩; obtain ⟨c0, c1, c2, c3, c4, c5, c6, c7⟩ := hb.cells) | (fail))
            go_ret
            exact ⟨by simp, hB1⟩
          · have g3 : (s == 3) = false := by simpa using h3
            by_cases h4 : s = 4
            · have g4 : (s == 4) = true := by simpa using h4
              have ez : (k == 2) = z := by rw [← hz.out, ibeq]; simp [stepB, h4]
              clear h0 h1 h2 h5 h3 h4
              go_wp2_with (first | (refine wpList_box_v rfl 58 _ rfl (hv ⟨k, x, y, s, l, e, o, t⟩) rfl ?_; intro b1 w1 hb1 hw1 hB1 hV1; have hz1 := hB1.size; have hb : HB w1 b1 ⟨k, x, y, s, l, e, o, t⟩ := ⟨hV1⟩; obtain ⟨c0, c1, c2, c3, c4, c5, c6, c7⟩ := hb.cells) | (fail))
              go_ret
              exact ⟨by simp, hB1⟩
            · have g4 : (s == 4) = false := by simpa using h4
              have ez : z = false := by rw [← hz.out]; simp [stepB, h0, h1, h2, h5, h3, h4]
              clear h0 h1 h2 h5 h3 h4
              subst ez
              go_wp2_with (first | (refine wpList_box_v rfl 58 _ rfl (hv ⟨k, x, y, s, l, e, o, t⟩) rfl ?_; intro b1 w1 hb1 hw1 hB1 hV1; have hz1 := hB1.size; have hb : HB w1 b1 ⟨k, x, y, s, l, e, o, t⟩ := ⟨hV1⟩; obtain ⟨c0, c1, c2, c3, c4, c5, c6, c7⟩ := hb.cells) | (fail))
              go_ret
              exact ⟨rfl, hB1⟩
end Go.Proofs.Ythjkhghlhjndmaa.ce
/- A hand's variable is filled anew. -/
namespace Go.Proofs.Ythjkhghlhjndmaa.ce
open Go.ChangeShapes Go.WideShapes Go.ChangeAt Go.RowKit
set_option linter.unusedVariables false

theorem fill8n {w : World} {b : Nat} {d0 : Hd} (h : HB w b d0) (k x y s l e o t : Int) :
    HB (World.setCell (World.setCell (World.setCell (World.setCell (World.setCell (World.setCell (World.setCell (World.setCell w ⟨b, 0, none⟩ (Value.int IntKind.i64 k)) ⟨b, 1, none⟩ (Value.int IntKind.i64 x)) ⟨b, 2, none⟩ (Value.int IntKind.i64 y)) ⟨b, 3, none⟩ (Value.int IntKind.i64 s)) ⟨b, 4, none⟩ (Value.int IntKind.i64 l)) ⟨b, 5, none⟩ (Value.int IntKind.i64 e)) ⟨b, 6, none⟩ (Value.int IntKind.i64 o)) ⟨b, 7, none⟩ (Value.int IntKind.i64 t)) b ⟨k, x, y, s, l, e, o, t⟩ ∧ Only b w (World.setCell (World.setCell (World.setCell (World.setCell (World.setCell (World.setCell (World.setCell (World.setCell w ⟨b, 0, none⟩ (Value.int IntKind.i64 k)) ⟨b, 1, none⟩ (Value.int IntKind.i64 x)) ⟨b, 2, none⟩ (Value.int IntKind.i64 y)) ⟨b, 3, none⟩ (Value.int IntKind.i64 s)) ⟨b, 4, none⟩ (Value.int IntKind.i64 l)) ⟨b, 5, none⟩ (Value.int IntKind.i64 e)) ⟨b, 6, none⟩ (Value.int IntKind.i64 o)) ⟨b, 7, none⟩ (Value.int IntKind.i64 t)) := by
  obtain ⟨k0, x0, y0, s0, l0, e0, o0, t0⟩ := d0
  have h0 : HB (World.setCell w ⟨b, 0, none⟩ (Value.int IntKind.i64 k)) b ⟨k, x0, y0, s0, l0, e0, o0, t0⟩ := h.set 0 k _ rfl
  have p0 : Only b w (World.setCell w ⟨b, 0, none⟩ (Value.int IntKind.i64 k)) := only_set w b 0 _
  have h1 : HB (World.setCell (World.setCell w ⟨b, 0, none⟩ (Value.int IntKind.i64 k)) ⟨b, 1, none⟩ (Value.int IntKind.i64 x)) b ⟨k, x, y0, s0, l0, e0, o0, t0⟩ := h0.set 1 x _ rfl
  have p1 : Only b w (World.setCell (World.setCell w ⟨b, 0, none⟩ (Value.int IntKind.i64 k)) ⟨b, 1, none⟩ (Value.int IntKind.i64 x)) := p0.trans (only_set _ b 1 _)
  have h2 : HB (World.setCell (World.setCell (World.setCell w ⟨b, 0, none⟩ (Value.int IntKind.i64 k)) ⟨b, 1, none⟩ (Value.int IntKind.i64 x)) ⟨b, 2, none⟩ (Value.int IntKind.i64 y)) b ⟨k, x, y, s0, l0, e0, o0, t0⟩ := h1.set 2 y _ rfl
  have p2 : Only b w (World.setCell (World.setCell (World.setCell w ⟨b, 0, none⟩ (Value.int IntKind.i64 k)) ⟨b, 1, none⟩ (Value.int IntKind.i64 x)) ⟨b, 2, none⟩ (Value.int IntKind.i64 y)) := p1.trans (only_set _ b 2 _)
  have h3 : HB (World.setCell (World.setCell (World.setCell (World.setCell w ⟨b, 0, none⟩ (Value.int IntKind.i64 k)) ⟨b, 1, none⟩ (Value.int IntKind.i64 x)) ⟨b, 2, none⟩ (Value.int IntKind.i64 y)) ⟨b, 3, none⟩ (Value.int IntKind.i64 s)) b ⟨k, x, y, s, l0, e0, o0, t0⟩ := h2.set 3 s _ rfl
  have p3 : Only b w (World.setCell (World.setCell (World.setCell (World.setCell w ⟨b, 0, none⟩ (Value.int IntKind.i64 k)) ⟨b, 1, none⟩ (Value.int IntKind.i64 x)) ⟨b, 2, none⟩ (Value.int IntKind.i64 y)) ⟨b, 3, none⟩ (Value.int IntKind.i64 s)) := p2.trans (only_set _ b 3 _)
  have h4 : HB (World.setCell (World.setCell (World.setCell (World.setCell (World.setCell w ⟨b, 0, none⟩ (Value.int IntKind.i64 k)) ⟨b, 1, none⟩ (Value.int IntKind.i64 x)) ⟨b, 2, none⟩ (Value.int IntKind.i64 y)) ⟨b, 3, none⟩ (Value.int IntKind.i64 s)) ⟨b, 4, none⟩ (Value.int IntKind.i64 l)) b ⟨k, x, y, s, l, e0, o0, t0⟩ := h3.set 4 l _ rfl
  have p4 : Only b w (World.setCell (World.setCell (World.setCell (World.setCell (World.setCell w ⟨b, 0, none⟩ (Value.int IntKind.i64 k)) ⟨b, 1, none⟩ (Value.int IntKind.i64 x)) ⟨b, 2, none⟩ (Value.int IntKind.i64 y)) ⟨b, 3, none⟩ (Value.int IntKind.i64 s)) ⟨b, 4, none⟩ (Value.int IntKind.i64 l)) := p3.trans (only_set _ b 4 _)
  have h5 : HB (World.setCell (World.setCell (World.setCell (World.setCell (World.setCell (World.setCell w ⟨b, 0, none⟩ (Value.int IntKind.i64 k)) ⟨b, 1, none⟩ (Value.int IntKind.i64 x)) ⟨b, 2, none⟩ (Value.int IntKind.i64 y)) ⟨b, 3, none⟩ (Value.int IntKind.i64 s)) ⟨b, 4, none⟩ (Value.int IntKind.i64 l)) ⟨b, 5, none⟩ (Value.int IntKind.i64 e)) b ⟨k, x, y, s, l, e, o0, t0⟩ := h4.set 5 e _ rfl
  have p5 : Only b w (World.setCell (World.setCell (World.setCell (World.setCell (World.setCell (World.setCell w ⟨b, 0, none⟩ (Value.int IntKind.i64 k)) ⟨b, 1, none⟩ (Value.int IntKind.i64 x)) ⟨b, 2, none⟩ (Value.int IntKind.i64 y)) ⟨b, 3, none⟩ (Value.int IntKind.i64 s)) ⟨b, 4, none⟩ (Value.int IntKind.i64 l)) ⟨b, 5, none⟩ (Value.int IntKind.i64 e)) := p4.trans (only_set _ b 5 _)
  have h6 : HB (World.setCell (World.setCell (World.setCell (World.setCell (World.setCell (World.setCell (World.setCell w ⟨b, 0, none⟩ (Value.int IntKind.i64 k)) ⟨b, 1, none⟩ (Value.int IntKind.i64 x)) ⟨b, 2, none⟩ (Value.int IntKind.i64 y)) ⟨b, 3, none⟩ (Value.int IntKind.i64 s)) ⟨b, 4, none⟩ (Value.int IntKind.i64 l)) ⟨b, 5, none⟩ (Value.int IntKind.i64 e)) ⟨b, 6, none⟩ (Value.int IntKind.i64 o)) b ⟨k, x, y, s, l, e, o, t0⟩ := h5.set 6 o _ rfl
  have p6 : Only b w (World.setCell (World.setCell (World.setCell (World.setCell (World.setCell (World.setCell (World.setCell w ⟨b, 0, none⟩ (Value.int IntKind.i64 k)) ⟨b, 1, none⟩ (Value.int IntKind.i64 x)) ⟨b, 2, none⟩ (Value.int IntKind.i64 y)) ⟨b, 3, none⟩ (Value.int IntKind.i64 s)) ⟨b, 4, none⟩ (Value.int IntKind.i64 l)) ⟨b, 5, none⟩ (Value.int IntKind.i64 e)) ⟨b, 6, none⟩ (Value.int IntKind.i64 o)) := p5.trans (only_set _ b 6 _)
  have h7 : HB (World.setCell (World.setCell (World.setCell (World.setCell (World.setCell (World.setCell (World.setCell (World.setCell w ⟨b, 0, none⟩ (Value.int IntKind.i64 k)) ⟨b, 1, none⟩ (Value.int IntKind.i64 x)) ⟨b, 2, none⟩ (Value.int IntKind.i64 y)) ⟨b, 3, none⟩ (Value.int IntKind.i64 s)) ⟨b, 4, none⟩ (Value.int IntKind.i64 l)) ⟨b, 5, none⟩ (Value.int IntKind.i64 e)) ⟨b, 6, none⟩ (Value.int IntKind.i64 o)) ⟨b, 7, none⟩ (Value.int IntKind.i64 t)) b ⟨k, x, y, s, l, e, o, t⟩ := h6.set 7 t _ rfl
  have p7 : Only b w (World.setCell (World.setCell (World.setCell (World.setCell (World.setCell (World.setCell (World.setCell (World.setCell w ⟨b, 0, none⟩ (Value.int IntKind.i64 k)) ⟨b, 1, none⟩ (Value.int IntKind.i64 x)) ⟨b, 2, none⟩ (Value.int IntKind.i64 y)) ⟨b, 3, none⟩ (Value.int IntKind.i64 s)) ⟨b, 4, none⟩ (Value.int IntKind.i64 l)) ⟨b, 5, none⟩ (Value.int IntKind.i64 e)) ⟨b, 6, none⟩ (Value.int IntKind.i64 o)) ⟨b, 7, none⟩ (Value.int IntKind.i64 t)) := p6.trans (only_set _ b 7 _)
  exact ⟨h7, p7⟩
end Go.Proofs.Ythjkhghlhjndmaa.ce
/- Contracts: the program's rested. -/
namespace Go.Proofs.Ythjkhghlhjndmaa.ce
open Go.ChangeShapes Go.WideShapes Go.ChangeAt Go.RowKit
set_option linter.unusedVariables false

def restD (d : Hd) (step told : Int) : Hd := { d with step := step, left := -1, here := -1, told := told }

set_option maxHeartbeats 1000000 in
theorem rested_any (d : Hd) (step told : Int) (w : World) :
    Calls Try.prog 134 #[.agg (hv d).toArray, .int .i64 step, .int .i64 told] w fun e w' => e = .returned (.agg (hv (restD d step told)).toArray) ∧ Below w.heap.size w w' := by
  obtain ⟨k, x, y, s, l, e, o, t⟩ := d
  go_enter Try.func134, Try.ntmps134
  go_wp2_with (first | (refine wpList_box_v rfl 58 _ rfl (hv ⟨k, x, y, s, l, e, o, t⟩) rfl ?_; intro b1 w1 hb1 hw1 hB1 hV1; have hz1 := hB1.size) | (refine wpList_alloc_v rfl 58 rfl _ zeroH ?_; intro b6 w2 hb6 hw2 hB2 hV2; have hz2 := hB2.size; have hb : HB w2 b1 ⟨k, x, y, s, l, e, o, t⟩ := ⟨hV1.below hB2 hw1⟩; have h6 : HB w2 b6 ⟨0, 0, 0, 0, 0, 0, 0, 0⟩ := ⟨hV2⟩; have hne : b1 ≠ b6 := (by omega); have hne2 : b6 ≠ b1 := (by omega); obtain ⟨c0, c1, c2, c3, c4, c5, c6, c7⟩ := hb.cells; obtain ⟨f0, f1, f2, f3, f4, f5, f6, f7⟩ := hb.fz; obtain ⟨p0, p1, p2, p3, p4, p5, p6, p7⟩ := h6.cells; obtain ⟨q0, q1, q2, q3, q4, q5, q6, q7⟩ := h6.fz; have HB1 : Hid (HB w2 b1 ⟨k, x, y, s, l, e, o, t⟩) := hb; have HB6 : Hid (HB w2 b6 ⟨0, 0, 0, 0, 0, 0, 0, 0⟩) := h6; clear hb h6 hV1 hV2) | (fail))
  have o4 := (((only_set w2 b1 3 (.int .i64 step)).trans (only_set _ b1 4 (.int .i64 (-1)))).trans (only_set _ b1 5 (.int .i64 (-1)))).trans (only_set _ b1 7 (.int .i64 told))
  obtain ⟨h8, o8⟩ := fill8n (HB6.out.of (o4.2.1 b6 hne2)) k x y step (-1) (-1) o told
  exact row_retv rfl rfl h8.blk Try.underlying58 sizeH rfl ⟨rfl, ((hB1.trans (hB2.mono hz1)).trans (o4.2.2 _ hb1)).trans (o8.2.2 _ (by omega))⟩

def asksB (k x : Int) : Bool := decide ((1 ≤ k ∧ k ≤ 3) ∧ 1 ≤ x ∧ x ≤ 65535)
def newD (k x y : Int) : Hd := if asksB k x = true then ⟨k, x, y, 0, -1, -1, -1, 0⟩ else ⟨0, 0, 0, 0, 0, 0, 0, 0⟩

theorem results_cell_tmp' {fn : Func} {p u : Tmp} {ty : TypeId} (h : fn.results = #[.cell p ty, .tmp u]) (tmps : Array Value) (P : Program) (w : World) :
    (results fn tmps).run P w =
      ((asAddr (tmps.getD p undef)).run P w).andThen fun a w₁ => ((loadVar ty a).run P w₁).andThen fun v w₂ => .ok (.tuple #[v, tmps.getD u undef]) w₂ := by
  simp only [results, h]
  simp [Sem.run_bind, Result.andThen]
theorem row_cell_tmp {fn : Func} {p u : Tmp} {ty : TypeId} (h : fn.results = #[.cell p ty, .tmp u]) {R : Ending → World → Prop} {a : Act} {w : World} {b : Nat} {t : TypeId} {vs : List Value} {fs : Array Field} {x : Value}
    (hp : a.tmps.getD p undef = .pointer (some ⟨b, 0, none⟩)) (hx : a.tmps.getD u undef = x) (hb : VBlk w b t vs) (hu : Try.prog.underlying ty = some (.struct fs))
    (hi : (Try.prog.info? ty).map (·.size) = some vs.length) (hdf : a.defers = []) (hR : R (.returned (.tuple #[.agg vs.toArray, x])) w) : bodyPost Try.prog fn R .ret a w := by
  have hl := run_loadVar_row (P := Try.prog) w b t ty vs.toArray (0, 0) _ hb hu rfl (by rw [hi]; simp)
  refine bodyPost_ret ?_ hdf hR
  rw [results_cell_tmp' h, hp, hx]
  simp [asAddr, hl]

end Go.Proofs.Ythjkhghlhjndmaa.ce
/- Laws: one field of a hand's variable is stored. -/
namespace Go.Proofs.Ythjkhghlhjndmaa.ce
open Go.ChangeShapes Go.WideShapes Go.ChangeAt Go.RowKit
set_option linter.unusedVariables false

section laws
variable {ops : Array Oper} {Q : Exit → Act → World → Prop} {a : Act} {w : World} {rest : List Oper} {o : Oper}
theorem wpList_none {P : Program} (hgd : o.guard = none) {w' : World} (hr : (execOp a.eval o).run P w = .ok .skip w') (h : wpList P ops Q rest (a.put o.dst undef) w') : wpList P ops Q (o :: rest) a w :=
  wpList_plain hgd fun K hK => by unfold Oper.wp; rw [hr]; exact hK _ _ h
theorem HB.cell {w : World} {q : Nat} {d : Hd} (b : HB w q d) (j : Nat) (hj : j < 8) : w.cell? ⟨q, j, none⟩ = some ((hv d)[j]'(by simpa [hv] using hj)) := b.blk.cell j (by simpa [hv] using hj)
/-- one number is stored into a field of a hand's variable -/
theorem wpList_store_f (hgd : o.guard = none) (x y : Operand) (ho : o.op = .store 2 x y) (b j : Nat) (z : Int) (hx : a.eval x = .pointer (some ⟨b, j, none⟩)) (hy : a.eval y = .int .i64 z)
    {d : Hd} (d' : Hd) (hj : j < 8) (hb : HB w b d) (hset : (hv d).set j (.int .i64 z) = hv d')
    (h : ∀ w', Only b w w' → HB w' b d' → wpList Try.prog ops Q rest (a.put o.dst undef) w') : wpList Try.prog ops Q (o :: rest) a w := by
  have hc := hb.cell j hj
  have hf : w.frozen? ⟨b, j, none⟩ = false := hb.blk.frozen _
  refine wpList_none hgd (w' := w.setCell ⟨b, j, none⟩ (.int .i64 z)) ?_ (h _ (only_set _ _ _ _) (hb.set j z d' hset))
  unfold execOp
  simp only [ho, hx, hy]
  simp [go_sem, hc, hf]
end laws
end Go.Proofs.Ythjkhghlhjndmaa.ce
/- A crew's variable: its size, its zero, its cells stored; rows of cells and rows of hands lie apart. -/
namespace Go.Proofs.Ythjkhghlhjndmaa.ce
open Go.ChangeShapes Go.WideShapes Go.ChangeAt Go.RowKit
set_option linter.unusedVariables false

theorem sizeCr : (Try.prog.info? 31).map (·.size) = some 2 := by kernel_rfl
theorem zeroCr (w : World) : (zeroValue 31).run Try.prog w = .ok (.agg [Value.slice none 0 0, .slice none 0 0].toArray) w := Try.zeroValue31 w

theorem own_keepB {w w' : World} {lo hi : Nat} {v : Value} {H : List C} (o : Own w lo hi v H) (s : ∀ k, v.ownBlock = some k → w'.heap[k]? = w.heap[k]?) : Own w' lo hi v H := by
  refine ⟨⟨o.row.1, ?_⟩, o.top⟩
  rcases o.row.2 with h | ⟨g, cap, cur, rfl, hg, hb, h⟩
  · exact .inl h
  · exact .inr ⟨g, cap, cur, rfl, hg, by rw [s g rfl]; exact hb, h⟩
theorem own_lo {w : World} {lo hi : Nat} {v : Value} {H : List C} (o : Own w lo hi v H) (g : Nat) (hg : v.ownBlock = some g) : lo ≤ g ∧ g < hi ∧ g < w.heap.size := by
  rcases o.row.2 with ⟨rfl, -⟩ | ⟨g', cap, cur, rfl, hg', hb, h⟩
  · cases hg
  · cases hg
    exact ⟨hg', o.top _ rfl, (Array.getElem?_eq_some_iff.1 hb).1⟩

/-- one cell of the crew's variable is stored -/
theorem step_store_1 {o : Oper} {a : Act} {w : World} {ops : Array Oper} {K : Act → World → Prop} {Q : Exit → Act → World → Prop} {E : Prop} (hgd : o.guard = none) (x y : Operand) (ho : o.op = .store 29 x y) (b j : Nat) (va : Option Addr) (vn vc : Nat) (hx : a.eval x = .pointer (some ⟨b, j, none⟩)) (hy : a.eval y = .slice va vn vc)
    {t : TypeId} {vs : List Value} (hb : VBlk w b t vs) (hj : j < vs.length)
    (h : ∀ w', Only b w w' → VBlk w' b t (vs.set j (.slice va vn vc)) → K (a.put o.dst undef) w') :
    if Region.wanted o (yielded ops a.tmps) = true then Oper.wp Try.prog o a w K Q else E := by
  have hw : Region.wanted o (yielded ops a.tmps) = true := by simp [Region.wanted, hgd]
  rw [if_pos hw]
  have hc := hb.cell j hj
  have hf : w.frozen? ⟨b, j, none⟩ = false := hb.frozen _
  have hr : (execOp a.eval o).run Try.prog w = .ok .skip (w.setCell ⟨b, j, none⟩ (.slice va vn vc)) := by
    unfold execOp
    simp only [ho, hx, hy]
    simp [go_sem, hc, hf]
  unfold Oper.wp
  rw [hr]
  exact h _ (only_set _ _ _ _) (hb.set j _)
theorem wpList_store_1 {o : Oper} {a : Act} {w : World} {ops : Array Oper} {rest : List Oper} {Q : Exit → Act → World → Prop} (hgd : o.guard = none) (x y : Operand) (ho : o.op = .store 28 x y) (b j : Nat) (va : Option Addr) (vn vc : Nat) (hx : a.eval x = .pointer (some ⟨b, j, none⟩)) (hy : a.eval y = .slice va vn vc)
    {t : TypeId} {vs : List Value} (hb : VBlk w b t vs) (hj : j < vs.length)
    (h : ∀ w', Only b w w' → VBlk w' b t (vs.set j (.slice va vn vc)) → wpList Try.prog ops Q rest (a.put o.dst undef) w') : wpList Try.prog ops Q (o :: rest) a w := by
  have hc := hb.cell j hj
  have hf : w.frozen? ⟨b, j, none⟩ = false := hb.frozen _
  refine wpList_none hgd (w' := w.setCell ⟨b, j, none⟩ (.slice va vn vc)) ?_ (h _ (only_set _ _ _ _) (hb.set j _))
  unfold execOp
  simp only [ho, hx, hy]
  simp [go_sem, hc, hf]
theorem step_store_c {o : Oper} {a : Act} {w : World} {ops : Array Oper} {K : Act → World → Prop} {Q : Exit → Act → World → Prop} {E : Prop} (hgd : o.guard = none) (x y : Operand) (ho : o.op = .store 28 x y) (b j : Nat) (va : Option Addr) (vn vc : Nat) (hx : a.eval x = .pointer (some ⟨b, j, none⟩)) (hy : a.eval y = .slice va vn vc)
    {t : TypeId} {vs : List Value} (hb : VBlk w b t vs) (hj : j < vs.length)
    (h : ∀ w', Only b w w' → VBlk w' b t (vs.set j (.slice va vn vc)) → K (a.put o.dst undef) w') :
    if Region.wanted o (yielded ops a.tmps) = true then Oper.wp Try.prog o a w K Q else E := by
  have hw : Region.wanted o (yielded ops a.tmps) = true := by simp [Region.wanted, hgd]
  rw [if_pos hw]
  have hc := hb.cell j hj
  have hf : w.frozen? ⟨b, j, none⟩ = false := hb.frozen _
  have hr : (execOp a.eval o).run Try.prog w = .ok .skip (w.setCell ⟨b, j, none⟩ (.slice va vn vc)) := by
    unfold execOp
    simp only [ho, hx, hy]
    simp [go_sem, hc, hf]
  unfold Oper.wp
  rw [hr]
  exact h _ (only_set _ _ _ _) (hb.set j _)
theorem ownH_type {w : World} {lo hi : Nat} {v : Value} {ds : List Hd} (o : OwnH w lo hi v ds) (q : Nat) (hq : v.ownBlock = some q) : ∃ cur, w.heap[q]? = some (.cells cur 58 (0, 0)) := by
  rcases o.row.2 with ⟨rfl, -⟩ | ⟨g', cap, cur, rfl, hg', hb, h⟩
  · cases hq
  · cases hq; exact ⟨cur, hb⟩
theorem own_type {w : World} {lo hi : Nat} {v : Value} {H : List C} (o : Own w lo hi v H) (q : Nat) (hq : v.ownBlock = some q) : ∃ cur, w.heap[q]? = some (.cells cur 97 (0, 0)) := by
  rcases o.row.2 with ⟨rfl, -⟩ | ⟨g', cap, cur, rfl, hg', hb, h⟩
  · cases hq
  · cases hq; exact ⟨cur, hb⟩
theorem apart_hd {w : World} {lo hi lo' hi' : Nat} {vH vD : Value} {H : List C} {ds : List Hd} (o : Own w lo hi vH H) (o' : OwnH w lo' hi' vD ds) (g : Nat) (h1 : vH.ownBlock = some g) (h2 : vD.ownBlock = some g) : False := by
  obtain ⟨c1, e1⟩ := own_type o g h1
  obtain ⟨c2, e2⟩ := ownH_type o' g h2
  rw [e1] at e2
  simp only [Option.some.injEq, Obj.cells.injEq] at e2
  exact absurd e2.2.1 (by decide)
theorem apart_db {w : World} {lo hi : Nat} {vD : Value} {ds : List Hd} {b : Nat} {vs : List Value} (o : OwnH w lo hi vD ds) (hc : VBlk w b 31 vs) (q : Nat) (hq : vD.ownBlock = some q) : q ≠ b := by
  rintro rfl
  obtain ⟨c2, e2⟩ := ownH_type o q hq
  unfold VBlk at hc
  rw [hc] at e2
  simp only [Option.some.injEq, Obj.cells.injEq] at e2
  exact absurd e2.2.1 (by decide)
theorem apart_hb {w : World} {lo hi : Nat} {vH : Value} {H : List C} {b : Nat} {vs : List Value} (o : Own w lo hi vH H) (hc : VBlk w b 31 vs) (q : Nat) (hq : vH.ownBlock = some q) : q ≠ b := by
  rintro rfl
  obtain ⟨c2, e2⟩ := own_type o q hq
  unfold VBlk at hc
  rw [hc] at e2
  simp only [Option.some.injEq, Obj.cells.injEq] at e2
  exact absurd e2.2.1 (by decide)
/-- heap cells that lie in one block -/
theorem own_block {w : World} {lo hi g n cg : Nat} {H : List C} (o : Own w lo hi (.slice (some ⟨g, 0, none⟩) n cg) H) : Own w.drew g (g + 1) (.slice (some ⟨g, 0, none⟩) n cg) H := by
  refine ⟨⟨o.row.1, ?_⟩, fun k hk => by cases hk; exact Nat.lt_succ_self _⟩
  rcases o.row.2 with ⟨h, -⟩ | ⟨g', cap, cur, e, hg, hb, h⟩
  · cases h
  · cases e
    exact .inr ⟨g, _, cur, rfl, Nat.le_refl _, hb, h⟩
end Go.Proofs.Ythjkhghlhjndmaa.ce
/- One small move of a right hand beside a right heap keeps both right, and changes who lives only where it says yes. -/
namespace Go.Proofs.Ythjkhghlhjndmaa.ce
open Go.ChangeShapes Go.WideShapes Go.ChangeAt Go.RowKit
set_option linter.unusedVariables false

def OwnFree (H : List C) (d : Hd) : Prop := d.own = -1 ∨ (d.kind = 1 ∧ (1 ≤ d.own ∧ d.own < (H.length : Int)) ∧ (nth H d.own).key = d.key ∧ (nth H d.own).value = d.value ∧ (d.step = 3 → (nth H d.own).next = d.here) ∧ (nth H d.own).gone = false ∧ d.own ∉ chain H)
theorem way_mk {H : List C} {d : Hd} (h1 : 1 ≤ d.kind ∧ d.kind ≤ 3) (h2 : 1 ≤ d.key ∧ d.key ≤ 65535) (hs : 1 ≤ d.step ∧ d.step ≤ 4) (ht : d.told = 0) (hl : has H d.left) (hk : (nth H d.left).key < d.key) (hx : d.here = -1 ∨ 1 ≤ d.here ∧ d.here < (H.length : Int))
    (inH : 0 ≤ d.here → (nth H d.here).gone = false → d.here ∈ chain H) (inL : (nth H d.left).gone = false → d.left ∈ chain H) (act : d.step = 2 → d.key ≤ there H d) (link : d.step = 3 → d.key < there H d ∧ d.kind = 1 ∧ 0 ≤ d.own) (mark : d.step = 4 → there H d = d.key ∧ d.kind = 2) (own : OwnFree H d) : OkH H d :=
  { kind := h1, key := h2, step := ⟨by omega, by omega⟩, idle := fun e => by omega, way := fun _ => ⟨hl, hk, hx⟩
    told := ⟨⟨fun e => by omega, fun e => absurd ht e⟩, by omega, by omega⟩
    inH := inH, inL := fun _ => inL, act := act, link := link, mark := mark
    own := by
      rcases own with e | ⟨a, b, c, e, f, g⟩
      · exact .inl e
      · exact .inr ⟨a, b, c, e, f, .inr g⟩ }
theorem OkH.free {H : List C} {d : Hd} (h : OkH H d) (hs : d.step ≠ 5) : OwnFree H d := h.own' hs

theorem start_keeps {H : List C} {d : Hd} (hok : heapOk H) (h : OkH H d) (hs : d.step ≠ 5) : Keeps H d H (startD d) :=
  keeps_same hok (start_ok h hs) rfl rfl rfl (fun e => by have := told_of h hs; simp [startD] at e; omega)
theorem no_keeps {H : List C} {d : Hd} (hok : heapOk H) (h : OkH H d) : Keeps H d H (doneD d false) :=
  keeps_same hok (done_ok h false) rfl rfl rfl (fun e => by simp [doneD] at e)

theorem next_fit {H : List C} (hok : heapOk H) {p : Int} (hp : has H p) : (nth H p).next = -1 ∨ 1 ≤ (nth H p).next ∧ (nth H p).next < (H.length : Int) ∧ (nth H p).key < (nth H (nth H p).next).key ∧ has H (nth H p).next := by
  have u := up_ok hok
  rcases u.next p hp with h | h
  · exact .inl h
  · refine .inr ⟨?_, h.1.2, h.2, h.1⟩
    have h0 := h.1.1
    have hk := u.keys p hp
    have h00 := hok.2.1.1
    by_cases hz : (nth H p).next = 0
    · have h1 := h.2
      rw [hz, h00] at h1
      omega
    · omega
theorem zero_in {H : List C} (u : Up H) : (0 : Int) ∈ chain H := by obtain ⟨L, e, -⟩ := chain_head u; rw [e]; simp

theorem move_0 {H : List C} {d : Hd} (hok : heapOk H) (h : OkH H d) (hs : d.step = 0) : Keeps H d (move H d).1 (move H d).2 := by
  have u := up_ok hok
  have hs5 : d.step ≠ 5 := by omega
  have T := told_of h hs5
  have F := h.free hs5
  obtain ⟨k, x, y, s, l, e, o, t⟩ := d
  simp only at hs T
  subst hs T
  show Keeps H _ H ⟨k, x, y, 1, 0, (nth H 0).next, o, 0⟩
  have h0 := has_zero u
  have hin := zero_in u
  refine keeps_same hok (way_mk h.kind h.key ⟨by simp, by simp⟩ rfl h0 ?_ ?_ (fun hp _ => chain_next u hin hp) (fun _ => hin) (fun e => by simp at e) (fun e => by simp at e) (fun e => by simp at e) ?_) rfl rfl rfl (fun e => by simp at e)
  · have h1 := hok.2.1.1
    have h2 := h.key
    simp only at h2 ⊢
    omega
  · rcases next_fit hok h0 with e | e
    · exact .inl e
    · exact .inr ⟨e.1, e.2.1⟩
  · rcases F with F | ⟨a, b, c, f, g, z⟩
    · exact .inl F
    · exact .inr ⟨a, b, c, f, fun e => by simp at e, z⟩

theorem move_1 {H : List C} {d : Hd} (hok : heapOk H) (h : OkH H d) (hs : d.step = 1) : Keeps H d (move H d).1 (move H d).2 := by
  have u := up_ok hok
  have hs5 : d.step ≠ 5 := by omega
  have T := told_of h hs5
  have F := h.free hs5
  have W := h.way (by omega)
  have em : move H d = moveW H d := by unfold move; rw [if_neg (by omega), if_pos hs]
  rw [em]
  unfold moveW
  by_cases hst : stops H d
  · rw [if_pos hst]
    obtain ⟨k, x, y, s, l, e, o, t⟩ := d
    simp only at hs T W
    subst hs T
    refine keeps_same hok (way_mk h.kind h.key ⟨by simp, by simp⟩ rfl W.1 W.2.1 W.2.2 h.inH (fun g => h.inL W.1.1 g) (fun _ => ?_) (fun e => by simp at e) (fun e => by simp at e) ?_) rfl rfl rfl (fun e => by simp at e)
    · have hk := h.key
      unfold there
      simp only at hk ⊢
      rcases hst with e' | e'
      · simp only at e'
        subst e'
        rw [if_neg (by omega)]
        omega
      · simp only at e'
        split
        · exact e'.2
        · omega
    · rcases F with F | ⟨a, b, c, f, g, z⟩
      · exact .inl F
      · exact .inr ⟨a, b, c, f, fun e => by simp at e, z⟩
  · rw [if_neg hst]
    have hh : 1 ≤ d.here ∧ d.here < (H.length : Int) := by
      rcases W.2.2 with e | e
      · exact absurd (.inl e) hst
      · exact e
    have hhas : has H d.here := ⟨by omega, hh.2⟩
    by_cases hg : (nth H d.here).gone = true
    · rw [if_pos hg]
      by_cases hsw : swapOk H d.left d.here (nth H d.here).next
      · rw [if_pos hsw]
        obtain ⟨i, hi0, hi⟩ := has_nat W.1
        have hgl := hsw.1.2.1
        have hnl := hsw.1.2.2
        have hin : d.left ∈ chain H := h.inL W.1.1 hgl
        rw [hi0] at hsw hin hnl hgl ⊢
        have hok' := heapOk_swap hok i hi _ _ hsw
        have u' := up_ok hok'
        obtain ⟨A, B, e1, e2⟩ := pass_chain hok i hi d.here hin hnl (by omega) hok'
        have hsub : ∀ z, z ∈ chain (swapH H i (nth H d.here).next) → z ∈ chain H := fun z hz => by
          rw [e2] at hz; rw [e1]
          rcases List.mem_append.1 hz with q | q
          · exact List.mem_append.2 (.inl q)
          · rcases List.mem_cons.1 q with q | q
            · exact List.mem_append.2 (.inr (by rw [q]; simp))
            · exact List.mem_append.2 (.inr (by simp [q]))
        have hin' : (i : Int) ∈ chain (swapH H i (nth H d.here).next) := by rw [e2]; simp
        have hnx : (nth (swapH H i (nth H d.here).next) i).next = (nth H d.here).next := swapH_next_same H i hi _
        have nf := fun p => swapH_nth H i hi (nth H d.here).next p
        refine ⟨hok', way_mk (H := swapH H i (nth H d.here).next) h.kind h.key ⟨by simp [hs], by simp [hs]⟩ T ?_ ?_ ?_ (fun hp _ => ?_) (fun _ => ?_) (fun e => by simp [hs] at e) (fun e => by simp [hs] at e) (fun e => by simp [hs] at e) ?_, rfl, rfl, rfl, .inr ⟨fun e => by simp at e; omega, pass_living hok i hi d.here hin hnl (by omega) hg hok'⟩⟩
        · simp only
          exact ⟨by omega, by rw [swapH_len]; omega⟩
        · simp only
          rw [(nf i).1, ← hi0]
          exact W.2.1
        · simp only [swapH_len]
          rcases next_fit hok hhas with e | e
          · exact .inl e
          · exact .inr ⟨e.1, e.2.1⟩
        · have := chain_next u' hin' (by rw [hnx]; exact hp)
          rw [hnx] at this
          exact this
        · simp only
          exact hin'
        · rcases F with F | ⟨a, b, c, f, g, z1, z2⟩
          · exact .inl F
          · refine .inr ⟨a, by rw [swapH_len]; exact b, ?_, ?_, fun e => by simp [hs] at e, ?_, fun q => z2 (hsub _ q)⟩
            · rw [(nf _).1]; exact c
            · rw [(nf _).2.1]; exact f
            · rw [(nf _).2.2]; exact z1
      · rw [if_neg hsw]
        exact start_keeps hok h hs5
    · rw [if_neg hg]
      have hg' : (nth H d.here).gone = false := by simpa using hg
      have hin := h.inH (by omega) hg'
      have hlt : (nth H d.here).key < d.key := by
        have : ¬ d.key ≤ (nth H d.here).key := fun q => hst (.inr ⟨hg', q⟩)
        omega
      refine keeps_same hok (way_mk h.kind h.key ⟨by simp [hs], by simp [hs]⟩ T hhas hlt ?_ (fun hp _ => chain_next u hin hp) (fun _ => hin) (fun e => by simp [hs] at e) (fun e => by simp [hs] at e) (fun e => by simp [hs] at e) ?_) rfl rfl rfl (fun e => by simp at e; omega)
      · rcases next_fit hok hhas with e | e
        · exact .inl e
        · exact .inr ⟨e.1, e.2.1⟩
      · rcases F with F | ⟨a, b, c, f, g, z⟩
        · exact .inl F
        · exact .inr ⟨a, b, c, f, fun e => by simp [hs] at e, z⟩

theorem done_mk {H : List C} {d : Hd} (h1 : 1 ≤ d.kind ∧ d.kind ≤ 3) (h2 : 1 ≤ d.key ∧ d.key ≤ 65535) (yes : Bool) (own : d.own = -1 ∨ (d.kind = 1 ∧ (1 ≤ d.own ∧ d.own < (H.length : Int)) ∧ (nth H d.own).key = d.key ∧ (nth H d.own).value = d.value)) : OkH H (doneD d yes) :=
  { kind := h1, key := h2, step := ⟨by simp [doneD], by simp [doneD]⟩, idle := fun _ => ⟨rfl, rfl⟩, way := fun hn => absurd (.inr rfl) hn
    told := ⟨by simp only [doneD]; cases yes <;> simp, by simp only [doneD]; cases yes <;> simp, by simp only [doneD]; cases yes <;> simp⟩
    inH := fun h0 => by simp [doneD] at h0
    inL := fun h0 => by simp [doneD] at h0
    act := fun e => by simp [doneD] at e
    link := fun e => by simp [doneD] at e
    mark := fun e => by simp [doneD] at e
    own := by
      rcases own with e | ⟨a, b, c, e⟩
      · exact .inl e
      · exact .inr ⟨a, b, c, e, fun e => by simp [doneD] at e, .inl rfl⟩ }

theorem move_put {H : List C} {d : Hd} (hok : heapOk H) (h : OkH H d) (hs : d.step = 2) (hk : d.kind = 1) (hf : ¬ found H d) : Keeps H d (movePut H d).1 (movePut H d).2 := by
  have u := up_ok hok
  have hs5 : d.step ≠ 5 := by omega
  have T := told_of h hs5
  have F := h.free hs5
  have W := h.way (by omega)
  have ha := h.act hs
  have hth : d.key < there H d := by
    unfold there at ha ⊢
    have hkk := h.key
    by_cases h0 : 0 ≤ d.here
    · rw [if_pos h0] at ha ⊢
      have : ¬ (nth H d.here).key = d.key := fun e => hf ⟨h0, e⟩
      omega
    · rw [if_neg h0]; omega
  have hhas : 0 ≤ d.here → has H d.here := fun h0 => by
    rcases W.2.2 with e | e
    · omega
    · exact ⟨h0, e.2⟩
  unfold movePut
  by_cases ho : d.own < 0
  · rw [if_pos ho]
    by_cases hN : freshN H d.key d.value d.here < 0
    · rw [if_pos hN]
      exact no_keeps hok h
    · rw [if_neg hN]
      obtain ⟨eN, eH, hok'⟩ := (fresh_two H d.key d.value d.here).resolve_left (by omega)
      rw [eN, eH]
      have ec := fresh_chain hok (cell d.key d.value d.here) hok'
      have hlast : nth (H ++ [cell d.key d.value d.here]) (H.length : Int) = cell d.key d.value d.here := by
        have := nth_nat (H ++ [cell d.key d.value d.here]) H.length (by simp)
        rw [this]; simp
      have hleft : nth (H ++ [cell d.key d.value d.here]) d.left = nth H d.left := nth_snoc H _ _ W.1
      have hhere : 0 ≤ d.here → nth (H ++ [cell d.key d.value d.here]) d.here = nth H d.here := fun h0 => nth_snoc H _ _ (hhas h0)
      refine ⟨hok', way_mk (H := H ++ [cell d.key d.value d.here]) h.kind h.key ⟨by simp, by simp⟩ T ?_ ?_ ?_ (fun hp hg => ?_) (fun hg => ?_) (fun e => by simp at e) (fun _ => ⟨?_, hk, ?_⟩) (fun e => by simp at e) ?_, rfl, rfl, rfl, .inr ⟨fun e => by simp at e; omega, fresh_living hok _ hok'⟩⟩
      · exact ⟨W.1.1, by rw [snoc_len]; have := W.1.2; show d.left < _; omega⟩
      · show (nth (H ++ [cell d.key d.value d.here]) d.left).key < d.key
        rw [hleft]; exact W.2.1
      · rcases W.2.2 with e | e
        · exact .inl e
        · exact .inr ⟨e.1, by rw [snoc_len]; show d.here < _; omega⟩
      · rw [ec]
        simp only at hp hg ⊢
        rw [hhere hp] at hg
        exact h.inH hp hg
      · rw [ec]
        simp only at hg ⊢
        rw [hleft] at hg
        exact h.inL W.1.1 hg
      · unfold there at hth ⊢
        simp only
        split
        · rename_i h0
          rw [hhere h0]
          rw [if_pos h0] at hth
          exact hth
        · have := h.key; omega
      · simp only; omega
      · refine .inr ⟨hk, ⟨by simp only; have := hok.1.1; omega, by rw [snoc_len]; simp only; omega⟩, ?_, ?_, fun _ => ?_, ?_, fun hm => ?_⟩
        · simp only; rw [hlast]; rfl
        · simp only; rw [hlast]; rfl
        · simp only; rw [hlast]; rfl
        · simp only; rw [hlast]; rfl
        · simp only at hm
          rw [ec] at hm
          have := (chain_hasX u hm).2
          omega
  · rw [if_neg ho]
    rcases F with F | ⟨a, b, c, f, g, z1, z2⟩
    · omega
    obtain ⟨i, hi0, hi⟩ := has_nat (H := H) (p := d.own) ⟨by omega, b.2⟩
    rw [hi0] at b c f g z1 z2 ⊢
    have en := nth_nat H i hi
    have hlead : leads H d.key d.here := by
      unfold there at hth
      rcases W.2.2 with e | e
      · exact .inl e
      · rw [if_pos (by omega)] at hth
        exact .inr ⟨⟨by omega, e.2⟩, hth⟩
    have hok' : heapOk (swapH H i d.here) := by
      have := heapOk_set hok i hi { nth H i with next := d.here } (by rw [en]) (fun e => by omega) (by show leads H (nth H i).key d.here; rw [c]; exact hlead)
      unfold swapH
      simpa using this
    have ec := outside_chain hok i d.here z2 hok'
    have nf := fun p => swapH_nth H i hi d.here p
    refine ⟨hok', way_mk (H := swapH H i d.here) h.kind h.key ⟨by simp, by simp⟩ T ?_ ?_ ?_ (fun hp hg => ?_) (fun hg => ?_) (fun e => by simp at e) (fun _ => ⟨?_, hk, ?_⟩) (fun e => by simp at e) ?_, rfl, rfl, rfl, .inr ⟨fun e => by simp at e; omega, outside_living hok i hi d.here z2 hok'⟩⟩
    · exact ⟨W.1.1, by rw [swapH_len]; exact W.1.2⟩
    · simp only; rw [(nf _).1]; exact W.2.1
    · rw [swapH_len]; exact W.2.2
    · rw [ec]
      simp only at hp hg ⊢
      rw [(nf _).2.2] at hg
      exact h.inH hp hg
    · rw [ec]
      simp only at hg ⊢
      rw [(nf _).2.2] at hg
      exact h.inL W.1.1 hg
    · unfold there at hth ⊢
      simp only
      rw [(nf _).1]
      exact hth
    · simp only; omega
    · refine .inr ⟨hk, ⟨by simp only; omega, by rw [swapH_len]; simp only; omega⟩, ?_, ?_, fun _ => ?_, ?_, fun hm => ?_⟩
      · simp only; rw [(nf _).1]; exact c
      · simp only; rw [(nf _).2.1]; exact f
      · simp only; exact swapH_next_same H i hi _
      · simp only; rw [(nf _).2.2]; exact z1
      · simp only at hm
        rw [ec] at hm
        exact z2 hm

theorem move_2 {H : List C} {d : Hd} (hok : heapOk H) (h : OkH H d) (hs : d.step = 2) : Keeps H d (move H d).1 (move H d).2 := by
  have hs5 : d.step ≠ 5 := by omega
  have T := told_of h hs5
  have F := h.free hs5
  have W := h.way (by omega)
  have em : move H d = moveA H d := by unfold move; rw [if_neg (by omega), if_neg (by omega), if_pos hs]
  rw [em]
  unfold moveA
  by_cases h3 : d.kind = 3
  · rw [if_pos h3]
    exact keeps_same hok (done_ok h _) rfl rfl rfl (fun _ => .inr h3)
  · rw [if_neg h3]
    by_cases hn : d.kind = 1 ∧ found H d ∨ d.kind = 2 ∧ ¬ found H d
    · rw [if_pos hn]
      exact no_keeps hok h
    · rw [if_neg hn]
      by_cases h1 : d.kind = 1
      · rw [if_pos h1]
        exact move_put hok h hs h1 (fun q => hn (.inl ⟨h1, q⟩))
      · rw [if_neg h1]
        have hkd := h.kind
        have h2 : d.kind = 2 := by omega
        have hf : found H d := Decidable.byContradiction fun q => hn (.inr ⟨h2, q⟩)
        refine keeps_same hok (way_mk h.kind h.key ⟨by simp, by simp⟩ T W.1 W.2.1 W.2.2 h.inH (fun g => h.inL W.1.1 g) (fun e => by simp at e) (fun e => by simp at e) (fun _ => ⟨?_, h2⟩) ?_) rfl rfl rfl (fun e => by simp at e; omega)
        · unfold there
          simp only
          rw [if_pos hf.1]
          exact hf.2
        · rcases F with F | ⟨a, b, c, f, g, z⟩
          · exact .inl F
          · exact .inr ⟨a, b, c, f, fun e => by simp at e, z⟩

theorem move_3 {H : List C} {d : Hd} (hok : heapOk H) (h : OkH H d) (hs : d.step = 3) : Keeps H d (move H d).1 (move H d).2 := by
  have u := up_ok hok
  have hs5 : d.step ≠ 5 := by omega
  have F := h.free hs5
  have W := h.way (by omega)
  have hl := h.link hs
  have em : move H d = moveL H d := by unfold move; rw [if_neg (by omega), if_neg (by omega), if_neg (by omega), if_pos hs]
  rw [em]
  unfold moveL
  by_cases hsw : swapOk H d.left d.here d.own
  · rw [if_pos hsw]
    obtain ⟨i, hi0, hi⟩ := has_nat W.1
    have hgl := hsw.1.2.1
    have hnl := hsw.1.2.2
    have hin : d.left ∈ chain H := h.inL W.1.1 hgl
    rcases F with F | ⟨a, b, c, f, g, z1, z2⟩
    · omega
    have hne : d.own ≠ d.left := fun e => z2 (by rw [e]; exact hin)
    rw [hi0] at hsw hin hnl hgl hne ⊢
    have hok' := heapOk_swap hok i hi _ _ hsw
    have nf := fun p => swapH_nth H i hi d.own p
    refine ⟨hok', done_mk h.kind h.key true (.inr ⟨a, by rw [swapH_len]; exact b, by rw [(nf _).1]; exact c, by rw [(nf _).2.1]; exact f⟩), rfl, rfl, rfl, .inl ⟨rfl, hs5, by omega, .inl ⟨a, ?_⟩⟩⟩
    have := link_living hok i hi d.own (by omega) hin (by rw [g hs, hnl]) hne z1 hok'
    rw [c] at this
    exact this
  · rw [if_neg hsw]
    exact start_keeps hok h hs5

theorem move_4 {H : List C} {d : Hd} (hok : heapOk H) (h : OkH H d) (hs : d.step = 4) : Keeps H d (move H d).1 (move H d).2 := by
  have u := up_ok hok
  have hs5 : d.step ≠ 5 := by omega
  have F := h.free hs5
  have W := h.way (by omega)
  have hm := h.mark hs
  have em : move H d = moveM H d := by unfold move; rw [if_neg (by omega), if_neg (by omega), if_neg (by omega), if_neg (by omega), if_pos hs]
  rw [em]
  unfold moveM
  by_cases hg : (nth H d.here).gone = true
  · rw [if_pos hg]
    exact start_keeps hok h hs5
  · rw [if_neg hg]
    have hg' : (nth H d.here).gone = false := by simpa using hg
    have hkk := h.key
    have h0 : 0 ≤ d.here := by
      have := hm.1
      unfold there at this
      by_cases e : 0 ≤ d.here
      · exact e
      · rw [if_neg e] at this; omega
    have hh : 1 ≤ d.here ∧ d.here < (H.length : Int) := by
      rcases W.2.2 with e | e
      · omega
      · exact e
    have hkey : (nth H d.here).key = d.key := by have := hm.1; unfold there at this; rw [if_pos h0] at this; exact this
    have hst : strikeOk H d.here (nth H d.here).next := ⟨by omega, ⟨h0, hh.2⟩, hg', rfl⟩
    rw [(strike_yes hst).2]
    obtain ⟨i, hi0, hi⟩ := has_nat (H := H) (p := d.here) ⟨h0, hh.2⟩
    have hin := h.inH h0 hg'
    rw [hi0] at hst hin hkey ⊢
    have hok' := heapOk_strike hok i hi _ hst
    have hown : d.own = -1 := by
      rcases F with F | ⟨a, -⟩
      · exact F
      · omega
    refine ⟨hok', done_mk h.kind h.key true (.inl hown), rfl, rfl, rfl, .inl ⟨rfl, hs5, by omega, .inr ⟨hm.2, ?_⟩⟩⟩
    have := strike_living hok i hi hin hok'
    rw [hkey] at this
    exact this

/-- one small move -/
theorem move_keeps {H : List C} {d : Hd} (hok : heapOk H) (h : OkH H d) : Keeps H d (move H d).1 (move H d).2 := by
  have hs := h.step
  rcases (by omega : d.step = 0 ∨ d.step = 1 ∨ d.step = 2 ∨ d.step = 3 ∨ d.step = 4 ∨ d.step = 5) with e | e | e | e | e | e
  · exact move_0 hok h e
  · exact move_1 hok h e
  · exact move_2 hok h e
  · exact move_3 hok h e
  · exact move_4 hok h e
  · have em : move H d = (H, d) := by unfold move; rw [if_neg (by omega), if_neg (by omega), if_neg (by omega), if_neg (by omega), if_neg (by omega)]
    rw [em]
    exact keeps_same hok h rfl rfl rfl (fun _ => .inl e)
end Go.Proofs.Ythjkhghlhjndmaa.ce
/- What a move of one hand leaves of the others, and who lives behind it: plain mathematics for many hands. -/
namespace Go.Proofs.Ythjkhghlhjndmaa.ce
open Go.ChangeShapes Go.WideShapes Go.ChangeAt Go.RowKit
set_option linter.unusedVariables false

/-- the heap H' came out of H by moves of a hand whose own cell is o -/
structure Later (H H' : List C) (o : Int) : Prop where
  len : H.length ≤ H'.length
  key : ∀ p, has H p → (nth H' p).key = (nth H p).key ∧ (nth H' p).value = (nth H p).value
  gone : ∀ p, has H p → (nth H' p).gone = false → (nth H p).gone = false
  stays : ∀ p, p ∈ chain H → (nth H' p).gone = false → p ∈ chain H'
  out : ∀ p, has H p → p ∉ chain H → p ≠ o → p ∉ chain H' ∧ (nth H' p).gone = (nth H p).gone ∧ (nth H' p).next = (nth H p).next
theorem later_refl (H : List C) (o : Int) : Later H H o := ⟨Nat.le_refl _, fun _ _ => ⟨rfl, rfl⟩, fun _ _ h => h, fun _ h _ => h, fun _ _ h _ => ⟨h, rfl, rfl⟩⟩

theorem later_ok {H H' : List C} {o : Int} {b : Hd} (u : Up H) (l : Later H H' o) (h : OkH H b) (hb : b.own = -1 ∨ b.own ≠ o) : OkH H' b := by
  have hl := l.len
  have hw : 0 ≤ b.here → has H b.here := fun h0 => by
    by_cases hs : b.step = 0 ∨ b.step = 5
    · have := (h.idle hs).2; omega
    · rcases (h.way hs).2.2 with e | e
      · omega
      · exact ⟨h0, e.2⟩
  have hv : 0 ≤ b.left → has H b.left := fun h0 => by
    by_cases hs : b.step = 0 ∨ b.step = 5
    · have := (h.idle hs).1; omega
    · exact (h.way hs).1
  have ht : there H' b = there H b := by
    unfold there
    split
    · rename_i h0; exact (l.key _ (hw h0)).1
    · rfl
  exact
  { kind := h.kind, key := h.key, step := h.step, idle := h.idle, told := h.told
    way := fun hs => by
      obtain ⟨h1, h2, h3⟩ := h.way hs
      refine ⟨⟨h1.1, by have := h1.2; omega⟩, by rw [(l.key _ h1).1]; exact h2, ?_⟩
      rcases h3 with e | e
      · exact .inl e
      · exact .inr ⟨e.1, by omega⟩
    inH := fun h0 hg => l.stays _ (h.inH h0 (l.gone _ (hw h0) hg)) hg
    inL := fun h0 hg => l.stays _ (h.inL h0 (l.gone _ (hv h0) hg)) hg
    act := fun e => by rw [ht]; exact h.act e
    link := fun e => by rw [ht]; exact h.link e
    mark := fun e => by rw [ht]; exact h.mark e
    own := by
      rcases h.own with e | ⟨a, b1, c, e, f, g⟩
      · exact .inl e
      · have hh : has H b.own := ⟨by omega, b1.2⟩
        have hne : b.own ≠ o := by rcases hb with q | q; (· omega); (· exact q)
        refine .inr ⟨a, ⟨b1.1, by omega⟩, by rw [(l.key _ hh).1]; exact c, by rw [(l.key _ hh).2]; exact e, fun e3 => ?_, ?_⟩
        · rcases g with g | g
          · omega
          · rw [(l.out _ hh g.2 hne).2.2]; exact f e3
        · rcases g with g | g
          · exact .inl g
          · obtain ⟨q1, q2, q3⟩ := l.out _ hh g.2 hne
            exact .inr ⟨by rw [q2]; exact g.1, q1⟩ }

theorem later_pass {H : List C} (hok : heapOk H) (i : Nat) (hi : i < H.length) (x o : Int) (hin : (i : Int) ∈ chain H) (hx : (nth H i).next = x) (hx0 : 0 ≤ x) (hg : (nth H x).gone = true) (hok' : heapOk (swapH H i (nth H x).next)) : Later H (swapH H i (nth H x).next) o := by
  obtain ⟨A, B, e1, e2⟩ := pass_chain hok i hi x hin hx hx0 hok'
  have nf := fun p => swapH_nth H i hi (nth H x).next p
  refine ⟨by rw [swapH_len]; exact Nat.le_refl _, fun p _ => ⟨(nf p).1, (nf p).2.1⟩, fun p _ h => by rw [(nf p).2.2] at h; exact h, fun p hp h => ?_, fun p hp hn _ => ⟨fun hm => hn ?_, (nf p).2.2, swapH_next H i _ p (fun e => hn ?_)⟩⟩
  · rw [(nf p).2.2] at h
    rw [e1] at hp
    rw [e2]
    have hpx : p ≠ x := fun e => by rw [e, hg] at h; cases h
    simp only [List.mem_append, List.mem_cons] at hp ⊢
    rcases hp with q | q | q | q
    · exact .inl q
    · exact .inr (.inl q)
    · exact absurd q hpx
    · exact .inr (.inr q)
  · rw [e2] at hm
    rw [e1]
    simp only [List.mem_append, List.mem_cons] at hm ⊢
    rcases hm with q | q | q
    · exact .inl q
    · exact .inr (.inl q)
    · exact .inr (.inr (.inr q))
  · have : p = (i : Int) := by have := hp.1; omega
    rw [this]; exact hin
theorem later_link {H : List C} (hok : heapOk H) (i : Nat) (hi : i < H.length) (o : Int) (ho : 0 ≤ o) (hin : (i : Int) ∈ chain H) (hon : (nth H o).next = (nth H i).next) (hoi : o ≠ i) (hok' : heapOk (swapH H i o)) : Later H (swapH H i o) o := by
  obtain ⟨A, B, e1, e2⟩ := link_chain hok i hi o ho hin hon hoi hok'
  have nf := fun p => swapH_nth H i hi o p
  refine ⟨by rw [swapH_len]; exact Nat.le_refl _, fun p _ => ⟨(nf p).1, (nf p).2.1⟩, fun p _ h => by rw [(nf p).2.2] at h; exact h, fun p hp h => ?_, fun p hp hn hpo => ⟨fun hm => hn ?_, (nf p).2.2, swapH_next H i _ p (fun e => hn ?_)⟩⟩
  · rw [e1] at hp
    rw [e2]
    simp only [List.mem_append, List.mem_cons] at hp ⊢
    rcases hp with q | q | q
    · exact .inl q
    · exact .inr (.inl q)
    · exact .inr (.inr (.inr q))
  · rw [e2] at hm
    rw [e1]
    simp only [List.mem_append, List.mem_cons] at hm ⊢
    rcases hm with q | q | q | q
    · exact .inl q
    · exact .inr (.inl q)
    · exact absurd q hpo
    · exact .inr (.inr q)
  · have : p = (i : Int) := by have := hp.1; omega
    rw [this]; exact hin
theorem later_strike {H : List C} (hok : heapOk H) (i : Nat) (hi : i < H.length) (o : Int) (hin : (i : Int) ∈ chain H) (hok' : heapOk (strikeH H i)) : Later H (strikeH H i) o := by
  have ec := strike_chain hok i hi hok'
  have nf := fun p => strikeH_nth H i hi p
  refine ⟨by rw [strikeH_len]; exact Nat.le_refl _, fun p _ => ⟨(nf p).1, (nf p).2.1⟩, fun p _ h => ?_, fun p hp h => by rw [ec]; exact hp, fun p hp hn _ => ⟨by rw [ec]; exact hn, ?_, (nf p).2.2.1⟩⟩
  · rw [(nf p).2.2.2] at h
    split at h
    · cases h
    · exact h
  · rw [(nf p).2.2.2, if_neg]
    intro e
    apply hn
    have : p = (i : Int) := by have := hp.1; omega
    rw [this]; exact hin
theorem later_fresh {H : List C} (hok : heapOk H) (c : C) (o : Int) (hok' : heapOk (H ++ [c])) : Later H (H ++ [c]) o := by
  have ec := fresh_chain hok c hok'
  exact ⟨by simp, fun p hp => by rw [nth_snoc H c p hp]; exact ⟨rfl, rfl⟩, fun p hp h => by rw [nth_snoc H c p hp] at h; exact h, fun p hp _ => by rw [ec]; exact hp, fun p hp hn _ => by rw [ec, nth_snoc H c p hp]; exact ⟨hn, rfl, rfl⟩⟩
theorem later_outside {H : List C} (hok : heapOk H) (i : Nat) (hi : i < H.length) (z : Int) (hout : (i : Int) ∉ chain H) (hok' : heapOk (swapH H i z)) : Later H (swapH H i z) (i : Int) := by
  have ec := outside_chain hok i z hout hok'
  have nf := fun p => swapH_nth H i hi z p
  refine ⟨by rw [swapH_len]; exact Nat.le_refl _, fun p _ => ⟨(nf p).1, (nf p).2.1⟩, fun p _ h => by rw [(nf p).2.2] at h; exact h, fun p hp h => by rw [ec]; exact hp, fun p hp hn hpo => ⟨by rw [ec]; exact hn, (nf p).2.2, swapH_next H i _ p (fun e => hpo ?_)⟩⟩
  have := hp.1
  omega

/-- what a move leaves of the others -/
theorem move_later {H : List C} {d : Hd} (hok : heapOk H) (h : OkH H d) : Later H (move H d).1 d.own := by
  have hs := h.step
  unfold move
  by_cases e0 : d.step = 0
  · rw [if_pos e0]; exact later_refl _ _
  rw [if_neg e0]
  by_cases e5 : d.step = 5
  · rw [if_neg (by omega), if_neg (by omega), if_neg (by omega), if_neg (by omega)]; exact later_refl _ _
  have W := h.way (by omega)
  have F := h.free e5
  obtain ⟨i, hi0, hi⟩ := has_nat W.1
  by_cases e1 : d.step = 1
  · rw [if_pos e1]
    unfold moveW
    by_cases hst : stops H d
    · rw [if_pos hst]; exact later_refl _ _
    · rw [if_neg hst]
      by_cases hg : (nth H d.here).gone = true
      · rw [if_pos hg]
        by_cases hsw : swapOk H d.left d.here (nth H d.here).next
        · rw [if_pos hsw]
          have hin : d.left ∈ chain H := h.inL W.1.1 hsw.1.2.1
          have hnl := hsw.1.2.2
          rw [hi0] at hsw hin hnl ⊢
          have hx0 : 0 ≤ d.here := by
            rcases W.2.2 with e | e
            · exact absurd (.inl e) hst
            · omega
          exact later_pass hok i hi d.here _ hin hnl hx0 hg (heapOk_swap hok i hi _ _ hsw)
        · rw [if_neg hsw]; exact later_refl _ _
      · rw [if_neg hg]; exact later_refl _ _
  rw [if_neg e1]
  by_cases e2 : d.step = 2
  · rw [if_pos e2]
    unfold moveA
    by_cases h3 : d.kind = 3
    · rw [if_pos h3]; exact later_refl _ _
    rw [if_neg h3]
    by_cases hn : d.kind = 1 ∧ found H d ∨ d.kind = 2 ∧ ¬ found H d
    · rw [if_pos hn]; exact later_refl _ _
    rw [if_neg hn]
    by_cases h1 : d.kind = 1
    · rw [if_pos h1]
      have K := (move_put hok h e2 h1 (fun q => hn (.inl ⟨h1, q⟩))).heap
      unfold movePut at K ⊢
      by_cases ho : d.own < 0
      · rw [if_pos ho] at K ⊢
        by_cases hN : freshN H d.key d.value d.here < 0
        · rw [if_pos hN]; exact later_refl _ _
        · rw [if_neg hN]
          obtain ⟨eN, eH, hok'⟩ := (fresh_two H d.key d.value d.here).resolve_left (by omega)
          show Later H (freshH H d.key d.value d.here) d.own
          rw [eH]
          exact later_fresh hok _ _ hok'
      · rw [if_neg ho] at K ⊢
        rcases F with F | ⟨a, b, c, f, g, z1, z2⟩
        · omega
        obtain ⟨j, hj0, hj⟩ := has_nat (H := H) (p := d.own) ⟨by omega, b.2⟩
        rw [hj0] at z2 K ⊢
        exact later_outside hok j hj _ z2 K
    · rw [if_neg h1]; exact later_refl _ _
  rw [if_neg e2]
  by_cases e3 : d.step = 3
  · rw [if_pos e3]
    unfold moveL
    by_cases hsw : swapOk H d.left d.here d.own
    · rw [if_pos hsw]
      have hin : d.left ∈ chain H := h.inL W.1.1 hsw.1.2.1
      have hnl := hsw.1.2.2
      rcases F with F | ⟨a, b, c, f, g, z1, z2⟩
      · have := (h.link e3).2.2; omega
      have hne : d.own ≠ d.left := fun e => z2 (by rw [e]; exact hin)
      rw [hi0] at hsw hin hnl hne ⊢
      exact later_link hok i hi d.own (by omega) hin (by rw [g e3, hnl]) hne (heapOk_swap hok i hi _ _ hsw)
    · rw [if_neg hsw]; exact later_refl _ _
  rw [if_neg e3, if_pos (by omega)]
  have e4 : d.step = 4 := by omega
  have K := (move_4 hok h e4).heap
  have em : move H d = moveM H d := by unfold move; rw [if_neg (by omega), if_neg (by omega), if_neg (by omega), if_neg (by omega), if_pos e4]
  rw [em] at K
  unfold moveM at K ⊢
  by_cases hg : (nth H d.here).gone = true
  · rw [if_pos hg]; exact later_refl _ _
  · rw [if_neg hg] at K ⊢
    have hg' : (nth H d.here).gone = false := by simpa using hg
    by_cases hst : strikeOk H d.here (nth H d.here).next
    · rw [(strike_yes hst).2] at K ⊢
      have hin := h.inH hst.2.1.1 hg'
      obtain ⟨j, hj0, hj⟩ := has_nat hst.2.1
      rw [hj0] at hin K ⊢
      exact later_strike hok j hj _ hin K
    · rw [(strike_no hst).2]; exact later_refl _ _
/-- the other hands stay right -/
theorem move_others {H : List C} {d b : Hd} (hok : heapOk H) (h : OkH H d) (hb : OkH H b) (hne : b.own = -1 ∨ b.own ≠ d.own) : OkH (move H d).1 b := later_ok (up_ok hok) (move_later hok h) hb hne
end Go.Proofs.Ythjkhghlhjndmaa.ce
/- A crew that is right stays so, whoever is picked: plain mathematics. -/
namespace Go.Proofs.Ythjkhghlhjndmaa.ce
open Go.ChangeShapes Go.WideShapes Go.ChangeAt Go.RowKit
set_option linter.unusedVariables false

/-- what a pick makes of heap and hands -/
def pickH (H : List C) (ds : List Hd) (i : Nat) (hi : i < ds.length) : List C := if ds[i].step = 5 then H else (move H ds[i]).1
def pickD (H : List C) (ds : List Hd) (i : Nat) (hi : i < ds.length) : List Hd := if ds[i].step = 5 then ds else ds.set i (move H ds[i]).2
/-- no two hands have the same cell of their own -/
def apart (ds : List Hd) : Prop := ∀ i k (hi : i < ds.length) (hk : k < ds.length), k ≠ i → 0 ≤ ds[i].own → ds[k].own ≠ ds[i].own
structure CrewOk (H : List C) (ds : List Hd) : Prop where
  heap : heapOk H
  le : ds.length ≤ 4
  hands : ∀ d ∈ ds, OkH H d
  apart : apart ds
/-- a move leaves a hand its own cell, or gives it a new one -/
theorem move_own (H : List C) (d : Hd) : (move H d).2.own = d.own ∨ (move H d).2.own = (H.length : Int) ∧ d.own < 0 ∧ (move H d).1.length = H.length + 1 := by
  unfold move
  split
  · exact .inl rfl
  split
  · unfold moveW
    split
    · exact .inl rfl
    split
    · split <;> exact .inl rfl
    · exact .inl rfl
  split
  · unfold moveA
    split
    · exact .inl rfl
    split
    · exact .inl rfl
    split
    · unfold movePut
      split
      · rename_i ho
        split
        · exact .inl rfl
        · rename_i hf
          refine .inr ?_
          have hok : heapOk H := Decidable.byContradiction fun q => hf (by unfold freshN; rw [if_neg q]; omega)
          have hfo : freshOk H d.key d.value d.here := Decidable.byContradiction fun q => hf (by unfold freshN; rw [if_pos hok, if_neg q]; omega)
          refine ⟨?_, ho, ?_⟩
          · show freshN H d.key d.value d.here = _
            unfold freshN; rw [if_pos hok, if_pos hfo]
          · show (freshH H d.key d.value d.here).length = _
            unfold freshH; rw [if_pos hok, if_pos hfo]; simp
      · exact .inl rfl
    · exact .inl rfl
  split
  · unfold moveL
    split <;> exact .inl rfl
  split
  · unfold moveM
    split <;> exact .inl rfl
  · exact .inl rfl
theorem own_lt {H : List C} {d : Hd} (h : OkH H d) : d.own < (H.length : Int) ∧ -1 ≤ d.own := by
  rcases h.own with q | q
  · exact ⟨by omega, by omega⟩
  · exact ⟨q.2.1.2, by have := q.2.1.1; omega⟩
theorem crew_pick {H : List C} {ds : List Hd} (c : CrewOk H ds) (i : Nat) (hi : i < ds.length) : CrewOk (pickH H ds i hi) (pickD H ds i hi) := by
  unfold pickH pickD
  by_cases h5 : ds[i].step = 5
  · rw [if_pos h5, if_pos h5]; exact c
  · rw [if_neg h5, if_neg h5]
    have ok := c.hands _ (List.getElem_mem hi)
    have kp := move_keeps c.heap ok
    have others : ∀ k (hk : k < ds.length), k ≠ i → OkH (move H ds[i]).1 ds[k] := fun k hk hne => by
      refine move_others c.heap ok (c.hands _ (List.getElem_mem hk)) ?_
      by_cases h0 : 0 ≤ ds[k].own
      · exact .inr fun q => c.apart k i hk hi (Ne.symm hne) h0 q.symm
      · have := (own_lt (c.hands _ (List.getElem_mem hk))).2
        exact .inl (by omega)
    refine ⟨kp.heap, by rw [List.length_set]; exact c.le, fun d hd => ?_, ?_⟩
    · obtain ⟨k, hk, rfl⟩ := List.getElem_of_mem hd
      have hk' : k < ds.length := by rw [List.length_set] at hk; exact hk
      rw [List.getElem_set]
      split
      · exact kp.hand
      · rename_i hne; exact others k hk' (fun q => hne q.symm)
    · intro a b ha hb hne h0
      have ha' : a < ds.length := by rw [List.length_set] at ha; exact ha
      have hb' : b < ds.length := by rw [List.length_set] at hb; exact hb
      rw [List.getElem_set] at h0 ⊢
      rw [List.getElem_set]
      have mo := move_own H ds[i]
      have lt : ∀ k (hk : k < ds.length), ds[k].own < (H.length : Int) := fun k hk => (own_lt (c.hands _ (List.getElem_mem hk))).1
      split
      · rename_i e1
        subst e1
        rw [if_neg hne] at h0
        rw [if_neg hne]
        rcases mo with q | q
        · rw [q]; exact c.apart a i ha' hi hne h0
        · rw [q.1]; have := lt a ha'; omega
      · rename_i e1
        split
        · rename_i e2
          subst e2
          rw [if_pos rfl] at h0
          rcases mo with q | q
          · rw [q] at h0 ⊢; exact c.apart i b hi hb' hne h0
          · rw [q.1]; have := lt b hb'; omega
        · rename_i e2
          rw [if_neg e2] at h0
          exact c.apart a b ha' hb' hne h0
end Go.Proofs.Ythjkhghlhjndmaa.ce
