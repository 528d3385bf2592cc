/- Texts laid together: It2 In1 Sp4 Sp5 Sp6 It3 HdMath1 HdMath2 It7 Ih2 Rg1 Ih3 Ih4. -/
import Derived.Test.YtodpbghkjnlfdaaMg04
import Derived.Test.YtodpbghkjnlfdaaCe5
import Derived.Test.YtodpbghkjnlfdaaRows
import Derived.RangeFuncBox
import Derived.Maps.AppendAt
import Derived.Deep.RegionHeld3
import Derived.Maps.RangeWalk
import Derived.BigQuiet
/- The chain's iterator: what it yields, one by one. -/
namespace Go.Proofs.Ytodpbghkjnlfdaa.it
open Go.RowKit Go.Shelf Go.Proofs.Ytodpbghkjnlfdaa.ce
set_option linter.unusedVariables false

abbrev T1 : TypeId := 58
abbrev T2 : TypeId := 70
def links (H : List C) (L : List Int) : List (Int × C) := L.map fun p => (p, nth H p)
def encL (x : Int × C) : Array Value := #[.int .i64 x.1, .agg #[.int .i64 x.2.key, .int .i64 x.2.value, .int .i64 x.2.next, .bool x.2.gone]]

theorem chained_any (v : Value) (a : Option Addr) (n cap : Nat) (hv : v = .slice a n cap) (w : World) :
    Calls Try.prog 78 #[v] w fun e w' => e = .returned (.func (.func 86) #[] #[.pointer (some ⟨w.heap.size, 0, none⟩)]) ∧ w' = w.alloc (.cells #[v] T1) := by
  subst hv
  go_enter Try.func78, Try.ntmps78
  go_wp2
  go_ret
  exact ⟨rfl, rfl⟩

theorem links_snoc (H : List C) (A : List Int) (p : Int) : links H (A ++ [p]) = links H A ++ [(p, nth H p)] := by simp [links]

set_option maxRecDepth 100000 in
set_option maxHeartbeats 2000000 in
theorem chained1_seq (H : List C) (u : Up H) (hlen : H.length ≤ 1048576) (v : Value) (hi n₀ Bn : Nat) (w : World) (hn₀ : n₀ ≤ w.heap.size) (hh : hi ≤ n₀) (hB : Boxed w Bn T1 v) (r : Rd w hi v H) (n : Nat) :
    Seq n Try.prog 86 #[.pointer (some ⟨Bn, 0, none⟩)] encL T1 T2 n₀ (links H (chain H)) w := by
  intro l J Jx W hW hJ hJx hY h0
  have hBW : Boxed W Bn T1 v := (hW.block Bn hB.lt).trans hB
  have rW : Rd W hi v H := r.below hW (by omega)
  obtain ⟨a, cap, rfl⟩ := r.form
  clear r hB
  refine callsIn_of_wp Try.func86 rfl trivial ?_ rfl
  simp only [Try.ntmps86, List.size_toArray, List.length_cons, List.length_nil, Nat.reduceAdd, Nat.reduceSub, Array.replicate_succ, Array.replicate_zero, List.push_toArray, List.append_toArray, List.nil_append, List.cons_append]
  gi_wp2
  gi_loopw [3] (fun p wr => ∃ (A L : List Int) (q : Int), p = .int .i64 q ∧ chain H = A ++ L ∧ Ch H q L ∧ (q = -1 ∨ ce.has H q) ∧ Boxed wr Bn T1 (.slice a H.length cap) ∧ Rd wr hi (.slice a H.length cap) H ∧ J (links H A) wr)
    (fun p wr => left H (intOf p))
  case atStart =>
    exact ⟨[], chain H, 0, rfl, rfl, chain_ch u, .inr (has_zero u), hBW, rW, h0⟩
  case round =>
    obtain ⟨A, L, q, rfl, hc, hch, hq, hb, hr, hj⟩ := hrel
    cases L with
    | nil =>
      have hq0 : q < 0 := hch
      obtain rfl : q = -1 := by rcases hq with e | e; (· exact e); (· have := e.1; omega)
      gi_wp2
      go_end0
      exact ⟨⟨_, rfl⟩, .inl (by first | exact hj | (rw [hc, List.append_nil]; exact hj))⟩
    | cons y L =>
      obtain ⟨rfl, hq0, hch'⟩ := hch
      have hh1 : ce.has H q := by rcases hq with e | e; (· omega); (· exact e)
      obtain ⟨i, rfl⟩ : ∃ i : Nat, q = i := ⟨q.toNat, by omega⟩
      have hi1 : i < H.length := by have := hh1.2; omega
      have hi1' : (i : Int) < H.length := by omega
      have en := nth_nat H i hi1
      have hne : (((i : Int) == -1) = false) := by simp
      obtain ⟨b, off, rfl, hbh, c0, c1, c2, c3⟩ := hr.cell i hi1
      have hbc := hb.cell
      obtain ⟨fn, tmps, assign, body, hy, hR⟩ := hY (links H A) ((i : Int), nth H i) (links H L) wr (by rw [hc]; simp [links]) hj
      rw [en] at hy
      dsimp only [encL] at hy
      gi_wp2
      refine ⟨fun h => (by cases h), hR.mono ?_⟩
      rintro e W3 (⟨rfl, hj3, hk3, -⟩ | ⟨rfl, hx3, -⟩)
      · have hb3 := hk3.box Bn T1 _ (.inl rfl) hb
        have hr3 := hr.below hk3.below hh
        have hbc3 := hb3.cell
        have c23 : W3.cell? ⟨b, off + i * 4 + 2, none⟩ = some (.int .i64 (H[i]).next) := (hk3.below.cell (p := ⟨b, off + i * 4 + 2, none⟩) (Nat.lt_of_lt_of_le hbh hh)).trans c2
        clear hbc c0 c1 c2 c3
        gi_wp2
        go_roundw
        case rel =>
          refine ⟨A ++ [(i : Int)], L, (H[i]).next, rfl, by simp [hc], by rw [← en]; exact hch', ?_, hb3, hr3, by rw [links_snoc]; exact hj3⟩
          rw [← en]
          rcases u.next _ hh1 with e | e
          · exact .inl e
          · exact .inr e.1
        case measure =>
          show left H (H[i]).next < left H (i : Int)
          rw [← en]
          exact left_lt u hh1
      · gi_wp2
        refine bodyPost_ret (results_none rfl _ _ _) rfl ?_
        exact ⟨⟨_, rfl⟩, .inr ⟨_, links H L, by rw [hc]; simp [links], hx3⟩⟩
end Go.Proofs.Ytodpbghkjnlfdaa.it
/- Rows of int64 in memory: how one is read, how one that a call made is owned, appended to and stored into; the laws' helpers on them. -/
namespace Go.Proofs.Ytodpbghkjnlfdaa.ce
open Go.ChangeShapes Go.WideShapes Go.ChangeAt Go.RowKit
set_option linter.unusedVariables false

def ivs (xs : List Int) : List Value := xs.map (Value.int .i64)
theorem ivs_len (xs : List Int) : (ivs xs).length = xs.length := by simp [ivs]
theorem ivs_append (xs ys : List Int) : ivs (xs ++ ys) = ivs xs ++ ivs ys := by simp [ivs]
theorem ivs_get (xs : List Int) (i : Nat) (hi : i < xs.length) : (ivs xs)[i]? = some (.int .i64 xs[i]) := by simp [ivs, hi]
theorem ivs_one (xs : List Int) : ∀ v ∈ ivs xs, v.oneCell' = true := by
  intro v hv
  obtain ⟨x, -, rfl⟩ := List.mem_map.1 hv
  rfl

/-- the numbers xs are read at the slice v, in blocks under hi -/
structure RdI (w : World) (hi : Nat) (v : Value) (xs : List Int) : Prop where
  fits : ∃ a cap, v = .slice a xs.length cap ∧ xs.length ≤ cap ∧ cap ≤ maxLen ∧ (xs ≠ [] → ∃ b off, a = some ⟨b, off, none⟩ ∧ b < hi ∧ w.rangeAt b off (ivs xs))
theorem RdI.keep {w w' : World} {hi : Nat} {v : Value} {xs : List Int} (r : RdI w hi v xs) (s : ∀ k, k < hi → w'.heap[k]? = w.heap[k]?) : RdI w' hi v xs := by
  obtain ⟨a, cap, e, h1, h2, h3⟩ := r.fits
  refine ⟨a, cap, e, h1, h2, fun hn => ?_⟩
  obtain ⟨b, off, e2, h4, h5⟩ := h3 hn
  exact ⟨b, off, e2, h4, range_of h5 (s b h4)⟩
theorem RdI.below {w w' : World} {hi B : Nat} {v : Value} {xs : List Int} (r : RdI w hi v xs) (hb : Below B w w') (hB : hi ≤ B) : RdI w' hi v xs := r.keep fun k hk => hb.block k (by omega)
theorem RdI.drew {w : World} {hi : Nat} {v : Value} {xs : List Int} (r : RdI w hi v xs) : RdI w.drew hi v xs := r.keep fun k hk => rfl
theorem RdI.drewN {w : World} {hi : Nat} {v : Value} {xs : List Int} (r : RdI w hi v xs) (n : Nat) : RdI (w.drewN n) hi v xs := r.keep fun k hk => rfl
theorem RdI.wide {w : World} {hi hi' : Nat} {v : Value} {xs : List Int} (r : RdI w hi v xs) (hh : hi ≤ hi') : RdI w hi' v xs := by
  obtain ⟨a, cap, e, h1, h2, h3⟩ := r.fits
  refine ⟨a, cap, e, h1, h2, fun hn => ?_⟩
  obtain ⟨b, off, e2, h4, h5⟩ := h3 hn
  exact ⟨b, off, e2, by omega, h5⟩
theorem RdI.form {w : World} {hi : Nat} {v : Value} {xs : List Int} (r : RdI w hi v xs) : ∃ a cap, v = .slice a xs.length cap := by
  obtain ⟨a, cap, e, -⟩ := r.fits
  exact ⟨a, cap, e⟩
theorem RdI.len {w : World} {hi : Nat} {v : Value} {xs : List Int} (r : RdI w hi v xs) : xs.length ≤ 9223372036854775807 := by
  obtain ⟨a, cap, e, h1, h2, h3⟩ := r.fits
  unfold maxLen at h2; omega
theorem RdI.cell {w : World} {hi n cap : Nat} {a : Option Addr} {xs : List Int} (r : RdI w hi (.slice a n cap) xs) (i : Nat) (hi' : i < xs.length) : ∃ b off, a = some ⟨b, off, none⟩ ∧ b < hi ∧ w.cell? ⟨b, off + i, none⟩ = some (.int .i64 xs[i]) := by
  obtain ⟨a', cap', e, h1, h2, h3⟩ := r.fits
  cases e
  obtain ⟨b, off, rfl, h4, h5⟩ := h3 (by intro e; subst e; simp at hi')
  exact ⟨b, off, rfl, h4, h5 i _ (ivs_get xs i hi')⟩

/-- the numbers xs lie in a row of their own in a block from lo up to hi -/
structure OwnI (w : World) (lo hi : Nat) (v : Value) (xs : List Int) : Prop where
  row : w.ownsRow lo 2 1 v xs.length (ivs xs)
  top : ∀ g, v.ownBlock = some g → g < hi
theorem OwnI.keep {w w' : World} {lo hi : Nat} {v : Value} {xs : List Int} (o : OwnI w lo hi v xs) (s : ∀ k, lo ≤ k → k < hi → w'.heap[k]? = w.heap[k]?) : OwnI w' lo hi v xs := by
  refine ⟨⟨o.row.1, ?_⟩, o.top⟩
  rcases o.row.2 with h | ⟨g, cap, cur, rfl, hg, hb, h⟩
  · exact .inl h
  · exact .inr ⟨g, cap, cur, rfl, hg, by rw [s g hg (o.top g rfl)]; exact hb, h⟩
theorem OwnI.below {w w' : World} {lo hi B : Nat} {v : Value} {xs : List Int} (o : OwnI w lo hi v xs) (hb : Below B w w') (hB : hi ≤ B) : OwnI w' lo hi v xs := o.keep fun k _ h2 => hb.block k (by omega)
theorem OwnI.wide {w : World} {lo hi lo' hi' : Nat} {v : Value} {xs : List Int} (o : OwnI w lo hi v xs) (h1 : lo' ≤ lo) (h2 : hi ≤ hi') : OwnI w lo' hi' v xs := by
  refine ⟨⟨o.row.1, ?_⟩, fun g hg => by have := o.top g hg; omega⟩
  rcases o.row.2 with h | ⟨g, cap, cur, rfl, hg, hb, h⟩
  · exact .inl h
  · exact .inr ⟨g, cap, cur, rfl, by omega, hb, h⟩
theorem OwnI.form {w : World} {lo hi : Nat} {v : Value} {xs : List Int} (o : OwnI w lo hi v xs) (hn : 1 ≤ xs.length) :
    ∃ g cap, v = .slice (some ⟨g, 0, none⟩) xs.length cap ∧ lo ≤ g ∧ g < hi ∧ g < w.heap.size := by
  rcases o.row.2 with ⟨_, h0⟩ | ⟨g, cap, cur, rfl, hg, hb, hc1, hc2, hc3, htk⟩
  · omega
  · exact ⟨g, cap, rfl, hg, o.top g rfl, (Array.getElem?_eq_some_iff.1 hb).1⟩
theorem OwnI.rd {w : World} {lo hi : Nat} {v : Value} {xs : List Int} (o : OwnI w lo hi v xs) : RdI w hi v xs := by
  rcases o.row.2 with ⟨rfl, h0⟩ | ⟨g, cap, cur, rfl, hg, hb, hc1, hc2, hc3, htk⟩
  · have e := List.eq_nil_of_length_eq_zero h0
    subst e
    exact ⟨none, 0, rfl, Nat.le_refl _, Nat.zero_le _, fun h => absurd rfl h⟩
  · refine ⟨some ⟨g, 0, none⟩, cap, rfl, hc1, hc2, fun _ => ⟨g, 0, rfl, o.top g rfl, fun j u hj => ?_⟩⟩
    rw [cell_of_row _ _ _ _ _ _ hb]
    rw [← htk, List.getElem?_take] at hj
    split at hj
    · simpa using hj
    · cases hj
theorem ownI_none (w : World) (lo hi : Nat) : OwnI w lo hi (.slice none 0 0) [] := ⟨World.ownsRow_nil w lo _ 1, fun g h => by cases h⟩
theorem ownI_empty (w : World) : OwnI (w.alloc (.cells #[] 2)) w.heap.size (w.heap.size + 1) (.slice (some ⟨w.heap.size, 0, none⟩) 0 0) [] :=
  ⟨⟨rfl, .inr ⟨w.heap.size, 0, #[], rfl, Nat.le_refl _, heap_alloc_new _ _, Nat.le_refl _, by unfold maxLen; omega, rfl, rfl⟩⟩, fun g hg => by cases hg; exact Nat.lt_succ_self _⟩
theorem OwnI.len {w : World} {lo hi n cap : Nat} {a : Option Addr} {xs : List Int} (o : OwnI w lo hi (.slice a n cap) xs) : n = xs.length := by
  rcases o.row.2 with ⟨e, h0⟩ | ⟨g, cap', cur, e, -⟩
  · cases e; omega
  · cases e; rfl
theorem OwnI.set {w : World} {lo hi g n cap : Nat} {xs : List Int} (o : OwnI w lo hi (.slice (some ⟨g, 0, none⟩) n cap) xs) (i : Nat) (x : Int) :
    OwnI (w.setCell ⟨g, i, none⟩ (.int .i64 x)) lo hi (.slice (some ⟨g, 0, none⟩) n cap) (xs.set i x) := by
  have e := o.len
  subst e
  have := (o.row.stored i (.int .i64 x)).1
  rw [show (ivs xs).set i (.int .i64 x) = ivs (xs.set i x) by simp [ivs, List.map_set]] at this
  exact ⟨by rw [List.length_set]; exact this, o.top⟩
theorem OwnI.frozen {w : World} {lo hi g n cap : Nat} {xs : List Int} (o : OwnI w lo hi (.slice (some ⟨g, 0, none⟩) n cap) xs) (j : Nat) : w.frozen? ⟨g, j, none⟩ = false := by
  have e := o.len
  subst e
  exact o.row.frozenAt j

theorem infoI : ∃ i : TypeInfo, Try.prog.info? 2 = some i ∧ i.zero = some (.int .i64 0) ∧ i.size = 1 ∧ i.bytes = 8 := by
  have h : (Try.prog.info? 2).map (fun i => (i.zero, i.size, i.bytes)) = some (some (.int .i64 0), 1, 8) := by kernel_rfl
  obtain ⟨i, hi, hz⟩ := Option.map_eq_some_iff.1 h
  simp only [Prod.mk.injEq] at hz
  exact ⟨i, hi, hz.1, hz.2.1, hz.2.2⟩
/-- numbers are appended to numbers that the call made -/
theorem wpList_append_i {o : Oper} {a : Act} {w : World} {ops : Array Oper} {rest : List Oper} {Q : Exit → Act → World → Prop} (hgd : o.guard = none) (s x : Operand) (t : TypeId) (ho : o.op = .call { callee := .builtin .append, args := #[s, x], argTypes := #[t, t] }) (ht : Try.prog.underlying t = some (.slice 2))
    (lo hi : Nat) (v : Value) (xs : List Int) (hs : a.eval s = v) (hown : OwnI w lo hi v xs) (hlo : lo ≤ w.heap.size) (b off m c : Nat) (ys : List Int) (hx : a.eval x = .slice (some ⟨b, off, none⟩) m c) (hm : ys.length = m) (hr : w.rangeAt b off (ivs ys)) (hlen : xs.length + m ≤ 1048576)
    (h : ∀ v' w', OwnI w' lo w'.heap.size v' (xs ++ ys) → Below lo w w' → wpList Try.prog ops Q rest (a.put o.dst v') w') : wpList Try.prog ops Q (o :: rest) a w := by
  obtain ⟨i0, hi0, hz0, hz1, hz2⟩ := infoI
  subst hm
  refine wpList_append_own _ hgd s x t ho lo 2 i0 _ 1 8 ht hi0 hz0 hz1 hz2 rfl (by decide) v xs.length (ivs xs) hs hown.row ⟨b, off, none⟩ ys.length c (ivs ys) hx (by rw [ivs_len, Nat.mul_one]) (fun j u hj => by rw [Addr.add_mid]; exact hr j u hj) (ivs_one ys) (by unfold maxLen; omega) (by omega) hlo ?_
  intro v' w' h2 h3 h4
  rw [← ivs_append] at h2
  refine h v' w' ⟨by rw [List.length_append]; exact h2, fun g hg => (h2.lt g hg).2⟩ (below_grown h3 hlo fun k hk => (hown.row.lt k hk).1)
theorem one_range (w : World) (x : Int) : (w.alloc (.cells #[.int .i64 x] 2)).rangeAt w.heap.size 0 (ivs [x]) := by
  have h : VBlk (w.alloc (.cells #[.int .i64 x] 2)) w.heap.size 2 [.int .i64 x] := heap_alloc_new _ _
  exact h.range

/-- the empty row g that was laid before lo, or a row of its own from lo on -/
def OutI (w : World) (g lo hi : Nat) (v : Value) (xs : List Int) : Prop := (xs = [] ∧ v = .slice (some ⟨g, 0, none⟩) 0 0) ∨ OwnI w lo hi v xs
theorem OutI.keep {w w' : World} {g lo hi : Nat} {v : Value} {xs : List Int} (o : OutI w g lo hi v xs) (s : ∀ k, lo ≤ k → k < hi → w'.heap[k]? = w.heap[k]?) : OutI w' g lo hi v xs := by
  rcases o with h | h
  · exact .inl h
  · exact .inr (h.keep s)
theorem OutI.below {w w' : World} {g lo hi B : Nat} {v : Value} {xs : List Int} (o : OutI w g lo hi v xs) (hb : Below B w w') (hB : hi ≤ B) : OutI w' g lo hi v xs := o.keep fun k _ h2 => hb.block k (by omega)
theorem OutI.own {w : World} {g lo lo' hi : Nat} {v : Value} {xs : List Int} (o : OutI w g lo hi v xs) (hl : lo' ≤ lo) (hg : OwnI w lo' hi (.slice (some ⟨g, 0, none⟩) 0 0) []) : OwnI w lo' hi v xs := by
  rcases o with ⟨rfl, rfl⟩ | h
  · exact hg
  · exact h.wide hl (Nat.le_refl _)
/-- numbers are appended; what lay below lo stays -/
theorem wpList_append_o {o : Oper} {a : Act} {w : World} {ops : Array Oper} {rest : List Oper} {Q : Exit → Act → World → Prop} (hgd : o.guard = none) (s x : Operand) (t : TypeId) (ho : o.op = .call { callee := .builtin .append, args := #[s, x], argTypes := #[t, t] }) (ht : Try.prog.underlying t = some (.slice 2))
    (g lo hi : Nat) (v : Value) (xs : List Int) (hs : a.eval s = v) (hown : OutI w g lo hi v xs) (hlo : lo ≤ w.heap.size) (b m c : Nat) (ys : List Int) (hx : a.eval x = .slice (some ⟨b, 0, none⟩) m c) (hm : ys.length = m) (hm1 : 1 ≤ m) (hr : w.rangeAt b 0 (ivs ys)) (hlen : xs.length + m ≤ 1048576)
    (h : ∀ v' w', OwnI w' lo w'.heap.size v' (xs ++ ys) → Below lo w w' → wpList Try.prog ops Q rest (a.put o.dst v') w') : wpList Try.prog ops Q (o :: rest) a w := by
  rcases hown with ⟨rfl, rfl⟩ | hown
  · obtain ⟨i0, hi0, hz0, hz1, hz2⟩ := infoI
    subst hm
    obtain ⟨v', w', hrun, h2, h3⟩ := run_append_arg_grows (P := Try.prog) (w := w) t o.type 2 i0 _ 1 8 ht hi0 hz0 hz1 hz2 rfl (by decide) ⟨g, 0, none⟩ 0 0 [] rfl (fun j u hj => by simp at hj) ⟨b, 0, none⟩ ys.length c (ivs ys) (by rw [ivs_len, Nat.mul_one]) (fun j u hj => by rw [Addr.add_mid]; exact hr j u hj) (by omega) (by unfold maxLen; simp at hlen; omega) (by simp at hlen; omega)
    simp only [List.nil_append, Nat.zero_add] at h2
    refine wpList_val hgd (v := v') (w' := w') ?_ (h v' w' ⟨?_, fun g hg => (h2.lt g hg).2⟩ ?_)
    · simp [execOp, ho, resolve, invoke, builtin, hs, hx, hrun, Result.andThen]
    · refine ⟨by rw [ivs_len]; simp, ?_⟩
      rcases h2.2 with ⟨e, h0⟩ | ⟨g', cap', cur, e, hg', rest'⟩
      · exact .inl ⟨e, h0⟩
      · exact .inr ⟨g', cap', cur, e, Nat.le_trans hlo hg', rest'⟩
    · exact (below_grown h3 (Nat.le_refl _) fun k hk => by cases hk).mono hlo
  · exact wpList_append_i hgd s x t ho ht lo hi v xs hs hown hlo b 0 m c ys hx hm hr hlen h

/-! ### the laws' helpers -/
theorem likeInts_any (xs : List Int) (v v' : Value) (hi hi' : Nat) (w : World) (hh : hi ≤ w.heap.size) (hh' : hi' ≤ w.heap.size) (r : RdI w hi v xs) (r' : RdI w hi' v' xs) :
    Calls Try.prog 31 #[v, v'] w fun e w' => e = .returned (.bool true) ∧ Below w.heap.size w w' := by
  have hl := r.len
  obtain ⟨a, cap, rfl⟩ := r.form
  obtain ⟨a', cap', rfl⟩ := r'.form
  have R : Hid (RdI w hi (.slice a xs.length cap) xs) := r
  have R' : Hid (RdI w hi' (.slice a' xs.length cap') xs) := r'
  clear r r'
  go_enter Try.func31, Try.ntmps31
  go_wp2
  go_loopw [5] (fun v' wr => ∃ i : Nat, i ≤ xs.length ∧ v' = .int .i64 i ∧ Below w.heap.size w wr) (fun v' _ => xs.length - (intOf v').toNat)
  case atStart => exact ⟨0, by omega, rfl, Below.refl _ _⟩
  case round =>
    obtain ⟨i, hi1, rfl, hBr⟩ := hrel
    by_cases hlt : i < xs.length
    · obtain ⟨b, off, rfl, hb, d0⟩ := (R.out.below hBr hh).cell i hlt
      obtain ⟨b', off', rfl, hb', e0⟩ := (R'.out.below hBr hh').cell i hlt
      obtain ⟨z, hz⟩ := hid_ex (xs[i])
      rw [hz.out] at d0 e0
      have hlt' : (i : Int) < xs.length := by omega
      go_wp2
      go_region_held3 (fun w' => w'.cell? ⟨b, off + i, none⟩ = some (.int .i64 z) ∧ w'.cell? ⟨b', off' + i, none⟩ = some (.int .i64 z)) (first | assumption | exact ⟨d0, e0⟩) (fail)
      go_wp2
      go_roundw
      case rel => exact ⟨i + 1, by omega, by go_num, hBr.drew⟩
      case measure => simp [intOf]; omega
    · go_wp2
      go_ret
      exact ⟨rfl, hBr⟩

def imarks (k : Int) (n : Nat) : List Int := (List.range n).map fun j : Nat => k + (j : Int)
theorem imarks_len (k : Int) (n : Nat) : (imarks k n).length = n := by simp [imarks]
theorem imarks_succ (k : Int) (n : Nat) : imarks k (n + 1) = imarks k n ++ [k + (n : Int)] := by simp [imarks, List.range_succ]
theorem imarks_get (k : Int) (n i : Nat) (h : i < (imarks k n).length) : (imarks k n)[i] = k + (i : Int) := by simp [imarks]

end Go.Proofs.Ytodpbghkjnlfdaa.ce
/- Contracts: the model's chapter 4. -/
namespace Go.Proofs.Ytodpbghkjnlfdaa.ce
open Go.ChangeShapes Go.WideShapes Go.ChangeAt Go.RowKit
set_option linter.unusedVariables false

theorem l4Chain_any (H : List C) (u : Up H) (hlen : H.length ≤ 1048576) (v : Value) (hi : Nat) (w : World) (hh : hi ≤ w.heap.size) (r : Rd w hi v H) :
    Calls Try.prog 59 #[v] w fun e w' => ∃ v', e = .returned v' ∧ OwnI w' w.heap.size w'.heap.size v' (chain H) ∧ Below w.heap.size w w' := by
  obtain ⟨a, cap, rfl⟩ := r.form
  have R : Hid (Rd w hi (.slice a H.length cap) H) := r
  have U : Hid (Up H) := u
  have hcl : (chain H).length ≤ 65536 := chain_len u
  clear r
  go_enter Try.func59, Try.ntmps59
  go_wp2
  go_loopw [3, 4] (fun vv p wr => ∃ (A L : List Int) (q : Int), p = .int .i64 q ∧ Hid (chain H = A ++ L) ∧ Hid (Ch H q L) ∧ Hid (q = -1 ∨ has H q) ∧ OwnI wr w.heap.size wr.heap.size vv A ∧ Below w.heap.size w wr) (fun _ p _ => left H (intOf p))
  case atStart => exact ⟨[], chain H, 0, rfl, (rfl : chain H = [] ++ chain H), chain_ch u, .inr (has_zero u), (ownI_empty w).wide (Nat.le_refl _) (by simp), (Below.refl _ w).alloc (Nat.le_refl _) _⟩
  case round =>
    obtain ⟨A, L, q, rfl, hc, hch, hq, ho, hBr⟩ := hrel
    cases L with
    | nil =>
      have hq0 : q < 0 := hch.out
      have hq1 : ¬ (0 ≤ q) := by omega
      have e : Hid (chain H = A) := by unfold Hid; rw [hc.out, List.append_nil]
      go_wp2
      go_ret
      exact ⟨_, rfl, by rw [e.out]; exact ho, hBr⟩
    | cons y L =>
      obtain ⟨hy, hq0, hch'⟩ := hch.out
      subst hy
      have hh1 : has H q := by rcases hq.out with e | e; (· omega); (· exact e)
      obtain ⟨i, rfl⟩ : ∃ i : Nat, q = i := ⟨q.toNat, by omega⟩
      have hi1 : i < H.length := by have := hh1.2; omega
      have hi1' : (i : Int) < H.length := by omega
      have en := nth_nat H i hi1
      have hAl : A.length + 1 ≤ 65536 := by rw [hc.out] at hcl; simp at hcl; omega
      have hbs := hBr.size
      obtain ⟨b, off, rfl, hbh, c0, c1, c2, c3⟩ := (R.out.below hBr hh).cell i hi1
      obtain ⟨z, hz⟩ := hid_ex (H[i])
      rw [hz.out] at c2 en
      clear c0 c1 c3
      have hBa : Below w.heap.size w (wr.alloc (.cells #[.int .i64 (i : Int)] 2)) := hBr.alloc hbs _
      go_wp2_with (first | (at_builtin; refine wpList_append_i rfl _ _ 46 rfl Try.underlying46 w.heap.size _ _ A rfl (ho.below ((Below.refl wr.heap.size wr).alloc (Nat.le_refl _) _) (Nat.le_refl _)) (by simp; omega) wr.heap.size 0 1 1 [(i : Int)] rfl rfl (one_range wr _) (by simp; omega) ?_; intro v' w2 hO2 hB2; have c22 : w2.cell? ⟨b, off + i * 4 + 2, none⟩ = some (.int .i64 z.next) := (by rw [hB2.cell (by show b < w.heap.size; omega), Below.cell ((Below.refl wr.heap.size wr).alloc (Nat.le_refl _) _) (by show b < wr.heap.size; omega)]; exact c2)) | (fail))
      go_roundw
      case rel => exact ⟨A ++ [(i : Int)], L, z.next, rfl, (by unfold Hid; rw [hc.out]; simp), (by unfold Hid; rw [← en]; exact hch'), (by unfold Hid; rw [← en]; exact next_or u hh1), hO2, hBa.trans hB2⟩
      case measure =>
        show left H z.next < left H (i : Int)
        rw [← en]
        exact left_lt u hh1

theorem specChain_any (H : List C) (v : Value) (hi : Nat) (w : World) (hh : hi ≤ w.heap.size) (r : Rd w hi v H) :
    Calls Try.prog 56 #[v] w fun e w' => ∃ v', e = .returned v' ∧ OwnI w' w.heap.size w'.heap.size v' (chainL H) ∧ Below w.heap.size w w' := by
  obtain ⟨a, cap, rfl⟩ := r.form
  have R : Hid (Rd w hi (.slice a H.length cap) H) := r
  clear r
  by_cases hok : heapOk H
  · have HK : Hid (decide (heapOk H) = true) := decide_eq_true hok
    have eL : Hid (chainL H = chain H) := if_pos hok
    rw [eL.out]
    have h2 : H.length ≤ 1048576 := by have := hok.1.2; omega
    have U : Hid (Up H) := up_ok hok
    clear hok
    go_enter Try.func56, Try.ntmps56
    go_wp2_with (first | (go_at_call 34; refine (specHeapOk_any H _ hi _ hh R.out).mono ?_; rintro e w1 ⟨rfl, hB1⟩; rw [HK.out]; have hz1 := hB1.size) | (go_at_call 59; refine (l4Chain_any H U.out h2 _ hi _ (by omega) (R.out.below hB1 hh)).mono ?_; rintro e w2 ⟨v2, rfl, hO2, hB2⟩) | (fail))
    go_ret
    exact ⟨_, rfl, hO2.wide (by omega) (Nat.le_refl _), hB1.trans (hB2.mono hz1)⟩
  · have HK : Hid (decide (heapOk H) = false) := decide_eq_false hok
    have eL : Hid (chainL H = []) := if_neg hok
    rw [eL.out]
    clear hok
    go_enter Try.func56, Try.ntmps56
    go_wp2_with (first | (go_at_call 34; refine (specHeapOk_any H _ hi _ hh R.out).mono ?_; rintro e w1 ⟨rfl, hB1⟩; rw [HK.out]; have hz1 := hB1.size) | (fail))
    go_ret
    exact ⟨_, rfl, (ownI_empty w1).wide (by omega) (by simp), hB1.alloc (by omega) _⟩
end Go.Proofs.Ytodpbghkjnlfdaa.ce
/- Contracts: the model's chapter 4, those that go along the chain. -/
namespace Go.Proofs.Ytodpbghkjnlfdaa.ce
open Go.ChangeShapes Go.WideShapes Go.ChangeAt Go.RowKit
set_option linter.unusedVariables false

def alive (H : List C) (L : List Int) : List Int := (L.filter fun x => !(nth H x).gone).map fun x => (nth H x).key
theorem alive_gone (H : List C) (L : List Int) (x : Int) (h : (nth H x).gone = true) : alive H (L ++ [x]) = alive H L := by simp [alive, List.filter_append, h]
theorem alive_live (H : List C) (L : List Int) (x : Int) (h : (nth H x).gone = false) : alive H (L ++ [x]) = alive H L ++ [(nth H x).key] := by simp [alive, List.filter_append, h]
theorem alive_len (H : List C) (L : List Int) : (alive H L).length ≤ L.length := by simp [alive]; exact List.length_filter_le _ _
def goneC (H : List C) (L : List Int) : Nat := (L.filter fun x => (nth H x).gone).length
theorem goneC_gone (H : List C) (L : List Int) (x : Int) (h : (nth H x).gone = true) : goneC H (L ++ [x]) = goneC H L + 1 := by simp [goneC, List.filter_append, h]
theorem goneC_live (H : List C) (L : List Int) (x : Int) (h : (nth H x).gone = false) : goneC H (L ++ [x]) = goneC H L := by simp [goneC, List.filter_append, h]
theorem goneC_len (H : List C) (L : List Int) : goneC H L ≤ L.length := List.length_filter_le _ _
/-- the cell that the k-th of the chain is -/
theorem chain_at {H : List C} (u : Up H) {L : List Int} (hL : ∀ x ∈ L, has H x) (k : Nat) (hk : k < L.length) : ∃ (i : Nat) (hi : i < H.length), L[k] = (i : Int) ∧ nth H L[k] = H[i] := by
  have h := hL _ (List.getElem_mem hk)
  refine ⟨(L[k]).toNat, by have := h.1; have := h.2; omega, by have := h.1; omega, ?_⟩
  unfold nth
  rw [List.getD_eq_getElem?_getD, List.getElem?_eq_getElem (by have := h.1; have := h.2; omega)]
  rfl

theorem l4Living_any (H : List C) (u : Up H) (hlen : H.length ≤ 1048576) (v : Value) (hi : Nat) (w : World) (hh : hi ≤ w.heap.size) (r : Rd w hi v H) :
    Calls Try.prog 55 #[v] w fun e w' => ∃ v', e = .returned v' ∧ OwnI w' w.heap.size w'.heap.size v' (living H) ∧ Below w.heap.size w w' := by
  obtain ⟨a, cap, rfl⟩ := r.form
  have R : Hid (Rd w hi (.slice a H.length cap) H) := r
  obtain ⟨M, hM, -⟩ := chain_head u
  have eL : Hid (living H = alive H M) := by unfold Hid living alive; rw [hM]; rfl
  rw [eL.out]
  have hcl : M.length + 1 ≤ 65536 := by have := chain_len u; rw [hM] at this; simpa using this
  have hM' : Hid (chain H = 0 :: M) := hM
  have hMh : Hid (∀ x ∈ M, has H x) := fun x hx => chain_has u x (by rw [hM]; exact List.mem_cons_of_mem _ hx)
  have U : Hid (Up H) := u
  clear r hM
  have hB0 : Below w.heap.size w (w.alloc (.cells #[] 2)) := (Below.refl _ w).alloc (Nat.le_refl _) _
  have hE : Hid (OwnI (w.alloc (.cells #[] 2)) w.heap.size (w.heap.size + 1) (.slice (some ⟨w.heap.size, 0, none⟩) 0 0) []) := ownI_empty w
  go_enter Try.func55, Try.ntmps55
  go_wp2_with (first | (go_at_call 59; refine (l4Chain_any H u hlen _ hi _ (by simp; omega) (R.out.below hB0 hh)).mono ?_; rintro e w1 ⟨vl, rfl, hO1, hB1⟩; rw [hM'.out] at hO1) | (fail))
  have hz1 : w.heap.size + 1 ≤ w1.heap.size := by have := hB1.size; simpa using this
  have hBw : Below w.heap.size w w1 := hB0.trans (hB1.mono (by simp))
  have hE1 : Hid (OwnI w1 w.heap.size (w.heap.size + 1) (.slice (some ⟨w.heap.size, 0, none⟩) 0 0) []) := hE.out.below hB1 (by simp)
  have R1 : Hid (Rd w1 hi (.slice a H.length cap) H) := R.out.below hBw hh
  have RL : Hid (RdI w1 w1.heap.size vl (0 :: M)) := hO1.rd
  obtain ⟨al, capl, rfl⟩ := hO1.rd.form
  clear hO1 R hE
  go_loopw [3, 5] (fun vv p wr => ∃ k : Nat, k ≤ M.length ∧ p = .int .i64 ((k : Int) + 1) ∧ Hid (OutI wr w.heap.size w1.heap.size wr.heap.size vv (alive H (M.take k))) ∧ Below w1.heap.size w1 wr) (fun _ p _ => M.length + 1 - (intOf p).toNat)
  case atStart => exact ⟨0, by omega, rfl, .inl ⟨rfl, rfl⟩, Below.refl _ _⟩
  case round =>
    obtain ⟨k, hk, rfl, ho, hBr⟩ := hrel
    have hzr := hBr.size
    by_cases hlt : k < M.length
    · obtain ⟨i, hi1, ei, en⟩ := chain_at u hMh.out k hlt
      obtain ⟨z, hz⟩ := hid_ex (H[i])
      obtain ⟨b, off, rfl, hb, d0⟩ := (RL.out.below hBr (Nat.le_refl _)).cell (k + 1) (by simp; omega)
      obtain ⟨b', off', rfl, hb', c0, c1, c2, c3⟩ := (R1.out.below hBr (by omega)).cell i hi1
      simp only [List.getElem_cons_succ] at d0
      rw [ei] at d0 en
      rw [hz.out] at c0 c3 en
      clear c1 c2
      have hlt' : (k : Int) + 1 < (M.length : Int) + 1 := by omega
      have hi1' : (i : Int) < H.length := by omega
      have htk : Hid (M.take (k + 1) = M.take k ++ [(i : Int)]) := by unfold Hid; rw [List.take_succ_eq_append_getElem hlt, ei]
      cases hg : z.gone with
      | true =>
        rw [hg] at c3
        go_wp2
        go_roundw
        case rel =>
          refine ⟨k + 1, by omega, by go_num, ?_, hBr⟩
          have e := alive_gone H (M.take k) (i : Int) (by rw [en]; exact hg)
          rw [← htk.out] at e
          rw [e]
          exact ho
        case measure => simp [intOf]; omega
      | false =>
        rw [hg] at c3
        have hAl : (alive H (M.take k)).length + 1 ≤ 65536 := by have := alive_len H (M.take k); simp at this; omega
        go_wp2_with (first | (at_builtin; refine wpList_append_o rfl _ _ 46 rfl Try.underlying46 w.heap.size w1.heap.size wr.heap.size _ (alive H (M.take k)) rfl (ho.out.below ((Below.refl wr.heap.size wr).alloc (Nat.le_refl _) _) (Nat.le_refl _)) (by simp; omega) wr.heap.size 1 1 [z.key] rfl rfl (Nat.le_refl _) (one_range wr _) (by simp; omega) ?_; intro v' w2 hO2 hB2) | (fail))
        have e := alive_live H (M.take k) (i : Int) (by rw [en]; exact hg)
        rw [← htk.out, en] at e
        refine ⟨?_, by simp [intOf]; omega⟩
        repeat apply Exists.intro
        refine ⟨⟨k + 1, by omega, by go_num, ?_, (hBr.alloc (by omega) _).trans hB2⟩, rfl⟩
        rw [e]
        exact .inr hO2
    · have ek : k = M.length := by omega
      have hlt' : ¬ ((k : Int) + 1 < (M.length : Int) + 1) := by omega
      have ho' : Hid (OutI wr w.heap.size w1.heap.size wr.heap.size u3 (alive H M)) := by
        have := ho
        rw [ek, List.take_length] at this
        exact this
      go_wp2
      go_ret
      exact ⟨_, rfl, ho'.out.own (by omega) ((hE1.out.below hBr (by omega)).wide (Nat.le_refl _) (by omega)), hBw.trans (hBr.mono (by omega))⟩

theorem specLiving_any (H : List C) (v : Value) (hi : Nat) (w : World) (hh : hi ≤ w.heap.size) (r : Rd w hi v H) :
    Calls Try.prog 29 #[v] w fun e w' => ∃ v', e = .returned v' ∧ OwnI w' w.heap.size w'.heap.size v' (livingL H) ∧ Below w.heap.size w w' := by
  obtain ⟨a, cap, rfl⟩ := r.form
  have R : Hid (Rd w hi (.slice a H.length cap) H) := r
  clear r
  by_cases hok : heapOk H
  · have HK : Hid (decide (heapOk H) = true) := decide_eq_true hok
    have eL : Hid (livingL H = living H) := if_pos hok
    rw [eL.out]
    have h2 : H.length ≤ 1048576 := by have := hok.1.2; omega
    have U : Hid (Up H) := up_ok hok
    clear hok
    go_enter Try.func29, Try.ntmps29
    go_wp2_with (first | (go_at_call 34; refine (specHeapOk_any H _ hi _ hh R.out).mono ?_; rintro e w1 ⟨rfl, hB1⟩; rw [HK.out]; have hz1 := hB1.size) | (go_at_call 55; refine (l4Living_any H U.out h2 _ hi _ (by omega) (R.out.below hB1 hh)).mono ?_; rintro e w2 ⟨v2, rfl, hO2, hB2⟩) | (fail))
    go_ret
    exact ⟨_, rfl, hO2.wide (by omega) (Nat.le_refl _), hB1.trans (hB2.mono hz1)⟩
  · have HK : Hid (decide (heapOk H) = false) := decide_eq_false hok
    have eL : Hid (livingL H = []) := if_neg hok
    rw [eL.out]
    clear hok
    go_enter Try.func29, Try.ntmps29
    go_wp2_with (first | (go_at_call 34; refine (specHeapOk_any H _ hi _ hh R.out).mono ?_; rintro e w1 ⟨rfl, hB1⟩; rw [HK.out]; have hz1 := hB1.size) | (fail))
    go_ret
    exact ⟨_, rfl, (ownI_empty w1).wide (by omega) (by simp), hB1.alloc (by omega) _⟩

end Go.Proofs.Ytodpbghkjnlfdaa.ce
/- Contracts: the model's ValueAt. -/
namespace Go.Proofs.Ytodpbghkjnlfdaa.ce
open Go.ChangeShapes Go.WideShapes Go.ChangeAt Go.RowKit
set_option linter.unusedVariables false

def hit (H : List C) (key : Int) (x : Int) : Bool := !(nth H x).gone && (nth H x).key == key
theorem find_none {p : Int → Bool} {M : List Int} (h : ∀ x ∈ M, p x = false) : M.find? p = none := List.find?_eq_none.2 fun x hx => by rw [h x hx]; simp
theorem find_at {p : Int → Bool} {M : List Int} (k : Nat) (hk : k < M.length) (h : ∀ x ∈ M.take k, p x = false) (hp : p M[k] = true) : M.find? p = some M[k] := by
  have e : M = M.take k ++ M[k] :: M.drop (k + 1) := by rw [← List.drop_eq_getElem_cons hk, List.take_append_drop]
  have h1 : List.find? p (M.take k ++ M[k] :: M.drop (k + 1)) = some M[k] := by
    rw [List.find?_append, find_none h, List.find?_cons, hp]
    rfl
  rw [← e] at h1
  exact h1
theorem valueAt_find {H : List C} {M : List Int} (hM : chain H = 0 :: M) (key : Int) : valueAt H key = match M.find? (hit H key) with | some x => ((nth H x).value, true) | none => (0, false) := by
  unfold valueAt
  rw [hM]
  rfl

theorem specValueAt_any (H : List C) (key : Int) (v : Value) (hi : Nat) (w : World) (hh : hi ≤ w.heap.size) (r : Rd w hi v H) :
    Calls Try.prog 33 #[v, .int .i64 key] w fun e w' => e = .returned (.tuple #[.int .i64 (valueL H key).1, .bool (valueL H key).2]) ∧ Below w.heap.size w w' := by
  obtain ⟨a, cap, rfl⟩ := r.form
  have R : Hid (Rd w hi (.slice a H.length cap) H) := r
  clear r
  by_cases hok : heapOk H
  · have eL : Hid (valueL H key = valueAt H key) := if_pos hok
    have eC : Hid (chainL H = chain H) := if_pos hok
    rw [eL.out]
    have h2 : H.length ≤ 1048576 := by have := hok.1.2; omega
    have u : Up H := up_ok hok
    obtain ⟨M, hM, -⟩ := chain_head u
    have hcl : M.length + 1 ≤ 65536 := by have := chain_len u; rw [hM] at this; simpa using this
    have hM' : Hid (chain H = 0 :: M) := hM
    have hMh : Hid (∀ x ∈ M, has H x) := fun x hx => chain_has u x (by rw [hM]; exact List.mem_cons_of_mem _ hx)
    obtain ⟨y, hy⟩ := hid_ex (valueAt H key)
    rw [hy.out]
    clear hok hM
    go_enter Try.func33, Try.ntmps33
    go_wp2_with (first | (go_at_call 56; refine (specChain_any H _ hi _ hh R.out).mono ?_; rintro e w1 ⟨vl, rfl, hO1, hB1⟩; rw [eC.out, hM'.out] at hO1) | (fail))
    have hz1 := hB1.size
    have R1 : Hid (Rd w1 hi (.slice a H.length cap) H) := R.out.below hB1 hh
    have RL : Hid (RdI w1 w1.heap.size vl (0 :: M)) := hO1.rd
    obtain ⟨al, capl, rfl⟩ := hO1.rd.form
    clear hO1 R
    go_loopw [7] (fun p wr => ∃ k : Nat, k ≤ M.length ∧ p = .int .i64 ((k : Int) + 1) ∧ Hid (∀ x ∈ M.take k, hit H key x = false) ∧ Below w1.heap.size w1 wr) (fun p _ => M.length + 1 - (intOf p).toNat)
    case atStart => exact ⟨0, by omega, rfl, (fun x hx => by simp at hx), Below.refl _ _⟩
    case round =>
      obtain ⟨k, hk, rfl, hno, hBr⟩ := hrel
      have hzr := hBr.size
      by_cases hlt : k < M.length
      · obtain ⟨i, hi1, ei, en⟩ := chain_at u hMh.out k hlt
        obtain ⟨z, hz⟩ := hid_ex (H[i])
        obtain ⟨b, off, rfl, hb, d0⟩ := (RL.out.below hBr (Nat.le_refl _)).cell (k + 1) (by simp; omega)
        obtain ⟨b', off', rfl, hb', c0, c1, c2, c3⟩ := (R1.out.below hBr (by omega)).cell i hi1
        simp only [List.getElem_cons_succ] at d0
        rw [ei] at d0
        rw [hz.out] at c0 c1 c2 c3 en
        have hlt' : (k : Int) + 1 < (M.length : Int) + 1 := by omega
        have hi1' : (i : Int) < H.length := by omega
        have hhit : Hid (hit H key M[k] = (!z.gone && z.key == key)) := by unfold Hid hit; rw [en]
        have goOn : Hid (hit H key M[k] = false → ∀ x ∈ M.take (k + 1), hit H key x = false) := fun h x hx => by
          rw [List.take_succ_eq_append_getElem hlt] at hx
          rcases List.mem_append.1 hx with hx | hx
          · exact hno.out x hx
          · rw [List.mem_singleton.1 hx]; exact h
        have stop : Hid (hit H key M[k] = true → y = (z.value, true)) := fun h => by
          rw [← hy.out, valueAt_find hM'.out, find_at k hlt hno.out h]
          simp only [en]
        cases hg : z.gone with
        | true =>
          rw [hg] at c3
          have gone : Hid (∀ x ∈ M.take (k + 1), hit H key x = false) := goOn.out (by rw [hhit.out, hg]; simp)
          rw [hg] at hhit
          go_wp2
          go_roundw
          case rel => exact ⟨k + 1, by omega, by go_num, gone, hBr.alloc (by omega) _⟩
          case measure => simp [intOf]; omega
        | false =>
          rw [hg] at c3
          by_cases hke : z.key = key
          · have st := stop.out (by rw [hhit.out, hg]; simp [hke])
            have hkb : (z.key == key) = true := by simpa using hke
            subst st
            go_wp2
            go_ret2
            exact ⟨rfl, (hB1.trans (hBr.mono hz1)).alloc (by omega) _⟩
          · have gone : Hid (∀ x ∈ M.take (k + 1), hit H key x = false) := goOn.out (by rw [hhit.out, hg]; simp [hke])
            have hkb : (z.key == key) = false := by simpa using hke
            rw [hg] at hhit
            go_wp2
            exact ⟨⟨k + 1, by omega, by go_num, gone, hBr.alloc (by omega) _⟩, by simp [intOf]; omega⟩
      · have ek : k = M.length := by omega
        have hlt' : ¬ ((k : Int) + 1 < (M.length : Int) + 1) := by omega
        have ey : y = (0, false) := by
          have h := hno.out
          rw [ek, List.take_length] at h
          rw [← hy.out, valueAt_find hM'.out, find_none h]
        subst ey
        go_wp2
        go_ret2
        exact ⟨rfl, hB1.trans (hBr.mono hz1)⟩
  · have eL : Hid (valueL H key = (0, false)) := if_neg hok
    have eC : Hid (chainL H = []) := if_neg hok
    rw [eL.out]
    clear hok
    go_enter Try.func33, Try.ntmps33
    go_wp2_with (first | (go_at_call 56; refine (specChain_any H _ hi _ hh R.out).mono ?_; rintro e w1 ⟨vl, rfl, hO1, hB1⟩; rw [eC.out] at hO1) | (fail))
    obtain ⟨al, capl, rfl⟩ := hO1.rd.form
    go_loop [7] (fun p => p = .int .i64 1) (fun p => 0)
    case atStart => rfl
    case round =>
      subst hrel
      go_wp2
      go_ret2
      exact ⟨rfl, hB1⟩
end Go.Proofs.Ytodpbghkjnlfdaa.ce
/- Contracts: the program's Chain and Gone. -/
namespace Go.Proofs.Ytodpbghkjnlfdaa.it
open Go.RowKit Go.Shelf Go.Proofs.Ytodpbghkjnlfdaa.ce
set_option linter.unusedVariables false
attribute [local go_sem] Oper.semAt_some

theorem links_fst (H : List C) (L : List Int) : (links H L).map Prod.fst = L := by simp [links, List.map_map, Function.comp_def]

theorem Kp.appended {W w1 : World} {n₀ B : Nat} {t e : TypeId} {size : Nat} {v v' : Value} {k : Nat} {xs : List Value} {tmp : Obj} (hv : Boxed W B t v) (hrow : W.ownsRow n₀ e size v k xs) (hgrow : (W.alloc tmp).grownBy w1 v.ownBlock)
    (hb : Below n₀ W (w1.setCell ⟨B, 0, none⟩ v')) (h1 : T1 ≠ e) (h2 : T2 ≠ e) (h3 : T1 ≠ t) (h4 : T2 ≠ t) : Kp T1 T2 n₀ W (w1.setCell ⟨B, 0, none⟩ v') := by
  refine ⟨hb, fun j s u hs hj => ?_⟩
  have hse : s ≠ e := by rcases hs with rfl | rfl; (· exact h1); (· exact h2)
  have hst : s ≠ t := by rcases hs with rfl | rfl; (· exact h3); (· exact h4)
  refine ((hj.alloc tmp).kept hgrow (hj.not_row hse hrow)).other (fun e' => ?_) _
  subst e'
  have := (show W.heap[j]? = _ from hj).symm.trans hv
  simp at this
  exact hst this.2
theorem grown_refl (W : World) : W.grownBy W none := ⟨rfl, rfl, rfl, Nat.le_refl _, fun _ _ _ => rfl⟩
/-- a block is turned at the function's end that was not there at its beginning -/
theorem below_put {n₀ : Nat} {w W : World} {D : Nat} {o : Obj} (o' : Obj) (hB : Below n₀ w W) (hn : n₀ ≤ D) (hD : W.heap[D]? = some o) : Below n₀ w (W.putObj D o') :=
  hB.trans ((Below.refl n₀ W).grown (grownBy_putObj' W D o') (by have := (Array.getElem?_eq_some_iff.1 hD).1; omega) (fun k e => by cases e; exact hn))

theorem Kp.setBox {W : World} {n₀ B : Nat} {t : TypeId} {v : Value} (u : Value) (hv : Boxed W B t v) (hn : n₀ ≤ B) (h3 : T1 ≠ t) (h4 : T2 ≠ t) : Kp T1 T2 n₀ W (W.setCell ⟨B, 0, none⟩ u) :=
  Kp.grown (grownBy_setCell' W B u) (by have := hv.lt; omega) (fun k e => by
    cases e
    refine ⟨hn, fun s x hs hx => ?_⟩
    have := (show W.heap[B]? = _ from hx).symm.trans hv
    simp at this
    rcases hs with rfl | rfl
    · exact h3 this.2
    · exact h4 this.2)
def cnt (pre : List (Int × C)) : Nat := (pre.filter fun x => x.2.gone).length
theorem cnt_gone (pre : List (Int × C)) (x : Int × C) (h : x.2.gone = true) : cnt (pre ++ [x]) = cnt pre + 1 := by simp [cnt, List.filter_append, h]
theorem cnt_live (pre : List (Int × C)) (x : Int × C) (h : x.2.gone = false) : cnt (pre ++ [x]) = cnt pre := by simp [cnt, List.filter_append, h]
theorem cnt_links (H : List C) (L : List Int) : cnt (links H L) = goneC H L := by simp [cnt, links, goneC, List.filter_map, Function.comp_def]
theorem cnt_len (pre : List (Int × C)) : cnt pre ≤ pre.length := List.length_filter_le _ _

end Go.Proofs.Ytodpbghkjnlfdaa.it
/- What one small change of the heap does to chain and living: the mathematics that one hand's moves want. -/
namespace Go.Proofs.Ytodpbghkjnlfdaa.ce
open Go.ChangeShapes Go.WideShapes Go.ChangeAt Go.RowKit
set_option linter.unusedVariables false

theorem has_nat {H : List C} {p : Int} (h : has H p) : ∃ i : Nat, p = i ∧ i < H.length := ⟨p.toNat, by have := h.1; omega, by have := h.1; have := h.2; omega⟩
/-- a cell's Next is turned: all else of every cell stays -/
theorem swapH_nth (H : List C) (i : Nat) (hi : i < H.length) (z y : Int) : (nth (swapH H i z) y).key = (nth H y).key ∧ (nth (swapH H i z) y).value = (nth H y).value ∧ (nth (swapH H i z) y).gone = (nth H y).gone := by
  unfold swapH
  simp only [Int.toNat_natCast]
  by_cases e : y.toNat = i
  · have e2 : nth H y = nth H i := by unfold nth; rw [e]; simp
    rw [nth_set_eq H i hi _ y e, e2]
    exact ⟨rfl, rfl, rfl⟩
  · rw [nth_set_ne H i _ y e]
    exact ⟨rfl, rfl, rfl⟩
theorem swapH_next (H : List C) (i : Nat) (z y : Int) (h : y.toNat ≠ i) : (nth (swapH H i z) y).next = (nth H y).next := by
  unfold swapH
  simp only [Int.toNat_natCast]
  rw [nth_set_ne H i _ y h]
theorem swapH_next_same (H : List C) (i : Nat) (hi : i < H.length) (z : Int) : (nth (swapH H i z) i).next = z := by
  unfold swapH
  simp only [Int.toNat_natCast]
  rw [nth_set_eq H i hi _ i (by simp)]
theorem strikeH_nth (H : List C) (i : Nat) (hi : i < H.length) (y : Int) : (nth (strikeH H i) y).key = (nth H y).key ∧ (nth (strikeH H i) y).value = (nth H y).value ∧ (nth (strikeH H i) y).next = (nth H y).next ∧ (nth (strikeH H i) y).gone = (if y.toNat = i then true else (nth H y).gone) := by
  unfold strikeH
  simp only [Int.toNat_natCast]
  by_cases e : y.toNat = i
  · have e2 : nth H y = nth H i := by unfold nth; rw [e]; simp
    rw [nth_set_eq H i hi _ y e, e2, if_pos e]
    exact ⟨rfl, rfl, rfl, rfl⟩
  · rw [nth_set_ne H i _ y e, if_neg e]
    exact ⟨rfl, rfl, rfl, rfl⟩
theorem chain_hasX {H : List C} (u : Up H) {x : Int} (h : x ∈ chain H) : has H x := ch_has u (.inr (has_zero u)) (chain_ch u) x h
theorem chain_pw {H : List C} (u : Up H) : (chain H).Pairwise fun a b => (nth H a).key < (nth H b).key := (ch_rises u (.inr (has_zero u)) (chain_ch u)).2
theorem chain_nodup {H : List C} (u : Up H) : (chain H).Nodup := pairwise_ne (chain_pw u)
/-- what follows one of the chain is of the chain -/
theorem chain_next {H : List C} (u : Up H) {x : Int} (h : x ∈ chain H) (h0 : 0 ≤ (nth H x).next) : (nth H x).next ∈ chain H := by
  obtain ⟨A, B, e, hB⟩ := ch_split (chain_ch u) h
  cases B with
  | nil => have h1 : (nth H x).next < 0 := hB; omega
  | cons y B =>
    rw [e, hB.1]
    simp
theorem chain_inj {H : List C} (u : Up H) {x y : Int} (hx : x ∈ chain H) (hy : y ∈ chain H) (hk : (nth H x).key = (nth H y).key) : x = y := by
  have hp := chain_pw u
  obtain ⟨i, hi, rfl⟩ := List.getElem_of_mem hx
  obtain ⟨j, hj, rfl⟩ := List.getElem_of_mem hy
  rcases Nat.lt_trichotomy i j with h | h | h
  · have := (List.pairwise_iff_getElem.1 hp) i j hi hj h; omega
  · subst h; rfl
  · have := (List.pairwise_iff_getElem.1 hp) j i hj hi h; omega

def livL (H : List C) (L : List Int) : List Int := ((L.drop 1).filter fun x => !(nth H x).gone).map fun x => (nth H x).key
theorem living_eq (H : List C) : living H = livL H (chain H) := rfl
theorem livL_congr {H K : List C} {L : List Int} (h : ∀ x ∈ L, (nth H x).key = (nth K x).key ∧ (nth H x).gone = (nth K x).gone) : livL H L = livL K L := by
  unfold livL
  have h1 : (L.drop 1).filter (fun x => !(nth H x).gone) = (L.drop 1).filter fun x => !(nth K x).gone := List.filter_congr fun x hx => by rw [(h x (List.mem_of_mem_drop hx)).2]
  rw [h1]
  exact List.map_congr_left fun x hx => (h x (List.mem_of_mem_drop (List.mem_filter.1 hx).1)).1
theorem livL_pass {H : List C} (i x : Int) (A B : List Int) (hg : (nth H x).gone = true) : livL H (A ++ i :: x :: B) = livL H (A ++ i :: B) := by
  unfold livL
  cases A with
  | nil => simp [hg]
  | cons a A => simp [List.filter_cons, hg]
theorem mem_living {H : List C} {k : Int} : k ∈ living H ↔ ∃ x ∈ (chain H).drop 1, (nth H x).gone = false ∧ (nth H x).key = k := by
  unfold living
  simp only [List.mem_map, List.mem_filter, Bool.not_eq_true']
  constructor
  · rintro ⟨x, ⟨h1, h2⟩, h3⟩; exact ⟨x, h1, h2, h3⟩
  · rintro ⟨x, h1, h2, h3⟩; exact ⟨x, ⟨h1, h2⟩, h3⟩

/-! ### the five changes -/
/-- one that is Gone is passed by -/
theorem pass_chain {H : List C} (hok : heapOk H) (i : Nat) (hi : i < H.length) (x : Int) (hin : (i : Int) ∈ chain H) (hx : (nth H i).next = x) (hx0 : 0 ≤ x) (hok' : heapOk (swapH H i (nth H x).next)) :
    ∃ A B, chain H = A ++ (i : Int) :: x :: B ∧ chain (swapH H i (nth H x).next) = A ++ (i : Int) :: B := by
  have u := up_ok hok
  obtain ⟨A, B, e, hB⟩ := ch_split (chain_ch u) hin
  rw [hx] at hB
  cases B with
  | nil => have h1 : x < 0 := hB; omega
  | cons y B =>
    obtain ⟨rfl, -, hB'⟩ := hB
    have hc := chain_ch u
    have hn := chain_nodup u
    rw [e] at hc hn
    refine ⟨A, B, e, chain_of (up_ok hok') ?_⟩
    have := ch_pass i hi { nth H i with next := (nth H x).next } x rfl hn hc
    unfold swapH
    simpa using this
theorem pass_living {H : List C} (hok : heapOk H) (i : Nat) (hi : i < H.length) (x : Int) (hin : (i : Int) ∈ chain H) (hx : (nth H i).next = x) (hx0 : 0 ≤ x) (hg : (nth H x).gone = true) (hok' : heapOk (swapH H i (nth H x).next)) :
    living (swapH H i (nth H x).next) = living H := by
  obtain ⟨A, B, e1, e2⟩ := pass_chain hok i hi x hin hx hx0 hok'
  rw [living_eq, living_eq, e1, e2, livL_pass (H := H) (i : Int) x A B hg]
  exact livL_congr fun y _ => ⟨(swapH_nth H i hi _ y).1, (swapH_nth H i hi _ y).2.2⟩
/-- one is linked in -/
theorem link_chain {H : List C} (hok : heapOk H) (i : Nat) (hi : i < H.length) (o : Int) (ho : 0 ≤ o) (hin : (i : Int) ∈ chain H) (hon : (nth H o).next = (nth H i).next) (hoi : o ≠ i) (hok' : heapOk (swapH H i o)) :
    ∃ A B, chain H = A ++ (i : Int) :: B ∧ chain (swapH H i o) = A ++ (i : Int) :: o :: B := by
  have u := up_ok hok
  obtain ⟨A, B, e, hB⟩ := ch_split (chain_ch u) hin
  have hc := chain_ch u
  have hn := chain_nodup u
  rw [e] at hc hn
  refine ⟨A, B, e, chain_of (up_ok hok') ?_⟩
  have := ch_put i hi { nth H i with next := o } o ho rfl hon (by omega) hn hc
  unfold swapH
  simpa using this
theorem link_living {H : List C} (hok : heapOk H) (i : Nat) (hi : i < H.length) (o : Int) (ho : 0 ≤ o) (hin : (i : Int) ∈ chain H) (hon : (nth H o).next = (nth H i).next) (hoi : o ≠ i) (hg : (nth H o).gone = false) (hok' : heapOk (swapH H i o)) :
    (nth H o).key ∈ living (swapH H i o) := by
  obtain ⟨A, B, e1, e2⟩ := link_chain hok i hi o ho hin hon hoi hok'
  obtain ⟨k1, k2, k3⟩ := swapH_nth H i hi o o
  refine mem_living.2 ⟨o, ?_, by rw [k3]; exact hg, k1⟩
  rw [e2]
  cases A with
  | nil => simp
  | cons a A => simp
/-- one is struck -/
theorem strike_chain {H : List C} (hok : heapOk H) (i : Nat) (hi : i < H.length) (hok' : heapOk (strikeH H i)) : chain (strikeH H i) = chain H := by
  refine chain_of (up_ok hok') ?_
  have := ch_set_same i hi { nth H i with gone := true } rfl (chain_ch (up_ok hok))
  unfold strikeH
  simpa using this
theorem strike_living {H : List C} (hok : heapOk H) (i : Nat) (hi : i < H.length) (hin : (i : Int) ∈ chain H) (hok' : heapOk (strikeH H i)) : (nth H i).key ∉ living (strikeH H i) := fun h => by
  obtain ⟨x, h1, h2, h3⟩ := mem_living.1 h
  rw [strike_chain hok i hi hok'] at h1
  obtain ⟨k1, -, -, k4⟩ := strikeH_nth H i hi x
  rw [k1] at h3
  have e := chain_inj (up_ok hok) (List.mem_of_mem_drop h1) hin h3
  subst e
  rw [k4, if_pos (by simp)] at h2
  cases h2
/-- one is fresh -/
theorem fresh_chain {H : List C} (hok : heapOk H) (c : C) (hok' : heapOk (H ++ [c])) : chain (H ++ [c]) = chain H :=
  chain_of (up_ok hok') (ch_snoc c (fun x hx => chain_hasX (up_ok hok) hx) (chain_ch (up_ok hok)))
theorem fresh_living {H : List C} (hok : heapOk H) (c : C) (hok' : heapOk (H ++ [c])) : living (H ++ [c]) = living H := by
  rw [living_eq, living_eq, fresh_chain hok c hok']
  exact livL_congr fun x hx => by rw [nth_snoc H c x (chain_hasX (up_ok hok) hx)]; exact ⟨rfl, rfl⟩
/-- the Next of one outside the chain is turned -/
theorem outside_chain {H : List C} (hok : heapOk H) (i : Nat) (z : Int) (hout : (i : Int) ∉ chain H) (hok' : heapOk (swapH H i z)) : chain (swapH H i z) = chain H := by
  refine chain_of (up_ok hok') ?_
  have := ch_set_other i { nth H i with next := z } hout (chain_ch (up_ok hok))
  unfold swapH
  simpa using this
theorem outside_living {H : List C} (hok : heapOk H) (i : Nat) (hi : i < H.length) (z : Int) (hout : (i : Int) ∉ chain H) (hok' : heapOk (swapH H i z)) : living (swapH H i z) = living H := by
  rw [living_eq, living_eq, outside_chain hok i z hout hok']
  exact livL_congr fun y _ => ⟨(swapH_nth H i hi _ y).1, (swapH_nth H i hi _ y).2.2⟩
end Go.Proofs.Ytodpbghkjnlfdaa.ce
/- A hand that is right, one small move of it, and what the move keeps: plain mathematics. -/
namespace Go.Proofs.Ytodpbghkjnlfdaa.ce
open Go.ChangeShapes Go.WideShapes Go.ChangeAt Go.RowKit
set_option linter.unusedVariables false

def there (H : List C) (d : Hd) : Int := if 0 ≤ d.here then (nth H d.here).key else 65536
/-- a hand that is right beside a right heap -/
structure OkH (H : List C) (d : Hd) : Prop where
  kind : 1 ≤ d.kind ∧ d.kind ≤ 3
  key : 1 ≤ d.key ∧ d.key ≤ 65535
  step : 0 ≤ d.step ∧ d.step ≤ 5
  idle : (d.step = 0 ∨ d.step = 5) → d.left = -1 ∧ d.here = -1
  way : ¬ (d.step = 0 ∨ d.step = 5) → has H d.left ∧ (nth H d.left).key < d.key ∧ (d.here = -1 ∨ 1 ≤ d.here ∧ d.here < (H.length : Int))
  told : (d.step = 5 ↔ d.told ≠ 0) ∧ 0 ≤ d.told ∧ d.told ≤ 2
  inH : 0 ≤ d.here → (nth H d.here).gone = false → d.here ∈ chain H
  inL : 0 ≤ d.left → (nth H d.left).gone = false → d.left ∈ chain H
  act : d.step = 2 → d.key ≤ there H d
  link : d.step = 3 → d.key < there H d ∧ d.kind = 1 ∧ 0 ≤ d.own
  mark : d.step = 4 → there H d = d.key ∧ d.kind = 2
  own : d.own = -1 ∨ (d.kind = 1 ∧ (1 ≤ d.own ∧ d.own < (H.length : Int)) ∧ (nth H d.own).key = d.key ∧ (nth H d.own).value = d.value ∧ (d.step = 3 → (nth H d.own).next = d.here) ∧ (d.step = 5 ∨ (nth H d.own).gone = false ∧ d.own ∉ chain H))

def doneD (d : Hd) (yes : Bool) : Hd := { d with step := 5, left := -1, here := -1, told := if yes then 1 else 2 }
def startD (d : Hd) : Hd := { d with step := 0, left := -1, here := -1 }
def found (H : List C) (d : Hd) : Prop := 0 ≤ d.here ∧ (nth H d.here).key = d.key
instance (H : List C) (d : Hd) : Decidable (found H d) := by unfold found; infer_instance
def stops (H : List C) (d : Hd) : Prop := d.here = -1 ∨ (nth H d.here).gone = false ∧ d.key ≤ (nth H d.here).key
instance (H : List C) (d : Hd) : Decidable (stops H d) := by unfold stops; infer_instance
def moveW (H : List C) (d : Hd) : List C × Hd :=
  if stops H d then (H, { d with step := 2 })
  else if (nth H d.here).gone = true then
    (if swapOk H d.left d.here (nth H d.here).next then (swapH H d.left (nth H d.here).next, { d with here := (nth H d.here).next }) else (H, startD d))
  else (H, { d with left := d.here, here := (nth H d.here).next })
def movePut (H : List C) (d : Hd) : List C × Hd :=
  if d.own < 0 then
    (if freshN H d.key d.value d.here < 0 then (H, doneD d false) else (freshH H d.key d.value d.here, { d with own := freshN H d.key d.value d.here, step := 3 }))
  else (swapH H d.own d.here, { d with step := 3 })
def moveA (H : List C) (d : Hd) : List C × Hd :=
  if d.kind = 3 then (H, doneD d (decide (found H d)))
  else if d.kind = 1 ∧ found H d ∨ d.kind = 2 ∧ ¬ found H d then (H, doneD d false)
  else if d.kind = 1 then movePut H d
  else (H, { d with step := 4 })
def moveL (H : List C) (d : Hd) : List C × Hd := if swapOk H d.left d.here d.own then (swapH H d.left d.own, doneD d true) else (H, startD d)
def moveM (H : List C) (d : Hd) : List C × Hd := if (nth H d.here).gone = true then (H, startD d) else (strike1 H d.here (nth H d.here).next, doneD d true)
def move (H : List C) (d : Hd) : List C × Hd :=
  if d.step = 0 then (H, { d with left := 0, here := (nth H 0).next, step := 1 })
  else if d.step = 1 then moveW H d
  else if d.step = 2 then moveA H d
  else if d.step = 3 then moveL H d
  else if d.step = 4 then moveM H d
  else (H, d)

/-- what a move keeps -/
structure Keeps (H : List C) (d : Hd) (H' : List C) (d' : Hd) : Prop where
  heap : heapOk H'
  hand : OkH H' d'
  kind : d'.kind = d.kind
  key : d'.key = d.key
  value : d'.value = d.value
  lives : d'.told = 1 ∧ d.step ≠ 5 ∧ d.kind ≠ 3 ∧ (d.kind = 1 ∧ d.key ∈ living H' ∨ d.kind = 2 ∧ d.key ∉ living H') ∨ (d'.told = 1 → d.step = 5 ∨ d.kind = 3) ∧ living H' = living H

/-- the heap stays -/
theorem keeps_same {H : List C} {d d' : Hd} (hok : heapOk H) (h : OkH H d') (h1 : d'.kind = d.kind) (h2 : d'.key = d.key) (h3 : d'.value = d.value) (h4 : d'.told = 1 → d.step = 5 ∨ d.kind = 3) : Keeps H d H d' := ⟨hok, h, h1, h2, h3, .inr ⟨h4, rfl⟩⟩

/-- of a hand that has begun: its own cell, if it has one, is neither Gone nor in the chain -/
theorem OkH.own' {H : List C} {d : Hd} (h : OkH H d) (hs : d.step ≠ 5) : d.own = -1 ∨ (d.kind = 1 ∧ (1 ≤ d.own ∧ d.own < (H.length : Int)) ∧ (nth H d.own).key = d.key ∧ (nth H d.own).value = d.value ∧ (d.step = 3 → (nth H d.own).next = d.here) ∧ (nth H d.own).gone = false ∧ d.own ∉ chain H) := by
  rcases h.own with e | ⟨a, b, c, e, f, g⟩
  · exact .inl e
  · rcases g with g | g
    · exact absurd g hs
    · exact .inr ⟨a, b, c, e, f, g.1, g.2⟩
theorem done_ok {H : List C} {d : Hd} (h : OkH H d) (yes : Bool) : OkH H (doneD d yes) :=
  { kind := h.kind, key := h.key, step := ⟨by simp [doneD], by simp [doneD]⟩, idle := fun _ => ⟨rfl, rfl⟩, way := fun hn => absurd (.inr rfl) hn
    told := ⟨by simp only [doneD]; cases yes <;> simp, by simp only [doneD]; cases yes <;> simp, by simp only [doneD]; cases yes <;> simp⟩
    inH := fun h0 => by simp [doneD] at h0
    inL := fun h0 => by simp [doneD] at h0
    act := fun e => by simp [doneD] at e
    link := fun e => by simp [doneD] at e
    mark := fun e => by simp [doneD] at e
    own := by
      rcases h.own with e | ⟨a, b, c, e, f, g⟩
      · exact .inl e
      · exact .inr ⟨a, b, c, e, fun e => by simp [doneD] at e, .inl rfl⟩ }
theorem start_ok {H : List C} {d : Hd} (h : OkH H d) (hs : d.step ≠ 5) : OkH H (startD d) :=
  { kind := h.kind, key := h.key, step := ⟨by simp [startD], by simp [startD]⟩, idle := fun _ => ⟨rfl, rfl⟩, way := fun hn => absurd (.inl rfl) hn
    told := by
      have := h.told
      refine ⟨⟨fun e => by simp [startD] at e, fun e => absurd (this.1.2 e) hs⟩, this.2⟩
    inH := fun h0 => by simp [startD] at h0
    inL := fun h0 => by simp [startD] at h0
    act := fun e => by simp [startD] at e
    link := fun e => by simp [startD] at e
    mark := fun e => by simp [startD] at e
    own := by
      rcases h.own' hs with e | ⟨a, b, c, e, f, g⟩
      · exact .inl e
      · exact .inr ⟨a, b, c, e, fun e => by simp [startD] at e, .inr g⟩ }
theorem told_of {H : List C} {d : Hd} (h : OkH H d) (hs : d.step ≠ 5) : d.told = 0 := Decidable.byContradiction fun e => hs (h.told.1.2 e)
end Go.Proofs.Ytodpbghkjnlfdaa.ce
/- Contracts: the program's inChain and walkable. -/
namespace Go.Proofs.Ytodpbghkjnlfdaa.it
open Go.RowKit Go.Shelf Go.Proofs.Ytodpbghkjnlfdaa.ce
set_option linter.unusedVariables false
attribute [local go_sem] Oper.semAt_some

theorem boxed_below {W W' : World} {n B : Nat} {t : TypeId} {v : Value} (h : Boxed W B t v) (hb : Below n W W') (hn : B < n) : Boxed W' B t v := (hb.block B hn).trans h

set_option maxRecDepth 100000 in
set_option maxHeartbeats 2000000 in
theorem inChain_any (H : List C) (hok : heapOk H) (p : Int) (v : Value) (hi : Nat) (w : World) (hh : hi ≤ w.heap.size) (r : Rd w hi v H) :
    Calls Try.prog 65 #[v, .int .i64 p] w fun e w' => e = .returned (.bool (decide (p ∈ chain H))) ∧ Below w.heap.size w w' := by
  obtain ⟨a, cap, rfl⟩ := r.form
  have R : Hid (Rd w hi (.slice a H.length cap) H) := r
  clear r
  obtain ⟨z, hz⟩ := hid_ex (decide (p ∈ chain H))
  rw [hz.out]
  have h2 : H.length ≤ 1048576 := by have := hok.1.2; omega
  have U : Hid (Up H) := up_ok hok
  clear hok
  have hB0 : Below w.heap.size w ((w.alloc (.cells #[.int .i64 p] 2)).alloc (.cells #[.bool false] 4)) := ((Below.refl _ w).alloc (Nat.le_refl _) _).alloc (by simp) _
  have bK := (Boxed.new w 2 (.int .i64 p)).alloc (.cells #[.bool false] 4)
  have bT := Boxed.new (w.alloc (.cells #[.int .i64 p] 2)) 4 (.bool false)
  simp only [World.size_alloc] at bT
  have bH := Boxed.new ((w.alloc (.cells #[.int .i64 p] 2)).alloc (.cells #[.bool false] 4)) T1 (.slice a H.length cap)
  simp only [World.size_alloc] at bH
  replace bK := bK.alloc (.cells #[.slice a H.length cap] T1)
  replace bT := bT.alloc (.cells #[.slice a H.length cap] T1)
  have hB2 : Below w.heap.size w (((w.alloc (.cells #[.int .i64 p] 2)).alloc (.cells #[.bool false] 4)).alloc (.cells #[.slice a H.length cap] T1)) := hB0.alloc (by simp; omega) _
  refine (callsIn_wide (n := 3)).1 ?_
  refine callsIn_of_wp_marks Try.func65 rfl trivial ?_ rfl
  simp only [Try.ntmps65, List.size_toArray, List.length_cons, List.length_nil, Nat.reduceAdd, Nat.reduceSub, Array.replicate_succ, Array.replicate_zero, List.push_toArray, List.append_toArray, List.nil_append, List.cons_append]
  gi_wp2_with (first | (refine ⟨trivial, ?_⟩; gi_at_call 78; refine (callsIn_wide.2 (chained_any _ _ _ _ rfl _)).mono ?_; rintro e w2 ⟨rfl, rfl⟩) | (fail))
  obtain ⟨W0, hW0⟩ : ∃ W0, ((w.alloc (.cells #[.int .i64 p] 2)).alloc (.cells #[.bool false] 4)).alloc (.cells #[.slice a H.length cap] T1) = W0 := ⟨_, rfl⟩
  have hsz : W0.heap.size = w.heap.size + 1 + 1 + 1 := by rw [← hW0]; simp
  rw [hW0] at bK bT bH hB2 ⊢
  refine range_law 3 (w := W0) (gf := 86) (lb := #[.pointer (some ⟨w.heap.size + 1 + 1, 0, none⟩)]) rfl (enters_of Try.func86 (by kernel_rfl) rfl)
    (chained1_seq H U.out h2 _ hi w.heap.size (w.heap.size + 1 + 1) W0 (by omega) hh bH (R.out.below hB2 hh) 2) (by omega) (Below.refl _ _) (fun _ => rfl)
    (fun pre W => (p ∉ pre.map Prod.fst ∧ Boxed W w.heap.size 2 (.int .i64 p) ∧ Boxed W (w.heap.size + 1) 4 (.bool false)) ∧ Below w.heap.size w W)
    (fun pre W => (p ∈ pre.map Prod.fst ∧ Boxed W (w.heap.size + 1) 4 (.bool true)) ∧ Below w.heap.size w W)
    (OwnFrom.and (Own.from (fun s X Y row hs hg hr => ⟨hs.1, boxed_own _ _ (fun _ : List (Int × C) => Value.int .i64 p) s X Y row hs.2.1 hg hr, boxed_own _ _ (fun _ : List (Int × C) => Value.bool false) s X Y row hs.2.2 hg hr⟩) _) (ownFrom_below (Nat.le_refl _) (by omega)))
    (OwnFrom.and (Own.from (fun s X Y row hs hg hr => ⟨hs.1, boxed_own _ _ (fun _ : List (Int × C) => Value.bool true) s X Y row hs.2 hg hr⟩) _) (ownFrom_below (Nat.le_refl _) (by omega)))
    ⟨⟨by simp, bK, bT⟩, hB2⟩ ?round ?done ?stop
  case round =>
    rintro l pre x rest W hx hlt -
    obtain ⟨q, k, u, n, g⟩ := x
    dsimp only [encL]
    gi_wp2
    refine ⟨grown_refl _, ?_⟩
    rintro Wb - - ⟨⟨hno, hk, ht⟩, hB⟩
    have hkc := hk.cell
    have htf := ht.frozen
    have htc := ht.cell
    by_cases hke : q = p
    · have hkb : (q == p) = true := by simpa using hke
      gi_wp2
      exact ⟨(KeepsOthers.setCell _ _ _).from _, ⟨by simp [hke], ht.set _⟩, hB.setCell (p := ⟨w.heap.size + 1, 0, none⟩) (by simp) _⟩
    · have hkb : (q == p) = false := by simpa using hke
      gi_wp2
      refine ⟨KeepsFrom.refl _ _, Kp.refl _, ⟨?_, hk, ht⟩, hB⟩
      rw [List.map_append, List.mem_append]
      rintro (h | h)
      · exact hno h
      · simp at h; exact hke h.symm
  case done =>
    rintro D W hD ⟨⟨hno, hk, ht⟩, hB⟩ hK
    have ey : Hid (z = false) := by unfold Hid; rw [← hz.out]; rw [links_fst] at hno; exact decide_eq_false hno
    have htc := ht.cell
    have htf := ht.frozen
    have hK' := (KeepsOthers.setCell W ⟨w.heap.size + 1, 0, none⟩ (.bool false)).same D _ hK rfl
    gi_wp2
    refine ⟨by simp, .inl ⟨_, _, rfl, run_takeDeferred hK', ?_⟩⟩
    have hc6 := ((boxed_own _ _ (fun _ : Unit => Value.bool false)).putObj (s := ()) (.deferred none) (ht.set (.bool false)) hK' rfl).cell
    refine ⟨.bool false, ?_, by rw [ey.out], below_put _ (hB.setCell (p := ⟨w.heap.size + 1, 0, none⟩) (by simp) _) (by omega) hK'⟩
    simp [results, Try.f65, go_sem, hc6]
  case stop =>
    rintro D pre rest W hx hD ⟨⟨hin, ht⟩, hB⟩ hK
    have ey : Hid (z = true) := by
      unfold Hid; rw [← hz.out]
      have := congrArg (List.map Prod.fst) hx
      rw [links_fst, List.map_append] at this
      exact decide_eq_true (by rw [this]; exact List.mem_append_left _ hin)
    gi_wp2
    refine ⟨by simp, .inl ⟨_, _, rfl, run_takeDeferred hK, ?_⟩⟩
    have hc6 := ((boxed_own _ _ (fun _ : Unit => Value.bool true)).putObj (s := ()) (.deferred none) ht hK rfl).cell
    refine ⟨.bool true, ?_, by rw [ey.out], below_put _ hB (by omega) hK⟩
    simp [results, Try.f65, go_sem, hc6]
end Go.Proofs.Ytodpbghkjnlfdaa.it
/- Contracts: the program's walkable, leftRight, hereRight. -/
namespace Go.Proofs.Ytodpbghkjnlfdaa.ce
open Go.ChangeShapes Go.WideShapes Go.ChangeAt Go.RowKit
set_option linter.unusedVariables false
open Go.Proofs.Ytodpbghkjnlfdaa.it

/-- where a hand may stand -/
def wlk (H : List C) (p : Int) : Prop := has H p ∧ ((nth H p).gone = true ∨ p ∈ chain H)
instance (H : List C) (p : Int) : Decidable (wlk H p) := by unfold wlk; infer_instance

theorem walkable_any (H : List C) (hok : heapOk H) (p : Int) (v : Value) (hi : Nat) (w : World) (hh : hi ≤ w.heap.size) (r : Rd w hi v H) :
    Calls Try.prog 63 #[v, .int .i64 p] w fun e w' => e = .returned (.bool (decide (wlk H p))) ∧ Below w.heap.size w w' := by
  have hl := r.len
  obtain ⟨a, cap, rfl⟩ := r.form
  have R : Hid (Rd w hi (.slice a H.length cap) H) := r
  have HO : Hid (heapOk H) := hok
  clear r hok
  obtain ⟨z, hz⟩ := hid_ex (decide (wlk H p))
  rw [hz.out]
  by_cases hp : has H p
  · have hd : Hid (decide (has H p) = true) := decide_eq_true hp
    obtain ⟨i, rfl⟩ : ∃ i : Nat, p = i := ⟨p.toNat, by have := hp.1; omega⟩
    have hi1 : i < H.length := by have := hp.2; omega
    have hi1' : (i : Int) < H.length := by omega
    have en := nth_nat H i hi1
    obtain ⟨b, off, rfl, hbh, c0, c1, c2, c3⟩ := R.out.cell i hi1
    cases hg : (H[i]).gone with
    | true =>
      rw [hg] at c3
      have ez : z = true := by rw [← hz.out]; exact decide_eq_true ⟨hp, .inl (by rw [en]; exact hg)⟩
      clear hp
      subst ez
      go_enter Try.func63, Try.ntmps63
      go_wp2_with (first | (go_at_call 64; refine (has_any H (i : Int) _ _ hl _).mono ?_; rintro e wq ⟨rfl, hq⟩; subst wq; rw [hd.out]) | (fail))
      go_ret
      exact ⟨rfl, Below.refl _ _⟩
    | false =>
      rw [hg] at c3
      have ez : Hid (decide ((i : Int) ∈ chain H) = z) := by
        unfold Hid
        rw [← hz.out]
        simp [wlk, hp, en, hg]
      clear hp
      go_enter Try.func63, Try.ntmps63
      go_wp2_with (first | (go_at_call 64; refine (has_any H (i : Int) _ _ hl _).mono ?_; rintro e wq ⟨rfl, hq⟩; subst wq; rw [hd.out]) | (go_at_call 65; refine (inChain_any H HO.out (i : Int) _ hi _ hh R.out).mono ?_; rintro e w1 ⟨he, hB1⟩; rw [ez.out] at he; subst he) | (fail))
      go_ret
      exact ⟨rfl, hB1⟩
  · have hd : Hid (decide (has H p) = false) := decide_eq_false hp
    have ez : z = false := by rw [← hz.out]; exact decide_eq_false fun h => hp h.1
    clear hp
    subst ez
    go_enter Try.func63, Try.ntmps63
    go_wp2_with (first | (go_at_call 64; refine (has_any H p _ _ hl _).mono ?_; rintro e wq ⟨rfl, hq⟩; subst wq; rw [hd.out]) | (fail))
    go_ret
    exact ⟨rfl, Below.refl _ _⟩
end Go.Proofs.Ytodpbghkjnlfdaa.ce
/- By hand through a region that draws its order: one operation taken first, wanted or passed over. -/
namespace Go.Proofs.Ytodpbghkjnlfdaa.ce
open Go.RowKit
set_option linter.unusedVariables false
variable {P : Program} {ops : Array Oper} {Q : Exit → Act → World → Prop} {md : Region.Mode} {S : World → Prop}

/-- an operation that is wanted and yields v in every world that meets S -/
theorem takeW (i d : Nat) (v : Value) {op : Op} {ty : TypeId} {pos : String} {after : Array Edge} {g : Option (Nat × Bool)} {tmps : Array Value} {defers : List Deferred} {fuel : Nat} {listed : Array Bool} {w : World}
    (hi : ops[i]? = some ⟨some d, op, ty, pos, after, g⟩) (hs : Region.noSelect ops = true) (hf : Region.free md ops listed i = true) (hr : (Region.ready md ops listed).contains i = true)
    (hQ : ∀ c a w, Q (.panic c) (Act.put a (some d) v) w → Q (.panic c) a w)
    (hw : Region.wanted ⟨some d, op, ty, pos, after, g⟩ (yielded ops tmps) = true) (hy : ∀ w, S w → (execOp (Act.eval ⟨tmps, defers⟩) ⟨some d, op, ty, pos, after, g⟩).run P w = .ok (.value v) w) (hS : S w)
    (h : wpAnyH P md ops Q S fuel (listed.setIfInBounds i true) ⟨tmps.setIfInBounds d v, defers⟩ w) : wpAnyH P md ops Q S (fuel + 1) listed ⟨tmps, defers⟩ w :=
  wpAnyH_take (oi := ⟨some d, op, ty, pos, after, g⟩) (v := v) hi hs hf hr hQ (Or.inl ⟨hw, hy⟩) hS h
/-- an operation that is passed over -/
theorem takeU (i d : Nat) {op : Op} {ty : TypeId} {pos : String} {after : Array Edge} {g : Option (Nat × Bool)} {tmps : Array Value} {defers : List Deferred} {fuel : Nat} {listed : Array Bool} {w : World}
    (hi : ops[i]? = some ⟨some d, op, ty, pos, after, g⟩) (hs : Region.noSelect ops = true) (hf : Region.free md ops listed i = true) (hr : (Region.ready md ops listed).contains i = true)
    (hQ : ∀ c a w, Q (.panic c) (Act.put a (some d) undef) w → Q (.panic c) a w)
    (hw : Region.wanted ⟨some d, op, ty, pos, after, g⟩ (yielded ops tmps) = false) (hS : S w)
    (h : wpAnyH P md ops Q S fuel (listed.setIfInBounds i true) ⟨tmps.setIfInBounds d undef, defers⟩ w) : wpAnyH P md ops Q S (fuel + 1) listed ⟨tmps, defers⟩ w :=
  wpAnyH_take (oi := ⟨some d, op, ty, pos, after, g⟩) (v := undef) hi hs hf hr hQ (Or.inr ⟨hw, rfl⟩) hS h
end Go.Proofs.Ytodpbghkjnlfdaa.ce
/- Contracts: the program's leftRight, hereRight. -/
namespace Go.Proofs.Ytodpbghkjnlfdaa.ce
open Go.ChangeShapes Go.WideShapes Go.ChangeAt Go.RowKit
set_option linter.unusedVariables false

def leftB (H : List C) (x s l : Int) : Bool := if s = 0 ∨ s = 5 then decide (l = -1) else decide (wlk H l ∧ (nth H l).key < x)

set_option maxHeartbeats 1000000 in
theorem leftRight_any (H : List C) (hok : heapOk H) (d : Hd) (v : Value) (hi : Nat) (w : World) (hh : hi ≤ w.heap.size) (r : Rd w hi v H) :
    Calls Try.prog 41 #[v, .agg (hv d).toArray] w fun e w' => e = .returned (.bool (leftB H d.key d.step d.left)) ∧ Below w.heap.size w w' := by
  have hl := r.len
  obtain ⟨a, cap, rfl⟩ := r.form
  have R : Hid (Rd w hi (.slice a H.length cap) H) := r
  have HO : Hid (heapOk H) := hok
  clear r hok
  obtain ⟨k, x, y, s, l, e, o, t⟩ := d
  obtain ⟨z, hz⟩ := hid_ex (leftB H x s l)
  show Calls Try.prog 41 _ w fun e w' => e = .returned (.bool (leftB H x s l)) ∧ Below w.heap.size w w'
  rw [hz.out]
  by_cases hs : s = 0 ∨ s = 5
  · have SS : Hid (decide (s = 0 ∨ s = 5) = true) := decide_eq_true hs
    have ez : (l == -1) = z := by rw [← hz.out, ibeq]; simp [leftB, hs]
    clear hs
    go_enter Try.func41, Try.ntmps41
    go_wp2_with (first | (refine wpList_box_v rfl 29 _ rfl (hv ⟨k, x, y, s, l, e, o, t⟩) rfl ?_; intro b1 w1 hb1 hw1 hB1 hV1; have hz1 := hB1.size; have hb : HB w1 b1 ⟨k, x, y, s, l, e, o, t⟩ := ⟨hV1⟩; obtain ⟨c0, c1, c2, c3, c4, c5, c6, c7⟩ := hb.cells) | (go_at_call 62; refine (standsNowhere_any ⟨k, x, y, s, l, e, o, t⟩ _).mono ?_; rintro er w2 ⟨rfl, hB2⟩; rw [SS.out]; have hz2 := hB2.size; replace hb := hb.of (hB2.block b1 hw1); clear c0 c1 c2 c3 c4 c5 c6 c7; obtain ⟨c0, c1, c2, c3, c4, c5, c6, c7⟩ := hb.cells; have hB : Below w.heap.size w w2 := hB1.trans (hB2.mono hz1); clear hB1 hB2) | (fail))
    go_ret
    exact ⟨by simp, hB⟩
  · have SS : Hid (decide (s = 0 ∨ s = 5) = false) := decide_eq_false hs
    by_cases hp : wlk H l
    · have WW : Hid (decide (wlk H l) = true) := decide_eq_true hp
      obtain ⟨i, rfl⟩ : ∃ i : Nat, l = i := ⟨l.toNat, by have := hp.1.1; omega⟩
      have hi1 : i < H.length := by have := hp.1.2; omega
      have hi1' : (i : Int) < H.length := by omega
      have en := nth_nat H i hi1
      obtain ⟨b, off, rfl, hbh, e0, -, -, -⟩ := R.out.cell i hi1
      obtain ⟨kk, hkk⟩ := hid_ex (H[i].key)
      rw [hkk.out] at e0
      have ez : decide (kk < x) = z := by rw [← hz.out]; simp [leftB, hs, hp, en, hkk.out]
      clear hs hp
      go_enter Try.func41, Try.ntmps41
      go_wp2_with (first | (refine wpList_box_v rfl 29 _ rfl (hv ⟨k, x, y, s, (i : Int), e, o, t⟩) rfl ?_; intro b1 w1 hb1 hw1 hB1 hV1; have hz1 := hB1.size; have hb : HB w1 b1 ⟨k, x, y, s, (i : Int), e, o, t⟩ := ⟨hV1⟩; obtain ⟨c0, c1, c2, c3, c4, c5, c6, c7⟩ := hb.cells) | (go_at_call 62; refine (standsNowhere_any ⟨k, x, y, s, (i : Int), e, o, t⟩ _).mono ?_; rintro er w2 ⟨rfl, hB2⟩; rw [SS.out]; have hz2 := hB2.size; replace hb := hb.of (hB2.block b1 hw1); clear c0 c1 c2 c3 c4 c5 c6 c7; obtain ⟨c0, c1, c2, c3, c4, c5, c6, c7⟩ := hb.cells; have hB : Below w.heap.size w w2 := hB1.trans (hB2.mono hz1); clear hB1 hB2) | (fail))
      have e2 : w2.drew.cell? ⟨b, off + i * 4, none⟩ = some (.int .i64 kk) := (World.cell?_of_block (w := w) (w' := w2.drew) (a := ⟨b, off + i * 4, none⟩) (hB.drew.block b (by omega))).trans e0
      have S0 : w2.drew.cell? ⟨b1, 4, none⟩ = some (.int .i64 (i : Int)) ∧ w2.drew.cell? ⟨b1, 1, none⟩ = some (.int .i64 x) ∧ w2.drew.cell? ⟨b, off + i * 4, none⟩ = some (.int .i64 kk) := ⟨c4, c1, e2⟩
      go_region_held3 (fun w' => w'.cell? ⟨b1, 4, none⟩ = some (.int .i64 (i : Int)) ∧ w'.cell? ⟨b1, 1, none⟩ = some (.int .i64 x) ∧ w'.cell? ⟨b, off + i * 4, none⟩ = some (.int .i64 kk)) (first | assumption | exact S0 | (fail)) (first | (go_at_call 63; refine (walkable_any H HO.out (i : Int) _ hi w2.drew (by show hi ≤ w2.heap.size; omega) (R.out.below hB.drew hh)).mono ?_; rintro er w3 ⟨rfl, hB3⟩; rw [WW.out]; have hb3 := hb.of (w' := w3) (hB3.block b1 (by show b1 < w2.heap.size; omega)); obtain ⟨f0, f1, f2, f3, f4, f5, f6, f7⟩ := hb3.cells; have e3 := (World.cell?_of_block (w := w2.drew) (w' := w3) (a := ⟨b, off + i * 4, none⟩) (hB3.block b (by show b < w2.heap.size; omega))).trans e2; have S4 := And.intro f4 (And.intro f1 e3)) | (fail))
      go_wp2
      go_ret
      exact ⟨by simp, hB.drew.trans (hB3.mono (by show w.heap.size ≤ w2.heap.size; omega))⟩
    · have WW : Hid (decide (wlk H l) = false) := decide_eq_false hp
      have ez : z = false := by rw [← hz.out]; simp [leftB, hs, hp]
      clear hs hp
      subst ez
      go_enter Try.func41, Try.ntmps41
      go_wp2_with (first | (refine wpList_box_v rfl 29 _ rfl (hv ⟨k, x, y, s, l, e, o, t⟩) rfl ?_; intro b1 w1 hb1 hw1 hB1 hV1; have hz1 := hB1.size; have hb : HB w1 b1 ⟨k, x, y, s, l, e, o, t⟩ := ⟨hV1⟩; obtain ⟨c0, c1, c2, c3, c4, c5, c6, c7⟩ := hb.cells) | (go_at_call 62; refine (standsNowhere_any ⟨k, x, y, s, l, e, o, t⟩ _).mono ?_; rintro er w2 ⟨rfl, hB2⟩; rw [SS.out]; have hz2 := hB2.size; replace hb := hb.of (hB2.block b1 hw1); clear c0 c1 c2 c3 c4 c5 c6 c7; obtain ⟨c0, c1, c2, c3, c4, c5, c6, c7⟩ := hb.cells; have hB : Below w.heap.size w w2 := hB1.trans (hB2.mono hz1); clear hB1 hB2) | (fail))
      refine wp_region_held_drew (S := fun w' => w'.cell? ⟨b1, 4, none⟩ = some (.int .i64 l)) (by kernel_rfl) c4 (fun hHeld => ?_)
      refine takeW 0 10 (.slice a H.length cap) rfl (by kernel_rfl) (by kernel_rfl) (by kernel_rfl) (fun _ _ _ h => h) (by kernel_rfl) (fun w' hS => by go_simp) hHeld ?_
      go_frame
      refine takeW 1 11 (.pointer (some ⟨b1, 4, none⟩)) rfl (by kernel_rfl) (by kernel_rfl) (by kernel_rfl) (fun _ _ _ h => h) (by kernel_rfl) (fun w' hS => by go_simp) hHeld ?_
      go_frame
      refine takeW 2 12 (.int .i64 l) rfl (by kernel_rfl) (by kernel_rfl) (by kernel_rfl) (fun _ _ _ h => h) (by kernel_rfl) (fun w' hS => by go_simp) hHeld ?_
      go_frame
      refine wpAnyH_ready (rs := [3]) (by kernel_rfl) (by simp) ?_
      refine AllReadyH.cons rfl (fun K hK => ?_) AllReadyH.nil
      go_simp
      go_at_call 63
      refine (walkable_any H HO.out l _ hi w2.drew (by show hi ≤ w2.heap.size; omega) (R.out.below hB.drew hh)).mono ?_
      rintro er w3 ⟨rfl, hB3⟩
      rw [WW.out]
      have hS3 : w3.cell? ⟨b1, 4, none⟩ = some (.int .i64 l) := (World.cell?_of_block (w := w2.drew) (w' := w3) (a := ⟨b1, 4, none⟩) (hB3.block b1 (by show b1 < w2.heap.size; omega))).trans c4
      refine hK.out _ _ hS3 (fun _ => ?_)
      refine takeW 4 14 (.bool false) rfl (by kernel_rfl) (by kernel_rfl) (by kernel_rfl) (fun _ _ _ h => h) (by kernel_rfl) (fun w' hS => by go_simp) hS3 ?_
      go_frame
      refine takeU 5 15 rfl (by kernel_rfl) (by kernel_rfl) (by kernel_rfl) (fun _ _ _ h => h) (by kernel_rfl) hS3 ?_
      go_frame
      refine takeU 6 16 rfl (by kernel_rfl) (by kernel_rfl) (by kernel_rfl) (fun _ _ _ h => h) (by kernel_rfl) hS3 ?_
      go_frame
      refine takeU 7 17 rfl (by kernel_rfl) (by kernel_rfl) (by kernel_rfl) (fun _ _ _ h => h) (by kernel_rfl) hS3 ?_
      go_frame
      refine takeU 8 18 rfl (by kernel_rfl) (by kernel_rfl) (by kernel_rfl) (fun _ _ _ h => h) (by kernel_rfl) hS3 ?_
      go_frame
      refine takeU 9 19 rfl (by kernel_rfl) (by kernel_rfl) (by kernel_rfl) (fun _ _ _ h => h) (by kernel_rfl) hS3 ?_
      go_frame
      refine takeU 10 20 rfl (by kernel_rfl) (by kernel_rfl) (by kernel_rfl) (fun _ _ _ h => h) (by kernel_rfl) hS3 ?_
      go_frame
      refine takeU 11 21 rfl (by kernel_rfl) (by kernel_rfl) (by kernel_rfl) (fun _ _ _ h => h) (by kernel_rfl) hS3 ?_
      go_frame
      refine takeU 12 22 rfl (by kernel_rfl) (by kernel_rfl) (by kernel_rfl) (fun _ _ _ h => h) (by kernel_rfl) hS3 ?_
      go_frame
      refine takeU 13 23 rfl (by kernel_rfl) (by kernel_rfl) (by kernel_rfl) (fun _ _ _ h => h) (by kernel_rfl) hS3 ?_
      go_frame
      refine takeW 14 24 (.bool false) rfl (by kernel_rfl) (by kernel_rfl) (by kernel_rfl) (fun _ _ _ h => h) (by kernel_rfl) (fun w' hS => by go_simp) hS3 ?_
      go_frame
      refine takeW 15 4 (.bool false) rfl (by kernel_rfl) (by kernel_rfl) (by kernel_rfl) (fun _ _ _ h => h) (by kernel_rfl) (fun w' hS => by go_simp) hS3 ?_
      go_frame
      refine wpAnyH_done (by kernel_rfl) ?_ _
      go_wp2
      go_ret
      exact ⟨rfl, hB.drew.trans (hB3.mono (by show w.heap.size ≤ w2.heap.size; omega))⟩
end Go.Proofs.Ytodpbghkjnlfdaa.ce
/- Contracts: the program's hereRight. -/
namespace Go.Proofs.Ytodpbghkjnlfdaa.ce
open Go.ChangeShapes Go.WideShapes Go.ChangeAt Go.RowKit
set_option linter.unusedVariables false

def hereB (H : List C) (x s e : Int) : Bool := if (s = 0 ∨ s = 5) ∨ e = -1 then decide (e = -1 ∧ s ≠ 4) else decide (e ≠ 0 ∧ wlk H e ∧ (s = 2 → x ≤ (nth H e).key) ∧ (s = 3 → x < (nth H e).key) ∧ (s = 4 → (nth H e).key = x))

set_option maxHeartbeats 2000000 in
theorem hereRight_any (H : List C) (hok : heapOk H) (d : Hd) (v : Value) (hi : Nat) (w : World) (hh : hi ≤ w.heap.size) (r : Rd w hi v H) :
    Calls Try.prog 42 #[v, .agg (hv d).toArray] w fun e w' => e = .returned (.bool (hereB H d.key d.step d.here)) ∧ Below w.heap.size w w' := by
  have hl := r.len
  obtain ⟨a, cap, rfl⟩ := r.form
  have R : Hid (Rd w hi (.slice a H.length cap) H) := r
  have HO : Hid (heapOk H) := hok
  clear r hok
  obtain ⟨k, x, y, s, l, e, o, t⟩ := d
  obtain ⟨z, hz⟩ := hid_ex (hereB H x s e)
  show Calls Try.prog 42 _ w fun e' w' => e' = .returned (.bool (hereB H x s e)) ∧ Below w.heap.size w w'
  rw [hz.out]
  by_cases he : e = -1
  · have ge : (e == -1) = true := by simpa using he
    have ez : (s != 4) = z := by rw [← hz.out, bne, ibeq]; simp [hereB, he]
    clear he
    by_cases hs : s = 0 ∨ s = 5
    · have SS : Hid (decide (s = 0 ∨ s = 5) = true) := decide_eq_true hs
      clear hs
      go_enter Try.func42, Try.ntmps42
      go_wp2_with (first | (refine wpList_box_v rfl 29 _ rfl (hv ⟨k, x, y, s, l, e, o, t⟩) rfl ?_; intro b1 w1 hb1 hw1 hB1 hV1; have hz1 := hB1.size; have hb : HB w1 b1 ⟨k, x, y, s, l, e, o, t⟩ := ⟨hV1⟩; obtain ⟨c0, c1, c2, c3, c4, c5, c6, c7⟩ := hb.cells) | (go_at_call 62; refine (standsNowhere_any ⟨k, x, y, s, l, e, o, t⟩ _).mono ?_; rintro er w2 ⟨rfl, hB2⟩; rw [SS.out]; have hz2 := hB2.size; replace hb := hb.of (hB2.block b1 hw1); clear c0 c1 c2 c3 c4 c5 c6 c7; obtain ⟨c0, c1, c2, c3, c4, c5, c6, c7⟩ := hb.cells; have hB : Below w.heap.size w w2 := hB1.trans (hB2.mono hz1); clear hB1 hB2) | (fail))
      go_ret
      exact ⟨by simp, hB⟩
    · have SS : Hid (decide (s = 0 ∨ s = 5) = false) := decide_eq_false hs
      clear hs
      go_enter Try.func42, Try.ntmps42
      go_wp2_with (first | (refine wpList_box_v rfl 29 _ rfl (hv ⟨k, x, y, s, l, e, o, t⟩) rfl ?_; intro b1 w1 hb1 hw1 hB1 hV1; have hz1 := hB1.size; have hb : HB w1 b1 ⟨k, x, y, s, l, e, o, t⟩ := ⟨hV1⟩; obtain ⟨c0, c1, c2, c3, c4, c5, c6, c7⟩ := hb.cells) | (go_at_call 62; refine (standsNowhere_any ⟨k, x, y, s, l, e, o, t⟩ _).mono ?_; rintro er w2 ⟨rfl, hB2⟩; rw [SS.out]; have hz2 := hB2.size; replace hb := hb.of (hB2.block b1 hw1); clear c0 c1 c2 c3 c4 c5 c6 c7; obtain ⟨c0, c1, c2, c3, c4, c5, c6, c7⟩ := hb.cells; have hB : Below w.heap.size w w2 := hB1.trans (hB2.mono hz1); clear hB1 hB2) | (fail))
      go_ret
      exact ⟨by simp, hB⟩
  have ge : (e == -1) = false := by simpa using he
  by_cases hs : s = 0 ∨ s = 5
  · have SS : Hid (decide (s = 0 ∨ s = 5) = true) := decide_eq_true hs
    have ez : z = false := by rw [← hz.out]; simp [hereB, he, hs]
    clear hs he
    subst ez
    go_enter Try.func42, Try.ntmps42
    go_wp2_with (first | (refine wpList_box_v rfl 29 _ rfl (hv ⟨k, x, y, s, l, e, o, t⟩) rfl ?_; intro b1 w1 hb1 hw1 hB1 hV1; have hz1 := hB1.size; have hb : HB w1 b1 ⟨k, x, y, s, l, e, o, t⟩ := ⟨hV1⟩; obtain ⟨c0, c1, c2, c3, c4, c5, c6, c7⟩ := hb.cells) | (go_at_call 62; refine (standsNowhere_any ⟨k, x, y, s, l, e, o, t⟩ _).mono ?_; rintro er w2 ⟨rfl, hB2⟩; rw [SS.out]; have hz2 := hB2.size; replace hb := hb.of (hB2.block b1 hw1); clear c0 c1 c2 c3 c4 c5 c6 c7; obtain ⟨c0, c1, c2, c3, c4, c5, c6, c7⟩ := hb.cells; have hB : Below w.heap.size w w2 := hB1.trans (hB2.mono hz1); clear hB1 hB2) | (fail))
    go_ret
    exact ⟨rfl, hB⟩
  have SS : Hid (decide (s = 0 ∨ s = 5) = false) := decide_eq_false hs
  by_cases h0 : e = 0
  · have g0 : (e == 0) = true := by simpa using h0
    have ez : z = false := by rw [← hz.out]; simp [hereB, hs, h0]
    clear hs he h0
    subst ez
    go_enter Try.func42, Try.ntmps42
    go_wp2_with (first | (refine wpList_box_v rfl 29 _ rfl (hv ⟨k, x, y, s, l, e, o, t⟩) rfl ?_; intro b1 w1 hb1 hw1 hB1 hV1; have hz1 := hB1.size; have hb : HB w1 b1 ⟨k, x, y, s, l, e, o, t⟩ := ⟨hV1⟩; obtain ⟨c0, c1, c2, c3, c4, c5, c6, c7⟩ := hb.cells) | (go_at_call 62; refine (standsNowhere_any ⟨k, x, y, s, l, e, o, t⟩ _).mono ?_; rintro er w2 ⟨rfl, hB2⟩; rw [SS.out]; have hz2 := hB2.size; replace hb := hb.of (hB2.block b1 hw1); clear c0 c1 c2 c3 c4 c5 c6 c7; obtain ⟨c0, c1, c2, c3, c4, c5, c6, c7⟩ := hb.cells; have hB : Below w.heap.size w w2 := hB1.trans (hB2.mono hz1); clear hB1 hB2) | (fail))
    go_ret
    exact ⟨rfl, hB⟩
  have g0 : (e == 0) = false := by simpa using h0
  by_cases hp : wlk H e
  · have WW : Hid (decide (wlk H e) = true) := decide_eq_true hp
    obtain ⟨i, rfl⟩ : ∃ i : Nat, e = i := ⟨e.toNat, by have := hp.1.1; omega⟩
    have hi1 : i < H.length := by have := hp.1.2; omega
    have hi1' : (i : Int) < H.length := by omega
    have hi0 : ¬ ((i : Int) = -1) := he
    have en := nth_nat H i hi1
    obtain ⟨b, off, rfl, hbh, e0, -, -, -⟩ := R.out.cell i hi1
    obtain ⟨kk, hkk⟩ := hid_ex (H[i].key)
    rw [hkk.out] at e0
    clear he
    have h00 : ¬ i = 0 := by omega
    clear h0
    by_cases h2 : s = 2
    · have g2 : (s == 2) = true := by simpa using h2
      have ez : decide (x ≤ kk) = z := by rw [← hz.out]; simp [hereB, hp, en, hkk.out, h2, hi0, h00]
      clear hs hp h2
      go_enter Try.func42, Try.ntmps42
      go_wp2_with (first | (refine wpList_box_v rfl 29 _ rfl (hv ⟨k, x, y, s, l, (i : Int), o, t⟩) rfl ?_; intro b1 w1 hb1 hw1 hB1 hV1; have hz1 := hB1.size; have hb : HB w1 b1 ⟨k, x, y, s, l, (i : Int), o, t⟩ := ⟨hV1⟩; obtain ⟨c0, c1, c2, c3, c4, c5, c6, c7⟩ := hb.cells) | (go_at_call 62; refine (standsNowhere_any ⟨k, x, y, s, l, (i : Int), o, t⟩ _).mono ?_; rintro er w2 ⟨rfl, hB2⟩; rw [SS.out]; have hz2 := hB2.size; replace hb := hb.of (hB2.block b1 hw1); clear c0 c1 c2 c3 c4 c5 c6 c7; obtain ⟨c0, c1, c2, c3, c4, c5, c6, c7⟩ := hb.cells; have hB : Below w.heap.size w w2 := hB1.trans (hB2.mono hz1); clear hB1 hB2) | (go_at_call 63; refine (walkable_any H HO.out (i : Int) _ hi _ (by omega) (R.out.below hB hh)).mono ?_; rintro er w3 ⟨rfl, hB3⟩; rw [WW.out]; have hz3 := hB3.size; replace hb := hb.of (hB3.block b1 (by omega)); clear c0 c1 c2 c3 c4 c5 c6 c7; obtain ⟨c0, c1, c2, c3, c4, c5, c6, c7⟩ := hb.cells; replace hB := hB.trans (hB3.mono (by omega)); have e3 := (World.cell?_of_block (w := w) (w' := w3) (a := ⟨b, off + i * 4, none⟩) (hB.block b (by omega))).trans e0) | (fail))
      try go_frame
      go_big_quiet (fail)
      go_wp2
      go_ret
      exact ⟨by simp, hB.trans (below_drewN _ _)⟩
    · have g2 : (s == 2) = false := by simpa using h2
      by_cases h3 : s = 3
      · have g3 : (s == 3) = true := by simpa using h3
        have ez : decide (x < kk) = z := by rw [← hz.out]; simp [hereB, hp, en, hkk.out, h3, hi0, h00]
        clear hs hp h2 h3
        go_enter Try.func42, Try.ntmps42
        go_wp2_with (first | (refine wpList_box_v rfl 29 _ rfl (hv ⟨k, x, y, s, l, (i : Int), o, t⟩) rfl ?_; intro b1 w1 hb1 hw1 hB1 hV1; have hz1 := hB1.size; have hb : HB w1 b1 ⟨k, x, y, s, l, (i : Int), o, t⟩ := ⟨hV1⟩; obtain ⟨c0, c1, c2, c3, c4, c5, c6, c7⟩ := hb.cells) | (go_at_call 62; refine (standsNowhere_any ⟨k, x, y, s, l, (i : Int), o, t⟩ _).mono ?_; rintro er w2 ⟨rfl, hB2⟩; rw [SS.out]; have hz2 := hB2.size; replace hb := hb.of (hB2.block b1 hw1); clear c0 c1 c2 c3 c4 c5 c6 c7; obtain ⟨c0, c1, c2, c3, c4, c5, c6, c7⟩ := hb.cells; have hB : Below w.heap.size w w2 := hB1.trans (hB2.mono hz1); clear hB1 hB2) | (go_at_call 63; refine (walkable_any H HO.out (i : Int) _ hi _ (by omega) (R.out.below hB hh)).mono ?_; rintro er w3 ⟨rfl, hB3⟩; rw [WW.out]; have hz3 := hB3.size; replace hb := hb.of (hB3.block b1 (by omega)); clear c0 c1 c2 c3 c4 c5 c6 c7; obtain ⟨c0, c1, c2, c3, c4, c5, c6, c7⟩ := hb.cells; replace hB := hB.trans (hB3.mono (by omega)); have e3 := (World.cell?_of_block (w := w) (w' := w3) (a := ⟨b, off + i * 4, none⟩) (hB.block b (by omega))).trans e0) | (fail))
        try go_frame
        go_big_quiet (fail)
        go_wp2
        go_ret
        exact ⟨by simp, hB.trans (below_drewN _ _)⟩
      · have g3 : (s == 3) = false := by simpa using h3
        by_cases h4 : s = 4
        · have g4 : (s == 4) = true := by simpa using h4
          have ez : (kk == x) = z := by rw [← hz.out, ibeq]; simp [hereB, hp, en, hkk.out, h4, hi0, h00]
          clear hs hp h2 h3 h4
          go_enter Try.func42, Try.ntmps42
          go_wp2_with (first | (refine wpList_box_v rfl 29 _ rfl (hv ⟨k, x, y, s, l, (i : Int), o, t⟩) rfl ?_; intro b1 w1 hb1 hw1 hB1 hV1; have hz1 := hB1.size; have hb : HB w1 b1 ⟨k, x, y, s, l, (i : Int), o, t⟩ := ⟨hV1⟩; obtain ⟨c0, c1, c2, c3, c4, c5, c6, c7⟩ := hb.cells) | (go_at_call 62; refine (standsNowhere_any ⟨k, x, y, s, l, (i : Int), o, t⟩ _).mono ?_; rintro er w2 ⟨rfl, hB2⟩; rw [SS.out]; have hz2 := hB2.size; replace hb := hb.of (hB2.block b1 hw1); clear c0 c1 c2 c3 c4 c5 c6 c7; obtain ⟨c0, c1, c2, c3, c4, c5, c6, c7⟩ := hb.cells; have hB : Below w.heap.size w w2 := hB1.trans (hB2.mono hz1); clear hB1 hB2) | (go_at_call 63; refine (walkable_any H HO.out (i : Int) _ hi _ (by omega) (R.out.below hB hh)).mono ?_; rintro er w3 ⟨rfl, hB3⟩; rw [WW.out]; have hz3 := hB3.size; replace hb := hb.of (hB3.block b1 (by omega)); clear c0 c1 c2 c3 c4 c5 c6 c7; obtain ⟨c0, c1, c2, c3, c4, c5, c6, c7⟩ := hb.cells; replace hB := hB.trans (hB3.mono (by omega)); have e3 := (World.cell?_of_block (w := w) (w' := w3) (a := ⟨b, off + i * 4, none⟩) (hB.block b (by omega))).trans e0) | (fail))
          try go_frame
          go_big_quiet (fail)
          go_wp2
          go_ret
          exact ⟨by simp, hB.trans (below_drewN _ _)⟩
        · have g4 : (s == 4) = false := by simpa using h4
          have ez : z = true := by rw [← hz.out]; simp [hereB, hp, en, hs, h2, h3, h4, hi0, h00]
          clear hs hp h2 h3 h4
          subst ez
          go_enter Try.func42, Try.ntmps42
          go_wp2_with (first | (refine wpList_box_v rfl 29 _ rfl (hv ⟨k, x, y, s, l, (i : Int), o, t⟩) rfl ?_; intro b1 w1 hb1 hw1 hB1 hV1; have hz1 := hB1.size; have hb : HB w1 b1 ⟨k, x, y, s, l, (i : Int), o, t⟩ := ⟨hV1⟩; obtain ⟨c0, c1, c2, c3, c4, c5, c6, c7⟩ := hb.cells) | (go_at_call 62; refine (standsNowhere_any ⟨k, x, y, s, l, (i : Int), o, t⟩ _).mono ?_; rintro er w2 ⟨rfl, hB2⟩; rw [SS.out]; have hz2 := hB2.size; replace hb := hb.of (hB2.block b1 hw1); clear c0 c1 c2 c3 c4 c5 c6 c7; obtain ⟨c0, c1, c2, c3, c4, c5, c6, c7⟩ := hb.cells; have hB : Below w.heap.size w w2 := hB1.trans (hB2.mono hz1); clear hB1 hB2) | (go_at_call 63; refine (walkable_any H HO.out (i : Int) _ hi _ (by omega) (R.out.below hB hh)).mono ?_; rintro er w3 ⟨rfl, hB3⟩; rw [WW.out]; have hz3 := hB3.size; replace hb := hb.of (hB3.block b1 (by omega)); clear c0 c1 c2 c3 c4 c5 c6 c7; obtain ⟨c0, c1, c2, c3, c4, c5, c6, c7⟩ := hb.cells; replace hB := hB.trans (hB3.mono (by omega))) | (fail))
          go_ret
          exact ⟨rfl, hB⟩
  · have WW : Hid (decide (wlk H e) = false) := decide_eq_false hp
    have ez : z = false := by rw [← hz.out]; simp [hereB, hs, he, hp]
    clear hs he h0 hp
    subst ez
    go_enter Try.func42, Try.ntmps42
    go_wp2_with (first | (refine wpList_box_v rfl 29 _ rfl (hv ⟨k, x, y, s, l, e, o, t⟩) rfl ?_; intro b1 w1 hb1 hw1 hB1 hV1; have hz1 := hB1.size; have hb : HB w1 b1 ⟨k, x, y, s, l, e, o, t⟩ := ⟨hV1⟩; obtain ⟨c0, c1, c2, c3, c4, c5, c6, c7⟩ := hb.cells) | (go_at_call 62; refine (standsNowhere_any ⟨k, x, y, s, l, e, o, t⟩ _).mono ?_; rintro er w2 ⟨rfl, hB2⟩; rw [SS.out]; have hz2 := hB2.size; replace hb := hb.of (hB2.block b1 hw1); clear c0 c1 c2 c3 c4 c5 c6 c7; obtain ⟨c0, c1, c2, c3, c4, c5, c6, c7⟩ := hb.cells; have hB : Below w.heap.size w w2 := hB1.trans (hB2.mono hz1); clear hB1 hB2) | (go_at_call 63; refine (walkable_any H HO.out e _ hi _ (by omega) (R.out.below hB hh)).mono ?_; rintro er w3 ⟨rfl, hB3⟩; rw [WW.out]; have hz3 := hB3.size; replace hb := hb.of (hB3.block b1 (by omega)); clear c0 c1 c2 c3 c4 c5 c6 c7; obtain ⟨c0, c1, c2, c3, c4, c5, c6, c7⟩ := hb.cells; replace hB := hB.trans (hB3.mono (by omega))) | (fail))
    go_ret
    exact ⟨rfl, hB⟩
end Go.Proofs.Ytodpbghkjnlfdaa.ce
