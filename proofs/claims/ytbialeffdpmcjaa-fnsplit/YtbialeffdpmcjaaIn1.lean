/- Rows of int64 in memory: how one is read, how one that a call made is owned, appended to and stored into; the laws' helpers on them. -/
import Derived.Test.YtbialeffdpmcjaaCe5
namespace Go.Proofs.Ytbialeffdpmcjaa.ce
open Go.ChangeShapes Go.WideShapes Go.ChangeAt Go.RowKit
set_option linter.unusedVariables false

def ivs (xs : List Int) : List Value := xs.map (Value.int .i64)
theorem ivs_len (xs : List Int) : (ivs xs).length = xs.length := by simp [ivs]
theorem ivs_append (xs ys : List Int) : ivs (xs ++ ys) = ivs xs ++ ivs ys := by simp [ivs]
theorem ivs_get (xs : List Int) (i : Nat) (hi : i < xs.length) : (ivs xs)[i]? = some (.int .i64 xs[i]) := by simp [ivs, hi]
theorem ivs_one (xs : List Int) : ∀ v ∈ ivs xs, v.oneCell' = true := by
  intro v hv
  obtain ⟨x, -, rfl⟩ := List.mem_map.1 hv
  rfl

/-- the numbers xs are read at the slice v, in blocks under hi -/
structure RdI (w : World) (hi : Nat) (v : Value) (xs : List Int) : Prop where
  fits : ∃ a cap, v = .slice a xs.length cap ∧ xs.length ≤ cap ∧ cap ≤ maxLen ∧ (xs ≠ [] → ∃ b off, a = some ⟨b, off, none⟩ ∧ b < hi ∧ w.rangeAt b off (ivs xs))
theorem RdI.keep {w w' : World} {hi : Nat} {v : Value} {xs : List Int} (r : RdI w hi v xs) (s : ∀ k, k < hi → w'.heap[k]? = w.heap[k]?) : RdI w' hi v xs := by
  obtain ⟨a, cap, e, h1, h2, h3⟩ := r.fits
  refine ⟨a, cap, e, h1, h2, fun hn => ?_⟩
  obtain ⟨b, off, e2, h4, h5⟩ := h3 hn
  exact ⟨b, off, e2, h4, range_of h5 (s b h4)⟩
theorem RdI.below {w w' : World} {hi B : Nat} {v : Value} {xs : List Int} (r : RdI w hi v xs) (hb : Below B w w') (hB : hi ≤ B) : RdI w' hi v xs := r.keep fun k hk => hb.block k (by omega)
theorem RdI.drew {w : World} {hi : Nat} {v : Value} {xs : List Int} (r : RdI w hi v xs) : RdI w.drew hi v xs := r.keep fun k hk => rfl
theorem RdI.drewN {w : World} {hi : Nat} {v : Value} {xs : List Int} (r : RdI w hi v xs) (n : Nat) : RdI (w.drewN n) hi v xs := r.keep fun k hk => rfl
theorem RdI.wide {w : World} {hi hi' : Nat} {v : Value} {xs : List Int} (r : RdI w hi v xs) (hh : hi ≤ hi') : RdI w hi' v xs := by
  obtain ⟨a, cap, e, h1, h2, h3⟩ := r.fits
  refine ⟨a, cap, e, h1, h2, fun hn => ?_⟩
  obtain ⟨b, off, e2, h4, h5⟩ := h3 hn
  exact ⟨b, off, e2, by omega, h5⟩
theorem RdI.form {w : World} {hi : Nat} {v : Value} {xs : List Int} (r : RdI w hi v xs) : ∃ a cap, v = .slice a xs.length cap := by
  obtain ⟨a, cap, e, -⟩ := r.fits
  exact ⟨a, cap, e⟩
theorem RdI.len {w : World} {hi : Nat} {v : Value} {xs : List Int} (r : RdI w hi v xs) : xs.length ≤ 9223372036854775807 := by
  obtain ⟨a, cap, e, h1, h2, h3⟩ := r.fits
  unfold maxLen at h2; omega
theorem RdI.cell {w : World} {hi n cap : Nat} {a : Option Addr} {xs : List Int} (r : RdI w hi (.slice a n cap) xs) (i : Nat) (hi' : i < xs.length) : ∃ b off, a = some ⟨b, off, none⟩ ∧ b < hi ∧ w.cell? ⟨b, off + i, none⟩ = some (.int .i64 xs[i]) := by
  obtain ⟨a', cap', e, h1, h2, h3⟩ := r.fits
  cases e
  obtain ⟨b, off, rfl, h4, h5⟩ := h3 (by intro e; subst e; simp at hi')
  exact ⟨b, off, rfl, h4, h5 i _ (ivs_get xs i hi')⟩

/-- the numbers xs lie in a row of their own in a block from lo up to hi -/
structure OwnI (w : World) (lo hi : Nat) (v : Value) (xs : List Int) : Prop where
  row : w.ownsRow lo 2 1 v xs.length (ivs xs)
  top : ∀ g, v.ownBlock = some g → g < hi
theorem OwnI.keep {w w' : World} {lo hi : Nat} {v : Value} {xs : List Int} (o : OwnI w lo hi v xs) (s : ∀ k, lo ≤ k → k < hi → w'.heap[k]? = w.heap[k]?) : OwnI w' lo hi v xs := by
  refine ⟨⟨o.row.1, ?_⟩, o.top⟩
  rcases o.row.2 with h | ⟨g, cap, cur, rfl, hg, hb, h⟩
  · exact .inl h
  · exact .inr ⟨g, cap, cur, rfl, hg, by rw [s g hg (o.top g rfl)]; exact hb, h⟩
theorem OwnI.below {w w' : World} {lo hi B : Nat} {v : Value} {xs : List Int} (o : OwnI w lo hi v xs) (hb : Below B w w') (hB : hi ≤ B) : OwnI w' lo hi v xs := o.keep fun k _ h2 => hb.block k (by omega)
theorem OwnI.wide {w : World} {lo hi lo' hi' : Nat} {v : Value} {xs : List Int} (o : OwnI w lo hi v xs) (h1 : lo' ≤ lo) (h2 : hi ≤ hi') : OwnI w lo' hi' v xs := by
  refine ⟨⟨o.row.1, ?_⟩, fun g hg => by have := o.top g hg; omega⟩
  rcases o.row.2 with h | ⟨g, cap, cur, rfl, hg, hb, h⟩
  · exact .inl h
  · exact .inr ⟨g, cap, cur, rfl, by omega, hb, h⟩
theorem OwnI.form {w : World} {lo hi : Nat} {v : Value} {xs : List Int} (o : OwnI w lo hi v xs) (hn : 1 ≤ xs.length) :
    ∃ g cap, v = .slice (some ⟨g, 0, none⟩) xs.length cap ∧ lo ≤ g ∧ g < hi ∧ g < w.heap.size := by
  rcases o.row.2 with ⟨_, h0⟩ | ⟨g, cap, cur, rfl, hg, hb, hc1, hc2, hc3, htk⟩
  · omega
  · exact ⟨g, cap, rfl, hg, o.top g rfl, (Array.getElem?_eq_some_iff.1 hb).1⟩
theorem OwnI.rd {w : World} {lo hi : Nat} {v : Value} {xs : List Int} (o : OwnI w lo hi v xs) : RdI w hi v xs := by
  rcases o.row.2 with ⟨rfl, h0⟩ | ⟨g, cap, cur, rfl, hg, hb, hc1, hc2, hc3, htk⟩
  · have e := List.eq_nil_of_length_eq_zero h0
    subst e
    exact ⟨none, 0, rfl, Nat.le_refl _, Nat.zero_le _, fun h => absurd rfl h⟩
  · refine ⟨some ⟨g, 0, none⟩, cap, rfl, hc1, hc2, fun _ => ⟨g, 0, rfl, o.top g rfl, fun j u hj => ?_⟩⟩
    rw [cell_of_row _ _ _ _ _ _ hb]
    rw [← htk, List.getElem?_take] at hj
    split at hj
    · simpa using hj
    · cases hj
theorem ownI_none (w : World) (lo hi : Nat) : OwnI w lo hi (.slice none 0 0) [] := ⟨World.ownsRow_nil w lo _ 1, fun g h => by cases h⟩
theorem ownI_empty (w : World) : OwnI (w.alloc (.cells #[] 2)) w.heap.size (w.heap.size + 1) (.slice (some ⟨w.heap.size, 0, none⟩) 0 0) [] :=
  ⟨⟨rfl, .inr ⟨w.heap.size, 0, #[], rfl, Nat.le_refl _, heap_alloc_new _ _, Nat.le_refl _, by unfold maxLen; omega, rfl, rfl⟩⟩, fun g hg => by cases hg; exact Nat.lt_succ_self _⟩
theorem OwnI.len {w : World} {lo hi n cap : Nat} {a : Option Addr} {xs : List Int} (o : OwnI w lo hi (.slice a n cap) xs) : n = xs.length := by
  rcases o.row.2 with ⟨e, h0⟩ | ⟨g, cap', cur, e, -⟩
  · cases e; omega
  · cases e; rfl
theorem OwnI.set {w : World} {lo hi g n cap : Nat} {xs : List Int} (o : OwnI w lo hi (.slice (some ⟨g, 0, none⟩) n cap) xs) (i : Nat) (x : Int) :
    OwnI (w.setCell ⟨g, i, none⟩ (.int .i64 x)) lo hi (.slice (some ⟨g, 0, none⟩) n cap) (xs.set i x) := by
  have e := o.len
  subst e
  have := (o.row.stored i (.int .i64 x)).1
  rw [show (ivs xs).set i (.int .i64 x) = ivs (xs.set i x) by simp [ivs, List.map_set]] at this
  exact ⟨by rw [List.length_set]; exact this, o.top⟩
theorem OwnI.frozen {w : World} {lo hi g n cap : Nat} {xs : List Int} (o : OwnI w lo hi (.slice (some ⟨g, 0, none⟩) n cap) xs) (j : Nat) : w.frozen? ⟨g, j, none⟩ = false := by
  have e := o.len
  subst e
  exact o.row.frozenAt j

theorem infoI : ∃ i : TypeInfo, Try.prog.info? 2 = some i ∧ i.zero = some (.int .i64 0) ∧ i.size = 1 ∧ i.bytes = 8 := by
  have h : (Try.prog.info? 2).map (fun i => (i.zero, i.size, i.bytes)) = some (some (.int .i64 0), 1, 8) := by kernel_rfl
  obtain ⟨i, hi, hz⟩ := Option.map_eq_some_iff.1 h
  simp only [Prod.mk.injEq] at hz
  exact ⟨i, hi, hz.1, hz.2.1, hz.2.2⟩
/-- numbers are appended to numbers that the call made -/
theorem wpList_append_i {o : Oper} {a : Act} {w : World} {ops : Array Oper} {rest : List Oper} {Q : Exit → Act → World → Prop} (hgd : o.guard = none) (s x : Operand) (t : TypeId) (ho : o.op = .call { callee := .builtin .append, args := #[s, x], argTypes := #[t, t] }) (ht : Try.prog.underlying t = some (.slice 2))
    (lo hi : Nat) (v : Value) (xs : List Int) (hs : a.eval s = v) (hown : OwnI w lo hi v xs) (hlo : lo ≤ w.heap.size) (b off m c : Nat) (ys : List Int) (hx : a.eval x = .slice (some ⟨b, off, none⟩) m c) (hm : ys.length = m) (hr : w.rangeAt b off (ivs ys)) (hlen : xs.length + m ≤ 1048576)
    (h : ∀ v' w', OwnI w' lo w'.heap.size v' (xs ++ ys) → Below lo w w' → wpList Try.prog ops Q rest (a.put o.dst v') w') : wpList Try.prog ops Q (o :: rest) a w := by
  obtain ⟨i0, hi0, hz0, hz1, hz2⟩ := infoI
  subst hm
  refine wpList_append_own _ hgd s x t ho lo 2 i0 _ 1 8 ht hi0 hz0 hz1 hz2 rfl (by decide) v xs.length (ivs xs) hs hown.row ⟨b, off, none⟩ ys.length c (ivs ys) hx (by rw [ivs_len, Nat.mul_one]) (fun j u hj => by rw [Addr.add_mid]; exact hr j u hj) (ivs_one ys) (by unfold maxLen; omega) (by omega) hlo ?_
  intro v' w' h2 h3 h4
  rw [← ivs_append] at h2
  refine h v' w' ⟨by rw [List.length_append]; exact h2, fun g hg => (h2.lt g hg).2⟩ (below_grown h3 hlo fun k hk => (hown.row.lt k hk).1)
theorem one_range (w : World) (x : Int) : (w.alloc (.cells #[.int .i64 x] 2)).rangeAt w.heap.size 0 (ivs [x]) := by
  have h : VBlk (w.alloc (.cells #[.int .i64 x] 2)) w.heap.size 2 [.int .i64 x] := heap_alloc_new _ _
  exact h.range

/-- the empty row g that was laid before lo, or a row of its own from lo on -/
def OutI (w : World) (g lo hi : Nat) (v : Value) (xs : List Int) : Prop := (xs = [] ∧ v = .slice (some ⟨g, 0, none⟩) 0 0) ∨ OwnI w lo hi v xs
theorem OutI.keep {w w' : World} {g lo hi : Nat} {v : Value} {xs : List Int} (o : OutI w g lo hi v xs) (s : ∀ k, lo ≤ k → k < hi → w'.heap[k]? = w.heap[k]?) : OutI w' g lo hi v xs := by
  rcases o with h | h
  · exact .inl h
  · exact .inr (h.keep s)
theorem OutI.below {w w' : World} {g lo hi B : Nat} {v : Value} {xs : List Int} (o : OutI w g lo hi v xs) (hb : Below B w w') (hB : hi ≤ B) : OutI w' g lo hi v xs := o.keep fun k _ h2 => hb.block k (by omega)
theorem OutI.own {w : World} {g lo lo' hi : Nat} {v : Value} {xs : List Int} (o : OutI w g lo hi v xs) (hl : lo' ≤ lo) (hg : OwnI w lo' hi (.slice (some ⟨g, 0, none⟩) 0 0) []) : OwnI w lo' hi v xs := by
  rcases o with ⟨rfl, rfl⟩ | h
  · exact hg
  · exact h.wide hl (Nat.le_refl _)
/-- numbers are appended; what lay below lo stays -/
theorem wpList_append_o {o : Oper} {a : Act} {w : World} {ops : Array Oper} {rest : List Oper} {Q : Exit → Act → World → Prop} (hgd : o.guard = none) (s x : Operand) (t : TypeId) (ho : o.op = .call { callee := .builtin .append, args := #[s, x], argTypes := #[t, t] }) (ht : Try.prog.underlying t = some (.slice 2))
    (g lo hi : Nat) (v : Value) (xs : List Int) (hs : a.eval s = v) (hown : OutI w g lo hi v xs) (hlo : lo ≤ w.heap.size) (b m c : Nat) (ys : List Int) (hx : a.eval x = .slice (some ⟨b, 0, none⟩) m c) (hm : ys.length = m) (hm1 : 1 ≤ m) (hr : w.rangeAt b 0 (ivs ys)) (hlen : xs.length + m ≤ 1048576)
    (h : ∀ v' w', OwnI w' lo w'.heap.size v' (xs ++ ys) → Below lo w w' → wpList Try.prog ops Q rest (a.put o.dst v') w') : wpList Try.prog ops Q (o :: rest) a w := by
  rcases hown with ⟨rfl, rfl⟩ | hown
  · obtain ⟨i0, hi0, hz0, hz1, hz2⟩ := infoI
    subst hm
    obtain ⟨v', w', hrun, h2, h3⟩ := run_append_arg_grows (P := Try.prog) (w := w) t o.type 2 i0 _ 1 8 ht hi0 hz0 hz1 hz2 rfl (by decide) ⟨g, 0, none⟩ 0 0 [] rfl (fun j u hj => by simp at hj) ⟨b, 0, none⟩ ys.length c (ivs ys) (by rw [ivs_len, Nat.mul_one]) (fun j u hj => by rw [Addr.add_mid]; exact hr j u hj) (by omega) (by unfold maxLen; simp at hlen; omega) (by simp at hlen; omega)
    simp only [List.nil_append, Nat.zero_add] at h2
    refine wpList_val hgd (v := v') (w' := w') ?_ (h v' w' ⟨?_, fun g hg => (h2.lt g hg).2⟩ ?_)
    · simp [execOp, ho, resolve, invoke, builtin, hs, hx, hrun, Result.andThen]
    · refine ⟨by rw [ivs_len]; simp, ?_⟩
      rcases h2.2 with ⟨e, h0⟩ | ⟨g', cap', cur, e, hg', rest'⟩
      · exact .inl ⟨e, h0⟩
      · exact .inr ⟨g', cap', cur, e, Nat.le_trans hlo hg', rest'⟩
    · exact (below_grown h3 (Nat.le_refl _) fun k hk => by cases hk).mono hlo
  · exact wpList_append_i hgd s x t ho ht lo hi v xs hs hown hlo b 0 m c ys hx hm hr hlen h

/-! ### the laws' helpers -/
theorem eqInts_any (xs : List Int) (v v' : Value) (hi hi' : Nat) (w : World) (hh : hi ≤ w.heap.size) (hh' : hi' ≤ w.heap.size) (r : RdI w hi v xs) (r' : RdI w hi' v' xs) :
    Calls Try.prog 29 #[v, v'] w fun e w' => e = .returned (.bool true) ∧ Below w.heap.size w w' := by
  have hl := r.len
  obtain ⟨a, cap, rfl⟩ := r.form
  obtain ⟨a', cap', rfl⟩ := r'.form
  have R : Hid (RdI w hi (.slice a xs.length cap) xs) := r
  have R' : Hid (RdI w hi' (.slice a' xs.length cap') xs) := r'
  clear r r'
  go_enter Try.func29, Try.ntmps29
  go_wp2
  go_loopw [5] (fun v' wr => ∃ i : Nat, i ≤ xs.length ∧ v' = .int .i64 i ∧ Below w.heap.size w wr) (fun v' _ => xs.length - (intOf v').toNat)
  case atStart => exact ⟨0, by omega, rfl, Below.refl _ _⟩
  case round =>
    obtain ⟨i, hi1, rfl, hBr⟩ := hrel
    by_cases hlt : i < xs.length
    · obtain ⟨b, off, rfl, hb, d0⟩ := (R.out.below hBr hh).cell i hlt
      obtain ⟨b', off', rfl, hb', e0⟩ := (R'.out.below hBr hh').cell i hlt
      obtain ⟨z, hz⟩ := hid_ex (xs[i])
      rw [hz.out] at d0 e0
      have hlt' : (i : Int) < xs.length := by omega
      go_wp2
      go_region_held3 (fun w' => w'.cell? ⟨b, off + i, none⟩ = some (.int .i64 z) ∧ w'.cell? ⟨b', off' + i, none⟩ = some (.int .i64 z)) (first | assumption | exact ⟨d0, e0⟩) (fail)
      go_wp2
      go_roundw
      case rel => exact ⟨i + 1, by omega, by go_num, hBr.drew⟩
      case measure => simp [intOf]; omega
    · go_wp2
      go_ret
      exact ⟨rfl, hBr⟩

theorem likeInts_any (xs : List Int) (v v' : Value) (hi hi' : Nat) (w : World) (hh : hi ≤ w.heap.size) (hh' : hi' ≤ w.heap.size) (r : RdI w hi v xs) (r' : RdI w hi' v' xs) :
    Calls Try.prog 40 #[v, v'] w fun e w' => e = .returned (.bool true) ∧ Below w.heap.size w w' := by
  have hl := r.len
  obtain ⟨a, cap, rfl⟩ := r.form
  obtain ⟨a', cap', rfl⟩ := r'.form
  have R : Hid (RdI w hi (.slice a xs.length cap) xs) := r
  have R' : Hid (RdI w hi' (.slice a' xs.length cap') xs) := r'
  clear r r'
  go_enter Try.func40, Try.ntmps40
  go_wp2
  go_loopw [5] (fun v' wr => ∃ i : Nat, i ≤ xs.length ∧ v' = .int .i64 i ∧ Below w.heap.size w wr) (fun v' _ => xs.length - (intOf v').toNat)
  case atStart => exact ⟨0, by omega, rfl, Below.refl _ _⟩
  case round =>
    obtain ⟨i, hi1, rfl, hBr⟩ := hrel
    by_cases hlt : i < xs.length
    · obtain ⟨b, off, rfl, hb, d0⟩ := (R.out.below hBr hh).cell i hlt
      obtain ⟨b', off', rfl, hb', e0⟩ := (R'.out.below hBr hh').cell i hlt
      obtain ⟨z, hz⟩ := hid_ex (xs[i])
      rw [hz.out] at d0 e0
      have hlt' : (i : Int) < xs.length := by omega
      go_wp2
      go_region_held3 (fun w' => w'.cell? ⟨b, off + i, none⟩ = some (.int .i64 z) ∧ w'.cell? ⟨b', off' + i, none⟩ = some (.int .i64 z)) (first | assumption | exact ⟨d0, e0⟩) (fail)
      go_wp2
      go_roundw
      case rel => exact ⟨i + 1, by omega, by go_num, hBr.drew⟩
      case measure => simp [intOf]; omega
    · go_wp2
      go_ret
      exact ⟨rfl, hBr⟩

def imarks (k : Int) (n : Nat) : List Int := (List.range n).map fun j : Nat => k + (j : Int)
theorem imarks_len (k : Int) (n : Nat) : (imarks k n).length = n := by simp [imarks]
theorem imarks_succ (k : Int) (n : Nat) : imarks k (n + 1) = imarks k n ++ [k + (n : Int)] := by simp [imarks, List.range_succ]
theorem imarks_get (k : Int) (n i : Nat) (h : i < (imarks k n).length) : (imarks k n)[i] = k + (i : Int) := by simp [imarks]

theorem markInts_any (xs : List Int) (v : Value) (lo hi : Nat) (w : World) (own : OwnI w lo hi v xs) (h2 : xs.length ≤ 1048576) :
    Calls Try.prog 30 #[v, .int .i64 1] w fun e w' => e = .returned (.int .i64 (1 + (xs.length : Int))) ∧ OwnI w' lo hi v (imarks 1 xs.length) ∧ Within lo hi w w' := by
  obtain ⟨a, cap, rfl⟩ := own.rd.form
  have hA : Hid (1 ≤ xs.length → ∃ g, a = some ⟨g, 0, none⟩ ∧ lo ≤ g ∧ g < hi) := fun h => by
    obtain ⟨g, cap', e, h1, h2, -⟩ := own.form h
    cases e
    exact ⟨g, rfl, h1, h2⟩
  have O : Hid (OwnI w lo hi (.slice a xs.length cap) xs) := own
  clear own
  go_enter Try.func30, Try.ntmps30
  go_wp2
  go_loopw [1, 5] (fun q v' wr => ∃ i : Nat, i ≤ xs.length ∧ v' = .int .i64 i ∧ q = .int .i64 (1 + (i : Int)) ∧ Hid (OwnI wr lo hi (.slice a xs.length cap) (imarks 1 i ++ xs.drop i)) ∧ Within lo hi w wr) (fun _ v' _ => xs.length - (intOf v').toNat)
  case atStart => exact ⟨0, by omega, rfl, by simp, by simpa [imarks] using O, Within.refl _ _ _⟩
  case round =>
    obtain ⟨i, hi1, rfl, rfl, ho, hW⟩ := hrel
    by_cases hlt : i < xs.length
    · obtain ⟨g, rfl, hg1, hg2⟩ := hA.out (by omega)
      have hil : Hid (i < (imarks 1 i ++ xs.drop i).length) := by unfold Hid; simp [imarks_len]; omega
      obtain ⟨b', off', e', -, d0⟩ := ho.out.rd.cell i hil.out
      cases e'
      simp only [Nat.zero_add] at d0
      have f0 := ho.out.frozen i
      have hlt' : (i : Int) < xs.length := by omega
      go_wp2
      go_roundw
      case rel =>
        have h1 := ho.out.set i (1 + (i : Int))
        have e : (imarks 1 i ++ xs.drop i).set i (1 + (i : Int)) = imarks 1 (i + 1) ++ xs.drop (i + 1) := by
          rw [List.set_append_right _ _ (by rw [imarks_len]; omega), imarks_len, Nat.sub_self, List.drop_eq_getElem_cons hlt, List.set_cons_zero, imarks_succ]
          simp
        rw [e] at h1
        exact ⟨i + 1, by omega, by go_num, by go_num, h1, hW.setCell hg1 hg2 _⟩
      case measure => simp [intOf]; omega
    · have ei : i = xs.length := by omega
      have ho' : OwnI wr lo hi (.slice a xs.length cap) (imarks 1 xs.length) := by
        have := ho.out
        rw [ei, List.drop_length, List.append_nil] at this
        exact this
      clear ho
      go_wp2
      go_ret
      exact ⟨by first | rfl | (rw [ei]; rfl), ho', hW⟩

theorem heldInts_any (n : Nat) (v : Value) (hi : Nat) (w : World) (r : RdI w hi v (imarks 1 n)) (h2 : n ≤ 1048576) :
    Calls Try.prog 31 #[v, .int .i64 1] w fun e w' => e = .returned (.int .i64 (1 + (n : Int))) ∧ w' = w := by
  obtain ⟨a, cap, rfl⟩ := r.form
  rw [imarks_len] at r ⊢
  have R : Hid (RdI w hi (.slice a n cap) (imarks 1 n)) := r
  clear r
  go_enter Try.func31, Try.ntmps31
  go_wp2
  go_loop [1, 5] (fun q v' => ∃ i : Nat, i ≤ n ∧ v' = .int .i64 i ∧ q = .int .i64 (1 + (i : Int))) (fun _ v' => n - (intOf v').toNat)
  case atStart => exact ⟨0, by omega, rfl, by simp⟩
  case round =>
    obtain ⟨i, hi', rfl, rfl⟩ := hrel
    by_cases hlt : i < n
    · have hil : i < (imarks 1 n).length := by rw [imarks_len]; exact hlt
      obtain ⟨b, off, rfl, -, d0⟩ := R.out.cell i hil
      rw [imarks_get] at d0
      clear hil
      have hlt' : (i : Int) < n := by omega
      go_wp2
      go_round
      case rel => exact ⟨i + 1, by omega, by go_num, by go_num⟩
      case measure => simp [intOf]; omega
    · have e : i = n := by omega
      go_wp2
      go_ret
      exact ⟨by first | rfl | (rw [e]; rfl), rfl⟩

end Go.Proofs.Ytbialeffdpmcjaa.ce
