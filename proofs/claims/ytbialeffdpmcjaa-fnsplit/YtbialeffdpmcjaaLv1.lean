/- The laws of chapter 7: comparisons; is a number among them; an append of what may be nothing, in a region that draws. -/
import Derived.Test.YtbialeffdpmcjaaDv3
import Derived.Test.YtbialeffdpmcjaaSx00
import Derived.Test.YtbialeffdpmcjaaSz3
import Derived.Test.YtbialeffdpmcjaaSz5
namespace Go.Proofs.Ytbialeffdpmcjaa.sx
open Go.ChangeShapes Go.WideShapes Go.ChangeAt Go.RowKit
open Go.Proofs.Ytbialeffdpmcjaa.ce
set_option linter.unusedVariables false

/-- numbers that are read, whatever world follows -/
structure RdK (w : World) (hi : Nat) (v : Value) (xs : List Int) : Prop where
  rd : RdI w hi v xs
theorem RdK.keep {w w' : World} {hi : Nat} {v : Value} {xs : List Int} (r : RdK w hi v xs) (s : ∀ k, 0 ≤ k → k < hi → w'.heap[k]? = w.heap[k]?) : RdK w' hi v xs := ⟨r.rd.keep fun k hk => s k (Nat.zero_le _) hk⟩
theorem RdK.below {w w' : World} {hi B : Nat} {v : Value} {xs : List Int} (r : RdK w hi v xs) (hb : Below B w w') (hB : hi ≤ B) : RdK w' hi v xs := ⟨r.rd.below hb hB⟩
theorem rdi_none (w : World) (hi : Nat) : RdI w hi (.slice none 0 0) [] := ⟨none, 0, rfl, Nat.le_refl _, Nat.zero_le _, fun h => absurd rfl h⟩

set_option maxRecDepth 100000 in
theorem likeSplit_any (n : Int) (ks : List Int) (v v' : Value) (hi hi' : Nat) (w : World) (hh : hi ≤ w.heap.size) (hh' : hi' ≤ w.heap.size) (r : RdI w hi v ks) (r' : RdI w hi' v' ks) :
    Calls Try.prog 39 #[.agg #[.int .i64 n, v], .agg #[.int .i64 n, v']] w fun e w' => e = .returned (.bool true) ∧ Below w.heap.size w w' := by
  have hl := r.len
  obtain ⟨a, cap, rfl⟩ := r.form
  obtain ⟨a', cap', rfl⟩ := r'.form
  have R : Hid (RdI w hi (.slice a ks.length cap) ks) := r
  have R' : Hid (RdI w hi' (.slice a' ks.length cap') ks) := r'
  clear r r'
  have m1 : Hid True := trivial
  go_enter Try.func39, Try.ntmps39
  go_wp2_with (first | (clear m1; refine wpList_box_v rfl 27 _ rfl [.int .i64 n, .slice a ks.length cap] rfl ?_; intro b1 w1 hb1 hw1 hB1 hV1; have hz1 := hB1.size) | (refine wpList_box_v rfl 27 _ rfl [.int .i64 n, .slice a' ks.length cap'] rfl ?_; intro b2 w2 hb2 hw2 hB2 hV2; have hB : Below w.heap.size w w2 := hB1.trans (hB2.mono hz1); have hz := hB.size; obtain ⟨c0, c1⟩ := sp_cells (hV1.of (hB2.block b1 hw1)); obtain ⟨d0, d1⟩ := sp_cells hV2) | (go_at_call 40; refine (likeInts_any ks _ _ hi hi' _ (by omega) (by omega) (R.out.below hB hh) (R'.out.below hB hh')).mono ?_; rintro er w3 ⟨rfl, hB3⟩) | (fail))
  go_ret
  exact ⟨rfl, hB.trans (hB3.mono hz)⟩

theorem run_append_zero {P : Program} (w : World) (t ty e : TypeId) (i : TypeInfo) (ht : P.underlying t = some (.slice e)) (hi : P.info? e = some i) (base : Option Addr) (n c : Nat) (hn : n ≤ c) (b' : Option Addr) (c' : Nat) :
    (Builtin.append_ #[t, t] ty #[.slice base n c, .slice b' 0 c']).run P w = .ok (.slice base n c) w := by
  have hf : (Builtin.firstCells i.size 0 (.slice b' 0 c')).run P w = .ok #[] w := by
    cases b' with
    | none => exact run_firstCells_none w i.size 0 0 c'
    | some a => exact run_firstCells_some w i.size 0 a 0 c' [] (by simp) (fun j v hj => by simp at hj)
  cases base <;> simp [Builtin.append_, run_underlying ht, sizeOf, typeInfo, hi, Builtin.lenOf, hn, hf, storeCells]
theorem hasInt7 (xs : List Int) (n : Int) (v : Value) (hi : Nat) (w : World) (r : RdI w hi v xs) :
    Calls Try.prog 41 #[v, .int .i64 n] w fun e w' => e = .returned (.bool (decide (n ∈ xs))) ∧ w' = w := by
  have hl := r.len
  obtain ⟨a, cap, rfl⟩ := r.form
  have R : Hid (RdI w hi (.slice a xs.length cap) xs) := r
  clear r
  obtain ⟨y, hy⟩ := hid_ex (decide (n ∈ xs))
  rw [hy.out]
  go_enter Try.func41, Try.ntmps41
  go_wp2
  go_loop [5] (fun p => ∃ i : Nat, i ≤ xs.length ∧ p = .int .i64 i ∧ Hid (n ∉ xs.take i)) (fun p => xs.length - (intOf p).toNat)
  case atStart => exact ⟨0, by omega, rfl, (by unfold Hid; simp)⟩
  case round =>
    obtain ⟨i, hi1, rfl, hno⟩ := hrel
    by_cases hlt : i < xs.length
    · obtain ⟨b, off, rfl, hb, d0⟩ := R.out.cell i hlt
      have hlt' : (i : Int) < xs.length := by omega
      obtain ⟨z, hz⟩ := hid_ex (xs[i])
      rw [hz.out] at d0
      by_cases he : z = n
      · have hb : (z == n) = true := by simpa using he
        have ey : y = true := by rw [← hy.out]; exact decide_eq_true (by rw [← he, ← hz.out]; exact List.getElem_mem hlt)
        subst ey
        go_wp2
        go_ret
        exact ⟨rfl, rfl⟩
      · have hb : (z == n) = false := by simpa using he
        have hno2 : Hid (n ∉ xs.take (i + 1)) := by
          unfold Hid
          rw [List.take_succ_eq_append_getElem hlt, List.mem_append, hz.out, List.mem_singleton]
          rintro (h | h)
          · exact hno.out h
          · exact he h.symm
        go_wp2
        go_round
        case rel => exact ⟨i + 1, by omega, by go_num, hno2⟩
        case measure => simp [intOf]; omega
    · have ei : i = xs.length := by omega
      have hlt' : ¬ (i : Int) < xs.length := by omega
      have ey : y = false := by
        have h := hno.out
        rw [ei, List.take_length] at h
        rw [← hy.out]; exact decide_eq_false h
      subst ey
      go_wp2
      go_ret
      exact ⟨rfl, rfl⟩


theorem outI_rd {w : World} {g lo hi : Nat} {v : Value} {xs : List Int} (o : OutI w g lo hi v xs) : RdI w hi v xs := by
  rcases o with ⟨rfl, rfl⟩ | h
  · exact ⟨_, 0, rfl, Nat.le_refl _, Nat.zero_le _, fun h => absurd rfl h⟩
  · exact h.rd
theorem outI_slice {w : World} {g lo hi : Nat} {v : Value} {xs : List Int} (o : OutI w g lo hi v xs) : ∃ a n k, v = .slice a n k := by
  obtain ⟨a, cap, e⟩ := (outI_rd o).form
  exact ⟨a, _, cap, e⟩
theorem outI_wide {w : World} {g lo hi : Nat} {v : Value} {xs : List Int} (o : OutI w g lo hi v xs) : OutI w g lo w.heap.size v xs := by
  rcases o with h | h
  · exact .inl h
  · exact .inr ⟨h.row, fun k hk => (h.row.lt k hk).2⟩
/-- numbers, or none, are appended, in a region that draws; what lay below lo stays -/
theorem step_append_o {o : Oper} {a : Act} {w : World} {ops : Array Oper} {K : Act → World → Prop} {Q : Exit → Act → World → Prop} {E : Prop} (hgd : o.guard = none) (s x : Operand) (t : TypeId) (ho : o.op = .call { callee := .builtin .append, args := #[s, x], argTypes := #[t, t] }) (ht : Try.prog.underlying t = some (.slice 2))
    (g lo hi : Nat) (v : Value) (xs : List Int) (hs : a.eval s = v) (hown : OutI w g lo hi v xs) (hlo : lo ≤ w.heap.size) (lo2 hi2 : Nat) (vx : Value) (ys : List Int) (hx : a.eval x = vx) (hxo : OwnI w lo2 hi2 vx ys) (hlen : xs.length + ys.length ≤ 1048576)
    (h : ∀ v' w', OutI w' g lo w'.heap.size v' (xs ++ ys) → Below lo w w' → K (a.put o.dst v') w') :
    if Region.wanted o (yielded ops a.tmps) = true then Oper.wp Try.prog o a w K Q else E := by
  have hw : Region.wanted o (yielded ops a.tmps) = true := by simp [Region.wanted, hgd]
  rw [if_pos hw]
  obtain ⟨i0, hi0, hz0, hz1, hz2⟩ := infoI
  by_cases h0 : ys.length = 0
  · have e := List.eq_nil_of_length_eq_zero h0
    subst e
    obtain ⟨b', c', rfl⟩ := hxo.rd.form
    obtain ⟨bv, cv, ev, hle, -⟩ := (outI_rd hown).fits
    subst ev
    have hrun := run_append_zero (P := Try.prog) w t o.type 2 i0 ht hi0 bv xs.length cv hle b' c'
    unfold Oper.wp
    simp only [List.length_nil] at hx
    simp [execOp, ho, resolve, invoke, builtin, hs, hx, hrun, Result.andThen]
    have := h (.slice bv xs.length cv) w (by simpa using outI_wide hown) (Below.refl _ _)
    exact this
  · obtain ⟨gx, cx, rfl, -, -, -⟩ := hxo.form (by omega)
    have hnews : ∀ j u, (ivs ys)[j]? = some u → w.cell? ((⟨gx, 0, none⟩ : Addr).add j) = some u := fun j u hj => by
      rw [Addr.add_mid]
      have := hxo.rd.start (by omega)
      exact this.range.1 j u hj
    rcases hown with ⟨rfl, rfl⟩ | hown
    · obtain ⟨v', w', hrun, h2, h3⟩ := run_append_arg_grows (P := Try.prog) (w := w) t o.type 2 i0 _ 1 8 ht hi0 hz0 hz1 hz2 rfl (by decide) ⟨g, 0, none⟩ 0 0 [] rfl (fun j u hj => by simp at hj) ⟨gx, 0, none⟩ ys.length cx (ivs ys) (by rw [ivs_len, Nat.mul_one]) hnews (by omega) (by unfold maxLen; simp at hlen; omega) (by simp at hlen; omega)
      simp only [List.nil_append, Nat.zero_add] at h2
      unfold Oper.wp
      simp [execOp, ho, resolve, invoke, builtin, hs, hx, hrun, Result.andThen]
      refine h v' w' (.inr ⟨⟨by rw [ivs_len]; simp, ?_⟩, fun k hk => (h2.lt k hk).2⟩) ((below_grown h3 (Nat.le_refl _) fun k hk => by cases hk).mono hlo)
      rcases h2.2 with ⟨e, h0'⟩ | ⟨g', cap', cur, e, hg', rest'⟩
      · exact .inl ⟨e, h0'⟩
      · exact .inr ⟨g', cap', cur, e, Nat.le_trans hlo hg', rest'⟩
    · refine wp_append_own w s x t ho lo 2 i0 _ 1 8 ht hi0 hz0 hz1 hz2 rfl (by decide) v xs.length (ivs xs) hs hown.row ⟨gx, 0, none⟩ ys.length cx (ivs ys) hx (by rw [ivs_len, Nat.mul_one]) hnews (ivs_one ys) (by unfold maxLen; omega) (by omega) hlo ?_
      intro v' w' h2 h3 h4
      rw [← ivs_append] at h2
      exact h v' w' (.inr ⟨by rw [List.length_append]; exact h2, fun k hk => (h2.lt k hk).2⟩) (below_grown h3 hlo fun k hk => (hown.row.lt k hk).1)
end Go.Proofs.Ytbialeffdpmcjaa.sx
