/- Rows of int64 among a law's arguments: copied, marked from whatever number on, opened. -/
import Derived.Test.YtbialeffdpmcjaaIn1
import Derived.Test.YtbialeffdpmcjaaClOpen
import Derived.Test.YtbialeffdpmcjaaHd1
namespace Go.Proofs.Ytbialeffdpmcjaa.ce
open Go.ChangeShapes Go.WideShapes Go.ChangeAt Go.RowKit
open Go.Deep Go.Joins
set_option linter.unusedVariables false

theorem wpList_make_i {o : Oper} {a : Act} {w : World} {ops : Array Oper} {rest : List Oper} {Q : Exit → Act → World → Prop} (hgd : o.guard = none) (l c : Operand) (t : TypeId) (ho : o.op = .makeSlice t l c) (ht : Try.prog.underlying t = some (.slice 2)) (n : Nat) (hn : n ≤ 1048576) (hl : a.eval l = .int .i64 n) (hc : a.eval c = .int .i64 n)
    (h : ∀ b w', w.heap.size ≤ b → b < w'.heap.size → Below w.heap.size w w' → (∃ X, w'.ownsRow w.heap.size 2 1 (.slice (some ⟨b, 0, none⟩) n n) n X ∧ ∃ xs, X = ivs xs) → wpList Try.prog ops Q rest (a.put o.dst (.slice (some ⟨b, 0, none⟩) n n)) w') : wpList Try.prog ops Q (o :: rest) a w := by
  obtain ⟨i0, hi0, hz0, hz1, hz2⟩ := infoI
  refine wpList_make_full _ hgd l c t ho w.heap.size 2 i0 _ 1 ht hi0 hz0 hz1 .i64 .i64 n n n hl hc rfl rfl (by rw [hz2]; omega) (by unfold maxLen; omega) (Nat.le_refl _) ?_
  intro w1 h1 h2
  have hb : Below w.heap.size w w1 := below_grown h2 (Nat.le_refl _) (fun k hk => by cases hk)
  refine h _ w1 (Nat.le_refl _) (h1.lt _ rfl).2 hb ⟨_, h1, List.replicate n 0, ?_⟩
  simp [ivs, Value.cells, toList_madeCells_one]
theorem toInts_any (xs : List Int) (v : Value) (hi : Nat) (w : World) (hh : hi ≤ w.heap.size) (r : RdI w hi v xs) (h2 : xs.length ≤ 1048576) :
    Calls Try.prog 48 #[v] w fun e w' => ∃ v', e = .returned v' ∧ OwnI w' w.heap.size w'.heap.size v' xs ∧ Below w.heap.size w w' := by
  obtain ⟨a, cap, rfl⟩ := r.form
  have R : Hid (RdI w hi (.slice a xs.length cap) xs) := r
  clear r
  go_enter Try.func48, Try.ntmps48
  go_wp2_with (first | (refine wpList_make_i rfl _ _ 22 rfl Try.underlying22 xs.length h2 rfl rfl ?_; intro g w1 hg1 hg2 hB1 hR1) | (fail))
  obtain ⟨X, hX, ys, rfl⟩ := hR1
  have hyl : ys.length = xs.length := by have := hX.1; rw [ivs_len] at this; omega
  have ho1 : OwnI w1 w.heap.size (g + 1) (.slice (some ⟨g, 0, none⟩) xs.length xs.length) ys := ⟨by rw [hyl]; exact hX, fun k hk => by cases hk; exact Nat.lt_succ_self _⟩
  go_loopw [4] (fun v wr => ∃ i : Nat, i ≤ xs.length ∧ v = .int .i64 i ∧ Hid (OwnI wr w.heap.size (g + 1) (.slice (some ⟨g, 0, none⟩) xs.length xs.length) (xs.take i ++ ys.drop i)) ∧ Below w.heap.size w wr ∧ g < wr.heap.size) (fun v _ => xs.length - (intOf v).toNat)
  case atStart => exact ⟨0, by omega, rfl, by unfold Hid; simpa using ho1, hB1, hg2⟩
  case round =>
    obtain ⟨i, hi1, rfl, ho, hBr, hgr⟩ := hrel
    by_cases hlt : i < xs.length
    · obtain ⟨b, off, rfl, hb, c0⟩ := (R.out.below hBr hh).cell i hlt
      obtain ⟨z, hz⟩ := hid_ex xs[i]
      rw [hz.out] at c0
      have hil : Hid (i < (xs.take i ++ ys.drop i).length) := by unfold Hid; simp; omega
      obtain ⟨b', off', e', -, d0⟩ := ho.out.rd.cell i hil.out
      cases e'
      simp only [Nat.zero_add] at d0
      have f0 := ho.out.frozen i
      have hlt' : (i : Int) < xs.length := by omega
      go_wp2
      go_roundw
      case rel =>
        have h1 := ho.out.set i z
        have e : (xs.take i ++ ys.drop i).set i z = xs.take (i + 1) ++ ys.drop (i + 1) := by
          have hl : (xs.take i).length = i := by simp; omega
          rw [List.set_append_right _ _ (by rw [hl]; omega), hl, Nat.sub_self, List.drop_eq_getElem_cons (by omega), List.set_cons_zero, List.take_succ_eq_append_getElem hlt, hz.out]
          simp
        rw [e] at h1
        exact ⟨i + 1, by omega, by go_num, h1, hBr.trans ((only_set _ _ _ _).2.2 _ hg1), by rw [(only_set _ _ _ _).1]; exact hgr⟩
      case measure => simp [intOf]; omega
    · have ei : i = xs.length := by omega
      have ho' : OwnI wr w.heap.size (g + 1) (.slice (some ⟨g, 0, none⟩) xs.length xs.length) xs := by
        have := ho.out
        rw [ei, List.take_length, ← hyl, List.drop_length, List.append_nil, hyl] at this
        exact this
      clear ho
      go_wp2
      go_ret
      exact ⟨_, rfl, ho'.wide (Nat.le_refl _) hgr, hBr⟩

theorem markIntsK_any (xs : List Int) (v : Value) (lo hi : Nat) (w : World) (own : OwnI w lo hi v xs) (h2 : xs.length ≤ 1048576) (k0 : Int) (hk0 : 0 ≤ k0) (hk1 : k0 ≤ 33554432) :
    Calls Try.prog 30 #[v, .int .i64 k0] w fun e w' => e = .returned (.int .i64 (k0 + (xs.length : Int))) ∧ OwnI w' lo hi v (imarks k0 xs.length) ∧ Within lo hi w w' := by
  obtain ⟨a, cap, rfl⟩ := own.rd.form
  have hA : Hid (1 ≤ xs.length → ∃ g, a = some ⟨g, 0, none⟩ ∧ lo ≤ g ∧ g < hi) := fun h => by
    obtain ⟨g, cap', e, h1, h2, -⟩ := own.form h
    cases e
    exact ⟨g, rfl, h1, h2⟩
  have O : Hid (OwnI w lo hi (.slice a xs.length cap) xs) := own
  clear own
  go_enter Try.func30, Try.ntmps30
  go_wp2
  go_loopw [1, 5] (fun q v' wr => ∃ i : Nat, i ≤ xs.length ∧ v' = .int .i64 i ∧ q = .int .i64 (k0 + (i : Int)) ∧ Hid (OwnI wr lo hi (.slice a xs.length cap) (imarks k0 i ++ xs.drop i)) ∧ Within lo hi w wr) (fun _ v' _ => xs.length - (intOf v').toNat)
  case atStart => exact ⟨0, by omega, rfl, by simp, by simpa [imarks] using O, Within.refl _ _ _⟩
  case round =>
    obtain ⟨i, hi1, rfl, rfl, ho, hW⟩ := hrel
    by_cases hlt : i < xs.length
    · obtain ⟨g, rfl, hg1, hg2⟩ := hA.out (by omega)
      have hil : Hid (i < (imarks k0 i ++ xs.drop i).length) := by unfold Hid; simp [imarks_len]; omega
      obtain ⟨b', off', e', -, d0⟩ := ho.out.rd.cell i hil.out
      cases e'
      simp only [Nat.zero_add] at d0
      have f0 := ho.out.frozen i
      have hlt' : (i : Int) < xs.length := by omega
      go_wp2
      go_roundw
      case rel =>
        have h1 := ho.out.set i (k0 + (i : Int))
        have e : (imarks k0 i ++ xs.drop i).set i (k0 + (i : Int)) = imarks k0 (i + 1) ++ xs.drop (i + 1) := by
          rw [List.set_append_right _ _ (by rw [imarks_len]; omega), imarks_len, Nat.sub_self, List.drop_eq_getElem_cons hlt, List.set_cons_zero, imarks_succ]
          simp
        rw [e] at h1
        exact ⟨i + 1, by omega, by go_num, by go_num, h1, hW.setCell hg1 hg2 _⟩
      case measure => simp [intOf]; omega
    · have ei : i = xs.length := by omega
      have ho' : OwnI wr lo hi (.slice a xs.length cap) (imarks k0 xs.length) := by
        have := ho.out
        rw [ei, List.drop_length, List.append_nil] at this
        exact this
      clear ho
      go_wp2
      go_ret
      exact ⟨by first | rfl | (rw [ei]; rfl), ho', hW⟩

theorem rdi_of_trod {H : Type} {enc : TypeId × Value → H} {w : World} {n : Nat} {v : Value} {x : DataW H × List MemPlace} (h : DataW.trod enc Try.prog w 0 (fun _ => true) true n 22 [v] = some x) : ∃ L, RdI w w.heap.size v L := by
  rcases open_slice Try.underlying22 h with ⟨hcs, -⟩ | ⟨a, len, cap, m, n', D, Pl, hcs, -, hl, hm, hmm, -, hrow⟩
  · obtain rfl : v = .slice none 0 0 := by simpa using hcs
    exact ⟨[], none, 0, rfl, Nat.le_refl _, Nat.zero_le _, fun h => absurd rfl h⟩
  · obtain rfl : v = .slice (some a) len cap := by simpa using hcs
    rw [cellsI] at hrow
    have hlm : len ≤ m := by rw [hmm]; simp; exact hl
    have hex : ∀ i, i < len → ∃ c : Int, w.cells? 0 (a.add (i * 1)) 1 = some [.int .i64 c] := fun i hi => by
      obtain ⟨cs', h1, h2⟩ := hrow i (by omega)
      obtain ⟨k, e0, -, -⟩ := DataW.trod_int Try.underlying2 h2
      rw [e0] at h1
      exact ⟨k, h1⟩
    obtain ⟨F, hF⟩ := choose_lt hex
    refine ⟨(List.range len).map F, some a, cap, by simp, by simpa using hl, hm, fun hn => ?_⟩
    have h0 : 0 < len := by
      rcases Nat.eq_zero_or_pos len with e | e
      · subst e; exact absurd rfl hn
      · exact e
    have hc : ∀ i, i < len → w.cell? (a.add i) = some (.int .i64 (F i)) := fun i hi => by
      obtain ⟨h1, h2, h3⟩ := World.cells?_some (hF i hi)
      have := h3 0 (by omega)
      rw [Nat.mul_one] at this
      have e : (a.add i).add 0 = a.add i := by obtain ⟨b, o, s⟩ := a; cases s <;> simp [Addr.add]
      rw [e] at this
      exact this
    have hspot : a.spot = none := by
      have h5 : (a.add 0).spot = none := World.cell?_spot (hc 0 h0)
      obtain ⟨b, o, s⟩ := a
      cases s with
      | none => rfl
      | some s => simp [Addr.add] at h5
    have hlt : a.block < w.heap.size := by
      have := hc 0 h0
      rw [add_none hspot] at this
      exact World.block_lt_of_cell? w ⟨a.block, a.off + 0, none⟩ this
    refine ⟨a.block, a.off, by obtain ⟨b, o, s⟩ := a; simp at hspot; subst hspot; rfl, hlt, fun k u hk => ?_⟩
    have hkl : k < len := by
      have := (List.getElem?_eq_some_iff.1 hk).1
      rw [ivs_len] at this
      simpa using this
    rw [ivs_get _ k (by simpa using hkl)] at hk
    have := hc k hkl
    rw [add_none hspot] at this
    rw [this]
    simpa using hk
set_option maxRecDepth 100000 in
/-- numbers among the arguments -/
theorem open_ints {H : Type} {enc : TypeId × Value → H} {W : World} {r : Reach} {b0 : Nat} {v : Value} {d : DataW H} {p : List MemPlace} (hw : Value.okWide Try.prog W r b0 22 v) (h : DataW.Trod enc Try.prog W 0 (fun _ => true) true 22 v d p) :
    ∃ L, RdI W W.heap.size v L := by
  obtain ⟨a, len, cap, rfl⟩ := okWide_slice Try.underlying22 hw
  obtain ⟨m, hm⟩ := h
  exact rdi_of_trod (n := m) (by simpa [Value.cells] using hm)
end Go.Proofs.Ytbialeffdpmcjaa.ce
