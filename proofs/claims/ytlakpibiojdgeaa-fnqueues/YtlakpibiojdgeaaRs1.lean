/- Contracts of the laws' helpers on rows of texts and of truths: sizes, copies, comparisons, marks. -/
import Derived.Test.YtlakpibiojdgeaaRo3
namespace Go.Proofs.Ytlakpibiojdgeaa.rg
open Go.ChangeShapes Go.WideShapes Go.ChangeAt Go.RowKit
open Go.Proofs.Ytlakpibiojdgeaa.ce Go.Proofs.Ytlakpibiojdgeaa.ro
set_option linter.unusedVariables false

theorem eqTexts_any (xs : List ByteArray) (v v' : Value) (w : World) (r : Rd encS w v xs) (r' : Rd encS w v' xs) :
    Calls Try.prog 13 #[v, v'] w fun e w' => e = .returned (.bool true) ∧ Below w.heap.size w w' := by
  have hl := r.len
  obtain ⟨a, cap, rfl⟩ := r.form
  obtain ⟨a', cap', rfl⟩ := r'.form
  have R : Hid (Rd encS w (.slice a xs.length cap) xs) := r
  have R' : Hid (Rd encS w (.slice a' xs.length cap') xs) := r'
  clear r r'
  have hnn : ((xs.length : Int) != (xs.length : Int)) = false := by simp
  go_enter Try.func13, Try.ntmps13
  go_wp2
  go_loopw [5] (fun v' wr => ∃ i : Nat, i ≤ xs.length ∧ v' = .int .i64 i ∧ Below w.heap.size w wr) (fun v' _ => xs.length - (intOf v').toNat)
  case atStart => exact ⟨0, by omega, rfl, Below.refl _ _⟩
  case round =>
    obtain ⟨i, hi1, rfl, hBr⟩ := hrel
    by_cases hlt : i < xs.length
    · obtain ⟨b, off, rfl, hb, d0⟩ := rdS_cell (R.out.grow hBr) i hlt
      obtain ⟨b', off', rfl, hb', e0⟩ := rdS_cell (R'.out.grow hBr) i hlt
      obtain ⟨z, hz⟩ := hid_ex (xs[i])
      rw [hz.out] at d0 e0
      have hlt' : (i : Int) < xs.length := by omega
      have hzz : (z.toList == z.toList) = true := by simp
      go_wp2
      go_region_held3 (fun w' => w'.cell? ⟨b, off + i, none⟩ = some (.string z) ∧ w'.cell? ⟨b', off' + i, none⟩ = some (.string z)) (first | assumption | exact ⟨d0, e0⟩) (fail)
      go_wp2
      go_roundw
      case rel => exact ⟨i + 1, by omega, by go_num, hBr.drew⟩
      case measure => simp [intOf]; omega
    · go_wp2
      go_ret
      exact ⟨rfl, hBr⟩

theorem likeTexts_any (xs : List ByteArray) (v v' : Value) (w : World) (r : Rd encS w v xs) (r' : Rd encS w v' xs) :
    Calls Try.prog 25 #[v, v'] w fun e w' => e = .returned (.bool true) ∧ Below w.heap.size w w' := by
  have hl := r.len
  obtain ⟨a, cap, rfl⟩ := r.form
  obtain ⟨a', cap', rfl⟩ := r'.form
  have R : Hid (Rd encS w (.slice a xs.length cap) xs) := r
  have R' : Hid (Rd encS w (.slice a' xs.length cap') xs) := r'
  clear r r'
  have hnn : ((xs.length : Int) != (xs.length : Int)) = false := by simp
  go_enter Try.func25, Try.ntmps25
  go_wp2
  go_loopw [5] (fun v' wr => ∃ i : Nat, i ≤ xs.length ∧ v' = .int .i64 i ∧ Below w.heap.size w wr) (fun v' _ => xs.length - (intOf v').toNat)
  case atStart => exact ⟨0, by omega, rfl, Below.refl _ _⟩
  case round =>
    obtain ⟨i, hi1, rfl, hBr⟩ := hrel
    by_cases hlt : i < xs.length
    · obtain ⟨b, off, rfl, hb, d0⟩ := rdS_cell (R.out.grow hBr) i hlt
      obtain ⟨b', off', rfl, hb', e0⟩ := rdS_cell (R'.out.grow hBr) i hlt
      obtain ⟨z, hz⟩ := hid_ex (xs[i])
      rw [hz.out] at d0 e0
      have hlt' : (i : Int) < xs.length := by omega
      have hzz : (z.toList == z.toList) = true := by simp
      go_wp2
      go_region_held3 (fun w' => w'.cell? ⟨b, off + i, none⟩ = some (.string z) ∧ w'.cell? ⟨b', off' + i, none⟩ = some (.string z)) (first | assumption | exact ⟨d0, e0⟩) (fail)
      go_wp2
      go_roundw
      case rel => exact ⟨i + 1, by omega, by go_num, hBr.drew⟩
      case measure => simp [intOf]; omega
    · go_wp2
      go_ret
      exact ⟨rfl, hBr⟩

theorem szTexts_any (N : List ByteArray) (v : Value) (L : Int) (hL : L ≤ 1048576) (hL0 : 0 ≤ L) (w : World) (r : Rd encS w v N) (hs : ∀ s ∈ N, s.size ≤ 9223372036854775807) :
    Calls Try.prog 9 #[v, .int .i64 L] w fun e w' => ∃ q : Int, e = .returned (.int .i64 q) ∧ w' = w ∧ q ≤ 1048576 ∧ (0 ≤ q → (N.length : Int) ≤ 1048576) := by
  have hl := r.len
  obtain ⟨a, cap, rfl⟩ := r.form
  have R : Hid (Rd encS w (.slice a N.length cap) N) := r
  have HS : Hid (∀ s ∈ N, s.size ≤ 9223372036854775807) := hs
  clear r hs
  have e : IntKind.i64.wrap (L - (N.length : Int)) = L - N.length := by rw [IntKind.wrap_i64]; omega
  by_cases h : L - (N.length : Int) < 0
  · go_enter Try.func9, Try.ntmps9
    go_wp2
    go_ret
    exact ⟨-1, rfl, rfl, by omega, fun _ => by omega⟩
  · go_enter Try.func9, Try.ntmps9
    go_wp2
    go_loop [1, 5] (fun q v => ∃ (l : Int) (i : Nat), i ≤ N.length ∧ v = .int .i64 i ∧ q = .int .i64 l ∧ 0 ≤ l ∧ l ≤ 1048576) (fun _ v => N.length - (intOf v).toNat)
    case atStart => exact ⟨L - N.length, 0, by omega, rfl, rfl, by omega, by omega⟩
    case round =>
      obtain ⟨l, i, hi1, rfl, rfl, hl0, hl1⟩ := hrel
      by_cases hlt : i < N.length
      · obtain ⟨b, off, rfl, hb, d0⟩ := rdS_cell R.out i hlt
        have hsz := HS.out N[i] (List.getElem_mem hlt)
        obtain ⟨z, hz⟩ := hid_ex (N[i])
        rw [hz.out] at d0 hsz
        have hlt' : (i : Int) < (N.length : Int) := by omega
        have e2 : IntKind.i64.wrap (l - (z.size : Int)) = l - z.size := by rw [IntKind.wrap_i64]; omega
        by_cases hn : l - (z.size : Int) < 0
        · go_wp2
          go_ret
          exact ⟨-1, rfl, rfl, by omega, fun _ => by omega⟩
        · go_wp2
          go_round
          case rel => exact ⟨l - z.size, i + 1, by omega, by go_num, rfl, by omega, by omega⟩
          case measure => simp [intOf]; omega
      · have hlt' : ¬ (i : Int) < (N.length : Int) := by omega
        go_wp2
        go_ret
        exact ⟨_, rfl, rfl, by omega, fun _ => by omega⟩

theorem wpList_make_string {o : Oper} {a : Act} {w : World} {ops : Array Oper} {rest : List Oper} {Q : Exit → Act → World → Prop} (hgd : o.guard = none) (l c : Operand) (t : TypeId) (ho : o.op = .makeSlice t l c) (ht : Try.prog.underlying t = some (.slice 9)) (n : Nat) (hn : n ≤ 1048576) (hl : a.eval l = .int .i64 n) (hc : a.eval c = .int .i64 n)
    (h : ∀ b w', w.heap.size ≤ b → b < w'.heap.size → Below w.heap.size w w' → Own encS w' w.heap.size w'.heap.size (.slice (some ⟨b, 0, none⟩) n n) (List.replicate n (⟨#[]⟩ : ByteArray)) → wpList Try.prog ops Q rest (a.put o.dst (.slice (some ⟨b, 0, none⟩) n n)) w') : wpList Try.prog ops Q (o :: rest) a w := by
  have hi : (Try.prog.info? 9).map (fun i => (i.zero, i.size, i.bytes ≤ 16)) = some (some (Value.string ⟨#[]⟩), 1, True) := by
    obtain ⟨i, z, h1, h2, h3, h4, h5⟩ := infoS.ex
    have : Try.prog.info? 9 = some i := h1
    have hh : (Try.prog.info? 9).map (fun i => (i.zero, i.size, decide (i.bytes ≤ 16))) = some (some (Value.string ⟨#[]⟩), 1, true) := by kernel_rfl
    rw [this] at hh ⊢
    simp at hh ⊢
    exact hh
  obtain ⟨i0, hi0, hz⟩ := Option.map_eq_some_iff.1 hi
  simp only [Prod.mk.injEq, eq_iff_iff, iff_true] at hz
  refine wpList_make_full _ hgd l c t ho w.heap.size 9 i0 _ 1 ht hi0 hz.1 hz.2.1 .i64 .i64 n n n hl hc rfl rfl (by have h3 := hz.2.2; have := Nat.mul_le_mul h3 hn; omega) (by unfold maxLen; omega) (Nat.le_refl _) ?_
  intro w1 h1 h2
  have hb : Below w.heap.size w w1 := ro.below_grown h2 (Nat.le_refl _) (fun k hk => by cases hk)
  refine h _ w1 (Nat.le_refl _) (h1.lt _ rfl).2 hb (own_of ?_)
  have hr : (madeCells (Value.cells (Value.string ⟨#[]⟩)) (n * 1)).toList = encS.row (List.replicate n (⟨#[]⟩ : ByteArray)) := by
    rw [Enc.row_replicate encS (⟨#[]⟩ : ByteArray) n (Value.string ⟨#[]⟩) rfl]
    simp [Value.cells, toList_madeCells_one]
  rw [hr] at h1
  rw [List.length_replicate]
  exact h1

theorem wpList_make_bool {o : Oper} {a : Act} {w : World} {ops : Array Oper} {rest : List Oper} {Q : Exit → Act → World → Prop} (hgd : o.guard = none) (l c : Operand) (t : TypeId) (ho : o.op = .makeSlice t l c) (ht : Try.prog.underlying t = some (.slice 4)) (n : Nat) (hn : n ≤ 1048576) (hl : a.eval l = .int .i64 n) (hc : a.eval c = .int .i64 n)
    (h : ∀ b w', w.heap.size ≤ b → b < w'.heap.size → Below w.heap.size w w' → Own encB w' w.heap.size w'.heap.size (.slice (some ⟨b, 0, none⟩) n n) (List.replicate n false) → wpList Try.prog ops Q rest (a.put o.dst (.slice (some ⟨b, 0, none⟩) n n)) w') : wpList Try.prog ops Q (o :: rest) a w := by
  have hi : (Try.prog.info? 4).map (fun i => (i.zero, i.size, i.bytes ≤ 16)) = some (some (Value.bool false), 1, True) := by
    obtain ⟨i, z, h1, h2, h3, h4, h5⟩ := infoB.ex
    have : Try.prog.info? 4 = some i := h1
    have hh : (Try.prog.info? 4).map (fun i => (i.zero, i.size, decide (i.bytes ≤ 16))) = some (some (Value.bool false), 1, true) := by kernel_rfl
    rw [this] at hh ⊢
    simp at hh ⊢
    exact hh
  obtain ⟨i0, hi0, hz⟩ := Option.map_eq_some_iff.1 hi
  simp only [Prod.mk.injEq, eq_iff_iff, iff_true] at hz
  refine wpList_make_full _ hgd l c t ho w.heap.size 4 i0 _ 1 ht hi0 hz.1 hz.2.1 .i64 .i64 n n n hl hc rfl rfl (by have h3 := hz.2.2; have := Nat.mul_le_mul h3 hn; omega) (by unfold maxLen; omega) (Nat.le_refl _) ?_
  intro w1 h1 h2
  have hb : Below w.heap.size w w1 := ro.below_grown h2 (Nat.le_refl _) (fun k hk => by cases hk)
  refine h _ w1 (Nat.le_refl _) (h1.lt _ rfl).2 hb (own_of ?_)
  have hr : (madeCells (Value.cells (Value.bool false)) (n * 1)).toList = encB.row (List.replicate n false) := by
    rw [Enc.row_replicate encB false n (Value.bool false) rfl]
    simp [Value.cells, toList_madeCells_one]
  rw [hr] at h1
  rw [List.length_replicate]
  exact h1

theorem toTexts_any (xs : List ByteArray) (v : Value) (w : World) (r : Rd encS w v xs) (hlen : xs.length ≤ 1048576) :
    Calls Try.prog 11 #[v] w fun e w' => ∃ v', e = .returned v' ∧ Own encS w' w.heap.size w'.heap.size v' xs ∧ Below w.heap.size w w' := by
  obtain ⟨a, cap, rfl⟩ := r.form
  have R : Hid (Rd encS w (.slice a xs.length cap) xs) := r
  clear r
  go_enter Try.func11, Try.ntmps11
  go_wp2_with (first | (refine wpList_make_string rfl _ _ 22 rfl Try.underlying22 xs.length hlen rfl rfl ?_; intro g w1 hg hw1 hB1 o1) | (fail))
  have O1 : Hid (Own encS w1 w.heap.size w1.heap.size (.slice (some ⟨g, 0, none⟩) xs.length xs.length) (List.replicate xs.length (⟨#[]⟩ : ByteArray))) := o1
  clear o1
  have hz1 := hB1.size
  go_loopw [4] (fun p wr => ∃ i : Nat, i ≤ xs.length ∧ p = .int .i64 i ∧ Hid (Own encS wr w.heap.size w1.heap.size (.slice (some ⟨g, 0, none⟩) xs.length xs.length) (xs.take i ++ (List.replicate xs.length (⟨#[]⟩ : ByteArray)).drop i)) ∧ Hid (Below w.heap.size w wr) ∧ Hid (w1.heap.size ≤ wr.heap.size)) (fun p _ => xs.length - (intOf p).toNat)
  case atStart => exact ⟨0, by omega, rfl, by unfold Hid; simpa using O1.out, hB1, Nat.le_refl _⟩
  case round =>
    obtain ⟨i, hi1, rfl, O, hB, hS⟩ := hrel
    by_cases hlt : i < xs.length
    · obtain ⟨b, off, rfl, hb, d0⟩ := rdS_cell (R.out.grow hB.out) i hlt
      obtain ⟨g', e', hg', d1, f1⟩ := ownS_cell O.out i (by simp; omega)
      cases e'
      obtain ⟨z, hz⟩ := hid_ex (xs[i])
      rw [hz.out] at d0
      have hlt' : (i : Int) < (xs.length : Int) := by omega
      have hset : Hid ((xs.take i ++ (List.replicate xs.length (⟨#[]⟩ : ByteArray)).drop i).set i z = xs.take (i + 1) ++ (List.replicate xs.length (⟨#[]⟩ : ByteArray)).drop (i + 1)) := by
        unfold Hid
        rw [List.set_append_right _ _ (by simp; omega), List.length_take, Nat.min_eq_left (by omega), Nat.sub_self, List.drop_eq_getElem_cons (by simp; omega), List.set_cons_zero, List.take_succ_eq_append_getElem hlt, hz.out]
        simp
      go_wp2
      go_roundw
      case rel =>
        have h1 := ownS_set O.out i (by simp; omega) z
        rw [hset.out] at h1
        exact ⟨i + 1, by omega, by go_num, h1, hB.out.setCell (by omega) _, by unfold Hid; simp [World.setCell]; exact hS.out⟩
      case measure => simp [intOf]; omega
    · have hlt' : ¬ (i : Int) < (xs.length : Int) := by omega
      have o2 := O.out
      rw [List.take_of_length_le (by omega), List.drop_of_length_le (by simp; omega), List.append_nil] at o2
      clear O
      go_wp2
      go_ret
      exact ⟨_, rfl, o2.top, hB.out⟩

end Go.Proofs.Ytlakpibiojdgeaa.rg
