/- Texts laid together: Ch2 Rs1 Rs2 Ro12 Rs3 Rp6 Rs4 Qs3. -/
import Derived.Test.YtmnjmghlkiljhaaMg09
import Derived.Test.YtmnjmghlkiljhaaMg02
import Derived.Test.YtmnjmghlkiljhaaMg07
import Derived.Lib.SmallJoins
import Derived.Deep.Slices
import Derived.Deep.RegionHeld3
import Derived.BigQuiet
import Derived.Deep.DeepCutAuto
import Derived.ShutString
import Derived.ChangeOld
/- Contracts: the program's ChoiceOk, NewChoice; the model's NewChoice. -/
namespace Go.Proofs.Ytmnjmghlkiljhaa.rg
open Go.ChangeShapes Go.WideShapes Go.ChangeAt Go.RowKit
open Go.Deep Go.Joins
open Go.Proofs.Ytmnjmghlkiljhaa.ce Go.Proofs.Ytmnjmghlkiljhaa.ro
set_option linter.unusedVariables false

def newC (k : Int) : Ch := ⟨k, Rg.zero, [], sk.zeros, 0⟩
theorem newC_ok (k : Int) : chB (newC k) = (decide (k = 1) || decide (k = 2)) := by
  have h1 : decide (sk.skOk (newC k).S (newC k).D) = true := by
    show decide (sk.skOk sk.zeros 0) = true
    decide +kernel
  have h2 : ringB (newC k).R = true := by
    show ringB Rg.zero = true
    exact ringB_iff.2 (hnew_ok (k := 1) (.inl rfl)).r
  have h3 : namesB (newC k).Q = true := by
    show namesB [] = true
    exact namesB_iff.2 (hnew_ok (k := 1) (.inl rfl)).q
  unfold chB
  rw [h1, h2, h3]
  unfold wayB
  show (true && (decide (k = 1) && true || decide (k = 2) && true)) = _
  simp
theorem newC_rd (k : Int) (w : World) (lo hi : Nat) (v : Value) (h : sk.Own w lo hi v sk.zeros) : RdC w (.slice none 0 0) (.slice none 0 0) (.slice none 0 0) v (newC k) :=
  ⟨⟨rd_zero encS w none 0 (Nat.zero_le _), rd_zero encB w none 0 (Nat.zero_le _), fun s hs => by cases hs⟩, rd_zero encS w none 0 (Nat.zero_le _), fun s hs => (by cases hs), h.rd.wide (Nat.zero_le _) (sk_hi h)⟩
set_option maxRecDepth 100000 in
set_option maxHeartbeats 2000000 in
theorem implChoiceOk_any (c : Ch) (vN vU vQ vS : Value) (w : World) (h : RdC w vN vU vQ vS c) (y : Bool) (hy : Hid (chB c = y)) :
    Calls Try.prog 18 #[.agg #[.int .i64 c.K, vN, vU, .int .i64 c.R.A, vQ, vS, .int .i64 c.D]] w fun e w' => e = .returned (.bool y) ∧ Below w.heap.size w w' := by
  obtain ⟨K, ⟨N, U, A⟩, Q, S, D⟩ := c
  obtain ⟨aN, cN, rfl⟩ := h.r.n.form
  obtain ⟨aU, cU, rfl⟩ := h.r.u.form
  obtain ⟨aQ, cQ, rfl⟩ := h.q.form
  obtain ⟨aS, cS, rfl⟩ := sk_form h.s

  have R : Hid (RdC w (.slice aN N.length cN) (.slice aU U.length cU) (.slice aQ Q.length cQ) (.slice aS S.length cS) ⟨K, ⟨N, U, A⟩, Q, S, D⟩) := h
  clear h
  obtain ⟨⟨K2, ⟨N2, U2, A2⟩, Q2, S2, D2⟩, hc2⟩ := hid_ex (cpC ⟨K, ⟨N, U, A⟩, Q, S, D⟩)
  go_enter Try.func18, Try.ntmps18
  go_wp2_with (first | (refine wpList_box_v rfl 32 _ rfl [.int .i64 K, .slice aN N.length cN, .slice aU U.length cU, .int .i64 A, .slice aQ Q.length cQ, .slice aS S.length cS, .int .i64 D] rfl ?_; intro b1 w1 hb1 hw1 hB1 V1; obtain ⟨c10, c11, c12, c13, c14, c15, c16⟩ := cells7c V1; have hz1 := hB1.size) | (go_at_call 49; refine (implChoiceOf_any ⟨K, ⟨N, U, A⟩, Q, S, D⟩ _ _ _ _ _ (R.out.grow hB1)).mono ?_; rintro e w2 hP; unfold PostC at hP; rw [hc2.out, hy.out] at hP; obtain ⟨vN2, vU2, vQ2, vS2, rfl, oC, hB2⟩ := hP; dsimp only; obtain ⟨⟨aN2, nN2, kN2, rfl⟩, ⟨aU2, nU2, kU2, rfl⟩, ⟨aQ2, nQ2, kQ2, rfl⟩, ⟨aS2, nS2, kS2, rfl⟩⟩ := oC.forms; have hB12 := hB1.trans (hB2.mono hz1)) | (refine wpList_alloc_v rfl 32 rfl _ zeroCh ?_; intro b3 w3 hb3 hw3 hB3 V3; have hB13 := hB12.trans (hB3.mono hB12.size); have hz13 := hB12.size) | (refine wpList_store_v rfl 32 _ _ rfl b3 [.int .i64 K2, .slice aN2 nN2 kN2, .slice aU2 nU2 kU2, .int .i64 A2, .slice aQ2 nQ2 kQ2, .slice aS2 nS2 kS2, .int .i64 D2] rfl rfl sizeCh V3 rfl (by simp [Value.oneCell']) ?_; intro w4 hO4 V4; have hB14 := hB13.trans (hO4.2.2 _ (by omega))) | (fail))
  go_ret
  exact ⟨rfl, hB14⟩
set_option maxRecDepth 100000 in
set_option maxHeartbeats 2000000 in
theorem implNewChoice_any (k : Int) (w : World) : Calls Try.prog 13 #[.int .i64 k] w fun e w' => PostC (newC k) w e w' := by
  obtain ⟨⟨K2, ⟨N2, U2, A2⟩, Q2, S2, D2⟩, hc2⟩ := hid_ex (cpC (newC k))
  obtain ⟨y, hy⟩ := hid_ex (chB (newC k))
  unfold PostC
  rw [hc2.out, hy.out]
  dsimp only
  have m1 : Hid True := trivial
  go_enter Try.func13, Try.ntmps13
  go_wp2_with (first | (clear m1; refine wpList_alloc_v rfl 32 rfl _ zeroCh ?_; intro b2 w1 hb2 hw2 hB1 V2; have hz1 := hB1.size) | (go_at_call 57; refine (sk.implNewSketch_any _).mono ?_; rintro e w2 ⟨v2, rfl, o2, hB2⟩; replace V2 := vblk_grow V2 hB2; have hB12 := hB1.trans (hB2.mono hz1); have hz2 := hB12.size; have hz12 := hB2.size) | (go_at_call 49; refine (implChoiceOf_any (newC k) _ _ _ _ _ (newC_rd k _ _ _ _ o2)).mono ?_; rintro e w3 hP; unfold PostC at hP; rw [hc2.out, hy.out] at hP; obtain ⟨vN2, vU2, vQ2, vS2, rfl, oC, hB3⟩ := hP; dsimp only; replace V2 := vblk_grow V2 hB3; obtain ⟨⟨aN2, nN2, kN2, rfl⟩, ⟨aU2, nU2, kU2, rfl⟩, ⟨aQ2, nQ2, kQ2, rfl⟩, ⟨aS2, nS2, kS2, rfl⟩⟩ := oC.forms; have hB13 := hB12.trans (hB3.mono hz2); have hz3 := hB13.size; have hzz := hB3.size) | (refine wpList_store_v rfl 32 _ _ rfl b2 [.int .i64 K2, .slice aN2 nN2 kN2, .slice aU2 nU2 kU2, .int .i64 A2, .slice aQ2 nQ2 kQ2, .slice aS2 nS2 kS2, .int .i64 D2] rfl rfl sizeCh V2 rfl (by simp [Value.oneCell']) ?_; intro w4 hO4 V4; have hB14 := hB13.trans (hO4.2.2 _ (by omega))) | (fail))
  refine row_ct (x := .bool y) rfl rfl rfl V4 Try.underlying32 sizeCh rfl ⟨_, _, _, _, rfl, ?_, hB14⟩
  have e4 := Nat.le_of_eq hO4.1.symm
  exact (oC.off hO4 (by omega)).wide (by omega)
set_option maxRecDepth 100000 in
set_option maxHeartbeats 2000000 in
theorem specNewChoice_any (k : Int) (w : World) : Calls Try.prog 23 #[.int .i64 k] w fun e w' => PostC (newC k) w e w' := by
  have m1 : Hid True := trivial
  by_cases hk : k = 1 ∨ k = 2
  · have hy : chB (newC k) = true := by
      rw [newC_ok]
      rcases hk with rfl | rfl <;> rfl
    have go : ∀ w' v, sk.Own w' w.heap.size w'.heap.size v sk.zeros → Below w.heap.size w w' → PostC (newC k) w (.returned (.tuple #[.agg #[.int .i64 k, .slice none 0 0, .slice none 0 0, .int .i64 0, .slice none 0 0, v, .int .i64 0], .bool true])) w' := fun w' v o hB =>
      postC_yes (c := newC k) hy ⟨⟨w.heap.size, w.heap.size, w.heap.size, w.heap.size, w.heap.size, w'.heap.size, ⟨own_zero _ _ _ _ _, own_zero _ _ _ _ _⟩, own_zero _ _ _ _ _, o, ⟨Nat.le_refl _, hB.size, Nat.le_refl _, hB.size, Nat.le_refl _, Nat.le_refl _⟩, .inl (Nat.le_refl _), .inl (Nat.le_refl _), .inl (Nat.le_refl _)⟩, Nat.le_refl _⟩ hB
    have hk2 : ((k != 1) && (k != 2)) = false := by rcases hk with rfl | rfl <;> rfl
    have kk : (k != 1) = false ∨ (k != 1) = true ∧ (k != 2) = false := by rcases hk with rfl | rfl; exact .inl rfl; exact .inr ⟨rfl, rfl⟩
    clear hk hk2 hy
    have GO : Hid _ := go
    clear go
    rcases kk with k1 | ⟨k1, k2⟩
    all_goals
      go_enter Try.func23, Try.ntmps23
      go_wp2_with (first | (clear m1; refine wpList_alloc_v rfl 32 rfl _ zeroCh ?_; intro b2 w1 hb2 hw2 hB1 V2; have hz1 := hB1.size) | (go_at_call 68; refine (sk.specNewSketch_any _).mono ?_; rintro e w2 ⟨v2, rfl, o2, hB2⟩; obtain ⟨aS2, nS2, kS2, rfl⟩ := sk.Own.form o2; replace V2 := vblk_grow V2 hB2; have hB12 := hB1.trans (hB2.mono hz1); have hz2 := hB2.size) | (refine wpList_store_v rfl 32 _ _ rfl b2 [.int .i64 k, .slice none 0 0, .slice none 0 0, .int .i64 0, .slice none 0 0, .slice aS2 nS2 kS2, .int .i64 0] rfl rfl sizeCh V2 rfl (by simp [Value.oneCell']) ?_; intro w4 hO4 V4; have hB14 := hB12.trans (hO4.2.2 _ (by omega)); have e4 := Nat.le_of_eq hO4.1; have e5 := Nat.le_of_eq hO4.1.symm; have o4 := (sk.Own.keep o2 (fun j h1 h2 => hO4.2.1 j (by omega)) e5).wide (lo' := w.heap.size) (by omega) (by omega) (Nat.le_refl _)) | (fail))
      exact row_ct (x := .bool true) rfl rfl rfl V4 Try.underlying32 sizeCh rfl (GO.out _ _ o4 hB14)
  · have h1 : k ≠ 1 := fun e => hk (.inl e)
    have h2 : k ≠ 2 := fun e => hk (.inr e)
    have k1 : (k != 1) = true := by simpa using h1
    have k2 : (k != 2) = true := by simpa using h2
    have hy : chB (newC k) = false := by rw [newC_ok, decide_eq_false h1, decide_eq_false h2]; rfl
    clear hk h1 h2
    go_enter Try.func23, Try.ntmps23
    go_wp2_with (first | (clear m1; refine wpList_alloc_v rfl 32 rfl _ zeroCh ?_; intro b2 w1 hb2 hw2 hB1 V2; have hz1 := hB1.size) | (refine wpList_store_v rfl 32 _ _ rfl b2 [.int .i64 0, .slice none 0 0, .slice none 0 0, .int .i64 0, .slice none 0 0, .slice none 0 0, .int .i64 0] rfl rfl sizeCh V2 rfl (by simp [Value.oneCell']) ?_; intro w4 hO4 V4; have hB14 := hB1.trans (hO4.2.2 _ (by omega))) | (fail))
    exact row_ct (x := .bool false) rfl rfl rfl V4 Try.underlying32 sizeCh rfl (postC_no hy hB14)
end Go.Proofs.Ytmnjmghlkiljhaa.rg
/- Contracts of the laws' helpers on rows of texts and of truths: sizes, copies, comparisons, marks. -/
namespace Go.Proofs.Ytmnjmghlkiljhaa.rg
open Go.ChangeShapes Go.WideShapes Go.ChangeAt Go.RowKit
open Go.Proofs.Ytmnjmghlkiljhaa.ce Go.Proofs.Ytmnjmghlkiljhaa.ro
set_option linter.unusedVariables false

theorem eqTexts_any (xs : List ByteArray) (v v' : Value) (w : World) (r : Rd encS w v xs) (r' : Rd encS w v' xs) :
    Calls Try.prog 41 #[v, v'] w fun e w' => e = .returned (.bool true) ∧ Below w.heap.size w w' := by
  have hl := r.len
  obtain ⟨a, cap, rfl⟩ := r.form
  obtain ⟨a', cap', rfl⟩ := r'.form
  have R : Hid (Rd encS w (.slice a xs.length cap) xs) := r
  have R' : Hid (Rd encS w (.slice a' xs.length cap') xs) := r'
  clear r r'
  have hnn : ((xs.length : Int) != (xs.length : Int)) = false := by simp
  go_enter Try.func41, Try.ntmps41
  go_wp2
  go_loopw [5] (fun v' wr => ∃ i : Nat, i ≤ xs.length ∧ v' = .int .i64 i ∧ Below w.heap.size w wr) (fun v' _ => xs.length - (intOf v').toNat)
  case atStart => exact ⟨0, by omega, rfl, Below.refl _ _⟩
  case round =>
    obtain ⟨i, hi1, rfl, hBr⟩ := hrel
    by_cases hlt : i < xs.length
    · obtain ⟨b, off, rfl, hb, d0⟩ := rdS_cell (R.out.grow hBr) i hlt
      obtain ⟨b', off', rfl, hb', e0⟩ := rdS_cell (R'.out.grow hBr) i hlt
      obtain ⟨z, hz⟩ := hid_ex (xs[i])
      rw [hz.out] at d0 e0
      have hlt' : (i : Int) < xs.length := by omega
      have hzz : (z.toList == z.toList) = true := by simp
      go_wp2
      go_region_held3 (fun w' => w'.cell? ⟨b, off + i, none⟩ = some (.string z) ∧ w'.cell? ⟨b', off' + i, none⟩ = some (.string z)) (first | assumption | exact ⟨d0, e0⟩) (fail)
      go_wp2
      go_roundw
      case rel => exact ⟨i + 1, by omega, by go_num, hBr.drew⟩
      case measure => simp [intOf]; omega
    · go_wp2
      go_ret
      exact ⟨rfl, hBr⟩

theorem likeTexts_any (xs : List ByteArray) (v v' : Value) (w : World) (r : Rd encS w v xs) (r' : Rd encS w v' xs) :
    Calls Try.prog 20 #[v, v'] w fun e w' => e = .returned (.bool true) ∧ Below w.heap.size w w' := by
  have hl := r.len
  obtain ⟨a, cap, rfl⟩ := r.form
  obtain ⟨a', cap', rfl⟩ := r'.form
  have R : Hid (Rd encS w (.slice a xs.length cap) xs) := r
  have R' : Hid (Rd encS w (.slice a' xs.length cap') xs) := r'
  clear r r'
  have hnn : ((xs.length : Int) != (xs.length : Int)) = false := by simp
  go_enter Try.func20, Try.ntmps20
  go_wp2
  go_loopw [5] (fun v' wr => ∃ i : Nat, i ≤ xs.length ∧ v' = .int .i64 i ∧ Below w.heap.size w wr) (fun v' _ => xs.length - (intOf v').toNat)
  case atStart => exact ⟨0, by omega, rfl, Below.refl _ _⟩
  case round =>
    obtain ⟨i, hi1, rfl, hBr⟩ := hrel
    by_cases hlt : i < xs.length
    · obtain ⟨b, off, rfl, hb, d0⟩ := rdS_cell (R.out.grow hBr) i hlt
      obtain ⟨b', off', rfl, hb', e0⟩ := rdS_cell (R'.out.grow hBr) i hlt
      obtain ⟨z, hz⟩ := hid_ex (xs[i])
      rw [hz.out] at d0 e0
      have hlt' : (i : Int) < xs.length := by omega
      have hzz : (z.toList == z.toList) = true := by simp
      go_wp2
      go_region_held3 (fun w' => w'.cell? ⟨b, off + i, none⟩ = some (.string z) ∧ w'.cell? ⟨b', off' + i, none⟩ = some (.string z)) (first | assumption | exact ⟨d0, e0⟩) (fail)
      go_wp2
      go_roundw
      case rel => exact ⟨i + 1, by omega, by go_num, hBr.drew⟩
      case measure => simp [intOf]; omega
    · go_wp2
      go_ret
      exact ⟨rfl, hBr⟩

theorem wpList_make_string {o : Oper} {a : Act} {w : World} {ops : Array Oper} {rest : List Oper} {Q : Exit → Act → World → Prop} (hgd : o.guard = none) (l c : Operand) (t : TypeId) (ho : o.op = .makeSlice t l c) (ht : Try.prog.underlying t = some (.slice 9)) (n : Nat) (hn : n ≤ 1048576) (hl : a.eval l = .int .i64 n) (hc : a.eval c = .int .i64 n)
    (h : ∀ b w', w.heap.size ≤ b → b < w'.heap.size → Below w.heap.size w w' → Own encS w' w.heap.size w'.heap.size (.slice (some ⟨b, 0, none⟩) n n) (List.replicate n (⟨#[]⟩ : ByteArray)) → wpList Try.prog ops Q rest (a.put o.dst (.slice (some ⟨b, 0, none⟩) n n)) w') : wpList Try.prog ops Q (o :: rest) a w := by
  have hi : (Try.prog.info? 9).map (fun i => (i.zero, i.size, i.bytes ≤ 16)) = some (some (Value.string ⟨#[]⟩), 1, True) := by
    obtain ⟨i, z, h1, h2, h3, h4, h5⟩ := infoS.ex
    have : Try.prog.info? 9 = some i := h1
    have hh : (Try.prog.info? 9).map (fun i => (i.zero, i.size, decide (i.bytes ≤ 16))) = some (some (Value.string ⟨#[]⟩), 1, true) := by kernel_rfl
    rw [this] at hh ⊢
    simp at hh ⊢
    exact hh
  obtain ⟨i0, hi0, hz⟩ := Option.map_eq_some_iff.1 hi
  simp only [Prod.mk.injEq, eq_iff_iff, iff_true] at hz
  refine wpList_make_full _ hgd l c t ho w.heap.size 9 i0 _ 1 ht hi0 hz.1 hz.2.1 .i64 .i64 n n n hl hc rfl rfl (by have h3 := hz.2.2; have := Nat.mul_le_mul h3 hn; omega) (by unfold maxLen; omega) (Nat.le_refl _) ?_
  intro w1 h1 h2
  have hb : Below w.heap.size w w1 := ro.below_grown h2 (Nat.le_refl _) (fun k hk => by cases hk)
  refine h _ w1 (Nat.le_refl _) (h1.lt _ rfl).2 hb (own_of ?_)
  have hr : (madeCells (Value.cells (Value.string ⟨#[]⟩)) (n * 1)).toList = encS.row (List.replicate n (⟨#[]⟩ : ByteArray)) := by
    rw [Enc.row_replicate encS (⟨#[]⟩ : ByteArray) n (Value.string ⟨#[]⟩) rfl]
    simp [Value.cells, toList_madeCells_one]
  rw [hr] at h1
  rw [List.length_replicate]
  exact h1

theorem wpList_make_bool {o : Oper} {a : Act} {w : World} {ops : Array Oper} {rest : List Oper} {Q : Exit → Act → World → Prop} (hgd : o.guard = none) (l c : Operand) (t : TypeId) (ho : o.op = .makeSlice t l c) (ht : Try.prog.underlying t = some (.slice 4)) (n : Nat) (hn : n ≤ 1048576) (hl : a.eval l = .int .i64 n) (hc : a.eval c = .int .i64 n)
    (h : ∀ b w', w.heap.size ≤ b → b < w'.heap.size → Below w.heap.size w w' → Own encB w' w.heap.size w'.heap.size (.slice (some ⟨b, 0, none⟩) n n) (List.replicate n false) → wpList Try.prog ops Q rest (a.put o.dst (.slice (some ⟨b, 0, none⟩) n n)) w') : wpList Try.prog ops Q (o :: rest) a w := by
  have hi : (Try.prog.info? 4).map (fun i => (i.zero, i.size, i.bytes ≤ 16)) = some (some (Value.bool false), 1, True) := by
    obtain ⟨i, z, h1, h2, h3, h4, h5⟩ := infoB.ex
    have : Try.prog.info? 4 = some i := h1
    have hh : (Try.prog.info? 4).map (fun i => (i.zero, i.size, decide (i.bytes ≤ 16))) = some (some (Value.bool false), 1, true) := by kernel_rfl
    rw [this] at hh ⊢
    simp at hh ⊢
    exact hh
  obtain ⟨i0, hi0, hz⟩ := Option.map_eq_some_iff.1 hi
  simp only [Prod.mk.injEq, eq_iff_iff, iff_true] at hz
  refine wpList_make_full _ hgd l c t ho w.heap.size 4 i0 _ 1 ht hi0 hz.1 hz.2.1 .i64 .i64 n n n hl hc rfl rfl (by have h3 := hz.2.2; have := Nat.mul_le_mul h3 hn; omega) (by unfold maxLen; omega) (Nat.le_refl _) ?_
  intro w1 h1 h2
  have hb : Below w.heap.size w w1 := ro.below_grown h2 (Nat.le_refl _) (fun k hk => by cases hk)
  refine h _ w1 (Nat.le_refl _) (h1.lt _ rfl).2 hb (own_of ?_)
  have hr : (madeCells (Value.cells (Value.bool false)) (n * 1)).toList = encB.row (List.replicate n false) := by
    rw [Enc.row_replicate encB false n (Value.bool false) rfl]
    simp [Value.cells, toList_madeCells_one]
  rw [hr] at h1
  rw [List.length_replicate]
  exact h1

end Go.Proofs.Ytmnjmghlkiljhaa.rg
/- Contracts of the laws' marks on rows of texts and of truths. -/
namespace Go.Proofs.Ytmnjmghlkiljhaa.rg
open Go.ChangeShapes Go.WideShapes Go.ChangeAt Go.RowKit
open Go.Proofs.Ytmnjmghlkiljhaa.ce Go.Proofs.Ytmnjmghlkiljhaa.ro
set_option linter.unusedVariables false

theorem own_ty {α : Type} {E : Enc α} {w : World} {lo hi g n cap : Nat} {xs : List α} (o : Own E w lo hi (.slice (some ⟨g, 0, none⟩) n cap) xs) (h : 1 ≤ xs.length) (j : Nat) (x : Value) : Ty lo E.t w (w.setCell ⟨g, j, none⟩ x) := by
  rcases o.row with ⟨rfl, -⟩ | ⟨g2, cap2, cur, e2, hg, hb, -⟩
  · simp at h
  · cases e2
    exact ⟨(only_set w g j x).2.2 _ hg.1, fun k cur' t' f hk hn => (only_set w g j x).2.1 k fun e => by
      rw [e, hb] at hk
      simp at hk
      exact hn hk.2.1.symm⟩
theorem own_lo {α : Type} {E : Enc α} {w : World} {lo hi n cap : Nat} {a : Option Addr} {xs : List α} (o : Own E w lo hi (.slice a n cap) xs) (h : 1 ≤ xs.length) : lo ≤ w.heap.size := by
  obtain ⟨g, c, e, h1, h2, h3⟩ := o.form h
  omega
def dig (d : Nat) : ByteArray := ⟨#[UInt8.ofNat (48 + d)]⟩
/-- what markText tells -/
def mgo : Nat → Nat → ByteArray → ByteArray
  | 0, _, out => ⟨#[109]⟩ ++ out
  | f + 1, k, out => if k = 0 then ⟨#[109]⟩ ++ out else mgo f (k / 10) (dig (k % 10) ++ out)
theorem mgo_zero (f : Nat) (out : ByteArray) : mgo f 0 out = ⟨#[109]⟩ ++ out := by cases f <;> simp [mgo]
theorem mgo_step {f k : Nat} (h : 0 < k) (out : ByteArray) : mgo (f + 1) k out = mgo f (k / 10) (dig (k % 10) ++ out) := by
  simp only [mgo]
  rw [if_neg (by omega)]
def mtx (k : Nat) : ByteArray := mgo k k ⟨#[]⟩
theorem dig_conv (d : Nat) (h1 : d ≤ 9) (w : World) : (convert 22 9 (Value.slice (some { block := w.heap.size, off := 0 }) 1 1)).run Try.prog (w.alloc (Obj.cells #[Value.int IntKind.u8 (48 + (d : Int))] 5)) = .ok (.string (dig d)) (w.alloc (Obj.cells #[Value.int IntKind.u8 (48 + (d : Int))] 5)) :=
  run_convert_bytes_back (P := Try.prog) (w.alloc (Obj.cells #[Value.int IntKind.u8 (48 + (d : Int))] 5)) 22 9 5 ⟨w.heap.size, 0, none⟩ 1 [UInt8.ofNat (48 + d)] Try.underlying22 Try.underlying5 Try.underlying9 (fun j hj => by
    have hj0 : j = 0 := by simpa using hj
    subst hj0
    have e : (((UInt8.ofNat (48 + d)).toNat : Nat) : Int) = 48 + d := by
      rw [UInt8.toNat_ofNat']; omega
    simp only [List.getElem_cons_zero, e]
    show (w.alloc _).cell? ⟨w.heap.size, 0, none⟩ = _
    rw [cell_of_row _ _ 0 _ _ _ (heap_alloc_new w _)]; rfl)

theorem markText_any (k : Nat) (h0 : 1 ≤ k) (h1 : k ≤ 16777216) (w : World) :
    Calls Try.prog 85 #[.int .i64 k] w fun e w' => e = .returned (.string (mtx k)) ∧ Below w.heap.size w w' := by
  obtain ⟨C, hC⟩ := hid_ex (mtx k)
  rw [hC.out]
  have hk0 : ¬ (k : Int) ≤ 0 := by omega
  go_enter Try.func85, Try.ntmps85
  go_wp2
  go_loopw [0, 3] (fun v s wr => ∃ (q f : Nat) (out : ByteArray), v = .int .i64 q ∧ s = .string out ∧ q ≤ 16777216 ∧ Hid (q ≤ f) ∧ Hid (mgo f q out = C) ∧ out.size + q ≤ 16777216 ∧ Below w.heap.size w wr) (fun v _ _ => (intOf v).toNat)
  case atStart => exact ⟨k, k, ⟨#[]⟩, rfl, rfl, h1, Nat.le_refl _, hC, by show 0 + k ≤ 16777216; omega, Below.refl _ _⟩
  case round =>
    obtain ⟨q, f, out, rfl, rfl, hq1, hqf, hM, hsz, hB⟩ := hrel
    by_cases hq : 0 < q
    · have hq' : (0 : Int) < (q : Int) := by omega
      obtain ⟨f', rfl⟩ : ∃ f', f = f' + 1 := ⟨f - 1, by have := hqf.out; omega⟩
      have hM2 : Hid (mgo f' (q / 10) (dig (q % 10) ++ out) = C) := by unfold Hid; rw [← hM.out, mgo_step hq]
      have hqf2 : Hid (q / 10 ≤ f') := by have := hqf.out; unfold Hid; omega
      obtain ⟨d, hd⟩ := hid_ex (q % 10)
      have hd9 : d ≤ 9 := by have := hd.out; omega
      rw [hd.out] at hM2
      have hcv := dig_conv d hd9 wr
      have hds : (dig d).size = 1 := rfl
      have hmod : (q : Int) % 10 = (d : Int) := by have := hd.out; omega
      obtain ⟨q2, hq2⟩ := hid_ex (q / 10)
      rw [hq2.out] at hM2 hqf2
      have hq3 : q2 < q := by have := hq2.out; omega
      have hdiv : (q : Int) / 10 = (q2 : Int) := by have := hq2.out; omega
      have hout : (dig d ++ out).size = 1 + out.size := by rw [ByteArray.size_append]; rfl
      go_wp2
      go_roundw
      case rel => exact ⟨q2, f', dig d ++ out, rfl, rfl, by omega, hqf2, hM2, by omega, hB.alloc hB.size _⟩
      case measure => simp [intOf]; omega
    · have hq' : ¬ (0 : Int) < (q : Int) := by omega
      have eq0 : q = 0 := by omega
      have hM3 := hM.out
      rw [eq0, mgo_zero] at hM3
      subst hM3
      go_wp2
      go_ret
      exact ⟨rfl, hB⟩

def smarks (k n : Nat) : List ByteArray := (List.range n).map fun j => mtx (k + j)
theorem smarks_len (k n : Nat) : (smarks k n).length = n := by simp [smarks]
theorem smarks_succ (k n : Nat) : smarks k (n + 1) = smarks k n ++ [mtx (k + n)] := by simp [smarks, List.range_succ]
theorem smarks_get (k n i : Nat) (h : i < (smarks k n).length) : (smarks k n)[i] = mtx (k + i) := by simp [smarks]
theorem markTexts_any (xs : List ByteArray) (v : Value) (lo hi : Nat) (k : Nat) (hk : 1 ≤ k) (hk2 : k + xs.length ≤ 8000000) (mm : Nat) (hmm : mm = k + xs.length) (w : World) (own : Own encS w lo hi v xs) :
    Calls Try.prog 44 #[v, .int .i64 k] w fun e w' => e = .returned (.int .i64 mm) ∧ Own encS w' lo hi v (smarks k xs.length) ∧ Within lo hi w w' ∧ Ty lo 9 w w' := by
  obtain ⟨a, cap, rfl⟩ := own.rd.form
  have O0 : Hid (Own encS w lo hi (.slice a xs.length cap) xs) := own
  have HMM : Hid (mm = k + xs.length) := hmm
  clear own hmm
  go_enter Try.func44, Try.ntmps44
  go_wp2
  go_loopw [1, 5] (fun q v' wr => ∃ i m : Nat, i ≤ xs.length ∧ v' = .int .i64 i ∧ q = .int .i64 m ∧ Hid (m = k + i) ∧ Hid (Own encS wr lo hi (.slice a xs.length cap) (smarks k i ++ xs.drop i)) ∧ Hid (Within lo hi w wr) ∧ Hid (Ty lo 9 w wr)) (fun _ v' _ => xs.length - (intOf v').toNat)
  case atStart => exact ⟨0, k, by omega, rfl, rfl, rfl, by unfold Hid; simpa [smarks] using O0.out, Within.refl _ _ _, Ty.refl _ _ _⟩
  case round =>
    obtain ⟨i, m, hi1, rfl, rfl, hm, O, hW, hY⟩ := hrel
    by_cases hlt : i < xs.length
    · have hil : i < (smarks k i ++ xs.drop i).length := by simp [smarks_len]; omega
      obtain ⟨g, e1, hg, d0, f0⟩ := ownS_cell O.out i hil
      subst e1
      have hlt' : (i : Int) < (xs.length : Int) := by omega
      have hm1 : 1 ≤ m ∧ m ≤ 8000000 := by have := hm.out; omega
      have hel : mtx m = mtx (k + i) := by rw [hm.out]
      obtain ⟨z, hzz⟩ := hid_ex (mtx m)
      have hset : Hid ((smarks k i ++ xs.drop i).set i z = smarks k (i + 1) ++ xs.drop (i + 1)) := by
        unfold Hid
        rw [List.set_append_right _ _ (by rw [smarks_len]; omega), smarks_len, Nat.sub_self, List.drop_eq_getElem_cons hlt, List.set_cons_zero, smarks_succ, ← hel, hzz.out]
        simp
      clear hel
      clear d0 f0
      go_wp2_with (first | (go_at_call 85; refine (markText_any m (by omega) (by omega) _).mono ?_; rintro e w2 ⟨rfl, hB2⟩; rw [hzz.out]; obtain ⟨g', e', -, d0, f0⟩ := ownS_cell (O.out.grow hB2) i hil; cases e'; have O2 := O.out.grow hB2; have hz2 := hB2.size) | (fail))
      go_roundw
      case rel =>
        have h1 := ownS_set O2 i hil z
        rw [hset.out] at h1
        exact ⟨i + 1, m + 1, by omega, by go_num, by go_num, by have := hm.out; unfold Hid; omega, h1, (hW.out.trans (Within.of_below hB2 (Nat.le_refl _))).setCell hg.1 hg.2 _, (hY.out.trans (Ty.of_below hB2 (own_lo O.out (by omega)))).trans (own_ty O2 (by omega) _ _)⟩
      case measure => simp [intOf]; omega
    · have hlt' : ¬ (i : Int) < (xs.length : Int) := by omega
      have o2 := O.out
      rw [show i = xs.length by omega, List.drop_length, List.append_nil] at o2
      have hm3 : m = mm := by have := hm.out; have := HMM.out; omega
      subst hm3
      clear O
      go_wp2
      go_ret
      exact ⟨rfl, o2, hW.out, hY.out⟩

theorem heldTexts_any (n : Nat) (v : Value) (k : Nat) (hk : 1 ≤ k) (hk2 : k + n ≤ 8000000) (mm : Nat) (hmm : mm = k + n) (w : World) (r : Rd encS w v (smarks k n)) :
    Calls Try.prog 45 #[v, .int .i64 k] w fun e w' => e = .returned (.int .i64 mm) ∧ Below w.heap.size w w' := by
  obtain ⟨a, cap, rfl⟩ := r.form
  rw [smarks_len] at r ⊢
  have R : Hid (Rd encS w (.slice a n cap) (smarks k n)) := r
  have HMM : Hid (mm = k + n) := hmm
  clear r hmm
  go_enter Try.func45, Try.ntmps45
  go_wp2
  go_loopw [1, 5] (fun q v' wr => ∃ i m : Nat, i ≤ n ∧ v' = .int .i64 i ∧ q = .int .i64 m ∧ Hid (m = k + i) ∧ Below w.heap.size w wr) (fun _ v' _ => n - (intOf v').toNat)
  case atStart => exact ⟨0, k, by omega, rfl, rfl, rfl, Below.refl _ _⟩
  case round =>
    obtain ⟨i, m, hi1, rfl, rfl, hm, hB⟩ := hrel
    by_cases hlt : i < n
    · have hil : i < (smarks k n).length := by rw [smarks_len]; exact hlt
      obtain ⟨b, off, rfl, hb, d0⟩ := rdS_cell (R.out.grow hB) i hil
      rw [smarks_get] at d0
      have hlt' : (i : Int) < (n : Int) := by omega
      have hm1 : 1 ≤ m ∧ m ≤ 8000000 := by have := hm.out; omega
      rw [← hm.out] at d0
      obtain ⟨z, hzz⟩ := hid_ex (mtx m)
      rw [hzz.out] at d0
      have hze : (z.toList == z.toList) = true := by simp
      have S1 : wr.drew.cell? ⟨b, off + i, none⟩ = some (.string z) := d0
      go_wp2
      go_region_held3 (fun w' => w'.cell? ⟨b, off + i, none⟩ = some (.string z)) (first | assumption | exact d0) (first | (go_at_call 85; refine (markText_any m (by omega) (by omega) wr.drew).mono ?_; rintro e w2 ⟨rfl, hB2⟩; rw [hzz.out]; have hB3 : Below w.heap.size w w2 := hB.drew.trans (hB2.mono hB.size); have S2 : w2.cell? ⟨b, off + i, none⟩ = some (.string z) := (World.cell?_of_block (w := wr.drew) (w' := w2) (a := ⟨b, off + i, none⟩) (hB2.block b hb)).trans d0) | (fail))
      go_wp2
      go_roundw
      case rel => exact ⟨i + 1, m + 1, by omega, by go_num, by go_num, by have := hm.out; unfold Hid; omega, hB3⟩
      case measure => simp [intOf]; omega
    · have hlt' : ¬ (i : Int) < (n : Int) := by omega
      have hm3 : m = mm := by have := hm.out; have := HMM.out; omega
      subst hm3
      go_wp2
      go_ret
      exact ⟨rfl, hB⟩

def bmarks (k n : Nat) : List Bool := (List.range n).map fun j => ((((k + j : Nat) : Int) % 3) == 0)
theorem bmarks_len (k n : Nat) : (bmarks k n).length = n := by simp [bmarks]
theorem bmarks_succ (k n : Nat) : bmarks k (n + 1) = bmarks k n ++ [((((k + n : Nat) : Int) % 3) == 0)] := by simp [bmarks, List.range_succ]
theorem bmarks_get (k n i : Nat) (h : i < (bmarks k n).length) : (bmarks k n)[i] = ((((k + i : Nat) : Int) % 3) == 0) := by simp [bmarks]
end Go.Proofs.Ytmnjmghlkiljhaa.rg
/- Rows of texts among the arguments. -/
namespace Go.Proofs.Ytmnjmghlkiljhaa.rg
open Go.ChangeShapes Go.WideShapes Go.ChangeAt Go.RowKit
open Go.Deep Go.Joins
open Go.Proofs.Ytmnjmghlkiljhaa.ce Go.Proofs.Ytmnjmghlkiljhaa.ro
set_option linter.unusedVariables false

theorem add_noneR {a : Addr} (h : a.spot = none) (j : Nat) : a.add j = ⟨a.block, a.off + j, none⟩ := by
  obtain ⟨b, o, s⟩ := a
  simp at h
  subst h
  simp [Addr.add]
theorem rd_of_trod {α : Type} [Inhabited α] (E : Enc α) (hk : E.k = 1) (p : α → Prop) {H : Type} {enc : TypeId × Value → H} {w : World} {n : Nat} {v : Value} {T : TypeId} {x : DataW H × List MemPlace} (hT : Try.prog.underlying T = some (.slice E.t)) (hc : Try.prog.cellsOf E.t = 1)
    (dec : ∀ m cs y, DataW.trod enc Try.prog w 0 (fun _ => true) true m E.t cs = some y → ∃ z, cs = E.put z ∧ p z)
    (h : DataW.trod enc Try.prog w 0 (fun _ => true) true n T [v] = some x) : ∃ L, Rd E w v L ∧ ∀ z ∈ L, p z := by
  rcases open_slice hT h with ⟨hcs, -⟩ | ⟨a, len, cap, m, n', D, Pl, hcs, -, hl, hm, hmm, -, hrow⟩
  · obtain rfl : v = .slice none 0 0 := by simpa using hcs
    exact ⟨[], rd_zero E w none 0 (Nat.zero_le _), fun k hk => by simp at hk⟩
  · obtain rfl : v = .slice (some a) len cap := by simpa using hcs
    rw [hc] at hrow
    have hlm : len ≤ m := by rw [hmm]; simp; exact hl
    have hex : ∀ i, i < len → ∃ z : α, w.cells? 0 (a.add (i * 1)) 1 = some (E.put z) ∧ p z := fun i hi => by
      obtain ⟨cs', h1, h2⟩ := hrow i (by omega)
      obtain ⟨z, e0, hz⟩ := dec _ _ _ h2
      rw [e0] at h1
      exact ⟨z, h1, hz⟩
    obtain ⟨F, hF⟩ := choose_lt hex
    refine ⟨(List.range len).map F, ⟨some a, cap, by simp, by simpa using hl, hm, fun hn => ?_⟩, fun k hk => ?_⟩
    rotate_left
    · obtain ⟨i, hi, rfl⟩ := List.mem_map.1 hk
      exact (hF i (by simpa using hi)).2
    have h0 : 0 < len := by
      rcases Nat.eq_zero_or_pos len with e | e
      · subst e; exact absurd rfl hn
      · exact e
    have hcell : ∀ i, i < len → (E.put (F i))[0]? = w.cell? (a.add i) := fun i hi => by
      obtain ⟨h1, h2, h3⟩ := World.cells?_some (hF i hi).1
      have := h3 0 (by omega)
      rw [Nat.mul_one] at this
      have e : (a.add i).add 0 = a.add i := by obtain ⟨b, o, s⟩ := a; cases s <;> simp [Addr.add]
      rw [e] at this
      rw [this]
    have hsome : ∀ i, i < len → ∃ u, w.cell? (a.add i) = some u := fun i hi => by
      rw [← hcell i hi, List.getElem?_eq_getElem (by rw [E.len, hk]; decide)]
      exact ⟨_, rfl⟩
    have hspot : a.spot = none := by
      obtain ⟨u, hu⟩ := hsome 0 h0
      have h5 : (a.add 0).spot = none := World.cell?_spot hu
      obtain ⟨b, o, s⟩ := a
      cases s with
      | none => rfl
      | some s => simp [Addr.add] at h5
    have hlt : a.block < w.heap.size := by
      obtain ⟨u, hu⟩ := hsome 0 h0
      rw [add_noneR hspot] at hu
      exact World.block_lt_of_cell? w ⟨a.block, a.off + 0, none⟩ hu
    refine ⟨a.block, a.off, by obtain ⟨b, o, s⟩ := a; simp at hspot; subst hspot; rfl, hlt, fun k u hku => ?_⟩
    have hkl : k < len := by
      have := (List.getElem?_eq_some_iff.1 hku).1
      rw [Enc.row_len, hk] at this
      simpa using this
    have hg := E.row_get ((List.range len).map F) k 0 (by simpa using hkl) (by rw [hk]; decide)
    rw [hk, Nat.mul_one, Nat.add_zero] at hg
    rw [hg] at hku
    have e : ((List.range len).map F)[k]'(by simpa using hkl) = F k := by simp
    rw [e, hcell k hkl, add_noneR hspot] at hku
    exact hku
theorem cellsStr : Try.prog.cellsOf 9 = 1 := by kernel_rfl
theorem rdS_of_trod {H : Type} {enc : TypeId × Value → H} {w : World} {n : Nat} {v : Value} {x : DataW H × List MemPlace} (h : DataW.trod enc Try.prog w 0 (fun _ => true) true n 24 [v] = some x) : ∃ L, Rd encS w v L ∧ ∀ s ∈ L, s.size ≤ 9223372036854775807 :=
  rd_of_trod encS rfl _ Try.underlying24 cellsStr (fun m cs y hy => by
    obtain ⟨s, e, -, h1⟩ := DataW.trod_string Try.underlying9 hy
    exact ⟨s, e, h1⟩) h
end Go.Proofs.Ytmnjmghlkiljhaa.rg
/- Contracts of the laws' helpers on rings; a ring among the arguments. -/
namespace Go.Proofs.Ytmnjmghlkiljhaa.rg
open Go.ChangeShapes Go.WideShapes Go.ChangeAt Go.RowKit
open Go.Deep Go.Joins
open Go.Proofs.Ytmnjmghlkiljhaa.ce Go.Proofs.Ytmnjmghlkiljhaa.ro
set_option linter.unusedVariables false

theorem cellsBoo : Try.prog.cellsOf 4 = 1 := by kernel_rfl
theorem cellsInt : Try.prog.cellsOf 2 = 1 := by kernel_rfl
theorem cellsSs : Try.prog.cellsOf 24 = 1 := by kernel_rfl
theorem cellsBs : Try.prog.cellsOf 25 = 1 := by kernel_rfl
theorem rdB_of_trod {H : Type} {enc : TypeId × Value → H} {w : World} {n : Nat} {v : Value} {x : DataW H × List MemPlace} (h : DataW.trod enc Try.prog w 0 (fun _ => true) true n 25 [v] = some x) : ∃ L, Rd encB w v L := by
  obtain ⟨L, hL, -⟩ := rd_of_trod encB rfl (fun _ => True) Try.underlying25 cellsBoo (fun m cs y hy => by
    obtain ⟨s, e, -⟩ := DataW.trod_bool Try.underlying4 hy
    exact ⟨s, e, trivial⟩) h
  exact ⟨L, hL⟩
/-- a ring with marks -/
def mkR (r : Rg) : Rg := ⟨smarks 1 r.N.length, bmarks (1 + r.N.length) r.U.length, r.A⟩
end Go.Proofs.Ytmnjmghlkiljhaa.rg
/- Contracts: the program's RingOk, Joins, Uses, Leaves, Turns, of whatever ring. -/
namespace Go.Proofs.Ytmnjmghlkiljhaa.rg
open Go.ChangeShapes Go.WideShapes Go.ChangeAt Go.RowKit
open Go.Proofs.Ytmnjmghlkiljhaa.ce Go.Proofs.Ytmnjmghlkiljhaa.ro
set_option linter.unusedVariables false

theorem zip_join {N : List ByteArray} {U : List Bool} (h : U.length = N.length) (s : ByteArray) : N.zip U ++ [(s, false)] = (N ++ [s]).zip (U ++ [false]) := by
  rw [List.zip_append (by omega)]
  rfl

set_option maxRecDepth 100000 in
set_option maxHeartbeats 2000000 in
theorem implJoins_all (r : Rg) (s : ByteArray) (hs : s.size ≤ 9223372036854775807) (vN vU : Value) (w : World) (h : RdR w vN vU r) :
    Calls Try.prog 101 #[.agg #[vN, vU, .int .i64 r.A], .string s] w fun e w' => ∃ vN' vU', e = .returned (.tuple #[.agg #[vN', vU', .int .i64 (jnR r s).A], .bool (jnB r s)]) ∧ OwnR w' w.heap.size w'.heap.size vN' vU' (jnR r s) ∧ Below w.heap.size w w' := by
  obtain ⟨a, cap, rfl⟩ := h.n.form
  obtain ⟨c, dc, rfl⟩ := h.u.form
  have R : Hid (RdR w (.slice a r.N.length cap) (.slice c r.U.length dc) r) := h
  clear h
  by_cases hok : ringB r = true
  · have e1 : jnR r s = if mayB r s = true then joined r s else r := if_pos hok
    have e2 : jnB r s = mayB r s := by unfold jnB; rw [hok]; rfl
    rw [e1, e2]
    clear e1 e2
    have HK : Hid (ringB r = true) := hok
    have OK : Hid (ROk r) := ringB_iff.1 hok
    have hle := OK.out.le
    have hus : Hid (r.U.length = r.N.length) := OK.out.us
    have hzl : Hid ((r.N.zip r.U).length = r.N.length) := zip_len OK.out.us
    clear hok
    have hmay := @mayB_true r s
    have hm1 := @mayB_false1 r s
    have hm2 := @mayB_false2 r s
    have hm3 := @mayB_false3 r s
    obtain ⟨p, hp0⟩ := hid_ex (posS s r.N)
    have hp : Hid (posS s ((r.N.zip r.U).map (·.1)) = p) := by unfold Hid; rw [zip_fst OK.out.us]; exact hp0.out
    have hpb := posS_bd s r.N
    rw [hp0.out] at hmay hm2 hpb
    clear hp0
    cases hnm : nameB s with
    | false =>
      have e3 := hm1 hnm
      rw [e3, if_neg Bool.false_ne_true]
      clear hmay hm1 hm2 hm3 e3
      have m1 : Hid True := trivial
      have m2 : Hid True := trivial
      have m3 : Hid True := trivial
      have m4 : Hid True := trivial
      have m5 : Hid True := trivial
      have m6 : Hid True := trivial
      have m7 : Hid True := trivial
      have m8 : Hid True := trivial
      have m9 : Hid True := trivial
      go_enter Try.func101, Try.ntmps101
      go_wp2_with (first | (clear m1; refine wpList_box_v rfl 27 _ rfl [.slice a r.N.length cap, .slice c r.U.length dc, .int .i64 r.A] rfl ?_; intro b2 w1 hb2 hw2 hB1 V2; have hz1 := hB1.size) | (clear m2; refine wpList_alloc_v rfl 27 rfl _ zeroRg ?_; intro b4 w2 hb4 hw4 hB2 V4; have hz2 := hB2.size; replace V2 := vblk_grow V2 hB2; have hB := hB1.trans (hB2.mono hz1); obtain ⟨c0, c1, c2⟩ := cells3 V2) | (clear m3; go_at_call 91; refine (roundOf_any r _ _ _ (R.out.grow hB)).mono ?_; rintro er w3 ⟨a3, n3, k3, A3, rfl, md⟩; rw [HK.out] at md ⊢; have hB3 := md.low; have hz3 := hB3.size; replace V4 := vblk_grow V4 hB3; replace hB := hB.trans (hB3.mono (by omega)); obtain ⟨o, hA3⟩ := md.own rfl; subst hA3; replace o := o.wide (lo' := w.heap.size) (by omega) (Nat.le_refl _)) | (clear m4; refine wpList_alloc_v rfl 121 rfl _ zeroRd ?_; intro b6 w5 hb6 hw6 hB5 V6; have hz5 := hB5.size; replace V4 := vblk_grow V4 hB5; replace o := o.grow hB5; replace hB := hB.trans (hB5.mono (by omega))) | (clear m5; refine wpList_store_v rfl 121 _ _ rfl b6 [.slice a3 n3 k3, .int .i64 r.A] rfl rfl sizeRd V6 rfl (by simp [Value.oneCell']) ?_; intro w6 hO6 X6; have hz6 := Nat.le_of_eq hO6.1.symm; have hy6 := Nat.le_of_eq hO6.1; replace V4 := vblk_only V4 hO6 (by omega); replace hB := hB.trans (hO6.2.2 _ (by omega)); have rv : RV w6 w.heap.size _ b6 (.slice a3 n3 k3) (r.N.zip r.U) r.A := ⟨o.only hO6 V6 (by decide), X6⟩; clear o V6 X6; obtain ⟨f0, f1⟩ := cells2 rv.v) | (clear m6; go_at_call 50; refine (implNameOk_any _ hs _).mono ?_; rintro er wq ⟨rfl, hq⟩; subst wq; rw [hnm]) | (go_at_call 94; refine (ringOf_any r _ _ rv.o.rd hus.out (by omega)).mono ?_; rintro er w8 ⟨vN8, vU8, rfl, oR, hB8⟩; have hz8 := hB8.size; replace V4 := vblk_grow V4 hB8; replace oR := oR.wide (lo' := w.heap.size) (by omega) (Nat.le_refl _); replace hB := hB.trans (hB8.mono (by omega)); obtain ⟨aN, nN, kN, rfl⟩ := oR.n.slice; obtain ⟨aU, nU, kU, rfl⟩ := oR.u.slice) | (clear m9; refine wpList_store_v rfl 27 _ _ rfl b4 [.slice aN nN kN, .slice aU nU kU, .int .i64 r.A] rfl rfl sizeRg V4 rfl (by simp [Value.oneCell']) ?_; intro w9 hO9 V9; have o9 := oR.only hO9 V4 (by decide) (by decide); replace hB := hB.trans (hO9.2.2 _ (by omega))) | (fail))
      exact row_ct rfl rfl rfl V9 Try.underlying27 sizeRg rfl ⟨_, _, rfl, o9.top, hB⟩
    | true =>
      by_cases hpe : p = -1
      · have hpb2 : (p != -1) = false := by simpa using hpe
        by_cases h20 : r.N.length = 20
        · have e3 := hm3 h20
          rw [e3, if_neg Bool.false_ne_true]
          have h20b : ((r.N.length : Int) == 20) = true := by simp; omega
          clear hmay hm1 hm2 hm3 e3 h20 hpe
          have m1 : Hid True := trivial
          have m2 : Hid True := trivial
          have m3 : Hid True := trivial
          have m4 : Hid True := trivial
          have m5 : Hid True := trivial
          have m6 : Hid True := trivial
          have m7 : Hid True := trivial
          have m8 : Hid True := trivial
          have m9 : Hid True := trivial
          go_enter Try.func101, Try.ntmps101
          go_wp2_with (first | (clear m1; refine wpList_box_v rfl 27 _ rfl [.slice a r.N.length cap, .slice c r.U.length dc, .int .i64 r.A] rfl ?_; intro b2 w1 hb2 hw2 hB1 V2; have hz1 := hB1.size) | (clear m2; refine wpList_alloc_v rfl 27 rfl _ zeroRg ?_; intro b4 w2 hb4 hw4 hB2 V4; have hz2 := hB2.size; replace V2 := vblk_grow V2 hB2; have hB := hB1.trans (hB2.mono hz1); obtain ⟨c0, c1, c2⟩ := cells3 V2) | (clear m3; go_at_call 91; refine (roundOf_any r _ _ _ (R.out.grow hB)).mono ?_; rintro er w3 ⟨a3, n3, k3, A3, rfl, md⟩; rw [HK.out] at md ⊢; have hB3 := md.low; have hz3 := hB3.size; replace V4 := vblk_grow V4 hB3; replace hB := hB.trans (hB3.mono (by omega)); obtain ⟨o, hA3⟩ := md.own rfl; subst hA3; replace o := o.wide (lo' := w.heap.size) (by omega) (Nat.le_refl _)) | (clear m4; refine wpList_alloc_v rfl 121 rfl _ zeroRd ?_; intro b6 w5 hb6 hw6 hB5 V6; have hz5 := hB5.size; replace V4 := vblk_grow V4 hB5; replace o := o.grow hB5; replace hB := hB.trans (hB5.mono (by omega))) | (clear m5; refine wpList_store_v rfl 121 _ _ rfl b6 [.slice a3 n3 k3, .int .i64 r.A] rfl rfl sizeRd V6 rfl (by simp [Value.oneCell']) ?_; intro w6 hO6 X6; have hz6 := Nat.le_of_eq hO6.1.symm; have hy6 := Nat.le_of_eq hO6.1; replace V4 := vblk_only V4 hO6 (by omega); replace hB := hB.trans (hO6.2.2 _ (by omega)); have rv : RV w6 w.heap.size _ b6 (.slice a3 n3 k3) (r.N.zip r.U) r.A := ⟨o.only hO6 V6 (by decide), X6⟩; clear o V6 X6; obtain ⟨f0, f1⟩ := cells2 rv.v) | (clear m6; go_at_call 50; refine (implNameOk_any _ hs _).mono ?_; rintro er wq ⟨rfl, hq⟩; subst wq; rw [hnm]) | (clear m7; go_at_call 103; refine (placeOf_any _ _ _ _ b6 _ _ _ rv).mono ?_; rintro er w7 ⟨rfl, hB7⟩; rw [hp.out]; have hz7 := hB7.size; replace V4 := vblk_grow V4 hB7; replace rv := rv.grow hB7; replace hB := hB.trans (hB7.mono (by omega)); clear f0 f1; obtain ⟨f0, f1⟩ := cells2 rv.v) | (clear m8; go_at_call 131; refine (many_any _ _ _ b6 _ _ _ rv).mono ?_; rintro er wq ⟨rfl, hq⟩; subst wq; rw [hzl.out]) | (go_at_call 94; refine (ringOf_any r _ _ rv.o.rd hus.out (by omega)).mono ?_; rintro er w8 ⟨vN8, vU8, rfl, oR, hB8⟩; have hz8 := hB8.size; replace V4 := vblk_grow V4 hB8; replace oR := oR.wide (lo' := w.heap.size) (by omega) (Nat.le_refl _); replace hB := hB.trans (hB8.mono (by omega)); obtain ⟨aN, nN, kN, rfl⟩ := oR.n.slice; obtain ⟨aU, nU, kU, rfl⟩ := oR.u.slice) | (clear m9; refine wpList_store_v rfl 27 _ _ rfl b4 [.slice aN nN kN, .slice aU nU kU, .int .i64 r.A] rfl rfl sizeRg V4 rfl (by simp [Value.oneCell']) ?_; intro w9 hO9 V9; have o9 := oR.only hO9 V4 (by decide) (by decide); replace hB := hB.trans (hO9.2.2 _ (by omega))) | (fail))
          exact row_ct rfl rfl rfl V9 Try.underlying27 sizeRg rfl ⟨_, _, rfl, o9.top, hB⟩
        · have e3 := hmay hnm (by omega) h20
          rw [e3, if_pos rfl]
          have h20b : ((r.N.length : Int) == 20) = false := by simp; omega
          have hjn : Hid (r.N.zip r.U ++ [(s, false)] = (joined r s).N.zip (joined r s).U) := zip_join OK.out.us s
          have hju : Hid ((joined r s).U.length = (joined r s).N.length) := by unfold Hid joined; simp; exact OK.out.us
          have hjl : (joined r s).N.length ≤ 1000000 := by unfold joined; simp; omega
          have hjA : Hid (r.A = (joined r s).A) := rfl
          obtain ⟨J, hJ⟩ := hid_ex (joined r s)
          rw [hJ.out] at hjn hju hjl hjA ⊢
          clear hmay hm1 hm2 hm3 e3 h20 hpe
          have m1 : Hid True := trivial
          have m2 : Hid True := trivial
          have m3 : Hid True := trivial
          have m4 : Hid True := trivial
          have m5 : Hid True := trivial
          have m6 : Hid True := trivial
          have m7 : Hid True := trivial
          have m8 : Hid True := trivial
          have m9 : Hid True := trivial
          go_enter Try.func101, Try.ntmps101
          go_wp2_with (first | (clear m1; refine wpList_box_v rfl 27 _ rfl [.slice a r.N.length cap, .slice c r.U.length dc, .int .i64 r.A] rfl ?_; intro b2 w1 hb2 hw2 hB1 V2; have hz1 := hB1.size) | (clear m2; refine wpList_alloc_v rfl 27 rfl _ zeroRg ?_; intro b4 w2 hb4 hw4 hB2 V4; have hz2 := hB2.size; replace V2 := vblk_grow V2 hB2; have hB := hB1.trans (hB2.mono hz1); obtain ⟨c0, c1, c2⟩ := cells3 V2) | (clear m3; go_at_call 91; refine (roundOf_any r _ _ _ (R.out.grow hB)).mono ?_; rintro er w3 ⟨a3, n3, k3, A3, rfl, md⟩; rw [HK.out] at md ⊢; have hB3 := md.low; have hz3 := hB3.size; replace V4 := vblk_grow V4 hB3; replace hB := hB.trans (hB3.mono (by omega)); obtain ⟨o, hA3⟩ := md.own rfl; subst hA3; replace o := o.wide (lo' := w.heap.size) (by omega) (Nat.le_refl _)) | (clear m4; refine wpList_alloc_v rfl 121 rfl _ zeroRd ?_; intro b6 w5 hb6 hw6 hB5 V6; have hz5 := hB5.size; replace V4 := vblk_grow V4 hB5; replace o := o.grow hB5; replace hB := hB.trans (hB5.mono (by omega))) | (clear m5; refine wpList_store_v rfl 121 _ _ rfl b6 [.slice a3 n3 k3, .int .i64 r.A] rfl rfl sizeRd V6 rfl (by simp [Value.oneCell']) ?_; intro w6 hO6 X6; have hz6 := Nat.le_of_eq hO6.1.symm; have hy6 := Nat.le_of_eq hO6.1; replace V4 := vblk_only V4 hO6 (by omega); replace hB := hB.trans (hO6.2.2 _ (by omega)); have rv : RV w6 w.heap.size _ b6 (.slice a3 n3 k3) (r.N.zip r.U) r.A := ⟨o.only hO6 V6 (by decide), X6⟩; clear o V6 X6; obtain ⟨f0, f1⟩ := cells2 rv.v) | (clear m6; go_at_call 50; refine (implNameOk_any _ hs _).mono ?_; rintro er wq ⟨rfl, hq⟩; subst wq; rw [hnm]) | (clear m7; go_at_call 103; refine (placeOf_any _ _ _ _ b6 _ _ _ rv).mono ?_; rintro er w7 ⟨rfl, hB7⟩; rw [hp.out]; have hz7 := hB7.size; replace V4 := vblk_grow V4 hB7; replace rv := rv.grow hB7; replace hB := hB.trans (hB7.mono (by omega)); clear f0 f1; obtain ⟨f0, f1⟩ := cells2 rv.v) | (clear m8; go_at_call 131; refine (many_any _ _ _ b6 _ _ _ rv).mono ?_; rintro er wq ⟨rfl, hq⟩; subst wq; rw [hzl.out]) | (go_at_call 126; refine (join_any _ _ _ _ b6 _ _ _ rv (by omega) (by have := hzl.out; omega)).mono ?_; rintro er w10 ⟨⟨u10, rfl⟩, ⟨sv10, rv10⟩, hT10⟩; rw [hjn.out, hjA.out] at rv10; clear rv; have rv := rv10; clear rv10; obtain ⟨a10, n10, k10, rfl⟩ := rv.o.slice; have hz10 := hT10.size; replace V4 := hT10.vblk V4 (by omega) (by decide); replace hB := hB.trans (hT10.below (Nat.le_refl _) (by omega)); clear f0 f1; obtain ⟨f0, f1⟩ := cells2 rv.v) | (go_at_call 94; refine (ringOf_any J _ _ rv.o.rd hju.out hjl).mono ?_; rintro er w8 ⟨vN8, vU8, rfl, oR, hB8⟩; have hz8 := hB8.size; replace V4 := vblk_grow V4 hB8; replace oR := oR.wide (lo' := w.heap.size) (by omega) (Nat.le_refl _); replace hB := hB.trans (hB8.mono (by omega)); obtain ⟨aN, nN, kN, rfl⟩ := oR.n.slice; obtain ⟨aU, nU, kU, rfl⟩ := oR.u.slice) | (clear m9; refine wpList_store_v rfl 27 _ _ rfl b4 [.slice aN nN kN, .slice aU nU kU, .int .i64 J.A] rfl rfl sizeRg V4 rfl (by simp [Value.oneCell']) ?_; intro w9 hO9 V9; have o9 := oR.only hO9 V4 (by decide) (by decide); replace hB := hB.trans (hO9.2.2 _ (by omega))) | (fail))
          exact row_ct rfl rfl rfl V9 Try.underlying27 sizeRg rfl ⟨_, _, rfl, o9.top, hB⟩
      · have e3 := hm2 (by omega)
        rw [e3, if_neg Bool.false_ne_true]
        have hpb2 : (p != -1) = true := by simpa using hpe
        clear hmay hm1 hm2 hm3 e3 hpe
        have m1 : Hid True := trivial
        have m2 : Hid True := trivial
        have m3 : Hid True := trivial
        have m4 : Hid True := trivial
        have m5 : Hid True := trivial
        have m6 : Hid True := trivial
        have m7 : Hid True := trivial
        have m8 : Hid True := trivial
        have m9 : Hid True := trivial
        go_enter Try.func101, Try.ntmps101
        go_wp2_with (first | (clear m1; refine wpList_box_v rfl 27 _ rfl [.slice a r.N.length cap, .slice c r.U.length dc, .int .i64 r.A] rfl ?_; intro b2 w1 hb2 hw2 hB1 V2; have hz1 := hB1.size) | (clear m2; refine wpList_alloc_v rfl 27 rfl _ zeroRg ?_; intro b4 w2 hb4 hw4 hB2 V4; have hz2 := hB2.size; replace V2 := vblk_grow V2 hB2; have hB := hB1.trans (hB2.mono hz1); obtain ⟨c0, c1, c2⟩ := cells3 V2) | (clear m3; go_at_call 91; refine (roundOf_any r _ _ _ (R.out.grow hB)).mono ?_; rintro er w3 ⟨a3, n3, k3, A3, rfl, md⟩; rw [HK.out] at md ⊢; have hB3 := md.low; have hz3 := hB3.size; replace V4 := vblk_grow V4 hB3; replace hB := hB.trans (hB3.mono (by omega)); obtain ⟨o, hA3⟩ := md.own rfl; subst hA3; replace o := o.wide (lo' := w.heap.size) (by omega) (Nat.le_refl _)) | (clear m4; refine wpList_alloc_v rfl 121 rfl _ zeroRd ?_; intro b6 w5 hb6 hw6 hB5 V6; have hz5 := hB5.size; replace V4 := vblk_grow V4 hB5; replace o := o.grow hB5; replace hB := hB.trans (hB5.mono (by omega))) | (clear m5; refine wpList_store_v rfl 121 _ _ rfl b6 [.slice a3 n3 k3, .int .i64 r.A] rfl rfl sizeRd V6 rfl (by simp [Value.oneCell']) ?_; intro w6 hO6 X6; have hz6 := Nat.le_of_eq hO6.1.symm; have hy6 := Nat.le_of_eq hO6.1; replace V4 := vblk_only V4 hO6 (by omega); replace hB := hB.trans (hO6.2.2 _ (by omega)); have rv : RV w6 w.heap.size _ b6 (.slice a3 n3 k3) (r.N.zip r.U) r.A := ⟨o.only hO6 V6 (by decide), X6⟩; clear o V6 X6; obtain ⟨f0, f1⟩ := cells2 rv.v) | (clear m6; go_at_call 50; refine (implNameOk_any _ hs _).mono ?_; rintro er wq ⟨rfl, hq⟩; subst wq; rw [hnm]) | (clear m7; go_at_call 103; refine (placeOf_any _ _ _ _ b6 _ _ _ rv).mono ?_; rintro er w7 ⟨rfl, hB7⟩; rw [hp.out]; have hz7 := hB7.size; replace V4 := vblk_grow V4 hB7; replace rv := rv.grow hB7; replace hB := hB.trans (hB7.mono (by omega)); clear f0 f1; obtain ⟨f0, f1⟩ := cells2 rv.v) | (go_at_call 94; refine (ringOf_any r _ _ rv.o.rd hus.out (by omega)).mono ?_; rintro er w8 ⟨vN8, vU8, rfl, oR, hB8⟩; have hz8 := hB8.size; replace V4 := vblk_grow V4 hB8; replace oR := oR.wide (lo' := w.heap.size) (by omega) (Nat.le_refl _); replace hB := hB.trans (hB8.mono (by omega)); obtain ⟨aN, nN, kN, rfl⟩ := oR.n.slice; obtain ⟨aU, nU, kU, rfl⟩ := oR.u.slice) | (clear m9; refine wpList_store_v rfl 27 _ _ rfl b4 [.slice aN nN kN, .slice aU nU kU, .int .i64 r.A] rfl rfl sizeRg V4 rfl (by simp [Value.oneCell']) ?_; intro w9 hO9 V9; have o9 := oR.only hO9 V4 (by decide) (by decide); replace hB := hB.trans (hO9.2.2 _ (by omega))) | (fail))
        exact row_ct rfl rfl rfl V9 Try.underlying27 sizeRg rfl ⟨_, _, rfl, o9.top, hB⟩
  · have e1 : jnR r s = Rg.zero := if_neg hok
    have e2 : jnB r s = false := by unfold jnB; rw [ringB_not hok]; rfl
    rw [e1, e2]
    have HK : Hid (ringB r = false) := ringB_not hok
    clear hok e1 e2
    have m1 : Hid True := trivial
    have m2 : Hid True := trivial
    have m3 : Hid True := trivial
    have m4 : Hid True := trivial
    have m5 : Hid True := trivial
    have m6 : Hid True := trivial
    have m7 : Hid True := trivial
    have m8 : Hid True := trivial
    have m9 : Hid True := trivial
    go_enter Try.func101, Try.ntmps101
    go_wp2_with (first | (clear m1; refine wpList_box_v rfl 27 _ rfl [.slice a r.N.length cap, .slice c r.U.length dc, .int .i64 r.A] rfl ?_; intro b2 w1 hb2 hw2 hB1 V2; have hz1 := hB1.size) | (clear m2; refine wpList_alloc_v rfl 27 rfl _ zeroRg ?_; intro b4 w2 hb4 hw4 hB2 V4; have hz2 := hB2.size; replace V2 := vblk_grow V2 hB2; have hB := hB1.trans (hB2.mono hz1); obtain ⟨c0, c1, c2⟩ := cells3 V2) | (clear m3; go_at_call 91; refine (roundOf_any r _ _ _ (R.out.grow hB)).mono ?_; rintro er w3 ⟨a3, n3, k3, A3, rfl, md⟩; rw [HK.out] at md ⊢; have hB3 := md.low; have hz3 := hB3.size; replace V4 := vblk_grow V4 hB3; replace hB := hB.trans (hB3.mono (by omega))) | (clear m4; refine wpList_alloc_v rfl 121 rfl _ zeroRd ?_; intro b6 w5 hb6 hw6 hB5 V6; have hz5 := hB5.size; replace V4 := vblk_grow V4 hB5; replace hB := hB.trans (hB5.mono (by omega))) | (clear m5; refine wpList_store_v rfl 121 _ _ rfl b6 [.slice a3 n3 k3, .int .i64 A3] rfl rfl sizeRd V6 rfl (by simp [Value.oneCell']) ?_; intro w6 hO6 X6; have hz6 := Nat.le_of_eq hO6.1.symm; have hy6 := Nat.le_of_eq hO6.1; replace V4 := vblk_only V4 hO6 (by omega); replace hB := hB.trans (hO6.2.2 _ (by omega))) | (clear m9; refine wpList_store_v rfl 27 _ _ rfl b4 [.slice none 0 0, .slice none 0 0, .int .i64 0] rfl rfl sizeRg V4 rfl (by simp [Value.oneCell']) ?_; intro w9 hO9 V9; replace hB := hB.trans (hO9.2.2 _ (by omega))) | (fail))
    exact row_ct rfl rfl rfl V9 Try.underlying27 sizeRg rfl ⟨_, _, rfl, ownR_zero _ _ _, hB⟩

set_option maxRecDepth 100000 in
set_option maxHeartbeats 2000000 in
theorem implUses_all (r : Rg) (s : ByteArray) (vN vU : Value) (w : World) (h : RdR w vN vU r) :
    Calls Try.prog 100 #[.agg #[vN, vU, .int .i64 r.A], .string s] w fun e w' => ∃ vN' vU', e = .returned (.agg #[vN', vU', .int .i64 (usR r s).A]) ∧ OwnR w' w.heap.size w'.heap.size vN' vU' (usR r s) ∧ Below w.heap.size w w' := by
  obtain ⟨a, cap, rfl⟩ := h.n.form
  obtain ⟨c, dc, rfl⟩ := h.u.form
  have R : Hid (RdR w (.slice a r.N.length cap) (.slice c r.U.length dc) r) := h
  clear h
  by_cases hok : ringB r = true
  · have e1 : usR r s = used r s := if_pos hok
    rw [e1]
    clear e1
    have hy1 := @used_yes r s
    have hy2 := @used_no r s
    have HK : Hid (ringB r = true) := hok
    have OK : Hid (ROk r) := ringB_iff.1 hok
    have hle := OK.out.le
    have hus : Hid (r.U.length = r.N.length) := OK.out.us
    have hzl : Hid ((r.N.zip r.U).length = r.N.length) := zip_len OK.out.us
    clear hok
    obtain ⟨p, hp0⟩ := hid_ex (posS s r.N)
    have hp : Hid (posS s ((r.N.zip r.U).map (·.1)) = p) := by unfold Hid; rw [zip_fst OK.out.us]; exact hp0.out
    have hpb := posS_bd s r.N
    rw [hp0.out] at hy1 hy2 hpb
    clear hp0
    by_cases hpe : p = -1
    · rw [hy2 (by omega)]
      have hpb2 : (p != -1) = false := by simpa using hpe
      clear hy1 hy2 hpe
      have m1 : Hid True := trivial
      have m2 : Hid True := trivial
      have m3 : Hid True := trivial
      have m4 : Hid True := trivial
      have m5 : Hid True := trivial
      have m6 : Hid True := trivial
      have m7 : Hid True := trivial
      have m8 : Hid True := trivial
      have m9 : Hid True := trivial
      go_enter Try.func100, Try.ntmps100
      go_wp2_with (first | (clear m1; refine wpList_box_v rfl 27 _ rfl [.slice a r.N.length cap, .slice c r.U.length dc, .int .i64 r.A] rfl ?_; intro b2 w1 hb2 hw2 hB1 V2; have hz1 := hB1.size) | (clear m2; refine wpList_alloc_v rfl 27 rfl _ zeroRg ?_; intro b4 w2 hb4 hw4 hB2 V4; have hz2 := hB2.size; replace V2 := vblk_grow V2 hB2; have hB := hB1.trans (hB2.mono hz1); obtain ⟨c0, c1, c2⟩ := cells3 V2) | (clear m3; go_at_call 91; refine (roundOf_any r _ _ _ (R.out.grow hB)).mono ?_; rintro er w3 ⟨a3, n3, k3, A3, rfl, md⟩; rw [HK.out] at md ⊢; have hB3 := md.low; have hz3 := hB3.size; replace V4 := vblk_grow V4 hB3; replace hB := hB.trans (hB3.mono (by omega)); obtain ⟨o, hA3⟩ := md.own rfl; subst hA3; replace o := o.wide (lo' := w.heap.size) (by omega) (Nat.le_refl _)) | (clear m4; refine wpList_alloc_v rfl 121 rfl _ zeroRd ?_; intro b6 w5 hb6 hw6 hB5 V6; have hz5 := hB5.size; replace V4 := vblk_grow V4 hB5; replace o := o.grow hB5; replace hB := hB.trans (hB5.mono (by omega))) | (clear m5; refine wpList_store_v rfl 121 _ _ rfl b6 [.slice a3 n3 k3, .int .i64 r.A] rfl rfl sizeRd V6 rfl (by simp [Value.oneCell']) ?_; intro w6 hO6 X6; have hz6 := Nat.le_of_eq hO6.1.symm; have hy6 := Nat.le_of_eq hO6.1; replace V4 := vblk_only V4 hO6 (by omega); replace hB := hB.trans (hO6.2.2 _ (by omega)); have rv : RV w6 w.heap.size _ b6 (.slice a3 n3 k3) (r.N.zip r.U) r.A := ⟨o.only hO6 V6 (by decide), X6⟩; clear o V6 X6; obtain ⟨f0, f1⟩ := cells2 rv.v) | (clear m7; go_at_call 103; refine (placeOf_any _ _ _ _ b6 _ _ _ rv).mono ?_; rintro er w7 ⟨rfl, hB7⟩; rw [hp.out]; have hz7 := hB7.size; replace V4 := vblk_grow V4 hB7; replace rv := rv.grow hB7; replace hB := hB.trans (hB7.mono (by omega)); clear f0 f1; obtain ⟨f0, f1⟩ := cells2 rv.v) | (go_at_call 94; refine (ringOf_any r _ _ rv.o.rd hus.out (by omega)).mono ?_; rintro er w8 ⟨vN8, vU8, rfl, oR, hB8⟩; have hz8 := hB8.size; replace V4 := vblk_grow V4 hB8; replace oR := oR.wide (lo' := w.heap.size) (by omega) (Nat.le_refl _); replace hB := hB.trans (hB8.mono (by omega)); obtain ⟨aN, nN, kN, rfl⟩ := oR.n.slice; obtain ⟨aU, nU, kU, rfl⟩ := oR.u.slice) | (clear m9; refine wpList_store_v rfl 27 _ _ rfl b4 [.slice aN nN kN, .slice aU nU kU, .int .i64 r.A] rfl rfl sizeRg V4 rfl (by simp [Value.oneCell']) ?_; intro w9 hO9 V9; have o9 := oR.only hO9 V4 (by decide) (by decide); replace hB := hB.trans (hO9.2.2 _ (by omega))) | (fail))
      exact row_retv rfl rfl V9 Try.underlying27 sizeRg rfl ⟨_, _, rfl, o9.top, hB⟩
    · have hpb2 : (p != -1) = true := by simpa using hpe
      rw [hy1 (by omega)]
      obtain ⟨i, rfl⟩ : ∃ i : Nat, p = i := ⟨p.toNat, by omega⟩
      rw [Int.toNat_natCast]
      have hil : i < (r.N.zip r.U).length := by have := hzl.out; omega
      have hjn : Hid ((r.N.zip r.U).set i ((r.N.zip r.U)[i].1, true) = r.N.zip (r.U.set i true)) := zip_set _ _ _ hil _
      have hju : Hid ((r.U.set i true).length = r.N.length) := by unfold Hid; rw [List.length_set]; exact OK.out.us
      clear hy1 hy2 hpe
      have m1 : Hid True := trivial
      have m2 : Hid True := trivial
      have m3 : Hid True := trivial
      have m4 : Hid True := trivial
      have m5 : Hid True := trivial
      have m6 : Hid True := trivial
      have m7 : Hid True := trivial
      have m8 : Hid True := trivial
      have m9 : Hid True := trivial
      go_enter Try.func100, Try.ntmps100
      go_wp2_with (first | (clear m1; refine wpList_box_v rfl 27 _ rfl [.slice a r.N.length cap, .slice c r.U.length dc, .int .i64 r.A] rfl ?_; intro b2 w1 hb2 hw2 hB1 V2; have hz1 := hB1.size) | (clear m2; refine wpList_alloc_v rfl 27 rfl _ zeroRg ?_; intro b4 w2 hb4 hw4 hB2 V4; have hz2 := hB2.size; replace V2 := vblk_grow V2 hB2; have hB := hB1.trans (hB2.mono hz1); obtain ⟨c0, c1, c2⟩ := cells3 V2) | (clear m3; go_at_call 91; refine (roundOf_any r _ _ _ (R.out.grow hB)).mono ?_; rintro er w3 ⟨a3, n3, k3, A3, rfl, md⟩; rw [HK.out] at md ⊢; have hB3 := md.low; have hz3 := hB3.size; replace V4 := vblk_grow V4 hB3; replace hB := hB.trans (hB3.mono (by omega)); obtain ⟨o, hA3⟩ := md.own rfl; subst hA3; replace o := o.wide (lo' := w.heap.size) (by omega) (Nat.le_refl _)) | (clear m4; refine wpList_alloc_v rfl 121 rfl _ zeroRd ?_; intro b6 w5 hb6 hw6 hB5 V6; have hz5 := hB5.size; replace V4 := vblk_grow V4 hB5; replace o := o.grow hB5; replace hB := hB.trans (hB5.mono (by omega))) | (clear m5; refine wpList_store_v rfl 121 _ _ rfl b6 [.slice a3 n3 k3, .int .i64 r.A] rfl rfl sizeRd V6 rfl (by simp [Value.oneCell']) ?_; intro w6 hO6 X6; have hz6 := Nat.le_of_eq hO6.1.symm; have hy6 := Nat.le_of_eq hO6.1; replace V4 := vblk_only V4 hO6 (by omega); replace hB := hB.trans (hO6.2.2 _ (by omega)); have rv : RV w6 w.heap.size _ b6 (.slice a3 n3 k3) (r.N.zip r.U) r.A := ⟨o.only hO6 V6 (by decide), X6⟩; clear o V6 X6; obtain ⟨f0, f1⟩ := cells2 rv.v) | (clear m7; go_at_call 103; refine (placeOf_any _ _ _ _ b6 _ _ _ rv).mono ?_; rintro er w7 ⟨rfl, hB7⟩; rw [hp.out]; have hz7 := hB7.size; replace V4 := vblk_grow V4 hB7; replace rv := rv.grow hB7; replace hB := hB.trans (hB7.mono (by omega)); clear f0 f1; obtain ⟨f0, f1⟩ := cells2 rv.v) | (go_at_call 127; refine (use_any i _ _ _ b6 _ _ _ rv hil).mono ?_; rintro er w10 ⟨⟨u10, rfl⟩, rv10, hT10⟩; rw [hjn.out] at rv10; clear rv; have rv := rv10; clear rv10; have hz10 := hT10.size; replace V4 := hT10.vblk V4 (by omega) (by decide); replace hB := hB.trans (hT10.below (Nat.le_refl _) (by omega)); clear f0 f1; obtain ⟨f0, f1⟩ := cells2 rv.v) | (go_at_call 94; refine (ringOf_any ⟨r.N, r.U.set i true, r.A⟩ _ _ rv.o.rd hju.out (show r.N.length ≤ 1000000 by omega)).mono ?_; rintro er w8 ⟨vN8, vU8, rfl, oR, hB8⟩; have hz8 := hB8.size; replace V4 := vblk_grow V4 hB8; replace oR := oR.wide (lo' := w.heap.size) (by omega) (Nat.le_refl _); replace hB := hB.trans (hB8.mono (by omega)); obtain ⟨aN, nN, kN, rfl⟩ := oR.n.slice; obtain ⟨aU, nU, kU, rfl⟩ := oR.u.slice) | (clear m9; refine wpList_store_v rfl 27 _ _ rfl b4 [.slice aN nN kN, .slice aU nU kU, .int .i64 r.A] rfl rfl sizeRg V4 rfl (by simp [Value.oneCell']) ?_; intro w9 hO9 V9; have o9 := oR.only hO9 V4 (by decide) (by decide); replace hB := hB.trans (hO9.2.2 _ (by omega))) | (fail))
      exact row_retv rfl rfl V9 Try.underlying27 sizeRg rfl ⟨_, _, rfl, o9.top, hB⟩
  · have e1 : usR r s = Rg.zero := if_neg hok
    rw [e1]
    have HK : Hid (ringB r = false) := ringB_not hok
    clear hok e1
    have m1 : Hid True := trivial
    have m2 : Hid True := trivial
    have m3 : Hid True := trivial
    have m4 : Hid True := trivial
    have m5 : Hid True := trivial
    have m6 : Hid True := trivial
    have m7 : Hid True := trivial
    have m8 : Hid True := trivial
    have m9 : Hid True := trivial
    go_enter Try.func100, Try.ntmps100
    go_wp2_with (first | (clear m1; refine wpList_box_v rfl 27 _ rfl [.slice a r.N.length cap, .slice c r.U.length dc, .int .i64 r.A] rfl ?_; intro b2 w1 hb2 hw2 hB1 V2; have hz1 := hB1.size) | (clear m2; refine wpList_alloc_v rfl 27 rfl _ zeroRg ?_; intro b4 w2 hb4 hw4 hB2 V4; have hz2 := hB2.size; replace V2 := vblk_grow V2 hB2; have hB := hB1.trans (hB2.mono hz1); obtain ⟨c0, c1, c2⟩ := cells3 V2) | (clear m3; go_at_call 91; refine (roundOf_any r _ _ _ (R.out.grow hB)).mono ?_; rintro er w3 ⟨a3, n3, k3, A3, rfl, md⟩; rw [HK.out] at md ⊢; have hB3 := md.low; have hz3 := hB3.size; replace V4 := vblk_grow V4 hB3; replace hB := hB.trans (hB3.mono (by omega))) | (clear m4; refine wpList_alloc_v rfl 121 rfl _ zeroRd ?_; intro b6 w5 hb6 hw6 hB5 V6; have hz5 := hB5.size; replace V4 := vblk_grow V4 hB5; replace hB := hB.trans (hB5.mono (by omega))) | (clear m5; refine wpList_store_v rfl 121 _ _ rfl b6 [.slice a3 n3 k3, .int .i64 A3] rfl rfl sizeRd V6 rfl (by simp [Value.oneCell']) ?_; intro w6 hO6 X6; have hz6 := Nat.le_of_eq hO6.1.symm; have hy6 := Nat.le_of_eq hO6.1; replace V4 := vblk_only V4 hO6 (by omega); replace hB := hB.trans (hO6.2.2 _ (by omega))) | (clear m9; refine wpList_store_v rfl 27 _ _ rfl b4 [.slice none 0 0, .slice none 0 0, .int .i64 0] rfl rfl sizeRg V4 rfl (by simp [Value.oneCell']) ?_; intro w9 hO9 V9; replace hB := hB.trans (hO9.2.2 _ (by omega))) | (fail))
    exact row_retv rfl rfl V9 Try.underlying27 sizeRg rfl ⟨_, _, rfl, ownR_zero _ _ _, hB⟩

set_option maxRecDepth 100000 in
set_option maxHeartbeats 2000000 in
theorem implLeaves_all (r : Rg) (s : ByteArray) (vN vU : Value) (w : World) (h : RdR w vN vU r) :
    Calls Try.prog 54 #[.agg #[vN, vU, .int .i64 r.A], .string s] w fun e w' => ∃ vN' vU', e = .returned (.tuple #[.agg #[vN', vU', .int .i64 (lvR r s).A], .bool (lvB r s)]) ∧ OwnR w' w.heap.size w'.heap.size vN' vU' (lvR r s) ∧ Below w.heap.size w w' := by
  obtain ⟨a, cap, rfl⟩ := h.n.form
  obtain ⟨c, dc, rfl⟩ := h.u.form
  have R : Hid (RdR w (.slice a r.N.length cap) (.slice c r.U.length dc) r) := h
  clear h
  by_cases hok : ringB r = true
  · have e1 : lvR r s = if 0 ≤ posS s r.N then left r (posS s r.N).toNat else r := if_pos hok
    have e2 : lvB r s = decide (0 ≤ posS s r.N) := by unfold lvB; rw [hok]; rfl
    rw [e1, e2]
    clear e1 e2
    have HK : Hid (ringB r = true) := hok
    have OK : Hid (ROk r) := ringB_iff.1 hok
    have hle := OK.out.le
    have hus : Hid (r.U.length = r.N.length) := OK.out.us
    have hzl : Hid ((r.N.zip r.U).length = r.N.length) := zip_len OK.out.us
    clear hok
    obtain ⟨p, hp0⟩ := hid_ex (posS s r.N)
    have hp : Hid (posS s ((r.N.zip r.U).map (·.1)) = p) := by unfold Hid; rw [zip_fst OK.out.us]; exact hp0.out
    have hpb := posS_bd s r.N
    rw [hp0.out] at hpb ⊢
    clear hp0
    by_cases hpe : p = -1
    · rw [if_neg (by omega), decide_eq_false (by omega)]
      have hpb2 : (p == -1) = true := by simpa using hpe
      clear hpe
      have m1 : Hid True := trivial
      have m2 : Hid True := trivial
      have m3 : Hid True := trivial
      have m4 : Hid True := trivial
      have m5 : Hid True := trivial
      have m6 : Hid True := trivial
      have m7 : Hid True := trivial
      have m8 : Hid True := trivial
      have m9 : Hid True := trivial
      go_enter Try.func54, Try.ntmps54
      go_wp2_with (first | (clear m1; refine wpList_box_v rfl 27 _ rfl [.slice a r.N.length cap, .slice c r.U.length dc, .int .i64 r.A] rfl ?_; intro b2 w1 hb2 hw2 hB1 V2; have hz1 := hB1.size) | (clear m2; refine wpList_alloc_v rfl 27 rfl _ zeroRg ?_; intro b4 w2 hb4 hw4 hB2 V4; have hz2 := hB2.size; replace V2 := vblk_grow V2 hB2; have hB := hB1.trans (hB2.mono hz1); obtain ⟨c0, c1, c2⟩ := cells3 V2) | (clear m3; go_at_call 91; refine (roundOf_any r _ _ _ (R.out.grow hB)).mono ?_; rintro er w3 ⟨a3, n3, k3, A3, rfl, md⟩; rw [HK.out] at md ⊢; have hB3 := md.low; have hz3 := hB3.size; replace V4 := vblk_grow V4 hB3; replace hB := hB.trans (hB3.mono (by omega)); obtain ⟨o, hA3⟩ := md.own rfl; subst hA3; replace o := o.wide (lo' := w.heap.size) (by omega) (Nat.le_refl _)) | (clear m4; refine wpList_alloc_v rfl 121 rfl _ zeroRd ?_; intro b6 w5 hb6 hw6 hB5 V6; have hz5 := hB5.size; replace V4 := vblk_grow V4 hB5; replace o := o.grow hB5; replace hB := hB.trans (hB5.mono (by omega))) | (clear m5; refine wpList_store_v rfl 121 _ _ rfl b6 [.slice a3 n3 k3, .int .i64 r.A] rfl rfl sizeRd V6 rfl (by simp [Value.oneCell']) ?_; intro w6 hO6 X6; have hz6 := Nat.le_of_eq hO6.1.symm; have hy6 := Nat.le_of_eq hO6.1; replace V4 := vblk_only V4 hO6 (by omega); replace hB := hB.trans (hO6.2.2 _ (by omega)); have rv : RV w6 w.heap.size _ b6 (.slice a3 n3 k3) (r.N.zip r.U) r.A := ⟨o.only hO6 V6 (by decide), X6⟩; clear o V6 X6; obtain ⟨f0, f1⟩ := cells2 rv.v) | (clear m7; go_at_call 103; refine (placeOf_any _ _ _ _ b6 _ _ _ rv).mono ?_; rintro er w7 ⟨rfl, hB7⟩; rw [hp.out]; have hz7 := hB7.size; replace V4 := vblk_grow V4 hB7; replace rv := rv.grow hB7; replace hB := hB.trans (hB7.mono (by omega)); clear f0 f1; obtain ⟨f0, f1⟩ := cells2 rv.v) | (go_at_call 94; refine (ringOf_any r _ _ rv.o.rd hus.out (by omega)).mono ?_; rintro er w8 ⟨vN8, vU8, rfl, oR, hB8⟩; have hz8 := hB8.size; replace V4 := vblk_grow V4 hB8; replace oR := oR.wide (lo' := w.heap.size) (by omega) (Nat.le_refl _); replace hB := hB.trans (hB8.mono (by omega)); obtain ⟨aN, nN, kN, rfl⟩ := oR.n.slice; obtain ⟨aU, nU, kU, rfl⟩ := oR.u.slice) | (clear m9; refine wpList_store_v rfl 27 _ _ rfl b4 [.slice aN nN kN, .slice aU nU kU, .int .i64 r.A] rfl rfl sizeRg V4 rfl (by simp [Value.oneCell']) ?_; intro w9 hO9 V9; have o9 := oR.only hO9 V4 (by decide) (by decide); replace hB := hB.trans (hO9.2.2 _ (by omega))) | (fail))
      exact row_ct rfl rfl rfl V9 Try.underlying27 sizeRg rfl ⟨_, _, rfl, o9.top, hB⟩
    · have hpb2 : (p == -1) = false := by simpa using hpe
      rw [if_pos (by omega), decide_eq_true (by omega)]
      obtain ⟨i, rfl⟩ : ∃ i : Nat, p = i := ⟨p.toNat, by omega⟩
      rw [Int.toNat_natCast]
      have hil : i < (r.N.zip r.U).length := by have := hzl.out; omega
      have hjn : Hid ((r.N.zip r.U).take i ++ (r.N.zip r.U).drop (i + 1) = (left r i).N.zip (left r i).U) := zip_cut OK.out.us i
      have hju : Hid ((left r i).U.length = (left r i).N.length) := left_us OK.out.us i
      have hjl : (left r i).N.length ≤ 1000000 := by have := (left_len r i).1; omega
      have hjA : Hid ((if handA r.A i < ((r.N.zip r.U).length : Int) - 1 then handA r.A i else 0) = (left r i).A) := by unfold Hid; rw [hzl.out]; rfl
      have hA0 : Hid (0 ≤ r.A) := OK.out.a0
      have hA1 : Hid (r.A < (r.N.zip r.U).length) := by have := OK.out.a1; unfold Hid; rw [hzl.out]; omega
      obtain ⟨J, hJ⟩ := hid_ex (left r i)
      rw [hJ.out] at hjn hju hjl hjA ⊢
      clear hpe
      have m1 : Hid True := trivial
      have m2 : Hid True := trivial
      have m3 : Hid True := trivial
      have m4 : Hid True := trivial
      have m5 : Hid True := trivial
      have m6 : Hid True := trivial
      have m7 : Hid True := trivial
      have m8 : Hid True := trivial
      have m9 : Hid True := trivial
      go_enter Try.func54, Try.ntmps54
      go_wp2_with (first | (clear m1; refine wpList_box_v rfl 27 _ rfl [.slice a r.N.length cap, .slice c r.U.length dc, .int .i64 r.A] rfl ?_; intro b2 w1 hb2 hw2 hB1 V2; have hz1 := hB1.size) | (clear m2; refine wpList_alloc_v rfl 27 rfl _ zeroRg ?_; intro b4 w2 hb4 hw4 hB2 V4; have hz2 := hB2.size; replace V2 := vblk_grow V2 hB2; have hB := hB1.trans (hB2.mono hz1); obtain ⟨c0, c1, c2⟩ := cells3 V2) | (clear m3; go_at_call 91; refine (roundOf_any r _ _ _ (R.out.grow hB)).mono ?_; rintro er w3 ⟨a3, n3, k3, A3, rfl, md⟩; rw [HK.out] at md ⊢; have hB3 := md.low; have hz3 := hB3.size; replace V4 := vblk_grow V4 hB3; replace hB := hB.trans (hB3.mono (by omega)); obtain ⟨o, hA3⟩ := md.own rfl; subst hA3; replace o := o.wide (lo' := w.heap.size) (by omega) (Nat.le_refl _)) | (clear m4; refine wpList_alloc_v rfl 121 rfl _ zeroRd ?_; intro b6 w5 hb6 hw6 hB5 V6; have hz5 := hB5.size; replace V4 := vblk_grow V4 hB5; replace o := o.grow hB5; replace hB := hB.trans (hB5.mono (by omega))) | (clear m5; refine wpList_store_v rfl 121 _ _ rfl b6 [.slice a3 n3 k3, .int .i64 r.A] rfl rfl sizeRd V6 rfl (by simp [Value.oneCell']) ?_; intro w6 hO6 X6; have hz6 := Nat.le_of_eq hO6.1.symm; have hy6 := Nat.le_of_eq hO6.1; replace V4 := vblk_only V4 hO6 (by omega); replace hB := hB.trans (hO6.2.2 _ (by omega)); have rv : RV w6 w.heap.size _ b6 (.slice a3 n3 k3) (r.N.zip r.U) r.A := ⟨o.only hO6 V6 (by decide), X6⟩; clear o V6 X6; obtain ⟨f0, f1⟩ := cells2 rv.v) | (clear m7; go_at_call 103; refine (placeOf_any _ _ _ _ b6 _ _ _ rv).mono ?_; rintro er w7 ⟨rfl, hB7⟩; rw [hp.out]; have hz7 := hB7.size; replace V4 := vblk_grow V4 hB7; replace rv := rv.grow hB7; replace hB := hB.trans (hB7.mono (by omega)); clear f0 f1; obtain ⟨f0, f1⟩ := cells2 rv.v) | (go_at_call 104; refine (leave_any i _ _ _ b6 _ _ _ rv hil (by have := hzl.out; omega) hA0.out hA1.out).mono ?_; rintro er w10 ⟨⟨u10, rfl⟩, ⟨sv10, rv10⟩, hT10⟩; rw [hjn.out, hjA.out] at rv10; clear rv; have rv := rv10; clear rv10; obtain ⟨a10, n10, k10, rfl⟩ := rv.o.slice; have hz10 := hT10.size; replace V4 := hT10.vblk V4 (by omega) (by decide); replace hB := hB.trans (hT10.below (Nat.le_refl _) (by omega)); clear f0 f1; obtain ⟨f0, f1⟩ := cells2 rv.v) | (go_at_call 94; refine (ringOf_any J _ _ rv.o.rd hju.out hjl).mono ?_; rintro er w8 ⟨vN8, vU8, rfl, oR, hB8⟩; have hz8 := hB8.size; replace V4 := vblk_grow V4 hB8; replace oR := oR.wide (lo' := w.heap.size) (by omega) (Nat.le_refl _); replace hB := hB.trans (hB8.mono (by omega)); obtain ⟨aN, nN, kN, rfl⟩ := oR.n.slice; obtain ⟨aU, nU, kU, rfl⟩ := oR.u.slice) | (clear m9; refine wpList_store_v rfl 27 _ _ rfl b4 [.slice aN nN kN, .slice aU nU kU, .int .i64 J.A] rfl rfl sizeRg V4 rfl (by simp [Value.oneCell']) ?_; intro w9 hO9 V9; have o9 := oR.only hO9 V4 (by decide) (by decide); replace hB := hB.trans (hO9.2.2 _ (by omega))) | (fail))
      exact row_ct rfl rfl rfl V9 Try.underlying27 sizeRg rfl ⟨_, _, rfl, o9.top, hB⟩
  · have e1 : lvR r s = Rg.zero := if_neg hok
    have e2 : lvB r s = false := by unfold lvB; rw [ringB_not hok]; rfl
    rw [e1, e2]
    have HK : Hid (ringB r = false) := ringB_not hok
    clear hok e1 e2
    have m1 : Hid True := trivial
    have m2 : Hid True := trivial
    have m3 : Hid True := trivial
    have m4 : Hid True := trivial
    have m5 : Hid True := trivial
    have m6 : Hid True := trivial
    have m7 : Hid True := trivial
    have m8 : Hid True := trivial
    have m9 : Hid True := trivial
    go_enter Try.func54, Try.ntmps54
    go_wp2_with (first | (clear m1; refine wpList_box_v rfl 27 _ rfl [.slice a r.N.length cap, .slice c r.U.length dc, .int .i64 r.A] rfl ?_; intro b2 w1 hb2 hw2 hB1 V2; have hz1 := hB1.size) | (clear m2; refine wpList_alloc_v rfl 27 rfl _ zeroRg ?_; intro b4 w2 hb4 hw4 hB2 V4; have hz2 := hB2.size; replace V2 := vblk_grow V2 hB2; have hB := hB1.trans (hB2.mono hz1); obtain ⟨c0, c1, c2⟩ := cells3 V2) | (clear m3; go_at_call 91; refine (roundOf_any r _ _ _ (R.out.grow hB)).mono ?_; rintro er w3 ⟨a3, n3, k3, A3, rfl, md⟩; rw [HK.out] at md ⊢; have hB3 := md.low; have hz3 := hB3.size; replace V4 := vblk_grow V4 hB3; replace hB := hB.trans (hB3.mono (by omega))) | (clear m4; refine wpList_alloc_v rfl 121 rfl _ zeroRd ?_; intro b6 w5 hb6 hw6 hB5 V6; have hz5 := hB5.size; replace V4 := vblk_grow V4 hB5; replace hB := hB.trans (hB5.mono (by omega))) | (clear m5; refine wpList_store_v rfl 121 _ _ rfl b6 [.slice a3 n3 k3, .int .i64 A3] rfl rfl sizeRd V6 rfl (by simp [Value.oneCell']) ?_; intro w6 hO6 X6; have hz6 := Nat.le_of_eq hO6.1.symm; have hy6 := Nat.le_of_eq hO6.1; replace V4 := vblk_only V4 hO6 (by omega); replace hB := hB.trans (hO6.2.2 _ (by omega))) | (clear m9; refine wpList_store_v rfl 27 _ _ rfl b4 [.slice none 0 0, .slice none 0 0, .int .i64 0] rfl rfl sizeRg V4 rfl (by simp [Value.oneCell']) ?_; intro w9 hO9 V9; replace hB := hB.trans (hO9.2.2 _ (by omega))) | (fail))
    exact row_ct rfl rfl rfl V9 Try.underlying27 sizeRg rfl ⟨_, _, rfl, ownR_zero _ _ _, hB⟩

end Go.Proofs.Ytmnjmghlkiljhaa.rg
/- How long the answers' rings are. -/
namespace Go.Proofs.Ytmnjmghlkiljhaa.rg
open Go.RowKit
set_option linter.unusedVariables false

def Small (r : Rg) : Prop := r.N.length ≤ 1048576 ∧ r.U.length ≤ 1048576
theorem zero_len : Small Rg.zero := ⟨by simp [Rg.zero], by simp [Rg.zero]⟩
theorem rok_len {r : Rg} (h : ROk r) : Small r := ⟨by have := h.le; omega, by have := h.le; have := h.us; omega⟩
theorem jnR_len (r : Rg) (s : ByteArray) : Small (jnR r s) := by
  unfold jnR
  split
  · next h =>
    have k := ringB_iff.1 h
    have h1 := k.le
    have h2 := k.us
    split
    · exact ⟨by unfold joined; simp; omega, by unfold joined; simp; omega⟩
    · exact rok_len k
  · exact zero_len
theorem usR_len (r : Rg) (s : ByteArray) : Small (usR r s) := by
  unfold usR
  split
  · next h =>
    have := ringB_iff.1 h
    unfold used
    split
    · exact ⟨(rok_len this).1, by rw [List.length_set]; exact (rok_len this).2⟩
    · exact rok_len this
  · exact zero_len
theorem lvR_len (r : Rg) (s : ByteArray) : Small (lvR r s) := by
  unfold lvR
  split
  · next h =>
    have := rok_len (ringB_iff.1 h)
    split
    · have hl := left_len r (posS s r.N).toNat
      exact ⟨Nat.le_trans hl.1 this.1, Nat.le_trans hl.2 this.2⟩
    · exact this
  · exact zero_len
theorem tuR_len (r : Rg) : Small (tuR r) := by
  unfold tuR
  split
  · next h =>
    have := rok_len (ringB_iff.1 h)
    split
    · exact this
    · exact ⟨this.1, by unfold turned; rw [turn_len]; exact this.2⟩
  · exact zero_len
end Go.Proofs.Ytmnjmghlkiljhaa.rg
/- A list of texts among the arguments. -/
namespace Go.Proofs.Ytmnjmghlkiljhaa.rg
open Go.ChangeShapes Go.WideShapes Go.ChangeAt Go.RowKit
open Go.Deep Go.Joins
open Go.Proofs.Ytmnjmghlkiljhaa.ce Go.Proofs.Ytmnjmghlkiljhaa.ro
set_option linter.unusedVariables false

set_option maxRecDepth 100000 in
theorem open_texts {H : Type} {enc : TypeId × Value → H} {W : World} {r : Reach} {b0 : Nat} {v : Value} {d : DataW H} {p : List MemPlace} (hw : Value.okWide Try.prog W r b0 24 v) (h : DataW.Trod enc Try.prog W 0 (fun _ => true) true 24 v d p) :
    ∃ L, Rd encS W v L ∧ ∀ s ∈ L, s.size ≤ 9223372036854775807 := by
  obtain ⟨a, len, cap, rfl⟩ := okWide_slice Try.underlying24 hw
  obtain ⟨m, hm⟩ := h
  exact rdS_of_trod (n := m) (by simpa [Value.cells] using hm)
end Go.Proofs.Ytmnjmghlkiljhaa.rg
