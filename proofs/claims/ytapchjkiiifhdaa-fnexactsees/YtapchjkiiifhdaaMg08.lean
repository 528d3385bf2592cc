/- Texts laid together: Ch1 Ch2 Rs1 Rs2 Ro12 Rs3. -/
import Derived.Test.YtapchjkiiifhdaaMg03
import Derived.Test.YtapchjkiiifhdaaMg07
import Derived.Test.YtapchjkiiifhdaaMg02
import Derived.Test.YtapchjkiiifhdaaMg05
import Derived.Lib.SmallJoins
import Derived.Deep.Slices
import Derived.Deep.RegionHeld3
import Derived.BigQuiet
import Derived.Deep.DeepCutAuto
import Derived.ShutString
import Derived.ChangeOld
/- Contracts: the program's choices in memory of their own: choiceOf, ChoiceOk, NewChoice; the model's NewChoice. -/
namespace Go.Proofs.Ytapchjkiiifhdaa.rg
open Go.ChangeShapes Go.WideShapes Go.ChangeAt Go.RowKit
open Go.Deep Go.Joins
open Go.Proofs.Ytapchjkiiifhdaa.ce Go.Proofs.Ytapchjkiiifhdaa.ro
set_option linter.unusedVariables false
set_option linter.unusedSimpArgs false

def cpC (c : Ch) : Ch := if chB c = true then c else Ch.zero
theorem ints_length (xs : List Int) : (sk.ints xs).length = xs.length := by simp [sk.ints]
theorem ints_one (xs : List Int) : ∀ v ∈ sk.ints xs, v.oneCell' = true := fun v hv => by
  simp only [sk.ints, List.mem_map] at hv
  obtain ⟨x, -, rfl⟩ := hv
  rfl
theorem szF {fl : List Int} (h : fl.length = 64) : (Try.prog.info? 134).map (·.size) = some (sk.ints fl).length := by rw [ints_length, h]; exact sk.size54
/-- what choiceOf tells -/
def PostC (c : Ch) (w : World) (e : Ending) (w' : World) : Prop := ∃ vN vU vQ vS, e = .returned (.tuple #[.agg #[.int .i64 (cpC c).K, vN, vU, .int .i64 (cpC c).R.A, vQ, vS, .int .i64 (cpC c).D], .bool (chB c)]) ∧ OwnC w' w.heap.size w'.heap.size vN vU vQ vS (cpC c) ∧ Below w.heap.size w w'
theorem postC_no {c : Ch} {w w' : World} (h : chB c = false) (hB : Below w.heap.size w w') : PostC c w (.returned (.tuple #[.agg #[.int .i64 0, .slice none 0 0, .slice none 0 0, .int .i64 0, .slice none 0 0, .slice none 0 0, .int .i64 0], .bool false])) w' := by
  have e : cpC c = Ch.zero := by unfold cpC; rw [h]; rfl
  refine ⟨.slice none 0 0, .slice none 0 0, .slice none 0 0, .slice none 0 0, ?_, ?_, hB⟩
  · rw [e, h]; rfl
  · rw [e]; exact ownC_zero _ _ _ (Nat.le_refl _) hB.size
theorem postC_yes {c : Ch} {w w' : World} {vN vU vQ vS : Value} (h : chB c = true) (o : OwnC w' w.heap.size w'.heap.size vN vU vQ vS c) (hB : Below w.heap.size w w') : PostC c w (.returned (.tuple #[.agg #[.int .i64 c.K, vN, vU, .int .i64 c.R.A, vQ, vS, .int .i64 c.D], .bool true])) w' := by
  have e : cpC c = c := by unfold cpC; rw [h]; rfl
  refine ⟨vN, vU, vQ, vS, ?_, ?_, hB⟩
  · rw [e, h]
  · rw [e]; exact o
section
variable {α : Type} {ops : Array Oper} {rest : List Oper} {o : Oper} {a : Act} {w : World} {Q : Exit → Act → World → Prop}
theorem cells_onec {v : Value} (h : v.oneCell' = true) : v.cells = #[v] := by cases v <;> first | rfl | cases h
theorem wpList_store_c1 (hgd : o.guard = none) (t : TypeId) (x y : Operand) (ho : o.op = .store t x y) (g j : Nat) (u : Value) (hx : a.eval x = .pointer (some ⟨g, j, none⟩)) (hy : a.eval y = u) (h1 : u.oneCell' = true) (hi : (Try.prog.info? t).map (·.size) = some 1)
    (old : Value) (hc : w.cell? ⟨g, j, none⟩ = some old) (hf : w.frozen? ⟨g, j, none⟩ = false) (h : wpList Try.prog ops Q rest (a.put o.dst undef) (w.setCell ⟨g, j, none⟩ u)) : wpList Try.prog ops Q (o :: rest) a w :=
  wpList_plain hgd fun _ hK => by
    unfold Oper.wp execOp
    obtain ⟨i, hi1, hi2⟩ := Option.map_eq_some_iff.1 hi
    simp [ho, hx, hy, Instr.storeAt, Instr.sureAddr, storeVar, sizeOf, typeInfo, hi1, hi2, cells_onec h1, storeCells, run_store _ _ _ _ _ h1, hc, hf, Addr.add]
    exact hK _ _ h
end
theorem wpList_store_cc {ops : Array Oper} {rest : List Oper} {o : Oper} {a : Act} {w : World} {Q : Exit → Act → World → Prop} (hgd : o.guard = none) (t : TypeId) (x y : Operand) (ho : o.op = .store t x y) (b j : Nat) (u : Value) (hx : a.eval x = .pointer (some ⟨b, j, none⟩)) (hy : a.eval y = u) (h1 : u.oneCell' = true) (hi : (Try.prog.info? t).map (·.size) = some 1)
    {T : TypeId} {vs : List Value} (V : VBlk w b T vs) (hj : j < vs.length) (h : ∀ w', Only b w w' → VBlk w' b T (vs.set j u) → wpList Try.prog ops Q rest (a.put o.dst undef) w') : wpList Try.prog ops Q (o :: rest) a w :=
  wpList_store_c1 hgd t x y ho b j u hx hy h1 hi _ (V.cell j hj) (V.frozen j) (h _ (only_set _ _ _ _) (V.set j u))
theorem szSl : (Try.prog.info? 22).map (·.size) = some 1 := by kernel_rfl
theorem ownS_grow {w w' : World} {lo hi : Nat} {v : Value} {R : List (List Int)} (h : sk.Own w lo hi v R) (hb : Below w.heap.size w w') : sk.Own w' lo hi v R := h.below hb (sk_hi h)
set_option maxRecDepth 100000 in
set_option maxHeartbeats 4000000 in
theorem implChoiceOf_any (c : Ch) (vN vU vQ vS : Value) (w : World) (h : RdC w vN vU vQ vS c) :
    Calls Try.prog 71 #[.agg #[.int .i64 c.K, vN, vU, .int .i64 c.R.A, vQ, vS, .int .i64 c.D]] w fun e w' => PostC c w e w' := by
  obtain ⟨K, ⟨N, U, A⟩, Q, S, D⟩ := c
  obtain ⟨aN, cN, rfl⟩ := h.r.n.form
  obtain ⟨aU, cU, rfl⟩ := h.r.u.form
  obtain ⟨aQ, cQ, rfl⟩ := h.q.form
  obtain ⟨aS, cS, rfl⟩ := sk_form h.s

  have R : Hid (RdC w (.slice aN N.length cN) (.slice aU U.length cU) (.slice aQ Q.length cQ) (.slice aS S.length cS) ⟨K, ⟨N, U, A⟩, Q, S, D⟩) := h
  clear h
  obtain ⟨zs, hzs⟩ := hid_ex (decide (sk.skOk S D))
  obtain ⟨zr, hzr⟩ := hid_ex (ringB ⟨N, U, A⟩)
  obtain ⟨zq, hzq⟩ := hid_ex (namesB Q)
  obtain ⟨zw, hzw0⟩ := hid_ex (wayB ⟨K, ⟨N, U, A⟩, Q, S, D⟩)
  have hy : Hid (chB ⟨K, ⟨N, U, A⟩, Q, S, D⟩ = (zs && zr && zq && zw)) := by
    unfold Hid
    rw [← hzs.out, ← hzr.out, ← hzq.out, ← hzw0.out]
    rfl
  go_enter Try.func71, Try.ntmps71
  have mk1 : Hid True := trivial
  have mk2 : Hid True := trivial
  have mk3 : Hid True := trivial
  have mk4 : Hid True := trivial
  have mk5 : Hid True := trivial
  have mk6 : Hid True := trivial
  have mk7 : Hid True := trivial
  have mk8 : Hid True := trivial
  go_upto_region 3 with (first | (clear mk1; refine wpList_box_v rfl 36 _ rfl [.int .i64 K, .slice aN N.length cN, .slice aU U.length cU, .int .i64 A, .slice aQ Q.length cQ, .slice aS S.length cS, .int .i64 D] rfl ?_; intro b1 w1 hb1 hwb1 hB1 c1; have hz1 : w.heap.size ≤ w1.heap.size := hB1.size; have hB := hB1; have hzw := hB.size; obtain ⟨c10, c11, c12, c13, c14, c15, c16⟩ := cells7c c1) | (clear mk2; refine wpList_alloc_v rfl 36 rfl [.int .i64 0, .slice none 0 0, .slice none 0 0, .int .i64 0, .slice none 0 0, .slice none 0 0, .int .i64 0] zeroCh ?_; intro b2 w2 hb2 hwb2 hB2 c2; have hz2 : w1.heap.size ≤ w2.heap.size := hB2.size; replace c1 := vblk_grow c1 hB2; replace hB := hB.trans (hB2.mono (by omega)); replace hzw := hB.size; clear c10 c11 c12 c13 c14 c15 c16; obtain ⟨c10, c11, c12, c13, c14, c15, c16⟩ := cells7c c1) | (clear mk3; go_at_call 125; refine (roundOf_any ⟨N, U, A⟩ _ _ _ (R.out.grow hB).r).mono ?_; rintro er w3 ⟨a3, n3, k3, A3, rfl, md⟩; rw [hzr.out] at md ⊢; have hB3 := md.low; have hz3 : w2.heap.size ≤ w3.heap.size := hB3.size; replace c1 := vblk_grow c1 hB3; replace c2 := vblk_grow c2 hB3; replace hB := hB.trans (hB3.mono (by omega)); replace hzw := hB.size; clear c10 c11 c12 c13 c14 c15 c16; obtain ⟨c10, c11, c12, c13, c14, c15, c16⟩ := cells7c c1; have WR : w3.heap.size ≤ w3.heap.size := Nat.le_refl _) | (clear mk4; refine wpList_alloc_v rfl 144 rfl _ zeroRd ?_; intro b4 w4 hb4 hwb4 hB4 c4; have hz4 : w3.heap.size ≤ w4.heap.size := hB4.size; replace c1 := vblk_grow c1 hB4; replace c2 := vblk_grow c2 hB4; replace hB := hB.trans (hB4.mono (by omega)); replace hzw := hB.size; clear c10 c11 c12 c13 c14 c15 c16; obtain ⟨c10, c11, c12, c13, c14, c15, c16⟩ := cells7c c1) | (clear mk5; refine wpList_store_v rfl 144 _ _ rfl b4 [.slice a3 n3 k3, .int .i64 A3] rfl rfl sizeRd c4 rfl (by simp [Value.oneCell']) ?_; intro w5 hO5 c4x; have hz5 : w4.heap.size ≤ w5.heap.size := (Nat.le_of_eq hO5.1.symm); have hy5 : w5.heap.size ≤ w4.heap.size := (Nat.le_of_eq hO5.1); replace c1 := vblk_only c1 hO5 (by omega); replace c2 := vblk_only c2 hO5 (by omega); replace hB := hB.trans (hO5.2.2 _ (by omega)); replace hzw := hB.size; clear c10 c11 c12 c13 c14 c15 c16; obtain ⟨c10, c11, c12, c13, c14, c15, c16⟩ := cells7c c1; clear c4; have c4 := c4x; clear c4x; obtain ⟨c40, c41⟩ := cells2 c4) | (clear mk6; go_at_call 118; refine (sk.rowsOf_any S D _ _ _ (Nat.le_refl _) (R.out.grow hB).s).mono ?_; rintro er w6 ⟨fl, rfl, hfl, hfl2, hB6⟩; have hz6 : w5.heap.size ≤ w6.heap.size := hB6.size; replace c1 := vblk_grow c1 hB6; replace c2 := vblk_grow c2 hB6; replace c4 := vblk_grow c4 hB6; replace hB := hB.trans (hB6.mono (by omega)); replace hzw := hB.size; clear c10 c11 c12 c13 c14 c15 c16; obtain ⟨c10, c11, c12, c13, c14, c15, c16⟩ := cells7c c1; clear c40 c41; obtain ⟨c40, c41⟩ := cells2 c4; rw [hzs.out]) | (clear mk7; refine wpList_alloc_v rfl 134 rfl (sk.ints sk.z64) sk.zero54' ?_; intro b6 w7 hb6 hwb6 hB7 c6; have hz7 : w6.heap.size ≤ w7.heap.size := hB7.size; replace c1 := vblk_grow c1 hB7; replace c2 := vblk_grow c2 hB7; replace c4 := vblk_grow c4 hB7; replace hB := hB.trans (hB7.mono (by omega)); replace hzw := hB.size; clear c10 c11 c12 c13 c14 c15 c16; obtain ⟨c10, c11, c12, c13, c14, c15, c16⟩ := cells7c c1; clear c40 c41; obtain ⟨c40, c41⟩ := cells2 c4) | (clear mk8; refine wpList_store_v rfl 134 _ _ rfl b6 (sk.ints fl) rfl rfl (szF hfl) c6 (by rw [ints_length, ints_length, hfl, sk.z64_len]) (ints_one fl) ?_; intro w8 hO8 c6x; have hz8 : w7.heap.size ≤ w8.heap.size := (Nat.le_of_eq hO8.1.symm); have hy8 : w8.heap.size ≤ w7.heap.size := (Nat.le_of_eq hO8.1); replace c1 := vblk_only c1 hO8 (by omega); replace c2 := vblk_only c2 hO8 (by omega); replace c4 := vblk_only c4 hO8 (by omega); replace hB := hB.trans (hO8.2.2 _ (by omega)); replace hzw := hB.size; clear c10 c11 c12 c13 c14 c15 c16; obtain ⟨c10, c11, c12, c13, c14, c15, c16⟩ := cells7c c1; clear c40 c41; obtain ⟨c40, c41⟩ := cells2 c4; clear c6; have c6 := c6x; clear c6x) | (fail))
  cases zw with
  | false =>
    have hy2 : chB ⟨K, ⟨N, U, A⟩, Q, S, D⟩ = false := by rw [hy.out]; simp
    have mk9 : Hid True := trivial
    have mk10 : Hid True := trivial
    go_wp2_with (first | (clear mk9; go_at_call 126; refine (implOneWay_any ⟨K, ⟨N, U, A⟩, Q, S, D⟩ _ _ _ _ _ (R.out.grow hB)).mono ?_; rintro er w9 ⟨rfl, hB9⟩; have hz9 : w8.heap.size ≤ w9.heap.size := hB9.size; replace c1 := vblk_grow c1 hB9; replace c2 := vblk_grow c2 hB9; replace c4 := vblk_grow c4 hB9; replace c6 := vblk_grow c6 hB9; replace hB := hB.trans (hB9.mono (by omega)); replace hzw := hB.size; clear c10 c11 c12 c13 c14 c15 c16; obtain ⟨c10, c11, c12, c13, c14, c15, c16⟩ := cells7c c1; clear c40 c41; obtain ⟨c40, c41⟩ := cells2 c4; rw [hzw0.out]) | (clear mk10; refine wpList_store_v rfl 36 _ _ rfl b2 [.int .i64 0, .slice none 0 0, .slice none 0 0, .int .i64 0, .slice none 0 0, .slice none 0 0, .int .i64 0] rfl rfl sizeCh c2 rfl (by simp [Value.oneCell']) ?_; intro w10 hO10 c2x; have hz10 : w9.heap.size ≤ w10.heap.size := (Nat.le_of_eq hO10.1.symm); have hy10 : w10.heap.size ≤ w9.heap.size := (Nat.le_of_eq hO10.1); replace c1 := vblk_only c1 hO10 (by omega); replace c4 := vblk_only c4 hO10 (by omega); replace c6 := vblk_only c6 hO10 (by omega); replace hB := hB.trans (hO10.2.2 _ (by omega)); replace hzw := hB.size; clear c10 c11 c12 c13 c14 c15 c16; obtain ⟨c10, c11, c12, c13, c14, c15, c16⟩ := cells7c c1; clear c40 c41; obtain ⟨c40, c41⟩ := cells2 c4; clear c2; have c2 := c2x; clear c2x) | (fail))
    exact row_ct (x := .bool false) rfl rfl rfl c2 Try.underlying36 sizeCh rfl (postC_no hy2 hB)
  | true =>
    cases zr with
    | false =>
      have hy2 : chB ⟨K, ⟨N, U, A⟩, Q, S, D⟩ = false := by rw [hy.out]; simp
      have mk11 : Hid True := trivial
      have mk12 : Hid True := trivial
      go_wp2_with (first | (clear mk11; go_at_call 126; refine (implOneWay_any ⟨K, ⟨N, U, A⟩, Q, S, D⟩ _ _ _ _ _ (R.out.grow hB)).mono ?_; rintro er w9 ⟨rfl, hB9⟩; have hz9 : w8.heap.size ≤ w9.heap.size := hB9.size; replace c1 := vblk_grow c1 hB9; replace c2 := vblk_grow c2 hB9; replace c4 := vblk_grow c4 hB9; replace c6 := vblk_grow c6 hB9; replace hB := hB.trans (hB9.mono (by omega)); replace hzw := hB.size; clear c10 c11 c12 c13 c14 c15 c16; obtain ⟨c10, c11, c12, c13, c14, c15, c16⟩ := cells7c c1; clear c40 c41; obtain ⟨c40, c41⟩ := cells2 c4; rw [hzw0.out]) | (clear mk12; refine wpList_store_v rfl 36 _ _ rfl b2 [.int .i64 0, .slice none 0 0, .slice none 0 0, .int .i64 0, .slice none 0 0, .slice none 0 0, .int .i64 0] rfl rfl sizeCh c2 rfl (by simp [Value.oneCell']) ?_; intro w10 hO10 c2x; have hz10 : w9.heap.size ≤ w10.heap.size := (Nat.le_of_eq hO10.1.symm); have hy10 : w10.heap.size ≤ w9.heap.size := (Nat.le_of_eq hO10.1); replace c1 := vblk_only c1 hO10 (by omega); replace c4 := vblk_only c4 hO10 (by omega); replace c6 := vblk_only c6 hO10 (by omega); replace hB := hB.trans (hO10.2.2 _ (by omega)); replace hzw := hB.size; clear c10 c11 c12 c13 c14 c15 c16; obtain ⟨c10, c11, c12, c13, c14, c15, c16⟩ := cells7c c1; clear c40 c41; obtain ⟨c40, c41⟩ := cells2 c4; clear c2; have c2 := c2x; clear c2x) | (fail))
      exact row_ct (x := .bool false) rfl rfl rfl c2 Try.underlying36 sizeCh rfl (postC_no hy2 hB)
    | true =>
      cases zs with
      | false =>
        have hy2 : chB ⟨K, ⟨N, U, A⟩, Q, S, D⟩ = false := by rw [hy.out]; simp
        have mk13 : Hid True := trivial
        have mk14 : Hid True := trivial
        go_wp2_with (first | (clear mk13; go_at_call 126; refine (implOneWay_any ⟨K, ⟨N, U, A⟩, Q, S, D⟩ _ _ _ _ _ (R.out.grow hB)).mono ?_; rintro er w9 ⟨rfl, hB9⟩; have hz9 : w8.heap.size ≤ w9.heap.size := hB9.size; replace c1 := vblk_grow c1 hB9; replace c2 := vblk_grow c2 hB9; replace c4 := vblk_grow c4 hB9; replace c6 := vblk_grow c6 hB9; replace hB := hB.trans (hB9.mono (by omega)); replace hzw := hB.size; clear c10 c11 c12 c13 c14 c15 c16; obtain ⟨c10, c11, c12, c13, c14, c15, c16⟩ := cells7c c1; clear c40 c41; obtain ⟨c40, c41⟩ := cells2 c4; rw [hzw0.out]) | (clear mk14; refine wpList_store_v rfl 36 _ _ rfl b2 [.int .i64 0, .slice none 0 0, .slice none 0 0, .int .i64 0, .slice none 0 0, .slice none 0 0, .int .i64 0] rfl rfl sizeCh c2 rfl (by simp [Value.oneCell']) ?_; intro w10 hO10 c2x; have hz10 : w9.heap.size ≤ w10.heap.size := (Nat.le_of_eq hO10.1.symm); have hy10 : w10.heap.size ≤ w9.heap.size := (Nat.le_of_eq hO10.1); replace c1 := vblk_only c1 hO10 (by omega); replace c4 := vblk_only c4 hO10 (by omega); replace c6 := vblk_only c6 hO10 (by omega); replace hB := hB.trans (hO10.2.2 _ (by omega)); replace hzw := hB.size; clear c10 c11 c12 c13 c14 c15 c16; obtain ⟨c10, c11, c12, c13, c14, c15, c16⟩ := cells7c c1; clear c40 c41; obtain ⟨c40, c41⟩ := cells2 c4; clear c2; have c2 := c2x; clear c2x) | (fail))
        exact row_ct (x := .bool false) rfl rfl rfl c2 Try.underlying36 sizeCh rfl (postC_no hy2 hB)
      | true =>
        cases zq with
        | false =>
          have hy2 : chB ⟨K, ⟨N, U, A⟩, Q, S, D⟩ = false := by rw [hy.out]; simp
          have mk15 : Hid True := trivial
          have mk16 : Hid True := trivial
          have mk17 : Hid True := trivial
          go_wp2_with (first | (clear mk15; go_at_call 126; refine (implOneWay_any ⟨K, ⟨N, U, A⟩, Q, S, D⟩ _ _ _ _ _ (R.out.grow hB)).mono ?_; rintro er w9 ⟨rfl, hB9⟩; have hz9 : w8.heap.size ≤ w9.heap.size := hB9.size; replace c1 := vblk_grow c1 hB9; replace c2 := vblk_grow c2 hB9; replace c4 := vblk_grow c4 hB9; replace c6 := vblk_grow c6 hB9; replace hB := hB.trans (hB9.mono (by omega)); replace hzw := hB.size; clear c10 c11 c12 c13 c14 c15 c16; obtain ⟨c10, c11, c12, c13, c14, c15, c16⟩ := cells7c c1; clear c40 c41; obtain ⟨c40, c41⟩ := cells2 c4; rw [hzw0.out]) | (clear mk16; go_at_call 127; refine (implQueueOk_any Q _ _ (R.out.grow hB).q R.out.qs).mono ?_; rintro er wq ⟨rfl, hq⟩; subst wq; rw [hzq.out]) | (clear mk17; refine wpList_store_v rfl 36 _ _ rfl b2 [.int .i64 0, .slice none 0 0, .slice none 0 0, .int .i64 0, .slice none 0 0, .slice none 0 0, .int .i64 0] rfl rfl sizeCh c2 rfl (by simp [Value.oneCell']) ?_; intro w10 hO10 c2x; have hz10 : w9.heap.size ≤ w10.heap.size := (Nat.le_of_eq hO10.1.symm); have hy10 : w10.heap.size ≤ w9.heap.size := (Nat.le_of_eq hO10.1); replace c1 := vblk_only c1 hO10 (by omega); replace c4 := vblk_only c4 hO10 (by omega); replace c6 := vblk_only c6 hO10 (by omega); replace hB := hB.trans (hO10.2.2 _ (by omega)); replace hzw := hB.size; clear c10 c11 c12 c13 c14 c15 c16; obtain ⟨c10, c11, c12, c13, c14, c15, c16⟩ := cells7c c1; clear c40 c41; obtain ⟨c40, c41⟩ := cells2 c4; clear c2; have c2 := c2x; clear c2x) | (fail))
          exact row_ct (x := .bool false) rfl rfl rfl c2 Try.underlying36 sizeCh rfl (postC_no hy2 hB)
        | true =>
          obtain ⟨o3, eA3⟩ := md.own rfl
          clear md
          dsimp only at eA3
          obtain rfl := eA3.symm
          have hok : sk.skOk S D := of_decide_eq_true hzs.out
          obtain rfl := hfl2 hok
          have hyt : Hid (chB ⟨K, ⟨N, U, A⟩, Q, S, D⟩ = true) := by unfold Hid; rw [hy.out]; rfl
          have rok := ringB_iff.1 hzr.out
          have hus : Hid (U.length = N.length) := rok.us
          have hNl : N.length ≤ 1000000 := by have := rok.le; dsimp only at this; omega
          have hQl : Q.length ≤ 1000000 := by have := (namesB_iff.1 hzq.out).2.2; omega
          have h4 : sk.Four S := hok.four
          have hS64 : Hid (S.flatten.length = 64) := hfl
          clear hy hfl2 hfl rok
          replace o3 := (((((o3.grow hB4).below (hO5.2.2 b4 (Nat.le_refl _)) (by omega)).grow hB6).grow hB7).below (hO8.2.2 b6 (Nat.le_refl _)) (by omega))
          have mk18 : Hid True := trivial
          have mk19 : Hid True := trivial
          go_upto_region 5 with (first | (clear mk18; go_at_call 126; refine (implOneWay_any ⟨K, ⟨N, U, A⟩, Q, S, D⟩ _ _ _ _ _ (R.out.grow hB)).mono ?_; rintro er w9 ⟨rfl, hB9⟩; have hz9 : w8.heap.size ≤ w9.heap.size := hB9.size; replace o3 := o3.grow hB9; replace c1 := vblk_grow c1 hB9; replace c2 := vblk_grow c2 hB9; replace c4 := vblk_grow c4 hB9; replace c6 := vblk_grow c6 hB9; replace hB := hB.trans (hB9.mono (by omega)); replace hzw := hB.size; clear c10 c11 c12 c13 c14 c15 c16; obtain ⟨c10, c11, c12, c13, c14, c15, c16⟩ := cells7c c1; clear c40 c41; obtain ⟨c40, c41⟩ := cells2 c4; rw [hzw0.out]) | (clear mk19; go_at_call 127; refine (implQueueOk_any Q _ _ (R.out.grow hB).q R.out.qs).mono ?_; rintro er wq ⟨rfl, hq⟩; subst wq; rw [hzq.out]) | (fail))
          have hBd : Below w9.heap.size w9 w9.drew := (Below.refl _ _).drew
          have hzd : w9.drew.heap.size ≤ w9.heap.size := Nat.le_refl _
          have hzd2 : w9.heap.size ≤ w9.drew.heap.size := Nat.le_refl _
          replace o3 := o3.grow hBd
          replace c1 := vblk_grow c1 hBd
          clear c10 c11 c12 c13 c14 c15 c16
          obtain ⟨c10, c11, c12, c13, c14, c15, c16⟩ := cells7c c1
          replace c2 := vblk_grow c2 hBd
          replace c4 := vblk_grow c4 hBd
          clear c40 c41
          obtain ⟨c40, c41⟩ := cells2 c4
          replace c6 := vblk_grow c6 hBd
          replace hB := hB.trans (hBd.mono (by omega))
          replace hzw := hB.size
          (try simp only [Act.put])
          (try simp only [List.setIfInBounds_toArray, List.set_cons_zero, List.set_cons_succ])
          clear c10 c11 c12 c13 c14 c15 c16
          clear c40 c41
          refine wp_region_held_drew (S := fun w' => VBlk w' b6 134 (sk.ints S.flatten) ∧ w'.cell? ⟨b1, 0, none⟩ = some (.int .i64 K) ∧ w'.cell? ⟨b1, 1, none⟩ = some (.slice aN N.length cN) ∧ w'.cell? ⟨b1, 2, none⟩ = some (.slice aU U.length cU) ∧ w'.cell? ⟨b1, 3, none⟩ = some (.int .i64 A) ∧ w'.cell? ⟨b1, 4, none⟩ = some (.slice aQ Q.length cQ) ∧ w'.cell? ⟨b1, 5, none⟩ = some (.slice aS S.length cS) ∧ w'.cell? ⟨b1, 6, none⟩ = some (.int .i64 D) ∧ w'.cell? ⟨b4, 0, none⟩ = some (.slice a3 n3 k3) ∧ w'.cell? ⟨b4, 1, none⟩ = some (.int .i64 A)) (by kernel_rfl) (⟨c6, (cells7c c1).1, (cells7c c1).2.1, (cells7c c1).2.2.1, (cells7c c1).2.2.2.1, (cells7c c1).2.2.2.2.1, (cells7c c1).2.2.2.2.2.1, (cells7c c1).2.2.2.2.2.2, cells2 c4⟩) (fun hHeld => ?_)
          refine wpAnyH_take (i := 0) (oi := { dst := some 39, op := Op.fieldAddr 36 (Operand.tmp 1) 0, type := 0, pos := "l16_choice.go:36", after := #[], guard := none }) (v := ?_) rfl (by kernel_rfl) (by kernel_rfl) (by kernel_rfl) (fun _ _ _ h => h) (Or.inl ⟨by rfl, ?_⟩) (by assumption) ?_
          rotate_left 1
          · intro w' hSw; (try dsimp only at hSw); go_simp; (try with_reducible rfl)
          (try simp only [Act.put, List.setIfInBounds_toArray, List.set_cons_zero, List.set_cons_succ])
          refine wpAnyH_take (i := 1) (oi := { dst := some 40, op := Op.load 2 (Operand.tmp 39), type := 2, pos := "l16_choice.go:36", after := #[{ on := 0, ground := Ground.data }], guard := none }) (v := ?_) rfl (by kernel_rfl) (by kernel_rfl) (by kernel_rfl) (fun _ _ _ h => h) (Or.inl ⟨by rfl, ?_⟩) (by assumption) ?_
          rotate_left 1
          · intro w' hSw; (try dsimp only at hSw); go_simp; (try with_reducible rfl)
          (try simp only [Act.put, List.setIfInBounds_toArray, List.set_cons_zero, List.set_cons_succ])
          refine wpAnyH_take (i := 2) (oi := { dst := some 41, op := Op.load 144 (Operand.tmp 4), type := 144, pos := "l16_choice.go:36", after := #[], guard := none }) (v := ?_) rfl (by kernel_rfl) (by kernel_rfl) (by kernel_rfl) (fun _ _ _ h => h) (Or.inl ⟨by rfl, ?_⟩) (by assumption) ?_
          rotate_left 1
          · intro w' hSw; (try dsimp only at hSw); go_simp; (try with_reducible rfl)
          (try simp only [Act.put, List.setIfInBounds_toArray, List.set_cons_zero, List.set_cons_succ])
          refine wpAnyH_take (i := 4) (oi := { dst := some 43, op := Op.load 134 (Operand.tmp 6), type := 134, pos := "l16_choice.go:36", after := #[], guard := none }) (v := .agg (sk.ints S.flatten).toArray) rfl (by kernel_rfl) (by kernel_rfl) (by kernel_rfl) (fun _ _ _ h => h) (yieldsIf_load_mid (by rfl) 134 _ rfl b6 0 rfl (sk.ints S.flatten) _ (fun w' hw' => hw'.1.range) Try.underlying134 rfl (szF hS64.out)) (by assumption) ?_
          (try simp only [List.setIfInBounds_toArray, List.set_cons_zero, List.set_cons_succ])
          refine wpAnyH_take (i := 6) (oi := { dst := some 45, op := Op.fieldAddr 36 (Operand.tmp 1) 3, type := 0, pos := "l16_choice.go:36", after := #[], guard := none }) (v := ?_) rfl (by kernel_rfl) (by kernel_rfl) (by kernel_rfl) (fun _ _ _ h => h) (Or.inl ⟨by rfl, ?_⟩) (by assumption) ?_
          rotate_left 1
          · intro w' hSw; (try dsimp only at hSw); go_simp; (try with_reducible rfl)
          (try simp only [Act.put, List.setIfInBounds_toArray, List.set_cons_zero, List.set_cons_succ])
          refine wpAnyH_take (i := 7) (oi := { dst := some 46, op := Op.fieldAddr 34 (Operand.tmp 45) 1, type := 0, pos := "l16_choice.go:36", after := #[{ on := 6, ground := Ground.data }], guard := none }) (v := ?_) rfl (by kernel_rfl) (by kernel_rfl) (by kernel_rfl) (fun _ _ _ h => h) (Or.inl ⟨by rfl, ?_⟩) (by assumption) ?_
          rotate_left 1
          · intro w' hSw; (try dsimp only at hSw); go_simp; (try with_reducible rfl)
          (try simp only [Act.put, List.setIfInBounds_toArray, List.set_cons_zero, List.set_cons_succ])
          refine wpAnyH_take (i := 8) (oi := { dst := some 47, op := Op.load 2 (Operand.tmp 46), type := 2, pos := "l16_choice.go:36", after := #[{ on := 7, ground := Ground.data }], guard := none }) (v := ?_) rfl (by kernel_rfl) (by kernel_rfl) (by kernel_rfl) (fun _ _ _ h => h) (Or.inl ⟨by rfl, ?_⟩) (by assumption) ?_
          rotate_left 1
          · intro w' hSw; (try dsimp only at hSw); go_simp; (try with_reducible rfl)
          (try simp only [Act.put, List.setIfInBounds_toArray, List.set_cons_zero, List.set_cons_succ])
          refine wpAnyH_ready (rs := [3, 11]) (by kernel_rfl) (by simp) ?_
          refine AllReadyH.cons (o := { dst := some 42, op := Op.call { callee := Callee.value (Operand.func 128), args := #[Operand.tmp 41], argTypes := #[144] }, type := 33, pos := "l16_choice.go:36", after := #[{ on := 2, ground := Ground.data }], guard := none }) rfl (fun KC hKC => ?_) (AllReadyH.cons (o := { dst := some 8, op := Op.alloc 36, type := 0, pos := "l16_choice.go:36", after := #[], guard := none }) rfl (fun KC hKC => ?_) AllReadyH.nil)
          · go_simp
            go_at_call 128
            refine (ringOf_any ⟨N, U, A⟩ _ _ o3.rd hus.out hNl).mono ?_
            rintro er wr3 ⟨vN8, vU8, rfl, oR, hBr3⟩
            have hzr3 : w9.drew.heap.size ≤ wr3.heap.size := hBr3.size
            replace o3 := o3.grow hBr3
            (try replace oS := ownS_grow oS hBr3)
            replace c1 := vblk_grow c1 hBr3
            replace c2 := vblk_grow c2 hBr3
            replace c4 := vblk_grow c4 hBr3
            replace c6 := vblk_grow c6 hBr3
            (try replace c8 := vblk_grow c8 hBr3)
            replace hB := hB.trans (hBr3.mono (by omega))
            replace hzw := hB.size
            obtain ⟨aN8, nN8, kN8, rfl⟩ := oR.n.slice
            obtain ⟨aU8, nU8, kU8, rfl⟩ := oR.u.slice
            refine hKC.out _ _ (⟨c6, (cells7c c1).1, (cells7c c1).2.1, (cells7c c1).2.2.1, (cells7c c1).2.2.2.1, (cells7c c1).2.2.2.2.1, (cells7c c1).2.2.2.2.2.1, (cells7c c1).2.2.2.2.2.2, cells2 c4⟩) (fun hHeld2 => ?_)
            clear hKC KC hHeld
            have hHeld := hHeld2
            clear hHeld2
            (try simp only [Act.put, List.setIfInBounds_toArray, List.set_cons_zero, List.set_cons_succ])
            refine wpAnyH_ready (rs := [5, 11]) (by kernel_rfl) (by simp) ?_
            refine AllReadyH.cons (o := { dst := some 44, op := Op.call { callee := Callee.value (Operand.func 129), args := #[Operand.tmp 43], argTypes := #[134] }, type := 26, pos := "l16_choice.go:36", after := #[{ on := 4, ground := Ground.data }, { on := 3, ground := Ground.chain }], guard := none }) rfl (fun KC hKC => ?_) (AllReadyH.cons (o := { dst := some 8, op := Op.alloc 36, type := 0, pos := "l16_choice.go:36", after := #[], guard := none }) rfl (fun KC hKC => ?_) AllReadyH.nil)
            · go_simp
              go_at_call 129
              refine (sk.lists_any S h4 _).mono ?_
              rintro er wr5 ⟨vS8, rfl, oS, hBr5⟩
              have hzr5 : wr3.heap.size ≤ wr5.heap.size := hBr5.size
              replace o3 := o3.grow hBr5
              (try replace oR := oR.grow hBr5)
              replace c1 := vblk_grow c1 hBr5
              replace c2 := vblk_grow c2 hBr5
              replace c4 := vblk_grow c4 hBr5
              replace c6 := vblk_grow c6 hBr5
              (try replace c8 := vblk_grow c8 hBr5)
              replace hB := hB.trans (hBr5.mono (by omega))
              replace hzw := hB.size
              obtain ⟨aS8, nS8, kS8, rfl⟩ := sk.Own.form oS
              refine hKC.out _ _ (⟨c6, (cells7c c1).1, (cells7c c1).2.1, (cells7c c1).2.2.1, (cells7c c1).2.2.2.1, (cells7c c1).2.2.2.2.1, (cells7c c1).2.2.2.2.2.1, (cells7c c1).2.2.2.2.2.2, cells2 c4⟩) (fun hHeld2 => ?_)
              clear hKC KC hHeld
              have hHeld := hHeld2
              clear hHeld2
              (try simp only [Act.put, List.setIfInBounds_toArray, List.set_cons_zero, List.set_cons_succ])
              refine wpAnyH_take (i := 9) (oi := { dst := some 48, op := Op.build 34 #[(0, Operand.tmp 44), (1, Operand.tmp 47)], type := 34, pos := "l16_choice.go:36", after := #[{ on := 5, ground := Ground.data }, { on := 8, ground := Ground.data }], guard := none }) (v := ?_) rfl (by kernel_rfl) (by kernel_rfl) (by kernel_rfl) (fun _ _ _ h => h) (Or.inl ⟨by rfl, ?_⟩) (by assumption) ?_
              rotate_left 1
              · intro w' hSw; (try dsimp only at hSw); go_simp; (try with_reducible rfl)
              (try simp only [Act.put, List.setIfInBounds_toArray, List.set_cons_zero, List.set_cons_succ])
              refine wpAnyH_take (i := 10) (oi := { dst := some 49, op := Op.build 36 #[(0, Operand.tmp 40), (1, Operand.tmp 42), (3, Operand.tmp 48)], type := 36, pos := "l16_choice.go:36", after := #[{ on := 1, ground := Ground.data }, { on := 3, ground := Ground.data }, { on := 9, ground := Ground.data }], guard := none }) (v := ?_) rfl (by kernel_rfl) (by kernel_rfl) (by kernel_rfl) (fun _ _ _ h => h) (Or.inl ⟨by rfl, ?_⟩) (by assumption) ?_
              rotate_left 1
              · intro w' hSw; (try dsimp only at hSw); go_simp; (try with_reducible rfl)
              (try simp only [Act.put, List.setIfInBounds_toArray, List.set_cons_zero, List.set_cons_succ])
              refine wpAnyH_ready (rs := [11]) (by kernel_rfl) (by simp) ?_
              refine AllReadyH.cons (o := { dst := some 8, op := Op.alloc 36, type := 0, pos := "l16_choice.go:36", after := #[], guard := none }) rfl (fun KC hKC => ?_) AllReadyH.nil
              refine step_alloc_v rfl 36 rfl _ zeroCh ?_
              intro b8 wr11 hb8 hwb8 hBr11 c8
              have hzr11 : wr5.heap.size ≤ wr11.heap.size := hBr11.size
              replace o3 := o3.grow hBr11
              (try replace oR := oR.grow hBr11)
              (try replace oS := ownS_grow oS hBr11)
              replace c1 := vblk_grow c1 hBr11
              replace c2 := vblk_grow c2 hBr11
              replace c4 := vblk_grow c4 hBr11
              replace c6 := vblk_grow c6 hBr11
              replace hB := hB.trans (hBr11.mono (by omega))
              replace hzw := hB.size
              refine hKC.out _ _ (⟨c6, (cells7c c1).1, (cells7c c1).2.1, (cells7c c1).2.2.1, (cells7c c1).2.2.2.1, (cells7c c1).2.2.2.2.1, (cells7c c1).2.2.2.2.2.1, (cells7c c1).2.2.2.2.2.2, cells2 c4⟩) (fun hHeld2 => ?_)
              clear hKC KC hHeld
              have hHeld := hHeld2
              clear hHeld2
              (try simp only [Act.put, List.setIfInBounds_toArray, List.set_cons_zero, List.set_cons_succ])
              refine wpAnyH_ready (rs := [12]) (by kernel_rfl) (by simp) ?_
              refine AllReadyH.cons (o := { dst := none, op := Op.store 36 (Operand.tmp 8) (Operand.tmp 49), type := 0, pos := "l16_choice.go:36", after := #[{ on := 11, ground := Ground.data }, { on := 10, ground := Ground.data }, { on := 5, ground := Ground.chain }, { on := 0, ground := Ground.phase }, { on := 1, ground := Ground.phase }, { on := 2, ground := Ground.phase }, { on := 3, ground := Ground.phase }, { on := 4, ground := Ground.phase }, { on := 5, ground := Ground.phase }, { on := 6, ground := Ground.phase }, { on := 7, ground := Ground.phase }, { on := 8, ground := Ground.phase }, { on := 9, ground := Ground.phase }, { on := 10, ground := Ground.phase }, { on := 11, ground := Ground.phase }], guard := none }) rfl (fun KC hKC => ?_) AllReadyH.nil
              refine step_store_v rfl 36 _ _ rfl b8 [.int .i64 K, .slice aN8 nN8 kN8, .slice aU8 nU8 kU8, .int .i64 A, .slice none 0 0, .slice aS8 nS8 kS8, .int .i64 D] rfl rfl sizeCh c8 rfl (by simp [Value.oneCell']) ?_
              intro wr12 hOr12 c8x
              have hzr12 : wr11.heap.size ≤ wr12.heap.size := Nat.le_of_eq hOr12.1.symm
              have hyr12 : wr12.heap.size ≤ wr11.heap.size := Nat.le_of_eq hOr12.1
              replace o3 := o3.only hOr12 c8 (by decide)
              replace c1 := vblk_only c1 hOr12 (by omega)
              replace c2 := vblk_only c2 hOr12 (by omega)
              replace c4 := vblk_only c4 hOr12 (by omega)
              replace c6 := vblk_only c6 hOr12 (by omega)
              replace oR := oR.only hOr12 c8 (by decide) (by decide)
              replace oS := sk.Own.keep oS (fun k h1 h2 => hOr12.2.1 k (by omega)) (Nat.le_of_eq hOr12.1.symm)
              clear c8
              have c8 := c8x
              clear c8x
              replace hB := hB.trans (hOr12.2.2 _ (by omega))
              replace hzw := hB.size
              (try replace hcur := cur_below hcur (hOr12.2.2 (p + 1) (by omega)) (by omega))
              refine hKC.out _ _ (⟨c6, (cells7c c1).1, (cells7c c1).2.1, (cells7c c1).2.2.1, (cells7c c1).2.2.2.1, (cells7c c1).2.2.2.2.1, (cells7c c1).2.2.2.2.2.1, (cells7c c1).2.2.2.2.2.2, cells2 c4⟩) (fun hHeld2 => ?_)
              clear hKC KC hHeld
              have hHeld := hHeld2
              clear hHeld2
              (try simp only [Act.put])
              refine wpAnyH_done (by kernel_rfl) ?_ _
              have rq := (R.out.grow hB).q
              (try clear c10 c11 c12 c13 c14 c15 c16)
              obtain ⟨c10, c11, c12, c13, c14, c15, c16⟩ := cells7c c1
              obtain ⟨c80, c81, c82, c83, c84, c85, c86⟩ := cells7c c8
              have mA : Hid True := trivial
              have mB : Hid True := trivial
              go_wp2_with (first | (clear mA; at_builtin; refine wpList_append_g infoS rfl _ _ 22 rfl Try.underlying22 wr12.heap.size wr12.heap.size _ [] rfl (own_zero encS wr12 wr12.heap.size wr12.heap.size none) (Nat.le_refl _) _ Q rfl rq (by simp; omega) ?_; intro vQ8 wx oq hTq; rw [List.nil_append] at oq; have hBx := hTq.low; have hzx := hBx.size; replace c1 := vblk_grow c1 hBx; replace c2 := vblk_grow c2 hBx; replace c8 := vblk_grow c8 hBx; replace oR := oR.grow hBx; replace oS := ownS_grow oS hBx; obtain ⟨aQ8, nQ8, kQ8, rfl⟩ := oq.slice; replace hB := hB.trans (hBx.mono hB.size); clear c80 c81 c82 c83 c84 c85 c86; obtain ⟨c80, c81, c82, c83, c84, c85, c86⟩ := cells7c c8) | (clear mB; refine wpList_store_cc rfl 22 _ _ rfl b8 4 (.slice aQ8 nQ8 kQ8) rfl rfl rfl szSl c8 (by simp) ?_; intro wy hOy c8x; replace oR := oR.only hOy c8 (by decide) (by decide); replace oS := sk.Own.keep oS (fun k h1 h2 => hOy.2.1 k (by omega)) (Nat.le_of_eq hOy.1.symm); replace oq := oq.only hOy c8 (by decide); replace c2 := vblk_only c2 hOy (by omega); have hzy := Nat.le_of_eq hOy.1; have hzy2 := Nat.le_of_eq hOy.1.symm; replace hB := hB.trans (hOy.2.2 _ (by omega)); clear c8 c80 c81 c82 c83 c84 c85 c86; have c8 : VBlk wy b8 36 [.int .i64 K, .slice aN8 nN8 kN8, .slice aU8 nU8 kU8, .int .i64 A, .slice aQ8 nQ8 kQ8, .slice aS8 nS8 kS8, .int .i64 D] := c8x; clear c8x; obtain ⟨c80, c81, c82, c83, c84, c85, c86⟩ := cells7c c8) | (refine wpList_store_v rfl 36 _ _ rfl b2 [.int .i64 K, .slice aN8 nN8 kN8, .slice aU8 nU8 kU8, .int .i64 A, .slice aQ8 nQ8 kQ8, .slice aS8 nS8 kS8, .int .i64 D] rfl rfl sizeCh c2 rfl (by simp [Value.oneCell']) ?_; intro wz hOz c2x; replace oR := oR.only hOz c2 (by decide) (by decide); replace oS := sk.Own.keep oS (fun k h1 h2 => hOz.2.1 k (by omega)) (Nat.le_of_eq hOz.1.symm); replace oq := oq.only hOz c2 (by decide); have hzz := Nat.le_of_eq hOz.1; have hzz2 := Nat.le_of_eq hOz.1.symm; replace hB := hB.trans (hOz.2.2 _ (by omega))) | (fail))
              exact row_ct (x := .bool true) rfl rfl rfl c2x Try.underlying36 sizeCh rfl (postC_yes (c := ⟨K, ⟨N, U, A⟩, Q, S, D⟩) hyt.out ⟨⟨_, _, _, _, _, _, oR, oq, oS, ⟨by omega, by omega, by omega, by omega, by omega, by omega⟩, by omega, by omega, by omega⟩, Nat.le_refl _⟩ hB)
            refine step_alloc_v rfl 36 rfl _ zeroCh ?_
            intro b8 wr11 hb8 hwb8 hBr11 c8
            have hzr11 : wr3.heap.size ≤ wr11.heap.size := hBr11.size
            replace o3 := o3.grow hBr11
            (try replace oR := oR.grow hBr11)
            (try replace oS := ownS_grow oS hBr11)
            replace c1 := vblk_grow c1 hBr11
            replace c2 := vblk_grow c2 hBr11
            replace c4 := vblk_grow c4 hBr11
            replace c6 := vblk_grow c6 hBr11
            replace hB := hB.trans (hBr11.mono (by omega))
            replace hzw := hB.size
            refine hKC.out _ _ (⟨c6, (cells7c c1).1, (cells7c c1).2.1, (cells7c c1).2.2.1, (cells7c c1).2.2.2.1, (cells7c c1).2.2.2.2.1, (cells7c c1).2.2.2.2.2.1, (cells7c c1).2.2.2.2.2.2, cells2 c4⟩) (fun hHeld2 => ?_)
            clear hKC KC hHeld
            have hHeld := hHeld2
            clear hHeld2
            (try simp only [Act.put, List.setIfInBounds_toArray, List.set_cons_zero, List.set_cons_succ])
            refine wpAnyH_ready (rs := [5]) (by kernel_rfl) (by simp) ?_
            refine AllReadyH.cons (o := { dst := some 44, op := Op.call { callee := Callee.value (Operand.func 129), args := #[Operand.tmp 43], argTypes := #[134] }, type := 26, pos := "l16_choice.go:36", after := #[{ on := 4, ground := Ground.data }, { on := 3, ground := Ground.chain }], guard := none }) rfl (fun KC hKC => ?_) AllReadyH.nil
            go_simp
            go_at_call 129
            refine (sk.lists_any S h4 _).mono ?_
            rintro er wr5 ⟨vS8, rfl, oS, hBr5⟩
            have hzr5 : wr11.heap.size ≤ wr5.heap.size := hBr5.size
            replace o3 := o3.grow hBr5
            (try replace oR := oR.grow hBr5)
            replace c1 := vblk_grow c1 hBr5
            replace c2 := vblk_grow c2 hBr5
            replace c4 := vblk_grow c4 hBr5
            replace c6 := vblk_grow c6 hBr5
            (try replace c8 := vblk_grow c8 hBr5)
            replace hB := hB.trans (hBr5.mono (by omega))
            replace hzw := hB.size
            obtain ⟨aS8, nS8, kS8, rfl⟩ := sk.Own.form oS
            refine hKC.out _ _ (⟨c6, (cells7c c1).1, (cells7c c1).2.1, (cells7c c1).2.2.1, (cells7c c1).2.2.2.1, (cells7c c1).2.2.2.2.1, (cells7c c1).2.2.2.2.2.1, (cells7c c1).2.2.2.2.2.2, cells2 c4⟩) (fun hHeld2 => ?_)
            clear hKC KC hHeld
            have hHeld := hHeld2
            clear hHeld2
            (try simp only [Act.put, List.setIfInBounds_toArray, List.set_cons_zero, List.set_cons_succ])
            refine wpAnyH_take (i := 9) (oi := { dst := some 48, op := Op.build 34 #[(0, Operand.tmp 44), (1, Operand.tmp 47)], type := 34, pos := "l16_choice.go:36", after := #[{ on := 5, ground := Ground.data }, { on := 8, ground := Ground.data }], guard := none }) (v := ?_) rfl (by kernel_rfl) (by kernel_rfl) (by kernel_rfl) (fun _ _ _ h => h) (Or.inl ⟨by rfl, ?_⟩) (by assumption) ?_
            rotate_left 1
            · intro w' hSw; (try dsimp only at hSw); go_simp; (try with_reducible rfl)
            (try simp only [Act.put, List.setIfInBounds_toArray, List.set_cons_zero, List.set_cons_succ])
            refine wpAnyH_take (i := 10) (oi := { dst := some 49, op := Op.build 36 #[(0, Operand.tmp 40), (1, Operand.tmp 42), (3, Operand.tmp 48)], type := 36, pos := "l16_choice.go:36", after := #[{ on := 1, ground := Ground.data }, { on := 3, ground := Ground.data }, { on := 9, ground := Ground.data }], guard := none }) (v := ?_) rfl (by kernel_rfl) (by kernel_rfl) (by kernel_rfl) (fun _ _ _ h => h) (Or.inl ⟨by rfl, ?_⟩) (by assumption) ?_
            rotate_left 1
            · intro w' hSw; (try dsimp only at hSw); go_simp; (try with_reducible rfl)
            (try simp only [Act.put, List.setIfInBounds_toArray, List.set_cons_zero, List.set_cons_succ])
            refine wpAnyH_ready (rs := [12]) (by kernel_rfl) (by simp) ?_
            refine AllReadyH.cons (o := { dst := none, op := Op.store 36 (Operand.tmp 8) (Operand.tmp 49), type := 0, pos := "l16_choice.go:36", after := #[{ on := 11, ground := Ground.data }, { on := 10, ground := Ground.data }, { on := 5, ground := Ground.chain }, { on := 0, ground := Ground.phase }, { on := 1, ground := Ground.phase }, { on := 2, ground := Ground.phase }, { on := 3, ground := Ground.phase }, { on := 4, ground := Ground.phase }, { on := 5, ground := Ground.phase }, { on := 6, ground := Ground.phase }, { on := 7, ground := Ground.phase }, { on := 8, ground := Ground.phase }, { on := 9, ground := Ground.phase }, { on := 10, ground := Ground.phase }, { on := 11, ground := Ground.phase }], guard := none }) rfl (fun KC hKC => ?_) AllReadyH.nil
            refine step_store_v rfl 36 _ _ rfl b8 [.int .i64 K, .slice aN8 nN8 kN8, .slice aU8 nU8 kU8, .int .i64 A, .slice none 0 0, .slice aS8 nS8 kS8, .int .i64 D] rfl rfl sizeCh c8 rfl (by simp [Value.oneCell']) ?_
            intro wr12 hOr12 c8x
            have hzr12 : wr5.heap.size ≤ wr12.heap.size := Nat.le_of_eq hOr12.1.symm
            have hyr12 : wr12.heap.size ≤ wr5.heap.size := Nat.le_of_eq hOr12.1
            replace o3 := o3.only hOr12 c8 (by decide)
            replace c1 := vblk_only c1 hOr12 (by omega)
            replace c2 := vblk_only c2 hOr12 (by omega)
            replace c4 := vblk_only c4 hOr12 (by omega)
            replace c6 := vblk_only c6 hOr12 (by omega)
            replace oR := oR.only hOr12 c8 (by decide) (by decide)
            replace oS := sk.Own.keep oS (fun k h1 h2 => hOr12.2.1 k (by omega)) (Nat.le_of_eq hOr12.1.symm)
            clear c8
            have c8 := c8x
            clear c8x
            replace hB := hB.trans (hOr12.2.2 _ (by omega))
            replace hzw := hB.size
            (try replace hcur := cur_below hcur (hOr12.2.2 (p + 1) (by omega)) (by omega))
            refine hKC.out _ _ (⟨c6, (cells7c c1).1, (cells7c c1).2.1, (cells7c c1).2.2.1, (cells7c c1).2.2.2.1, (cells7c c1).2.2.2.2.1, (cells7c c1).2.2.2.2.2.1, (cells7c c1).2.2.2.2.2.2, cells2 c4⟩) (fun hHeld2 => ?_)
            clear hKC KC hHeld
            have hHeld := hHeld2
            clear hHeld2
            (try simp only [Act.put])
            refine wpAnyH_done (by kernel_rfl) ?_ _
            have rq := (R.out.grow hB).q
            (try clear c10 c11 c12 c13 c14 c15 c16)
            obtain ⟨c10, c11, c12, c13, c14, c15, c16⟩ := cells7c c1
            obtain ⟨c80, c81, c82, c83, c84, c85, c86⟩ := cells7c c8
            have mA : Hid True := trivial
            have mB : Hid True := trivial
            go_wp2_with (first | (clear mA; at_builtin; refine wpList_append_g infoS rfl _ _ 22 rfl Try.underlying22 wr12.heap.size wr12.heap.size _ [] rfl (own_zero encS wr12 wr12.heap.size wr12.heap.size none) (Nat.le_refl _) _ Q rfl rq (by simp; omega) ?_; intro vQ8 wx oq hTq; rw [List.nil_append] at oq; have hBx := hTq.low; have hzx := hBx.size; replace c1 := vblk_grow c1 hBx; replace c2 := vblk_grow c2 hBx; replace c8 := vblk_grow c8 hBx; replace oR := oR.grow hBx; replace oS := ownS_grow oS hBx; obtain ⟨aQ8, nQ8, kQ8, rfl⟩ := oq.slice; replace hB := hB.trans (hBx.mono hB.size); clear c80 c81 c82 c83 c84 c85 c86; obtain ⟨c80, c81, c82, c83, c84, c85, c86⟩ := cells7c c8) | (clear mB; refine wpList_store_cc rfl 22 _ _ rfl b8 4 (.slice aQ8 nQ8 kQ8) rfl rfl rfl szSl c8 (by simp) ?_; intro wy hOy c8x; replace oR := oR.only hOy c8 (by decide) (by decide); replace oS := sk.Own.keep oS (fun k h1 h2 => hOy.2.1 k (by omega)) (Nat.le_of_eq hOy.1.symm); replace oq := oq.only hOy c8 (by decide); replace c2 := vblk_only c2 hOy (by omega); have hzy := Nat.le_of_eq hOy.1; have hzy2 := Nat.le_of_eq hOy.1.symm; replace hB := hB.trans (hOy.2.2 _ (by omega)); clear c8 c80 c81 c82 c83 c84 c85 c86; have c8 : VBlk wy b8 36 [.int .i64 K, .slice aN8 nN8 kN8, .slice aU8 nU8 kU8, .int .i64 A, .slice aQ8 nQ8 kQ8, .slice aS8 nS8 kS8, .int .i64 D] := c8x; clear c8x; obtain ⟨c80, c81, c82, c83, c84, c85, c86⟩ := cells7c c8) | (refine wpList_store_v rfl 36 _ _ rfl b2 [.int .i64 K, .slice aN8 nN8 kN8, .slice aU8 nU8 kU8, .int .i64 A, .slice aQ8 nQ8 kQ8, .slice aS8 nS8 kS8, .int .i64 D] rfl rfl sizeCh c2 rfl (by simp [Value.oneCell']) ?_; intro wz hOz c2x; replace oR := oR.only hOz c2 (by decide) (by decide); replace oS := sk.Own.keep oS (fun k h1 h2 => hOz.2.1 k (by omega)) (Nat.le_of_eq hOz.1.symm); replace oq := oq.only hOz c2 (by decide); have hzz := Nat.le_of_eq hOz.1; have hzz2 := Nat.le_of_eq hOz.1.symm; replace hB := hB.trans (hOz.2.2 _ (by omega))) | (fail))
            exact row_ct (x := .bool true) rfl rfl rfl c2x Try.underlying36 sizeCh rfl (postC_yes (c := ⟨K, ⟨N, U, A⟩, Q, S, D⟩) hyt.out ⟨⟨_, _, _, _, _, _, oR, oq, oS, ⟨by omega, by omega, by omega, by omega, by omega, by omega⟩, by omega, by omega, by omega⟩, Nat.le_refl _⟩ hB)
          refine step_alloc_v rfl 36 rfl _ zeroCh ?_
          intro b8 wr11 hb8 hwb8 hBr11 c8
          have hzr11 : w9.drew.heap.size ≤ wr11.heap.size := hBr11.size
          replace o3 := o3.grow hBr11
          (try replace oR := oR.grow hBr11)
          (try replace oS := ownS_grow oS hBr11)
          replace c1 := vblk_grow c1 hBr11
          replace c2 := vblk_grow c2 hBr11
          replace c4 := vblk_grow c4 hBr11
          replace c6 := vblk_grow c6 hBr11
          replace hB := hB.trans (hBr11.mono (by omega))
          replace hzw := hB.size
          refine hKC.out _ _ (⟨c6, (cells7c c1).1, (cells7c c1).2.1, (cells7c c1).2.2.1, (cells7c c1).2.2.2.1, (cells7c c1).2.2.2.2.1, (cells7c c1).2.2.2.2.2.1, (cells7c c1).2.2.2.2.2.2, cells2 c4⟩) (fun hHeld2 => ?_)
          clear hKC KC hHeld
          have hHeld := hHeld2
          clear hHeld2
          (try simp only [Act.put, List.setIfInBounds_toArray, List.set_cons_zero, List.set_cons_succ])
          refine wpAnyH_ready (rs := [3]) (by kernel_rfl) (by simp) ?_
          refine AllReadyH.cons (o := { dst := some 42, op := Op.call { callee := Callee.value (Operand.func 128), args := #[Operand.tmp 41], argTypes := #[144] }, type := 33, pos := "l16_choice.go:36", after := #[{ on := 2, ground := Ground.data }], guard := none }) rfl (fun KC hKC => ?_) AllReadyH.nil
          go_simp
          go_at_call 128
          refine (ringOf_any ⟨N, U, A⟩ _ _ o3.rd hus.out hNl).mono ?_
          rintro er wr3 ⟨vN8, vU8, rfl, oR, hBr3⟩
          have hzr3 : wr11.heap.size ≤ wr3.heap.size := hBr3.size
          replace o3 := o3.grow hBr3
          (try replace oS := ownS_grow oS hBr3)
          replace c1 := vblk_grow c1 hBr3
          replace c2 := vblk_grow c2 hBr3
          replace c4 := vblk_grow c4 hBr3
          replace c6 := vblk_grow c6 hBr3
          (try replace c8 := vblk_grow c8 hBr3)
          replace hB := hB.trans (hBr3.mono (by omega))
          replace hzw := hB.size
          obtain ⟨aN8, nN8, kN8, rfl⟩ := oR.n.slice
          obtain ⟨aU8, nU8, kU8, rfl⟩ := oR.u.slice
          refine hKC.out _ _ (⟨c6, (cells7c c1).1, (cells7c c1).2.1, (cells7c c1).2.2.1, (cells7c c1).2.2.2.1, (cells7c c1).2.2.2.2.1, (cells7c c1).2.2.2.2.2.1, (cells7c c1).2.2.2.2.2.2, cells2 c4⟩) (fun hHeld2 => ?_)
          clear hKC KC hHeld
          have hHeld := hHeld2
          clear hHeld2
          (try simp only [Act.put, List.setIfInBounds_toArray, List.set_cons_zero, List.set_cons_succ])
          refine wpAnyH_ready (rs := [5]) (by kernel_rfl) (by simp) ?_
          refine AllReadyH.cons (o := { dst := some 44, op := Op.call { callee := Callee.value (Operand.func 129), args := #[Operand.tmp 43], argTypes := #[134] }, type := 26, pos := "l16_choice.go:36", after := #[{ on := 4, ground := Ground.data }, { on := 3, ground := Ground.chain }], guard := none }) rfl (fun KC hKC => ?_) AllReadyH.nil
          go_simp
          go_at_call 129
          refine (sk.lists_any S h4 _).mono ?_
          rintro er wr5 ⟨vS8, rfl, oS, hBr5⟩
          have hzr5 : wr3.heap.size ≤ wr5.heap.size := hBr5.size
          replace o3 := o3.grow hBr5
          (try replace oR := oR.grow hBr5)
          replace c1 := vblk_grow c1 hBr5
          replace c2 := vblk_grow c2 hBr5
          replace c4 := vblk_grow c4 hBr5
          replace c6 := vblk_grow c6 hBr5
          (try replace c8 := vblk_grow c8 hBr5)
          replace hB := hB.trans (hBr5.mono (by omega))
          replace hzw := hB.size
          obtain ⟨aS8, nS8, kS8, rfl⟩ := sk.Own.form oS
          refine hKC.out _ _ (⟨c6, (cells7c c1).1, (cells7c c1).2.1, (cells7c c1).2.2.1, (cells7c c1).2.2.2.1, (cells7c c1).2.2.2.2.1, (cells7c c1).2.2.2.2.2.1, (cells7c c1).2.2.2.2.2.2, cells2 c4⟩) (fun hHeld2 => ?_)
          clear hKC KC hHeld
          have hHeld := hHeld2
          clear hHeld2
          (try simp only [Act.put, List.setIfInBounds_toArray, List.set_cons_zero, List.set_cons_succ])
          refine wpAnyH_take (i := 9) (oi := { dst := some 48, op := Op.build 34 #[(0, Operand.tmp 44), (1, Operand.tmp 47)], type := 34, pos := "l16_choice.go:36", after := #[{ on := 5, ground := Ground.data }, { on := 8, ground := Ground.data }], guard := none }) (v := ?_) rfl (by kernel_rfl) (by kernel_rfl) (by kernel_rfl) (fun _ _ _ h => h) (Or.inl ⟨by rfl, ?_⟩) (by assumption) ?_
          rotate_left 1
          · intro w' hSw; (try dsimp only at hSw); go_simp; (try with_reducible rfl)
          (try simp only [Act.put, List.setIfInBounds_toArray, List.set_cons_zero, List.set_cons_succ])
          refine wpAnyH_take (i := 10) (oi := { dst := some 49, op := Op.build 36 #[(0, Operand.tmp 40), (1, Operand.tmp 42), (3, Operand.tmp 48)], type := 36, pos := "l16_choice.go:36", after := #[{ on := 1, ground := Ground.data }, { on := 3, ground := Ground.data }, { on := 9, ground := Ground.data }], guard := none }) (v := ?_) rfl (by kernel_rfl) (by kernel_rfl) (by kernel_rfl) (fun _ _ _ h => h) (Or.inl ⟨by rfl, ?_⟩) (by assumption) ?_
          rotate_left 1
          · intro w' hSw; (try dsimp only at hSw); go_simp; (try with_reducible rfl)
          (try simp only [Act.put, List.setIfInBounds_toArray, List.set_cons_zero, List.set_cons_succ])
          refine wpAnyH_ready (rs := [12]) (by kernel_rfl) (by simp) ?_
          refine AllReadyH.cons (o := { dst := none, op := Op.store 36 (Operand.tmp 8) (Operand.tmp 49), type := 0, pos := "l16_choice.go:36", after := #[{ on := 11, ground := Ground.data }, { on := 10, ground := Ground.data }, { on := 5, ground := Ground.chain }, { on := 0, ground := Ground.phase }, { on := 1, ground := Ground.phase }, { on := 2, ground := Ground.phase }, { on := 3, ground := Ground.phase }, { on := 4, ground := Ground.phase }, { on := 5, ground := Ground.phase }, { on := 6, ground := Ground.phase }, { on := 7, ground := Ground.phase }, { on := 8, ground := Ground.phase }, { on := 9, ground := Ground.phase }, { on := 10, ground := Ground.phase }, { on := 11, ground := Ground.phase }], guard := none }) rfl (fun KC hKC => ?_) AllReadyH.nil
          refine step_store_v rfl 36 _ _ rfl b8 [.int .i64 K, .slice aN8 nN8 kN8, .slice aU8 nU8 kU8, .int .i64 A, .slice none 0 0, .slice aS8 nS8 kS8, .int .i64 D] rfl rfl sizeCh c8 rfl (by simp [Value.oneCell']) ?_
          intro wr12 hOr12 c8x
          have hzr12 : wr5.heap.size ≤ wr12.heap.size := Nat.le_of_eq hOr12.1.symm
          have hyr12 : wr12.heap.size ≤ wr5.heap.size := Nat.le_of_eq hOr12.1
          replace o3 := o3.only hOr12 c8 (by decide)
          replace c1 := vblk_only c1 hOr12 (by omega)
          replace c2 := vblk_only c2 hOr12 (by omega)
          replace c4 := vblk_only c4 hOr12 (by omega)
          replace c6 := vblk_only c6 hOr12 (by omega)
          replace oR := oR.only hOr12 c8 (by decide) (by decide)
          replace oS := sk.Own.keep oS (fun k h1 h2 => hOr12.2.1 k (by omega)) (Nat.le_of_eq hOr12.1.symm)
          clear c8
          have c8 := c8x
          clear c8x
          replace hB := hB.trans (hOr12.2.2 _ (by omega))
          replace hzw := hB.size
          (try replace hcur := cur_below hcur (hOr12.2.2 (p + 1) (by omega)) (by omega))
          refine hKC.out _ _ (⟨c6, (cells7c c1).1, (cells7c c1).2.1, (cells7c c1).2.2.1, (cells7c c1).2.2.2.1, (cells7c c1).2.2.2.2.1, (cells7c c1).2.2.2.2.2.1, (cells7c c1).2.2.2.2.2.2, cells2 c4⟩) (fun hHeld2 => ?_)
          clear hKC KC hHeld
          have hHeld := hHeld2
          clear hHeld2
          (try simp only [Act.put])
          refine wpAnyH_done (by kernel_rfl) ?_ _
          have rq := (R.out.grow hB).q
          (try clear c10 c11 c12 c13 c14 c15 c16)
          obtain ⟨c10, c11, c12, c13, c14, c15, c16⟩ := cells7c c1
          obtain ⟨c80, c81, c82, c83, c84, c85, c86⟩ := cells7c c8
          have mA : Hid True := trivial
          have mB : Hid True := trivial
          go_wp2_with (first | (clear mA; at_builtin; refine wpList_append_g infoS rfl _ _ 22 rfl Try.underlying22 wr12.heap.size wr12.heap.size _ [] rfl (own_zero encS wr12 wr12.heap.size wr12.heap.size none) (Nat.le_refl _) _ Q rfl rq (by simp; omega) ?_; intro vQ8 wx oq hTq; rw [List.nil_append] at oq; have hBx := hTq.low; have hzx := hBx.size; replace c1 := vblk_grow c1 hBx; replace c2 := vblk_grow c2 hBx; replace c8 := vblk_grow c8 hBx; replace oR := oR.grow hBx; replace oS := ownS_grow oS hBx; obtain ⟨aQ8, nQ8, kQ8, rfl⟩ := oq.slice; replace hB := hB.trans (hBx.mono hB.size); clear c80 c81 c82 c83 c84 c85 c86; obtain ⟨c80, c81, c82, c83, c84, c85, c86⟩ := cells7c c8) | (clear mB; refine wpList_store_cc rfl 22 _ _ rfl b8 4 (.slice aQ8 nQ8 kQ8) rfl rfl rfl szSl c8 (by simp) ?_; intro wy hOy c8x; replace oR := oR.only hOy c8 (by decide) (by decide); replace oS := sk.Own.keep oS (fun k h1 h2 => hOy.2.1 k (by omega)) (Nat.le_of_eq hOy.1.symm); replace oq := oq.only hOy c8 (by decide); replace c2 := vblk_only c2 hOy (by omega); have hzy := Nat.le_of_eq hOy.1; have hzy2 := Nat.le_of_eq hOy.1.symm; replace hB := hB.trans (hOy.2.2 _ (by omega)); clear c8 c80 c81 c82 c83 c84 c85 c86; have c8 : VBlk wy b8 36 [.int .i64 K, .slice aN8 nN8 kN8, .slice aU8 nU8 kU8, .int .i64 A, .slice aQ8 nQ8 kQ8, .slice aS8 nS8 kS8, .int .i64 D] := c8x; clear c8x; obtain ⟨c80, c81, c82, c83, c84, c85, c86⟩ := cells7c c8) | (refine wpList_store_v rfl 36 _ _ rfl b2 [.int .i64 K, .slice aN8 nN8 kN8, .slice aU8 nU8 kU8, .int .i64 A, .slice aQ8 nQ8 kQ8, .slice aS8 nS8 kS8, .int .i64 D] rfl rfl sizeCh c2 rfl (by simp [Value.oneCell']) ?_; intro wz hOz c2x; replace oR := oR.only hOz c2 (by decide) (by decide); replace oS := sk.Own.keep oS (fun k h1 h2 => hOz.2.1 k (by omega)) (Nat.le_of_eq hOz.1.symm); replace oq := oq.only hOz c2 (by decide); have hzz := Nat.le_of_eq hOz.1; have hzz2 := Nat.le_of_eq hOz.1.symm; replace hB := hB.trans (hOz.2.2 _ (by omega))) | (fail))
          exact row_ct (x := .bool true) rfl rfl rfl c2x Try.underlying36 sizeCh rfl (postC_yes (c := ⟨K, ⟨N, U, A⟩, Q, S, D⟩) hyt.out ⟨⟨_, _, _, _, _, _, oR, oq, oS, ⟨by omega, by omega, by omega, by omega, by omega, by omega⟩, by omega, by omega, by omega⟩, Nat.le_refl _⟩ hB)

end Go.Proofs.Ytapchjkiiifhdaa.rg
/- Contracts: the program's ChoiceOk, NewChoice; the model's NewChoice. -/
namespace Go.Proofs.Ytapchjkiiifhdaa.rg
open Go.ChangeShapes Go.WideShapes Go.ChangeAt Go.RowKit
open Go.Deep Go.Joins
open Go.Proofs.Ytapchjkiiifhdaa.ce Go.Proofs.Ytapchjkiiifhdaa.ro
set_option linter.unusedVariables false

def newC (k : Int) : Ch := ⟨k, Rg.zero, [], sk.zeros, 0⟩
theorem newC_ok (k : Int) : chB (newC k) = (decide (k = 1) || decide (k = 2)) := by
  have h1 : decide (sk.skOk (newC k).S (newC k).D) = true := by
    show decide (sk.skOk sk.zeros 0) = true
    decide +kernel
  have h2 : ringB (newC k).R = true := by
    show ringB Rg.zero = true
    exact ringB_iff.2 (hnew_ok (k := 1) (.inl rfl)).r
  have h3 : namesB (newC k).Q = true := by
    show namesB [] = true
    exact namesB_iff.2 (hnew_ok (k := 1) (.inl rfl)).q
  unfold chB
  rw [h1, h2, h3]
  unfold wayB
  show (true && (decide (k = 1) && true || decide (k = 2) && true)) = _
  simp
theorem newC_rd (k : Int) (w : World) (lo hi : Nat) (v : Value) (h : sk.Own w lo hi v sk.zeros) : RdC w (.slice none 0 0) (.slice none 0 0) (.slice none 0 0) v (newC k) :=
  ⟨⟨rd_zero encS w none 0 (Nat.zero_le _), rd_zero encB w none 0 (Nat.zero_le _), fun s hs => by cases hs⟩, rd_zero encS w none 0 (Nat.zero_le _), fun s hs => (by cases hs), h.rd.wide (Nat.zero_le _) (sk_hi h)⟩
set_option maxRecDepth 100000 in
set_option maxHeartbeats 2000000 in
theorem implChoiceOk_any (c : Ch) (vN vU vQ vS : Value) (w : World) (h : RdC w vN vU vQ vS c) (y : Bool) (hy : Hid (chB c = y)) :
    Calls Try.prog 17 #[.agg #[.int .i64 c.K, vN, vU, .int .i64 c.R.A, vQ, vS, .int .i64 c.D]] w fun e w' => e = .returned (.bool y) ∧ Below w.heap.size w w' := by
  obtain ⟨K, ⟨N, U, A⟩, Q, S, D⟩ := c
  obtain ⟨aN, cN, rfl⟩ := h.r.n.form
  obtain ⟨aU, cU, rfl⟩ := h.r.u.form
  obtain ⟨aQ, cQ, rfl⟩ := h.q.form
  obtain ⟨aS, cS, rfl⟩ := sk_form h.s

  have R : Hid (RdC w (.slice aN N.length cN) (.slice aU U.length cU) (.slice aQ Q.length cQ) (.slice aS S.length cS) ⟨K, ⟨N, U, A⟩, Q, S, D⟩) := h
  clear h
  obtain ⟨⟨K2, ⟨N2, U2, A2⟩, Q2, S2, D2⟩, hc2⟩ := hid_ex (cpC ⟨K, ⟨N, U, A⟩, Q, S, D⟩)
  go_enter Try.func17, Try.ntmps17
  go_wp2_with (first | (refine wpList_box_v rfl 36 _ rfl [.int .i64 K, .slice aN N.length cN, .slice aU U.length cU, .int .i64 A, .slice aQ Q.length cQ, .slice aS S.length cS, .int .i64 D] rfl ?_; intro b1 w1 hb1 hw1 hB1 V1; obtain ⟨c10, c11, c12, c13, c14, c15, c16⟩ := cells7c V1; have hz1 := hB1.size) | (go_at_call 71; refine (implChoiceOf_any ⟨K, ⟨N, U, A⟩, Q, S, D⟩ _ _ _ _ _ (R.out.grow hB1)).mono ?_; rintro e w2 hP; unfold PostC at hP; rw [hc2.out, hy.out] at hP; obtain ⟨vN2, vU2, vQ2, vS2, rfl, oC, hB2⟩ := hP; dsimp only; obtain ⟨⟨aN2, nN2, kN2, rfl⟩, ⟨aU2, nU2, kU2, rfl⟩, ⟨aQ2, nQ2, kQ2, rfl⟩, ⟨aS2, nS2, kS2, rfl⟩⟩ := oC.forms; have hB12 := hB1.trans (hB2.mono hz1)) | (refine wpList_alloc_v rfl 36 rfl _ zeroCh ?_; intro b3 w3 hb3 hw3 hB3 V3; have hB13 := hB12.trans (hB3.mono hB12.size); have hz13 := hB12.size) | (refine wpList_store_v rfl 36 _ _ rfl b3 [.int .i64 K2, .slice aN2 nN2 kN2, .slice aU2 nU2 kU2, .int .i64 A2, .slice aQ2 nQ2 kQ2, .slice aS2 nS2 kS2, .int .i64 D2] rfl rfl sizeCh V3 rfl (by simp [Value.oneCell']) ?_; intro w4 hO4 V4; have hB14 := hB13.trans (hO4.2.2 _ (by omega))) | (fail))
  go_ret
  exact ⟨rfl, hB14⟩
set_option maxRecDepth 100000 in
set_option maxHeartbeats 2000000 in
theorem implNewChoice_any (k : Int) (w : World) : Calls Try.prog 20 #[.int .i64 k] w fun e w' => PostC (newC k) w e w' := by
  obtain ⟨⟨K2, ⟨N2, U2, A2⟩, Q2, S2, D2⟩, hc2⟩ := hid_ex (cpC (newC k))
  obtain ⟨y, hy⟩ := hid_ex (chB (newC k))
  unfold PostC
  rw [hc2.out, hy.out]
  dsimp only
  have m1 : Hid True := trivial
  go_enter Try.func20, Try.ntmps20
  go_wp2_with (first | (clear m1; refine wpList_alloc_v rfl 36 rfl _ zeroCh ?_; intro b2 w1 hb2 hw2 hB1 V2; have hz1 := hB1.size) | (go_at_call 75; refine (sk.implNewSketch_any _).mono ?_; rintro e w2 ⟨v2, rfl, o2, hB2⟩; replace V2 := vblk_grow V2 hB2; have hB12 := hB1.trans (hB2.mono hz1); have hz2 := hB12.size; have hz12 := hB2.size) | (go_at_call 71; refine (implChoiceOf_any (newC k) _ _ _ _ _ (newC_rd k _ _ _ _ o2)).mono ?_; rintro e w3 hP; unfold PostC at hP; rw [hc2.out, hy.out] at hP; obtain ⟨vN2, vU2, vQ2, vS2, rfl, oC, hB3⟩ := hP; dsimp only; replace V2 := vblk_grow V2 hB3; obtain ⟨⟨aN2, nN2, kN2, rfl⟩, ⟨aU2, nU2, kU2, rfl⟩, ⟨aQ2, nQ2, kQ2, rfl⟩, ⟨aS2, nS2, kS2, rfl⟩⟩ := oC.forms; have hB13 := hB12.trans (hB3.mono hz2); have hz3 := hB13.size; have hzz := hB3.size) | (refine wpList_store_v rfl 36 _ _ rfl b2 [.int .i64 K2, .slice aN2 nN2 kN2, .slice aU2 nU2 kU2, .int .i64 A2, .slice aQ2 nQ2 kQ2, .slice aS2 nS2 kS2, .int .i64 D2] rfl rfl sizeCh V2 rfl (by simp [Value.oneCell']) ?_; intro w4 hO4 V4; have hB14 := hB13.trans (hO4.2.2 _ (by omega))) | (fail))
  refine row_ct (x := .bool y) rfl rfl rfl V4 Try.underlying36 sizeCh rfl ⟨_, _, _, _, rfl, ?_, hB14⟩
  have e4 := Nat.le_of_eq hO4.1.symm
  exact (oC.off hO4 (by omega)).wide (by omega)
set_option maxRecDepth 100000 in
set_option maxHeartbeats 2000000 in
theorem specNewChoice_any (k : Int) (w : World) : Calls Try.prog 19 #[.int .i64 k] w fun e w' => PostC (newC k) w e w' := by
  have m1 : Hid True := trivial
  by_cases hk : k = 1 ∨ k = 2
  · have hy : chB (newC k) = true := by
      rw [newC_ok]
      rcases hk with rfl | rfl <;> rfl
    have go : ∀ w' v, sk.Own w' w.heap.size w'.heap.size v sk.zeros → Below w.heap.size w w' → PostC (newC k) w (.returned (.tuple #[.agg #[.int .i64 k, .slice none 0 0, .slice none 0 0, .int .i64 0, .slice none 0 0, v, .int .i64 0], .bool true])) w' := fun w' v o hB =>
      postC_yes (c := newC k) hy ⟨⟨w.heap.size, w.heap.size, w.heap.size, w.heap.size, w.heap.size, w'.heap.size, ⟨own_zero _ _ _ _ _, own_zero _ _ _ _ _⟩, own_zero _ _ _ _ _, o, ⟨Nat.le_refl _, hB.size, Nat.le_refl _, hB.size, Nat.le_refl _, Nat.le_refl _⟩, .inl (Nat.le_refl _), .inl (Nat.le_refl _), .inl (Nat.le_refl _)⟩, Nat.le_refl _⟩ hB
    have hk2 : ((k != 1) && (k != 2)) = false := by rcases hk with rfl | rfl <;> rfl
    have kk : (k != 1) = false ∨ (k != 1) = true ∧ (k != 2) = false := by rcases hk with rfl | rfl; exact .inl rfl; exact .inr ⟨rfl, rfl⟩
    clear hk hk2 hy
    have GO : Hid _ := go
    clear go
    rcases kk with k1 | ⟨k1, k2⟩
    all_goals
      go_enter Try.func19, Try.ntmps19
      go_wp2_with (first | (clear m1; refine wpList_alloc_v rfl 36 rfl _ zeroCh ?_; intro b2 w1 hb2 hw2 hB1 V2; have hz1 := hB1.size) | (go_at_call 74; refine (sk.specNewSketch_any _).mono ?_; rintro e w2 ⟨v2, rfl, o2, hB2⟩; obtain ⟨aS2, nS2, kS2, rfl⟩ := sk.Own.form o2; replace V2 := vblk_grow V2 hB2; have hB12 := hB1.trans (hB2.mono hz1); have hz2 := hB2.size) | (refine wpList_store_v rfl 36 _ _ rfl b2 [.int .i64 k, .slice none 0 0, .slice none 0 0, .int .i64 0, .slice none 0 0, .slice aS2 nS2 kS2, .int .i64 0] rfl rfl sizeCh V2 rfl (by simp [Value.oneCell']) ?_; intro w4 hO4 V4; have hB14 := hB12.trans (hO4.2.2 _ (by omega)); have e4 := Nat.le_of_eq hO4.1; have e5 := Nat.le_of_eq hO4.1.symm; have o4 := (sk.Own.keep o2 (fun j h1 h2 => hO4.2.1 j (by omega)) e5).wide (lo' := w.heap.size) (by omega) (by omega) (Nat.le_refl _)) | (fail))
      exact row_ct (x := .bool true) rfl rfl rfl V4 Try.underlying36 sizeCh rfl (GO.out _ _ o4 hB14)
  · have h1 : k ≠ 1 := fun e => hk (.inl e)
    have h2 : k ≠ 2 := fun e => hk (.inr e)
    have k1 : (k != 1) = true := by simpa using h1
    have k2 : (k != 2) = true := by simpa using h2
    have hy : chB (newC k) = false := by rw [newC_ok, decide_eq_false h1, decide_eq_false h2]; rfl
    clear hk h1 h2
    go_enter Try.func19, Try.ntmps19
    go_wp2_with (first | (clear m1; refine wpList_alloc_v rfl 36 rfl _ zeroCh ?_; intro b2 w1 hb2 hw2 hB1 V2; have hz1 := hB1.size) | (refine wpList_store_v rfl 36 _ _ rfl b2 [.int .i64 0, .slice none 0 0, .slice none 0 0, .int .i64 0, .slice none 0 0, .slice none 0 0, .int .i64 0] rfl rfl sizeCh V2 rfl (by simp [Value.oneCell']) ?_; intro w4 hO4 V4; have hB14 := hB1.trans (hO4.2.2 _ (by omega))) | (fail))
    exact row_ct (x := .bool false) rfl rfl rfl V4 Try.underlying36 sizeCh rfl (postC_no hy hB14)
end Go.Proofs.Ytapchjkiiifhdaa.rg
/- Contracts of the laws' helpers on rows of texts and of truths: sizes, copies, comparisons, marks. -/
namespace Go.Proofs.Ytapchjkiiifhdaa.rg
open Go.ChangeShapes Go.WideShapes Go.ChangeAt Go.RowKit
open Go.Proofs.Ytapchjkiiifhdaa.ce Go.Proofs.Ytapchjkiiifhdaa.ro
set_option linter.unusedVariables false

theorem eqTexts_any (xs : List ByteArray) (v v' : Value) (w : World) (r : Rd encS w v xs) (r' : Rd encS w v' xs) :
    Calls Try.prog 29 #[v, v'] w fun e w' => e = .returned (.bool true) ∧ Below w.heap.size w w' := by
  have hl := r.len
  obtain ⟨a, cap, rfl⟩ := r.form
  obtain ⟨a', cap', rfl⟩ := r'.form
  have R : Hid (Rd encS w (.slice a xs.length cap) xs) := r
  have R' : Hid (Rd encS w (.slice a' xs.length cap') xs) := r'
  clear r r'
  have hnn : ((xs.length : Int) != (xs.length : Int)) = false := by simp
  go_enter Try.func29, Try.ntmps29
  go_wp2
  go_loopw [5] (fun v' wr => ∃ i : Nat, i ≤ xs.length ∧ v' = .int .i64 i ∧ Below w.heap.size w wr) (fun v' _ => xs.length - (intOf v').toNat)
  case atStart => exact ⟨0, by omega, rfl, Below.refl _ _⟩
  case round =>
    obtain ⟨i, hi1, rfl, hBr⟩ := hrel
    by_cases hlt : i < xs.length
    · obtain ⟨b, off, rfl, hb, d0⟩ := rdS_cell (R.out.grow hBr) i hlt
      obtain ⟨b', off', rfl, hb', e0⟩ := rdS_cell (R'.out.grow hBr) i hlt
      obtain ⟨z, hz⟩ := hid_ex (xs[i])
      rw [hz.out] at d0 e0
      have hlt' : (i : Int) < xs.length := by omega
      have hzz : (z.toList == z.toList) = true := by simp
      go_wp2
      go_region_held3 (fun w' => w'.cell? ⟨b, off + i, none⟩ = some (.string z) ∧ w'.cell? ⟨b', off' + i, none⟩ = some (.string z)) (first | assumption | exact ⟨d0, e0⟩) (fail)
      go_wp2
      go_roundw
      case rel => exact ⟨i + 1, by omega, by go_num, hBr.drew⟩
      case measure => simp [intOf]; omega
    · go_wp2
      go_ret
      exact ⟨rfl, hBr⟩

theorem likeTexts_any (xs : List ByteArray) (v v' : Value) (w : World) (r : Rd encS w v xs) (r' : Rd encS w v' xs) :
    Calls Try.prog 41 #[v, v'] w fun e w' => e = .returned (.bool true) ∧ Below w.heap.size w w' := by
  have hl := r.len
  obtain ⟨a, cap, rfl⟩ := r.form
  obtain ⟨a', cap', rfl⟩ := r'.form
  have R : Hid (Rd encS w (.slice a xs.length cap) xs) := r
  have R' : Hid (Rd encS w (.slice a' xs.length cap') xs) := r'
  clear r r'
  have hnn : ((xs.length : Int) != (xs.length : Int)) = false := by simp
  go_enter Try.func41, Try.ntmps41
  go_wp2
  go_loopw [5] (fun v' wr => ∃ i : Nat, i ≤ xs.length ∧ v' = .int .i64 i ∧ Below w.heap.size w wr) (fun v' _ => xs.length - (intOf v').toNat)
  case atStart => exact ⟨0, by omega, rfl, Below.refl _ _⟩
  case round =>
    obtain ⟨i, hi1, rfl, hBr⟩ := hrel
    by_cases hlt : i < xs.length
    · obtain ⟨b, off, rfl, hb, d0⟩ := rdS_cell (R.out.grow hBr) i hlt
      obtain ⟨b', off', rfl, hb', e0⟩ := rdS_cell (R'.out.grow hBr) i hlt
      obtain ⟨z, hz⟩ := hid_ex (xs[i])
      rw [hz.out] at d0 e0
      have hlt' : (i : Int) < xs.length := by omega
      have hzz : (z.toList == z.toList) = true := by simp
      go_wp2
      go_region_held3 (fun w' => w'.cell? ⟨b, off + i, none⟩ = some (.string z) ∧ w'.cell? ⟨b', off' + i, none⟩ = some (.string z)) (first | assumption | exact ⟨d0, e0⟩) (fail)
      go_wp2
      go_roundw
      case rel => exact ⟨i + 1, by omega, by go_num, hBr.drew⟩
      case measure => simp [intOf]; omega
    · go_wp2
      go_ret
      exact ⟨rfl, hBr⟩

theorem eqBools_any (xs : List Bool) (v v' : Value) (w : World) (r : Rd encB w v xs) (r' : Rd encB w v' xs) :
    Calls Try.prog 130 #[v, v'] w fun e w' => e = .returned (.bool true) ∧ Below w.heap.size w w' := by
  have hl := r.len
  obtain ⟨a, cap, rfl⟩ := r.form
  obtain ⟨a', cap', rfl⟩ := r'.form
  have R : Hid (Rd encB w (.slice a xs.length cap) xs) := r
  have R' : Hid (Rd encB w (.slice a' xs.length cap') xs) := r'
  clear r r'
  have hnn : ((xs.length : Int) != (xs.length : Int)) = false := by simp
  go_enter Try.func130, Try.ntmps130
  go_wp2
  go_loopw [5] (fun v' wr => ∃ i : Nat, i ≤ xs.length ∧ v' = .int .i64 i ∧ Below w.heap.size w wr) (fun v' _ => xs.length - (intOf v').toNat)
  case atStart => exact ⟨0, by omega, rfl, Below.refl _ _⟩
  case round =>
    obtain ⟨i, hi1, rfl, hBr⟩ := hrel
    by_cases hlt : i < xs.length
    · obtain ⟨b, off, rfl, hb, d0⟩ := rdB_cell (R.out.grow hBr) i hlt
      obtain ⟨b', off', rfl, hb', e0⟩ := rdB_cell (R'.out.grow hBr) i hlt
      obtain ⟨z, hz⟩ := hid_ex (xs[i])
      rw [hz.out] at d0 e0
      have hlt' : (i : Int) < xs.length := by omega
      have hzz : (z != z) = false := by simp
      go_wp2
      go_region_held3 (fun w' => w'.cell? ⟨b, off + i, none⟩ = some (.bool z) ∧ w'.cell? ⟨b', off' + i, none⟩ = some (.bool z)) (first | assumption | exact ⟨d0, e0⟩) (fail)
      go_wp2
      go_roundw
      case rel => exact ⟨i + 1, by omega, by go_num, hBr.drew⟩
      case measure => simp [intOf]; omega
    · go_wp2
      go_ret
      exact ⟨rfl, hBr⟩

theorem szBools_any (U : List Bool) (v : Value) (L : Int) (hL : L ≤ 1048576) (hL0 : 0 ≤ L) (w : World) (r : Rd encB w v U) :
    Calls Try.prog 120 #[v, .int .i64 L] w fun e w' => ∃ q : Int, e = .returned (.int .i64 q) ∧ w' = w ∧ (0 ≤ q → (U.length : Int) ≤ 1048576) := by
  have hl := r.len
  obtain ⟨a, cap, rfl⟩ := r.form
  clear r
  have e : IntKind.i64.wrap (L - (U.length : Int)) = L - U.length := by rw [IntKind.wrap_i64]; omega
  by_cases h : L - (U.length : Int) < 0
  · go_enter Try.func120, Try.ntmps120
    go_wp2
    go_ret
    exact ⟨-1, rfl, rfl, fun _ => by omega⟩
  · go_enter Try.func120, Try.ntmps120
    go_wp2
    go_ret
    exact ⟨_, rfl, rfl, fun _ => by omega⟩

theorem szTexts_any (N : List ByteArray) (v : Value) (L : Int) (hL : L ≤ 1048576) (hL0 : 0 ≤ L) (w : World) (r : Rd encS w v N) (hs : ∀ s ∈ N, s.size ≤ 9223372036854775807) :
    Calls Try.prog 63 #[v, .int .i64 L] w fun e w' => ∃ q : Int, e = .returned (.int .i64 q) ∧ w' = w ∧ q ≤ 1048576 ∧ (0 ≤ q → (N.length : Int) ≤ 1048576) := by
  have hl := r.len
  obtain ⟨a, cap, rfl⟩ := r.form
  have R : Hid (Rd encS w (.slice a N.length cap) N) := r
  have HS : Hid (∀ s ∈ N, s.size ≤ 9223372036854775807) := hs
  clear r hs
  have e : IntKind.i64.wrap (L - (N.length : Int)) = L - N.length := by rw [IntKind.wrap_i64]; omega
  by_cases h : L - (N.length : Int) < 0
  · go_enter Try.func63, Try.ntmps63
    go_wp2
    go_ret
    exact ⟨-1, rfl, rfl, by omega, fun _ => by omega⟩
  · go_enter Try.func63, Try.ntmps63
    go_wp2
    go_loop [1, 5] (fun q v => ∃ (l : Int) (i : Nat), i ≤ N.length ∧ v = .int .i64 i ∧ q = .int .i64 l ∧ 0 ≤ l ∧ l ≤ 1048576) (fun _ v => N.length - (intOf v).toNat)
    case atStart => exact ⟨L - N.length, 0, by omega, rfl, rfl, by omega, by omega⟩
    case round =>
      obtain ⟨l, i, hi1, rfl, rfl, hl0, hl1⟩ := hrel
      by_cases hlt : i < N.length
      · obtain ⟨b, off, rfl, hb, d0⟩ := rdS_cell R.out i hlt
        have hsz := HS.out N[i] (List.getElem_mem hlt)
        obtain ⟨z, hz⟩ := hid_ex (N[i])
        rw [hz.out] at d0 hsz
        have hlt' : (i : Int) < (N.length : Int) := by omega
        have e2 : IntKind.i64.wrap (l - (z.size : Int)) = l - z.size := by rw [IntKind.wrap_i64]; omega
        by_cases hn : l - (z.size : Int) < 0
        · go_wp2
          go_ret
          exact ⟨-1, rfl, rfl, by omega, fun _ => by omega⟩
        · go_wp2
          go_round
          case rel => exact ⟨l - z.size, i + 1, by omega, by go_num, rfl, by omega, by omega⟩
          case measure => simp [intOf]; omega
      · have hlt' : ¬ (i : Int) < (N.length : Int) := by omega
        go_wp2
        go_ret
        exact ⟨_, rfl, rfl, by omega, fun _ => by omega⟩

theorem wpList_make_string {o : Oper} {a : Act} {w : World} {ops : Array Oper} {rest : List Oper} {Q : Exit → Act → World → Prop} (hgd : o.guard = none) (l c : Operand) (t : TypeId) (ho : o.op = .makeSlice t l c) (ht : Try.prog.underlying t = some (.slice 9)) (n : Nat) (hn : n ≤ 1048576) (hl : a.eval l = .int .i64 n) (hc : a.eval c = .int .i64 n)
    (h : ∀ b w', w.heap.size ≤ b → b < w'.heap.size → Below w.heap.size w w' → Own encS w' w.heap.size w'.heap.size (.slice (some ⟨b, 0, none⟩) n n) (List.replicate n (⟨#[]⟩ : ByteArray)) → wpList Try.prog ops Q rest (a.put o.dst (.slice (some ⟨b, 0, none⟩) n n)) w') : wpList Try.prog ops Q (o :: rest) a w := by
  have hi : (Try.prog.info? 9).map (fun i => (i.zero, i.size, i.bytes ≤ 16)) = some (some (Value.string ⟨#[]⟩), 1, True) := by
    obtain ⟨i, z, h1, h2, h3, h4, h5⟩ := infoS.ex
    have : Try.prog.info? 9 = some i := h1
    have hh : (Try.prog.info? 9).map (fun i => (i.zero, i.size, decide (i.bytes ≤ 16))) = some (some (Value.string ⟨#[]⟩), 1, true) := by kernel_rfl
    rw [this] at hh ⊢
    simp at hh ⊢
    exact hh
  obtain ⟨i0, hi0, hz⟩ := Option.map_eq_some_iff.1 hi
  simp only [Prod.mk.injEq, eq_iff_iff, iff_true] at hz
  refine wpList_make_full _ hgd l c t ho w.heap.size 9 i0 _ 1 ht hi0 hz.1 hz.2.1 .i64 .i64 n n n hl hc rfl rfl (by have h3 := hz.2.2; have := Nat.mul_le_mul h3 hn; omega) (by unfold maxLen; omega) (Nat.le_refl _) ?_
  intro w1 h1 h2
  have hb : Below w.heap.size w w1 := ro.below_grown h2 (Nat.le_refl _) (fun k hk => by cases hk)
  refine h _ w1 (Nat.le_refl _) (h1.lt _ rfl).2 hb (own_of ?_)
  have hr : (madeCells (Value.cells (Value.string ⟨#[]⟩)) (n * 1)).toList = encS.row (List.replicate n (⟨#[]⟩ : ByteArray)) := by
    rw [Enc.row_replicate encS (⟨#[]⟩ : ByteArray) n (Value.string ⟨#[]⟩) rfl]
    simp [Value.cells, toList_madeCells_one]
  rw [hr] at h1
  rw [List.length_replicate]
  exact h1

theorem wpList_make_bool {o : Oper} {a : Act} {w : World} {ops : Array Oper} {rest : List Oper} {Q : Exit → Act → World → Prop} (hgd : o.guard = none) (l c : Operand) (t : TypeId) (ho : o.op = .makeSlice t l c) (ht : Try.prog.underlying t = some (.slice 4)) (n : Nat) (hn : n ≤ 1048576) (hl : a.eval l = .int .i64 n) (hc : a.eval c = .int .i64 n)
    (h : ∀ b w', w.heap.size ≤ b → b < w'.heap.size → Below w.heap.size w w' → Own encB w' w.heap.size w'.heap.size (.slice (some ⟨b, 0, none⟩) n n) (List.replicate n false) → wpList Try.prog ops Q rest (a.put o.dst (.slice (some ⟨b, 0, none⟩) n n)) w') : wpList Try.prog ops Q (o :: rest) a w := by
  have hi : (Try.prog.info? 4).map (fun i => (i.zero, i.size, i.bytes ≤ 16)) = some (some (Value.bool false), 1, True) := by
    obtain ⟨i, z, h1, h2, h3, h4, h5⟩ := infoB.ex
    have : Try.prog.info? 4 = some i := h1
    have hh : (Try.prog.info? 4).map (fun i => (i.zero, i.size, decide (i.bytes ≤ 16))) = some (some (Value.bool false), 1, true) := by kernel_rfl
    rw [this] at hh ⊢
    simp at hh ⊢
    exact hh
  obtain ⟨i0, hi0, hz⟩ := Option.map_eq_some_iff.1 hi
  simp only [Prod.mk.injEq, eq_iff_iff, iff_true] at hz
  refine wpList_make_full _ hgd l c t ho w.heap.size 4 i0 _ 1 ht hi0 hz.1 hz.2.1 .i64 .i64 n n n hl hc rfl rfl (by have h3 := hz.2.2; have := Nat.mul_le_mul h3 hn; omega) (by unfold maxLen; omega) (Nat.le_refl _) ?_
  intro w1 h1 h2
  have hb : Below w.heap.size w w1 := ro.below_grown h2 (Nat.le_refl _) (fun k hk => by cases hk)
  refine h _ w1 (Nat.le_refl _) (h1.lt _ rfl).2 hb (own_of ?_)
  have hr : (madeCells (Value.cells (Value.bool false)) (n * 1)).toList = encB.row (List.replicate n false) := by
    rw [Enc.row_replicate encB false n (Value.bool false) rfl]
    simp [Value.cells, toList_madeCells_one]
  rw [hr] at h1
  rw [List.length_replicate]
  exact h1

theorem toTexts_any (xs : List ByteArray) (v : Value) (w : World) (r : Rd encS w v xs) (hlen : xs.length ≤ 1048576) :
    Calls Try.prog 69 #[v] w fun e w' => ∃ v', e = .returned v' ∧ Own encS w' w.heap.size w'.heap.size v' xs ∧ Below w.heap.size w w' := by
  obtain ⟨a, cap, rfl⟩ := r.form
  have R : Hid (Rd encS w (.slice a xs.length cap) xs) := r
  clear r
  go_enter Try.func69, Try.ntmps69
  go_wp2_with (first | (refine wpList_make_string rfl _ _ 22 rfl Try.underlying22 xs.length hlen rfl rfl ?_; intro g w1 hg hw1 hB1 o1) | (fail))
  have O1 : Hid (Own encS w1 w.heap.size w1.heap.size (.slice (some ⟨g, 0, none⟩) xs.length xs.length) (List.replicate xs.length (⟨#[]⟩ : ByteArray))) := o1
  clear o1
  have hz1 := hB1.size
  go_loopw [4] (fun p wr => ∃ i : Nat, i ≤ xs.length ∧ p = .int .i64 i ∧ Hid (Own encS wr w.heap.size w1.heap.size (.slice (some ⟨g, 0, none⟩) xs.length xs.length) (xs.take i ++ (List.replicate xs.length (⟨#[]⟩ : ByteArray)).drop i)) ∧ Hid (Below w.heap.size w wr) ∧ Hid (w1.heap.size ≤ wr.heap.size)) (fun p _ => xs.length - (intOf p).toNat)
  case atStart => exact ⟨0, by omega, rfl, by unfold Hid; simpa using O1.out, hB1, Nat.le_refl _⟩
  case round =>
    obtain ⟨i, hi1, rfl, O, hB, hS⟩ := hrel
    by_cases hlt : i < xs.length
    · obtain ⟨b, off, rfl, hb, d0⟩ := rdS_cell (R.out.grow hB.out) i hlt
      obtain ⟨g', e', hg', d1, f1⟩ := ownS_cell O.out i (by simp; omega)
      cases e'
      obtain ⟨z, hz⟩ := hid_ex (xs[i])
      rw [hz.out] at d0
      have hlt' : (i : Int) < (xs.length : Int) := by omega
      have hset : Hid ((xs.take i ++ (List.replicate xs.length (⟨#[]⟩ : ByteArray)).drop i).set i z = xs.take (i + 1) ++ (List.replicate xs.length (⟨#[]⟩ : ByteArray)).drop (i + 1)) := by
        unfold Hid
        rw [List.set_append_right _ _ (by simp; omega), List.length_take, Nat.min_eq_left (by omega), Nat.sub_self, List.drop_eq_getElem_cons (by simp; omega), List.set_cons_zero, List.take_succ_eq_append_getElem hlt, hz.out]
        simp
      go_wp2
      go_roundw
      case rel =>
        have h1 := ownS_set O.out i (by simp; omega) z
        rw [hset.out] at h1
        exact ⟨i + 1, by omega, by go_num, h1, hB.out.setCell (by omega) _, by unfold Hid; simp [World.setCell]; exact hS.out⟩
      case measure => simp [intOf]; omega
    · have hlt' : ¬ (i : Int) < (xs.length : Int) := by omega
      have o2 := O.out
      rw [List.take_of_length_le (by omega), List.drop_of_length_le (by simp; omega), List.append_nil] at o2
      clear O
      go_wp2
      go_ret
      exact ⟨_, rfl, o2.top, hB.out⟩

theorem toBools_any (xs : List Bool) (v : Value) (w : World) (r : Rd encB w v xs) (hlen : xs.length ≤ 1048576) :
    Calls Try.prog 123 #[v] w fun e w' => ∃ v', e = .returned v' ∧ Own encB w' w.heap.size w'.heap.size v' xs ∧ Below w.heap.size w w' := by
  obtain ⟨a, cap, rfl⟩ := r.form
  have R : Hid (Rd encB w (.slice a xs.length cap) xs) := r
  clear r
  go_enter Try.func123, Try.ntmps123
  go_wp2_with (first | (refine wpList_make_bool rfl _ _ 23 rfl Try.underlying23 xs.length hlen rfl rfl ?_; intro g w1 hg hw1 hB1 o1) | (fail))
  have O1 : Hid (Own encB w1 w.heap.size w1.heap.size (.slice (some ⟨g, 0, none⟩) xs.length xs.length) (List.replicate xs.length false)) := o1
  clear o1
  have hz1 := hB1.size
  go_loopw [4] (fun p wr => ∃ i : Nat, i ≤ xs.length ∧ p = .int .i64 i ∧ Hid (Own encB wr w.heap.size w1.heap.size (.slice (some ⟨g, 0, none⟩) xs.length xs.length) (xs.take i ++ (List.replicate xs.length false).drop i)) ∧ Hid (Below w.heap.size w wr) ∧ Hid (w1.heap.size ≤ wr.heap.size)) (fun p _ => xs.length - (intOf p).toNat)
  case atStart => exact ⟨0, by omega, rfl, by unfold Hid; simpa using O1.out, hB1, Nat.le_refl _⟩
  case round =>
    obtain ⟨i, hi1, rfl, O, hB, hS⟩ := hrel
    by_cases hlt : i < xs.length
    · obtain ⟨b, off, rfl, hb, d0⟩ := rdB_cell (R.out.grow hB.out) i hlt
      obtain ⟨g', e', hg', d1, f1⟩ := ownB_cell O.out i (by simp; omega)
      cases e'
      obtain ⟨z, hz⟩ := hid_ex (xs[i])
      rw [hz.out] at d0
      have hlt' : (i : Int) < (xs.length : Int) := by omega
      have hset : Hid ((xs.take i ++ (List.replicate xs.length false).drop i).set i z = xs.take (i + 1) ++ (List.replicate xs.length false).drop (i + 1)) := by
        unfold Hid
        rw [List.set_append_right _ _ (by simp; omega), List.length_take, Nat.min_eq_left (by omega), Nat.sub_self, List.drop_eq_getElem_cons (by simp; omega), List.set_cons_zero, List.take_succ_eq_append_getElem hlt, hz.out]
        simp
      go_wp2
      go_roundw
      case rel =>
        have h1 := ownB_set O.out i (by simp; omega) z
        rw [hset.out] at h1
        exact ⟨i + 1, by omega, by go_num, h1, hB.out.setCell (by omega) _, by unfold Hid; simp [World.setCell]; exact hS.out⟩
      case measure => simp [intOf]; omega
    · have hlt' : ¬ (i : Int) < (xs.length : Int) := by omega
      have o2 := O.out
      rw [List.take_of_length_le (by omega), List.drop_of_length_le (by simp; omega), List.append_nil] at o2
      clear O
      go_wp2
      go_ret
      exact ⟨_, rfl, o2.top, hB.out⟩
end Go.Proofs.Ytapchjkiiifhdaa.rg
/- Contracts of the laws' marks on rows of texts and of truths. -/
namespace Go.Proofs.Ytapchjkiiifhdaa.rg
open Go.ChangeShapes Go.WideShapes Go.ChangeAt Go.RowKit
open Go.Proofs.Ytapchjkiiifhdaa.ce Go.Proofs.Ytapchjkiiifhdaa.ro
set_option linter.unusedVariables false

theorem own_ty {α : Type} {E : Enc α} {w : World} {lo hi g n cap : Nat} {xs : List α} (o : Own E w lo hi (.slice (some ⟨g, 0, none⟩) n cap) xs) (h : 1 ≤ xs.length) (j : Nat) (x : Value) : Ty lo E.t w (w.setCell ⟨g, j, none⟩ x) := by
  rcases o.row with ⟨rfl, -⟩ | ⟨g2, cap2, cur, e2, hg, hb, -⟩
  · simp at h
  · cases e2
    exact ⟨(only_set w g j x).2.2 _ hg.1, fun k cur' t' f hk hn => (only_set w g j x).2.1 k fun e => by
      rw [e, hb] at hk
      simp at hk
      exact hn hk.2.1.symm⟩
theorem own_lo {α : Type} {E : Enc α} {w : World} {lo hi n cap : Nat} {a : Option Addr} {xs : List α} (o : Own E w lo hi (.slice a n cap) xs) (h : 1 ≤ xs.length) : lo ≤ w.heap.size := by
  obtain ⟨g, c, e, h1, h2, h3⟩ := o.form h
  omega
def dig (d : Nat) : ByteArray := ⟨#[UInt8.ofNat (48 + d)]⟩
/-- what markText tells -/
def mgo : Nat → Nat → ByteArray → ByteArray
  | 0, _, out => ⟨#[109]⟩ ++ out
  | f + 1, k, out => if k = 0 then ⟨#[109]⟩ ++ out else mgo f (k / 10) (dig (k % 10) ++ out)
theorem mgo_zero (f : Nat) (out : ByteArray) : mgo f 0 out = ⟨#[109]⟩ ++ out := by cases f <;> simp [mgo]
theorem mgo_step {f k : Nat} (h : 0 < k) (out : ByteArray) : mgo (f + 1) k out = mgo f (k / 10) (dig (k % 10) ++ out) := by
  simp only [mgo]
  rw [if_neg (by omega)]
def mtx (k : Nat) : ByteArray := mgo k k ⟨#[]⟩
theorem dig_conv (d : Nat) (h1 : d ≤ 9) (w : World) : (convert 54 9 (Value.slice (some { block := w.heap.size, off := 0 }) 1 1)).run Try.prog (w.alloc (Obj.cells #[Value.int IntKind.u8 (48 + (d : Int))] 5)) = .ok (.string (dig d)) (w.alloc (Obj.cells #[Value.int IntKind.u8 (48 + (d : Int))] 5)) :=
  run_convert_bytes_back (P := Try.prog) (w.alloc (Obj.cells #[Value.int IntKind.u8 (48 + (d : Int))] 5)) 54 9 5 ⟨w.heap.size, 0, none⟩ 1 [UInt8.ofNat (48 + d)] Try.underlying54 Try.underlying5 Try.underlying9 (fun j hj => by
    have hj0 : j = 0 := by simpa using hj
    subst hj0
    have e : (((UInt8.ofNat (48 + d)).toNat : Nat) : Int) = 48 + d := by
      rw [UInt8.toNat_ofNat']; omega
    simp only [List.getElem_cons_zero, e]
    show (w.alloc _).cell? ⟨w.heap.size, 0, none⟩ = _
    rw [cell_of_row _ _ 0 _ _ _ (heap_alloc_new w _)]; rfl)

theorem markText_any (k : Nat) (h0 : 1 ≤ k) (h1 : k ≤ 16777216) (w : World) :
    Calls Try.prog 90 #[.int .i64 k] w fun e w' => e = .returned (.string (mtx k)) ∧ Below w.heap.size w w' := by
  obtain ⟨C, hC⟩ := hid_ex (mtx k)
  rw [hC.out]
  have hk0 : ¬ (k : Int) ≤ 0 := by omega
  go_enter Try.func90, Try.ntmps90
  go_wp2
  go_loopw [0, 3] (fun v s wr => ∃ (q f : Nat) (out : ByteArray), v = .int .i64 q ∧ s = .string out ∧ q ≤ 16777216 ∧ Hid (q ≤ f) ∧ Hid (mgo f q out = C) ∧ out.size + q ≤ 16777216 ∧ Below w.heap.size w wr) (fun v _ _ => (intOf v).toNat)
  case atStart => exact ⟨k, k, ⟨#[]⟩, rfl, rfl, h1, Nat.le_refl _, hC, by show 0 + k ≤ 16777216; omega, Below.refl _ _⟩
  case round =>
    obtain ⟨q, f, out, rfl, rfl, hq1, hqf, hM, hsz, hB⟩ := hrel
    by_cases hq : 0 < q
    · have hq' : (0 : Int) < (q : Int) := by omega
      obtain ⟨f', rfl⟩ : ∃ f', f = f' + 1 := ⟨f - 1, by have := hqf.out; omega⟩
      have hM2 : Hid (mgo f' (q / 10) (dig (q % 10) ++ out) = C) := by unfold Hid; rw [← hM.out, mgo_step hq]
      have hqf2 : Hid (q / 10 ≤ f') := by have := hqf.out; unfold Hid; omega
      obtain ⟨d, hd⟩ := hid_ex (q % 10)
      have hd9 : d ≤ 9 := by have := hd.out; omega
      rw [hd.out] at hM2
      have hcv := dig_conv d hd9 wr
      have hds : (dig d).size = 1 := rfl
      have hmod : (q : Int) % 10 = (d : Int) := by have := hd.out; omega
      obtain ⟨q2, hq2⟩ := hid_ex (q / 10)
      rw [hq2.out] at hM2 hqf2
      have hq3 : q2 < q := by have := hq2.out; omega
      have hdiv : (q : Int) / 10 = (q2 : Int) := by have := hq2.out; omega
      have hout : (dig d ++ out).size = 1 + out.size := by rw [ByteArray.size_append]; rfl
      go_wp2
      go_roundw
      case rel => exact ⟨q2, f', dig d ++ out, rfl, rfl, by omega, hqf2, hM2, by omega, hB.alloc hB.size _⟩
      case measure => simp [intOf]; omega
    · have hq' : ¬ (0 : Int) < (q : Int) := by omega
      have eq0 : q = 0 := by omega
      have hM3 := hM.out
      rw [eq0, mgo_zero] at hM3
      subst hM3
      go_wp2
      go_ret
      exact ⟨rfl, hB⟩

def smarks (k n : Nat) : List ByteArray := (List.range n).map fun j => mtx (k + j)
theorem smarks_len (k n : Nat) : (smarks k n).length = n := by simp [smarks]
theorem smarks_succ (k n : Nat) : smarks k (n + 1) = smarks k n ++ [mtx (k + n)] := by simp [smarks, List.range_succ]
theorem smarks_get (k n i : Nat) (h : i < (smarks k n).length) : (smarks k n)[i] = mtx (k + i) := by simp [smarks]
theorem markTexts_any (xs : List ByteArray) (v : Value) (lo hi : Nat) (k : Nat) (hk : 1 ≤ k) (hk2 : k + xs.length ≤ 8000000) (mm : Nat) (hmm : mm = k + xs.length) (w : World) (own : Own encS w lo hi v xs) :
    Calls Try.prog 30 #[v, .int .i64 k] w fun e w' => e = .returned (.int .i64 mm) ∧ Own encS w' lo hi v (smarks k xs.length) ∧ Within lo hi w w' ∧ Ty lo 9 w w' := by
  obtain ⟨a, cap, rfl⟩ := own.rd.form
  have O0 : Hid (Own encS w lo hi (.slice a xs.length cap) xs) := own
  have HMM : Hid (mm = k + xs.length) := hmm
  clear own hmm
  go_enter Try.func30, Try.ntmps30
  go_wp2
  go_loopw [1, 5] (fun q v' wr => ∃ i m : Nat, i ≤ xs.length ∧ v' = .int .i64 i ∧ q = .int .i64 m ∧ Hid (m = k + i) ∧ Hid (Own encS wr lo hi (.slice a xs.length cap) (smarks k i ++ xs.drop i)) ∧ Hid (Within lo hi w wr) ∧ Hid (Ty lo 9 w wr)) (fun _ v' _ => xs.length - (intOf v').toNat)
  case atStart => exact ⟨0, k, by omega, rfl, rfl, rfl, by unfold Hid; simpa [smarks] using O0.out, Within.refl _ _ _, Ty.refl _ _ _⟩
  case round =>
    obtain ⟨i, m, hi1, rfl, rfl, hm, O, hW, hY⟩ := hrel
    by_cases hlt : i < xs.length
    · have hil : i < (smarks k i ++ xs.drop i).length := by simp [smarks_len]; omega
      obtain ⟨g, e1, hg, d0, f0⟩ := ownS_cell O.out i hil
      subst e1
      have hlt' : (i : Int) < (xs.length : Int) := by omega
      have hm1 : 1 ≤ m ∧ m ≤ 8000000 := by have := hm.out; omega
      have hel : mtx m = mtx (k + i) := by rw [hm.out]
      obtain ⟨z, hzz⟩ := hid_ex (mtx m)
      have hset : Hid ((smarks k i ++ xs.drop i).set i z = smarks k (i + 1) ++ xs.drop (i + 1)) := by
        unfold Hid
        rw [List.set_append_right _ _ (by rw [smarks_len]; omega), smarks_len, Nat.sub_self, List.drop_eq_getElem_cons hlt, List.set_cons_zero, smarks_succ, ← hel, hzz.out]
        simp
      clear hel
      clear d0 f0
      go_wp2_with (first | (go_at_call 90; refine (markText_any m (by omega) (by omega) _).mono ?_; rintro e w2 ⟨rfl, hB2⟩; rw [hzz.out]; obtain ⟨g', e', -, d0, f0⟩ := ownS_cell (O.out.grow hB2) i hil; cases e'; have O2 := O.out.grow hB2; have hz2 := hB2.size) | (fail))
      go_roundw
      case rel =>
        have h1 := ownS_set O2 i hil z
        rw [hset.out] at h1
        exact ⟨i + 1, m + 1, by omega, by go_num, by go_num, by have := hm.out; unfold Hid; omega, h1, (hW.out.trans (Within.of_below hB2 (Nat.le_refl _))).setCell hg.1 hg.2 _, (hY.out.trans (Ty.of_below hB2 (own_lo O.out (by omega)))).trans (own_ty O2 (by omega) _ _)⟩
      case measure => simp [intOf]; omega
    · have hlt' : ¬ (i : Int) < (xs.length : Int) := by omega
      have o2 := O.out
      rw [show i = xs.length by omega, List.drop_length, List.append_nil] at o2
      have hm3 : m = mm := by have := hm.out; have := HMM.out; omega
      subst hm3
      clear O
      go_wp2
      go_ret
      exact ⟨rfl, o2, hW.out, hY.out⟩

theorem heldTexts_any (n : Nat) (v : Value) (k : Nat) (hk : 1 ≤ k) (hk2 : k + n ≤ 8000000) (mm : Nat) (hmm : mm = k + n) (w : World) (r : Rd encS w v (smarks k n)) :
    Calls Try.prog 31 #[v, .int .i64 k] w fun e w' => e = .returned (.int .i64 mm) ∧ Below w.heap.size w w' := by
  obtain ⟨a, cap, rfl⟩ := r.form
  rw [smarks_len] at r ⊢
  have R : Hid (Rd encS w (.slice a n cap) (smarks k n)) := r
  have HMM : Hid (mm = k + n) := hmm
  clear r hmm
  go_enter Try.func31, Try.ntmps31
  go_wp2
  go_loopw [1, 5] (fun q v' wr => ∃ i m : Nat, i ≤ n ∧ v' = .int .i64 i ∧ q = .int .i64 m ∧ Hid (m = k + i) ∧ Below w.heap.size w wr) (fun _ v' _ => n - (intOf v').toNat)
  case atStart => exact ⟨0, k, by omega, rfl, rfl, rfl, Below.refl _ _⟩
  case round =>
    obtain ⟨i, m, hi1, rfl, rfl, hm, hB⟩ := hrel
    by_cases hlt : i < n
    · have hil : i < (smarks k n).length := by rw [smarks_len]; exact hlt
      obtain ⟨b, off, rfl, hb, d0⟩ := rdS_cell (R.out.grow hB) i hil
      rw [smarks_get] at d0
      have hlt' : (i : Int) < (n : Int) := by omega
      have hm1 : 1 ≤ m ∧ m ≤ 8000000 := by have := hm.out; omega
      rw [← hm.out] at d0
      obtain ⟨z, hzz⟩ := hid_ex (mtx m)
      rw [hzz.out] at d0
      have hze : (z.toList == z.toList) = true := by simp
      have S1 : wr.drew.cell? ⟨b, off + i, none⟩ = some (.string z) := d0
      go_wp2
      go_region_held3 (fun w' => w'.cell? ⟨b, off + i, none⟩ = some (.string z)) (first | assumption | exact d0) (first | (go_at_call 90; refine (markText_any m (by omega) (by omega) wr.drew).mono ?_; rintro e w2 ⟨rfl, hB2⟩; rw [hzz.out]; have hB3 : Below w.heap.size w w2 := hB.drew.trans (hB2.mono hB.size); have S2 : w2.cell? ⟨b, off + i, none⟩ = some (.string z) := (World.cell?_of_block (w := wr.drew) (w' := w2) (a := ⟨b, off + i, none⟩) (hB2.block b hb)).trans d0) | (fail))
      go_wp2
      go_roundw
      case rel => exact ⟨i + 1, m + 1, by omega, by go_num, by go_num, by have := hm.out; unfold Hid; omega, hB3⟩
      case measure => simp [intOf]; omega
    · have hlt' : ¬ (i : Int) < (n : Int) := by omega
      have hm3 : m = mm := by have := hm.out; have := HMM.out; omega
      subst hm3
      go_wp2
      go_ret
      exact ⟨rfl, hB⟩

def bmarks (k n : Nat) : List Bool := (List.range n).map fun j => ((((k + j : Nat) : Int) % 3) == 0)
theorem bmarks_len (k n : Nat) : (bmarks k n).length = n := by simp [bmarks]
theorem bmarks_succ (k n : Nat) : bmarks k (n + 1) = bmarks k n ++ [((((k + n : Nat) : Int) % 3) == 0)] := by simp [bmarks, List.range_succ]
theorem bmarks_get (k n i : Nat) (h : i < (bmarks k n).length) : (bmarks k n)[i] = ((((k + i : Nat) : Int) % 3) == 0) := by simp [bmarks]
theorem markBools_any (xs : List Bool) (v : Value) (lo hi : Nat) (k : Nat) (hk : 1 ≤ k) (hk2 : k + xs.length ≤ 8000000) (mm : Nat) (hmm : mm = k + xs.length) (w : World) (own : Own encB w lo hi v xs) :
    Calls Try.prog 132 #[v, .int .i64 k] w fun e w' => e = .returned (.int .i64 mm) ∧ Own encB w' lo hi v (bmarks k xs.length) ∧ Within lo hi w w' ∧ Ty lo 4 w w' := by
  obtain ⟨a, cap, rfl⟩ := own.rd.form
  have O0 : Hid (Own encB w lo hi (.slice a xs.length cap) xs) := own
  have HMM : Hid (mm = k + xs.length) := hmm
  clear own hmm
  go_enter Try.func132, Try.ntmps132
  go_wp2
  go_loopw [1, 5] (fun q v' wr => ∃ i m : Nat, i ≤ xs.length ∧ v' = .int .i64 i ∧ q = .int .i64 m ∧ Hid (m = k + i) ∧ Hid (Own encB wr lo hi (.slice a xs.length cap) (bmarks k i ++ xs.drop i)) ∧ Hid (Within lo hi w wr) ∧ Hid (Ty lo 4 w wr)) (fun _ v' _ => xs.length - (intOf v').toNat)
  case atStart => exact ⟨0, k, by omega, rfl, rfl, rfl, by unfold Hid; simpa [bmarks] using O0.out, Within.refl _ _ _, Ty.refl _ _ _⟩
  case round =>
    obtain ⟨i, m, hi1, rfl, rfl, hm, O, hW, hY⟩ := hrel
    by_cases hlt : i < xs.length
    · have hil : i < (bmarks k i ++ xs.drop i).length := by simp [bmarks_len]; omega
      obtain ⟨g, e1, hg, d0, f0⟩ := ownB_cell O.out i hil
      subst e1
      have hlt' : (i : Int) < (xs.length : Int) := by omega
      have hm1 : 1 ≤ m ∧ m ≤ 8000000 := by have := hm.out; omega
      have hel : ((((m : Nat) : Int) % 3) == 0) = ((((k + i : Nat) : Int) % 3) == 0) := by rw [hm.out]
      obtain ⟨z, hzz⟩ := hid_ex (((((m : Nat) : Int) % 3) == 0))
      have hset : Hid ((bmarks k i ++ xs.drop i).set i z = bmarks k (i + 1) ++ xs.drop (i + 1)) := by
        unfold Hid
        rw [List.set_append_right _ _ (by rw [bmarks_len]; omega), bmarks_len, Nat.sub_self, List.drop_eq_getElem_cons hlt, List.set_cons_zero, bmarks_succ, ← hel, hzz.out]
        simp
      clear hel
      have hz3 : (((m : Int) % 3) == 0) = z := by rw [← hzz.out]
      go_wp2
      go_roundw
      case rel =>
        have h1 := ownB_set O.out i hil z
        rw [hset.out] at h1
        exact ⟨i + 1, m + 1, by omega, by go_num, by go_num, by have := hm.out; unfold Hid; omega, h1, hW.out.setCell hg.1 hg.2 _, hY.out.trans (own_ty O.out (by omega) _ _)⟩
      case measure => simp [intOf]; omega
    · have hlt' : ¬ (i : Int) < (xs.length : Int) := by omega
      have o2 := O.out
      rw [show i = xs.length by omega, List.drop_length, List.append_nil] at o2
      have hm3 : m = mm := by have := hm.out; have := HMM.out; omega
      subst hm3
      clear O
      go_wp2
      go_ret
      exact ⟨rfl, o2, hW.out, hY.out⟩

theorem heldBools_any (n : Nat) (v : Value) (k : Nat) (hk : 1 ≤ k) (hk2 : k + n ≤ 8000000) (mm : Nat) (hmm : mm = k + n) (w : World) (r : Rd encB w v (bmarks k n)) :
    Calls Try.prog 134 #[v, .int .i64 k] w fun e w' => e = .returned (.int .i64 mm) ∧ Below w.heap.size w w' := by
  obtain ⟨a, cap, rfl⟩ := r.form
  rw [bmarks_len] at r ⊢
  have R : Hid (Rd encB w (.slice a n cap) (bmarks k n)) := r
  have HMM : Hid (mm = k + n) := hmm
  clear r hmm
  go_enter Try.func134, Try.ntmps134
  go_wp2
  go_loopw [1, 5] (fun q v' wr => ∃ i m : Nat, i ≤ n ∧ v' = .int .i64 i ∧ q = .int .i64 m ∧ Hid (m = k + i) ∧ Below w.heap.size w wr) (fun _ v' _ => n - (intOf v').toNat)
  case atStart => exact ⟨0, k, by omega, rfl, rfl, rfl, Below.refl _ _⟩
  case round =>
    obtain ⟨i, m, hi1, rfl, rfl, hm, hB⟩ := hrel
    by_cases hlt : i < n
    · have hil : i < (bmarks k n).length := by rw [bmarks_len]; exact hlt
      obtain ⟨b, off, rfl, hb, d0⟩ := rdB_cell (R.out.grow hB) i hil
      rw [bmarks_get] at d0
      have hlt' : (i : Int) < (n : Int) := by omega
      have hm1 : 1 ≤ m ∧ m ≤ 8000000 := by have := hm.out; omega
      rw [← hm.out] at d0
      obtain ⟨z, hzz⟩ := hid_ex (((((m : Nat) : Int) % 3) == 0))
      rw [hzz.out] at d0
      have hz3 : (((m : Int) % 3) == 0) = z := by rw [← hzz.out]
      have hze : (z != z) = false := by simp
      go_wp2
      go_roundw
      case rel => exact ⟨i + 1, m + 1, by omega, by go_num, by go_num, by have := hm.out; unfold Hid; omega, hB⟩
      case measure => simp [intOf]; omega
    · have hlt' : ¬ (i : Int) < (n : Int) := by omega
      have hm3 : m = mm := by have := hm.out; have := HMM.out; omega
      subst hm3
      go_wp2
      go_ret
      exact ⟨rfl, hB⟩
end Go.Proofs.Ytapchjkiiifhdaa.rg
/- Rows of texts among the arguments. -/
namespace Go.Proofs.Ytapchjkiiifhdaa.rg
open Go.ChangeShapes Go.WideShapes Go.ChangeAt Go.RowKit
open Go.Deep Go.Joins
open Go.Proofs.Ytapchjkiiifhdaa.ce Go.Proofs.Ytapchjkiiifhdaa.ro
set_option linter.unusedVariables false

theorem add_noneR {a : Addr} (h : a.spot = none) (j : Nat) : a.add j = ⟨a.block, a.off + j, none⟩ := by
  obtain ⟨b, o, s⟩ := a
  simp at h
  subst h
  simp [Addr.add]
theorem rd_of_trod {α : Type} [Inhabited α] (E : Enc α) (hk : E.k = 1) (p : α → Prop) {H : Type} {enc : TypeId × Value → H} {w : World} {n : Nat} {v : Value} {T : TypeId} {x : DataW H × List MemPlace} (hT : Try.prog.underlying T = some (.slice E.t)) (hc : Try.prog.cellsOf E.t = 1)
    (dec : ∀ m cs y, DataW.trod enc Try.prog w 0 (fun _ => true) true m E.t cs = some y → ∃ z, cs = E.put z ∧ p z)
    (h : DataW.trod enc Try.prog w 0 (fun _ => true) true n T [v] = some x) : ∃ L, Rd E w v L ∧ ∀ z ∈ L, p z := by
  rcases open_slice hT h with ⟨hcs, -⟩ | ⟨a, len, cap, m, n', D, Pl, hcs, -, hl, hm, hmm, -, hrow⟩
  · obtain rfl : v = .slice none 0 0 := by simpa using hcs
    exact ⟨[], rd_zero E w none 0 (Nat.zero_le _), fun k hk => by simp at hk⟩
  · obtain rfl : v = .slice (some a) len cap := by simpa using hcs
    rw [hc] at hrow
    have hlm : len ≤ m := by rw [hmm]; simp; exact hl
    have hex : ∀ i, i < len → ∃ z : α, w.cells? 0 (a.add (i * 1)) 1 = some (E.put z) ∧ p z := fun i hi => by
      obtain ⟨cs', h1, h2⟩ := hrow i (by omega)
      obtain ⟨z, e0, hz⟩ := dec _ _ _ h2
      rw [e0] at h1
      exact ⟨z, h1, hz⟩
    obtain ⟨F, hF⟩ := choose_lt hex
    refine ⟨(List.range len).map F, ⟨some a, cap, by simp, by simpa using hl, hm, fun hn => ?_⟩, fun k hk => ?_⟩
    rotate_left
    · obtain ⟨i, hi, rfl⟩ := List.mem_map.1 hk
      exact (hF i (by simpa using hi)).2
    have h0 : 0 < len := by
      rcases Nat.eq_zero_or_pos len with e | e
      · subst e; exact absurd rfl hn
      · exact e
    have hcell : ∀ i, i < len → (E.put (F i))[0]? = w.cell? (a.add i) := fun i hi => by
      obtain ⟨h1, h2, h3⟩ := World.cells?_some (hF i hi).1
      have := h3 0 (by omega)
      rw [Nat.mul_one] at this
      have e : (a.add i).add 0 = a.add i := by obtain ⟨b, o, s⟩ := a; cases s <;> simp [Addr.add]
      rw [e] at this
      rw [this]
    have hsome : ∀ i, i < len → ∃ u, w.cell? (a.add i) = some u := fun i hi => by
      rw [← hcell i hi, List.getElem?_eq_getElem (by rw [E.len, hk]; decide)]
      exact ⟨_, rfl⟩
    have hspot : a.spot = none := by
      obtain ⟨u, hu⟩ := hsome 0 h0
      have h5 : (a.add 0).spot = none := World.cell?_spot hu
      obtain ⟨b, o, s⟩ := a
      cases s with
      | none => rfl
      | some s => simp [Addr.add] at h5
    have hlt : a.block < w.heap.size := by
      obtain ⟨u, hu⟩ := hsome 0 h0
      rw [add_noneR hspot] at hu
      exact World.block_lt_of_cell? w ⟨a.block, a.off + 0, none⟩ hu
    refine ⟨a.block, a.off, by obtain ⟨b, o, s⟩ := a; simp at hspot; subst hspot; rfl, hlt, fun k u hku => ?_⟩
    have hkl : k < len := by
      have := (List.getElem?_eq_some_iff.1 hku).1
      rw [Enc.row_len, hk] at this
      simpa using this
    have hg := E.row_get ((List.range len).map F) k 0 (by simpa using hkl) (by rw [hk]; decide)
    rw [hk, Nat.mul_one, Nat.add_zero] at hg
    rw [hg] at hku
    have e : ((List.range len).map F)[k]'(by simpa using hkl) = F k := by simp
    rw [e, hcell k hkl, add_noneR hspot] at hku
    exact hku
theorem cellsStr : Try.prog.cellsOf 9 = 1 := by kernel_rfl
theorem rdS_of_trod {H : Type} {enc : TypeId × Value → H} {w : World} {n : Nat} {v : Value} {x : DataW H × List MemPlace} (h : DataW.trod enc Try.prog w 0 (fun _ => true) true n 22 [v] = some x) : ∃ L, Rd encS w v L ∧ ∀ s ∈ L, s.size ≤ 9223372036854775807 :=
  rd_of_trod encS rfl _ Try.underlying22 cellsStr (fun m cs y hy => by
    obtain ⟨s, e, -, h1⟩ := DataW.trod_string Try.underlying9 hy
    exact ⟨s, e, h1⟩) h
end Go.Proofs.Ytapchjkiiifhdaa.rg
/- Contracts of the laws' helpers on rings; a ring among the arguments. -/
namespace Go.Proofs.Ytapchjkiiifhdaa.rg
open Go.ChangeShapes Go.WideShapes Go.ChangeAt Go.RowKit
open Go.Deep Go.Joins
open Go.Proofs.Ytapchjkiiifhdaa.ce Go.Proofs.Ytapchjkiiifhdaa.ro
set_option linter.unusedVariables false

theorem cellsBoo : Try.prog.cellsOf 4 = 1 := by kernel_rfl
theorem cellsInt : Try.prog.cellsOf 2 = 1 := by kernel_rfl
theorem cellsSs : Try.prog.cellsOf 22 = 1 := by kernel_rfl
theorem cellsBs : Try.prog.cellsOf 23 = 1 := by kernel_rfl
theorem cellsLRg : Try.prog.cellsOf 25 = 3 := by kernel_rfl
theorem rdB_of_trod {H : Type} {enc : TypeId × Value → H} {w : World} {n : Nat} {v : Value} {x : DataW H × List MemPlace} (h : DataW.trod enc Try.prog w 0 (fun _ => true) true n 23 [v] = some x) : ∃ L, Rd encB w v L := by
  obtain ⟨L, hL, -⟩ := rd_of_trod encB rfl (fun _ => True) Try.underlying23 cellsBoo (fun m cs y hy => by
    obtain ⟨s, e, -⟩ := DataW.trod_bool Try.underlying4 hy
    exact ⟨s, e, trivial⟩) h
  exact ⟨L, hL⟩
set_option maxRecDepth 100000 in
/-- a ring among the arguments -/
theorem open_ring {H : Type} {enc : TypeId × Value → H} {W : World} {r : Reach} {b0 : Nat} {v : Value} {d : DataW H} {p : List MemPlace} (hw : Value.okWide Try.prog W r b0 25 v) (h : DataW.Trod enc Try.prog W 0 (fun _ => true) true 25 v d p) :
    ∃ vN vU rr, v = .agg #[vN, vU, .int .i64 rr.A] ∧ RdR W vN vU rr := by
  obtain ⟨cs, rfl, hsz⟩ := okWide_struct Try.underlying25 hw
  obtain ⟨m, hm⟩ := h
  have hm' : DataW.trod enc Try.prog W 0 (fun _ => true) true m 25 cs.toList = some (d, p) := by simpa [Value.cells] using hm
  obtain ⟨xs, m', -, -, hl, hxs, hf⟩ := DataW.trod_struct Try.underlying25 hm'
  rw [cellsLRg] at hl
  have e : ∃ v0 v1 v2, cs.toList = [v0, v1, v2] := by
    match cs.toList, hl with
    | [v0, v1, v2], _ => exact ⟨v0, v1, v2, rfl⟩
  obtain ⟨v0, v1, v2, e⟩ := e
  rw [e] at hf
  match xs, hxs with
  | [y0, y1, y2], _ =>
    have h0 := hf 0 _ rfl
    have h1 := hf 1 _ rfl
    have h2 := hf 2 _ rfl
    simp [cellsInt, cellsSs, cellsBs] at h0 h1 h2
    obtain ⟨N, rN, sN⟩ := rdS_of_trod h0
    obtain ⟨U, rU⟩ := rdB_of_trod h1
    obtain ⟨n, e0, -, -⟩ := DataW.trod_int Try.underlying2 h2
    simp at e0
    subst e0
    refine ⟨v0, v1, ⟨N, U, n⟩, ?_, ⟨rN, rU, sN⟩⟩
    have e2 : cs = #[v0, v1, .int .i64 n] := by rw [← Array.toArray_toList (xs := cs), e]
    rw [e2]

set_option maxRecDepth 100000 in
theorem szRing_any (r : Rg) (vN vU : Value) (w : World) (h : RdR w vN vU r) :
    Calls Try.prog 62 #[.agg #[vN, vU, .int .i64 r.A], .int .i64 1048576] w fun e w' => ∃ q : Int, e = .returned (.int .i64 q) ∧ Below w.heap.size w w' ∧ (0 ≤ q → r.N.length ≤ 1048576 ∧ r.U.length ≤ 1048576) := by
  obtain ⟨a, cap, rfl⟩ := h.n.form
  obtain ⟨c, dc, rfl⟩ := h.u.form
  have R : Hid (RdR w (.slice a r.N.length cap) (.slice c r.U.length dc) r) := h
  clear h
  have m1 : Hid True := trivial
  go_enter Try.func62, Try.ntmps62
  go_wp2_with (first | (clear m1; refine wpList_box_v rfl 25 _ rfl [.slice a r.N.length cap, .slice c r.U.length dc, .int .i64 r.A] rfl ?_; intro b2 w1 hb2 hw2 hB1 V2; have hz1 := hB1.size; obtain ⟨c0, c1, c2⟩ := cells3 V2) | (go_at_call 63; refine (szTexts_any r.N _ 1048576 (by omega) (by omega) _ (R.out.grow hB1).n R.out.s).mono ?_; rintro e wq ⟨q, rfl, hq, hq1, hq2⟩; subst wq; by_cases hneg : q < 0) | (go_at_call 120; refine (szBools_any r.U _ q (by omega) (by omega) _ (R.out.grow hB1).u).mono ?_; rintro e wq ⟨q', rfl, hq', hq3⟩; subst wq; by_cases hneg2 : q' < 0) | (fail))
  · go_ret
    exact ⟨-1, rfl, hB1, fun z => by omega⟩
  · go_ret
    exact ⟨-1, rfl, hB1, fun z => by omega⟩
  · go_ret
    exact ⟨q', rfl, hB1, fun z => ⟨by have := hq2 (by omega); omega, by have := hq3 (by omega); omega⟩⟩

set_option maxRecDepth 100000 in
set_option maxHeartbeats 1000000 in
theorem toRing_any (r : Rg) (vN vU : Value) (w : World) (h : RdR w vN vU r) (hN : r.N.length ≤ 1048576) (hU : r.U.length ≤ 1048576) :
    Calls Try.prog 68 #[.agg #[vN, vU, .int .i64 r.A]] w fun e w' => ∃ vN' vU', e = .returned (.agg #[vN', vU', .int .i64 r.A]) ∧ OwnR w' w.heap.size w'.heap.size vN' vU' r ∧ Below w.heap.size w w' := by
  obtain ⟨a, cap, rfl⟩ := h.n.form
  obtain ⟨c, dc, rfl⟩ := h.u.form
  have R : Hid (RdR w (.slice a r.N.length cap) (.slice c r.U.length dc) r) := h
  clear h
  have m1 : Hid True := trivial
  have m2 : Hid True := trivial
  have m3 : Hid True := trivial
  go_enter Try.func68, Try.ntmps68
  go_wp2_with (first | (clear m1; refine wpList_box_v rfl 25 _ rfl [.slice a r.N.length cap, .slice c r.U.length dc, .int .i64 r.A] rfl ?_; intro b1 w1 hb1 hw1 hB1 V1; have hz1 := hB1.size) | (clear m2; refine wpList_alloc_v rfl 33 rfl _ zeroRg ?_; intro b2 w2 hb2 hw2 hB2 V2; have hz2 := hB2.size; replace V1 := vblk_grow V1 hB2; have hB := hB1.trans (hB2.mono hz1)) | (clear m3; refine wpList_alloc_v rfl 33 rfl _ zeroRg ?_; intro b3 w3 hb3 hw3 hB3 V3; have hz3 := hB3.size; replace V1 := vblk_grow V1 hB3; replace V2 := vblk_grow V2 hB3; replace hB := hB.trans (hB3.mono (by omega)); obtain ⟨c0, c1, c2⟩ := cells3 V1) | (go_at_call 69; refine (toTexts_any r.N _ _ (R.out.grow hB).n hN).mono ?_; rintro e w4 ⟨v4, rfl, n4, hB4⟩; have hz4 := hB4.size; replace V1 := vblk_grow V1 hB4; replace V2 := vblk_grow V2 hB4; replace V3 := vblk_grow V3 hB4; replace hB := hB.trans (hB4.mono (by omega)); obtain ⟨a4, l4, k4, rfl⟩ := n4.slice) | (refine wpList_store_ss rfl _ _ rfl b3 0 a4 l4 k4 rfl rfl V3 (by simp) ?_; intro w5 hO5 X3; have hz5 := Nat.le_of_eq hO5.1.symm; have hy5 := Nat.le_of_eq hO5.1; replace n4 := n4.only hO5 V3 (by decide); replace V1 := vblk_only V1 hO5 (by omega); replace V2 := vblk_only V2 hO5 (by omega); replace hB := hB.trans (hO5.2.2 _ (by omega)); clear V3; have V3 := X3; clear X3; clear c0 c1 c2; obtain ⟨c0, c1, c2⟩ := cells3 V1) | (go_at_call 123; refine (toBools_any r.U _ _ (R.out.grow hB).u hU).mono ?_; rintro e w6 ⟨v6, rfl, u6, hB6⟩; have hz6 := hB6.size; replace V1 := vblk_grow V1 hB6; replace V2 := vblk_grow V2 hB6; replace V3 := vblk_grow V3 hB6; replace n4 := n4.grow hB6; replace hB := hB.trans (hB6.mono (by omega)); obtain ⟨a6, l6, k6, rfl⟩ := u6.slice) | (refine wpList_store_bs rfl _ _ rfl b3 1 a6 l6 k6 rfl rfl V3 (by simp) ?_; intro w7 hO7 X3; have hz7 := Nat.le_of_eq hO7.1.symm; have hy7 := Nat.le_of_eq hO7.1; replace n4 := n4.only hO7 V3 (by decide); replace u6 := u6.only hO7 V3 (by decide); replace V1 := vblk_only V1 hO7 (by omega); replace V2 := vblk_only V2 hO7 (by omega); replace hB := hB.trans (hO7.2.2 _ (by omega)); clear V3; have V3 := X3; clear X3; clear c0 c1 c2; obtain ⟨c0, c1, c2⟩ := cells3 V1) | (refine wpList_store_n rfl _ _ rfl b3 2 r.A rfl rfl V3 (by simp) ?_; intro w8 hO8 X3; have hz8 := Nat.le_of_eq hO8.1.symm; have hy8 := Nat.le_of_eq hO8.1; replace n4 := n4.only hO8 V3 (by decide); replace u6 := u6.only hO8 V3 (by decide); replace V2 := vblk_only V2 hO8 (by omega); replace hB := hB.trans (hO8.2.2 _ (by omega)); clear V3; have V3 := X3; clear X3; clear c0 c1 c2; obtain ⟨c0, c1, c2⟩ := cells3 V3) | (refine wpList_store_v rfl 33 _ _ rfl b2 [.slice a4 l4 k4, .slice a6 l6 k6, .int .i64 r.A] rfl rfl sizeRg V2 rfl (by simp [Value.oneCell']) ?_; intro w9 hO9 V9; replace n4 := n4.only hO9 V2 (by decide); replace u6 := u6.only hO9 V2 (by decide); replace hB := hB.trans (hO9.2.2 _ (by omega))) | (fail))
  exact row_retv rfl rfl V9 Try.underlying33 sizeRg rfl ⟨_, _, rfl, ⟨(n4.wide (by omega) (Nat.le_refl _)).top, (u6.wide (by omega) (Nat.le_refl _)).top⟩, hB⟩

set_option maxRecDepth 100000 in
theorem eqRing_any (r : Rg) (vN vU vN' vU' : Value) (w : World) (hn : Rd encS w vN r.N) (hu : Rd encB w vU r.U) (hn' : Rd encS w vN' r.N) (hu' : Rd encB w vU' r.U) :
    Calls Try.prog 72 #[.agg #[vN, vU, .int .i64 r.A], .agg #[vN', vU', .int .i64 r.A]] w fun e w' => e = .returned (.bool true) ∧ Below w.heap.size w w' := by
  obtain ⟨a, cap, rfl⟩ := hn.form
  obtain ⟨c, dc, rfl⟩ := hu.form
  obtain ⟨a', cap', rfl⟩ := hn'.form
  obtain ⟨c', dc', rfl⟩ := hu'.form
  have R1 : Hid (Rd encS w (.slice a r.N.length cap) r.N) := hn
  have R2 : Hid (Rd encB w (.slice c r.U.length dc) r.U) := hu
  have R3 : Hid (Rd encS w (.slice a' r.N.length cap') r.N) := hn'
  have R4 : Hid (Rd encB w (.slice c' r.U.length dc') r.U) := hu'
  clear hn hu hn' hu'
  have hAA : (r.A != r.A) = false := by simp
  have m1 : Hid True := trivial
  have m2 : Hid True := trivial
  go_enter Try.func72, Try.ntmps72
  go_wp2_with (first | (clear m1; refine wpList_box_v rfl 33 _ rfl [.slice a r.N.length cap, .slice c r.U.length dc, .int .i64 r.A] rfl ?_; intro b1 w1 hb1 hw1 hB1 V1; have hz1 := hB1.size) | (clear m2; refine wpList_box_v rfl 33 _ rfl [.slice a' r.N.length cap', .slice c' r.U.length dc', .int .i64 r.A] rfl ?_; intro b2 w2 hb2 hw2 hB2 V2; have hz2 := hB2.size; replace V1 := vblk_grow V1 hB2; have hB := hB1.trans (hB2.mono hz1); obtain ⟨c0, c1, c2⟩ := cells3 V1; obtain ⟨d0, d1, d2⟩ := cells3 V2) | (go_at_call 29; refine (eqTexts_any r.N _ _ _ (R1.out.grow hB) (R3.out.grow hB)).mono ?_; rintro e w3 ⟨rfl, hB3⟩; have hz3 := hB3.size; replace V1 := vblk_grow V1 hB3; replace V2 := vblk_grow V2 hB3; replace hB := hB.trans (hB3.mono (by omega)); clear c0 c1 c2 d0 d1 d2; obtain ⟨c0, c1, c2⟩ := cells3 V1; obtain ⟨d0, d1, d2⟩ := cells3 V2) | (go_at_call 130; refine (eqBools_any r.U _ _ _ (R2.out.grow hB) (R4.out.grow hB)).mono ?_; rintro e w4 ⟨rfl, hB4⟩; have hz4 := hB4.size; replace V1 := vblk_grow V1 hB4; replace V2 := vblk_grow V2 hB4; replace hB := hB.trans (hB4.mono (by omega)); clear c0 c1 c2 d0 d1 d2; obtain ⟨c0, c1, c2⟩ := cells3 V1; obtain ⟨d0, d1, d2⟩ := cells3 V2) | (fail))
  go_ret
  exact ⟨rfl, hB⟩

/-- a ring with marks -/
def mkR (r : Rg) : Rg := ⟨smarks 1 r.N.length, bmarks (1 + r.N.length) r.U.length, r.A⟩
set_option maxRecDepth 100000 in
theorem markRing_any (r : Rg) (mm : Nat) (hmm : mm = 1 + r.N.length + r.U.length) (hN : r.N.length ≤ 1048576) (hU : r.U.length ≤ 1048576) (vN vU : Value) (lo hi : Nat) (w : World) (o : OwnR w lo hi vN vU r) :
    Calls Try.prog 76 #[.agg #[vN, vU, .int .i64 r.A], .int .i64 1] w fun e w' => e = .returned (.int .i64 mm) ∧ OwnR w' lo hi vN vU (mkR r) ∧ Within lo hi w w' := by
  obtain ⟨a, n, cap, rfl⟩ := o.n.slice
  obtain ⟨c, m, dc, rfl⟩ := o.u.slice
  have O : Hid (OwnR w lo hi (.slice a n cap) (.slice c m dc) r) := o
  have HM : Hid (mm = 1 + r.N.length + r.U.length) := hmm
  clear o hmm
  obtain ⟨m2, hm2⟩ : ∃ m2 : Nat, Hid (m2 = 1 + r.N.length) := ⟨_, rfl⟩
  have k1 : Hid True := trivial
  go_enter Try.func76, Try.ntmps76
  go_wp2_with (first | (clear k1; refine wpList_box_v rfl 33 _ rfl [.slice a n cap, .slice c m dc, .int .i64 r.A] rfl ?_; intro b1 w1 hb1 hw1 hB1 V1; have hz1 := hB1.size; obtain ⟨c0, c1, c2⟩ := cells3 V1; have O1 := O.out.grow hB1) | (go_at_call 30; refine (markTexts_any r.N _ lo hi 1 (by omega) (by omega) m2 hm2.out _ O1.n).mono ?_; rintro e w2 ⟨rfl, n2, hW2, hT2⟩; have u2 := hT2.own O1.u (by decide); have V2 := hT2.vblk V1 (by decide); clear c0 c1 c2; obtain ⟨c0, c1, c2⟩ := cells3 V2) | (go_at_call 132; refine (markBools_any r.U _ lo hi m2 (by have := hm2.out; omega) (by have := hm2.out; omega) mm (by have := hm2.out; have := HM.out; omega) _ u2).mono ?_; rintro e w3 ⟨rfl, u3, hW3, hT3⟩; have n3 := hT3.own n2 (by decide)) | (fail))
  go_ret
  have hm := hm2.out
  subst hm
  exact ⟨rfl, ⟨n3, u3⟩, ((Within.of_below hB1 (Nat.le_refl _)).trans hW2).trans hW3⟩

set_option maxRecDepth 100000 in
theorem heldRing_any (r : Rg) (mm : Nat) (hmm : mm = 1 + r.N.length + r.U.length) (hN : r.N.length ≤ 1048576) (hU : r.U.length ≤ 1048576) (vN vU : Value) (w : World) (hn : Rd encS w vN (mkR r).N) (hu : Rd encB w vU (mkR r).U) :
    Calls Try.prog 78 #[.agg #[vN, vU, .int .i64 r.A], .int .i64 1] w fun e w' => e = .returned (.int .i64 mm) ∧ Below w.heap.size w w' := by
  obtain ⟨a, n, cap, rfl⟩ : ∃ a n k, vN = .slice a n k := by obtain ⟨a, cap, e⟩ := hn.form; exact ⟨a, _, cap, e⟩
  obtain ⟨c, m, dc, rfl⟩ : ∃ a n k, vU = .slice a n k := by obtain ⟨a, cap, e⟩ := hu.form; exact ⟨a, _, cap, e⟩
  have R1 : Hid (Rd encS w (.slice a n cap) (smarks 1 r.N.length)) := hn
  obtain ⟨m2, hm2⟩ : ∃ m2 : Nat, Hid (m2 = 1 + r.N.length) := ⟨_, rfl⟩
  have R2 : Hid (Rd encB w (.slice c m dc) (bmarks m2 r.U.length)) := by have h := hu; have e := hm2.out; subst e; exact h
  have HM : Hid (mm = 1 + r.N.length + r.U.length) := hmm
  clear hn hu hmm
  have hp1 : ¬ (m2 : Int) < 0 := by omega
  have hp2 : ¬ (mm : Int) < 0 := by omega
  have k1 : Hid True := trivial
  go_enter Try.func78, Try.ntmps78
  go_wp2_with (first | (clear k1; refine wpList_box_v rfl 33 _ rfl [.slice a n cap, .slice c m dc, .int .i64 r.A] rfl ?_; intro b1 w1 hb1 hw1 hB1 V1; have hz1 := hB1.size; obtain ⟨c0, c1, c2⟩ := cells3 V1) | (go_at_call 31; refine (heldTexts_any r.N.length _ 1 (by omega) (by omega) m2 hm2.out _ (R1.out.grow hB1)).mono ?_; rintro e w2 ⟨rfl, hB2⟩; have hz2 := hB2.size; replace V1 := vblk_grow V1 hB2; have hB := hB1.trans (hB2.mono hz1); clear c0 c1 c2; obtain ⟨c0, c1, c2⟩ := cells3 V1) | (go_at_call 134; refine (heldBools_any r.U.length _ m2 (by have := hm2.out; omega) (by have := hm2.out; omega) mm (by have := hm2.out; have := HM.out; omega) _ (R2.out.grow hB)).mono ?_; rintro e w3 ⟨rfl, hB3⟩; replace hB := hB.trans (hB3.mono (by omega))) | (fail))
  go_ret
  exact ⟨rfl, hB⟩
end Go.Proofs.Ytapchjkiiifhdaa.rg
