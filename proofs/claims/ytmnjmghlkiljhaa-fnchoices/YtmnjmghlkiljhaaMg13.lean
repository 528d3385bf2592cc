/- Texts laid together: Cq2 Cq3 Hx1 Qp2 Qp3 Cq6 Cqf. -/
import Derived.Test.YtmnjmghlkiljhaaCh5
import Derived.Test.YtmnjmghlkiljhaaCq1
import Derived.Test.YtmnjmghlkiljhaaMg10
import Derived.Test.YtmnjmghlkiljhaaMg02
import Derived.Test.YtmnjmghlkiljhaaMg09
import Derived.Test.YtmnjmghlkiljhaaMg07
import Derived.Lib.SmallJoins
import Derived.Deep.Slices
import Derived.Deep.RegionHeld3
import Derived.BigQuiet
import Derived.Deep.DeepCutAuto
import Derived.Lib.MinMax
import Derived.Deep.LoopGhost
/- Contracts: the model's copy of a choice. -/
namespace Go.Proofs.Ytmnjmghlkiljhaa.rg
open Go.ChangeShapes Go.WideShapes Go.ChangeAt Go.RowKit
open Go.Deep Go.Joins
open Go.Proofs.Ytmnjmghlkiljhaa.ce Go.Proofs.Ytmnjmghlkiljhaa.ro
set_option linter.unusedVariables false
set_option linter.unusedSimpArgs false

section
variable {ops : Array Oper} {rest : List Oper} {o : Oper} {a : Act} {w : World} {Q : Exit → Act → World → Prop} {K : Act → World → Prop} {X : Prop}
theorem step_build0s (hgd : o.guard = none) (t e : TypeId) (i : TypeInfo) (ho : o.op = .buildSlice t 0 #[]) (ht : Try.prog.underlying t = some (.slice e)) (hi : Try.prog.info? e = some i)
    (h : ∀ (b : Nat) (w' : World), Below w.heap.size w w' → K (a.put o.dst (.slice (some ⟨b, 0, none⟩) 0 0)) w') : if Region.wanted o (yielded ops a.tmps) = true then Oper.wp Try.prog o a w K Q else X := by
  refine step_val hgd (v := .slice (some ⟨w.heap.size, 0, none⟩) 0 0) (w' := w.alloc (.cells #[] e)) ?_ (h _ _ ((Below.refl _ _).alloc (Nat.le_refl _) _))
  simp [execOp, ho, run_build0s w t e i ht hi, Result.andThen]
end
/-- small enough to be copied -/
structure SmC (c : Ch) : Prop where
  n : c.R.N.length ≤ 1000000
  u : c.R.U.length ≤ 1000000
  q : c.Q.length ≤ 1000000
  s : sk.Four c.S
theorem smC_of {c : Ch} (h : chB c = true) : SmC c := by
  have hl := chB_len h
  unfold chB at h
  simp only [Bool.and_eq_true, decide_eq_true_eq] at h
  obtain ⟨⟨⟨hs, hr⟩, -⟩, -⟩ := h
  have hu := (ringB_iff.1 hr).us
  exact ⟨hl.2, by rw [hu]; exact hl.2, hl.1, hs.four⟩
set_option maxRecDepth 100000 in
set_option maxHeartbeats 8000000 in
theorem l16Copy_any (c : Ch) (hs : SmC c) (vN vU vQ vS : Value) (w : World) (h : RdC w vN vU vQ vS c) :
    Calls Try.prog 61 #[.agg #[.int .i64 c.K, vN, vU, .int .i64 c.R.A, vQ, vS, .int .i64 c.D]] w fun e w' => ∃ vN' vU' vQ' vS', e = .returned (.agg #[.int .i64 c.K, vN', vU', .int .i64 c.R.A, vQ', vS', .int .i64 c.D]) ∧ OwnC w' w.heap.size w'.heap.size vN' vU' vQ' vS' c ∧ Below w.heap.size w w' := by
  obtain ⟨K, ⟨N, U, A⟩, Q, S, D⟩ := c
  obtain ⟨aN, cN, rfl⟩ := h.r.n.form
  obtain ⟨aU, cU, rfl⟩ := h.r.u.form
  obtain ⟨aQ, cQ, rfl⟩ := h.q.form
  obtain ⟨aS, cS, rfl⟩ := sk_form h.s

  have R : Hid (RdC w (.slice aN N.length cN) (.slice aU U.length cU) (.slice aQ Q.length cQ) (.slice aS S.length cS) ⟨K, ⟨N, U, A⟩, Q, S, D⟩) := h
  clear h
  obtain ⟨hN, hU, hQ, h4⟩ := hs
  dsimp only at hN hU hQ h4
  obtain ⟨iS, hiS⟩ := infoStrE
  go_enter Try.func61, Try.ntmps61
  have mk1 : Hid True := trivial
  have mk2 : Hid True := trivial
  go_upto_region 1 with (first | (clear mk1; refine wpList_box_v rfl 32 _ rfl [.int .i64 K, .slice aN N.length cN, .slice aU U.length cU, .int .i64 A, .slice aQ Q.length cQ, .slice aS S.length cS, .int .i64 D] rfl ?_; intro b1 w1 hb1 hwb1 hB1 c1; have hz1 : w.heap.size ≤ w1.heap.size := hB1.size; have hB := hB1; have hzw := hB.size; obtain ⟨c10, c11, c12, c13, c14, c15, c16⟩ := cells7c c1) | (clear mk2; refine wpList_alloc_v rfl 32 rfl [.int .i64 0, .slice none 0 0, .slice none 0 0, .int .i64 0, .slice none 0 0, .slice none 0 0, .int .i64 0] zeroCh ?_; intro b2 w2 hb2 hwb2 hB2 c2; have hz2 : w1.heap.size ≤ w2.heap.size := hB2.size; replace c1 := vblk_grow c1 hB2; replace hB := hB.trans (hB2.mono (by omega)); replace hzw := hB.size; clear c10 c11 c12 c13 c14 c15 c16; obtain ⟨c10, c11, c12, c13, c14, c15, c16⟩ := cells7c c1) | (fail))
  have hBd : Below w2.heap.size w2 w2.drew := (Below.refl _ _).drew
  have hzd : w2.drew.heap.size ≤ w2.heap.size := Nat.le_refl _
  have hzd2 : w2.heap.size ≤ w2.drew.heap.size := Nat.le_refl _
  replace c1 := vblk_grow c1 hBd
  clear c10 c11 c12 c13 c14 c15 c16
  obtain ⟨c10, c11, c12, c13, c14, c15, c16⟩ := cells7c c1
  replace c2 := vblk_grow c2 hBd
  replace hB := hB.trans (hBd.mono (by omega))
  replace hzw := hB.size
  (try simp only [Act.put])
  (try simp only [List.setIfInBounds_toArray, List.set_cons_zero, List.set_cons_succ])
  clear c10 c11 c12 c13 c14 c15 c16
  refine wp_region_held_drew (S := fun w' => w'.cell? ⟨b1, 0, none⟩ = some (.int .i64 K) ∧ w'.cell? ⟨b1, 1, none⟩ = some (.slice aN N.length cN) ∧ w'.cell? ⟨b1, 2, none⟩ = some (.slice aU U.length cU) ∧ w'.cell? ⟨b1, 3, none⟩ = some (.int .i64 A) ∧ w'.cell? ⟨b1, 4, none⟩ = some (.slice aQ Q.length cQ) ∧ w'.cell? ⟨b1, 5, none⟩ = some (.slice aS S.length cS) ∧ w'.cell? ⟨b1, 6, none⟩ = some (.int .i64 D)) (by kernel_rfl) (cells7c c1) (fun hHeld => ?_)
  refine wpAnyH_take (i := 0) (oi := { dst := some 3, op := Op.fieldAddr 32 (Operand.tmp 1) 0, type := 0, pos := "l16_choice.go:20", after := #[], guard := none }) (v := ?_) rfl (by kernel_rfl) (by kernel_rfl) (by kernel_rfl) (fun _ _ _ h => h) (Or.inl ⟨by rfl, ?_⟩) (by assumption) ?_
  rotate_left 1
  · intro w' hSw; (try dsimp only at hSw); go_simp; (try with_reducible rfl)
  (try simp only [Act.put, List.setIfInBounds_toArray, List.set_cons_zero, List.set_cons_succ])
  refine wpAnyH_take (i := 1) (oi := { dst := some 4, op := Op.load 2 (Operand.tmp 3), type := 2, pos := "l16_choice.go:20", after := #[{ on := 0, ground := Ground.data }], guard := none }) (v := ?_) rfl (by kernel_rfl) (by kernel_rfl) (by kernel_rfl) (fun _ _ _ h => h) (Or.inl ⟨by rfl, ?_⟩) (by assumption) ?_
  rotate_left 1
  · intro w' hSw; (try dsimp only at hSw); go_simp; (try with_reducible rfl)
  (try simp only [Act.put, List.setIfInBounds_toArray, List.set_cons_zero, List.set_cons_succ])
  refine wpAnyH_take (i := 2) (oi := { dst := some 5, op := Op.fieldAddr 32 (Operand.tmp 1) 1, type := 0, pos := "l16_choice.go:20", after := #[], guard := none }) (v := ?_) rfl (by kernel_rfl) (by kernel_rfl) (by kernel_rfl) (fun _ _ _ h => h) (Or.inl ⟨by rfl, ?_⟩) (by assumption) ?_
  rotate_left 1
  · intro w' hSw; (try dsimp only at hSw); go_simp; (try with_reducible rfl)
  (try simp only [Act.put, List.setIfInBounds_toArray, List.set_cons_zero, List.set_cons_succ])
  refine wpAnyH_take (i := 3) (oi := { dst := some 6, op := Op.load 27 (Operand.tmp 5), type := 27, pos := "l16_choice.go:20", after := #[{ on := 2, ground := Ground.data }], guard := none }) (v := ?_) rfl (by kernel_rfl) (by kernel_rfl) (by kernel_rfl) (fun _ _ _ h => h) (Or.inl ⟨by rfl, ?_⟩) (by assumption) ?_
  rotate_left 1
  · intro w' hSw; (try dsimp only at hSw); go_simp; (try with_reducible rfl)
  (try simp only [Act.put, List.setIfInBounds_toArray, List.set_cons_zero, List.set_cons_succ])
  refine wpAnyH_take (i := 6) (oi := { dst := some 9, op := Op.fieldAddr 32 (Operand.tmp 1) 2, type := 0, pos := "l16_choice.go:20", after := #[], guard := none }) (v := ?_) rfl (by kernel_rfl) (by kernel_rfl) (by kernel_rfl) (fun _ _ _ h => h) (Or.inl ⟨by rfl, ?_⟩) (by assumption) ?_
  rotate_left 1
  · intro w' hSw; (try dsimp only at hSw); go_simp; (try with_reducible rfl)
  (try simp only [Act.put, List.setIfInBounds_toArray, List.set_cons_zero, List.set_cons_succ])
  refine wpAnyH_take (i := 7) (oi := { dst := some 10, op := Op.load 24 (Operand.tmp 9), type := 24, pos := "l16_choice.go:20", after := #[{ on := 6, ground := Ground.data }], guard := none }) (v := ?_) rfl (by kernel_rfl) (by kernel_rfl) (by kernel_rfl) (fun _ _ _ h => h) (Or.inl ⟨by rfl, ?_⟩) (by assumption) ?_
  rotate_left 1
  · intro w' hSw; (try dsimp only at hSw); go_simp; (try with_reducible rfl)
  (try simp only [Act.put, List.setIfInBounds_toArray, List.set_cons_zero, List.set_cons_succ])
  refine wpAnyH_take (i := 9) (oi := { dst := some 12, op := Op.fieldAddr 32 (Operand.tmp 1) 3, type := 0, pos := "l16_choice.go:20", after := #[], guard := none }) (v := ?_) rfl (by kernel_rfl) (by kernel_rfl) (by kernel_rfl) (fun _ _ _ h => h) (Or.inl ⟨by rfl, ?_⟩) (by assumption) ?_
  rotate_left 1
  · intro w' hSw; (try dsimp only at hSw); go_simp; (try with_reducible rfl)
  (try simp only [Act.put, List.setIfInBounds_toArray, List.set_cons_zero, List.set_cons_succ])
  refine wpAnyH_take (i := 10) (oi := { dst := some 13, op := Op.load 30 (Operand.tmp 12), type := 30, pos := "l16_choice.go:20", after := #[{ on := 9, ground := Ground.data }], guard := none }) (v := ?_) rfl (by kernel_rfl) (by kernel_rfl) (by kernel_rfl) (fun _ _ _ h => h) (Or.inl ⟨by rfl, ?_⟩) (by assumption) ?_
  rotate_left 1
  · intro w' hSw; (try dsimp only at hSw); go_simp; (try with_reducible rfl)
  (try simp only [Act.put, List.setIfInBounds_toArray, List.set_cons_zero, List.set_cons_succ])
  refine wpAnyH_ready (rs := [4, 5]) (by kernel_rfl) (by simp) ?_
  refine AllReadyH.cons (o := { dst := some 7, op := Op.call { callee := Callee.value (Operand.func 106), args := #[Operand.tmp 6], argTypes := #[27] }, type := 27, pos := "l16_choice.go:20", after := #[{ on := 3, ground := Ground.data }], guard := none }) rfl (fun KC hKC => ?_) (AllReadyH.cons (o := { dst := some 8, op := Op.buildSlice 24 0 #[], type := 24, pos := "l16_choice.go:20", after := #[], guard := none }) rfl (fun KC hKC => ?_) AllReadyH.nil)
  · go_simp
    go_at_call 106
    refine (l8Copy_any ⟨N, U, A⟩ _ _ _ (R.out.grow hB).r hN hU).mono ?_
    rintro er wr4 ⟨vN8, vU8, rfl, oR, hBr4⟩
    have hzr4 : w2.drew.heap.size ≤ wr4.heap.size := hBr4.size
    (try replace oQ := oQ.grow hBr4)
    (try replace oS := ownS_grow oS hBr4)
    replace c1 := vblk_grow c1 hBr4
    replace c2 := vblk_grow c2 hBr4
    replace hB := hB.trans (hBr4.mono (by omega))
    replace hzw := hB.size
    obtain ⟨aN8, nN8, kN8, rfl⟩ := oR.n.slice
    obtain ⟨aU8, nU8, kU8, rfl⟩ := oR.u.slice
    refine hKC.out _ _ (cells7c c1) (fun hHeld2 => ?_)
    clear hKC KC hHeld
    have hHeld := hHeld2
    clear hHeld2
    (try simp only [Act.put, List.setIfInBounds_toArray, List.set_cons_zero, List.set_cons_succ])
    refine wpAnyH_ready (rs := [5]) (by kernel_rfl) (by simp) ?_
    refine AllReadyH.cons (o := { dst := some 8, op := Op.buildSlice 24 0 #[], type := 24, pos := "l16_choice.go:20", after := #[], guard := none }) rfl (fun KC hKC => ?_) AllReadyH.nil
    refine step_build0s rfl 24 _ iS rfl Try.underlying24 hiS ?_
    intro bE wr5 hBr5
    have hzr5 : wr4.heap.size ≤ wr5.heap.size := hBr5.size
    (try replace oR := oR.grow hBr5)
    (try replace oS := ownS_grow oS hBr5)
    replace c1 := vblk_grow c1 hBr5
    replace c2 := vblk_grow c2 hBr5
    replace hB := hB.trans (hBr5.mono (by omega))
    replace hzw := hB.size
    refine hKC.out _ _ (cells7c c1) (fun hHeld2 => ?_)
    clear hKC KC hHeld
    have hHeld := hHeld2
    clear hHeld2
    (try simp only [Act.put, List.setIfInBounds_toArray, List.set_cons_zero, List.set_cons_succ])
    refine wpAnyH_ready (rs := [8]) (by kernel_rfl) (by simp) ?_
    refine AllReadyH.cons (o := { dst := some 11, op := Op.call { callee := Callee.builtin Builtin.append, args := #[Operand.tmp 8, Operand.tmp 10], argTypes := #[24, 24] }, type := 24, pos := "l16_choice.go:20", after := #[{ on := 5, ground := Ground.data }, { on := 7, ground := Ground.data }, { on := 4, ground := Ground.chain }], guard := none }) rfl (fun KC hKC => ?_) AllReadyH.nil
    refine step_append_g infoS rfl _ _ 24 rfl Try.underlying24 wr5.heap.size 0 _ [] rfl (own_zero _ _ _ _ _) (Nat.le_refl _) _ Q rfl (R.out.grow hB).q (by simp; omega) ?_
    intro vQ8 wr8 oQ hTr8
    rw [List.nil_append] at oQ
    have hBr8 := hTr8.low
    have hzr8 : wr5.heap.size ≤ wr8.heap.size := hBr8.size
    (try replace oR := oR.grow hBr8)
    (try replace oS := ownS_grow oS hBr8)
    replace c1 := vblk_grow c1 hBr8
    replace c2 := vblk_grow c2 hBr8
    obtain ⟨aQ8, nQ8, kQ8, rfl⟩ := oQ.slice
    replace hB := hB.trans (hBr8.mono (by omega))
    replace hzw := hB.size
    refine hKC.out _ _ (cells7c c1) (fun hHeld2 => ?_)
    clear hKC KC hHeld
    have hHeld := hHeld2
    clear hHeld2
    (try simp only [Act.put, List.setIfInBounds_toArray, List.set_cons_zero, List.set_cons_succ])
    refine wpAnyH_ready (rs := [11]) (by kernel_rfl) (by simp) ?_
    refine AllReadyH.cons (o := { dst := some 14, op := Op.call { callee := Callee.value (Operand.func 107), args := #[Operand.tmp 13], argTypes := #[30] }, type := 30, pos := "l16_choice.go:20", after := #[{ on := 10, ground := Ground.data }, { on := 8, ground := Ground.chain }], guard := none }) rfl (fun KC hKC => ?_) AllReadyH.nil
    go_simp
    go_at_call 107
    refine (sk.l2Copy_any S h4 D _ _ _ (Nat.le_refl _) (R.out.grow hB).s).mono ?_
    rintro er wr11 ⟨vS8, rfl, oS, hBr11⟩
    have hzr11 : wr8.heap.size ≤ wr11.heap.size := hBr11.size
    (try replace oR := oR.grow hBr11)
    (try replace oQ := oQ.grow hBr11)
    replace c1 := vblk_grow c1 hBr11
    replace c2 := vblk_grow c2 hBr11
    replace hB := hB.trans (hBr11.mono (by omega))
    replace hzw := hB.size
    obtain ⟨aS8, nS8, kS8, rfl⟩ := sk.Own.form oS
    refine hKC.out _ _ (cells7c c1) (fun hHeld2 => ?_)
    clear hKC KC hHeld
    have hHeld := hHeld2
    clear hHeld2
    (try simp only [Act.put, List.setIfInBounds_toArray, List.set_cons_zero, List.set_cons_succ])
    refine wpAnyH_take (i := 12) (oi := { dst := some 15, op := Op.build 32 #[(0, Operand.tmp 4), (1, Operand.tmp 7), (2, Operand.tmp 11), (3, Operand.tmp 14)], type := 32, pos := "l16_choice.go:20", after := #[{ on := 1, ground := Ground.data }, { on := 4, ground := Ground.data }, { on := 8, ground := Ground.data }, { on := 11, ground := Ground.data }], guard := none }) (v := ?_) rfl (by kernel_rfl) (by kernel_rfl) (by kernel_rfl) (fun _ _ _ h => h) (Or.inl ⟨by rfl, ?_⟩) (by assumption) ?_
    rotate_left 1
    · intro w' hSw; (try dsimp only at hSw); go_simp; (try with_reducible rfl)
    (try simp only [Act.put, List.setIfInBounds_toArray, List.set_cons_zero, List.set_cons_succ])
    refine wpAnyH_ready (rs := [13]) (by kernel_rfl) (by simp) ?_
    refine AllReadyH.cons (o := { dst := none, op := Op.store 32 (Operand.tmp 2) (Operand.tmp 15), type := 0, pos := "l16_choice.go:20", after := #[{ on := 12, ground := Ground.data }, { on := 11, ground := Ground.chain }, { on := 0, ground := Ground.phase }, { on := 1, ground := Ground.phase }, { on := 2, ground := Ground.phase }, { on := 3, ground := Ground.phase }, { on := 4, ground := Ground.phase }, { on := 5, ground := Ground.phase }, { on := 6, ground := Ground.phase }, { on := 7, ground := Ground.phase }, { on := 8, ground := Ground.phase }, { on := 9, ground := Ground.phase }, { on := 10, ground := Ground.phase }, { on := 11, ground := Ground.phase }, { on := 12, ground := Ground.phase }], guard := none }) rfl (fun KC hKC => ?_) AllReadyH.nil
    refine step_store_v rfl 32 _ _ rfl b2 [.int .i64 K, .slice aN8 nN8 kN8, .slice aU8 nU8 kU8, .int .i64 A, .slice aQ8 nQ8 kQ8, .slice aS8 nS8 kS8, .int .i64 D] rfl rfl sizeCh c2 rfl (by simp [Value.oneCell']) ?_
    intro wr13 hOr13 c2x
    have hzr13 : wr11.heap.size ≤ wr13.heap.size := Nat.le_of_eq hOr13.1.symm
    have hyr13 : wr13.heap.size ≤ wr11.heap.size := Nat.le_of_eq hOr13.1
    replace c1 := vblk_only c1 hOr13 (by omega)
    replace oR := oR.only hOr13 c2 (by decide) (by decide)
    replace oQ := oQ.only hOr13 c2 (by decide)
    replace oS := sk.Own.keep oS (fun k h1 h2 => hOr13.2.1 k (by omega)) (Nat.le_of_eq hOr13.1.symm)
    clear c2
    have c2 := c2x
    clear c2x
    replace hB := hB.trans (hOr13.2.2 _ (by omega))
    replace hzw := hB.size
    (try replace hcur := cur_below hcur (hOr13.2.2 (p + 1) (by omega)) (by omega))
    refine hKC.out _ _ (cells7c c1) (fun hHeld2 => ?_)
    clear hKC KC hHeld
    have hHeld := hHeld2
    clear hHeld2
    (try simp only [Act.put])
    refine wpAnyH_done (by kernel_rfl) ?_ _
    go_wp2
    exact row_retv rfl rfl c2 Try.underlying32 sizeCh rfl ⟨_, _, _, _, rfl, ⟨⟨_, _, _, _, _, _, oR, oQ, oS, ⟨by omega, by omega, by omega, by omega, by omega, by omega⟩, by omega, by omega, by omega⟩, Nat.le_refl _⟩, hB⟩
  refine step_build0s rfl 24 _ iS rfl Try.underlying24 hiS ?_
  intro bE wr5 hBr5
  have hzr5 : w2.drew.heap.size ≤ wr5.heap.size := hBr5.size
  (try replace oR := oR.grow hBr5)
  (try replace oS := ownS_grow oS hBr5)
  replace c1 := vblk_grow c1 hBr5
  replace c2 := vblk_grow c2 hBr5
  replace hB := hB.trans (hBr5.mono (by omega))
  replace hzw := hB.size
  refine hKC.out _ _ (cells7c c1) (fun hHeld2 => ?_)
  clear hKC KC hHeld
  have hHeld := hHeld2
  clear hHeld2
  (try simp only [Act.put, List.setIfInBounds_toArray, List.set_cons_zero, List.set_cons_succ])
  refine wpAnyH_ready (rs := [4]) (by kernel_rfl) (by simp) ?_
  refine AllReadyH.cons (o := { dst := some 7, op := Op.call { callee := Callee.value (Operand.func 106), args := #[Operand.tmp 6], argTypes := #[27] }, type := 27, pos := "l16_choice.go:20", after := #[{ on := 3, ground := Ground.data }], guard := none }) rfl (fun KC hKC => ?_) AllReadyH.nil
  go_simp
  go_at_call 106
  refine (l8Copy_any ⟨N, U, A⟩ _ _ _ (R.out.grow hB).r hN hU).mono ?_
  rintro er wr4 ⟨vN8, vU8, rfl, oR, hBr4⟩
  have hzr4 : wr5.heap.size ≤ wr4.heap.size := hBr4.size
  (try replace oQ := oQ.grow hBr4)
  (try replace oS := ownS_grow oS hBr4)
  replace c1 := vblk_grow c1 hBr4
  replace c2 := vblk_grow c2 hBr4
  replace hB := hB.trans (hBr4.mono (by omega))
  replace hzw := hB.size
  obtain ⟨aN8, nN8, kN8, rfl⟩ := oR.n.slice
  obtain ⟨aU8, nU8, kU8, rfl⟩ := oR.u.slice
  refine hKC.out _ _ (cells7c c1) (fun hHeld2 => ?_)
  clear hKC KC hHeld
  have hHeld := hHeld2
  clear hHeld2
  (try simp only [Act.put, List.setIfInBounds_toArray, List.set_cons_zero, List.set_cons_succ])
  refine wpAnyH_ready (rs := [8]) (by kernel_rfl) (by simp) ?_
  refine AllReadyH.cons (o := { dst := some 11, op := Op.call { callee := Callee.builtin Builtin.append, args := #[Operand.tmp 8, Operand.tmp 10], argTypes := #[24, 24] }, type := 24, pos := "l16_choice.go:20", after := #[{ on := 5, ground := Ground.data }, { on := 7, ground := Ground.data }, { on := 4, ground := Ground.chain }], guard := none }) rfl (fun KC hKC => ?_) AllReadyH.nil
  refine step_append_g infoS rfl _ _ 24 rfl Try.underlying24 wr4.heap.size 0 _ [] rfl (own_zero _ _ _ _ _) (Nat.le_refl _) _ Q rfl (R.out.grow hB).q (by simp; omega) ?_
  intro vQ8 wr8 oQ hTr8
  rw [List.nil_append] at oQ
  have hBr8 := hTr8.low
  have hzr8 : wr4.heap.size ≤ wr8.heap.size := hBr8.size
  (try replace oR := oR.grow hBr8)
  (try replace oS := ownS_grow oS hBr8)
  replace c1 := vblk_grow c1 hBr8
  replace c2 := vblk_grow c2 hBr8
  obtain ⟨aQ8, nQ8, kQ8, rfl⟩ := oQ.slice
  replace hB := hB.trans (hBr8.mono (by omega))
  replace hzw := hB.size
  refine hKC.out _ _ (cells7c c1) (fun hHeld2 => ?_)
  clear hKC KC hHeld
  have hHeld := hHeld2
  clear hHeld2
  (try simp only [Act.put, List.setIfInBounds_toArray, List.set_cons_zero, List.set_cons_succ])
  refine wpAnyH_ready (rs := [11]) (by kernel_rfl) (by simp) ?_
  refine AllReadyH.cons (o := { dst := some 14, op := Op.call { callee := Callee.value (Operand.func 107), args := #[Operand.tmp 13], argTypes := #[30] }, type := 30, pos := "l16_choice.go:20", after := #[{ on := 10, ground := Ground.data }, { on := 8, ground := Ground.chain }], guard := none }) rfl (fun KC hKC => ?_) AllReadyH.nil
  go_simp
  go_at_call 107
  refine (sk.l2Copy_any S h4 D _ _ _ (Nat.le_refl _) (R.out.grow hB).s).mono ?_
  rintro er wr11 ⟨vS8, rfl, oS, hBr11⟩
  have hzr11 : wr8.heap.size ≤ wr11.heap.size := hBr11.size
  (try replace oR := oR.grow hBr11)
  (try replace oQ := oQ.grow hBr11)
  replace c1 := vblk_grow c1 hBr11
  replace c2 := vblk_grow c2 hBr11
  replace hB := hB.trans (hBr11.mono (by omega))
  replace hzw := hB.size
  obtain ⟨aS8, nS8, kS8, rfl⟩ := sk.Own.form oS
  refine hKC.out _ _ (cells7c c1) (fun hHeld2 => ?_)
  clear hKC KC hHeld
  have hHeld := hHeld2
  clear hHeld2
  (try simp only [Act.put, List.setIfInBounds_toArray, List.set_cons_zero, List.set_cons_succ])
  refine wpAnyH_take (i := 12) (oi := { dst := some 15, op := Op.build 32 #[(0, Operand.tmp 4), (1, Operand.tmp 7), (2, Operand.tmp 11), (3, Operand.tmp 14)], type := 32, pos := "l16_choice.go:20", after := #[{ on := 1, ground := Ground.data }, { on := 4, ground := Ground.data }, { on := 8, ground := Ground.data }, { on := 11, ground := Ground.data }], guard := none }) (v := ?_) rfl (by kernel_rfl) (by kernel_rfl) (by kernel_rfl) (fun _ _ _ h => h) (Or.inl ⟨by rfl, ?_⟩) (by assumption) ?_
  rotate_left 1
  · intro w' hSw; (try dsimp only at hSw); go_simp; (try with_reducible rfl)
  (try simp only [Act.put, List.setIfInBounds_toArray, List.set_cons_zero, List.set_cons_succ])
  refine wpAnyH_ready (rs := [13]) (by kernel_rfl) (by simp) ?_
  refine AllReadyH.cons (o := { dst := none, op := Op.store 32 (Operand.tmp 2) (Operand.tmp 15), type := 0, pos := "l16_choice.go:20", after := #[{ on := 12, ground := Ground.data }, { on := 11, ground := Ground.chain }, { on := 0, ground := Ground.phase }, { on := 1, ground := Ground.phase }, { on := 2, ground := Ground.phase }, { on := 3, ground := Ground.phase }, { on := 4, ground := Ground.phase }, { on := 5, ground := Ground.phase }, { on := 6, ground := Ground.phase }, { on := 7, ground := Ground.phase }, { on := 8, ground := Ground.phase }, { on := 9, ground := Ground.phase }, { on := 10, ground := Ground.phase }, { on := 11, ground := Ground.phase }, { on := 12, ground := Ground.phase }], guard := none }) rfl (fun KC hKC => ?_) AllReadyH.nil
  refine step_store_v rfl 32 _ _ rfl b2 [.int .i64 K, .slice aN8 nN8 kN8, .slice aU8 nU8 kU8, .int .i64 A, .slice aQ8 nQ8 kQ8, .slice aS8 nS8 kS8, .int .i64 D] rfl rfl sizeCh c2 rfl (by simp [Value.oneCell']) ?_
  intro wr13 hOr13 c2x
  have hzr13 : wr11.heap.size ≤ wr13.heap.size := Nat.le_of_eq hOr13.1.symm
  have hyr13 : wr13.heap.size ≤ wr11.heap.size := Nat.le_of_eq hOr13.1
  replace c1 := vblk_only c1 hOr13 (by omega)
  replace oR := oR.only hOr13 c2 (by decide) (by decide)
  replace oQ := oQ.only hOr13 c2 (by decide)
  replace oS := sk.Own.keep oS (fun k h1 h2 => hOr13.2.1 k (by omega)) (Nat.le_of_eq hOr13.1.symm)
  clear c2
  have c2 := c2x
  clear c2x
  replace hB := hB.trans (hOr13.2.2 _ (by omega))
  replace hzw := hB.size
  (try replace hcur := cur_below hcur (hOr13.2.2 (p + 1) (by omega)) (by omega))
  refine hKC.out _ _ (cells7c c1) (fun hHeld2 => ?_)
  clear hKC KC hHeld
  have hHeld := hHeld2
  clear hHeld2
  (try simp only [Act.put])
  refine wpAnyH_done (by kernel_rfl) ?_ _
  go_wp2
  exact row_retv rfl rfl c2 Try.underlying32 sizeCh rfl ⟨_, _, _, _, rfl, ⟨⟨_, _, _, _, _, _, oR, oQ, oS, ⟨by omega, by omega, by omega, by omega, by omega, by omega⟩, by omega, by omega, by omega⟩, Nat.le_refl _⟩, hB⟩

end Go.Proofs.Ytmnjmghlkiljhaa.rg
/- Contracts: who is forgotten. -/
namespace Go.Proofs.Ytmnjmghlkiljhaa.rg
open Go.ChangeShapes Go.WideShapes Go.ChangeAt Go.RowKit
open Go.Deep Go.Joins
open Go.Proofs.Ytmnjmghlkiljhaa.ce Go.Proofs.Ytmnjmghlkiljhaa.ro
set_option linter.unusedVariables false
set_option linter.unusedSimpArgs false

/-- of the blocks that were there b alone may be turned -/
structure Off (b : Nat) (w w' : World) : Prop where
  os : w'.os = w.os
  tape : w'.tape = w.tape
  output : w'.output = w.output
  size : w.heap.size ≤ w'.heap.size
  keep : ∀ k, k < w.heap.size → k ≠ b → w'.heap[k]? = w.heap[k]?
theorem Off.of_tn {b : Nat} {w w' : World} (h : Tn w.heap.size b w w') : Off b w w' := ⟨h.os, h.tape, h.output, h.size, h.low⟩
theorem Off.of_below {b : Nat} {w w' : World} (h : Below w.heap.size w w') : Off b w w' := ⟨h.os, h.tape, h.output, h.size, fun k hk _ => h.block k hk⟩
theorem Off.then_only {b : Nat} {w x y : World} (h : Off b w x) (o : Only b x y) : Off b w y := by
  have h0 := o.2.2 0 (Nat.zero_le _)
  exact ⟨h0.os.trans h.os, h0.tape.trans h.tape, h0.output.trans h.output, Nat.le_trans h.size h0.size, fun k hk hn => (o.2.1 k hn).trans (h.keep k hk hn)⟩
theorem Off.below {b B : Nat} {w w' : World} (h : Off b w w') (h1 : B ≤ b) (h2 : B ≤ w.heap.size) : Below B w w' := ⟨h.os, h.tape, h.output, h.size, fun k hk => h.keep k (by omega) (by omega)⟩
/-- a choice in which one is forgotten -/
def fgC (c : Ch) (s : ByteArray) : Ch := ⟨c.K, (forgetH ⟨c.K, c.R, c.Q⟩ s).R, (forgetH ⟨c.K, c.R, c.Q⟩ s).Q, c.S, c.D⟩
def fgX (c : Ch) (s : ByteArray) : Ch := if chB c = true then fgC c s else Ch.zero
theorem chB_parts {c : Ch} (h : chB c = true) : sk.skOk c.S c.D ∧ ROk c.R ∧ NOk c.Q ∧ ((c.K = 1 ∧ c.Q = []) ∨ (c.K = 2 ∧ c.R.N = [])) := by
  unfold chB wayB at h
  simp only [Bool.and_eq_true, Bool.or_eq_true, decide_eq_true_eq, List.length_eq_zero_iff] at h
  obtain ⟨⟨⟨hs, hr⟩, hq⟩, hw⟩ := h
  exact ⟨hs, ringB_iff.1 hr, namesB_iff.1 hq, hw⟩
set_option maxRecDepth 100000 in
set_option maxHeartbeats 4000000 in
theorem l16Forget_any (c : Ch) (hc : chB c = true) (s : ByteArray) (vN vU vQ vS : Value) (b lo hi : Nat) (w : World) (o : OwnC w lo hi vN vU vQ vS c) (hlo : lo ≤ w.heap.size) (hb : b < lo ∨ hi ≤ b) (V : VBlk w b 32 [.int .i64 c.K, vN, vU, .int .i64 c.R.A, vQ, vS, .int .i64 c.D]) :
    Calls Try.prog 63 #[.pointer (some ⟨b, 0, none⟩), .string s] w fun e w' => (∃ u, e = .returned u) ∧ ∃ vN' vU' vQ' vS', OwnC w' lo w'.heap.size vN' vU' vQ' vS' (fgC c s) ∧ VBlk w' b 32 [.int .i64 c.K, vN', vU', .int .i64 (fgC c s).R.A, vQ', vS', .int .i64 c.D] ∧ Off b w w' := by
  obtain ⟨hsk, hr, hq, hway⟩ := chB_parts hc
  have hl := chB_len hc
  clear hc
  obtain ⟨K, ⟨N, U, A⟩, Q, S, D⟩ := c
  dsimp only at hsk hr hq hway hl
  obtain ⟨⟨aN1, nN1, kN1, rfl⟩, ⟨aU1, nU1, kU1, rfl⟩, ⟨aQ1, nQ1, kQ1, rfl⟩, ⟨aS1, nS1, kS1, rfl⟩⟩ := o.forms
  obtain ⟨⟨l1, h1, l2, h2, l3, h3, oR, oQ, oS, ⟨e1, e2, e3, e4, e5, e6⟩, e7, e8, e9⟩, sz⟩ := o
  dsimp only at oR oQ oS V
  obtain ⟨c0, c1, c2, c3, c4, c5, c6⟩ := cells7c V
  have hbl := V.lt
  rcases hway with ⟨k1, hQ⟩ | ⟨k2, hN⟩
  · -- a clock
    subst k1
    have eF : fgC ⟨1, ⟨N, U, A⟩, Q, S, D⟩ s = ⟨1, ringForget ⟨N, U, A⟩ s, Q, S, D⟩ := by unfold fgC forgetH; dsimp only; rw [if_neg (by decide)]
    rw [eF]
    dsimp only
    by_cases hp : 0 ≤ posS s N
    · have eR : ringForget ⟨N, U, A⟩ s = left ⟨N, U, A⟩ (posS s N).toNat := if_pos hp
      rw [eR]
      have hlt := pos_lt hp
      obtain ⟨i, hi'⟩ := hid_ex (posS s N).toNat
      have hpi : posS s N = (i : Int) := by have := hi'.out; omega
      rw [hi'.out] at hlt ⊢
      have hus := hr.us
      have ha0 := hr.a0
      have ha1 := hr.a1
      dsimp only at hus ha0 ha1
      have kL := fun (_ : Unit) => l8LeaveC_yes (.int .i64 1) (.slice aQ1 nQ1 kQ1) (.slice aS1 nS1 kS1) (.int .i64 D) ⟨N, U, A⟩ s i hpi _ _ b w.heap.size l1 h1 w oR V (Nat.le_refl _) hlt hl.2 hus ha0 (by dsimp only; omega)
      have KL : Hid _ := kL
      clear kL hi' hpi hp hlt hus ha0 ha1 hr hq hsk hl hQ eR eF
      go_enter Try.func63, Try.ntmps63
      go_wp2_with (first | (go_at_call 113; refine (KL.out ()).mono ?_; rintro e w2 ⟨rfl, vN2, vU2, oR2, V2, hT2⟩) | (fail))
      first | go_end0 | ((try simp only [Exit.inBlock, Exit.then]); refine bodyPost_ret (results_none rfl _ _ _) rfl ?_)
      have hO := Off.of_tn hT2
      refine ⟨⟨_, rfl⟩, vN2, vU2, _, _, ⟨⟨_, _, _, _, _, _, oR2, oQ.keep fun k x y => hO.keep k (by omega) (by omega), sk.Own.keep oS (fun k x y => hO.keep k (by omega) (by omega)) hO.size, ⟨hlo, Nat.le_refl _, e3, ?_, e5, ?_⟩, .inr (by omega), .inr (by omega), e9⟩, Nat.le_refl _⟩, V2, hO⟩
      · have := hO.size; omega
      · have := hO.size; omega
    · have eR : ringForget ⟨N, U, A⟩ s = ⟨N, U, A⟩ := if_neg hp
      rw [eR]
      have kL := fun (_ : Unit) => l8LeaveC_no (.int .i64 1) (.slice aQ1 nQ1 kQ1) (.slice aS1 nS1 kS1) (.int .i64 D) ⟨N, U, A⟩ s (by dsimp only; omega) _ _ b l1 h1 w oR V
      have KL : Hid _ := kL
      clear kL hp hr hq hsk hl hQ eR eF
      go_enter Try.func63, Try.ntmps63
      go_wp2_with (first | (go_at_call 113; refine (KL.out ()).mono ?_; rintro e wq ⟨rfl, hq⟩; subst wq) | (fail))
      first | go_end0 | ((try simp only [Exit.inBlock, Exit.then]); refine bodyPost_ret (results_none rfl _ _ _) rfl ?_)
      exact ⟨⟨_, rfl⟩, _, _, _, _, ⟨⟨l1, h1, l2, h2, l3, h3, oR, oQ, oS, ⟨e1, by omega, e3, by omega, e5, by omega⟩, e7, e8, e9⟩, Nat.le_refl _⟩, V, Off.of_below (Below.refl _ _)⟩
  · -- a queue
    subst k2
    have eF : fgC ⟨2, ⟨N, U, A⟩, Q, S, D⟩ s = ⟨2, ⟨N, U, A⟩, cutR Q s, S, D⟩ := by unfold fgC forgetH; rw [if_pos rfl]
    rw [eF]
    dsimp only
    have RQ : Hid (Rd encS w (.slice aQ1 nQ1 kQ1) Q) := oQ.rd
    have hlq := hl.1
    clear hr hq hsk hl hN eF
    go_enter Try.func63, Try.ntmps63
    go_wp2_with (first | (go_at_call 112; refine (l9Without_any Q s _ _ RQ.out hlq).mono ?_; rintro e w2 ⟨v2, rfl, o2, hB2⟩; obtain ⟨aQ2, nQ2, kQ2, rfl⟩ := o2.slice; have V2 := vblk_grow V hB2; clear c0 c1 c2 c3 c4 c5 c6; obtain ⟨c0, c1, c2, c3, c4, c5, c6⟩ := cells7c V2; have hz2 := hB2.size) | (refine wpList_store_cc rfl 24 _ _ rfl b 4 (.slice aQ2 nQ2 kQ2) rfl rfl rfl szSl V2 (by simp) ?_; intro w3 hO3 V3) | (fail))
    first | go_end0 | ((try simp only [Exit.inBlock, Exit.then]); refine bodyPost_ret (results_none rfl _ _ _) rfl ?_)
    have hO := (Off.of_below (b := b) hB2).then_only hO3
    have hz3 := hO.size
    have hz4 := Nat.le_of_eq hO3.1.symm
    exact ⟨⟨_, rfl⟩, _, _, _, _, ⟨⟨l1, h1, w.heap.size, w2.heap.size, l3, h3, ownR_keep oR fun k x y => hO.keep k (by omega) (by omega), o2.only hO3 V2 (by decide), sk.Own.keep oS (fun k x y => hO.keep k (by omega) (by omega)) hO.size, ⟨e1, by omega, hlo, by omega, e5, by omega⟩, .inl (by omega), e8, .inr (by omega)⟩, Nat.le_refl _⟩, V3, hO⟩
/-- what Forgets tells -/
def PostF (c : Ch) (w : World) (e : Ending) (w' : World) : Prop := ∃ vN vU vQ vS, e = .returned (.agg #[.int .i64 c.K, vN, vU, .int .i64 c.R.A, vQ, vS, .int .i64 c.D]) ∧ OwnC w' w.heap.size w'.heap.size vN vU vQ vS c ∧ Below w.heap.size w w'
theorem postF_no {w w' : World} (hB : Below w.heap.size w w') : PostF Ch.zero w (.returned (.agg #[.int .i64 0, .slice none 0 0, .slice none 0 0, .int .i64 0, .slice none 0 0, .slice none 0 0, .int .i64 0])) w' := ⟨_, _, _, _, rfl, ownC_zero _ _ _ (Nat.le_refl _) hB.size, hB⟩
set_option maxRecDepth 100000 in
set_option maxHeartbeats 4000000 in
theorem specForgets_any (c : Ch) (s : ByteArray) (vN vU vQ vS : Value) (w : World) (h : RdC w vN vU vQ vS c) :
    Calls Try.prog 17 #[.agg #[.int .i64 c.K, vN, vU, .int .i64 c.R.A, vQ, vS, .int .i64 c.D], .string s] w fun e w' => PostF (fgX c s) w e w' := by
  obtain ⟨K, ⟨N, U, A⟩, Q, S, D⟩ := c
  obtain ⟨aN, cN, rfl⟩ := h.r.n.form
  obtain ⟨aU, cU, rfl⟩ := h.r.u.form
  obtain ⟨aQ, cQ, rfl⟩ := h.q.form
  obtain ⟨aS, cS, rfl⟩ := sk_form h.s

  have R : Hid (RdC w (.slice aN N.length cN) (.slice aU U.length cU) (.slice aQ Q.length cQ) (.slice aS S.length cS) ⟨K, ⟨N, U, A⟩, Q, S, D⟩) := h
  clear h
  have m1 : Hid True := trivial
  have m2 : Hid True := trivial
  unfold fgX
  obtain ⟨y, hy⟩ := hid_ex (chB ⟨K, ⟨N, U, A⟩, Q, S, D⟩)
  rw [hy.out]
  cases y with
  | false =>
    rw [if_neg (by decide)]
    go_enter Try.func17, Try.ntmps17
    go_wp2_with (first | (clear m1; refine wpList_box_v rfl 32 _ rfl [.int .i64 K, .slice aN N.length cN, .slice aU U.length cU, .int .i64 A, .slice aQ Q.length cQ, .slice aS S.length cS, .int .i64 D] rfl ?_; intro b1 w1 hb1 hw1 hB1 V1; obtain ⟨c0, c1, c2, c3, c4, c5, c6⟩ := cells7c V1; have hz1 := hB1.size) | (clear m2; refine wpList_alloc_v rfl 32 rfl _ zeroCh ?_; intro b2 w2 hb2 hw2 hB2 V2; replace V1 := vblk_grow V1 hB2; clear c0 c1 c2 c3 c4 c5 c6; obtain ⟨c0, c1, c2, c3, c4, c5, c6⟩ := cells7c V1; have hB12 := hB1.trans (hB2.mono hz1); have hz2 := hB12.size) | (go_at_call 19; refine (specChoiceOk_any ⟨K, ⟨N, U, A⟩, Q, S, D⟩ _ _ _ _ _ (R.out.grow hB12) false hy).mono ?_; rintro e w3 ⟨rfl, hB3⟩; replace V2 := vblk_grow V2 hB3; have hB13 := hB12.trans (hB3.mono hz2); have hz3 := hB13.size) | (refine wpList_store_v rfl 32 _ _ rfl b2 [.int .i64 0, .slice none 0 0, .slice none 0 0, .int .i64 0, .slice none 0 0, .slice none 0 0, .int .i64 0] rfl rfl sizeCh V2 rfl (by simp [Value.oneCell']) ?_; intro w4 hO4 V4; have hB14 := hB13.trans (hO4.2.2 _ (by omega))) | (fail))
    exact row_retv rfl rfl V4 Try.underlying32 sizeCh rfl (postF_no hB14)
  | true =>
    rw [if_pos rfl]
    have hsm := smC_of hy.out
    have HSM : Hid (SmC ⟨K, ⟨N, U, A⟩, Q, S, D⟩) := hsm
    clear hsm
    obtain ⟨⟨K2, ⟨N2, U2, A2⟩, Q2, S2, D2⟩, hf⟩ := hid_ex (fgC ⟨K, ⟨N, U, A⟩, Q, S, D⟩ s)
    have kk : K2 = K ∧ D2 = D := by have h := hf.out; exact ⟨(congrArg Ch.K h).symm, (congrArg Ch.D h).symm⟩
    have kF := fun (vN' vU' vQ' vS' : Value) b lo hi w' o hlo hb V => l16Forget_any ⟨K, ⟨N, U, A⟩, Q, S, D⟩ hy.out s vN' vU' vQ' vS' b lo hi w' o hlo hb V
    rw [hf.out] at kF ⊢
    obtain ⟨rfl, rfl⟩ := kk
    have KF : Hid _ := kF
    clear kF hf
    have m3 : Hid True := trivial
    have m4 : Hid True := trivial
    go_enter Try.func17, Try.ntmps17
    go_wp2_with (first | (clear m1; refine wpList_box_v rfl 32 _ rfl [.int .i64 K2, .slice aN N.length cN, .slice aU U.length cU, .int .i64 A, .slice aQ Q.length cQ, .slice aS S.length cS, .int .i64 D2] rfl ?_; intro b1 w1 hb1 hw1 hB1 V1; obtain ⟨c0, c1, c2, c3, c4, c5, c6⟩ := cells7c V1; have hz1 := hB1.size) | (clear m2; refine wpList_alloc_v rfl 32 rfl _ zeroCh ?_; intro b2 w2 hb2 hw2 hB2 V2; replace V1 := vblk_grow V1 hB2; clear c0 c1 c2 c3 c4 c5 c6; obtain ⟨c0, c1, c2, c3, c4, c5, c6⟩ := cells7c V1; have hB12 := hB1.trans (hB2.mono hz1); have hz2 := hB12.size) | (go_at_call 19; refine (specChoiceOk_any ⟨K2, ⟨N, U, A⟩, Q, S, D2⟩ _ _ _ _ _ (R.out.grow hB12) true hy).mono ?_; rintro e w3 ⟨rfl, hB3⟩; replace V1 := vblk_grow V1 hB3; replace V2 := vblk_grow V2 hB3; clear c0 c1 c2 c3 c4 c5 c6; obtain ⟨c0, c1, c2, c3, c4, c5, c6⟩ := cells7c V1; have hB13 := hB12.trans (hB3.mono hz2); have hz3 := hB13.size; have hz23 := hB3.size) | (go_at_call 61; refine (l16Copy_any ⟨K2, ⟨N, U, A⟩, Q, S, D2⟩ HSM.out _ _ _ _ _ (R.out.grow hB13)).mono ?_; rintro e w4 ⟨vN4, vU4, vQ4, vS4, rfl, o4, hB4⟩; replace V2 := vblk_grow V2 hB4; obtain ⟨⟨aN4, nN4, kN4, rfl⟩, ⟨aU4, nU4, kU4, rfl⟩, ⟨aQ4, nQ4, kQ4, rfl⟩, ⟨aS4, nS4, kS4, rfl⟩⟩ := o4.forms; have hB14 := hB13.trans (hB4.mono hz3); have hz4 := hB14.size; have hz34 := hB4.size) | (clear m3; refine wpList_alloc_v rfl 32 rfl _ zeroCh ?_; intro b5 w5 hb5 hw5 hB5 V5; replace V2 := vblk_grow V2 hB5; replace o4 := o4.grow hB5; have hB15 := hB14.trans (hB5.mono hz4); have hz5 := hB15.size; have hz45 := hB5.size) | (clear m4; refine wpList_store_v rfl 32 _ _ rfl b5 [.int .i64 K2, .slice aN4 nN4 kN4, .slice aU4 nU4 kU4, .int .i64 A, .slice aQ4 nQ4 kQ4, .slice aS4 nS4 kS4, .int .i64 D2] rfl rfl sizeCh V5 rfl (by simp [Value.oneCell']) ?_; intro w6 hO6 V6; replace V2 := vblk_only V2 hO6 (by omega); replace o4 := o4.off hO6 (by omega); have hB16 := hB15.trans (hO6.2.2 _ (by omega)); have hz6 := hB16.size; have hz56 := Nat.le_of_eq hO6.1.symm; have hy56 := Nat.le_of_eq hO6.1) | (go_at_call 63; refine (KF.out _ _ _ _ b5 _ _ _ o4 (by omega) (by omega) V6).mono ?_; rintro e w7 ⟨⟨u7, rfl⟩, vN7, vU7, vQ7, vS7, o7, V7, hF7⟩; obtain ⟨⟨aN7, nN7, kN7, rfl⟩, ⟨aU7, nU7, kU7, rfl⟩, ⟨aQ7, nQ7, kQ7, rfl⟩, ⟨aS7, nS7, kS7, rfl⟩⟩ := o7.forms; replace V2 := V2.of (hF7.keep b2 V2.lt (by omega)); have hB17 := hB16.trans (hF7.below (by omega) hz6); have hz7 := hB17.size; have hz67 := hF7.size; obtain ⟨d0, d1, d2, d3, d4, d5, d6⟩ := cells7c V7) | (refine wpList_store_v rfl 32 _ _ rfl b2 [.int .i64 K2, .slice aN7 nN7 kN7, .slice aU7 nU7 kU7, .int .i64 A2, .slice aQ7 nQ7 kQ7, .slice aS7 nS7 kS7, .int .i64 D2] rfl rfl sizeCh V2 rfl (by simp [Value.oneCell']) ?_; intro w8 hO8 V8; have hB18 := hB17.trans (hO8.2.2 _ (by omega))) | (fail))
    exact row_retv rfl rfl V8 Try.underlying32 sizeCh rfl ⟨_, _, _, _, rfl, (o7.off hO8 (by omega)).wide (by omega), hB18⟩
end Go.Proofs.Ytmnjmghlkiljhaa.rg
/- Mathematics of choices, no Go in sight: who must go. -/
namespace Go.Proofs.Ytmnjmghlkiljhaa.rg
open Go.RowKit
set_option linter.unusedVariables false

/-- nobody can go: there is none, or only the one that is let off -/
def noneGo (ns : List ByteArray) (but : ByteArray) : Bool := decide (ns.length = 0) || (decide (ns.length = 1) && decide (ns.headD ⟨#[]⟩ = but))
theorem noneGo_iff {ns : List ByteArray} {but : ByteArray} : noneGo ns but = true ↔ ns = [] ∨ ns = [but] := by
  unfold noneGo
  match ns with
  | [] => simp
  | [a] => simp
  | a :: b :: r => simp
/-- the clock's ring behind the choice -/
def vicR (r : Rg) (but : ByteArray) : Rg := tnBut but 2 (tn r)
def vicH (c : Hc) (but : ByteArray) (seed : Int) : Hc × ByteArray :=
  if noneGo (namesH c) but = true then (c, ⟨#[]⟩)
  else if c.K = 2 then (c, saS (cutR c.Q but) seed 5)
  else (⟨c.K, vicR c.R but, c.Q⟩, atN (vicR c.R but))
theorem name_ne {s : ByteArray} (h : nameB s = true) : s ≠ ⟨#[]⟩ := fun e => by
  have := (nameB_size h).1
  rw [e] at this
  exact absurd this (by decide)
theorem vicR_ok {r : Rg} (h : ROk r) {but : ByteArray} (hn : noneGo r.N but = false) : ROk (vicR r but) ∧ (vicR r but).N = r.N ∧ atN (vicR r but) ≠ but ∧ atN (vicR r but) ∈ r.N := by
  have h0 : r.N.length ≠ 0 := fun e => by
    have : noneGo r.N but = true := noneGo_iff.2 (.inl (List.length_eq_zero_iff.1 e))
    rw [hn] at this; cases this
  obtain ⟨h1, st, e1⟩ := tn_ok h h0
  have h10 : (tn r).N.length ≠ 0 := by rw [e1]; exact h0
  have key : ROk (vicR r but) ∧ (vicR r but).N = r.N ∧ atN (vicR r but) ≠ but := by
    by_cases h2 : 2 ≤ r.N.length
    · obtain ⟨a, b, c, -⟩ := tnBut_done h1 (by rw [e1]; exact h2) (tn_off h h0) but 2 (Nat.le_refl _)
      exact ⟨a, by unfold vicR; rw [b, e1], c⟩
    · have hl : r.N.length = 1 := by omega
      have hne : atN (tn r) ≠ but := fun e => by
        have hm := atN_mem h1 h10
        rw [e, e1] at hm
        have : r.N = [but] := by
          match hr : r.N, hl with
          | [a], _ => rw [hr] at hm; rw [List.mem_singleton.1 hm]
        have := noneGo_iff.2 (.inr this)
        rw [hn] at this; cases this
      have e2 : vicR r but = tn r := by unfold vicR; simp only [tnBut, if_neg hne]
      rw [e2]
      exact ⟨h1, e1, hne⟩
  refine ⟨key.1, key.2.1, key.2.2, ?_⟩
  have := atN_mem key.1 (by rw [key.2.1]; exact h0)
  rw [key.2.1] at this
  exact this
theorem saS_mem {q : List ByteArray} {s m : Int} (h : SOk q s m) : saS q s m ∈ q := by rw [saS_yes h]; exact List.getElem_mem _
/-- who must go is one that is there, never the one that is let off; none only where none can go; the names stay -/
theorem vicH_says {c : Hc} (h : HOk c) (but : ByteArray) {seed : Int} (h0 : 0 ≤ seed) (h1 : seed ≤ 1000000) :
    HOk (vicH c but seed).1 ∧ namesH (vicH c but seed).1 = namesH c ∧ ((vicH c but seed).2 = ⟨#[]⟩ → namesH c = [] ∨ namesH c = [but]) ∧ ((vicH c but seed).2 ≠ ⟨#[]⟩ → (vicH c but seed).2 ∈ namesH c ∧ (vicH c but seed).2 ≠ but) := by
  have hnm := h.names
  unfold vicH
  cases hn : noneGo (namesH c) but with
  | true =>
    rw [if_pos rfl]
    exact ⟨h, rfl, fun _ => noneGo_iff.1 hn, fun e => absurd rfl e⟩
  | false =>
    rw [if_neg (by simp)]
    have hgo : ∀ v, v ∈ namesH c → v ≠ but → ((v = ⟨#[]⟩ → namesH c = [] ∨ namesH c = [but]) ∧ (v ≠ ⟨#[]⟩ → v ∈ namesH c ∧ v ≠ but)) := fun v hv hb => ⟨fun e => absurd e (name_ne (hnm.1 v hv)), fun _ => ⟨hv, hb⟩⟩
    by_cases hk : c.K = 2
    · rw [if_pos hk]
      have e : namesH c = c.Q := by unfold namesH; rw [if_pos hk]
      have hc : cutR c.Q but = othersS c.Q but := cut_is h.q
      have hok := others_ok but h.q
      have hne : (othersS c.Q but).length ≠ 0 := fun z => by
        have z' := List.length_eq_zero_iff.1 z
        have hall : ∀ x ∈ c.Q, x = but := fun x hx => Classical.byContradiction fun hx2 => by
          have : x ∈ othersS c.Q but := by unfold othersS; simp [hx, hx2]
          rw [z'] at this; simp at this
        have : noneGo (namesH c) but = true := by
          rw [e]
          refine noneGo_iff.2 ?_
          match hq : c.Q with
          | [] => exact .inl rfl
          | [a] => exact .inr (by rw [hall a (by rw [hq]; simp)])
          | a :: b :: r =>
            have nd := h.q.2.1
            rw [hq] at nd
            have ea := hall a (by rw [hq]; simp)
            have eb := hall b (by rw [hq]; simp)
            rw [ea, eb] at nd
            simp at nd
        rw [hn] at this; cases this
      have so : SOk (cutR c.Q but) seed 5 := by
        refine saB_iff.1 ?_
        unfold saB
        rw [hc, namesB_iff.2 hok, decide_eq_true h0, decide_eq_true h1]
        have : (((othersS c.Q but).length : Int) == 0) = false := by simpa using fun z => hne (by rw [z]; rfl)
        rw [this]
        rfl
      have hm := saS_mem so
      have hm2 : saS (cutR c.Q but) seed 5 ∈ othersS c.Q but := by rw [← hc]; exact hm
      obtain ⟨a, b⟩ := hgo (saS (cutR c.Q but) seed 5) (by rw [e]; exact (others_sub c.Q but).subset hm2) (fun z => by rw [z] at hm2; exact others_gone _ _ hm2)
      exact ⟨h, rfl, a, b⟩
    · rw [if_neg hk]
      have e : namesH c = c.R.N := by unfold namesH; rw [if_neg hk]
      have hq : c.K = 1 ∧ c.Q = [] := by
        rcases h.way with w | w
        · exact w
        · exact absurd w.1 hk
      rw [e] at hn
      obtain ⟨r1, r2, r3, r4⟩ := vicR_ok h.r hn
      obtain ⟨a, b⟩ := hgo (atN (vicR c.R but)) (by rw [e]; exact r4) r3
      refine ⟨⟨r1, h.q, .inl hq⟩, ?_, a, b⟩
      rw [e]
      show (if c.K = 2 then c.Q else (vicR c.R but).N) = _
      rw [if_neg hk, r2]
end Go.Proofs.Ytmnjmghlkiljhaa.rg
/- Contracts: places of a queue, and who is sampled: the model's and the program's. -/
namespace Go.Proofs.Ytmnjmghlkiljhaa.rg
open Go.ChangeShapes Go.WideShapes Go.ChangeAt Go.RowKit
open Go.Proofs.Ytmnjmghlkiljhaa.ce Go.Proofs.Ytmnjmghlkiljhaa.ro
set_option linter.unusedVariables false

def encI : Enc Int := ⟨fun s => [.int .i64 s], 1, 2, fun _ => rfl, fun s v hv => by rw [List.mem_singleton.1 hv]; rfl, by decide⟩
theorem infoI : Info encI := by
  have h : (Try.prog.info? 2).map (fun i => (i.zero, i.size, i.bytes)) = some (some (.int .i64 0), 1, 8) := by kernel_rfl
  obtain ⟨i, hi, hz⟩ := Option.map_eq_some_iff.1 h
  simp only [Prod.mk.injEq] at hz
  exact ⟨i, _, hi, hz.1, hz.2.1, by omega, rfl⟩
theorem rdN_cell {w : World} {n cap : Nat} {a : Option Addr} {xs : List Int} (r : Rd encI w (.slice a n cap) xs) (i : Nat) (hi : i < xs.length) : ∃ b off, a = some ⟨b, off, none⟩ ∧ b < w.heap.size ∧ w.cell? ⟨b, off + i, none⟩ = some (.int .i64 xs[i]) := by
  obtain ⟨b, off, e, h1, h2⟩ := r.cell i 0 hi (show 0 < 1 by decide)
  exact ⟨b, off, e, h1, by simpa [encI] using h2⟩
theorem ownN_cell {w : World} {lo hi n cap : Nat} {a : Option Addr} {xs : List Int} (o : Own encI w lo hi (.slice a n cap) xs) (i : Nat) (h : i < xs.length) : ∃ g, a = some ⟨g, 0, none⟩ ∧ (lo ≤ g ∧ g < hi) ∧ w.cell? ⟨g, i, none⟩ = some (.int .i64 xs[i]) ∧ w.frozen? ⟨g, i, none⟩ = false := by
  obtain ⟨g, e, h1, h2, h3⟩ := o.cell i 0 h (show 0 < 1 by decide)
  exact ⟨g, e, h1, by simpa [encI] using h2, by simpa [encI] using h3⟩
theorem ownN_set {w : World} {lo hi g n cap : Nat} {xs : List Int} (o : Own encI w lo hi (.slice (some ⟨g, 0, none⟩) n cap) xs) (i : Nat) (h : i < xs.length) (x : Int) : Own encI (w.setCell ⟨g, i, none⟩ (.int .i64 x)) lo hi (.slice (some ⟨g, 0, none⟩) n cap) (xs.set i x) := by
  have := o.set i 0 h (show 0 < 1 by decide) (.int .i64 x) x rfl
  simpa [encI] using this
theorem wpList_make_int {o : Oper} {a : Act} {w : World} {ops : Array Oper} {rest : List Oper} {Q : Exit → Act → World → Prop} (hgd : o.guard = none) (l c : Operand) (t : TypeId) (ho : o.op = .makeSlice t l c) (ht : Try.prog.underlying t = some (.slice 2)) (n : Nat) (hn : n ≤ 1048576) (hl : a.eval l = .int .i64 n) (hc : a.eval c = .int .i64 n)
    (h : ∀ b w', w.heap.size ≤ b → b < w'.heap.size → Below w.heap.size w w' → Own encI w' w.heap.size w'.heap.size (.slice (some ⟨b, 0, none⟩) n n) (List.replicate n (0 : Int)) → wpList Try.prog ops Q rest (a.put o.dst (.slice (some ⟨b, 0, none⟩) n n)) w') : wpList Try.prog ops Q (o :: rest) a w := by
  have hi : (Try.prog.info? 2).map (fun i => (i.zero, i.size, i.bytes ≤ 16)) = some (some (Value.int .i64 0), 1, True) := by
    obtain ⟨i, z, h1, h2, h3, h4, h5⟩ := infoI.ex
    have : Try.prog.info? 2 = some i := h1
    have hh : (Try.prog.info? 2).map (fun i => (i.zero, i.size, decide (i.bytes ≤ 16))) = some (some (Value.int .i64 0), 1, true) := by kernel_rfl
    rw [this] at hh ⊢
    simp at hh ⊢
    exact hh
  obtain ⟨i0, hi0, hz⟩ := Option.map_eq_some_iff.1 hi
  simp only [Prod.mk.injEq, eq_iff_iff, iff_true] at hz
  refine wpList_make_full _ hgd l c t ho w.heap.size 2 i0 _ 1 ht hi0 hz.1 hz.2.1 .i64 .i64 n n n hl hc rfl rfl (by have h3 := hz.2.2; have := Nat.mul_le_mul h3 hn; omega) (by unfold maxLen; omega) (Nat.le_refl _) ?_
  intro w1 h1 h2
  have hb : Below w.heap.size w w1 := ro.below_grown h2 (Nat.le_refl _) (fun k hk => by cases hk)
  refine h _ w1 (Nat.le_refl _) (h1.lt _ rfl).2 hb (own_of ?_)
  have hr : (madeCells (Value.cells (Value.int .i64 0)) (n * 1)).toList = encI.row (List.replicate n (0 : Int)) := by
    rw [Enc.row_replicate encI (0 : Int) n (Value.int .i64 0) rfl]
    simp [Value.cells, toList_madeCells_one]
  rw [hr] at h1
  rw [List.length_replicate]
  exact h1


/-- the foremost -/
def fm (x : Int) (ys : List Int) : Int := ys.foldl min x
theorem fm_next {x : Int} {ys : List Int} {i : Nat} (hi : i < ys.length) : fm x (ys.take (i + 1)) = min (fm x (ys.take i)) ys[i] := by
  unfold fm
  rw [List.take_succ_eq_append_getElem hi, List.foldl_append]
  rfl
theorem fm_plcs {n p : Nat} (hp : p < n) : ∀ j, fm p ((plcs n p (j + 1)).drop 1) = (mins n (j + 1) n p : Nat)
  | 0 => by
    show ((p : Int)) = ((min n p : Nat) : Int)
    rw [Nat.min_eq_right (by omega)]
  | j + 1 => by
    rw [plcs_succ, List.drop_append_of_le_length (by rw [plcs_len]; omega), mins_succ]
    have h := fm_plcs hp j
    unfold fm at h ⊢
    rw [List.foldl_append, h]
    show min ((mins n (j + 1) n p : Nat) : Int) ((plc n p (j + 1) : Nat) : Int) = _
    omega

end Go.Proofs.Ytmnjmghlkiljhaa.rg
/- Contracts: who is sampled: the model's and the program's. -/
namespace Go.Proofs.Ytmnjmghlkiljhaa.rg
open Go.ChangeShapes Go.WideShapes Go.ChangeAt Go.RowKit
open Go.Proofs.Ytmnjmghlkiljhaa.ce Go.Proofs.Ytmnjmghlkiljhaa.ro
set_option linter.unusedVariables false

theorem l1Min_any (x y : Nat) (w : World) : Calls Try.prog 136 #[.int .i64 x, .int .i64 y] w fun e w' => e = .returned (.int .i64 (min x y : Nat)) ∧ w' = w := by
  obtain ⟨z, hz⟩ := hid_ex (min x y)
  rw [hz.out]
  by_cases h : (x : Int) < (y : Int)
  · have e : z = x := by rw [← hz.out]; exact Nat.min_eq_left (by omega)
    subst e
    go_enter Try.func136, Try.ntmps136
    go_wp2
    go_ret
    exact ⟨rfl, rfl⟩
  · have e : z = y := by rw [← hz.out]; exact Nat.min_eq_right (by omega)
    subst e
    go_enter Try.func136, Try.ntmps136
    go_wp2
    go_ret
    exact ⟨rfl, rfl⟩

theorem saB_no1 {q : List ByteArray} {s m : Int} (h : namesB q = false) : saB q s m = false := by unfold saB; rw [h]; rfl
theorem saB_no2 {q : List ByteArray} {s m : Int} (h : ((q.length : Int) == 0) = true) : saB q s m = false := by unfold saB; rw [h]; simp
theorem saB_no3 {q : List ByteArray} {s m : Int} (h : (decide (0 ≤ s) && decide (s ≤ 1000000)) = false) : saB q s m = false := by unfold saB; rw [h]; simp
theorem saB_no4 {q : List ByteArray} {s m : Int} (h : (decide (1 ≤ m) && decide (m ≤ 20)) = false) : saB q s m = false := by unfold saB; rw [h]; simp

end Go.Proofs.Ytmnjmghlkiljhaa.rg
/- Contracts: the model: who must go. -/
namespace Go.Proofs.Ytmnjmghlkiljhaa.rg
open Go.ChangeShapes Go.WideShapes Go.ChangeAt Go.RowKit
open Go.Deep Go.Joins
open Go.Proofs.Ytmnjmghlkiljhaa.ce Go.Proofs.Ytmnjmghlkiljhaa.ro
set_option linter.unusedVariables false
set_option linter.unusedSimpArgs false

theorem tnBut_stop {but : ByteArray} {r : Rg} (h : atN r ≠ but) (f : Nat) : tnBut but f r = r := by
  cases f with
  | zero => rfl
  | succ f => simp only [tnBut, if_neg h]
/-- a choice of which one must go -/
def vcC (c : Ch) (but : ByteArray) (seed : Int) : Ch := ⟨c.K, (vicH ⟨c.K, c.R, c.Q⟩ but seed).1.R, c.Q, c.S, c.D⟩
def vcS (c : Ch) (but : ByteArray) (seed : Int) : ByteArray := (vicH ⟨c.K, c.R, c.Q⟩ but seed).2
theorem TuW.of {y0 y4 y5 y6 : Value} {lo hi b : Nat} {w : World} {vN vU : Value} {r : Rg} {a : Nat} (o : OwnR w lo hi vN vU r) (V : VBlk w b 32 [y0, vN, vU, .int .i64 a, y4, y5, y6]) : TuW y0 y4 y5 y6 lo hi b w w vN vU r.N r.U a := ⟨o.n, o.u, V, Tw.refl _ _ _ _⟩
/-- the hand is set in its variable -/
theorem TuW.put {y0 y4 y5 y6 : Value} {lo hi b : Nat} {w wq w8 : World} {vN vU : Value} {N : List ByteArray} {U : List Bool} {a a2 : Nat} (h : TuW y0 y4 y5 y6 lo hi b w wq vN vU N U a) (hO : Only b wq w8) (V : VBlk w8 b 32 [y0, vN, vU, .int .i64 a2, y4, y5, y6]) : TuW y0 y4 y5 y6 lo hi b w w8 vN vU N U a2 :=
  ⟨h.n.only hO h.v (by decide), h.u.only hO h.v (by decide), V, h.t.trans (Tw.of_only hO)⟩
theorem TuW.then {y0 y4 y5 y6 : Value} {lo hi b : Nat} {w wq w8 : World} {vN vU : Value} {N : List ByteArray} {U U2 : List Bool} {a a2 : Nat} (h : TuW y0 y4 y5 y6 lo hi b w wq vN vU N U a) (k : TuW y0 y4 y5 y6 lo hi b wq w8 vN vU N U2 a2) : TuW y0 y4 y5 y6 lo hi b w w8 vN vU N U2 a2 := ⟨k.n, k.u, k.v, h.t.trans k.t⟩
theorem szI3 : (Try.prog.info? 2).map (·.size) = some 1 := by kernel_rfl
theorem hand_mod {a' n a2 : Nat} (h : a' ≤ 1000000) (e : (a' + 1) % n = a2) : (wrap64 ((a' : Int) + 1)).tmod (n : Int) = (a2 : Int) := by
  rw [IntWalk.wrap64_in _ ⟨by omega, by omega⟩, Int.tmod_eq_emod_of_nonneg (by omega), ← e]
  simp
theorem put3 {w : World} {b : Nat} {y0 y1 y2 y3 y4 y5 y6 : Value} {v : Int} {a2 : Nat} (h : VBlk w b 32 ([y0, y1, y2, y3, y4, y5, y6].set 3 (.int .i64 v))) (e : v = a2) : VBlk w b 32 [y0, y1, y2, .int .i64 a2, y4, y5, y6] := by subst e; exact h
theorem Tw.widen {lo hi lo' hi' b : Nat} {w w' : World} (h : Tw lo hi b w w') (h1 : lo' ≤ lo) (h2 : hi ≤ hi') : Tw lo' hi' b w w' := ⟨h.os, h.tape, h.output, h.size, fun k x y z => h.keep k x y (by omega)⟩
theorem names_sz {q : List ByteArray} (h : NOk q) : ∀ s ∈ q, s.size ≤ 9223372036854775807 := fun s hs => by have := (nameB_size (h.1 s hs)).2; omega

end Go.Proofs.Ytmnjmghlkiljhaa.rg
/- Contracts: the model: who is seen. -/
namespace Go.Proofs.Ytmnjmghlkiljhaa.rg
open Go.ChangeShapes Go.WideShapes Go.ChangeAt Go.RowKit
open Go.Deep Go.Joins
open Go.Proofs.Ytmnjmghlkiljhaa.ce Go.Proofs.Ytmnjmghlkiljhaa.ro
set_option linter.unusedVariables false
set_option linter.unusedSimpArgs false

/-- a choice that a call made: its parts need not lie apart -/
structure OwnL (w : World) (lo hi : Nat) (vN vU vQ vS : Value) (c : Ch) : Prop where
  r : OwnR w lo hi vN vU c.R
  q : Own encS w lo hi vQ c.Q
  s : sk.Own w lo hi vS c.S
  sz : hi ≤ w.heap.size
theorem sk_wide {w : World} {lo hi lo' hi' : Nat} {v : Value} {R : List (List Int)} (h : sk.Own w lo hi v R) (h1 : lo' ≤ lo) (h2 : hi ≤ hi') (h3 : hi' ≤ w.heap.size) : sk.Own w lo' hi' v R := by
  obtain ⟨hl, a, cap, bo, B, C, e, ha, h0, -, hd, hr⟩ := h
  exact ⟨hl, a, cap, bo, B, C, e, ha, fun x => by have := h0 x; omega, h3, hd, fun i hi => by
    obtain ⟨c1, c2, c3, c4, c5, c6⟩ := hr i hi
    exact ⟨c1, c2, by omega, by omega, c5, c6⟩⟩
theorem plusR_len {R : List (List Int)} (h : sk.Four R) (D : Int) (s : ByteArray) : (sk.plusR R D s).length = 4 := by
  unfold sk.plusR
  split
  · exact (sk.halfR_four (sk.addR_four h)).1
  · exact (sk.addR_four h).1
theorem skown_of {w : World} {lo hi bo cap : Nat} {B C : Nat → Nat} {R : List (List Int)} (h : R.length = 4) (o : sk.OwnAt w lo hi bo B C R) : sk.Own w lo hi (.slice (some ⟨bo, 0, none⟩) 4 cap) R :=
  ⟨by rw [h]; decide, _, cap, bo, B, C, by rw [h], fun _ => rfl, o⟩
theorem OwnC.lax {w : World} {lo hi : Nat} {vN vU vQ vS : Value} {c : Ch} (h : OwnC w lo hi vN vU vQ vS c) : OwnL w lo hi vN vU vQ vS c := by
  obtain ⟨⟨l1, h1, l2, h2, l3, h3, a, b, d, ⟨e1, e2, e3, e4, e5, e6⟩, -⟩, sz⟩ := h
  exact ⟨a.wide e1 e2, b.wide e3 e4, sk_wide d e5 e6 sz, sz⟩
theorem OwnL.keep {w w' : World} {lo hi : Nat} {vN vU vQ vS : Value} {c : Ch} (h : OwnL w lo hi vN vU vQ vS c) (s : ∀ k, lo ≤ k → k < hi → w'.heap[k]? = w.heap[k]?) (hs : w.heap.size ≤ w'.heap.size) : OwnL w' lo hi vN vU vQ vS c :=
  ⟨ownR_keep h.r s, h.q.keep s, sk.Own.keep h.s s hs, Nat.le_trans h.sz hs⟩
theorem OwnL.grow {w w' : World} {lo hi : Nat} {vN vU vQ vS : Value} {c : Ch} (h : OwnL w lo hi vN vU vQ vS c) (hb : Below w.heap.size w w') : OwnL w' lo hi vN vU vQ vS c := h.keep (fun k _ y => hb.block k (by have := h.sz; omega)) hb.size
theorem OwnL.off {w w' : World} {lo hi b : Nat} {vN vU vQ vS : Value} {c : Ch} (h : OwnL w lo hi vN vU vQ vS c) (hO : Only b w w') (hb : b < lo ∨ hi ≤ b) : OwnL w' lo hi vN vU vQ vS c := h.keep (fun k x y => hO.2.1 k (by omega)) (Nat.le_of_eq hO.1.symm)
theorem OwnL.within {w w' : World} {lo hi l2 h2 : Nat} {vN vU vQ vS : Value} {c : Ch} (h : OwnL w lo hi vN vU vQ vS c) (hw : Within l2 h2 w w') (hd : hi ≤ l2 ∨ h2 ≤ lo) : OwnL w' lo hi vN vU vQ vS c := h.keep (fun k x y => hw.block k (by have := h.sz; omega) (by omega)) hw.size
theorem OwnL.rd {w : World} {lo hi : Nat} {vN vU vQ vS : Value} {c : Ch} (h : OwnL w lo hi vN vU vQ vS c) (hn : ∀ s ∈ c.R.N, s.size ≤ 9223372036854775807) (hq : ∀ s ∈ c.Q, s.size ≤ 9223372036854775807) : RdC w vN vU vQ vS c := ⟨h.r.rd hn, h.q.rd, hq, h.s.rd.wide (Nat.zero_le _) (sk_hi h.s)⟩
theorem OwnL.forms {w : World} {lo hi : Nat} {vN vU vQ vS : Value} {c : Ch} (h : OwnL w lo hi vN vU vQ vS c) : (∃ a n k, vN = .slice a n k) ∧ (∃ a n k, vU = .slice a n k) ∧ (∃ a n k, vQ = .slice a n k) ∧ ∃ a n k, vS = .slice a n k := ⟨h.r.n.slice, h.r.u.slice, h.q.slice, sk.Own.form h.s⟩
theorem OwnL.wide {w : World} {lo hi lo' : Nat} {vN vU vQ vS : Value} {c : Ch} (h : OwnL w lo hi vN vU vQ vS c) (h1 : lo' ≤ lo) : OwnL w lo' w.heap.size vN vU vQ vS c := ⟨h.r.wide h1 h.sz, h.q.wide h1 h.sz, sk_wide h.s h1 h.sz (Nat.le_refl _), Nat.le_refl _⟩
/-- a choice in which one is seen -/
def seC (c : Ch) (s : ByteArray) : Ch := ⟨c.K, (seeH ⟨c.K, c.R, c.Q⟩ s).R, (seeH ⟨c.K, c.R, c.Q⟩ s).Q, if nameB s = true then sk.plusR c.S c.D s else c.S, if nameB s = true then sk.plusN c.D else c.D⟩
theorem Tw.any {lo hi b : Nat} {w w' : World} (h : ∀ b, Tw lo hi b w w') : Tw lo hi b w w' := h b
set_option maxRecDepth 100000 in
set_option maxHeartbeats 4000000 in
theorem l16See_any (c : Ch) (hc : chB c = true) (s : ByteArray) (hs : s.size ≤ 9223372036854775807) (vN vU vQ vS : Value) (b lo hi : Nat) (w : World) (o : OwnC w lo hi vN vU vQ vS c) (hlo : lo ≤ w.heap.size) (hb : b < lo ∨ hi ≤ b) (V : VBlk w b 32 [.int .i64 c.K, vN, vU, .int .i64 c.R.A, vQ, vS, .int .i64 c.D]) :
    Calls Try.prog 62 #[.pointer (some ⟨b, 0, none⟩), .string s] w fun e w' => (∃ u, e = .returned u) ∧ ∃ vN' vU' vQ', OwnL w' lo w'.heap.size vN' vU' vQ' vS (seC c s) ∧ VBlk w' b 32 [.int .i64 c.K, vN', vU', .int .i64 (seC c s).R.A, vQ', vS, .int .i64 (seC c s).D] ∧ Tw lo hi b w w' := by
  obtain ⟨hsk, hr, hq, hway⟩ := chB_parts hc
  have hl := chB_len hc
  clear hc
  obtain ⟨K, ⟨N, U, A⟩, Q, S, D⟩ := c
  dsimp only at hsk hr hq hway hl
  unfold seC seeH
  dsimp only
  cases hnm : nameB s with
  | false =>
    simp only [Bool.false_eq_true, if_false]
    go_enter Try.func62, Try.ntmps62
    go_wp2_with (first | (go_at_call 25; refine (specNameOk_any _ hs _).mono ?_; rintro e wq ⟨rfl, hq⟩; subst wq; rw [hnm]) | (fail))
    first | go_end0 | ((try simp only [Exit.inBlock, Exit.then]); refine bodyPost_ret (results_none rfl _ _ _) rfl ?_)
    exact ⟨⟨_, rfl⟩, _, _, _, o.lax.wide (Nat.le_refl _), V, Tw.refl _ _ _ _⟩
  | true =>
    have hk : s.size ≤ 1048576 := by have := (nameB_size hnm).2; omega
    obtain ⟨⟨aN1, nN1, kN1, rfl⟩, ⟨aU1, nU1, kU1, rfl⟩, ⟨aQ1, nQ1, kQ1, rfl⟩, -⟩ := o.forms
    obtain ⟨⟨l1, h1, l2, h2, l3, h3, oR, oQ, oS, ⟨e1, e2, e3, e4, e5, e6⟩, e7, e8, e9⟩, sz⟩ := o
    dsimp only at oR oQ oS V
    obtain ⟨hlS, aS, kS, bo, B, C, rfl, haS, oA⟩ := oS
    have hne : S ≠ [] := by intro e; have := hsk.1; rw [e] at this; simp at this
    have haS2 := haS hne
    subst haS2
    have hbo := oA.1 hne
    have h4 : S.length = 4 := hsk.1
    rw [h4] at V ⊢
    simp only [if_true, eq_self]
    obtain ⟨l1', p1, p2, p3⟩ : ∃ l, l ≤ l1 ∧ l ≤ w.heap.size ∧ (l = l1 ∨ l = w.heap.size) := by
      by_cases h : l1 ≤ w.heap.size
      · exact ⟨l1, Nat.le_refl _, h, .inl rfl⟩
      · exact ⟨w.heap.size, by omega, Nat.le_refl _, .inr rfl⟩
    obtain ⟨l2', p4, p5, p6⟩ : ∃ l, l ≤ l2 ∧ l ≤ w.heap.size ∧ (l = l2 ∨ l = w.heap.size) := by
      by_cases h : l2 ≤ w.heap.size
      · exact ⟨l2, Nat.le_refl _, h, .inl rfl⟩
      · exact ⟨w.heap.size, by omega, Nat.le_refl _, .inr rfl⟩
    replace oR := oR.wide p1 (Nat.le_refl _)
    replace oQ := oQ.wide p4 (Nat.le_refl _)
    have HSK : Hid (sk.Four S ∧ sk.Small S) := ⟨hsk.four, hsk.small⟩
    have hlS4 : Hid ((sk.plusR S D s).length = 4) := plusR_len hsk.four D s
    have HNU : Hid (U.length = N.length) := hr.us
    have HL : Hid (Q.length ≤ 1000000 ∧ N.length ≤ 1000000) := hl
    have kA := fun (_ : Unit) => sk.l2AddC_any (.int .i64 K) (.slice aN1 nN1 kN1) (.slice aU1 nU1 kU1) (.int .i64 A) (.slice aQ1 nQ1 kQ1) S hsk.four hsk.small D hsk.2.1 s hk w 0 l3 h3 b bo B C kS V oA (Nat.zero_le _) (Nat.zero_le _) (by omega)
    have KA : Hid _ := kA
    obtain ⟨c0, c1, c2, c3, c4, c5, c6⟩ := cells7c V
    clear kA hsk hr hq hl hlS haS hne h4 oA
    rcases hway with ⟨k1, -⟩ | ⟨k2, -⟩
    · subst k1
      rw [if_neg (by decide : ¬ (1 : Int) = 2)]
      dsimp only
      have kU := fun w3 (o3 : OwnR w3 l1' h1 (.slice aN1 nN1 kN1) (.slice aU1 nU1 kU1) ⟨N, U, A⟩) V3 => l8UseW_any (.int .i64 1) (.slice aQ1 nQ1 kQ1) (.slice (some ⟨bo, 0, none⟩) 4 kS) (.int .i64 (sk.plusN D)) ⟨N, U, A⟩ s (.slice aN1 nN1 kN1) (.slice aU1 nU1 kU1) b l1' h1 w3 o3 V3 HNU.out
      have eS : ringSee ⟨N, U, A⟩ s = if 0 ≤ posS s N then used ⟨N, U, A⟩ s else joinR ⟨N, U, A⟩ s := rfl
      rw [eS]
      by_cases hp : 0 ≤ posS s N
      · rw [if_pos hp]
        rw [decide_eq_true hp] at kU
        have KU : Hid _ := kU
        clear kU eS hp
        go_enter Try.func62, Try.ntmps62
        go_wp2_with (first | (go_at_call 25; refine (specNameOk_any _ hs _).mono ?_; rintro e wq ⟨rfl, hq⟩; subst wq; rw [hnm]) | (go_at_call 108; refine (KA.out ()).mono ?_; rintro e w3 ⟨u3, rfl, V3x, oA3, T3⟩; have V3 : VBlk w3 b 32 [.int .i64 1, .slice aN1 nN1 kN1, .slice aU1 nU1 kU1, .int .i64 A, .slice aQ1 nQ1 kQ1, .slice (some ⟨bo, 0, none⟩) 4 kS, .int .i64 (sk.plusN D)] := V3x; have oR3 := ownR_keep oR (fun k x y => T3.keep k (by omega) (by omega) (by omega)); have oQ3 := oQ.keep (fun k x y => T3.keep k (by omega) (by omega) (by omega)); have hz3 := T3.size; clear c0 c1 c2 c3 c4 c5 c6; obtain ⟨c0, c1, c2, c3, c4, c5, c6⟩ := cells7c V3) | (go_at_call 110; refine (KU.out _ oR3 V3).mono ?_; rintro e w4 ⟨rfl, oR4, V4, T4⟩) | (fail))
        first | go_end0 | ((try simp only [Exit.inBlock, Exit.then]); refine bodyPost_ret (results_none rfl _ _ _) rfl ?_)
        have hz4 := T4.size
        have oA4 := oA3.keep (fun k x y => T4.keep k (by omega) (by omega) (by omega)) hz4
        have oQ4 := oQ3.keep (fun k x y => T4.keep k (by omega) (by omega) (by omega))
        have eA : (used ⟨N, U, A⟩ s).A = A := by unfold used; split <;> rfl
        rw [eA]
        exact ⟨⟨_, rfl⟩, _, _, _, ⟨oR4.wide (by omega) (by omega), oQ4.wide (by omega) (by omega), sk_wide (skown_of hlS4.out oA4) (by omega) (by omega) (Nat.le_refl _), Nat.le_refl _⟩, V4, (T3.widen (by omega) (by omega)).trans (T4.widen (by omega) (by omega))⟩
      · rw [if_neg hp]
        have hu0 : used ⟨N, U, A⟩ s = ⟨N, U, A⟩ := used_no hp
        rw [decide_eq_false hp, hu0] at kU
        have KU : Hid _ := kU
        clear kU eS hp hu0
        go_enter Try.func62, Try.ntmps62
        go_wp2_with (first | (go_at_call 25; refine (specNameOk_any _ hs _).mono ?_; rintro e wq ⟨rfl, hq⟩; subst wq; rw [hnm]) | (go_at_call 108; refine (KA.out ()).mono ?_; rintro e w3 ⟨u3, rfl, V3x, oA3, T3⟩; have V3 : VBlk w3 b 32 [.int .i64 1, .slice aN1 nN1 kN1, .slice aU1 nU1 kU1, .int .i64 A, .slice aQ1 nQ1 kQ1, .slice (some ⟨bo, 0, none⟩) 4 kS, .int .i64 (sk.plusN D)] := V3x; have oR3 := ownR_keep oR (fun k x y => T3.keep k (by omega) (by omega) (by omega)); have oQ3 := oQ.keep (fun k x y => T3.keep k (by omega) (by omega) (by omega)); have hz3 := T3.size; clear c0 c1 c2 c3 c4 c5 c6; obtain ⟨c0, c1, c2, c3, c4, c5, c6⟩ := cells7c V3) | (go_at_call 110; refine (KU.out _ oR3 V3).mono ?_; rintro e w4 ⟨rfl, oR4, V4, T4⟩; have hz4 := T4.size) | (go_at_call 111; refine (l8JoinW_any (.int .i64 1) (.slice aQ1 nQ1 kQ1) (.slice (some ⟨bo, 0, none⟩) 4 kS) (.int .i64 (sk.plusN D)) ⟨N, U, A⟩ s hs _ _ b l1' h1 w4 oR4 V4 (by omega) HL.out.2 (by have := HL.out; have := HNU.out; dsimp only; omega)).mono ?_; rintro e w5 ⟨rfl, vN5, vU5, oR5, V5, T5⟩) | (fail))
        first | go_end0 | ((try simp only [Exit.inBlock, Exit.then]); refine bodyPost_ret (results_none rfl _ _ _) rfl ?_)
        have hz5 := T5.size
        have oA4 := (oA3.keep (fun k x y => T4.keep k (by omega) (by omega) (by omega)) hz4).keep (fun k x y => T5.keep k (by omega) (by omega) (by omega)) hz5
        have oQ4 := (oQ3.keep (fun k x y => T4.keep k (by omega) (by omega) (by omega))).keep (fun k x y => T5.keep k (by omega) (by omega) (by omega))
        have eA : (joinR ⟨N, U, A⟩ s).A = A := by unfold joinR; split <;> rfl
        rw [eA]
        exact ⟨⟨_, rfl⟩, _, _, _, ⟨oR5.wide (by omega) (by omega), oQ4.wide (by omega) (by omega), sk_wide (skown_of hlS4.out oA4) (by omega) (by omega) (Nat.le_refl _), Nat.le_refl _⟩, V5, ((T3.widen (by omega) (by omega)).trans (T4.widen (by omega) (by omega))).trans (T5.widen (by omega) (by omega))⟩
    · subst k2
      rw [if_pos rfl]
      dsimp only
      go_enter Try.func62, Try.ntmps62
      go_wp2_with (first | (go_at_call 25; refine (specNameOk_any _ hs _).mono ?_; rintro e wq ⟨rfl, hq⟩; subst wq; rw [hnm]) | (go_at_call 108; refine (KA.out ()).mono ?_; rintro e w3 ⟨u3, rfl, V3x, oA3, T3⟩; have V3 : VBlk w3 b 32 [.int .i64 2, .slice aN1 nN1 kN1, .slice aU1 nU1 kU1, .int .i64 A, .slice aQ1 nQ1 kQ1, .slice (some ⟨bo, 0, none⟩) 4 kS, .int .i64 (sk.plusN D)] := V3x; have oR3 := ownR_keep oR (fun k x y => T3.keep k (by omega) (by omega) (by omega)); have oQ3 := oQ.keep (fun k x y => T3.keep k (by omega) (by omega) (by omega)); have hz3 := T3.size; clear c0 c1 c2 c3 c4 c5 c6; obtain ⟨c0, c1, c2, c3, c4, c5, c6⟩ := cells7c V3) | (go_at_call 109; refine (l9TouchW_any Q s hs _ l2' h2 w3 oQ3 (by omega) HL.out.1).mono ?_; rintro e w4 ⟨v4, rfl, oQ4, T4⟩; obtain ⟨aQ4, nQ4, kQ4, rfl⟩ := oQ4.slice; have hz4 := (T4 b).size; have V4 : VBlk w4 b 32 [.int .i64 2, .slice aN1 nN1 kN1, .slice aU1 nU1 kU1, .int .i64 A, .slice aQ1 nQ1 kQ1, .slice (some ⟨bo, 0, none⟩) 4 kS, .int .i64 (sk.plusN D)] := V3.of ((T4 w3.heap.size).keep b V3.lt (by have := V3.lt; omega) (by omega)); clear c0 c1 c2 c3 c4 c5 c6; obtain ⟨c0, c1, c2, c3, c4, c5, c6⟩ := cells7c V4) | (refine wpList_store_cc rfl 24 _ _ rfl b 4 (.slice aQ4 nQ4 kQ4) rfl rfl rfl szSl V4 (by simp) ?_; intro w5 hO5 V5) | (fail))
      first | go_end0 | ((try simp only [Exit.inBlock, Exit.then]); refine bodyPost_ret (results_none rfl _ _ _) rfl ?_)
      have hz5 := Nat.le_of_eq hO5.1.symm
      have T45 := (T4 b).trans (Tw.of_only hO5)
      have oA5 := oA3.keep (fun k x y => T45.keep k (by omega) (by omega) (by omega)) T45.size
      have oR5 := ownR_keep oR3 (fun k x y => T45.keep k (by omega) (by omega) (by omega))
      have oQ5 := oQ4.only hO5 V4 (by decide)
      exact ⟨⟨_, rfl⟩, _, _, _, ⟨oR5.wide (by omega) (by omega), oQ5.wide (by omega) (by omega), sk_wide (skown_of hlS4.out oA5) (by omega) (by omega) (Nat.le_refl _), Nat.le_refl _⟩, V5, (T3.widen (by omega) (by omega)).trans (T45.widen (by omega) (by omega))⟩
end Go.Proofs.Ytmnjmghlkiljhaa.rg
