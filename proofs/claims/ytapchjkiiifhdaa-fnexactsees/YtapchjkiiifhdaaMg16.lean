/- Texts laid together: Cq2 Cq3 Cq4. -/
import Derived.Test.YtapchjkiiifhdaaMg13
import Derived.Test.YtapchjkiiifhdaaCq1
import Derived.Test.YtapchjkiiifhdaaMg09
import Derived.Lib.SmallJoins
import Derived.Deep.Slices
import Derived.Deep.RegionHeld3
import Derived.BigQuiet
import Derived.Deep.DeepCutAuto
/- Contracts: the model's copy of a choice. -/
namespace Go.Proofs.Ytapchjkiiifhdaa.rg
open Go.ChangeShapes Go.WideShapes Go.ChangeAt Go.RowKit
open Go.Deep Go.Joins
open Go.Proofs.Ytapchjkiiifhdaa.ce Go.Proofs.Ytapchjkiiifhdaa.ro
set_option linter.unusedVariables false
set_option linter.unusedSimpArgs false

section
variable {ops : Array Oper} {rest : List Oper} {o : Oper} {a : Act} {w : World} {Q : Exit → Act → World → Prop} {K : Act → World → Prop} {X : Prop}
theorem step_build0s (hgd : o.guard = none) (t e : TypeId) (i : TypeInfo) (ho : o.op = .buildSlice t 0 #[]) (ht : Try.prog.underlying t = some (.slice e)) (hi : Try.prog.info? e = some i)
    (h : ∀ (b : Nat) (w' : World), Below w.heap.size w w' → K (a.put o.dst (.slice (some ⟨b, 0, none⟩) 0 0)) w') : if Region.wanted o (yielded ops a.tmps) = true then Oper.wp Try.prog o a w K Q else X := by
  refine step_val hgd (v := .slice (some ⟨w.heap.size, 0, none⟩) 0 0) (w' := w.alloc (.cells #[] e)) ?_ (h _ _ ((Below.refl _ _).alloc (Nat.le_refl _) _))
  simp [execOp, ho, run_build0s w t e i ht hi, Result.andThen]
end
/-- small enough to be copied -/
structure SmC (c : Ch) : Prop where
  n : c.R.N.length ≤ 1000000
  u : c.R.U.length ≤ 1000000
  q : c.Q.length ≤ 1000000
  s : sk.Four c.S
theorem smC_of {c : Ch} (h : chB c = true) : SmC c := by
  have hl := chB_len h
  unfold chB at h
  simp only [Bool.and_eq_true, decide_eq_true_eq] at h
  obtain ⟨⟨⟨hs, hr⟩, -⟩, -⟩ := h
  have hu := (ringB_iff.1 hr).us
  exact ⟨hl.2, by rw [hu]; exact hl.2, hl.1, hs.four⟩
set_option maxRecDepth 100000 in
set_option maxHeartbeats 8000000 in
theorem l16Copy_any (c : Ch) (hs : SmC c) (vN vU vQ vS : Value) (w : World) (h : RdC w vN vU vQ vS c) :
    Calls Try.prog 80 #[.agg #[.int .i64 c.K, vN, vU, .int .i64 c.R.A, vQ, vS, .int .i64 c.D]] w fun e w' => ∃ vN' vU' vQ' vS', e = .returned (.agg #[.int .i64 c.K, vN', vU', .int .i64 c.R.A, vQ', vS', .int .i64 c.D]) ∧ OwnC w' w.heap.size w'.heap.size vN' vU' vQ' vS' c ∧ Below w.heap.size w w' := by
  obtain ⟨K, ⟨N, U, A⟩, Q, S, D⟩ := c
  obtain ⟨aN, cN, rfl⟩ := h.r.n.form
  obtain ⟨aU, cU, rfl⟩ := h.r.u.form
  obtain ⟨aQ, cQ, rfl⟩ := h.q.form
  obtain ⟨aS, cS, rfl⟩ := sk_form h.s

  have R : Hid (RdC w (.slice aN N.length cN) (.slice aU U.length cU) (.slice aQ Q.length cQ) (.slice aS S.length cS) ⟨K, ⟨N, U, A⟩, Q, S, D⟩) := h
  clear h
  obtain ⟨hN, hU, hQ, h4⟩ := hs
  dsimp only at hN hU hQ h4
  obtain ⟨iS, hiS⟩ := infoStrE
  go_enter Try.func80, Try.ntmps80
  have mk1 : Hid True := trivial
  have mk2 : Hid True := trivial
  go_upto_region 1 with (first | (clear mk1; refine wpList_box_v rfl 36 _ rfl [.int .i64 K, .slice aN N.length cN, .slice aU U.length cU, .int .i64 A, .slice aQ Q.length cQ, .slice aS S.length cS, .int .i64 D] rfl ?_; intro b1 w1 hb1 hwb1 hB1 c1; have hz1 : w.heap.size ≤ w1.heap.size := hB1.size; have hB := hB1; have hzw := hB.size; obtain ⟨c10, c11, c12, c13, c14, c15, c16⟩ := cells7c c1) | (clear mk2; refine wpList_alloc_v rfl 36 rfl [.int .i64 0, .slice none 0 0, .slice none 0 0, .int .i64 0, .slice none 0 0, .slice none 0 0, .int .i64 0] zeroCh ?_; intro b2 w2 hb2 hwb2 hB2 c2; have hz2 : w1.heap.size ≤ w2.heap.size := hB2.size; replace c1 := vblk_grow c1 hB2; replace hB := hB.trans (hB2.mono (by omega)); replace hzw := hB.size; clear c10 c11 c12 c13 c14 c15 c16; obtain ⟨c10, c11, c12, c13, c14, c15, c16⟩ := cells7c c1) | (fail))
  have hBd : Below w2.heap.size w2 w2.drew := (Below.refl _ _).drew
  have hzd : w2.drew.heap.size ≤ w2.heap.size := Nat.le_refl _
  have hzd2 : w2.heap.size ≤ w2.drew.heap.size := Nat.le_refl _
  replace c1 := vblk_grow c1 hBd
  clear c10 c11 c12 c13 c14 c15 c16
  obtain ⟨c10, c11, c12, c13, c14, c15, c16⟩ := cells7c c1
  replace c2 := vblk_grow c2 hBd
  replace hB := hB.trans (hBd.mono (by omega))
  replace hzw := hB.size
  (try simp only [Act.put])
  (try simp only [List.setIfInBounds_toArray, List.set_cons_zero, List.set_cons_succ])
  clear c10 c11 c12 c13 c14 c15 c16
  refine wp_region_held_drew (S := fun w' => w'.cell? ⟨b1, 0, none⟩ = some (.int .i64 K) ∧ w'.cell? ⟨b1, 1, none⟩ = some (.slice aN N.length cN) ∧ w'.cell? ⟨b1, 2, none⟩ = some (.slice aU U.length cU) ∧ w'.cell? ⟨b1, 3, none⟩ = some (.int .i64 A) ∧ w'.cell? ⟨b1, 4, none⟩ = some (.slice aQ Q.length cQ) ∧ w'.cell? ⟨b1, 5, none⟩ = some (.slice aS S.length cS) ∧ w'.cell? ⟨b1, 6, none⟩ = some (.int .i64 D)) (by kernel_rfl) (cells7c c1) (fun hHeld => ?_)
  refine wpAnyH_take (i := 0) (oi := { dst := some 3, op := Op.fieldAddr 36 (Operand.tmp 1) 0, type := 0, pos := "l16_choice.go:20", after := #[], guard := none }) (v := ?_) rfl (by kernel_rfl) (by kernel_rfl) (by kernel_rfl) (fun _ _ _ h => h) (Or.inl ⟨by rfl, ?_⟩) (by assumption) ?_
  rotate_left 1
  · intro w' hSw; (try dsimp only at hSw); go_simp; (try with_reducible rfl)
  (try simp only [Act.put, List.setIfInBounds_toArray, List.set_cons_zero, List.set_cons_succ])
  refine wpAnyH_take (i := 1) (oi := { dst := some 4, op := Op.load 2 (Operand.tmp 3), type := 2, pos := "l16_choice.go:20", after := #[{ on := 0, ground := Ground.data }], guard := none }) (v := ?_) rfl (by kernel_rfl) (by kernel_rfl) (by kernel_rfl) (fun _ _ _ h => h) (Or.inl ⟨by rfl, ?_⟩) (by assumption) ?_
  rotate_left 1
  · intro w' hSw; (try dsimp only at hSw); go_simp; (try with_reducible rfl)
  (try simp only [Act.put, List.setIfInBounds_toArray, List.set_cons_zero, List.set_cons_succ])
  refine wpAnyH_take (i := 2) (oi := { dst := some 5, op := Op.fieldAddr 36 (Operand.tmp 1) 1, type := 0, pos := "l16_choice.go:20", after := #[], guard := none }) (v := ?_) rfl (by kernel_rfl) (by kernel_rfl) (by kernel_rfl) (fun _ _ _ h => h) (Or.inl ⟨by rfl, ?_⟩) (by assumption) ?_
  rotate_left 1
  · intro w' hSw; (try dsimp only at hSw); go_simp; (try with_reducible rfl)
  (try simp only [Act.put, List.setIfInBounds_toArray, List.set_cons_zero, List.set_cons_succ])
  refine wpAnyH_take (i := 3) (oi := { dst := some 6, op := Op.load 33 (Operand.tmp 5), type := 33, pos := "l16_choice.go:20", after := #[{ on := 2, ground := Ground.data }], guard := none }) (v := ?_) rfl (by kernel_rfl) (by kernel_rfl) (by kernel_rfl) (fun _ _ _ h => h) (Or.inl ⟨by rfl, ?_⟩) (by assumption) ?_
  rotate_left 1
  · intro w' hSw; (try dsimp only at hSw); go_simp; (try with_reducible rfl)
  (try simp only [Act.put, List.setIfInBounds_toArray, List.set_cons_zero, List.set_cons_succ])
  refine wpAnyH_take (i := 6) (oi := { dst := some 9, op := Op.fieldAddr 36 (Operand.tmp 1) 2, type := 0, pos := "l16_choice.go:20", after := #[], guard := none }) (v := ?_) rfl (by kernel_rfl) (by kernel_rfl) (by kernel_rfl) (fun _ _ _ h => h) (Or.inl ⟨by rfl, ?_⟩) (by assumption) ?_
  rotate_left 1
  · intro w' hSw; (try dsimp only at hSw); go_simp; (try with_reducible rfl)
  (try simp only [Act.put, List.setIfInBounds_toArray, List.set_cons_zero, List.set_cons_succ])
  refine wpAnyH_take (i := 7) (oi := { dst := some 10, op := Op.load 22 (Operand.tmp 9), type := 22, pos := "l16_choice.go:20", after := #[{ on := 6, ground := Ground.data }], guard := none }) (v := ?_) rfl (by kernel_rfl) (by kernel_rfl) (by kernel_rfl) (fun _ _ _ h => h) (Or.inl ⟨by rfl, ?_⟩) (by assumption) ?_
  rotate_left 1
  · intro w' hSw; (try dsimp only at hSw); go_simp; (try with_reducible rfl)
  (try simp only [Act.put, List.setIfInBounds_toArray, List.set_cons_zero, List.set_cons_succ])
  refine wpAnyH_take (i := 9) (oi := { dst := some 12, op := Op.fieldAddr 36 (Operand.tmp 1) 3, type := 0, pos := "l16_choice.go:20", after := #[], guard := none }) (v := ?_) rfl (by kernel_rfl) (by kernel_rfl) (by kernel_rfl) (fun _ _ _ h => h) (Or.inl ⟨by rfl, ?_⟩) (by assumption) ?_
  rotate_left 1
  · intro w' hSw; (try dsimp only at hSw); go_simp; (try with_reducible rfl)
  (try simp only [Act.put, List.setIfInBounds_toArray, List.set_cons_zero, List.set_cons_succ])
  refine wpAnyH_take (i := 10) (oi := { dst := some 13, op := Op.load 34 (Operand.tmp 12), type := 34, pos := "l16_choice.go:20", after := #[{ on := 9, ground := Ground.data }], guard := none }) (v := ?_) rfl (by kernel_rfl) (by kernel_rfl) (by kernel_rfl) (fun _ _ _ h => h) (Or.inl ⟨by rfl, ?_⟩) (by assumption) ?_
  rotate_left 1
  · intro w' hSw; (try dsimp only at hSw); go_simp; (try with_reducible rfl)
  (try simp only [Act.put, List.setIfInBounds_toArray, List.set_cons_zero, List.set_cons_succ])
  refine wpAnyH_ready (rs := [4, 5]) (by kernel_rfl) (by simp) ?_
  refine AllReadyH.cons (o := { dst := some 7, op := Op.call { callee := Callee.value (Operand.func 136), args := #[Operand.tmp 6], argTypes := #[33] }, type := 33, pos := "l16_choice.go:20", after := #[{ on := 3, ground := Ground.data }], guard := none }) rfl (fun KC hKC => ?_) (AllReadyH.cons (o := { dst := some 8, op := Op.buildSlice 22 0 #[], type := 22, pos := "l16_choice.go:20", after := #[], guard := none }) rfl (fun KC hKC => ?_) AllReadyH.nil)
  · go_simp
    go_at_call 136
    refine (l8Copy_any ⟨N, U, A⟩ _ _ _ (R.out.grow hB).r hN hU).mono ?_
    rintro er wr4 ⟨vN8, vU8, rfl, oR, hBr4⟩
    have hzr4 : w2.drew.heap.size ≤ wr4.heap.size := hBr4.size
    (try replace oQ := oQ.grow hBr4)
    (try replace oS := ownS_grow oS hBr4)
    replace c1 := vblk_grow c1 hBr4
    replace c2 := vblk_grow c2 hBr4
    replace hB := hB.trans (hBr4.mono (by omega))
    replace hzw := hB.size
    obtain ⟨aN8, nN8, kN8, rfl⟩ := oR.n.slice
    obtain ⟨aU8, nU8, kU8, rfl⟩ := oR.u.slice
    refine hKC.out _ _ (cells7c c1) (fun hHeld2 => ?_)
    clear hKC KC hHeld
    have hHeld := hHeld2
    clear hHeld2
    (try simp only [Act.put, List.setIfInBounds_toArray, List.set_cons_zero, List.set_cons_succ])
    refine wpAnyH_ready (rs := [5]) (by kernel_rfl) (by simp) ?_
    refine AllReadyH.cons (o := { dst := some 8, op := Op.buildSlice 22 0 #[], type := 22, pos := "l16_choice.go:20", after := #[], guard := none }) rfl (fun KC hKC => ?_) AllReadyH.nil
    refine step_build0s rfl 22 _ iS rfl Try.underlying22 hiS ?_
    intro bE wr5 hBr5
    have hzr5 : wr4.heap.size ≤ wr5.heap.size := hBr5.size
    (try replace oR := oR.grow hBr5)
    (try replace oS := ownS_grow oS hBr5)
    replace c1 := vblk_grow c1 hBr5
    replace c2 := vblk_grow c2 hBr5
    replace hB := hB.trans (hBr5.mono (by omega))
    replace hzw := hB.size
    refine hKC.out _ _ (cells7c c1) (fun hHeld2 => ?_)
    clear hKC KC hHeld
    have hHeld := hHeld2
    clear hHeld2
    (try simp only [Act.put, List.setIfInBounds_toArray, List.set_cons_zero, List.set_cons_succ])
    refine wpAnyH_ready (rs := [8]) (by kernel_rfl) (by simp) ?_
    refine AllReadyH.cons (o := { dst := some 11, op := Op.call { callee := Callee.builtin Builtin.append, args := #[Operand.tmp 8, Operand.tmp 10], argTypes := #[22, 22] }, type := 22, pos := "l16_choice.go:20", after := #[{ on := 5, ground := Ground.data }, { on := 7, ground := Ground.data }, { on := 4, ground := Ground.chain }], guard := none }) rfl (fun KC hKC => ?_) AllReadyH.nil
    refine step_append_g infoS rfl _ _ 22 rfl Try.underlying22 wr5.heap.size 0 _ [] rfl (own_zero _ _ _ _ _) (Nat.le_refl _) _ Q rfl (R.out.grow hB).q (by simp; omega) ?_
    intro vQ8 wr8 oQ hTr8
    rw [List.nil_append] at oQ
    have hBr8 := hTr8.low
    have hzr8 : wr5.heap.size ≤ wr8.heap.size := hBr8.size
    (try replace oR := oR.grow hBr8)
    (try replace oS := ownS_grow oS hBr8)
    replace c1 := vblk_grow c1 hBr8
    replace c2 := vblk_grow c2 hBr8
    obtain ⟨aQ8, nQ8, kQ8, rfl⟩ := oQ.slice
    replace hB := hB.trans (hBr8.mono (by omega))
    replace hzw := hB.size
    refine hKC.out _ _ (cells7c c1) (fun hHeld2 => ?_)
    clear hKC KC hHeld
    have hHeld := hHeld2
    clear hHeld2
    (try simp only [Act.put, List.setIfInBounds_toArray, List.set_cons_zero, List.set_cons_succ])
    refine wpAnyH_ready (rs := [11]) (by kernel_rfl) (by simp) ?_
    refine AllReadyH.cons (o := { dst := some 14, op := Op.call { callee := Callee.value (Operand.func 137), args := #[Operand.tmp 13], argTypes := #[34] }, type := 34, pos := "l16_choice.go:20", after := #[{ on := 10, ground := Ground.data }, { on := 8, ground := Ground.chain }], guard := none }) rfl (fun KC hKC => ?_) AllReadyH.nil
    go_simp
    go_at_call 137
    refine (sk.l2Copy_any S h4 D _ _ _ (Nat.le_refl _) (R.out.grow hB).s).mono ?_
    rintro er wr11 ⟨vS8, rfl, oS, hBr11⟩
    have hzr11 : wr8.heap.size ≤ wr11.heap.size := hBr11.size
    (try replace oR := oR.grow hBr11)
    (try replace oQ := oQ.grow hBr11)
    replace c1 := vblk_grow c1 hBr11
    replace c2 := vblk_grow c2 hBr11
    replace hB := hB.trans (hBr11.mono (by omega))
    replace hzw := hB.size
    obtain ⟨aS8, nS8, kS8, rfl⟩ := sk.Own.form oS
    refine hKC.out _ _ (cells7c c1) (fun hHeld2 => ?_)
    clear hKC KC hHeld
    have hHeld := hHeld2
    clear hHeld2
    (try simp only [Act.put, List.setIfInBounds_toArray, List.set_cons_zero, List.set_cons_succ])
    refine wpAnyH_take (i := 12) (oi := { dst := some 15, op := Op.build 36 #[(0, Operand.tmp 4), (1, Operand.tmp 7), (2, Operand.tmp 11), (3, Operand.tmp 14)], type := 36, pos := "l16_choice.go:20", after := #[{ on := 1, ground := Ground.data }, { on := 4, ground := Ground.data }, { on := 8, ground := Ground.data }, { on := 11, ground := Ground.data }], guard := none }) (v := ?_) rfl (by kernel_rfl) (by kernel_rfl) (by kernel_rfl) (fun _ _ _ h => h) (Or.inl ⟨by rfl, ?_⟩) (by assumption) ?_
    rotate_left 1
    · intro w' hSw; (try dsimp only at hSw); go_simp; (try with_reducible rfl)
    (try simp only [Act.put, List.setIfInBounds_toArray, List.set_cons_zero, List.set_cons_succ])
    refine wpAnyH_ready (rs := [13]) (by kernel_rfl) (by simp) ?_
    refine AllReadyH.cons (o := { dst := none, op := Op.store 36 (Operand.tmp 2) (Operand.tmp 15), type := 0, pos := "l16_choice.go:20", after := #[{ on := 12, ground := Ground.data }, { on := 11, ground := Ground.chain }, { on := 0, ground := Ground.phase }, { on := 1, ground := Ground.phase }, { on := 2, ground := Ground.phase }, { on := 3, ground := Ground.phase }, { on := 4, ground := Ground.phase }, { on := 5, ground := Ground.phase }, { on := 6, ground := Ground.phase }, { on := 7, ground := Ground.phase }, { on := 8, ground := Ground.phase }, { on := 9, ground := Ground.phase }, { on := 10, ground := Ground.phase }, { on := 11, ground := Ground.phase }, { on := 12, ground := Ground.phase }], guard := none }) rfl (fun KC hKC => ?_) AllReadyH.nil
    refine step_store_v rfl 36 _ _ rfl b2 [.int .i64 K, .slice aN8 nN8 kN8, .slice aU8 nU8 kU8, .int .i64 A, .slice aQ8 nQ8 kQ8, .slice aS8 nS8 kS8, .int .i64 D] rfl rfl sizeCh c2 rfl (by simp [Value.oneCell']) ?_
    intro wr13 hOr13 c2x
    have hzr13 : wr11.heap.size ≤ wr13.heap.size := Nat.le_of_eq hOr13.1.symm
    have hyr13 : wr13.heap.size ≤ wr11.heap.size := Nat.le_of_eq hOr13.1
    replace c1 := vblk_only c1 hOr13 (by omega)
    replace oR := oR.only hOr13 c2 (by decide) (by decide)
    replace oQ := oQ.only hOr13 c2 (by decide)
    replace oS := sk.Own.keep oS (fun k h1 h2 => hOr13.2.1 k (by omega)) (Nat.le_of_eq hOr13.1.symm)
    clear c2
    have c2 := c2x
    clear c2x
    replace hB := hB.trans (hOr13.2.2 _ (by omega))
    replace hzw := hB.size
    (try replace hcur := cur_below hcur (hOr13.2.2 (p + 1) (by omega)) (by omega))
    refine hKC.out _ _ (cells7c c1) (fun hHeld2 => ?_)
    clear hKC KC hHeld
    have hHeld := hHeld2
    clear hHeld2
    (try simp only [Act.put])
    refine wpAnyH_done (by kernel_rfl) ?_ _
    go_wp2
    exact row_retv rfl rfl c2 Try.underlying36 sizeCh rfl ⟨_, _, _, _, rfl, ⟨⟨_, _, _, _, _, _, oR, oQ, oS, ⟨by omega, by omega, by omega, by omega, by omega, by omega⟩, by omega, by omega, by omega⟩, Nat.le_refl _⟩, hB⟩
  refine step_build0s rfl 22 _ iS rfl Try.underlying22 hiS ?_
  intro bE wr5 hBr5
  have hzr5 : w2.drew.heap.size ≤ wr5.heap.size := hBr5.size
  (try replace oR := oR.grow hBr5)
  (try replace oS := ownS_grow oS hBr5)
  replace c1 := vblk_grow c1 hBr5
  replace c2 := vblk_grow c2 hBr5
  replace hB := hB.trans (hBr5.mono (by omega))
  replace hzw := hB.size
  refine hKC.out _ _ (cells7c c1) (fun hHeld2 => ?_)
  clear hKC KC hHeld
  have hHeld := hHeld2
  clear hHeld2
  (try simp only [Act.put, List.setIfInBounds_toArray, List.set_cons_zero, List.set_cons_succ])
  refine wpAnyH_ready (rs := [4]) (by kernel_rfl) (by simp) ?_
  refine AllReadyH.cons (o := { dst := some 7, op := Op.call { callee := Callee.value (Operand.func 136), args := #[Operand.tmp 6], argTypes := #[33] }, type := 33, pos := "l16_choice.go:20", after := #[{ on := 3, ground := Ground.data }], guard := none }) rfl (fun KC hKC => ?_) AllReadyH.nil
  go_simp
  go_at_call 136
  refine (l8Copy_any ⟨N, U, A⟩ _ _ _ (R.out.grow hB).r hN hU).mono ?_
  rintro er wr4 ⟨vN8, vU8, rfl, oR, hBr4⟩
  have hzr4 : wr5.heap.size ≤ wr4.heap.size := hBr4.size
  (try replace oQ := oQ.grow hBr4)
  (try replace oS := ownS_grow oS hBr4)
  replace c1 := vblk_grow c1 hBr4
  replace c2 := vblk_grow c2 hBr4
  replace hB := hB.trans (hBr4.mono (by omega))
  replace hzw := hB.size
  obtain ⟨aN8, nN8, kN8, rfl⟩ := oR.n.slice
  obtain ⟨aU8, nU8, kU8, rfl⟩ := oR.u.slice
  refine hKC.out _ _ (cells7c c1) (fun hHeld2 => ?_)
  clear hKC KC hHeld
  have hHeld := hHeld2
  clear hHeld2
  (try simp only [Act.put, List.setIfInBounds_toArray, List.set_cons_zero, List.set_cons_succ])
  refine wpAnyH_ready (rs := [8]) (by kernel_rfl) (by simp) ?_
  refine AllReadyH.cons (o := { dst := some 11, op := Op.call { callee := Callee.builtin Builtin.append, args := #[Operand.tmp 8, Operand.tmp 10], argTypes := #[22, 22] }, type := 22, pos := "l16_choice.go:20", after := #[{ on := 5, ground := Ground.data }, { on := 7, ground := Ground.data }, { on := 4, ground := Ground.chain }], guard := none }) rfl (fun KC hKC => ?_) AllReadyH.nil
  refine step_append_g infoS rfl _ _ 22 rfl Try.underlying22 wr4.heap.size 0 _ [] rfl (own_zero _ _ _ _ _) (Nat.le_refl _) _ Q rfl (R.out.grow hB).q (by simp; omega) ?_
  intro vQ8 wr8 oQ hTr8
  rw [List.nil_append] at oQ
  have hBr8 := hTr8.low
  have hzr8 : wr4.heap.size ≤ wr8.heap.size := hBr8.size
  (try replace oR := oR.grow hBr8)
  (try replace oS := ownS_grow oS hBr8)
  replace c1 := vblk_grow c1 hBr8
  replace c2 := vblk_grow c2 hBr8
  obtain ⟨aQ8, nQ8, kQ8, rfl⟩ := oQ.slice
  replace hB := hB.trans (hBr8.mono (by omega))
  replace hzw := hB.size
  refine hKC.out _ _ (cells7c c1) (fun hHeld2 => ?_)
  clear hKC KC hHeld
  have hHeld := hHeld2
  clear hHeld2
  (try simp only [Act.put, List.setIfInBounds_toArray, List.set_cons_zero, List.set_cons_succ])
  refine wpAnyH_ready (rs := [11]) (by kernel_rfl) (by simp) ?_
  refine AllReadyH.cons (o := { dst := some 14, op := Op.call { callee := Callee.value (Operand.func 137), args := #[Operand.tmp 13], argTypes := #[34] }, type := 34, pos := "l16_choice.go:20", after := #[{ on := 10, ground := Ground.data }, { on := 8, ground := Ground.chain }], guard := none }) rfl (fun KC hKC => ?_) AllReadyH.nil
  go_simp
  go_at_call 137
  refine (sk.l2Copy_any S h4 D _ _ _ (Nat.le_refl _) (R.out.grow hB).s).mono ?_
  rintro er wr11 ⟨vS8, rfl, oS, hBr11⟩
  have hzr11 : wr8.heap.size ≤ wr11.heap.size := hBr11.size
  (try replace oR := oR.grow hBr11)
  (try replace oQ := oQ.grow hBr11)
  replace c1 := vblk_grow c1 hBr11
  replace c2 := vblk_grow c2 hBr11
  replace hB := hB.trans (hBr11.mono (by omega))
  replace hzw := hB.size
  obtain ⟨aS8, nS8, kS8, rfl⟩ := sk.Own.form oS
  refine hKC.out _ _ (cells7c c1) (fun hHeld2 => ?_)
  clear hKC KC hHeld
  have hHeld := hHeld2
  clear hHeld2
  (try simp only [Act.put, List.setIfInBounds_toArray, List.set_cons_zero, List.set_cons_succ])
  refine wpAnyH_take (i := 12) (oi := { dst := some 15, op := Op.build 36 #[(0, Operand.tmp 4), (1, Operand.tmp 7), (2, Operand.tmp 11), (3, Operand.tmp 14)], type := 36, pos := "l16_choice.go:20", after := #[{ on := 1, ground := Ground.data }, { on := 4, ground := Ground.data }, { on := 8, ground := Ground.data }, { on := 11, ground := Ground.data }], guard := none }) (v := ?_) rfl (by kernel_rfl) (by kernel_rfl) (by kernel_rfl) (fun _ _ _ h => h) (Or.inl ⟨by rfl, ?_⟩) (by assumption) ?_
  rotate_left 1
  · intro w' hSw; (try dsimp only at hSw); go_simp; (try with_reducible rfl)
  (try simp only [Act.put, List.setIfInBounds_toArray, List.set_cons_zero, List.set_cons_succ])
  refine wpAnyH_ready (rs := [13]) (by kernel_rfl) (by simp) ?_
  refine AllReadyH.cons (o := { dst := none, op := Op.store 36 (Operand.tmp 2) (Operand.tmp 15), type := 0, pos := "l16_choice.go:20", after := #[{ on := 12, ground := Ground.data }, { on := 11, ground := Ground.chain }, { on := 0, ground := Ground.phase }, { on := 1, ground := Ground.phase }, { on := 2, ground := Ground.phase }, { on := 3, ground := Ground.phase }, { on := 4, ground := Ground.phase }, { on := 5, ground := Ground.phase }, { on := 6, ground := Ground.phase }, { on := 7, ground := Ground.phase }, { on := 8, ground := Ground.phase }, { on := 9, ground := Ground.phase }, { on := 10, ground := Ground.phase }, { on := 11, ground := Ground.phase }, { on := 12, ground := Ground.phase }], guard := none }) rfl (fun KC hKC => ?_) AllReadyH.nil
  refine step_store_v rfl 36 _ _ rfl b2 [.int .i64 K, .slice aN8 nN8 kN8, .slice aU8 nU8 kU8, .int .i64 A, .slice aQ8 nQ8 kQ8, .slice aS8 nS8 kS8, .int .i64 D] rfl rfl sizeCh c2 rfl (by simp [Value.oneCell']) ?_
  intro wr13 hOr13 c2x
  have hzr13 : wr11.heap.size ≤ wr13.heap.size := Nat.le_of_eq hOr13.1.symm
  have hyr13 : wr13.heap.size ≤ wr11.heap.size := Nat.le_of_eq hOr13.1
  replace c1 := vblk_only c1 hOr13 (by omega)
  replace oR := oR.only hOr13 c2 (by decide) (by decide)
  replace oQ := oQ.only hOr13 c2 (by decide)
  replace oS := sk.Own.keep oS (fun k h1 h2 => hOr13.2.1 k (by omega)) (Nat.le_of_eq hOr13.1.symm)
  clear c2
  have c2 := c2x
  clear c2x
  replace hB := hB.trans (hOr13.2.2 _ (by omega))
  replace hzw := hB.size
  (try replace hcur := cur_below hcur (hOr13.2.2 (p + 1) (by omega)) (by omega))
  refine hKC.out _ _ (cells7c c1) (fun hHeld2 => ?_)
  clear hKC KC hHeld
  have hHeld := hHeld2
  clear hHeld2
  (try simp only [Act.put])
  refine wpAnyH_done (by kernel_rfl) ?_ _
  go_wp2
  exact row_retv rfl rfl c2 Try.underlying36 sizeCh rfl ⟨_, _, _, _, rfl, ⟨⟨_, _, _, _, _, _, oR, oQ, oS, ⟨by omega, by omega, by omega, by omega, by omega, by omega⟩, by omega, by omega, by omega⟩, Nat.le_refl _⟩, hB⟩

end Go.Proofs.Ytapchjkiiifhdaa.rg
/- Contracts: who is forgotten. -/
namespace Go.Proofs.Ytapchjkiiifhdaa.rg
open Go.ChangeShapes Go.WideShapes Go.ChangeAt Go.RowKit
open Go.Deep Go.Joins
open Go.Proofs.Ytapchjkiiifhdaa.ce Go.Proofs.Ytapchjkiiifhdaa.ro
set_option linter.unusedVariables false
set_option linter.unusedSimpArgs false

/-- of the blocks that were there b alone may be turned -/
structure Off (b : Nat) (w w' : World) : Prop where
  os : w'.os = w.os
  tape : w'.tape = w.tape
  output : w'.output = w.output
  size : w.heap.size ≤ w'.heap.size
  keep : ∀ k, k < w.heap.size → k ≠ b → w'.heap[k]? = w.heap[k]?
theorem Off.of_tn {b : Nat} {w w' : World} (h : Tn w.heap.size b w w') : Off b w w' := ⟨h.os, h.tape, h.output, h.size, h.low⟩
theorem Off.of_below {b : Nat} {w w' : World} (h : Below w.heap.size w w') : Off b w w' := ⟨h.os, h.tape, h.output, h.size, fun k hk _ => h.block k hk⟩
theorem Off.then_only {b : Nat} {w x y : World} (h : Off b w x) (o : Only b x y) : Off b w y := by
  have h0 := o.2.2 0 (Nat.zero_le _)
  exact ⟨h0.os.trans h.os, h0.tape.trans h.tape, h0.output.trans h.output, Nat.le_trans h.size h0.size, fun k hk hn => (o.2.1 k hn).trans (h.keep k hk hn)⟩
theorem Off.below {b B : Nat} {w w' : World} (h : Off b w w') (h1 : B ≤ b) (h2 : B ≤ w.heap.size) : Below B w w' := ⟨h.os, h.tape, h.output, h.size, fun k hk => h.keep k (by omega) (by omega)⟩
/-- a choice in which one is forgotten -/
def fgC (c : Ch) (s : ByteArray) : Ch := ⟨c.K, (forgetH ⟨c.K, c.R, c.Q⟩ s).R, (forgetH ⟨c.K, c.R, c.Q⟩ s).Q, c.S, c.D⟩
def fgX (c : Ch) (s : ByteArray) : Ch := if chB c = true then fgC c s else Ch.zero
theorem chB_parts {c : Ch} (h : chB c = true) : sk.skOk c.S c.D ∧ ROk c.R ∧ NOk c.Q ∧ ((c.K = 1 ∧ c.Q = []) ∨ (c.K = 2 ∧ c.R.N = [])) := by
  unfold chB wayB at h
  simp only [Bool.and_eq_true, Bool.or_eq_true, decide_eq_true_eq, List.length_eq_zero_iff] at h
  obtain ⟨⟨⟨hs, hr⟩, hq⟩, hw⟩ := h
  exact ⟨hs, ringB_iff.1 hr, namesB_iff.1 hq, hw⟩
set_option maxRecDepth 100000 in
set_option maxHeartbeats 4000000 in
theorem l16Forget_any (c : Ch) (hc : chB c = true) (s : ByteArray) (vN vU vQ vS : Value) (b lo hi : Nat) (w : World) (o : OwnC w lo hi vN vU vQ vS c) (hlo : lo ≤ w.heap.size) (hb : b < lo ∨ hi ≤ b) (V : VBlk w b 36 [.int .i64 c.K, vN, vU, .int .i64 c.R.A, vQ, vS, .int .i64 c.D]) :
    Calls Try.prog 86 #[.pointer (some ⟨b, 0, none⟩), .string s] w fun e w' => (∃ u, e = .returned u) ∧ ∃ vN' vU' vQ' vS', OwnC w' lo w'.heap.size vN' vU' vQ' vS' (fgC c s) ∧ VBlk w' b 36 [.int .i64 c.K, vN', vU', .int .i64 (fgC c s).R.A, vQ', vS', .int .i64 c.D] ∧ Off b w w' := by
  obtain ⟨hsk, hr, hq, hway⟩ := chB_parts hc
  have hl := chB_len hc
  clear hc
  obtain ⟨K, ⟨N, U, A⟩, Q, S, D⟩ := c
  dsimp only at hsk hr hq hway hl
  obtain ⟨⟨aN1, nN1, kN1, rfl⟩, ⟨aU1, nU1, kU1, rfl⟩, ⟨aQ1, nQ1, kQ1, rfl⟩, ⟨aS1, nS1, kS1, rfl⟩⟩ := o.forms
  obtain ⟨⟨l1, h1, l2, h2, l3, h3, oR, oQ, oS, ⟨e1, e2, e3, e4, e5, e6⟩, e7, e8, e9⟩, sz⟩ := o
  dsimp only at oR oQ oS V
  obtain ⟨c0, c1, c2, c3, c4, c5, c6⟩ := cells7c V
  have hbl := V.lt
  rcases hway with ⟨k1, hQ⟩ | ⟨k2, hN⟩
  · -- a clock
    subst k1
    have eF : fgC ⟨1, ⟨N, U, A⟩, Q, S, D⟩ s = ⟨1, ringForget ⟨N, U, A⟩ s, Q, S, D⟩ := by unfold fgC forgetH; dsimp only; rw [if_neg (by decide)]
    rw [eF]
    dsimp only
    by_cases hp : 0 ≤ posS s N
    · have eR : ringForget ⟨N, U, A⟩ s = left ⟨N, U, A⟩ (posS s N).toNat := if_pos hp
      rw [eR]
      have hlt := pos_lt hp
      obtain ⟨i, hi'⟩ := hid_ex (posS s N).toNat
      have hpi : posS s N = (i : Int) := by have := hi'.out; omega
      rw [hi'.out] at hlt ⊢
      have hus := hr.us
      have ha0 := hr.a0
      have ha1 := hr.a1
      dsimp only at hus ha0 ha1
      have kL := fun (_ : Unit) => l8LeaveC_yes (.int .i64 1) (.slice aQ1 nQ1 kQ1) (.slice aS1 nS1 kS1) (.int .i64 D) ⟨N, U, A⟩ s i hpi _ _ b w.heap.size l1 h1 w oR V (Nat.le_refl _) hlt hl.2 hus ha0 (by dsimp only; omega)
      have KL : Hid _ := kL
      clear kL hi' hpi hp hlt hus ha0 ha1 hr hq hsk hl hQ eR eF
      go_enter Try.func86, Try.ntmps86
      go_wp2_with (first | (go_at_call 149; refine (KL.out ()).mono ?_; rintro e w2 ⟨rfl, vN2, vU2, oR2, V2, hT2⟩) | (fail))
      first | go_end0 | ((try simp only [Exit.inBlock, Exit.then]); refine bodyPost_ret (results_none rfl _ _ _) rfl ?_)
      have hO := Off.of_tn hT2
      refine ⟨⟨_, rfl⟩, vN2, vU2, _, _, ⟨⟨_, _, _, _, _, _, oR2, oQ.keep fun k x y => hO.keep k (by omega) (by omega), sk.Own.keep oS (fun k x y => hO.keep k (by omega) (by omega)) hO.size, ⟨hlo, Nat.le_refl _, e3, ?_, e5, ?_⟩, .inr (by omega), .inr (by omega), e9⟩, Nat.le_refl _⟩, V2, hO⟩
      · have := hO.size; omega
      · have := hO.size; omega
    · have eR : ringForget ⟨N, U, A⟩ s = ⟨N, U, A⟩ := if_neg hp
      rw [eR]
      have kL := fun (_ : Unit) => l8LeaveC_no (.int .i64 1) (.slice aQ1 nQ1 kQ1) (.slice aS1 nS1 kS1) (.int .i64 D) ⟨N, U, A⟩ s (by dsimp only; omega) _ _ b l1 h1 w oR V
      have KL : Hid _ := kL
      clear kL hp hr hq hsk hl hQ eR eF
      go_enter Try.func86, Try.ntmps86
      go_wp2_with (first | (go_at_call 149; refine (KL.out ()).mono ?_; rintro e wq ⟨rfl, hq⟩; subst wq) | (fail))
      first | go_end0 | ((try simp only [Exit.inBlock, Exit.then]); refine bodyPost_ret (results_none rfl _ _ _) rfl ?_)
      exact ⟨⟨_, rfl⟩, _, _, _, _, ⟨⟨l1, h1, l2, h2, l3, h3, oR, oQ, oS, ⟨e1, by omega, e3, by omega, e5, by omega⟩, e7, e8, e9⟩, Nat.le_refl _⟩, V, Off.of_below (Below.refl _ _)⟩
  · -- a queue
    subst k2
    have eF : fgC ⟨2, ⟨N, U, A⟩, Q, S, D⟩ s = ⟨2, ⟨N, U, A⟩, cutR Q s, S, D⟩ := by unfold fgC forgetH; rw [if_pos rfl]
    rw [eF]
    dsimp only
    have RQ : Hid (Rd encS w (.slice aQ1 nQ1 kQ1) Q) := oQ.rd
    have hlq := hl.1
    clear hr hq hsk hl hN eF
    go_enter Try.func86, Try.ntmps86
    go_wp2_with (first | (go_at_call 148; refine (l9Without_any Q s _ _ RQ.out hlq).mono ?_; rintro e w2 ⟨v2, rfl, o2, hB2⟩; obtain ⟨aQ2, nQ2, kQ2, rfl⟩ := o2.slice; have V2 := vblk_grow V hB2; clear c0 c1 c2 c3 c4 c5 c6; obtain ⟨c0, c1, c2, c3, c4, c5, c6⟩ := cells7c V2; have hz2 := hB2.size) | (refine wpList_store_cc rfl 22 _ _ rfl b 4 (.slice aQ2 nQ2 kQ2) rfl rfl rfl szSl V2 (by simp) ?_; intro w3 hO3 V3) | (fail))
    first | go_end0 | ((try simp only [Exit.inBlock, Exit.then]); refine bodyPost_ret (results_none rfl _ _ _) rfl ?_)
    have hO := (Off.of_below (b := b) hB2).then_only hO3
    have hz3 := hO.size
    have hz4 := Nat.le_of_eq hO3.1.symm
    exact ⟨⟨_, rfl⟩, _, _, _, _, ⟨⟨l1, h1, w.heap.size, w2.heap.size, l3, h3, ownR_keep oR fun k x y => hO.keep k (by omega) (by omega), o2.only hO3 V2 (by decide), sk.Own.keep oS (fun k x y => hO.keep k (by omega) (by omega)) hO.size, ⟨e1, by omega, hlo, by omega, e5, by omega⟩, .inl (by omega), e8, .inr (by omega)⟩, Nat.le_refl _⟩, V3, hO⟩
/-- what Forgets tells -/
def PostF (c : Ch) (w : World) (e : Ending) (w' : World) : Prop := ∃ vN vU vQ vS, e = .returned (.agg #[.int .i64 c.K, vN, vU, .int .i64 c.R.A, vQ, vS, .int .i64 c.D]) ∧ OwnC w' w.heap.size w'.heap.size vN vU vQ vS c ∧ Below w.heap.size w w'
theorem postF_no {w w' : World} (hB : Below w.heap.size w w') : PostF Ch.zero w (.returned (.agg #[.int .i64 0, .slice none 0 0, .slice none 0 0, .int .i64 0, .slice none 0 0, .slice none 0 0, .int .i64 0])) w' := ⟨_, _, _, _, rfl, ownC_zero _ _ _ (Nat.le_refl _) hB.size, hB⟩
set_option maxRecDepth 100000 in
set_option maxHeartbeats 4000000 in
theorem specForgets_any (c : Ch) (s : ByteArray) (vN vU vQ vS : Value) (w : World) (h : RdC w vN vU vQ vS c) :
    Calls Try.prog 25 #[.agg #[.int .i64 c.K, vN, vU, .int .i64 c.R.A, vQ, vS, .int .i64 c.D], .string s] w fun e w' => PostF (fgX c s) w e w' := by
  obtain ⟨K, ⟨N, U, A⟩, Q, S, D⟩ := c
  obtain ⟨aN, cN, rfl⟩ := h.r.n.form
  obtain ⟨aU, cU, rfl⟩ := h.r.u.form
  obtain ⟨aQ, cQ, rfl⟩ := h.q.form
  obtain ⟨aS, cS, rfl⟩ := sk_form h.s

  have R : Hid (RdC w (.slice aN N.length cN) (.slice aU U.length cU) (.slice aQ Q.length cQ) (.slice aS S.length cS) ⟨K, ⟨N, U, A⟩, Q, S, D⟩) := h
  clear h
  have m1 : Hid True := trivial
  have m2 : Hid True := trivial
  unfold fgX
  obtain ⟨y, hy⟩ := hid_ex (chB ⟨K, ⟨N, U, A⟩, Q, S, D⟩)
  rw [hy.out]
  cases y with
  | false =>
    rw [if_neg (by decide)]
    go_enter Try.func25, Try.ntmps25
    go_wp2_with (first | (clear m1; refine wpList_box_v rfl 36 _ rfl [.int .i64 K, .slice aN N.length cN, .slice aU U.length cU, .int .i64 A, .slice aQ Q.length cQ, .slice aS S.length cS, .int .i64 D] rfl ?_; intro b1 w1 hb1 hw1 hB1 V1; obtain ⟨c0, c1, c2, c3, c4, c5, c6⟩ := cells7c V1; have hz1 := hB1.size) | (clear m2; refine wpList_alloc_v rfl 36 rfl _ zeroCh ?_; intro b2 w2 hb2 hw2 hB2 V2; replace V1 := vblk_grow V1 hB2; clear c0 c1 c2 c3 c4 c5 c6; obtain ⟨c0, c1, c2, c3, c4, c5, c6⟩ := cells7c V1; have hB12 := hB1.trans (hB2.mono hz1); have hz2 := hB12.size) | (go_at_call 15; refine (specChoiceOk_any ⟨K, ⟨N, U, A⟩, Q, S, D⟩ _ _ _ _ _ (R.out.grow hB12) false hy).mono ?_; rintro e w3 ⟨rfl, hB3⟩; replace V2 := vblk_grow V2 hB3; have hB13 := hB12.trans (hB3.mono hz2); have hz3 := hB13.size) | (refine wpList_store_v rfl 36 _ _ rfl b2 [.int .i64 0, .slice none 0 0, .slice none 0 0, .int .i64 0, .slice none 0 0, .slice none 0 0, .int .i64 0] rfl rfl sizeCh V2 rfl (by simp [Value.oneCell']) ?_; intro w4 hO4 V4; have hB14 := hB13.trans (hO4.2.2 _ (by omega))) | (fail))
    exact row_retv rfl rfl V4 Try.underlying36 sizeCh rfl (postF_no hB14)
  | true =>
    rw [if_pos rfl]
    have hsm := smC_of hy.out
    have HSM : Hid (SmC ⟨K, ⟨N, U, A⟩, Q, S, D⟩) := hsm
    clear hsm
    obtain ⟨⟨K2, ⟨N2, U2, A2⟩, Q2, S2, D2⟩, hf⟩ := hid_ex (fgC ⟨K, ⟨N, U, A⟩, Q, S, D⟩ s)
    have kk : K2 = K ∧ D2 = D := by have h := hf.out; exact ⟨(congrArg Ch.K h).symm, (congrArg Ch.D h).symm⟩
    have kF := fun (vN' vU' vQ' vS' : Value) b lo hi w' o hlo hb V => l16Forget_any ⟨K, ⟨N, U, A⟩, Q, S, D⟩ hy.out s vN' vU' vQ' vS' b lo hi w' o hlo hb V
    rw [hf.out] at kF ⊢
    obtain ⟨rfl, rfl⟩ := kk
    have KF : Hid _ := kF
    clear kF hf
    have m3 : Hid True := trivial
    have m4 : Hid True := trivial
    go_enter Try.func25, Try.ntmps25
    go_wp2_with (first | (clear m1; refine wpList_box_v rfl 36 _ rfl [.int .i64 K2, .slice aN N.length cN, .slice aU U.length cU, .int .i64 A, .slice aQ Q.length cQ, .slice aS S.length cS, .int .i64 D2] rfl ?_; intro b1 w1 hb1 hw1 hB1 V1; obtain ⟨c0, c1, c2, c3, c4, c5, c6⟩ := cells7c V1; have hz1 := hB1.size) | (clear m2; refine wpList_alloc_v rfl 36 rfl _ zeroCh ?_; intro b2 w2 hb2 hw2 hB2 V2; replace V1 := vblk_grow V1 hB2; clear c0 c1 c2 c3 c4 c5 c6; obtain ⟨c0, c1, c2, c3, c4, c5, c6⟩ := cells7c V1; have hB12 := hB1.trans (hB2.mono hz1); have hz2 := hB12.size) | (go_at_call 15; refine (specChoiceOk_any ⟨K2, ⟨N, U, A⟩, Q, S, D2⟩ _ _ _ _ _ (R.out.grow hB12) true hy).mono ?_; rintro e w3 ⟨rfl, hB3⟩; replace V1 := vblk_grow V1 hB3; replace V2 := vblk_grow V2 hB3; clear c0 c1 c2 c3 c4 c5 c6; obtain ⟨c0, c1, c2, c3, c4, c5, c6⟩ := cells7c V1; have hB13 := hB12.trans (hB3.mono hz2); have hz3 := hB13.size; have hz23 := hB3.size) | (go_at_call 80; refine (l16Copy_any ⟨K2, ⟨N, U, A⟩, Q, S, D2⟩ HSM.out _ _ _ _ _ (R.out.grow hB13)).mono ?_; rintro e w4 ⟨vN4, vU4, vQ4, vS4, rfl, o4, hB4⟩; replace V2 := vblk_grow V2 hB4; obtain ⟨⟨aN4, nN4, kN4, rfl⟩, ⟨aU4, nU4, kU4, rfl⟩, ⟨aQ4, nQ4, kQ4, rfl⟩, ⟨aS4, nS4, kS4, rfl⟩⟩ := o4.forms; have hB14 := hB13.trans (hB4.mono hz3); have hz4 := hB14.size; have hz34 := hB4.size) | (clear m3; refine wpList_alloc_v rfl 36 rfl _ zeroCh ?_; intro b5 w5 hb5 hw5 hB5 V5; replace V2 := vblk_grow V2 hB5; replace o4 := o4.grow hB5; have hB15 := hB14.trans (hB5.mono hz4); have hz5 := hB15.size; have hz45 := hB5.size) | (clear m4; refine wpList_store_v rfl 36 _ _ rfl b5 [.int .i64 K2, .slice aN4 nN4 kN4, .slice aU4 nU4 kU4, .int .i64 A, .slice aQ4 nQ4 kQ4, .slice aS4 nS4 kS4, .int .i64 D2] rfl rfl sizeCh V5 rfl (by simp [Value.oneCell']) ?_; intro w6 hO6 V6; replace V2 := vblk_only V2 hO6 (by omega); replace o4 := o4.off hO6 (by omega); have hB16 := hB15.trans (hO6.2.2 _ (by omega)); have hz6 := hB16.size; have hz56 := Nat.le_of_eq hO6.1.symm; have hy56 := Nat.le_of_eq hO6.1) | (go_at_call 86; refine (KF.out _ _ _ _ b5 _ _ _ o4 (by omega) (by omega) V6).mono ?_; rintro e w7 ⟨⟨u7, rfl⟩, vN7, vU7, vQ7, vS7, o7, V7, hF7⟩; obtain ⟨⟨aN7, nN7, kN7, rfl⟩, ⟨aU7, nU7, kU7, rfl⟩, ⟨aQ7, nQ7, kQ7, rfl⟩, ⟨aS7, nS7, kS7, rfl⟩⟩ := o7.forms; replace V2 := V2.of (hF7.keep b2 V2.lt (by omega)); have hB17 := hB16.trans (hF7.below (by omega) hz6); have hz7 := hB17.size; have hz67 := hF7.size; obtain ⟨d0, d1, d2, d3, d4, d5, d6⟩ := cells7c V7) | (refine wpList_store_v rfl 36 _ _ rfl b2 [.int .i64 K2, .slice aN7 nN7 kN7, .slice aU7 nU7 kU7, .int .i64 A2, .slice aQ7 nQ7 kQ7, .slice aS7 nS7 kS7, .int .i64 D2] rfl rfl sizeCh V2 rfl (by simp [Value.oneCell']) ?_; intro w8 hO8 V8; have hB18 := hB17.trans (hO8.2.2 _ (by omega))) | (fail))
    exact row_retv rfl rfl V8 Try.underlying36 sizeCh rfl ⟨_, _, _, _, rfl, (o7.off hO8 (by omega)).wide (by omega), hB18⟩
end Go.Proofs.Ytapchjkiiifhdaa.rg
/- Contracts: who is forgotten, the program's; the laws' marks on whatever choice. -/
namespace Go.Proofs.Ytapchjkiiifhdaa.rg
open Go.ChangeShapes Go.WideShapes Go.ChangeAt Go.RowKit
open Go.Deep Go.Joins
open Go.Proofs.Ytapchjkiiifhdaa.ce Go.Proofs.Ytapchjkiiifhdaa.ro
set_option linter.unusedVariables false
set_option linter.unusedSimpArgs false

theorem lv_is {r : Rg} {s : ByteArray} (h : ringB r = true) : lvR r s = ringForget r s := by unfold lvR ringForget; rw [if_pos h]
theorem wi_cutC {q : List ByteArray} {s : ByteArray} (h : namesB q = true) : wiR q s = cutR q s := by unfold wiR; rw [if_pos h]; exact (cut_is (namesB_iff.1 h)).symm
theorem chB_B {c : Ch} (h : chB c = true) : ringB c.R = true ∧ namesB c.Q = true := by
  obtain ⟨-, h2, h3, -⟩ := chB_parts h
  exact ⟨ringB_iff.2 h2, namesB_iff.2 h3⟩
set_option maxRecDepth 100000 in
set_option maxHeartbeats 4000000 in
theorem implForgets_any (c : Ch) (s : ByteArray) (vN vU vQ vS : Value) (w : World) (h : RdC w vN vU vQ vS c) :
    Calls Try.prog 26 #[.agg #[.int .i64 c.K, vN, vU, .int .i64 c.R.A, vQ, vS, .int .i64 c.D], .string s] w fun e w' => PostF (fgX c s) w e w' := by
  obtain ⟨K, ⟨N, U, A⟩, Q, S, D⟩ := c
  obtain ⟨aN, cN, rfl⟩ := h.r.n.form
  obtain ⟨aU, cU, rfl⟩ := h.r.u.form
  obtain ⟨aQ, cQ, rfl⟩ := h.q.form
  obtain ⟨aS, cS, rfl⟩ := sk_form h.s

  have R : Hid (RdC w (.slice aN N.length cN) (.slice aU U.length cU) (.slice aQ Q.length cQ) (.slice aS S.length cS) ⟨K, ⟨N, U, A⟩, Q, S, D⟩) := h
  clear h
  have m1 : Hid True := trivial
  have m2 : Hid True := trivial
  have m3 : Hid True := trivial
  have m4 : Hid True := trivial
  unfold fgX
  obtain ⟨y, hy⟩ := hid_ex (chB ⟨K, ⟨N, U, A⟩, Q, S, D⟩)
  rw [hy.out]
  cases y with
  | false =>
    rw [if_neg (by decide)]
    have hc2 : Hid (cpC ⟨K, ⟨N, U, A⟩, Q, S, D⟩ = ⟨0, ⟨[], [], 0⟩, [], [], 0⟩) := by unfold Hid cpC; rw [hy.out]; rfl
    go_enter Try.func26, Try.ntmps26
    go_wp2_with (first | (clear m1; refine wpList_box_v rfl 36 _ rfl [.int .i64 K, .slice aN N.length cN, .slice aU U.length cU, .int .i64 A, .slice aQ Q.length cQ, .slice aS S.length cS, .int .i64 D] rfl ?_; intro b1 w1 hb1 hw1 hB1 V1; obtain ⟨c0, c1, c2, c3, c4, c5, c6⟩ := cells7c V1; have hz1 := hB1.size) | (clear m2; refine wpList_alloc_v rfl 36 rfl _ zeroCh ?_; intro b4 w2 hb4 hw4 hB2 V4; replace V1 := vblk_grow V1 hB2; clear c0 c1 c2 c3 c4 c5 c6; obtain ⟨c0, c1, c2, c3, c4, c5, c6⟩ := cells7c V1; have hB12 := hB1.trans (hB2.mono hz1); have hz2 := hB12.size) | (go_at_call 71; refine (implChoiceOf_any ⟨K, ⟨N, U, A⟩, Q, S, D⟩ _ _ _ _ _ (R.out.grow hB12)).mono ?_; rintro e w3 hP; unfold PostC at hP; rw [hc2.out, hy.out] at hP; obtain ⟨vN3, vU3, vQ3, vS3, rfl, o3, hB3⟩ := hP; dsimp only; obtain ⟨⟨aN3, nN3, kN3, rfl⟩, ⟨aU3, nU3, kU3, rfl⟩, ⟨aQ3, nQ3, kQ3, rfl⟩, ⟨aS3, nS3, kS3, rfl⟩⟩ := o3.forms; replace V4 := vblk_grow V4 hB3; have hB13 := hB12.trans (hB3.mono hz2); have hz3 := hB13.size; have hz23 := hB3.size) | (clear m3; refine wpList_alloc_v rfl 36 rfl _ zeroCh ?_; intro b5 w5 hb5 hw5 hB5 V5; replace V4 := vblk_grow V4 hB5; replace o3 := o3.grow hB5; have hB15 := hB13.trans (hB5.mono hz3); have hz5 := hB15.size; have hz35 := hB5.size) | (clear m4; refine wpList_store_v rfl 36 _ _ rfl b5 [.int .i64 0, .slice aN3 nN3 kN3, .slice aU3 nU3 kU3, .int .i64 0, .slice aQ3 nQ3 kQ3, .slice aS3 nS3 kS3, .int .i64 0] rfl rfl sizeCh V5 rfl (by simp [Value.oneCell']) ?_; intro w6 hO6 V6; replace V4 := vblk_only V4 hO6 (by omega); replace o3 := o3.off hO6 (by omega); have hB16 := hB15.trans (hO6.2.2 _ (by omega)); have hz6 := hB16.size; have hz56 := Nat.le_of_eq hO6.1.symm; have hy56 := Nat.le_of_eq hO6.1; obtain ⟨d0, d1, d2, d3, d4, d5, d6⟩ := cells7c V6) | (refine wpList_store_v rfl 36 _ _ rfl b4 [.int .i64 0, .slice aN3 nN3 kN3, .slice aU3 nU3 kU3, .int .i64 0, .slice aQ3 nQ3 kQ3, .slice aS3 nS3 kS3, .int .i64 0] rfl rfl sizeCh V4 rfl (by simp [Value.oneCell']) ?_; intro wz hOz Vz; have hBz := hB16.trans (hOz.2.2 _ (by omega))) | (fail))
    exact row_retv rfl rfl Vz Try.underlying36 sizeCh rfl ⟨_, _, _, _, rfl, (o3.off hOz (by omega)).wide (by omega), hBz⟩
  | true =>
    rw [if_pos rfl]
    have hc2 : Hid (cpC ⟨K, ⟨N, U, A⟩, Q, S, D⟩ = ⟨K, ⟨N, U, A⟩, Q, S, D⟩) := by unfold Hid cpC; rw [hy.out]; rfl
    obtain ⟨hrb, hqb⟩ := chB_B hy.out
    dsimp only at hrb hqb
    by_cases k1 : K = 1
    · have eF : fgC ⟨K, ⟨N, U, A⟩, Q, S, D⟩ s = ⟨K, lvR ⟨N, U, A⟩ s, Q, S, D⟩ := by unfold fgC forgetH; dsimp only; rw [if_neg (by omega), lv_is hrb]
      rw [eF]
      obtain ⟨⟨N2, U2, A2⟩, hl⟩ := hid_ex (lvR ⟨N, U, A⟩ s)
      obtain ⟨yl, hyl⟩ := hid_ex (lvB ⟨N, U, A⟩ s)
      rw [hl.out]
      have u1 : (K == 1) = true := by rw [k1]; rfl
      clear k1 eF hrb hqb
      go_enter Try.func26, Try.ntmps26
      go_upto_region 5 with (first | (clear m1; refine wpList_box_v rfl 36 _ rfl [.int .i64 K, .slice aN N.length cN, .slice aU U.length cU, .int .i64 A, .slice aQ Q.length cQ, .slice aS S.length cS, .int .i64 D] rfl ?_; intro b1 w1 hb1 hw1 hB1 V1; obtain ⟨c0, c1, c2, c3, c4, c5, c6⟩ := cells7c V1; have hz1 := hB1.size) | (clear m2; refine wpList_alloc_v rfl 36 rfl _ zeroCh ?_; intro b4 w2 hb4 hw4 hB2 V4; replace V1 := vblk_grow V1 hB2; clear c0 c1 c2 c3 c4 c5 c6; obtain ⟨c0, c1, c2, c3, c4, c5, c6⟩ := cells7c V1; have hB12 := hB1.trans (hB2.mono hz1); have hz2 := hB12.size) | (go_at_call 71; refine (implChoiceOf_any ⟨K, ⟨N, U, A⟩, Q, S, D⟩ _ _ _ _ _ (R.out.grow hB12)).mono ?_; rintro e w3 hP; unfold PostC at hP; rw [hc2.out, hy.out] at hP; obtain ⟨vN3, vU3, vQ3, vS3, rfl, o3, hB3⟩ := hP; dsimp only; obtain ⟨⟨aN3, nN3, kN3, rfl⟩, ⟨aU3, nU3, kU3, rfl⟩, ⟨aQ3, nQ3, kQ3, rfl⟩, ⟨aS3, nS3, kS3, rfl⟩⟩ := o3.forms; replace V4 := vblk_grow V4 hB3; have hB13 := hB12.trans (hB3.mono hz2); have hz3 := hB13.size; have hz23 := hB3.size) | (clear m3; refine wpList_alloc_v rfl 36 rfl _ zeroCh ?_; intro b5 w5 hb5 hw5 hB5 V5; replace V4 := vblk_grow V4 hB5; replace o3 := o3.grow hB5; have hB15 := hB13.trans (hB5.mono hz3); have hz5 := hB15.size; have hz35 := hB5.size) | (clear m4; refine wpList_store_v rfl 36 _ _ rfl b5 [.int .i64 K, .slice aN3 nN3 kN3, .slice aU3 nU3 kU3, .int .i64 A, .slice aQ3 nQ3 kQ3, .slice aS3 nS3 kS3, .int .i64 D] rfl rfl sizeCh V5 rfl (by simp [Value.oneCell']) ?_; intro w6 hO6 V6; replace V4 := vblk_only V4 hO6 (by omega); replace o3 := o3.off hO6 (by omega); have hB16 := hB15.trans (hO6.2.2 _ (by omega)); have hz6 := hB16.size; have hz56 := Nat.le_of_eq hO6.1.symm; have hy56 := Nat.le_of_eq hO6.1; obtain ⟨d0, d1, d2, d3, d4, d5, d6⟩ := cells7c V6) | (fail))
      obtain ⟨⟨l1, h1, l2, h2, l3, h3, oR, oQ, oS, ⟨e1, e2, e3, e4, e5, e6⟩, e7, e8, e9⟩, sz⟩ := o3
      dsimp only at oR oQ oS
      go_wp2_with (first | (go_at_call 87; refine (implLeaves_all ⟨N, U, A⟩ s _ _ _ (oR.rd R.out.r.s)).mono ?_; rintro e w7 ⟨vN7, vU7, rfl, oR7, hB7⟩; rw [hl.out] at oR7; rw [hl.out, hyl.out]; dsimp only at oR7 ⊢; obtain ⟨aN7, nN7, kN7, rfl⟩ := oR7.n.slice; obtain ⟨aU7, nU7, kU7, rfl⟩ := oR7.u.slice; replace V4 := vblk_grow V4 hB7; replace V6 := vblk_grow V6 hB7; replace oQ := oQ.grow hB7; replace oS := ownS_grow oS hB7; have hB17 := hB16.trans (hB7.mono hz6); have hz7 := hB7.size; clear d0 d1 d2 d3 d4 d5 d6) | (refine wpList_store_sub rfl 33 _ _ rfl b5 1 [.slice aN7 nN7 kN7, .slice aU7 nU7 kU7, .int .i64 A2] rfl rfl sizeRg V6 (by simp) rfl (by simp [Value.oneCell']) ?_; intro w8 hO8 V8x; have V8 : VBlk w8 b5 36 [.int .i64 K, .slice aN7 nN7 kN7, .slice aU7 nU7 kU7, .int .i64 A2, .slice aQ3 nQ3 kQ3, .slice aS3 nS3 kS3, .int .i64 D] := V8x; clear V8x; obtain ⟨d0, d1, d2, d3, d4, d5, d6⟩ := cells7c V8; replace V4 := vblk_only V4 hO8 (by omega); replace oR7 := oR7.only hO8 V6 (by decide) (by decide); replace oQ := oQ.only hO8 V6 (by decide); replace oS := sk.Own.keep oS (fun k x y => hO8.2.1 k (by omega)) (Nat.le_of_eq hO8.1.symm); have hB18 := hB17.trans (hO8.2.2 _ (by omega)); have hz8 := Nat.le_of_eq hO8.1.symm; have hy8 := Nat.le_of_eq hO8.1) | (refine wpList_store_v rfl 36 _ _ rfl b4 [.int .i64 K, .slice aN7 nN7 kN7, .slice aU7 nU7 kU7, .int .i64 A2, .slice aQ3 nQ3 kQ3, .slice aS3 nS3 kS3, .int .i64 D] rfl rfl sizeCh V4 rfl (by simp [Value.oneCell']) ?_; intro wz hOz Vz; have hBz := hB18.trans (hOz.2.2 _ (by omega))) | (fail))
      have zz := Nat.le_of_eq hOz.1.symm
      exact row_retv rfl rfl Vz Try.underlying36 sizeCh rfl ⟨_, _, _, _, rfl, ⟨⟨_, _, l2, h2, l3, h3, oR7.only hOz V4 (by decide) (by decide), oQ.only hOz V4 (by decide), sk.Own.keep oS (fun k x y => hOz.2.1 k (by omega)) zz, ⟨by omega, by omega, by omega, by omega, by omega, by omega⟩, by omega, by omega, e9⟩, Nat.le_refl _⟩, hBz⟩
    · have k2 : K = 2 := by
        obtain ⟨-, -, -, h4⟩ := chB_parts hy.out
        dsimp only at h4
        omega
      have eF : fgC ⟨K, ⟨N, U, A⟩, Q, S, D⟩ s = ⟨K, ⟨N, U, A⟩, wiR Q s, S, D⟩ := by unfold fgC forgetH; dsimp only; rw [if_pos k2, wi_cutC hqb]
      rw [eF]
      have u1 : (K == 1) = false := by simpa using k1
      clear k1 k2 eF hrb hqb
      go_enter Try.func26, Try.ntmps26
      go_upto_region 6 with (first | (clear m1; refine wpList_box_v rfl 36 _ rfl [.int .i64 K, .slice aN N.length cN, .slice aU U.length cU, .int .i64 A, .slice aQ Q.length cQ, .slice aS S.length cS, .int .i64 D] rfl ?_; intro b1 w1 hb1 hw1 hB1 V1; obtain ⟨c0, c1, c2, c3, c4, c5, c6⟩ := cells7c V1; have hz1 := hB1.size) | (clear m2; refine wpList_alloc_v rfl 36 rfl _ zeroCh ?_; intro b4 w2 hb4 hw4 hB2 V4; replace V1 := vblk_grow V1 hB2; clear c0 c1 c2 c3 c4 c5 c6; obtain ⟨c0, c1, c2, c3, c4, c5, c6⟩ := cells7c V1; have hB12 := hB1.trans (hB2.mono hz1); have hz2 := hB12.size) | (go_at_call 71; refine (implChoiceOf_any ⟨K, ⟨N, U, A⟩, Q, S, D⟩ _ _ _ _ _ (R.out.grow hB12)).mono ?_; rintro e w3 hP; unfold PostC at hP; rw [hc2.out, hy.out] at hP; obtain ⟨vN3, vU3, vQ3, vS3, rfl, o3, hB3⟩ := hP; dsimp only; obtain ⟨⟨aN3, nN3, kN3, rfl⟩, ⟨aU3, nU3, kU3, rfl⟩, ⟨aQ3, nQ3, kQ3, rfl⟩, ⟨aS3, nS3, kS3, rfl⟩⟩ := o3.forms; replace V4 := vblk_grow V4 hB3; have hB13 := hB12.trans (hB3.mono hz2); have hz3 := hB13.size; have hz23 := hB3.size) | (clear m3; refine wpList_alloc_v rfl 36 rfl _ zeroCh ?_; intro b5 w5 hb5 hw5 hB5 V5; replace V4 := vblk_grow V4 hB5; replace o3 := o3.grow hB5; have hB15 := hB13.trans (hB5.mono hz3); have hz5 := hB15.size; have hz35 := hB5.size) | (clear m4; refine wpList_store_v rfl 36 _ _ rfl b5 [.int .i64 K, .slice aN3 nN3 kN3, .slice aU3 nU3 kU3, .int .i64 A, .slice aQ3 nQ3 kQ3, .slice aS3 nS3 kS3, .int .i64 D] rfl rfl sizeCh V5 rfl (by simp [Value.oneCell']) ?_; intro w6 hO6 V6; replace V4 := vblk_only V4 hO6 (by omega); replace o3 := o3.off hO6 (by omega); have hB16 := hB15.trans (hO6.2.2 _ (by omega)); have hz6 := hB16.size; have hz56 := Nat.le_of_eq hO6.1.symm; have hy56 := Nat.le_of_eq hO6.1; obtain ⟨d0, d1, d2, d3, d4, d5, d6⟩ := cells7c V6) | (fail))
      obtain ⟨⟨l1, h1, l2, h2, l3, h3, oR, oQ, oS, ⟨e1, e2, e3, e4, e5, e6⟩, e7, e8, e9⟩, sz⟩ := o3
      dsimp only at oR oQ oS
      go_wp2_with (first | (go_at_call 88; refine (implWithout_any Q s _ _ oQ.rd R.out.qs).mono ?_; rintro e w7 ⟨vQ7, rfl, oQ7, hB7⟩; obtain ⟨aQ7, nQ7, kQ7, rfl⟩ := oQ7.slice; replace V4 := vblk_grow V4 hB7; replace V6 := vblk_grow V6 hB7; replace oR := oR.grow hB7; replace oS := ownS_grow oS hB7; have hB17 := hB16.trans (hB7.mono hz6); have hz7 := hB7.size; clear d0 d1 d2 d3 d4 d5 d6; obtain ⟨d0, d1, d2, d3, d4, d5, d6⟩ := cells7c V6) | (refine wpList_store_cc rfl 22 _ _ rfl b5 4 (.slice aQ7 nQ7 kQ7) rfl rfl rfl szSl V6 (by simp) ?_; intro w8 hO8 V8x; have V8 : VBlk w8 b5 36 [.int .i64 K, .slice aN3 nN3 kN3, .slice aU3 nU3 kU3, .int .i64 A, .slice aQ7 nQ7 kQ7, .slice aS3 nS3 kS3, .int .i64 D] := V8x; clear V8x d0 d1 d2 d3 d4 d5 d6; obtain ⟨d0, d1, d2, d3, d4, d5, d6⟩ := cells7c V8; replace V4 := vblk_only V4 hO8 (by omega); replace oR := oR.only hO8 V6 (by decide) (by decide); replace oQ7 := oQ7.only hO8 V6 (by decide); replace oS := sk.Own.keep oS (fun k x y => hO8.2.1 k (by omega)) (Nat.le_of_eq hO8.1.symm); have hB18 := hB17.trans (hO8.2.2 _ (by omega)); have hz8 := Nat.le_of_eq hO8.1.symm; have hy8 := Nat.le_of_eq hO8.1) | (refine wpList_store_v rfl 36 _ _ rfl b4 [.int .i64 K, .slice aN3 nN3 kN3, .slice aU3 nU3 kU3, .int .i64 A, .slice aQ7 nQ7 kQ7, .slice aS3 nS3 kS3, .int .i64 D] rfl rfl sizeCh V4 rfl (by simp [Value.oneCell']) ?_; intro wz hOz Vz; have hBz := hB18.trans (hOz.2.2 _ (by omega))) | (fail))
      have zz := Nat.le_of_eq hOz.1.symm
      exact row_retv rfl rfl Vz Try.underlying36 sizeCh rfl ⟨_, _, _, _, rfl, ⟨⟨l1, h1, _, _, l3, h3, oR.only hOz V4 (by decide) (by decide), oQ7.only hOz V4 (by decide), sk.Own.keep oS (fun k x y => hOz.2.1 k (by omega)) zz, ⟨by omega, by omega, by omega, by omega, by omega, by omega⟩, by omega, e8, by omega⟩, Nat.le_refl _⟩, hBz⟩
set_option maxRecDepth 100000 in
set_option maxHeartbeats 4000000 in
theorem markChoice_all (c : Ch) (b : Mod c) (mm : Nat) (hmm : Hid (mm = 1 + c.R.N.length + c.R.U.length + c.Q.length + sk.sumLen c.S)) (vN vU vQ vS : Value) (lo hi : Nat) (w : World) (o : OwnC w lo hi vN vU vQ vS c) :
    Calls Try.prog 21 #[.agg #[.int .i64 c.K, vN, vU, .int .i64 c.R.A, vQ, vS, .int .i64 c.D], .int .i64 1] w fun e w' => e = .returned (.int .i64 mm) ∧ OwnC w' lo hi vN vU vQ vS (mkA c) ∧ Within lo hi w w' := by
  obtain ⟨K, ⟨N, U, A⟩, Q, S, D⟩ := c
  obtain ⟨hN, hU, hQ, hm⟩ := b
  dsimp only at hN hU hQ hm hmm
  obtain ⟨⟨aN1, nN1, kN1, rfl⟩, ⟨aU1, nU1, kU1, rfl⟩, ⟨aQ1, nQ1, kQ1, rfl⟩, ⟨aS1, nS1, kS1, rfl⟩⟩ := o.forms
  obtain ⟨⟨l1, h1, l2, h2, l3, h3, oR, oQ, oS, ⟨e1, e2, e3, e4, e5, e6⟩, e7, e8, e9⟩, sz⟩ := o
  dsimp only at oR oQ oS
  obtain ⟨m1, hm1⟩ : ∃ m : Nat, Hid (m = 1 + N.length + U.length) := ⟨_, rfl⟩
  obtain ⟨m2, hm2⟩ : ∃ m : Nat, Hid (m = m1 + Q.length) := ⟨_, rfl⟩
  have b1' : 1 ≤ m1 ∧ m1 ≤ 3000000 := by have := hm1.out; omega
  have b2' : 1 ≤ m2 ∧ m2 ≤ 5000000 := by have := hm2.out; omega
  have em : (m2 : Int) + (sk.sumLen S : Int) = (mm : Int) := by have := hmm.out; have := hm1.out; have := hm2.out; omega
  have q1 : Hid True := trivial
  go_enter Try.func21, Try.ntmps21
  go_wp2_with (first | (clear q1; refine wpList_box_v rfl 36 _ rfl [.int .i64 K, .slice aN1 nN1 kN1, .slice aU1 nU1 kU1, .int .i64 A, .slice aQ1 nQ1 kQ1, .slice aS1 nS1 kS1, .int .i64 D] rfl ?_; intro b1 w1 hb1 hw1 hB1 V1; replace oR := oR.grow hB1; replace oQ := oQ.grow hB1; replace oS := ownS_grow oS hB1; obtain ⟨c0, c1, c2, c3, c4, c5, c6⟩ := cells7c V1; have hW : Within lo hi w w1 := Within.of_below hB1 (Nat.le_refl _); have hz1 := hB1.size) | (go_at_call 76; refine (markRing_any ⟨N, U, A⟩ m1 hm1.out hN hU _ _ l1 h1 _ oR).mono ?_; rintro e w2 ⟨rfl, oR2, hM2⟩; have hz2 := hM2.size; replace V1 := V1.of (hM2.block _ V1.lt (by omega)); clear c0 c1 c2 c3 c4 c5 c6; obtain ⟨c0, c1, c2, c3, c4, c5, c6⟩ := cells7c V1; clear oR; replace oQ := oQ.within hM2 (by omega); replace oS := sk_within oS hM2 (by omega); replace hW := hW.trans (hM2.wide (by omega) (by omega))) | (go_at_call 30; refine (markTexts_any Q _ l2 h2 m1 (by omega) (by omega) m2 hm2.out _ oQ).mono ?_; rintro e w3 ⟨rfl, oQ3, hM3, -⟩; have hz3 := hM3.size; replace V1 := V1.of (hM3.block _ V1.lt (by omega)); clear c0 c1 c2 c3 c4 c5 c6; obtain ⟨c0, c1, c2, c3, c4, c5, c6⟩ := cells7c V1; clear oQ; have oR3 := oR2.within hM3 (by omega); clear oR2; replace oS := sk_within oS hM3 (by omega); replace hW := hW.trans (hM3.wide (by omega) (by omega))) | (go_at_call 77; refine (sk.markSketchK_any S hm (m2 : Int) (by omega) (by omega) _ D _ l3 h3 oS (sk_hi oS)).mono ?_; rintro e w4 ⟨rfl, oS4, hM4s⟩; rw [em]; have hM4 := within_sk hM4s; have oR4 := oR3.within hM4 (by omega); have oQ4 := oQ3.within hM4 (by omega); replace hW := hW.trans (hM4.wide (by omega) (by omega))) | (fail))
  go_ret
  have E1 := hm1.out
  have E2 := hm2.out
  subst E2
  subst E1
  exact ⟨rfl, ⟨⟨l1, h1, l2, h2, l3, h3, oR4, oQ4, oS4, ⟨e1, e2, e3, e4, e5, e6⟩, e7, e8, e9⟩, Nat.le_trans sz hW.size⟩, hW⟩
theorem mkA_rd {c : Ch} {w : World} {lo hi : Nat} {vN vU vQ vS : Value} (o : OwnC w lo hi vN vU vQ vS (mkA c)) : Rd encS w vN (mkR c.R).N ∧ Rd encB w vU (mkR c.R).U ∧ Rd encS w vQ (smarks (1 + c.R.N.length + c.R.U.length) c.Q.length) ∧ sk.Rd w 0 w.heap.size vS (sk.markR ((1 + c.R.N.length + c.R.U.length + c.Q.length : Nat) : Int) c.S) := by
  obtain ⟨⟨l1, h1, l2, h2, l3, h3, a, b, d, -⟩, sz⟩ := o
  exact ⟨a.n.rd, a.u.rd, b.rd, d.rd.wide (Nat.zero_le _) (sk_hi d)⟩
set_option maxRecDepth 100000 in
set_option maxHeartbeats 4000000 in
theorem heldChoice_all (c : Ch) (b : Mod c) (mm : Nat) (hmm : Hid (mm = 1 + c.R.N.length + c.R.U.length + c.Q.length + sk.sumLen c.S)) (vN vU vQ vS : Value) (lo hi : Nat) (w : World) (o : OwnC w lo hi vN vU vQ vS (mkA c)) :
    Calls Try.prog 22 #[.agg #[.int .i64 c.K, vN, vU, .int .i64 c.R.A, vQ, vS, .int .i64 c.D], .int .i64 1] w fun e w' => e = .returned (.int .i64 mm) ∧ Below w.heap.size w w' := by
  obtain ⟨⟨aN1, nN1, kN1, rfl⟩, ⟨aU1, nU1, kU1, rfl⟩, ⟨aQ1, nQ1, kQ1, rfl⟩, ⟨aS1, nS1, kS1, rfl⟩⟩ := o.forms
  have rd := mkA_rd o
  clear o
  obtain ⟨K, ⟨N, U, A⟩, Q, S, D⟩ := c
  obtain ⟨hN, hU, hQ, hm⟩ := b
  dsimp only at hN hU hQ hm hmm rd
  obtain ⟨m1, hm1⟩ : ∃ m : Nat, Hid (m = 1 + N.length + U.length) := ⟨_, rfl⟩
  obtain ⟨m2, hm2⟩ : ∃ m : Nat, Hid (m = m1 + Q.length) := ⟨_, rfl⟩
  have b1' : 1 ≤ m1 ∧ m1 ≤ 3000000 := by have := hm1.out; omega
  have b2' : 1 ≤ m2 ∧ m2 ≤ 5000000 := by have := hm2.out; omega
  have em : (m2 : Int) + (sk.sumLen S : Int) = (mm : Int) := by have := hmm.out; have := hm1.out; have := hm2.out; omega
  have x1 : 1 + N.length + U.length = m1 := hm1.out.symm
  have x2 : m1 + Q.length = m2 := hm2.out.symm
  rw [x1, x2] at rd
  clear x1 x2
  have g1 : ¬ ((m1 : Int) < 0) := by omega
  have g2 : ¬ ((m2 : Int) < 0) := by omega
  have g3 : ¬ ((mm : Int) < 0) := by omega
  have R1 : Hid (Rd encS w (.slice aN1 nN1 kN1) (mkR ⟨N, U, A⟩).N) := rd.1
  have R2 : Hid (Rd encB w (.slice aU1 nU1 kU1) (mkR ⟨N, U, A⟩).U) := rd.2.1
  have R3 : Hid (Rd encS w (.slice aQ1 nQ1 kQ1) (smarks m1 Q.length)) := rd.2.2.1
  have R4 : Hid (sk.Rd w 0 w.heap.size (.slice aS1 nS1 kS1) (sk.markR (m2 : Int) S)) := rd.2.2.2
  clear rd
  have q1 : Hid True := trivial
  go_enter Try.func22, Try.ntmps22
  go_wp2_with (first | (clear q1; refine wpList_box_v rfl 36 _ rfl [.int .i64 K, .slice aN1 nN1 kN1, .slice aU1 nU1 kU1, .int .i64 A, .slice aQ1 nQ1 kQ1, .slice aS1 nS1 kS1, .int .i64 D] rfl ?_; intro b1 w1 hb1 hw1 hB1 V1; obtain ⟨c0, c1, c2, c3, c4, c5, c6⟩ := cells7c V1; have hB := hB1; have hz := hB.size) | (go_at_call 78; refine (heldRing_any ⟨N, U, A⟩ m1 hm1.out hN hU _ _ _ (R1.out.grow hB) (R2.out.grow hB)).mono ?_; rintro e w2 ⟨rfl, hB2⟩; replace V1 := vblk_grow V1 hB2; clear c0 c1 c2 c3 c4 c5 c6; obtain ⟨c0, c1, c2, c3, c4, c5, c6⟩ := cells7c V1; replace hB := hB.trans (hB2.mono hz); replace hz := hB.size) | (go_at_call 31; refine (heldTexts_any Q.length _ m1 (by omega) (by omega) m2 hm2.out _ (R3.out.grow hB)).mono ?_; rintro e w3 ⟨rfl, hB3⟩; replace V1 := vblk_grow V1 hB3; clear c0 c1 c2 c3 c4 c5 c6; obtain ⟨c0, c1, c2, c3, c4, c5, c6⟩ := cells7c V1; replace hB := hB.trans (hB3.mono hz); replace hz := hB.size) | (go_at_call 79; refine (sk.heldSketchK_any S hm (m2 : Int) (by omega) (by omega) _ D _ 0 _ hz (R4.out.below hB (Nat.le_refl _))).mono ?_; rintro e w4 ⟨rfl, hB4⟩; rw [em]; replace hB := hB.trans (hB4.mono hz)) | (fail))
  go_ret
  exact ⟨rfl, hB⟩
theorem fgX_mod (c : Ch) (s : ByteArray) : Mod (fgX c s) ∧ (∀ x ∈ (fgX c s).R.N, x.size ≤ 9223372036854775807) ∧ ∀ x ∈ (fgX c s).Q, x.size ≤ 9223372036854775807 := by
  unfold fgX
  cases h : chB c with
  | false => exact ⟨⟨Nat.zero_le _, Nat.zero_le _, Nat.zero_le _, ⟨Nat.zero_le _, fun xs hx => by cases hx⟩⟩, fun x hx => (by cases hx), fun x hx => (by cases hx)⟩
  | true =>
    rw [if_pos rfl]
    obtain ⟨hsk, hr, hq, hway⟩ := chB_parts h
    have hok := (forgetH_ok (c := ⟨c.K, c.R, c.Q⟩) ⟨hr, hq, hway⟩ s).1
    have r1 := hok.r.le
    have r2 := hok.r.us
    have q1 := hok.q.2.2
    refine ⟨⟨?_, ?_, ?_, hsk.four.modest⟩, fun x hx => ?_, fun x hx => ?_⟩
    · show (forgetH ⟨c.K, c.R, c.Q⟩ s).R.N.length ≤ _; omega
    · show (forgetH ⟨c.K, c.R, c.Q⟩ s).R.U.length ≤ _; omega
    · show (forgetH ⟨c.K, c.R, c.Q⟩ s).Q.length ≤ _; omega
    · have := nameB_size (hok.r.nm x hx); omega
    · have := nameB_size (hok.q.1 x hx); omega
end Go.Proofs.Ytapchjkiiifhdaa.rg
