/- Contracts: is a reply right, the program's. -/
import Derived.Test.YtefmndjoailemaaDoorRk2
import Derived.BigQuiet
import Derived.Deep.RegionHeld3
import Derived.Deep.DeepCutAuto
namespace Go.Proofs.YtefmndjoailemaaDoor.cm
open Go.ChangeShapes Go.WideShapes Go.ChangeAt Go.RowKit
open Go.Deep Go.Joins
open Go.Proofs.YtefmndjoailemaaDoor.ce Go.Proofs.YtefmndjoailemaaDoor.ro Go.Proofs.YtefmndjoailemaaDoor.rg
set_option linter.unusedVariables false

set_option maxRecDepth 100000 in
set_option maxHeartbeats 4000000 in
theorem okI_val (N : ByteArray) (F : Int) (B : ByteArray) (C M : Int) (y : Bool) (hy : Hid (((nameB N && (decide (0 ≤ F) && decide (F ≤ 65535)) && decide ((B.size : Int) ≤ 64) && (decide (0 ≤ C) && decide (C ≤ 1000000))) && (M == 0)) = y)) (hN : N.size ≤ 9223372036854775807) (hB : B.size ≤ 9223372036854775807) (w : World) : Calls Tryd.prog 27 #[.agg #[.int .i64 5, .string N, .int .i64 F, .string B, .int .i64 C, .int .i64 M]] w fun e w' => e = .returned (.bool y) ∧ Below w.heap.size w w' := by
  obtain ⟨x1, h1⟩ := hid_ex (nameB N && (decide (0 ≤ F) && decide (F ≤ 65535)) && decide ((B.size : Int) ≤ 64) && (decide (0 ≤ C) && decide (C ≤ 1000000)))
  obtain ⟨zM, eM⟩ := hid_ex (M == 0)
  have pM : (M == 0) = zM := eM.out
  have qM : ((0 : Int) == M) = zM := int_flip eM.out
  have hy2 : (x1 && zM) = y := by rw [← h1.out, ← eM.out]; exact hy.out
  clear hy
  have sN : (N.toList == N.toList) = true := by simp
  have sB : (B.toList == B.toList) = true := by simp
  have sF : (F == F) = true := by simp
  have sC : (C == C) = true := by simp
  have hM : ∀ w : World, (method 273 75 (.agg #[.string N, .int .i64 F, .string B, .int .i64 C]) "loop.example/g00401/impl.reply").run Tryd.prog w = .ok (142, .agg #[.string N, .int .i64 F, .string B, .int .i64 C]) w := fun w => by kernel_rfl
  have hC : ∀ (args : Array Value) (w : World), (callFunc 142 args).run Tryd.prog w = .ok (.enter 142 args) w := fun args w => by kernel_rfl
  cases x1 with
  | false =>
    subst hy2
    go_enter Tryd.func27, Tryd.ntmps27
    go_upto_region 2 with (first | (refine wpList_box_v rfl 35 _ rfl [.int .i64 5, .string N, .int .i64 F, .string B, .int .i64 C, .int .i64 M] rfl ?_; intro b1 w1 hb1 hw1 hB1 V1; obtain ⟨c0, c1, c2, c3, c4, c5⟩ := cellsRp V1; have hz1 := hB1.size) | (refine wpList_load_r rfl 35 _ rfl b1 0 [.int .i64 5, .string N, .int .i64 F, .string B, .int .i64 C, .int .i64 M] rfl _ Tryd.underlying35 rfl sizeRp V1.range ?_) | (go_at_call 29; refine (shapeOf_val N F B C M _).mono ?_; rintro e w2 ⟨rfl, hB2⟩; have hz2 := hB2.size; have V1b := vblk_grow V1 hB2) | (fail))
    have hV : Hid (VBlk w2 b1 35 [.int .i64 5, .string N, .int .i64 F, .string B, .int .i64 C, .int .i64 M]) := V1b
    clear c0 c1 c2 c3 c4 c5
    refine wp_region_held_drew (S := fun w' => w'.cell? ⟨b1, 0, none⟩ = some (.int .i64 5) ∧ w'.cell? ⟨b1, 1, none⟩ = some (.string N) ∧ w'.cell? ⟨b1, 2, none⟩ = some (.int .i64 F) ∧ w'.cell? ⟨b1, 3, none⟩ = some (.string B) ∧ w'.cell? ⟨b1, 4, none⟩ = some (.int .i64 C) ∧ w'.cell? ⟨b1, 5, none⟩ = some (.int .i64 M)) (by kernel_rfl) (cellsRp (w := w2.drew) hV.out) (fun hHeld => ?_)
    refine wpAnyH_take (i := 0) (oi := { dst := some 6, op := Op.move (Operand.tmp 3), type := 51, pos := "l12_reply.go:159", after := #[], guard := none }) (v := ?_) rfl (by kernel_rfl) (by kernel_rfl) (by kernel_rfl) (fun _ _ _ h => h) (Or.inl ⟨by rfl, ?_⟩) (by assumption) ?_
    rotate_left 1
    · intro w' hSw
      (try dsimp only at hSw)
      go_simp
      (try with_reducible rfl)
    (try simp only [Act.put, List.setIfInBounds_toArray, List.set_cons_zero, List.set_cons_succ])
    refine wpAnyH_ready (rs := [1]) (by kernel_rfl) (by simp) ?_
    refine AllReadyH.cons (o := { dst := some 7, op := Op.call { callee := Callee.value (Operand.func 36), args := #[Operand.tmp 6], argTypes := #[51] }, type := 4, pos := "l12_reply.go:159", after := #[{ on := 0, ground := Ground.data }], guard := none }) rfl (fun KC hKC => ?_) AllReadyH.nil
    go_simp
    go_at_call 36
    refine (right_val N F B C _ h1 hN hB _).mono ?_
    rintro e w3 ⟨rfl, hq3⟩
    have hV3 : Hid (VBlk w3 b1 35 [.int .i64 5, .string N, .int .i64 F, .string B, .int .i64 C, .int .i64 M]) := vblk_grow (w := w2.drew) hV.out hq3
    have hB3 : Below w.heap.size w w3 := (hB1.trans (hB2.mono hz1)).drew.trans (hq3.mono (by show w.heap.size ≤ w2.drew.heap.size; have : w2.drew.heap.size = w2.heap.size := rfl; omega))
    refine hKC.out _ _ (cellsRp hV3.out) (fun hHeld2 => ?_)
    clear hKC KC hHeld
    have hHeld := hHeld2
    clear hHeld2
    (try simp only [Act.put, List.setIfInBounds_toArray, List.set_cons_zero, List.set_cons_succ])
    refine wpAnyH_take (i := 2) (oi := { dst := some 8, op := Op.move (Operand.tmp 7), type := 4, pos := "l12_reply.go:159", after := #[{ on := 1, ground := Ground.data }, { on := 1, ground := Ground.chain }], guard := none }) (v := ?_) rfl (by kernel_rfl) (by kernel_rfl) (by kernel_rfl) (fun _ _ _ h => h) (Or.inl ⟨by rfl, ?_⟩) (by assumption) ?_
    rotate_left 1
    · intro w' hSw
      (try dsimp only at hSw)
      go_simp
      (try with_reducible rfl)
    (try simp only [Act.put, List.setIfInBounds_toArray, List.set_cons_zero, List.set_cons_succ])
    refine wpAnyH_take (i := 3) (oi := { dst := some 9, op := Op.move (Operand.tmp 3), type := 51, pos := "l12_reply.go:159", after := #[{ on := 2, ground := Ground.guard }], guard := some (2, true) }) (v := undef) rfl (by kernel_rfl) (by kernel_rfl) (by kernel_rfl) (fun _ _ _ h => h) (Or.inr ⟨by rfl, rfl⟩) (by assumption) ?_
    (try simp only [Act.put, List.setIfInBounds_toArray, List.set_cons_zero, List.set_cons_succ])
    refine wpAnyH_take (i := 4) (oi := { dst := some 10, op := Op.call { callee := Callee.invoke (Operand.tmp 9) "loop.example/g00401/impl.reply", args := #[], argTypes := #[] }, type := 35, pos := "l12_reply.go:159", after := #[{ on := 3, ground := Ground.data }, { on := 2, ground := Ground.chain }, { on := 2, ground := Ground.guard }], guard := some (2, true) }) (v := undef) rfl (by kernel_rfl) (by kernel_rfl) (by kernel_rfl) (fun _ _ _ h => h) (Or.inr ⟨by rfl, rfl⟩) (by assumption) ?_
    (try simp only [Act.put, List.setIfInBounds_toArray, List.set_cons_zero, List.set_cons_succ])
    refine wpAnyH_take (i := 5) (oi := { dst := some 11, op := Op.load 35 (Operand.tmp 1), type := 35, pos := "l12_reply.go:159", after := #[{ on := 2, ground := Ground.guard }], guard := some (2, true) }) (v := undef) rfl (by kernel_rfl) (by kernel_rfl) (by kernel_rfl) (fun _ _ _ h => h) (Or.inr ⟨by rfl, rfl⟩) (by assumption) ?_
    (try simp only [Act.put, List.setIfInBounds_toArray, List.set_cons_zero, List.set_cons_succ])
    refine wpAnyH_take (i := 6) (oi := { dst := some 12, op := Op.binOp BinOp.eql 35 (Operand.tmp 10) (Operand.tmp 11) 35, type := 4, pos := "l12_reply.go:159", after := #[{ on := 4, ground := Ground.data }, { on := 5, ground := Ground.data }, { on := 2, ground := Ground.guard }], guard := some (2, true) }) (v := undef) rfl (by kernel_rfl) (by kernel_rfl) (by kernel_rfl) (fun _ _ _ h => h) (Or.inr ⟨by rfl, rfl⟩) (by assumption) ?_
    (try simp only [Act.put, List.setIfInBounds_toArray, List.set_cons_zero, List.set_cons_succ])
    refine wpAnyH_take (i := 7) (oi := { dst := some 13, op := Op.pick (Operand.tmp 8) (Operand.tmp 12) (Operand.const (Value.bool false)), type := 4, pos := "l12_reply.go:159", after := #[{ on := 2, ground := Ground.data }, { on := 6, ground := Ground.data }], guard := none }) (v := ?_) rfl (by kernel_rfl) (by kernel_rfl) (by kernel_rfl) (fun _ _ _ h => h) (Or.inl ⟨by rfl, ?_⟩) (by assumption) ?_
    rotate_left 1
    · intro w' hSw
      (try dsimp only at hSw)
      go_simp
      (try with_reducible rfl)
    (try simp only [Act.put, List.setIfInBounds_toArray, List.set_cons_zero, List.set_cons_succ])
    refine wpAnyH_take (i := 8) (oi := { dst := some 2, op := Op.assign (Operand.tmp 13), type := 4, pos := "l12_reply.go:159", after := #[{ on := 7, ground := Ground.data }, { on := 4, ground := Ground.chain }, { on := 0, ground := Ground.phase }, { on := 1, ground := Ground.phase }, { on := 2, ground := Ground.phase }, { on := 3, ground := Ground.phase }, { on := 4, ground := Ground.phase }, { on := 5, ground := Ground.phase }, { on := 6, ground := Ground.phase }, { on := 7, ground := Ground.phase }], guard := none }) (v := ?_) rfl (by kernel_rfl) (by kernel_rfl) (by kernel_rfl) (fun _ _ _ h => h) (Or.inl ⟨by rfl, ?_⟩) (by assumption) ?_
    rotate_left 1
    · intro w' hSw
      (try dsimp only at hSw)
      go_simp
      (try with_reducible rfl)
    (try simp only [Act.put, List.setIfInBounds_toArray, List.set_cons_zero, List.set_cons_succ])
    refine wpAnyH_done (by kernel_rfl) ?_ _
    go_wp2
    go_ret
    exact ⟨rfl, hB3⟩
  | true =>
    go_enter Tryd.func27, Tryd.ntmps27
    go_upto_region 2 with (first | (refine wpList_box_v rfl 35 _ rfl [.int .i64 5, .string N, .int .i64 F, .string B, .int .i64 C, .int .i64 M] rfl ?_; intro b1 w1 hb1 hw1 hB1 V1; obtain ⟨c0, c1, c2, c3, c4, c5⟩ := cellsRp V1; have hz1 := hB1.size) | (refine wpList_load_r rfl 35 _ rfl b1 0 [.int .i64 5, .string N, .int .i64 F, .string B, .int .i64 C, .int .i64 M] rfl _ Tryd.underlying35 rfl sizeRp V1.range ?_) | (go_at_call 29; refine (shapeOf_val N F B C M _).mono ?_; rintro e w2 ⟨rfl, hB2⟩; have hz2 := hB2.size; have V1b := vblk_grow V1 hB2) | (fail))
    have hV : Hid (VBlk w2 b1 35 [.int .i64 5, .string N, .int .i64 F, .string B, .int .i64 C, .int .i64 M]) := V1b
    clear c0 c1 c2 c3 c4 c5
    refine wp_region_held_drew (S := fun w' => w'.cell? ⟨b1, 0, none⟩ = some (.int .i64 5) ∧ w'.cell? ⟨b1, 1, none⟩ = some (.string N) ∧ w'.cell? ⟨b1, 2, none⟩ = some (.int .i64 F) ∧ w'.cell? ⟨b1, 3, none⟩ = some (.string B) ∧ w'.cell? ⟨b1, 4, none⟩ = some (.int .i64 C) ∧ w'.cell? ⟨b1, 5, none⟩ = some (.int .i64 M)) (by kernel_rfl) (cellsRp (w := w2.drew) hV.out) (fun hHeld => ?_)
    refine wpAnyH_take (i := 0) (oi := { dst := some 6, op := Op.move (Operand.tmp 3), type := 51, pos := "l12_reply.go:159", after := #[], guard := none }) (v := ?_) rfl (by kernel_rfl) (by kernel_rfl) (by kernel_rfl) (fun _ _ _ h => h) (Or.inl ⟨by rfl, ?_⟩) (by assumption) ?_
    rotate_left 1
    · intro w' hSw
      (try dsimp only at hSw)
      go_simp
      (try with_reducible rfl)
    (try simp only [Act.put, List.setIfInBounds_toArray, List.set_cons_zero, List.set_cons_succ])
    refine wpAnyH_ready (rs := [1]) (by kernel_rfl) (by simp) ?_
    refine AllReadyH.cons (o := { dst := some 7, op := Op.call { callee := Callee.value (Operand.func 36), args := #[Operand.tmp 6], argTypes := #[51] }, type := 4, pos := "l12_reply.go:159", after := #[{ on := 0, ground := Ground.data }], guard := none }) rfl (fun KC hKC => ?_) AllReadyH.nil
    go_simp
    go_at_call 36
    refine (right_val N F B C _ h1 hN hB _).mono ?_
    rintro e w3 ⟨rfl, hq3⟩
    have hV3 : Hid (VBlk w3 b1 35 [.int .i64 5, .string N, .int .i64 F, .string B, .int .i64 C, .int .i64 M]) := vblk_grow (w := w2.drew) hV.out hq3
    have hB3 : Below w.heap.size w w3 := (hB1.trans (hB2.mono hz1)).drew.trans (hq3.mono (by show w.heap.size ≤ w2.drew.heap.size; have : w2.drew.heap.size = w2.heap.size := rfl; omega))
    refine hKC.out _ _ (cellsRp hV3.out) (fun hHeld2 => ?_)
    clear hKC KC hHeld
    have hHeld := hHeld2
    clear hHeld2
    (try simp only [Act.put, List.setIfInBounds_toArray, List.set_cons_zero, List.set_cons_succ])
    refine wpAnyH_take (i := 2) (oi := { dst := some 8, op := Op.move (Operand.tmp 7), type := 4, pos := "l12_reply.go:159", after := #[{ on := 1, ground := Ground.data }, { on := 1, ground := Ground.chain }], guard := none }) (v := ?_) rfl (by kernel_rfl) (by kernel_rfl) (by kernel_rfl) (fun _ _ _ h => h) (Or.inl ⟨by rfl, ?_⟩) (by assumption) ?_
    rotate_left 1
    · intro w' hSw
      (try dsimp only at hSw)
      go_simp
      (try with_reducible rfl)
    (try simp only [Act.put, List.setIfInBounds_toArray, List.set_cons_zero, List.set_cons_succ])
    refine wpAnyH_take (i := 3) (oi := { dst := some 9, op := Op.move (Operand.tmp 3), type := 51, pos := "l12_reply.go:159", after := #[{ on := 2, ground := Ground.guard }], guard := some (2, true) }) (v := ?_) rfl (by kernel_rfl) (by kernel_rfl) (by kernel_rfl) (fun _ _ _ h => h) (Or.inl ⟨by rfl, ?_⟩) (by assumption) ?_
    rotate_left 1
    · intro w' hSw
      (try dsimp only at hSw)
      go_simp
      (try with_reducible rfl)
    (try simp only [Act.put, List.setIfInBounds_toArray, List.set_cons_zero, List.set_cons_succ])
    refine wpAnyH_take (i := 5) (oi := { dst := some 11, op := Op.load 35 (Operand.tmp 1), type := 35, pos := "l12_reply.go:159", after := #[{ on := 2, ground := Ground.guard }], guard := some (2, true) }) (v := ?_) rfl (by kernel_rfl) (by kernel_rfl) (by kernel_rfl) (fun _ _ _ h => h) (Or.inl ⟨by rfl, ?_⟩) (by assumption) ?_
    rotate_left 1
    · intro w' hSw
      (try dsimp only at hSw)
      go_simp
      (try with_reducible rfl)
    (try simp only [Act.put, List.setIfInBounds_toArray, List.set_cons_zero, List.set_cons_succ])
    refine wpAnyH_ready (rs := [4]) (by kernel_rfl) (by simp) ?_
    refine AllReadyH.cons (o := { dst := some 10, op := Op.call { callee := Callee.invoke (Operand.tmp 9) "loop.example/g00401/impl.reply", args := #[], argTypes := #[] }, type := 35, pos := "l12_reply.go:159", after := #[{ on := 3, ground := Ground.data }, { on := 2, ground := Ground.chain }, { on := 2, ground := Ground.guard }], guard := some (2, true) }) rfl (fun KC hKC => ?_) AllReadyH.nil
    go_simp
    go_at_call 142
    refine (reply_valued N F B C _).mono ?_
    rintro e w4 ⟨rfl, hq4⟩
    have hV4 := vblk_grow hV3.out hq4
    have hB4 : Below w.heap.size w w4 := hB3.trans (hq4.mono hB3.size)
    refine hKC.out _ _ (cellsRp hV4) (fun hHeld2 => ?_)
    clear hKC KC hHeld
    have hHeld := hHeld2
    clear hHeld2
    (try simp only [Act.put, List.setIfInBounds_toArray, List.set_cons_zero, List.set_cons_succ])
    refine wpAnyH_take (i := 6) (oi := { dst := some 12, op := Op.binOp BinOp.eql 35 (Operand.tmp 10) (Operand.tmp 11) 35, type := 4, pos := "l12_reply.go:159", after := #[{ on := 4, ground := Ground.data }, { on := 5, ground := Ground.data }, { on := 2, ground := Ground.guard }], guard := some (2, true) }) (v := .bool (zM)) rfl (by kernel_rfl) (by kernel_rfl) (by kernel_rfl) (fun _ _ _ h => h) (Or.inl ⟨by rfl, ?_⟩) (by assumption) ?_
    · intro w' hSw
      (try dsimp only at hSw)
      go_simp
      cases zM <;> first | rfl | simp
    (try simp only [Act.put, List.setIfInBounds_toArray, List.set_cons_zero, List.set_cons_succ])
    refine wpAnyH_take (i := 7) (oi := { dst := some 13, op := Op.pick (Operand.tmp 8) (Operand.tmp 12) (Operand.const (Value.bool false)), type := 4, pos := "l12_reply.go:159", after := #[{ on := 2, ground := Ground.data }, { on := 6, ground := Ground.data }], guard := none }) (v := ?_) rfl (by kernel_rfl) (by kernel_rfl) (by kernel_rfl) (fun _ _ _ h => h) (Or.inl ⟨by rfl, ?_⟩) (by assumption) ?_
    rotate_left 1
    · intro w' hSw
      (try dsimp only at hSw)
      go_simp
      (try with_reducible rfl)
    (try simp only [Act.put, List.setIfInBounds_toArray, List.set_cons_zero, List.set_cons_succ])
    refine wpAnyH_take (i := 8) (oi := { dst := some 2, op := Op.assign (Operand.tmp 13), type := 4, pos := "l12_reply.go:159", after := #[{ on := 7, ground := Ground.data }, { on := 4, ground := Ground.chain }, { on := 0, ground := Ground.phase }, { on := 1, ground := Ground.phase }, { on := 2, ground := Ground.phase }, { on := 3, ground := Ground.phase }, { on := 4, ground := Ground.phase }, { on := 5, ground := Ground.phase }, { on := 6, ground := Ground.phase }, { on := 7, ground := Ground.phase }], guard := none }) (v := ?_) rfl (by kernel_rfl) (by kernel_rfl) (by kernel_rfl) (fun _ _ _ h => h) (Or.inl ⟨by rfl, ?_⟩) (by assumption) ?_
    rotate_left 1
    · intro w' hSw
      (try dsimp only at hSw)
      go_simp
      (try with_reducible rfl)
    (try simp only [Act.put, List.setIfInBounds_toArray, List.set_cons_zero, List.set_cons_succ])
    refine wpAnyH_done (by kernel_rfl) ?_ _
    go_wp2
    go_ret
    refine ⟨?_, hB4⟩
    rw [← hy2]
    cases zM <;> rfl
end Go.Proofs.YtefmndjoailemaaDoor.cm
