/- For every book and thing the program's Stamped answers as the model's Stamped, in memory of its own, and writes into nothing that it was given (the law itself lets off what has over 1048576 things and bytes): the law's call returns true and its arguments read as before; no condition. -/
import Derived.Test.YtekladbkhplchaaBh1
import Derived.Test.YtekladbkhplchaaSn9
import Derived.Test.YtekladbkhplchaaRg2
import Derived.Deep.DeepCutAuto
import Derived.Deep.RegionHeld3
namespace Go.Proofs.Ytekladbkhplchaa.fnExactStamped
open Go.ChangeShapes Go.WideShapes Go.ChangeAt Go.RowKit
open Go.Proofs.Ytekladbkhplchaa.ce Go.Proofs.Ytekladbkhplchaa.ro Go.Proofs.Ytekladbkhplchaa.rg
open Go.ChangeMaps (open_string shut_string)
set_option linter.unusedVariables false

theorem own : ownKnob Try.prog.godebug = none := by kernel_rfl
theorem laidOut : laidOutB Try.prog = true := by kernel_rfl

theorem st_len (I : List It) (X : Int) (i : It) : (stR ⟨I, X⟩ i).I.length ≤ I.length + 1 := by
  unfold stR
  split
  · next h =>
    split
    · exact (put_len (storeB_iff.1 h).bk.srt _).1
    · exact Nat.le_succ _
  · exact Nat.zero_le _

/-! ### the walk -/
set_option maxRecDepth 100000 in
set_option maxHeartbeats 4000000 in
theorem walk (v : Value) (I : List It) (X : Int) (N B : ByteArray) (F C U : Int) (w : World) (hv : Rd encLi w v I) (hlo : Lo I) (hN : N.size ≤ 9223372036854775807) (hB0 : B.size ≤ 9223372036854775807) :
    Calls Try.prog 3 #[.agg #[v, .int .i64 X], .agg #[.string N, .int .i64 F, .string B, .int .i64 C, .int .i64 U]] w fun e w' => e = .returned (.bool true) ∧ Below w.heap.size w w' := by
  obtain ⟨a, cap, rfl⟩ := hv.form
  have R : Hid (Rd encLi w (.slice a I.length cap) I) := hv
  have HLO : Hid (Lo I) := hlo
  clear hv hlo
  obtain ⟨⟨J, Y⟩, hJ⟩ := hid_ex (stR ⟨I, X⟩ ⟨N, F, B, C, U⟩)
  obtain ⟨y, hy⟩ := hid_ex (stB ⟨I, X⟩ ⟨N, F, B, C, U⟩)
  have hyy : (y != y) = false := by simp
  have hJl : Hid (J.length ≤ I.length + 1) := by
    have h1 := st_len I X ⟨N, F, B, C, U⟩
    rw [hJ.out] at h1
    exact h1
  go_enter Try.func3, Try.ntmps3
  have mk1 : Hid True := trivial
  have mk2 : Hid True := trivial
  have mk3 : Hid True := trivial
  go_wp2_with (first | (clear mk1; refine wpList_box_v rfl 24 _ rfl [.slice a I.length cap, .int .i64 X] rfl ?_; intro ba w1 hba hwba hB1 ca; have hz1 : w.heap.size ≤ w1.heap.size := hB1.size; have hB := hB1; have hzw := hB.size; obtain ⟨ca0, ca1⟩ := cells2 ca) | (clear mk2; refine wpList_box_v rfl 26 _ rfl [.string N, .int .i64 F, .string B, .int .i64 C, .int .i64 U] rfl ?_; intro bi w2 hbi hwbi hB2 ci; have hz2 : w1.heap.size ≤ w2.heap.size := hB2.size; replace ca := vblk_grow ca hB2; replace hB := hB.trans (hB2.mono (by omega)); replace hzw := hB.size; clear ca0 ca1; obtain ⟨ca0, ca1⟩ := cells2 ca; obtain ⟨ci0, ci1, ci2, ci3, ci4⟩ := cells5 ci) | (clear mk3; go_at_call 8; refine (szBook_le I X _ 1048576 (by omega) (by omega) _ (R.out.grow hB) HLO.out).mono ?_; rintro er w3 ⟨q, rfl, hB3, hr, hq1⟩; have hz3 : w2.heap.size ≤ w3.heap.size := hB3.size; replace ca := vblk_grow ca hB3; replace ci := vblk_grow ci hB3; replace hB := hB.trans (hB3.mono (by omega)); replace hzw := hB.size; clear ca0 ca1; obtain ⟨ca0, ca1⟩ := cells2 ca; clear ci0 ci1 ci2 ci3 ci4; obtain ⟨ci0, ci1, ci2, ci3, ci4⟩ := cells5 ci; by_cases hneg : q < 0) | (fail))
  · go_ret
    exact ⟨rfl, hB⟩
  obtain ⟨hl, hsm⟩ := hr (by omega)
  clear hr
  have SMK : Hid (SmK I) := hsm
  clear hsm
  have mk4 : Hid True := trivial
  have mk5 : Hid True := trivial
  go_wp2_with (first | (clear mk4; refine wpList_load_r rfl 26 _ rfl bi 0 [.string N, .int .i64 F, .string B, .int .i64 C, .int .i64 U] rfl _ Try.underlying26 rfl sizeLi ci.range ?_) | (clear mk5; go_at_call 9; refine (szItem_any N B F C U hN hB0 _ (by omega) (by omega) _).mono ?_; rintro er w4 ⟨q2, rfl, hB4, hq2, hr⟩; have hz4 : w3.heap.size ≤ w4.heap.size := hB4.size; replace ca := vblk_grow ca hB4; replace ci := vblk_grow ci hB4; replace hB := hB.trans (hB4.mono (by omega)); replace hzw := hB.size; clear ca0 ca1; obtain ⟨ca0, ca1⟩ := cells2 ca; clear ci0 ci1 ci2 ci3 ci4; obtain ⟨ci0, ci1, ci2, ci3, ci4⟩ := cells5 ci; by_cases hneg2 : q2 < 0) | (fail))
  · go_ret
    exact ⟨rfl, hB⟩
  obtain ⟨hN1, hB1x⟩ := hr (by omega)
  clear hr
  obtain ⟨mk, hmk⟩ : ∃ m : Nat, Hid (m = 1 + 5 * I.length) := ⟨_, rfl⟩
  obtain ⟨mj, hmj⟩ : ∃ m : Nat, Hid (m = 1 + 5 * J.length) := ⟨_, rfl⟩
  have hmj2 : 1 ≤ mj ∧ mj ≤ 6000000 := by have := hmj.out; have := hJl.out; omega
  have hJ2 : J.length ≤ 1048577 := by have := hJl.out; omega
  have hsd : decide ((mk : Int) < 0) = false := decide_eq_false (by omega)
  have hsd2 : ¬ ((mk : Int) < 0) := by omega
  have hsn : ¬ ((mj : Int) < 0) := by omega
  have hse : ((mj : Int) != (mj : Int)) = false := by simp
  (try simp only [Act.put])
  (try simp only [List.setIfInBounds_toArray, List.set_cons_zero, List.set_cons_succ])
  go_cut [6, 7] from 26 to 34 (fun s6 s7 wc => ∃ (bw : Nat) (Aw : Option Addr) (Nw Kw : Nat), s6 = .pointer (some ⟨bw, 0, none⟩) ∧ s7 = .bool y ∧ Below w4.heap.size w4 wc ∧ VBlk wc ba 24 [.slice a I.length cap, .int .i64 X] ∧ VBlk wc bi 26 [.string N, .int .i64 F, .string B, .int .i64 C, .int .i64 U] ∧ VBlk wc bw 31 [.slice Aw Nw Kw, .int .i64 Y] ∧ Own encIt wc w4.heap.size wc.heap.size (.slice Aw Nw Kw) J)
  case first =>
    have hC : Below w4.heap.size w4 w4.drew := (Below.refl _ _).drew
    replace ca := vblk_grow ca hC
    clear ca0 ca1
    replace ci := vblk_grow ci hC
    clear ci0 ci1 ci2 ci3 ci4
    refine wp_region_held_drew (S := fun w' => w'.cell? ⟨ba, 0, none⟩ = some (.slice a I.length cap) ∧ w'.cell? ⟨ba, 1, none⟩ = some (.int .i64 X) ∧ w'.cell? ⟨bi, 0, none⟩ = some (.string N) ∧ w'.cell? ⟨bi, 1, none⟩ = some (.int .i64 F) ∧ w'.cell? ⟨bi, 2, none⟩ = some (.string B) ∧ w'.cell? ⟨bi, 3, none⟩ = some (.int .i64 C) ∧ w'.cell? ⟨bi, 4, none⟩ = some (.int .i64 U)) (by kernel_rfl) (⟨(cells2 ca).1, (cells2 ca).2, cells5 ci⟩) (fun hHeld => ?_)
    refine wpAnyH_take (i := 0) (oi := { dst := some 27, op := Op.load 24 (Operand.tmp 2), type := 24, pos := "exact.go:3520", after := #[], guard := none }) (v := ?_) rfl (by kernel_rfl) (by kernel_rfl) (by kernel_rfl) (fun _ _ _ h => h) (Or.inl ⟨by rfl, ?_⟩) (by assumption) ?_
    rotate_left 1
    · intro w' hSw
      (try dsimp only at hSw)
      go_simp
      (try with_reducible rfl)
    (try simp only [Act.put, List.setIfInBounds_toArray, List.set_cons_zero, List.set_cons_succ])
    refine wpAnyH_take (i := 2) (oi := { dst := some 29, op := Op.load 26 (Operand.tmp 3), type := 26, pos := "exact.go:3520", after := #[], guard := none }) (v := ?_) rfl (by kernel_rfl) (by kernel_rfl) (by kernel_rfl) (fun _ _ _ h => h) (Or.inl ⟨by rfl, ?_⟩) (by assumption) ?_
    rotate_left 1
    · intro w' hSw
      (try dsimp only at hSw)
      go_simp
      (try with_reducible rfl)
    (try simp only [Act.put, List.setIfInBounds_toArray, List.set_cons_zero, List.set_cons_succ])
    refine wpAnyH_ready (rs := [1, 8]) (by kernel_rfl) (by simp) ?_
    refine AllReadyH.cons (o := { dst := some 28, op := Op.call { callee := Callee.value (Operand.func 11), args := #[Operand.tmp 27], argTypes := #[24] }, type := 31, pos := "exact.go:3520", after := #[{ on := 0, ground := Ground.data }], guard := none }) rfl (fun KC hKC => ?_) (AllReadyH.cons (o := { dst := some 6, op := Op.alloc 31, type := 0, pos := "exact.go:3520", after := #[], guard := none }) rfl (fun KC hKC => ?_) AllReadyH.nil)
    · go_simp
      go_at_call 11
      refine (toBook_any I X _ _ (R.out.grow (hB.trans (hC.mono (by omega)))) hl).mono ?_
      rintro er wr1 ⟨vt, rfl, ot, hBr1⟩
      obtain ⟨At, Nt, Kt, rfl⟩ := ot.slice
      (try replace ow := ow.grow hBr1)
      replace ca := vblk_grow ca hBr1
      replace ci := vblk_grow ci hBr1
      replace hC := hC.trans (hBr1.mono hC.size)
      (try replace cw := vblk_grow cw hBr1)
      refine hKC.out _ _ (⟨(cells2 ca).1, (cells2 ca).2, cells5 ci⟩) (fun hHeld2 => ?_)
      clear hKC KC hHeld
      have hHeld := hHeld2
      clear hHeld2
      (try simp only [Act.put, List.setIfInBounds_toArray, List.set_cons_zero, List.set_cons_succ])
      refine wpAnyH_ready (rs := [3, 8]) (by kernel_rfl) (by simp) ?_
      refine AllReadyH.cons (o := { dst := some 30, op := Op.call { callee := Callee.value (Operand.func 12), args := #[Operand.tmp 29], argTypes := #[26] }, type := 35, pos := "exact.go:3520", after := #[{ on := 2, ground := Ground.data }, { on := 1, ground := Ground.chain }], guard := none }) rfl (fun KC hKC => ?_) (AllReadyH.cons (o := { dst := some 6, op := Op.alloc 31, type := 0, pos := "exact.go:3520", after := #[], guard := none }) rfl (fun KC hKC => ?_) AllReadyH.nil)
      · go_simp
        go_at_call 12
        refine (toItem_any N B F C U _).mono ?_
        rintro er wr3 ⟨rfl, hBr3⟩
        (try replace ot := ot.grow hBr3)
        (try replace ow := ow.grow hBr3)
        replace ca := vblk_grow ca hBr3
        replace ci := vblk_grow ci hBr3
        replace hC := hC.trans (hBr3.mono hC.size)
        (try replace cw := vblk_grow cw hBr3)
        refine hKC.out _ _ (⟨(cells2 ca).1, (cells2 ca).2, cells5 ci⟩) (fun hHeld2 => ?_)
        clear hKC KC hHeld
        have hHeld := hHeld2
        clear hHeld2
        (try simp only [Act.put, List.setIfInBounds_toArray, List.set_cons_zero, List.set_cons_succ])
        refine wpAnyH_ready (rs := [4, 8]) (by kernel_rfl) (by simp) ?_
        refine AllReadyH.cons (o := { dst := some 31, op := Op.call { callee := Callee.value (Operand.func 10), args := #[Operand.tmp 28, Operand.tmp 30], argTypes := #[31, 35] }, type := 32, pos := "exact.go:3520", after := #[{ on := 1, ground := Ground.data }, { on := 3, ground := Ground.data }, { on := 3, ground := Ground.chain }], guard := none }) rfl (fun KC hKC => ?_) (AllReadyH.cons (o := { dst := some 6, op := Op.alloc 31, type := 0, pos := "exact.go:3520", after := #[], guard := none }) rfl (fun KC hKC => ?_) AllReadyH.nil)
        · go_simp
          go_at_call 10
          refine (specStamped_any I X N B F C U _ _ ot.rd SMK.out hl hN1 hB1x).mono ?_
          rintro er wr4 ⟨vw, rfl, ow, hBr4⟩
          rw [hJ.out] at ow
          rw [hJ.out, hy.out]
          dsimp only at ow ⊢
          obtain ⟨Aw, Nw, Kw, rfl⟩ := ow.slice
          replace ow := ow.wide (lo' := w4.heap.size) hC.size (Nat.le_refl _)
          (try replace ot := ot.grow hBr4)
          replace ca := vblk_grow ca hBr4
          replace ci := vblk_grow ci hBr4
          replace hC := hC.trans (hBr4.mono hC.size)
          (try replace cw := vblk_grow cw hBr4)
          refine hKC.out _ _ (⟨(cells2 ca).1, (cells2 ca).2, cells5 ci⟩) (fun hHeld2 => ?_)
          clear hKC KC hHeld
          have hHeld := hHeld2
          clear hHeld2
          (try simp only [Act.put, List.setIfInBounds_toArray, List.set_cons_zero, List.set_cons_succ])
          refine wpAnyH_take (i := 5) (oi := { dst := some 26, op := Op.move (Operand.tmp 31), type := 32, pos := "exact.go:3520", after := #[{ on := 4, ground := Ground.data }], guard := none }) (v := ?_) rfl (by kernel_rfl) (by kernel_rfl) (by kernel_rfl) (fun _ _ _ h => h) (Or.inl ⟨by rfl, ?_⟩) (by assumption) ?_
          rotate_left 1
          · intro w' hSw
            (try dsimp only at hSw)
            go_simp
            (try with_reducible rfl)
          (try simp only [Act.put, List.setIfInBounds_toArray, List.set_cons_zero, List.set_cons_succ])
          refine wpAnyH_take (i := 6) (oi := { dst := some 32, op := Op.extract (Operand.tmp 26) 0, type := 31, pos := "exact.go:3520", after := #[{ on := 5, ground := Ground.data }], guard := none }) (v := ?_) rfl (by kernel_rfl) (by kernel_rfl) (by kernel_rfl) (fun _ _ _ h => h) (Or.inl ⟨by rfl, ?_⟩) (by assumption) ?_
          rotate_left 1
          · intro w' hSw
            (try dsimp only at hSw)
            go_simp
            (try with_reducible rfl)
          (try simp only [Act.put, List.setIfInBounds_toArray, List.set_cons_zero, List.set_cons_succ])
          refine wpAnyH_take (i := 7) (oi := { dst := some 33, op := Op.extract (Operand.tmp 26) 1, type := 4, pos := "exact.go:3520", after := #[{ on := 5, ground := Ground.data }, { on := 9, ground := Ground.gcOnly Departure.lateStores }], guard := none }) (v := ?_) rfl (by kernel_rfl) (by kernel_rfl) (by kernel_rfl) (fun _ _ _ h => h) (Or.inl ⟨by rfl, ?_⟩) (by assumption) ?_
          rotate_left 1
          · intro w' hSw
            (try dsimp only at hSw)
            go_simp
            (try with_reducible rfl)
          (try simp only [Act.put, List.setIfInBounds_toArray, List.set_cons_zero, List.set_cons_succ])
          refine wpAnyH_ready (rs := [8]) (by kernel_rfl) (by simp) ?_
          refine AllReadyH.cons (o := { dst := some 6, op := Op.alloc 31, type := 0, pos := "exact.go:3520", after := #[], guard := none }) rfl (fun KC hKC => ?_) AllReadyH.nil
          refine step_alloc_v rfl 31 rfl _ zeroBk ?_
          intro bw wr8 hbw hwbw hBr8 cw
          have hlv : w4.heap.size ≤ bw := Nat.le_trans hC.size hbw
          have lt_ca := Nat.ne_of_lt (Nat.lt_of_lt_of_le ca.lt hbw)
          have lt_ci := Nat.ne_of_lt (Nat.lt_of_lt_of_le ci.lt hbw)
          (try replace ot := ot.grow hBr8)
          (try replace ow := ow.grow hBr8)
          replace ca := vblk_grow ca hBr8
          replace ci := vblk_grow ci hBr8
          replace hC := hC.trans (hBr8.mono hC.size)
          refine hKC.out _ _ (⟨(cells2 ca).1, (cells2 ca).2, cells5 ci⟩) (fun hHeld2 => ?_)
          clear hKC KC hHeld
          have hHeld := hHeld2
          clear hHeld2
          (try simp only [Act.put, List.setIfInBounds_toArray, List.set_cons_zero, List.set_cons_succ])
          refine wpAnyH_ready (rs := [9]) (by kernel_rfl) (by simp) ?_
          refine AllReadyH.cons (o := { dst := none, op := Op.store 31 (Operand.tmp 6) (Operand.tmp 32), type := 0, pos := "exact.go:3520", after := #[{ on := 8, ground := Ground.data }, { on := 6, ground := Ground.data }, { on := 4, ground := Ground.chain }, { on := 0, ground := Ground.phase }, { on := 1, ground := Ground.phase }, { on := 2, ground := Ground.phase }, { on := 3, ground := Ground.phase }, { on := 4, ground := Ground.phase }, { on := 5, ground := Ground.phase }, { on := 6, ground := Ground.phase }, { on := 7, ground := Ground.textOnly Departure.lateStores }, { on := 8, ground := Ground.phase }], guard := none }) rfl (fun KC hKC => ?_) AllReadyH.nil
          refine step_store_v rfl 31 _ _ rfl bw [.slice Aw Nw Kw, .int .i64 Y] rfl rfl sizeBk cw rfl (oneBk _ _ _ _) ?_
          intro wr9 hOr9 cwx
          (try replace ot := ot.only hOr9 cw (by decide))
          (try replace ow := ow.only hOr9 cw (by decide))
          replace ca := vblk_only ca hOr9 lt_ca
          replace ci := vblk_only ci hOr9 lt_ci
          replace hC := hC.trans (hOr9.2.2 _ hlv)
          replace cw := cwx
          refine hKC.out _ _ (⟨(cells2 ca).1, (cells2 ca).2, cells5 ci⟩) (fun hHeld2 => ?_)
          clear hKC KC hHeld
          have hHeld := hHeld2
          clear hHeld2
          (try simp only [Act.put])
          refine wpAnyH_take (i := 10) (oi := { dst := some 7, op := Op.assign (Operand.tmp 33), type := 4, pos := "exact.go:3520", after := #[{ on := 7, ground := Ground.data }, { on := 9, ground := Ground.chain }, { on := 0, ground := Ground.phase }, { on := 1, ground := Ground.phase }, { on := 2, ground := Ground.phase }, { on := 3, ground := Ground.phase }, { on := 4, ground := Ground.phase }, { on := 5, ground := Ground.phase }, { on := 6, ground := Ground.phase }, { on := 7, ground := Ground.phase }, { on := 8, ground := Ground.phase }, { on := 9, ground := Ground.phase }], guard := none }) (v := ?_) rfl (by kernel_rfl) (by kernel_rfl) (by kernel_rfl) (fun _ _ _ h => h) (Or.inl ⟨by rfl, ?_⟩) (by assumption) ?_
          rotate_left 1
          · intro w' hSw
            (try dsimp only at hSw)
            go_simp
            (try with_reducible rfl)
          (try simp only [Act.put, List.setIfInBounds_toArray, List.set_cons_zero, List.set_cons_succ])
          refine wpAnyH_done (by kernel_rfl) ?_ _
          go_wp2
          go_meet
          case rel => exact ⟨bw, Aw, Nw, Kw, rfl, rfl, hC, ca, ci, cw, ow.top⟩
        · refine step_alloc_v rfl 31 rfl _ zeroBk ?_
          intro bw wr8 hbw hwbw hBr8 cw
          have hlv : w4.heap.size ≤ bw := Nat.le_trans hC.size hbw
          have lt_ca := Nat.ne_of_lt (Nat.lt_of_lt_of_le ca.lt hbw)
          have lt_ci := Nat.ne_of_lt (Nat.lt_of_lt_of_le ci.lt hbw)
          (try replace ot := ot.grow hBr8)
          (try replace ow := ow.grow hBr8)
          replace ca := vblk_grow ca hBr8
          replace ci := vblk_grow ci hBr8
          replace hC := hC.trans (hBr8.mono hC.size)
          refine hKC.out _ _ (⟨(cells2 ca).1, (cells2 ca).2, cells5 ci⟩) (fun hHeld2 => ?_)
          clear hKC KC hHeld
          have hHeld := hHeld2
          clear hHeld2
          (try simp only [Act.put, List.setIfInBounds_toArray, List.set_cons_zero, List.set_cons_succ])
          refine wpAnyH_ready (rs := [4]) (by kernel_rfl) (by simp) ?_
          refine AllReadyH.cons (o := { dst := some 31, op := Op.call { callee := Callee.value (Operand.func 10), args := #[Operand.tmp 28, Operand.tmp 30], argTypes := #[31, 35] }, type := 32, pos := "exact.go:3520", after := #[{ on := 1, ground := Ground.data }, { on := 3, ground := Ground.data }, { on := 3, ground := Ground.chain }], guard := none }) rfl (fun KC hKC => ?_) AllReadyH.nil
          go_simp
          go_at_call 10
          refine (specStamped_any I X N B F C U _ _ ot.rd SMK.out hl hN1 hB1x).mono ?_
          rintro er wr4 ⟨vw, rfl, ow, hBr4⟩
          rw [hJ.out] at ow
          rw [hJ.out, hy.out]
          dsimp only at ow ⊢
          obtain ⟨Aw, Nw, Kw, rfl⟩ := ow.slice
          replace ow := ow.wide (lo' := w4.heap.size) hC.size (Nat.le_refl _)
          (try replace ot := ot.grow hBr4)
          replace ca := vblk_grow ca hBr4
          replace ci := vblk_grow ci hBr4
          replace hC := hC.trans (hBr4.mono hC.size)
          (try replace cw := vblk_grow cw hBr4)
          refine hKC.out _ _ (⟨(cells2 ca).1, (cells2 ca).2, cells5 ci⟩) (fun hHeld2 => ?_)
          clear hKC KC hHeld
          have hHeld := hHeld2
          clear hHeld2
          (try simp only [Act.put, List.setIfInBounds_toArray, List.set_cons_zero, List.set_cons_succ])
          refine wpAnyH_take (i := 5) (oi := { dst := some 26, op := Op.move (Operand.tmp 31), type := 32, pos := "exact.go:3520", after := #[{ on := 4, ground := Ground.data }], guard := none }) (v := ?_) rfl (by kernel_rfl) (by kernel_rfl) (by kernel_rfl) (fun _ _ _ h => h) (Or.inl ⟨by rfl, ?_⟩) (by assumption) ?_
          rotate_left 1
          · intro w' hSw
            (try dsimp only at hSw)
            go_simp
            (try with_reducible rfl)
          (try simp only [Act.put, List.setIfInBounds_toArray, List.set_cons_zero, List.set_cons_succ])
          refine wpAnyH_take (i := 6) (oi := { dst := some 32, op := Op.extract (Operand.tmp 26) 0, type := 31, pos := "exact.go:3520", after := #[{ on := 5, ground := Ground.data }], guard := none }) (v := ?_) rfl (by kernel_rfl) (by kernel_rfl) (by kernel_rfl) (fun _ _ _ h => h) (Or.inl ⟨by rfl, ?_⟩) (by assumption) ?_
          rotate_left 1
          · intro w' hSw
            (try dsimp only at hSw)
            go_simp
            (try with_reducible rfl)
          (try simp only [Act.put, List.setIfInBounds_toArray, List.set_cons_zero, List.set_cons_succ])
          refine wpAnyH_take (i := 7) (oi := { dst := some 33, op := Op.extract (Operand.tmp 26) 1, type := 4, pos := "exact.go:3520", after := #[{ on := 5, ground := Ground.data }, { on := 9, ground := Ground.gcOnly Departure.lateStores }], guard := none }) (v := ?_) rfl (by kernel_rfl) (by kernel_rfl) (by kernel_rfl) (fun _ _ _ h => h) (Or.inl ⟨by rfl, ?_⟩) (by assumption) ?_
          rotate_left 1
          · intro w' hSw
            (try dsimp only at hSw)
            go_simp
            (try with_reducible rfl)
          (try simp only [Act.put, List.setIfInBounds_toArray, List.set_cons_zero, List.set_cons_succ])
          refine wpAnyH_ready (rs := [9]) (by kernel_rfl) (by simp) ?_
          refine AllReadyH.cons (o := { dst := none, op := Op.store 31 (Operand.tmp 6) (Operand.tmp 32), type := 0, pos := "exact.go:3520", after := #[{ on := 8, ground := Ground.data }, { on := 6, ground := Ground.data }, { on := 4, ground := Ground.chain }, { on := 0, ground := Ground.phase }, { on := 1, ground := Ground.phase }, { on := 2, ground := Ground.phase }, { on := 3, ground := Ground.phase }, { on := 4, ground := Ground.phase }, { on := 5, ground := Ground.phase }, { on := 6, ground := Ground.phase }, { on := 7, ground := Ground.textOnly Departure.lateStores }, { on := 8, ground := Ground.phase }], guard := none }) rfl (fun KC hKC => ?_) AllReadyH.nil
          refine step_store_v rfl 31 _ _ rfl bw [.slice Aw Nw Kw, .int .i64 Y] rfl rfl sizeBk cw rfl (oneBk _ _ _ _) ?_
          intro wr9 hOr9 cwx
          (try replace ot := ot.only hOr9 cw (by decide))
          (try replace ow := ow.only hOr9 cw (by decide))
          replace ca := vblk_only ca hOr9 lt_ca
          replace ci := vblk_only ci hOr9 lt_ci
          replace hC := hC.trans (hOr9.2.2 _ hlv)
          replace cw := cwx
          refine hKC.out _ _ (⟨(cells2 ca).1, (cells2 ca).2, cells5 ci⟩) (fun hHeld2 => ?_)
          clear hKC KC hHeld
          have hHeld := hHeld2
          clear hHeld2
          (try simp only [Act.put])
          refine wpAnyH_take (i := 10) (oi := { dst := some 7, op := Op.assign (Operand.tmp 33), type := 4, pos := "exact.go:3520", after := #[{ on := 7, ground := Ground.data }, { on := 9, ground := Ground.chain }, { on := 0, ground := Ground.phase }, { on := 1, ground := Ground.phase }, { on := 2, ground := Ground.phase }, { on := 3, ground := Ground.phase }, { on := 4, ground := Ground.phase }, { on := 5, ground := Ground.phase }, { on := 6, ground := Ground.phase }, { on := 7, ground := Ground.phase }, { on := 8, ground := Ground.phase }, { on := 9, ground := Ground.phase }], guard := none }) (v := ?_) rfl (by kernel_rfl) (by kernel_rfl) (by kernel_rfl) (fun _ _ _ h => h) (Or.inl ⟨by rfl, ?_⟩) (by assumption) ?_
          rotate_left 1
          · intro w' hSw
            (try dsimp only at hSw)
            go_simp
            (try with_reducible rfl)
          (try simp only [Act.put, List.setIfInBounds_toArray, List.set_cons_zero, List.set_cons_succ])
          refine wpAnyH_done (by kernel_rfl) ?_ _
          go_wp2
          go_meet
          case rel => exact ⟨bw, Aw, Nw, Kw, rfl, rfl, hC, ca, ci, cw, ow.top⟩
      · refine step_alloc_v rfl 31 rfl _ zeroBk ?_
        intro bw wr8 hbw hwbw hBr8 cw
        have hlv : w4.heap.size ≤ bw := Nat.le_trans hC.size hbw
        have lt_ca := Nat.ne_of_lt (Nat.lt_of_lt_of_le ca.lt hbw)
        have lt_ci := Nat.ne_of_lt (Nat.lt_of_lt_of_le ci.lt hbw)
        (try replace ot := ot.grow hBr8)
        (try replace ow := ow.grow hBr8)
        replace ca := vblk_grow ca hBr8
        replace ci := vblk_grow ci hBr8
        replace hC := hC.trans (hBr8.mono hC.size)
        refine hKC.out _ _ (⟨(cells2 ca).1, (cells2 ca).2, cells5 ci⟩) (fun hHeld2 => ?_)
        clear hKC KC hHeld
        have hHeld := hHeld2
        clear hHeld2
        (try simp only [Act.put, List.setIfInBounds_toArray, List.set_cons_zero, List.set_cons_succ])
        refine wpAnyH_ready (rs := [3]) (by kernel_rfl) (by simp) ?_
        refine AllReadyH.cons (o := { dst := some 30, op := Op.call { callee := Callee.value (Operand.func 12), args := #[Operand.tmp 29], argTypes := #[26] }, type := 35, pos := "exact.go:3520", after := #[{ on := 2, ground := Ground.data }, { on := 1, ground := Ground.chain }], guard := none }) rfl (fun KC hKC => ?_) AllReadyH.nil
        go_simp
        go_at_call 12
        refine (toItem_any N B F C U _).mono ?_
        rintro er wr3 ⟨rfl, hBr3⟩
        (try replace ot := ot.grow hBr3)
        (try replace ow := ow.grow hBr3)
        replace ca := vblk_grow ca hBr3
        replace ci := vblk_grow ci hBr3
        replace hC := hC.trans (hBr3.mono hC.size)
        (try replace cw := vblk_grow cw hBr3)
        refine hKC.out _ _ (⟨(cells2 ca).1, (cells2 ca).2, cells5 ci⟩) (fun hHeld2 => ?_)
        clear hKC KC hHeld
        have hHeld := hHeld2
        clear hHeld2
        (try simp only [Act.put, List.setIfInBounds_toArray, List.set_cons_zero, List.set_cons_succ])
        refine wpAnyH_ready (rs := [4]) (by kernel_rfl) (by simp) ?_
        refine AllReadyH.cons (o := { dst := some 31, op := Op.call { callee := Callee.value (Operand.func 10), args := #[Operand.tmp 28, Operand.tmp 30], argTypes := #[31, 35] }, type := 32, pos := "exact.go:3520", after := #[{ on := 1, ground := Ground.data }, { on := 3, ground := Ground.data }, { on := 3, ground := Ground.chain }], guard := none }) rfl (fun KC hKC => ?_) AllReadyH.nil
        go_simp
        go_at_call 10
        refine (specStamped_any I X N B F C U _ _ ot.rd SMK.out hl hN1 hB1x).mono ?_
        rintro er wr4 ⟨vw, rfl, ow, hBr4⟩
        rw [hJ.out] at ow
        rw [hJ.out, hy.out]
        dsimp only at ow ⊢
        obtain ⟨Aw, Nw, Kw, rfl⟩ := ow.slice
        replace ow := ow.wide (lo' := w4.heap.size) hC.size (Nat.le_refl _)
        (try replace ot := ot.grow hBr4)
        replace ca := vblk_grow ca hBr4
        replace ci := vblk_grow ci hBr4
        replace hC := hC.trans (hBr4.mono hC.size)
        (try replace cw := vblk_grow cw hBr4)
        refine hKC.out _ _ (⟨(cells2 ca).1, (cells2 ca).2, cells5 ci⟩) (fun hHeld2 => ?_)
        clear hKC KC hHeld
        have hHeld := hHeld2
        clear hHeld2
        (try simp only [Act.put, List.setIfInBounds_toArray, List.set_cons_zero, List.set_cons_succ])
        refine wpAnyH_take (i := 5) (oi := { dst := some 26, op := Op.move (Operand.tmp 31), type := 32, pos := "exact.go:3520", after := #[{ on := 4, ground := Ground.data }], guard := none }) (v := ?_) rfl (by kernel_rfl) (by kernel_rfl) (by kernel_rfl) (fun _ _ _ h => h) (Or.inl ⟨by rfl, ?_⟩) (by assumption) ?_
        rotate_left 1
        · intro w' hSw
          (try dsimp only at hSw)
          go_simp
          (try with_reducible rfl)
        (try simp only [Act.put, List.setIfInBounds_toArray, List.set_cons_zero, List.set_cons_succ])
        refine wpAnyH_take (i := 6) (oi := { dst := some 32, op := Op.extract (Operand.tmp 26) 0, type := 31, pos := "exact.go:3520", after := #[{ on := 5, ground := Ground.data }], guard := none }) (v := ?_) rfl (by kernel_rfl) (by kernel_rfl) (by kernel_rfl) (fun _ _ _ h => h) (Or.inl ⟨by rfl, ?_⟩) (by assumption) ?_
        rotate_left 1
        · intro w' hSw
          (try dsimp only at hSw)
          go_simp
          (try with_reducible rfl)
        (try simp only [Act.put, List.setIfInBounds_toArray, List.set_cons_zero, List.set_cons_succ])
        refine wpAnyH_take (i := 7) (oi := { dst := some 33, op := Op.extract (Operand.tmp 26) 1, type := 4, pos := "exact.go:3520", after := #[{ on := 5, ground := Ground.data }, { on := 9, ground := Ground.gcOnly Departure.lateStores }], guard := none }) (v := ?_) rfl (by kernel_rfl) (by kernel_rfl) (by kernel_rfl) (fun _ _ _ h => h) (Or.inl ⟨by rfl, ?_⟩) (by assumption) ?_
        rotate_left 1
        · intro w' hSw
          (try dsimp only at hSw)
          go_simp
          (try with_reducible rfl)
        (try simp only [Act.put, List.setIfInBounds_toArray, List.set_cons_zero, List.set_cons_succ])
        refine wpAnyH_ready (rs := [9]) (by kernel_rfl) (by simp) ?_
        refine AllReadyH.cons (o := { dst := none, op := Op.store 31 (Operand.tmp 6) (Operand.tmp 32), type := 0, pos := "exact.go:3520", after := #[{ on := 8, ground := Ground.data }, { on := 6, ground := Ground.data }, { on := 4, ground := Ground.chain }, { on := 0, ground := Ground.phase }, { on := 1, ground := Ground.phase }, { on := 2, ground := Ground.phase }, { on := 3, ground := Ground.phase }, { on := 4, ground := Ground.phase }, { on := 5, ground := Ground.phase }, { on := 6, ground := Ground.phase }, { on := 7, ground := Ground.textOnly Departure.lateStores }, { on := 8, ground := Ground.phase }], guard := none }) rfl (fun KC hKC => ?_) AllReadyH.nil
        refine step_store_v rfl 31 _ _ rfl bw [.slice Aw Nw Kw, .int .i64 Y] rfl rfl sizeBk cw rfl (oneBk _ _ _ _) ?_
        intro wr9 hOr9 cwx
        (try replace ot := ot.only hOr9 cw (by decide))
        (try replace ow := ow.only hOr9 cw (by decide))
        replace ca := vblk_only ca hOr9 lt_ca
        replace ci := vblk_only ci hOr9 lt_ci
        replace hC := hC.trans (hOr9.2.2 _ hlv)
        replace cw := cwx
        refine hKC.out _ _ (⟨(cells2 ca).1, (cells2 ca).2, cells5 ci⟩) (fun hHeld2 => ?_)
        clear hKC KC hHeld
        have hHeld := hHeld2
        clear hHeld2
        (try simp only [Act.put])
        refine wpAnyH_take (i := 10) (oi := { dst := some 7, op := Op.assign (Operand.tmp 33), type := 4, pos := "exact.go:3520", after := #[{ on := 7, ground := Ground.data }, { on := 9, ground := Ground.chain }, { on := 0, ground := Ground.phase }, { on := 1, ground := Ground.phase }, { on := 2, ground := Ground.phase }, { on := 3, ground := Ground.phase }, { on := 4, ground := Ground.phase }, { on := 5, ground := Ground.phase }, { on := 6, ground := Ground.phase }, { on := 7, ground := Ground.phase }, { on := 8, ground := Ground.phase }, { on := 9, ground := Ground.phase }], guard := none }) (v := ?_) rfl (by kernel_rfl) (by kernel_rfl) (by kernel_rfl) (fun _ _ _ h => h) (Or.inl ⟨by rfl, ?_⟩) (by assumption) ?_
        rotate_left 1
        · intro w' hSw
          (try dsimp only at hSw)
          go_simp
          (try with_reducible rfl)
        (try simp only [Act.put, List.setIfInBounds_toArray, List.set_cons_zero, List.set_cons_succ])
        refine wpAnyH_done (by kernel_rfl) ?_ _
        go_wp2
        go_meet
        case rel => exact ⟨bw, Aw, Nw, Kw, rfl, rfl, hC, ca, ci, cw, ow.top⟩
    · refine step_alloc_v rfl 31 rfl _ zeroBk ?_
      intro bw wr8 hbw hwbw hBr8 cw
      have hlv : w4.heap.size ≤ bw := Nat.le_trans hC.size hbw
      have lt_ca := Nat.ne_of_lt (Nat.lt_of_lt_of_le ca.lt hbw)
      have lt_ci := Nat.ne_of_lt (Nat.lt_of_lt_of_le ci.lt hbw)
      (try replace ot := ot.grow hBr8)
      (try replace ow := ow.grow hBr8)
      replace ca := vblk_grow ca hBr8
      replace ci := vblk_grow ci hBr8
      replace hC := hC.trans (hBr8.mono hC.size)
      refine hKC.out _ _ (⟨(cells2 ca).1, (cells2 ca).2, cells5 ci⟩) (fun hHeld2 => ?_)
      clear hKC KC hHeld
      have hHeld := hHeld2
      clear hHeld2
      (try simp only [Act.put, List.setIfInBounds_toArray, List.set_cons_zero, List.set_cons_succ])
      refine wpAnyH_ready (rs := [1]) (by kernel_rfl) (by simp) ?_
      refine AllReadyH.cons (o := { dst := some 28, op := Op.call { callee := Callee.value (Operand.func 11), args := #[Operand.tmp 27], argTypes := #[24] }, type := 31, pos := "exact.go:3520", after := #[{ on := 0, ground := Ground.data }], guard := none }) rfl (fun KC hKC => ?_) AllReadyH.nil
      go_simp
      go_at_call 11
      refine (toBook_any I X _ _ (R.out.grow (hB.trans (hC.mono (by omega)))) hl).mono ?_
      rintro er wr1 ⟨vt, rfl, ot, hBr1⟩
      obtain ⟨At, Nt, Kt, rfl⟩ := ot.slice
      (try replace ow := ow.grow hBr1)
      replace ca := vblk_grow ca hBr1
      replace ci := vblk_grow ci hBr1
      replace hC := hC.trans (hBr1.mono hC.size)
      (try replace cw := vblk_grow cw hBr1)
      refine hKC.out _ _ (⟨(cells2 ca).1, (cells2 ca).2, cells5 ci⟩) (fun hHeld2 => ?_)
      clear hKC KC hHeld
      have hHeld := hHeld2
      clear hHeld2
      (try simp only [Act.put, List.setIfInBounds_toArray, List.set_cons_zero, List.set_cons_succ])
      refine wpAnyH_ready (rs := [3]) (by kernel_rfl) (by simp) ?_
      refine AllReadyH.cons (o := { dst := some 30, op := Op.call { callee := Callee.value (Operand.func 12), args := #[Operand.tmp 29], argTypes := #[26] }, type := 35, pos := "exact.go:3520", after := #[{ on := 2, ground := Ground.data }, { on := 1, ground := Ground.chain }], guard := none }) rfl (fun KC hKC => ?_) AllReadyH.nil
      go_simp
      go_at_call 12
      refine (toItem_any N B F C U _).mono ?_
      rintro er wr3 ⟨rfl, hBr3⟩
      (try replace ot := ot.grow hBr3)
      (try replace ow := ow.grow hBr3)
      replace ca := vblk_grow ca hBr3
      replace ci := vblk_grow ci hBr3
      replace hC := hC.trans (hBr3.mono hC.size)
      (try replace cw := vblk_grow cw hBr3)
      refine hKC.out _ _ (⟨(cells2 ca).1, (cells2 ca).2, cells5 ci⟩) (fun hHeld2 => ?_)
      clear hKC KC hHeld
      have hHeld := hHeld2
      clear hHeld2
      (try simp only [Act.put, List.setIfInBounds_toArray, List.set_cons_zero, List.set_cons_succ])
      refine wpAnyH_ready (rs := [4]) (by kernel_rfl) (by simp) ?_
      refine AllReadyH.cons (o := { dst := some 31, op := Op.call { callee := Callee.value (Operand.func 10), args := #[Operand.tmp 28, Operand.tmp 30], argTypes := #[31, 35] }, type := 32, pos := "exact.go:3520", after := #[{ on := 1, ground := Ground.data }, { on := 3, ground := Ground.data }, { on := 3, ground := Ground.chain }], guard := none }) rfl (fun KC hKC => ?_) AllReadyH.nil
      go_simp
      go_at_call 10
      refine (specStamped_any I X N B F C U _ _ ot.rd SMK.out hl hN1 hB1x).mono ?_
      rintro er wr4 ⟨vw, rfl, ow, hBr4⟩
      rw [hJ.out] at ow
      rw [hJ.out, hy.out]
      dsimp only at ow ⊢
      obtain ⟨Aw, Nw, Kw, rfl⟩ := ow.slice
      replace ow := ow.wide (lo' := w4.heap.size) hC.size (Nat.le_refl _)
      (try replace ot := ot.grow hBr4)
      replace ca := vblk_grow ca hBr4
      replace ci := vblk_grow ci hBr4
      replace hC := hC.trans (hBr4.mono hC.size)
      (try replace cw := vblk_grow cw hBr4)
      refine hKC.out _ _ (⟨(cells2 ca).1, (cells2 ca).2, cells5 ci⟩) (fun hHeld2 => ?_)
      clear hKC KC hHeld
      have hHeld := hHeld2
      clear hHeld2
      (try simp only [Act.put, List.setIfInBounds_toArray, List.set_cons_zero, List.set_cons_succ])
      refine wpAnyH_take (i := 5) (oi := { dst := some 26, op := Op.move (Operand.tmp 31), type := 32, pos := "exact.go:3520", after := #[{ on := 4, ground := Ground.data }], guard := none }) (v := ?_) rfl (by kernel_rfl) (by kernel_rfl) (by kernel_rfl) (fun _ _ _ h => h) (Or.inl ⟨by rfl, ?_⟩) (by assumption) ?_
      rotate_left 1
      · intro w' hSw
        (try dsimp only at hSw)
        go_simp
        (try with_reducible rfl)
      (try simp only [Act.put, List.setIfInBounds_toArray, List.set_cons_zero, List.set_cons_succ])
      refine wpAnyH_take (i := 6) (oi := { dst := some 32, op := Op.extract (Operand.tmp 26) 0, type := 31, pos := "exact.go:3520", after := #[{ on := 5, ground := Ground.data }], guard := none }) (v := ?_) rfl (by kernel_rfl) (by kernel_rfl) (by kernel_rfl) (fun _ _ _ h => h) (Or.inl ⟨by rfl, ?_⟩) (by assumption) ?_
      rotate_left 1
      · intro w' hSw
        (try dsimp only at hSw)
        go_simp
        (try with_reducible rfl)
      (try simp only [Act.put, List.setIfInBounds_toArray, List.set_cons_zero, List.set_cons_succ])
      refine wpAnyH_take (i := 7) (oi := { dst := some 33, op := Op.extract (Operand.tmp 26) 1, type := 4, pos := "exact.go:3520", after := #[{ on := 5, ground := Ground.data }, { on := 9, ground := Ground.gcOnly Departure.lateStores }], guard := none }) (v := ?_) rfl (by kernel_rfl) (by kernel_rfl) (by kernel_rfl) (fun _ _ _ h => h) (Or.inl ⟨by rfl, ?_⟩) (by assumption) ?_
      rotate_left 1
      · intro w' hSw
        (try dsimp only at hSw)
        go_simp
        (try with_reducible rfl)
      (try simp only [Act.put, List.setIfInBounds_toArray, List.set_cons_zero, List.set_cons_succ])
      refine wpAnyH_ready (rs := [9]) (by kernel_rfl) (by simp) ?_
      refine AllReadyH.cons (o := { dst := none, op := Op.store 31 (Operand.tmp 6) (Operand.tmp 32), type := 0, pos := "exact.go:3520", after := #[{ on := 8, ground := Ground.data }, { on := 6, ground := Ground.data }, { on := 4, ground := Ground.chain }, { on := 0, ground := Ground.phase }, { on := 1, ground := Ground.phase }, { on := 2, ground := Ground.phase }, { on := 3, ground := Ground.phase }, { on := 4, ground := Ground.phase }, { on := 5, ground := Ground.phase }, { on := 6, ground := Ground.phase }, { on := 7, ground := Ground.textOnly Departure.lateStores }, { on := 8, ground := Ground.phase }], guard := none }) rfl (fun KC hKC => ?_) AllReadyH.nil
      refine step_store_v rfl 31 _ _ rfl bw [.slice Aw Nw Kw, .int .i64 Y] rfl rfl sizeBk cw rfl (oneBk _ _ _ _) ?_
      intro wr9 hOr9 cwx
      (try replace ot := ot.only hOr9 cw (by decide))
      (try replace ow := ow.only hOr9 cw (by decide))
      replace ca := vblk_only ca hOr9 lt_ca
      replace ci := vblk_only ci hOr9 lt_ci
      replace hC := hC.trans (hOr9.2.2 _ hlv)
      replace cw := cwx
      refine hKC.out _ _ (⟨(cells2 ca).1, (cells2 ca).2, cells5 ci⟩) (fun hHeld2 => ?_)
      clear hKC KC hHeld
      have hHeld := hHeld2
      clear hHeld2
      (try simp only [Act.put])
      refine wpAnyH_take (i := 10) (oi := { dst := some 7, op := Op.assign (Operand.tmp 33), type := 4, pos := "exact.go:3520", after := #[{ on := 7, ground := Ground.data }, { on := 9, ground := Ground.chain }, { on := 0, ground := Ground.phase }, { on := 1, ground := Ground.phase }, { on := 2, ground := Ground.phase }, { on := 3, ground := Ground.phase }, { on := 4, ground := Ground.phase }, { on := 5, ground := Ground.phase }, { on := 6, ground := Ground.phase }, { on := 7, ground := Ground.phase }, { on := 8, ground := Ground.phase }, { on := 9, ground := Ground.phase }], guard := none }) (v := ?_) rfl (by kernel_rfl) (by kernel_rfl) (by kernel_rfl) (fun _ _ _ h => h) (Or.inl ⟨by rfl, ?_⟩) (by assumption) ?_
      rotate_left 1
      · intro w' hSw
        (try dsimp only at hSw)
        go_simp
        (try with_reducible rfl)
      (try simp only [Act.put, List.setIfInBounds_toArray, List.set_cons_zero, List.set_cons_succ])
      refine wpAnyH_done (by kernel_rfl) ?_ _
      go_wp2
      go_meet
      case rel => exact ⟨bw, Aw, Nw, Kw, rfl, rfl, hC, ca, ci, cw, ow.top⟩
  case rest =>
  obtain ⟨bw, Aw, Nw, Kw, rfl, rfl, n_hC, n_ca, n_ci, n_cw, n_ow⟩ := hcut
  rename World => w5
  clear ca
  clear ci
  clear ca0 ca1
  clear ci0 ci1 ci2 ci3 ci4
  have hC := n_hC
  clear n_hC
  have ca := n_ca
  clear n_ca
  have ci := n_ci
  clear n_ci
  have cw := n_cw
  clear n_cw
  have ow := n_ow
  clear n_ow
  have hz5 : w4.heap.size ≤ w5.heap.size := hC.size
  replace hB := hB.trans (hC.mono (by omega))
  replace hzw := hB.size
  clear hC
  obtain ⟨ca0, ca1⟩ := cells2 ca
  obtain ⟨ci0, ci1, ci2, ci3, ci4⟩ := cells5 ci
  obtain ⟨cw0, cw1⟩ := cells2 cw
  have hlw := cw.lt
  have mk6 : Hid True := trivial
  have mk7 : Hid True := trivial
  have mk8 : Hid True := trivial
  go_upto_region 10 with (first | (clear mk6; go_at_call 11; refine (toBook_any I X _ _ (R.out.grow hB) hl).mono ?_; rintro er w6 ⟨vx, rfl, ox, hB6⟩; have hz6 : w5.heap.size ≤ w6.heap.size := hB6.size; replace ow := ow.grow hB6; replace ca := vblk_grow ca hB6; replace ci := vblk_grow ci hB6; replace cw := vblk_grow cw hB6; replace hB := hB.trans (hB6.mono (by omega)); replace hzw := hB.size; clear ca0 ca1; obtain ⟨ca0, ca1⟩ := cells2 ca; clear ci0 ci1 ci2 ci3 ci4; obtain ⟨ci0, ci1, ci2, ci3, ci4⟩ := cells5 ci; clear cw0 cw1; obtain ⟨cw0, cw1⟩ := cells2 cw; obtain ⟨Ax, Nx, Kx, rfl⟩ := ox.slice) | (clear mk7; refine wpList_alloc_v rfl 31 rfl _ zeroBk ?_; intro bx w7 hbx hwbx hB7 cx; have hz7 : w6.heap.size ≤ w7.heap.size := hB7.size; replace ow := ow.grow hB7; replace ox := ox.grow hB7; replace ca := vblk_grow ca hB7; replace ci := vblk_grow ci hB7; replace cw := vblk_grow cw hB7; replace hB := hB.trans (hB7.mono (by omega)); replace hzw := hB.size; clear ca0 ca1; obtain ⟨ca0, ca1⟩ := cells2 ca; clear ci0 ci1 ci2 ci3 ci4; obtain ⟨ci0, ci1, ci2, ci3, ci4⟩ := cells5 ci; clear cw0 cw1; obtain ⟨cw0, cw1⟩ := cells2 cw) | (clear mk8; refine wpList_store_v rfl 31 _ _ rfl bx [.slice Ax Nx Kx, .int .i64 X] rfl rfl sizeBk cx rfl (oneBk _ _ _ _) ?_; intro w8 hO8 cxx; have hz8 : w7.heap.size ≤ w8.heap.size := (Nat.le_of_eq hO8.1.symm); have hy8 : w8.heap.size ≤ w7.heap.size := (Nat.le_of_eq hO8.1); replace ow := ow.only hO8 cx (by decide); replace ox := ox.only hO8 cx (by decide); replace ca := vblk_only ca hO8 (by omega); replace ci := vblk_only ci hO8 (by omega); replace cw := vblk_only cw hO8 (by omega); replace hB := hB.trans (hO8.2.2 _ (by omega)); replace hzw := hB.size; clear ca0 ca1; obtain ⟨ca0, ca1⟩ := cells2 ca; clear ci0 ci1 ci2 ci3 ci4; obtain ⟨ci0, ci1, ci2, ci3, ci4⟩ := cells5 ci; clear cw0 cw1; obtain ⟨cw0, cw1⟩ := cells2 cw; clear cx; have cx := cxx; clear cxx; obtain ⟨cx0, cx1⟩ := cells2 cx) | (fail))
  (try simp only [Act.put])
  (try simp only [List.setIfInBounds_toArray, List.set_cons_zero, List.set_cons_succ])
  go_cut [9, 10] from 36 to 43 (fun s9 s10 wc => ∃ (bg : Nat) (Ag : Option Addr) (Ng Kg : Nat), s9 = .pointer (some ⟨bg, 0, none⟩) ∧ s10 = .bool y ∧ Below w8.heap.size w8 wc ∧ VBlk wc ba 24 [.slice a I.length cap, .int .i64 X] ∧ VBlk wc bi 26 [.string N, .int .i64 F, .string B, .int .i64 C, .int .i64 U] ∧ VBlk wc bw 31 [.slice Aw Nw Kw, .int .i64 Y] ∧ VBlk wc bx 31 [.slice Ax Nx Kx, .int .i64 X] ∧ Own encIt wc w4.heap.size w5.heap.size (.slice Aw Nw Kw) J ∧ Own encIt wc w5.heap.size w6.heap.size (.slice Ax Nx Kx) I ∧ VBlk wc bg 31 [.slice Ag Ng Kg, .int .i64 Y] ∧ Own encIt wc w8.heap.size wc.heap.size (.slice Ag Ng Kg) J)
  case first =>
    have hC : Below w8.heap.size w8 w8.drew := (Below.refl _ _).drew
    replace ow := ow.grow hC
    replace ox := ox.grow hC
    replace ca := vblk_grow ca hC
    clear ca0 ca1
    replace ci := vblk_grow ci hC
    clear ci0 ci1 ci2 ci3 ci4
    replace cw := vblk_grow cw hC
    clear cw0 cw1
    replace cx := vblk_grow cx hC
    clear cx0 cx1
    refine wp_region_held_drew (S := fun w' => w'.cell? ⟨bx, 0, none⟩ = some (.slice Ax Nx Kx) ∧ w'.cell? ⟨bx, 1, none⟩ = some (.int .i64 X) ∧ w'.cell? ⟨bi, 0, none⟩ = some (.string N) ∧ w'.cell? ⟨bi, 1, none⟩ = some (.int .i64 F) ∧ w'.cell? ⟨bi, 2, none⟩ = some (.string B) ∧ w'.cell? ⟨bi, 3, none⟩ = some (.int .i64 C) ∧ w'.cell? ⟨bi, 4, none⟩ = some (.int .i64 U)) (by kernel_rfl) (⟨(cells2 cx).1, (cells2 cx).2, cells5 ci⟩) (fun hHeld => ?_)
    refine wpAnyH_take (i := 0) (oi := { dst := some 37, op := Op.load 31 (Operand.tmp 8), type := 31, pos := "exact.go:3522", after := #[], guard := none }) (v := ?_) rfl (by kernel_rfl) (by kernel_rfl) (by kernel_rfl) (fun _ _ _ h => h) (Or.inl ⟨by rfl, ?_⟩) (by assumption) ?_
    rotate_left 1
    · intro w' hSw
      (try dsimp only at hSw)
      go_simp
      (try with_reducible rfl)
    (try simp only [Act.put, List.setIfInBounds_toArray, List.set_cons_zero, List.set_cons_succ])
    refine wpAnyH_take (i := 1) (oi := { dst := some 38, op := Op.load 26 (Operand.tmp 3), type := 26, pos := "exact.go:3522", after := #[], guard := none }) (v := ?_) rfl (by kernel_rfl) (by kernel_rfl) (by kernel_rfl) (fun _ _ _ h => h) (Or.inl ⟨by rfl, ?_⟩) (by assumption) ?_
    rotate_left 1
    · intro w' hSw
      (try dsimp only at hSw)
      go_simp
      (try with_reducible rfl)
    (try simp only [Act.put, List.setIfInBounds_toArray, List.set_cons_zero, List.set_cons_succ])
    refine wpAnyH_ready (rs := [2, 7]) (by kernel_rfl) (by simp) ?_
    refine AllReadyH.cons (o := { dst := some 39, op := Op.call { callee := Callee.value (Operand.func 12), args := #[Operand.tmp 38], argTypes := #[26] }, type := 35, pos := "exact.go:3522", after := #[{ on := 1, ground := Ground.data }], guard := none }) rfl (fun KC hKC => ?_) (AllReadyH.cons (o := { dst := some 9, op := Op.alloc 31, type := 0, pos := "exact.go:3522", after := #[], guard := none }) rfl (fun KC hKC => ?_) AllReadyH.nil)
    · go_simp
      go_at_call 12
      refine (toItem_any N B F C U _).mono ?_
      rintro er wr2 ⟨rfl, hBr2⟩
      (try replace ow := ow.grow hBr2)
      (try replace ox := ox.grow hBr2)
      (try replace og := og.grow hBr2)
      replace ca := vblk_grow ca hBr2
      replace ci := vblk_grow ci hBr2
      replace cw := vblk_grow cw hBr2
      replace cx := vblk_grow cx hBr2
      replace hC := hC.trans (hBr2.mono hC.size)
      (try replace cg := vblk_grow cg hBr2)
      refine hKC.out _ _ (⟨(cells2 cx).1, (cells2 cx).2, cells5 ci⟩) (fun hHeld2 => ?_)
      clear hKC KC hHeld
      have hHeld := hHeld2
      clear hHeld2
      (try simp only [Act.put, List.setIfInBounds_toArray, List.set_cons_zero, List.set_cons_succ])
      refine wpAnyH_ready (rs := [3, 7]) (by kernel_rfl) (by simp) ?_
      refine AllReadyH.cons (o := { dst := some 40, op := Op.call { callee := Callee.value (Operand.func 13), args := #[Operand.tmp 37, Operand.tmp 39], argTypes := #[31, 35] }, type := 32, pos := "exact.go:3522", after := #[{ on := 0, ground := Ground.data }, { on := 2, ground := Ground.data }, { on := 2, ground := Ground.chain }], guard := none }) rfl (fun KC hKC => ?_) (AllReadyH.cons (o := { dst := some 9, op := Op.alloc 31, type := 0, pos := "exact.go:3522", after := #[], guard := none }) rfl (fun KC hKC => ?_) AllReadyH.nil)
      · go_simp
        go_at_call 13
        refine (implStamped_any I X N B F C U _ _ ox.rd SMK.out hl hN1 hB1x).mono ?_
        rintro er wr3 ⟨vg, rfl, og, hBr3⟩
        rw [hJ.out] at og
        rw [hJ.out, hy.out]
        dsimp only at og ⊢
        obtain ⟨Ag, Ng, Kg, rfl⟩ := og.slice
        replace og := og.wide (lo' := w8.heap.size) hC.size (Nat.le_refl _)
        (try replace ow := ow.grow hBr3)
        (try replace ox := ox.grow hBr3)
        replace ca := vblk_grow ca hBr3
        replace ci := vblk_grow ci hBr3
        replace cw := vblk_grow cw hBr3
        replace cx := vblk_grow cx hBr3
        replace hC := hC.trans (hBr3.mono hC.size)
        (try replace cg := vblk_grow cg hBr3)
        refine hKC.out _ _ (⟨(cells2 cx).1, (cells2 cx).2, cells5 ci⟩) (fun hHeld2 => ?_)
        clear hKC KC hHeld
        have hHeld := hHeld2
        clear hHeld2
        (try simp only [Act.put, List.setIfInBounds_toArray, List.set_cons_zero, List.set_cons_succ])
        refine wpAnyH_take (i := 4) (oi := { dst := some 36, op := Op.move (Operand.tmp 40), type := 32, pos := "exact.go:3522", after := #[{ on := 3, ground := Ground.data }], guard := none }) (v := ?_) rfl (by kernel_rfl) (by kernel_rfl) (by kernel_rfl) (fun _ _ _ h => h) (Or.inl ⟨by rfl, ?_⟩) (by assumption) ?_
        rotate_left 1
        · intro w' hSw
          (try dsimp only at hSw)
          go_simp
          (try with_reducible rfl)
        (try simp only [Act.put, List.setIfInBounds_toArray, List.set_cons_zero, List.set_cons_succ])
        refine wpAnyH_take (i := 5) (oi := { dst := some 41, op := Op.extract (Operand.tmp 36) 0, type := 31, pos := "exact.go:3522", after := #[{ on := 4, ground := Ground.data }], guard := none }) (v := ?_) rfl (by kernel_rfl) (by kernel_rfl) (by kernel_rfl) (fun _ _ _ h => h) (Or.inl ⟨by rfl, ?_⟩) (by assumption) ?_
        rotate_left 1
        · intro w' hSw
          (try dsimp only at hSw)
          go_simp
          (try with_reducible rfl)
        (try simp only [Act.put, List.setIfInBounds_toArray, List.set_cons_zero, List.set_cons_succ])
        refine wpAnyH_take (i := 6) (oi := { dst := some 42, op := Op.extract (Operand.tmp 36) 1, type := 4, pos := "exact.go:3522", after := #[{ on := 4, ground := Ground.data }, { on := 8, ground := Ground.gcOnly Departure.lateStores }], guard := none }) (v := ?_) rfl (by kernel_rfl) (by kernel_rfl) (by kernel_rfl) (fun _ _ _ h => h) (Or.inl ⟨by rfl, ?_⟩) (by assumption) ?_
        rotate_left 1
        · intro w' hSw
          (try dsimp only at hSw)
          go_simp
          (try with_reducible rfl)
        (try simp only [Act.put, List.setIfInBounds_toArray, List.set_cons_zero, List.set_cons_succ])
        refine wpAnyH_ready (rs := [7]) (by kernel_rfl) (by simp) ?_
        refine AllReadyH.cons (o := { dst := some 9, op := Op.alloc 31, type := 0, pos := "exact.go:3522", after := #[], guard := none }) rfl (fun KC hKC => ?_) AllReadyH.nil
        refine step_alloc_v rfl 31 rfl _ zeroBk ?_
        intro bg wr7 hbg hwbg hBr7 cg
        have hlv : w8.heap.size ≤ bg := Nat.le_trans hC.size hbg
        have lt_ca := Nat.ne_of_lt (Nat.lt_of_lt_of_le ca.lt hbg)
        have lt_ci := Nat.ne_of_lt (Nat.lt_of_lt_of_le ci.lt hbg)
        have lt_cw := Nat.ne_of_lt (Nat.lt_of_lt_of_le cw.lt hbg)
        have lt_cx := Nat.ne_of_lt (Nat.lt_of_lt_of_le cx.lt hbg)
        (try replace ow := ow.grow hBr7)
        (try replace ox := ox.grow hBr7)
        (try replace og := og.grow hBr7)
        replace ca := vblk_grow ca hBr7
        replace ci := vblk_grow ci hBr7
        replace cw := vblk_grow cw hBr7
        replace cx := vblk_grow cx hBr7
        replace hC := hC.trans (hBr7.mono hC.size)
        refine hKC.out _ _ (⟨(cells2 cx).1, (cells2 cx).2, cells5 ci⟩) (fun hHeld2 => ?_)
        clear hKC KC hHeld
        have hHeld := hHeld2
        clear hHeld2
        (try simp only [Act.put, List.setIfInBounds_toArray, List.set_cons_zero, List.set_cons_succ])
        refine wpAnyH_ready (rs := [8]) (by kernel_rfl) (by simp) ?_
        refine AllReadyH.cons (o := { dst := none, op := Op.store 31 (Operand.tmp 9) (Operand.tmp 41), type := 0, pos := "exact.go:3522", after := #[{ on := 7, ground := Ground.data }, { on := 5, ground := Ground.data }, { on := 3, ground := Ground.chain }, { on := 0, ground := Ground.phase }, { on := 1, ground := Ground.phase }, { on := 2, ground := Ground.phase }, { on := 3, ground := Ground.phase }, { on := 4, ground := Ground.phase }, { on := 5, ground := Ground.phase }, { on := 6, ground := Ground.textOnly Departure.lateStores }, { on := 7, ground := Ground.phase }], guard := none }) rfl (fun KC hKC => ?_) AllReadyH.nil
        refine step_store_v rfl 31 _ _ rfl bg [.slice Ag Ng Kg, .int .i64 Y] rfl rfl sizeBk cg rfl (oneBk _ _ _ _) ?_
        intro wr8 hOr8 cgx
        (try replace ow := ow.only hOr8 cg (by decide))
        (try replace ox := ox.only hOr8 cg (by decide))
        (try replace og := og.only hOr8 cg (by decide))
        replace ca := vblk_only ca hOr8 lt_ca
        replace ci := vblk_only ci hOr8 lt_ci
        replace cw := vblk_only cw hOr8 lt_cw
        replace cx := vblk_only cx hOr8 lt_cx
        replace hC := hC.trans (hOr8.2.2 _ hlv)
        replace cg := cgx
        refine hKC.out _ _ (⟨(cells2 cx).1, (cells2 cx).2, cells5 ci⟩) (fun hHeld2 => ?_)
        clear hKC KC hHeld
        have hHeld := hHeld2
        clear hHeld2
        (try simp only [Act.put])
        refine wpAnyH_take (i := 9) (oi := { dst := some 10, op := Op.assign (Operand.tmp 42), type := 4, pos := "exact.go:3522", after := #[{ on := 6, ground := Ground.data }, { on := 8, ground := Ground.chain }, { on := 0, ground := Ground.phase }, { on := 1, ground := Ground.phase }, { on := 2, ground := Ground.phase }, { on := 3, ground := Ground.phase }, { on := 4, ground := Ground.phase }, { on := 5, ground := Ground.phase }, { on := 6, ground := Ground.phase }, { on := 7, ground := Ground.phase }, { on := 8, ground := Ground.phase }], guard := none }) (v := ?_) rfl (by kernel_rfl) (by kernel_rfl) (by kernel_rfl) (fun _ _ _ h => h) (Or.inl ⟨by rfl, ?_⟩) (by assumption) ?_
        rotate_left 1
        · intro w' hSw
          (try dsimp only at hSw)
          go_simp
          (try with_reducible rfl)
        (try simp only [Act.put, List.setIfInBounds_toArray, List.set_cons_zero, List.set_cons_succ])
        refine wpAnyH_done (by kernel_rfl) ?_ _
        go_wp2
        go_meet
        case rel => exact ⟨bg, Ag, Ng, Kg, rfl, rfl, hC, ca, ci, cw, cx, ow, ox, cg, og.top⟩
      · refine step_alloc_v rfl 31 rfl _ zeroBk ?_
        intro bg wr7 hbg hwbg hBr7 cg
        have hlv : w8.heap.size ≤ bg := Nat.le_trans hC.size hbg
        have lt_ca := Nat.ne_of_lt (Nat.lt_of_lt_of_le ca.lt hbg)
        have lt_ci := Nat.ne_of_lt (Nat.lt_of_lt_of_le ci.lt hbg)
        have lt_cw := Nat.ne_of_lt (Nat.lt_of_lt_of_le cw.lt hbg)
        have lt_cx := Nat.ne_of_lt (Nat.lt_of_lt_of_le cx.lt hbg)
        (try replace ow := ow.grow hBr7)
        (try replace ox := ox.grow hBr7)
        (try replace og := og.grow hBr7)
        replace ca := vblk_grow ca hBr7
        replace ci := vblk_grow ci hBr7
        replace cw := vblk_grow cw hBr7
        replace cx := vblk_grow cx hBr7
        replace hC := hC.trans (hBr7.mono hC.size)
        refine hKC.out _ _ (⟨(cells2 cx).1, (cells2 cx).2, cells5 ci⟩) (fun hHeld2 => ?_)
        clear hKC KC hHeld
        have hHeld := hHeld2
        clear hHeld2
        (try simp only [Act.put, List.setIfInBounds_toArray, List.set_cons_zero, List.set_cons_succ])
        refine wpAnyH_ready (rs := [3]) (by kernel_rfl) (by simp) ?_
        refine AllReadyH.cons (o := { dst := some 40, op := Op.call { callee := Callee.value (Operand.func 13), args := #[Operand.tmp 37, Operand.tmp 39], argTypes := #[31, 35] }, type := 32, pos := "exact.go:3522", after := #[{ on := 0, ground := Ground.data }, { on := 2, ground := Ground.data }, { on := 2, ground := Ground.chain }], guard := none }) rfl (fun KC hKC => ?_) AllReadyH.nil
        go_simp
        go_at_call 13
        refine (implStamped_any I X N B F C U _ _ ox.rd SMK.out hl hN1 hB1x).mono ?_
        rintro er wr3 ⟨vg, rfl, og, hBr3⟩
        rw [hJ.out] at og
        rw [hJ.out, hy.out]
        dsimp only at og ⊢
        obtain ⟨Ag, Ng, Kg, rfl⟩ := og.slice
        replace og := og.wide (lo' := w8.heap.size) hC.size (Nat.le_refl _)
        (try replace ow := ow.grow hBr3)
        (try replace ox := ox.grow hBr3)
        replace ca := vblk_grow ca hBr3
        replace ci := vblk_grow ci hBr3
        replace cw := vblk_grow cw hBr3
        replace cx := vblk_grow cx hBr3
        replace hC := hC.trans (hBr3.mono hC.size)
        (try replace cg := vblk_grow cg hBr3)
        refine hKC.out _ _ (⟨(cells2 cx).1, (cells2 cx).2, cells5 ci⟩) (fun hHeld2 => ?_)
        clear hKC KC hHeld
        have hHeld := hHeld2
        clear hHeld2
        (try simp only [Act.put, List.setIfInBounds_toArray, List.set_cons_zero, List.set_cons_succ])
        refine wpAnyH_take (i := 4) (oi := { dst := some 36, op := Op.move (Operand.tmp 40), type := 32, pos := "exact.go:3522", after := #[{ on := 3, ground := Ground.data }], guard := none }) (v := ?_) rfl (by kernel_rfl) (by kernel_rfl) (by kernel_rfl) (fun _ _ _ h => h) (Or.inl ⟨by rfl, ?_⟩) (by assumption) ?_
        rotate_left 1
        · intro w' hSw
          (try dsimp only at hSw)
          go_simp
          (try with_reducible rfl)
        (try simp only [Act.put, List.setIfInBounds_toArray, List.set_cons_zero, List.set_cons_succ])
        refine wpAnyH_take (i := 5) (oi := { dst := some 41, op := Op.extract (Operand.tmp 36) 0, type := 31, pos := "exact.go:3522", after := #[{ on := 4, ground := Ground.data }], guard := none }) (v := ?_) rfl (by kernel_rfl) (by kernel_rfl) (by kernel_rfl) (fun _ _ _ h => h) (Or.inl ⟨by rfl, ?_⟩) (by assumption) ?_
        rotate_left 1
        · intro w' hSw
          (try dsimp only at hSw)
          go_simp
          (try with_reducible rfl)
        (try simp only [Act.put, List.setIfInBounds_toArray, List.set_cons_zero, List.set_cons_succ])
        refine wpAnyH_take (i := 6) (oi := { dst := some 42, op := Op.extract (Operand.tmp 36) 1, type := 4, pos := "exact.go:3522", after := #[{ on := 4, ground := Ground.data }, { on := 8, ground := Ground.gcOnly Departure.lateStores }], guard := none }) (v := ?_) rfl (by kernel_rfl) (by kernel_rfl) (by kernel_rfl) (fun _ _ _ h => h) (Or.inl ⟨by rfl, ?_⟩) (by assumption) ?_
        rotate_left 1
        · intro w' hSw
          (try dsimp only at hSw)
          go_simp
          (try with_reducible rfl)
        (try simp only [Act.put, List.setIfInBounds_toArray, List.set_cons_zero, List.set_cons_succ])
        refine wpAnyH_ready (rs := [8]) (by kernel_rfl) (by simp) ?_
        refine AllReadyH.cons (o := { dst := none, op := Op.store 31 (Operand.tmp 9) (Operand.tmp 41), type := 0, pos := "exact.go:3522", after := #[{ on := 7, ground := Ground.data }, { on := 5, ground := Ground.data }, { on := 3, ground := Ground.chain }, { on := 0, ground := Ground.phase }, { on := 1, ground := Ground.phase }, { on := 2, ground := Ground.phase }, { on := 3, ground := Ground.phase }, { on := 4, ground := Ground.phase }, { on := 5, ground := Ground.phase }, { on := 6, ground := Ground.textOnly Departure.lateStores }, { on := 7, ground := Ground.phase }], guard := none }) rfl (fun KC hKC => ?_) AllReadyH.nil
        refine step_store_v rfl 31 _ _ rfl bg [.slice Ag Ng Kg, .int .i64 Y] rfl rfl sizeBk cg rfl (oneBk _ _ _ _) ?_
        intro wr8 hOr8 cgx
        (try replace ow := ow.only hOr8 cg (by decide))
        (try replace ox := ox.only hOr8 cg (by decide))
        (try replace og := og.only hOr8 cg (by decide))
        replace ca := vblk_only ca hOr8 lt_ca
        replace ci := vblk_only ci hOr8 lt_ci
        replace cw := vblk_only cw hOr8 lt_cw
        replace cx := vblk_only cx hOr8 lt_cx
        replace hC := hC.trans (hOr8.2.2 _ hlv)
        replace cg := cgx
        refine hKC.out _ _ (⟨(cells2 cx).1, (cells2 cx).2, cells5 ci⟩) (fun hHeld2 => ?_)
        clear hKC KC hHeld
        have hHeld := hHeld2
        clear hHeld2
        (try simp only [Act.put])
        refine wpAnyH_take (i := 9) (oi := { dst := some 10, op := Op.assign (Operand.tmp 42), type := 4, pos := "exact.go:3522", after := #[{ on := 6, ground := Ground.data }, { on := 8, ground := Ground.chain }, { on := 0, ground := Ground.phase }, { on := 1, ground := Ground.phase }, { on := 2, ground := Ground.phase }, { on := 3, ground := Ground.phase }, { on := 4, ground := Ground.phase }, { on := 5, ground := Ground.phase }, { on := 6, ground := Ground.phase }, { on := 7, ground := Ground.phase }, { on := 8, ground := Ground.phase }], guard := none }) (v := ?_) rfl (by kernel_rfl) (by kernel_rfl) (by kernel_rfl) (fun _ _ _ h => h) (Or.inl ⟨by rfl, ?_⟩) (by assumption) ?_
        rotate_left 1
        · intro w' hSw
          (try dsimp only at hSw)
          go_simp
          (try with_reducible rfl)
        (try simp only [Act.put, List.setIfInBounds_toArray, List.set_cons_zero, List.set_cons_succ])
        refine wpAnyH_done (by kernel_rfl) ?_ _
        go_wp2
        go_meet
        case rel => exact ⟨bg, Ag, Ng, Kg, rfl, rfl, hC, ca, ci, cw, cx, ow, ox, cg, og.top⟩
    · refine step_alloc_v rfl 31 rfl _ zeroBk ?_
      intro bg wr7 hbg hwbg hBr7 cg
      have hlv : w8.heap.size ≤ bg := Nat.le_trans hC.size hbg
      have lt_ca := Nat.ne_of_lt (Nat.lt_of_lt_of_le ca.lt hbg)
      have lt_ci := Nat.ne_of_lt (Nat.lt_of_lt_of_le ci.lt hbg)
      have lt_cw := Nat.ne_of_lt (Nat.lt_of_lt_of_le cw.lt hbg)
      have lt_cx := Nat.ne_of_lt (Nat.lt_of_lt_of_le cx.lt hbg)
      (try replace ow := ow.grow hBr7)
      (try replace ox := ox.grow hBr7)
      (try replace og := og.grow hBr7)
      replace ca := vblk_grow ca hBr7
      replace ci := vblk_grow ci hBr7
      replace cw := vblk_grow cw hBr7
      replace cx := vblk_grow cx hBr7
      replace hC := hC.trans (hBr7.mono hC.size)
      refine hKC.out _ _ (⟨(cells2 cx).1, (cells2 cx).2, cells5 ci⟩) (fun hHeld2 => ?_)
      clear hKC KC hHeld
      have hHeld := hHeld2
      clear hHeld2
      (try simp only [Act.put, List.setIfInBounds_toArray, List.set_cons_zero, List.set_cons_succ])
      refine wpAnyH_ready (rs := [2]) (by kernel_rfl) (by simp) ?_
      refine AllReadyH.cons (o := { dst := some 39, op := Op.call { callee := Callee.value (Operand.func 12), args := #[Operand.tmp 38], argTypes := #[26] }, type := 35, pos := "exact.go:3522", after := #[{ on := 1, ground := Ground.data }], guard := none }) rfl (fun KC hKC => ?_) AllReadyH.nil
      go_simp
      go_at_call 12
      refine (toItem_any N B F C U _).mono ?_
      rintro er wr2 ⟨rfl, hBr2⟩
      (try replace ow := ow.grow hBr2)
      (try replace ox := ox.grow hBr2)
      (try replace og := og.grow hBr2)
      replace ca := vblk_grow ca hBr2
      replace ci := vblk_grow ci hBr2
      replace cw := vblk_grow cw hBr2
      replace cx := vblk_grow cx hBr2
      replace hC := hC.trans (hBr2.mono hC.size)
      (try replace cg := vblk_grow cg hBr2)
      refine hKC.out _ _ (⟨(cells2 cx).1, (cells2 cx).2, cells5 ci⟩) (fun hHeld2 => ?_)
      clear hKC KC hHeld
      have hHeld := hHeld2
      clear hHeld2
      (try simp only [Act.put, List.setIfInBounds_toArray, List.set_cons_zero, List.set_cons_succ])
      refine wpAnyH_ready (rs := [3]) (by kernel_rfl) (by simp) ?_
      refine AllReadyH.cons (o := { dst := some 40, op := Op.call { callee := Callee.value (Operand.func 13), args := #[Operand.tmp 37, Operand.tmp 39], argTypes := #[31, 35] }, type := 32, pos := "exact.go:3522", after := #[{ on := 0, ground := Ground.data }, { on := 2, ground := Ground.data }, { on := 2, ground := Ground.chain }], guard := none }) rfl (fun KC hKC => ?_) AllReadyH.nil
      go_simp
      go_at_call 13
      refine (implStamped_any I X N B F C U _ _ ox.rd SMK.out hl hN1 hB1x).mono ?_
      rintro er wr3 ⟨vg, rfl, og, hBr3⟩
      rw [hJ.out] at og
      rw [hJ.out, hy.out]
      dsimp only at og ⊢
      obtain ⟨Ag, Ng, Kg, rfl⟩ := og.slice
      replace og := og.wide (lo' := w8.heap.size) hC.size (Nat.le_refl _)
      (try replace ow := ow.grow hBr3)
      (try replace ox := ox.grow hBr3)
      replace ca := vblk_grow ca hBr3
      replace ci := vblk_grow ci hBr3
      replace cw := vblk_grow cw hBr3
      replace cx := vblk_grow cx hBr3
      replace hC := hC.trans (hBr3.mono hC.size)
      (try replace cg := vblk_grow cg hBr3)
      refine hKC.out _ _ (⟨(cells2 cx).1, (cells2 cx).2, cells5 ci⟩) (fun hHeld2 => ?_)
      clear hKC KC hHeld
      have hHeld := hHeld2
      clear hHeld2
      (try simp only [Act.put, List.setIfInBounds_toArray, List.set_cons_zero, List.set_cons_succ])
      refine wpAnyH_take (i := 4) (oi := { dst := some 36, op := Op.move (Operand.tmp 40), type := 32, pos := "exact.go:3522", after := #[{ on := 3, ground := Ground.data }], guard := none }) (v := ?_) rfl (by kernel_rfl) (by kernel_rfl) (by kernel_rfl) (fun _ _ _ h => h) (Or.inl ⟨by rfl, ?_⟩) (by assumption) ?_
      rotate_left 1
      · intro w' hSw
        (try dsimp only at hSw)
        go_simp
        (try with_reducible rfl)
      (try simp only [Act.put, List.setIfInBounds_toArray, List.set_cons_zero, List.set_cons_succ])
      refine wpAnyH_take (i := 5) (oi := { dst := some 41, op := Op.extract (Operand.tmp 36) 0, type := 31, pos := "exact.go:3522", after := #[{ on := 4, ground := Ground.data }], guard := none }) (v := ?_) rfl (by kernel_rfl) (by kernel_rfl) (by kernel_rfl) (fun _ _ _ h => h) (Or.inl ⟨by rfl, ?_⟩) (by assumption) ?_
      rotate_left 1
      · intro w' hSw
        (try dsimp only at hSw)
        go_simp
        (try with_reducible rfl)
      (try simp only [Act.put, List.setIfInBounds_toArray, List.set_cons_zero, List.set_cons_succ])
      refine wpAnyH_take (i := 6) (oi := { dst := some 42, op := Op.extract (Operand.tmp 36) 1, type := 4, pos := "exact.go:3522", after := #[{ on := 4, ground := Ground.data }, { on := 8, ground := Ground.gcOnly Departure.lateStores }], guard := none }) (v := ?_) rfl (by kernel_rfl) (by kernel_rfl) (by kernel_rfl) (fun _ _ _ h => h) (Or.inl ⟨by rfl, ?_⟩) (by assumption) ?_
      rotate_left 1
      · intro w' hSw
        (try dsimp only at hSw)
        go_simp
        (try with_reducible rfl)
      (try simp only [Act.put, List.setIfInBounds_toArray, List.set_cons_zero, List.set_cons_succ])
      refine wpAnyH_ready (rs := [8]) (by kernel_rfl) (by simp) ?_
      refine AllReadyH.cons (o := { dst := none, op := Op.store 31 (Operand.tmp 9) (Operand.tmp 41), type := 0, pos := "exact.go:3522", after := #[{ on := 7, ground := Ground.data }, { on := 5, ground := Ground.data }, { on := 3, ground := Ground.chain }, { on := 0, ground := Ground.phase }, { on := 1, ground := Ground.phase }, { on := 2, ground := Ground.phase }, { on := 3, ground := Ground.phase }, { on := 4, ground := Ground.phase }, { on := 5, ground := Ground.phase }, { on := 6, ground := Ground.textOnly Departure.lateStores }, { on := 7, ground := Ground.phase }], guard := none }) rfl (fun KC hKC => ?_) AllReadyH.nil
      refine step_store_v rfl 31 _ _ rfl bg [.slice Ag Ng Kg, .int .i64 Y] rfl rfl sizeBk cg rfl (oneBk _ _ _ _) ?_
      intro wr8 hOr8 cgx
      (try replace ow := ow.only hOr8 cg (by decide))
      (try replace ox := ox.only hOr8 cg (by decide))
      (try replace og := og.only hOr8 cg (by decide))
      replace ca := vblk_only ca hOr8 lt_ca
      replace ci := vblk_only ci hOr8 lt_ci
      replace cw := vblk_only cw hOr8 lt_cw
      replace cx := vblk_only cx hOr8 lt_cx
      replace hC := hC.trans (hOr8.2.2 _ hlv)
      replace cg := cgx
      refine hKC.out _ _ (⟨(cells2 cx).1, (cells2 cx).2, cells5 ci⟩) (fun hHeld2 => ?_)
      clear hKC KC hHeld
      have hHeld := hHeld2
      clear hHeld2
      (try simp only [Act.put])
      refine wpAnyH_take (i := 9) (oi := { dst := some 10, op := Op.assign (Operand.tmp 42), type := 4, pos := "exact.go:3522", after := #[{ on := 6, ground := Ground.data }, { on := 8, ground := Ground.chain }, { on := 0, ground := Ground.phase }, { on := 1, ground := Ground.phase }, { on := 2, ground := Ground.phase }, { on := 3, ground := Ground.phase }, { on := 4, ground := Ground.phase }, { on := 5, ground := Ground.phase }, { on := 6, ground := Ground.phase }, { on := 7, ground := Ground.phase }, { on := 8, ground := Ground.phase }], guard := none }) (v := ?_) rfl (by kernel_rfl) (by kernel_rfl) (by kernel_rfl) (fun _ _ _ h => h) (Or.inl ⟨by rfl, ?_⟩) (by assumption) ?_
      rotate_left 1
      · intro w' hSw
        (try dsimp only at hSw)
        go_simp
        (try with_reducible rfl)
      (try simp only [Act.put, List.setIfInBounds_toArray, List.set_cons_zero, List.set_cons_succ])
      refine wpAnyH_done (by kernel_rfl) ?_ _
      go_wp2
      go_meet
      case rel => exact ⟨bg, Ag, Ng, Kg, rfl, rfl, hC, ca, ci, cw, cx, ow, ox, cg, og.top⟩
  case rest =>
  obtain ⟨bg, Ag, Ng, Kg, rfl, rfl, n_hC, n_ca, n_ci, n_cw, n_cx, n_ow, n_ox, n_cg, n_og⟩ := hcut
  rename World => w9
  clear ow
  clear ox
  clear ca
  clear ci
  clear cw
  clear cx
  clear ca0 ca1
  clear ci0 ci1 ci2 ci3 ci4
  clear cw0 cw1
  clear cx0 cx1
  have hC := n_hC
  clear n_hC
  have ca := n_ca
  clear n_ca
  have ci := n_ci
  clear n_ci
  have cw := n_cw
  clear n_cw
  have cx := n_cx
  clear n_cx
  have ow := n_ow
  clear n_ow
  have ox := n_ox
  clear n_ox
  have cg := n_cg
  clear n_cg
  have og := n_og
  clear n_og
  have hz9 : w8.heap.size ≤ w9.heap.size := hC.size
  replace hB := hB.trans (hC.mono (by omega))
  replace hzw := hB.size
  clear hC
  obtain ⟨ca0, ca1⟩ := cells2 ca
  obtain ⟨ci0, ci1, ci2, ci3, ci4⟩ := cells5 ci
  obtain ⟨cw0, cw1⟩ := cells2 cw
  obtain ⟨cx0, cx1⟩ := cells2 cx
  obtain ⟨cg0, cg1⟩ := cells2 cg
  have hlg := cg.lt
  have mk9 : Hid True := trivial
  go_upto_region 13 with (first | (clear mk9; go_at_call 14; refine (eqBook_any J Y _ _ _ og.rd ow.rd).mono ?_; rintro er w10 ⟨rfl, hB10⟩; have hz10 : w9.heap.size ≤ w10.heap.size := hB10.size; replace ow := ow.grow hB10; replace ox := ox.grow hB10; replace og := og.grow hB10; replace ca := vblk_grow ca hB10; replace ci := vblk_grow ci hB10; replace cw := vblk_grow cw hB10; replace cx := vblk_grow cx hB10; replace cg := vblk_grow cg hB10; replace hB := hB.trans (hB10.mono (by omega)); replace hzw := hB.size; clear ca0 ca1; obtain ⟨ca0, ca1⟩ := cells2 ca; clear ci0 ci1 ci2 ci3 ci4; obtain ⟨ci0, ci1, ci2, ci3, ci4⟩ := cells5 ci; clear cw0 cw1; obtain ⟨cw0, cw1⟩ := cells2 cw; clear cx0 cx1; obtain ⟨cx0, cx1⟩ := cells2 cx; clear cg0 cg1; obtain ⟨cg0, cg1⟩ := cells2 cg) | (fail))
  have hBd : Below w10.heap.size w10 w10.drew := (Below.refl _ _).drew
  have hzd : w10.drew.heap.size ≤ w10.heap.size := Nat.le_refl _
  have hzd2 : w10.heap.size ≤ w10.drew.heap.size := Nat.le_refl _
  replace ow := ow.grow hBd
  replace ox := ox.grow hBd
  replace og := og.grow hBd
  replace ca := vblk_grow ca hBd
  clear ca0 ca1
  obtain ⟨ca0, ca1⟩ := cells2 ca
  replace ci := vblk_grow ci hBd
  clear ci0 ci1 ci2 ci3 ci4
  obtain ⟨ci0, ci1, ci2, ci3, ci4⟩ := cells5 ci
  replace cw := vblk_grow cw hBd
  clear cw0 cw1
  obtain ⟨cw0, cw1⟩ := cells2 cw
  replace cx := vblk_grow cx hBd
  clear cx0 cx1
  obtain ⟨cx0, cx1⟩ := cells2 cx
  replace cg := vblk_grow cg hBd
  clear cg0 cg1
  obtain ⟨cg0, cg1⟩ := cells2 cg
  replace hB := hB.trans (hBd.mono (by omega))
  replace hzw := hB.size
  have S1 : (w10.drew.cell? ⟨bx, 0, none⟩ = some (.slice Ax Nx Kx) ∧ w10.drew.cell? ⟨bx, 1, none⟩ = some (.int .i64 X) ∧ w10.drew.cell? ⟨ba, 0, none⟩ = some (.slice a I.length cap) ∧ w10.drew.cell? ⟨ba, 1, none⟩ = some (.int .i64 X)) := ⟨cx0, cx1, ca0, ca1⟩
  have mk10 : Hid True := trivial
  have mk11 : Hid True := trivial
  go_region_held3 (fun w' => (w'.cell? ⟨bx, 0, none⟩ = some (.slice Ax Nx Kx) ∧ w'.cell? ⟨bx, 1, none⟩ = some (.int .i64 X) ∧ w'.cell? ⟨ba, 0, none⟩ = some (.slice a I.length cap) ∧ w'.cell? ⟨ba, 1, none⟩ = some (.int .i64 X))) (first | with_reducible assumption | with_reducible exact S1 | (fail)) (first | (clear mk10; go_at_call 11; refine (toBook_any I X _ (w10.drew) (R.out.grow hB) hl).mono ?_; rintro er w11 ⟨vy, rfl, oy, hB11⟩; have hz11 : w10.drew.heap.size ≤ w11.heap.size := hB11.size; replace ow := ow.grow hB11; replace ox := ox.grow hB11; replace og := og.grow hB11; replace ca := vblk_grow ca hB11; replace ci := vblk_grow ci hB11; replace cw := vblk_grow cw hB11; replace cx := vblk_grow cx hB11; replace cg := vblk_grow cg hB11; replace hB := hB.trans (hB11.mono (by omega)); replace hzw := hB.size; clear ca0 ca1; obtain ⟨ca0, ca1⟩ := cells2 ca; clear ci0 ci1 ci2 ci3 ci4; obtain ⟨ci0, ci1, ci2, ci3, ci4⟩ := cells5 ci; clear cw0 cw1; obtain ⟨cw0, cw1⟩ := cells2 cw; clear cx0 cx1; obtain ⟨cx0, cx1⟩ := cells2 cx; clear cg0 cg1; obtain ⟨cg0, cg1⟩ := cells2 cg; obtain ⟨Ay, Ny, Ky, rfl⟩ := oy.slice; have S2 : (w11.cell? ⟨bx, 0, none⟩ = some (.slice Ax Nx Kx) ∧ w11.cell? ⟨bx, 1, none⟩ = some (.int .i64 X) ∧ w11.cell? ⟨ba, 0, none⟩ = some (.slice a I.length cap) ∧ w11.cell? ⟨ba, 1, none⟩ = some (.int .i64 X)) := ⟨cx0, cx1, ca0, ca1⟩) | (clear mk11; go_at_call 14; refine (eqBook_any I X _ _ _ ox.rd oy.rd).mono ?_; rintro er w12 ⟨rfl, hB12⟩; have hz12 : w11.heap.size ≤ w12.heap.size := hB12.size; replace ow := ow.grow hB12; replace ox := ox.grow hB12; replace og := og.grow hB12; replace ca := vblk_grow ca hB12; replace ci := vblk_grow ci hB12; replace cw := vblk_grow cw hB12; replace cx := vblk_grow cx hB12; replace cg := vblk_grow cg hB12; replace hB := hB.trans (hB12.mono (by omega)); replace hzw := hB.size; clear ca0 ca1; obtain ⟨ca0, ca1⟩ := cells2 ca; clear ci0 ci1 ci2 ci3 ci4; obtain ⟨ci0, ci1, ci2, ci3, ci4⟩ := cells5 ci; clear cw0 cw1; obtain ⟨cw0, cw1⟩ := cells2 cw; clear cx0 cx1; obtain ⟨cx0, cx1⟩ := cells2 cx; clear cg0 cg1; obtain ⟨cg0, cg1⟩ := cells2 cg; have S3 : (w12.cell? ⟨bx, 0, none⟩ = some (.slice Ax Nx Kx) ∧ w12.cell? ⟨bx, 1, none⟩ = some (.int .i64 X) ∧ w12.cell? ⟨ba, 0, none⟩ = some (.slice a I.length cap) ∧ w12.cell? ⟨ba, 1, none⟩ = some (.int .i64 X)) := ⟨cx0, cx1, ca0, ca1⟩) | (fail))
  clear S1 hBd
  clear oy
  have mk12 : Hid True := trivial
  have mk13 : Hid True := trivial
  have mk14 : Hid True := trivial
  have mk15 : Hid True := trivial
  go_upto_region 27 with (first | (clear mk12; go_at_call 15; refine (markBook_any I X _ _ _ 1 (by omega) (by omega) mk hmk.out _ ox (by omega)).mono ?_; rintro er w13 ⟨rfl, -, hM13, hY13⟩; have hz13 : w12.heap.size ≤ w13.heap.size := hM13.size; replace ow := ow.within hM13 (by omega); replace og := og.within hM13 (by omega); replace ca := hY13.vblk ca (by decide); replace ci := hY13.vblk ci (by decide); replace cw := hY13.vblk cw (by decide); replace cx := hY13.vblk cx (by decide); replace cg := hY13.vblk cg (by decide); replace hB := hB.trans (hM13.below (by omega) (by omega)); replace hzw := hB.size; clear ca0 ca1; obtain ⟨ca0, ca1⟩ := cells2 ca; clear ci0 ci1 ci2 ci3 ci4; obtain ⟨ci0, ci1, ci2, ci3, ci4⟩ := cells5 ci; clear cw0 cw1; obtain ⟨cw0, cw1⟩ := cells2 cw; clear cx0 cx1; obtain ⟨cx0, cx1⟩ := cells2 cx; clear cg0 cg1; obtain ⟨cg0, cg1⟩ := cells2 cg) | (clear mk13; go_at_call 14; refine (eqBook_any J Y _ _ _ og.rd ow.rd).mono ?_; rintro er w14 ⟨rfl, hB14⟩; have hz14 : w13.heap.size ≤ w14.heap.size := hB14.size; replace ow := ow.grow hB14; replace og := og.grow hB14; replace ca := vblk_grow ca hB14; replace ci := vblk_grow ci hB14; replace cw := vblk_grow cw hB14; replace cx := vblk_grow cx hB14; replace cg := vblk_grow cg hB14; replace hB := hB.trans (hB14.mono (by omega)); replace hzw := hB.size; clear ca0 ca1; obtain ⟨ca0, ca1⟩ := cells2 ca; clear ci0 ci1 ci2 ci3 ci4; obtain ⟨ci0, ci1, ci2, ci3, ci4⟩ := cells5 ci; clear cw0 cw1; obtain ⟨cw0, cw1⟩ := cells2 cw; clear cx0 cx1; obtain ⟨cx0, cx1⟩ := cells2 cx; clear cg0 cg1; obtain ⟨cg0, cg1⟩ := cells2 cg) | (clear mk14; go_at_call 15; refine (markBook_any J Y _ _ _ 1 (by omega) (by omega) mj hmj.out _ og (by omega)).mono ?_; rintro er w15 ⟨rfl, pg, hM15, hY15⟩; have hz15 : w14.heap.size ≤ w15.heap.size := hM15.size; replace ow := ow.within hM15 (by omega); replace ca := hY15.vblk ca (by decide); replace ci := hY15.vblk ci (by decide); replace cw := hY15.vblk cw (by decide); replace cx := hY15.vblk cx (by decide); replace cg := hY15.vblk cg (by decide); replace hB := hB.trans (hM15.below (by omega) (by omega)); replace hzw := hB.size; clear ca0 ca1; obtain ⟨ca0, ca1⟩ := cells2 ca; clear ci0 ci1 ci2 ci3 ci4; obtain ⟨ci0, ci1, ci2, ci3, ci4⟩ := cells5 ci; clear cw0 cw1; obtain ⟨cw0, cw1⟩ := cells2 cw; clear cx0 cx1; obtain ⟨cx0, cx1⟩ := cells2 cx; clear cg0 cg1; obtain ⟨cg0, cg1⟩ := cells2 cg) | (clear mk15; go_at_call 16; refine (heldBook_any J.length Y _ 1 (by omega) (by omega) mj hmj.out _ pg.rd).mono ?_; rintro er w16 ⟨rfl, hB16⟩; have hz16 : w15.heap.size ≤ w16.heap.size := hB16.size; replace ow := ow.grow hB16; replace pg := pg.grow hB16; replace ca := vblk_grow ca hB16; replace ci := vblk_grow ci hB16; replace cw := vblk_grow cw hB16; replace cx := vblk_grow cx hB16; replace cg := vblk_grow cg hB16; replace hB := hB.trans (hB16.mono (by omega)); replace hzw := hB.size; clear ca0 ca1; obtain ⟨ca0, ca1⟩ := cells2 ca; clear ci0 ci1 ci2 ci3 ci4; obtain ⟨ci0, ci1, ci2, ci3, ci4⟩ := cells5 ci; clear cw0 cw1; obtain ⟨cw0, cw1⟩ := cells2 cw; clear cx0 cx1; obtain ⟨cx0, cx1⟩ := cells2 cx; clear cg0 cg1; obtain ⟨cg0, cg1⟩ := cells2 cg) | (fail))
  obtain ⟨pl, ph, pp⟩ : ∃ l h, Own encIt w16 l h (.slice Ag Ng Kg) (mksIt 1 J.length) := ⟨_, _, pg⟩
  clear pg
  have pg := pp
  clear pp
  (try simp only [Act.put])
  (try simp only [List.setIfInBounds_toArray, List.set_cons_zero, List.set_cons_succ])
  go_cut [14, 15] from 84 to 92 (fun s14 s15 wc => ∃ (bh : Nat) (Ah : Option Addr) (Nh Kh : Nat), s14 = .pointer (some ⟨bh, 0, none⟩) ∧ s15 = .bool y ∧ Below w16.heap.size w16 wc ∧ VBlk wc ba 24 [.slice a I.length cap, .int .i64 X] ∧ VBlk wc bi 26 [.string N, .int .i64 F, .string B, .int .i64 C, .int .i64 U] ∧ VBlk wc bw 31 [.slice Aw Nw Kw, .int .i64 Y] ∧ VBlk wc bx 31 [.slice Ax Nx Kx, .int .i64 X] ∧ VBlk wc bg 31 [.slice Ag Ng Kg, .int .i64 Y] ∧ Own encIt wc w4.heap.size w5.heap.size (.slice Aw Nw Kw) J ∧ Own encIt wc pl ph (.slice Ag Ng Kg) (mksIt 1 J.length) ∧ VBlk wc bh 31 [.slice Ah Nh Kh, .int .i64 Y] ∧ Own encIt wc w16.heap.size wc.heap.size (.slice Ah Nh Kh) J)
  case first =>
    have hC : Below w16.heap.size w16 w16.drew := (Below.refl _ _).drew
    replace ow := ow.grow hC
    replace pg := pg.grow hC
    replace ca := vblk_grow ca hC
    clear ca0 ca1
    replace ci := vblk_grow ci hC
    clear ci0 ci1 ci2 ci3 ci4
    replace cw := vblk_grow cw hC
    clear cw0 cw1
    replace cx := vblk_grow cx hC
    clear cx0 cx1
    replace cg := vblk_grow cg hC
    clear cg0 cg1
    refine wp_region_held_drew (S := fun w' => w'.cell? ⟨ba, 0, none⟩ = some (.slice a I.length cap) ∧ w'.cell? ⟨ba, 1, none⟩ = some (.int .i64 X) ∧ w'.cell? ⟨bi, 0, none⟩ = some (.string N) ∧ w'.cell? ⟨bi, 1, none⟩ = some (.int .i64 F) ∧ w'.cell? ⟨bi, 2, none⟩ = some (.string B) ∧ w'.cell? ⟨bi, 3, none⟩ = some (.int .i64 C) ∧ w'.cell? ⟨bi, 4, none⟩ = some (.int .i64 U)) (by kernel_rfl) (⟨(cells2 ca).1, (cells2 ca).2, cells5 ci⟩) (fun hHeld => ?_)
    refine wpAnyH_take (i := 0) (oi := { dst := some 85, op := Op.load 24 (Operand.tmp 2), type := 24, pos := "exact.go:3544", after := #[], guard := none }) (v := ?_) rfl (by kernel_rfl) (by kernel_rfl) (by kernel_rfl) (fun _ _ _ h => h) (Or.inl ⟨by rfl, ?_⟩) (by assumption) ?_
    rotate_left 1
    · intro w' hSw
      (try dsimp only at hSw)
      go_simp
      (try with_reducible rfl)
    (try simp only [Act.put, List.setIfInBounds_toArray, List.set_cons_zero, List.set_cons_succ])
    refine wpAnyH_take (i := 2) (oi := { dst := some 87, op := Op.load 26 (Operand.tmp 3), type := 26, pos := "exact.go:3544", after := #[], guard := none }) (v := ?_) rfl (by kernel_rfl) (by kernel_rfl) (by kernel_rfl) (fun _ _ _ h => h) (Or.inl ⟨by rfl, ?_⟩) (by assumption) ?_
    rotate_left 1
    · intro w' hSw
      (try dsimp only at hSw)
      go_simp
      (try with_reducible rfl)
    (try simp only [Act.put, List.setIfInBounds_toArray, List.set_cons_zero, List.set_cons_succ])
    refine wpAnyH_ready (rs := [1, 8]) (by kernel_rfl) (by simp) ?_
    refine AllReadyH.cons (o := { dst := some 86, op := Op.call { callee := Callee.value (Operand.func 11), args := #[Operand.tmp 85], argTypes := #[24] }, type := 31, pos := "exact.go:3544", after := #[{ on := 0, ground := Ground.data }], guard := none }) rfl (fun KC hKC => ?_) (AllReadyH.cons (o := { dst := some 14, op := Op.alloc 31, type := 0, pos := "exact.go:3544", after := #[], guard := none }) rfl (fun KC hKC => ?_) AllReadyH.nil)
    · go_simp
      go_at_call 11
      refine (toBook_any I X _ _ (R.out.grow (hB.trans (hC.mono (by omega)))) hl).mono ?_
      rintro er wr1 ⟨vt, rfl, ot, hBr1⟩
      obtain ⟨At, Nt, Kt, rfl⟩ := ot.slice
      (try replace ow := ow.grow hBr1)
      (try replace pg := pg.grow hBr1)
      (try replace oh := oh.grow hBr1)
      replace ca := vblk_grow ca hBr1
      replace ci := vblk_grow ci hBr1
      replace cw := vblk_grow cw hBr1
      replace cx := vblk_grow cx hBr1
      replace cg := vblk_grow cg hBr1
      replace hC := hC.trans (hBr1.mono hC.size)
      (try replace ch := vblk_grow ch hBr1)
      refine hKC.out _ _ (⟨(cells2 ca).1, (cells2 ca).2, cells5 ci⟩) (fun hHeld2 => ?_)
      clear hKC KC hHeld
      have hHeld := hHeld2
      clear hHeld2
      (try simp only [Act.put, List.setIfInBounds_toArray, List.set_cons_zero, List.set_cons_succ])
      refine wpAnyH_ready (rs := [3, 8]) (by kernel_rfl) (by simp) ?_
      refine AllReadyH.cons (o := { dst := some 88, op := Op.call { callee := Callee.value (Operand.func 12), args := #[Operand.tmp 87], argTypes := #[26] }, type := 35, pos := "exact.go:3544", after := #[{ on := 2, ground := Ground.data }, { on := 1, ground := Ground.chain }], guard := none }) rfl (fun KC hKC => ?_) (AllReadyH.cons (o := { dst := some 14, op := Op.alloc 31, type := 0, pos := "exact.go:3544", after := #[], guard := none }) rfl (fun KC hKC => ?_) AllReadyH.nil)
      · go_simp
        go_at_call 12
        refine (toItem_any N B F C U _).mono ?_
        rintro er wr3 ⟨rfl, hBr3⟩
        (try replace ow := ow.grow hBr3)
        (try replace pg := pg.grow hBr3)
        (try replace ot := ot.grow hBr3)
        (try replace oh := oh.grow hBr3)
        replace ca := vblk_grow ca hBr3
        replace ci := vblk_grow ci hBr3
        replace cw := vblk_grow cw hBr3
        replace cx := vblk_grow cx hBr3
        replace cg := vblk_grow cg hBr3
        replace hC := hC.trans (hBr3.mono hC.size)
        (try replace ch := vblk_grow ch hBr3)
        refine hKC.out _ _ (⟨(cells2 ca).1, (cells2 ca).2, cells5 ci⟩) (fun hHeld2 => ?_)
        clear hKC KC hHeld
        have hHeld := hHeld2
        clear hHeld2
        (try simp only [Act.put, List.setIfInBounds_toArray, List.set_cons_zero, List.set_cons_succ])
        refine wpAnyH_ready (rs := [4, 8]) (by kernel_rfl) (by simp) ?_
        refine AllReadyH.cons (o := { dst := some 89, op := Op.call { callee := Callee.value (Operand.func 13), args := #[Operand.tmp 86, Operand.tmp 88], argTypes := #[31, 35] }, type := 32, pos := "exact.go:3544", after := #[{ on := 1, ground := Ground.data }, { on := 3, ground := Ground.data }, { on := 3, ground := Ground.chain }], guard := none }) rfl (fun KC hKC => ?_) (AllReadyH.cons (o := { dst := some 14, op := Op.alloc 31, type := 0, pos := "exact.go:3544", after := #[], guard := none }) rfl (fun KC hKC => ?_) AllReadyH.nil)
        · go_simp
          go_at_call 13
          refine (implStamped_any I X N B F C U _ _ ot.rd SMK.out hl hN1 hB1x).mono ?_
          rintro er wr4 ⟨vh, rfl, oh, hBr4⟩
          rw [hJ.out] at oh
          rw [hJ.out, hy.out]
          dsimp only at oh ⊢
          obtain ⟨Ah, Nh, Kh, rfl⟩ := oh.slice
          replace oh := oh.wide (lo' := w16.heap.size) hC.size (Nat.le_refl _)
          (try replace ow := ow.grow hBr4)
          (try replace pg := pg.grow hBr4)
          (try replace ot := ot.grow hBr4)
          replace ca := vblk_grow ca hBr4
          replace ci := vblk_grow ci hBr4
          replace cw := vblk_grow cw hBr4
          replace cx := vblk_grow cx hBr4
          replace cg := vblk_grow cg hBr4
          replace hC := hC.trans (hBr4.mono hC.size)
          (try replace ch := vblk_grow ch hBr4)
          refine hKC.out _ _ (⟨(cells2 ca).1, (cells2 ca).2, cells5 ci⟩) (fun hHeld2 => ?_)
          clear hKC KC hHeld
          have hHeld := hHeld2
          clear hHeld2
          (try simp only [Act.put, List.setIfInBounds_toArray, List.set_cons_zero, List.set_cons_succ])
          refine wpAnyH_take (i := 5) (oi := { dst := some 84, op := Op.move (Operand.tmp 89), type := 32, pos := "exact.go:3544", after := #[{ on := 4, ground := Ground.data }], guard := none }) (v := ?_) rfl (by kernel_rfl) (by kernel_rfl) (by kernel_rfl) (fun _ _ _ h => h) (Or.inl ⟨by rfl, ?_⟩) (by assumption) ?_
          rotate_left 1
          · intro w' hSw
            (try dsimp only at hSw)
            go_simp
            (try with_reducible rfl)
          (try simp only [Act.put, List.setIfInBounds_toArray, List.set_cons_zero, List.set_cons_succ])
          refine wpAnyH_take (i := 6) (oi := { dst := some 90, op := Op.extract (Operand.tmp 84) 0, type := 31, pos := "exact.go:3544", after := #[{ on := 5, ground := Ground.data }], guard := none }) (v := ?_) rfl (by kernel_rfl) (by kernel_rfl) (by kernel_rfl) (fun _ _ _ h => h) (Or.inl ⟨by rfl, ?_⟩) (by assumption) ?_
          rotate_left 1
          · intro w' hSw
            (try dsimp only at hSw)
            go_simp
            (try with_reducible rfl)
          (try simp only [Act.put, List.setIfInBounds_toArray, List.set_cons_zero, List.set_cons_succ])
          refine wpAnyH_take (i := 7) (oi := { dst := some 91, op := Op.extract (Operand.tmp 84) 1, type := 4, pos := "exact.go:3544", after := #[{ on := 5, ground := Ground.data }, { on := 9, ground := Ground.gcOnly Departure.lateStores }], guard := none }) (v := ?_) rfl (by kernel_rfl) (by kernel_rfl) (by kernel_rfl) (fun _ _ _ h => h) (Or.inl ⟨by rfl, ?_⟩) (by assumption) ?_
          rotate_left 1
          · intro w' hSw
            (try dsimp only at hSw)
            go_simp
            (try with_reducible rfl)
          (try simp only [Act.put, List.setIfInBounds_toArray, List.set_cons_zero, List.set_cons_succ])
          refine wpAnyH_ready (rs := [8]) (by kernel_rfl) (by simp) ?_
          refine AllReadyH.cons (o := { dst := some 14, op := Op.alloc 31, type := 0, pos := "exact.go:3544", after := #[], guard := none }) rfl (fun KC hKC => ?_) AllReadyH.nil
          refine step_alloc_v rfl 31 rfl _ zeroBk ?_
          intro bh wr8 hbh hwbh hBr8 ch
          have hlv : w16.heap.size ≤ bh := Nat.le_trans hC.size hbh
          have lt_ca := Nat.ne_of_lt (Nat.lt_of_lt_of_le ca.lt hbh)
          have lt_ci := Nat.ne_of_lt (Nat.lt_of_lt_of_le ci.lt hbh)
          have lt_cw := Nat.ne_of_lt (Nat.lt_of_lt_of_le cw.lt hbh)
          have lt_cx := Nat.ne_of_lt (Nat.lt_of_lt_of_le cx.lt hbh)
          have lt_cg := Nat.ne_of_lt (Nat.lt_of_lt_of_le cg.lt hbh)
          (try replace ow := ow.grow hBr8)
          (try replace pg := pg.grow hBr8)
          (try replace ot := ot.grow hBr8)
          (try replace oh := oh.grow hBr8)
          replace ca := vblk_grow ca hBr8
          replace ci := vblk_grow ci hBr8
          replace cw := vblk_grow cw hBr8
          replace cx := vblk_grow cx hBr8
          replace cg := vblk_grow cg hBr8
          replace hC := hC.trans (hBr8.mono hC.size)
          refine hKC.out _ _ (⟨(cells2 ca).1, (cells2 ca).2, cells5 ci⟩) (fun hHeld2 => ?_)
          clear hKC KC hHeld
          have hHeld := hHeld2
          clear hHeld2
          (try simp only [Act.put, List.setIfInBounds_toArray, List.set_cons_zero, List.set_cons_succ])
          refine wpAnyH_ready (rs := [9]) (by kernel_rfl) (by simp) ?_
          refine AllReadyH.cons (o := { dst := none, op := Op.store 31 (Operand.tmp 14) (Operand.tmp 90), type := 0, pos := "exact.go:3544", after := #[{ on := 8, ground := Ground.data }, { on := 6, ground := Ground.data }, { on := 4, ground := Ground.chain }, { on := 0, ground := Ground.phase }, { on := 1, ground := Ground.phase }, { on := 2, ground := Ground.phase }, { on := 3, ground := Ground.phase }, { on := 4, ground := Ground.phase }, { on := 5, ground := Ground.phase }, { on := 6, ground := Ground.phase }, { on := 7, ground := Ground.textOnly Departure.lateStores }, { on := 8, ground := Ground.phase }], guard := none }) rfl (fun KC hKC => ?_) AllReadyH.nil
          refine step_store_v rfl 31 _ _ rfl bh [.slice Ah Nh Kh, .int .i64 Y] rfl rfl sizeBk ch rfl (oneBk _ _ _ _) ?_
          intro wr9 hOr9 chx
          (try replace ow := ow.only hOr9 ch (by decide))
          (try replace pg := pg.only hOr9 ch (by decide))
          (try replace ot := ot.only hOr9 ch (by decide))
          (try replace oh := oh.only hOr9 ch (by decide))
          replace ca := vblk_only ca hOr9 lt_ca
          replace ci := vblk_only ci hOr9 lt_ci
          replace cw := vblk_only cw hOr9 lt_cw
          replace cx := vblk_only cx hOr9 lt_cx
          replace cg := vblk_only cg hOr9 lt_cg
          replace hC := hC.trans (hOr9.2.2 _ hlv)
          replace ch := chx
          refine hKC.out _ _ (⟨(cells2 ca).1, (cells2 ca).2, cells5 ci⟩) (fun hHeld2 => ?_)
          clear hKC KC hHeld
          have hHeld := hHeld2
          clear hHeld2
          (try simp only [Act.put])
          refine wpAnyH_take (i := 10) (oi := { dst := some 15, op := Op.assign (Operand.tmp 91), type := 4, pos := "exact.go:3544", after := #[{ on := 7, ground := Ground.data }, { on := 9, ground := Ground.chain }, { on := 0, ground := Ground.phase }, { on := 1, ground := Ground.phase }, { on := 2, ground := Ground.phase }, { on := 3, ground := Ground.phase }, { on := 4, ground := Ground.phase }, { on := 5, ground := Ground.phase }, { on := 6, ground := Ground.phase }, { on := 7, ground := Ground.phase }, { on := 8, ground := Ground.phase }, { on := 9, ground := Ground.phase }], guard := none }) (v := ?_) rfl (by kernel_rfl) (by kernel_rfl) (by kernel_rfl) (fun _ _ _ h => h) (Or.inl ⟨by rfl, ?_⟩) (by assumption) ?_
          rotate_left 1
          · intro w' hSw
            (try dsimp only at hSw)
            go_simp
            (try with_reducible rfl)
          (try simp only [Act.put, List.setIfInBounds_toArray, List.set_cons_zero, List.set_cons_succ])
          refine wpAnyH_done (by kernel_rfl) ?_ _
          go_wp2
          go_meet
          case rel => exact ⟨bh, Ah, Nh, Kh, rfl, rfl, hC, ca, ci, cw, cx, cg, ow, pg, ch, oh.top⟩
        · refine step_alloc_v rfl 31 rfl _ zeroBk ?_
          intro bh wr8 hbh hwbh hBr8 ch
          have hlv : w16.heap.size ≤ bh := Nat.le_trans hC.size hbh
          have lt_ca := Nat.ne_of_lt (Nat.lt_of_lt_of_le ca.lt hbh)
          have lt_ci := Nat.ne_of_lt (Nat.lt_of_lt_of_le ci.lt hbh)
          have lt_cw := Nat.ne_of_lt (Nat.lt_of_lt_of_le cw.lt hbh)
          have lt_cx := Nat.ne_of_lt (Nat.lt_of_lt_of_le cx.lt hbh)
          have lt_cg := Nat.ne_of_lt (Nat.lt_of_lt_of_le cg.lt hbh)
          (try replace ow := ow.grow hBr8)
          (try replace pg := pg.grow hBr8)
          (try replace ot := ot.grow hBr8)
          (try replace oh := oh.grow hBr8)
          replace ca := vblk_grow ca hBr8
          replace ci := vblk_grow ci hBr8
          replace cw := vblk_grow cw hBr8
          replace cx := vblk_grow cx hBr8
          replace cg := vblk_grow cg hBr8
          replace hC := hC.trans (hBr8.mono hC.size)
          refine hKC.out _ _ (⟨(cells2 ca).1, (cells2 ca).2, cells5 ci⟩) (fun hHeld2 => ?_)
          clear hKC KC hHeld
          have hHeld := hHeld2
          clear hHeld2
          (try simp only [Act.put, List.setIfInBounds_toArray, List.set_cons_zero, List.set_cons_succ])
          refine wpAnyH_ready (rs := [4]) (by kernel_rfl) (by simp) ?_
          refine AllReadyH.cons (o := { dst := some 89, op := Op.call { callee := Callee.value (Operand.func 13), args := #[Operand.tmp 86, Operand.tmp 88], argTypes := #[31, 35] }, type := 32, pos := "exact.go:3544", after := #[{ on := 1, ground := Ground.data }, { on := 3, ground := Ground.data }, { on := 3, ground := Ground.chain }], guard := none }) rfl (fun KC hKC => ?_) AllReadyH.nil
          go_simp
          go_at_call 13
          refine (implStamped_any I X N B F C U _ _ ot.rd SMK.out hl hN1 hB1x).mono ?_
          rintro er wr4 ⟨vh, rfl, oh, hBr4⟩
          rw [hJ.out] at oh
          rw [hJ.out, hy.out]
          dsimp only at oh ⊢
          obtain ⟨Ah, Nh, Kh, rfl⟩ := oh.slice
          replace oh := oh.wide (lo' := w16.heap.size) hC.size (Nat.le_refl _)
          (try replace ow := ow.grow hBr4)
          (try replace pg := pg.grow hBr4)
          (try replace ot := ot.grow hBr4)
          replace ca := vblk_grow ca hBr4
          replace ci := vblk_grow ci hBr4
          replace cw := vblk_grow cw hBr4
          replace cx := vblk_grow cx hBr4
          replace cg := vblk_grow cg hBr4
          replace hC := hC.trans (hBr4.mono hC.size)
          (try replace ch := vblk_grow ch hBr4)
          refine hKC.out _ _ (⟨(cells2 ca).1, (cells2 ca).2, cells5 ci⟩) (fun hHeld2 => ?_)
          clear hKC KC hHeld
          have hHeld := hHeld2
          clear hHeld2
          (try simp only [Act.put, List.setIfInBounds_toArray, List.set_cons_zero, List.set_cons_succ])
          refine wpAnyH_take (i := 5) (oi := { dst := some 84, op := Op.move (Operand.tmp 89), type := 32, pos := "exact.go:3544", after := #[{ on := 4, ground := Ground.data }], guard := none }) (v := ?_) rfl (by kernel_rfl) (by kernel_rfl) (by kernel_rfl) (fun _ _ _ h => h) (Or.inl ⟨by rfl, ?_⟩) (by assumption) ?_
          rotate_left 1
          · intro w' hSw
            (try dsimp only at hSw)
            go_simp
            (try with_reducible rfl)
          (try simp only [Act.put, List.setIfInBounds_toArray, List.set_cons_zero, List.set_cons_succ])
          refine wpAnyH_take (i := 6) (oi := { dst := some 90, op := Op.extract (Operand.tmp 84) 0, type := 31, pos := "exact.go:3544", after := #[{ on := 5, ground := Ground.data }], guard := none }) (v := ?_) rfl (by kernel_rfl) (by kernel_rfl) (by kernel_rfl) (fun _ _ _ h => h) (Or.inl ⟨by rfl, ?_⟩) (by assumption) ?_
          rotate_left 1
          · intro w' hSw
            (try dsimp only at hSw)
            go_simp
            (try with_reducible rfl)
          (try simp only [Act.put, List.setIfInBounds_toArray, List.set_cons_zero, List.set_cons_succ])
          refine wpAnyH_take (i := 7) (oi := { dst := some 91, op := Op.extract (Operand.tmp 84) 1, type := 4, pos := "exact.go:3544", after := #[{ on := 5, ground := Ground.data }, { on := 9, ground := Ground.gcOnly Departure.lateStores }], guard := none }) (v := ?_) rfl (by kernel_rfl) (by kernel_rfl) (by kernel_rfl) (fun _ _ _ h => h) (Or.inl ⟨by rfl, ?_⟩) (by assumption) ?_
          rotate_left 1
          · intro w' hSw
            (try dsimp only at hSw)
            go_simp
            (try with_reducible rfl)
          (try simp only [Act.put, List.setIfInBounds_toArray, List.set_cons_zero, List.set_cons_succ])
          refine wpAnyH_ready (rs := [9]) (by kernel_rfl) (by simp) ?_
          refine AllReadyH.cons (o := { dst := none, op := Op.store 31 (Operand.tmp 14) (Operand.tmp 90), type := 0, pos := "exact.go:3544", after := #[{ on := 8, ground := Ground.data }, { on := 6, ground := Ground.data }, { on := 4, ground := Ground.chain }, { on := 0, ground := Ground.phase }, { on := 1, ground := Ground.phase }, { on := 2, ground := Ground.phase }, { on := 3, ground := Ground.phase }, { on := 4, ground := Ground.phase }, { on := 5, ground := Ground.phase }, { on := 6, ground := Ground.phase }, { on := 7, ground := Ground.textOnly Departure.lateStores }, { on := 8, ground := Ground.phase }], guard := none }) rfl (fun KC hKC => ?_) AllReadyH.nil
          refine step_store_v rfl 31 _ _ rfl bh [.slice Ah Nh Kh, .int .i64 Y] rfl rfl sizeBk ch rfl (oneBk _ _ _ _) ?_
          intro wr9 hOr9 chx
          (try replace ow := ow.only hOr9 ch (by decide))
          (try replace pg := pg.only hOr9 ch (by decide))
          (try replace ot := ot.only hOr9 ch (by decide))
          (try replace oh := oh.only hOr9 ch (by decide))
          replace ca := vblk_only ca hOr9 lt_ca
          replace ci := vblk_only ci hOr9 lt_ci
          replace cw := vblk_only cw hOr9 lt_cw
          replace cx := vblk_only cx hOr9 lt_cx
          replace cg := vblk_only cg hOr9 lt_cg
          replace hC := hC.trans (hOr9.2.2 _ hlv)
          replace ch := chx
          refine hKC.out _ _ (⟨(cells2 ca).1, (cells2 ca).2, cells5 ci⟩) (fun hHeld2 => ?_)
          clear hKC KC hHeld
          have hHeld := hHeld2
          clear hHeld2
          (try simp only [Act.put])
          refine wpAnyH_take (i := 10) (oi := { dst := some 15, op := Op.assign (Operand.tmp 91), type := 4, pos := "exact.go:3544", after := #[{ on := 7, ground := Ground.data }, { on := 9, ground := Ground.chain }, { on := 0, ground := Ground.phase }, { on := 1, ground := Ground.phase }, { on := 2, ground := Ground.phase }, { on := 3, ground := Ground.phase }, { on := 4, ground := Ground.phase }, { on := 5, ground := Ground.phase }, { on := 6, ground := Ground.phase }, { on := 7, ground := Ground.phase }, { on := 8, ground := Ground.phase }, { on := 9, ground := Ground.phase }], guard := none }) (v := ?_) rfl (by kernel_rfl) (by kernel_rfl) (by kernel_rfl) (fun _ _ _ h => h) (Or.inl ⟨by rfl, ?_⟩) (by assumption) ?_
          rotate_left 1
          · intro w' hSw
            (try dsimp only at hSw)
            go_simp
            (try with_reducible rfl)
          (try simp only [Act.put, List.setIfInBounds_toArray, List.set_cons_zero, List.set_cons_succ])
          refine wpAnyH_done (by kernel_rfl) ?_ _
          go_wp2
          go_meet
          case rel => exact ⟨bh, Ah, Nh, Kh, rfl, rfl, hC, ca, ci, cw, cx, cg, ow, pg, ch, oh.top⟩
      · refine step_alloc_v rfl 31 rfl _ zeroBk ?_
        intro bh wr8 hbh hwbh hBr8 ch
        have hlv : w16.heap.size ≤ bh := Nat.le_trans hC.size hbh
        have lt_ca := Nat.ne_of_lt (Nat.lt_of_lt_of_le ca.lt hbh)
        have lt_ci := Nat.ne_of_lt (Nat.lt_of_lt_of_le ci.lt hbh)
        have lt_cw := Nat.ne_of_lt (Nat.lt_of_lt_of_le cw.lt hbh)
        have lt_cx := Nat.ne_of_lt (Nat.lt_of_lt_of_le cx.lt hbh)
        have lt_cg := Nat.ne_of_lt (Nat.lt_of_lt_of_le cg.lt hbh)
        (try replace ow := ow.grow hBr8)
        (try replace pg := pg.grow hBr8)
        (try replace ot := ot.grow hBr8)
        (try replace oh := oh.grow hBr8)
        replace ca := vblk_grow ca hBr8
        replace ci := vblk_grow ci hBr8
        replace cw := vblk_grow cw hBr8
        replace cx := vblk_grow cx hBr8
        replace cg := vblk_grow cg hBr8
        replace hC := hC.trans (hBr8.mono hC.size)
        refine hKC.out _ _ (⟨(cells2 ca).1, (cells2 ca).2, cells5 ci⟩) (fun hHeld2 => ?_)
        clear hKC KC hHeld
        have hHeld := hHeld2
        clear hHeld2
        (try simp only [Act.put, List.setIfInBounds_toArray, List.set_cons_zero, List.set_cons_succ])
        refine wpAnyH_ready (rs := [3]) (by kernel_rfl) (by simp) ?_
        refine AllReadyH.cons (o := { dst := some 88, op := Op.call { callee := Callee.value (Operand.func 12), args := #[Operand.tmp 87], argTypes := #[26] }, type := 35, pos := "exact.go:3544", after := #[{ on := 2, ground := Ground.data }, { on := 1, ground := Ground.chain }], guard := none }) rfl (fun KC hKC => ?_) AllReadyH.nil
        go_simp
        go_at_call 12
        refine (toItem_any N B F C U _).mono ?_
        rintro er wr3 ⟨rfl, hBr3⟩
        (try replace ow := ow.grow hBr3)
        (try replace pg := pg.grow hBr3)
        (try replace ot := ot.grow hBr3)
        (try replace oh := oh.grow hBr3)
        replace ca := vblk_grow ca hBr3
        replace ci := vblk_grow ci hBr3
        replace cw := vblk_grow cw hBr3
        replace cx := vblk_grow cx hBr3
        replace cg := vblk_grow cg hBr3
        replace hC := hC.trans (hBr3.mono hC.size)
        (try replace ch := vblk_grow ch hBr3)
        refine hKC.out _ _ (⟨(cells2 ca).1, (cells2 ca).2, cells5 ci⟩) (fun hHeld2 => ?_)
        clear hKC KC hHeld
        have hHeld := hHeld2
        clear hHeld2
        (try simp only [Act.put, List.setIfInBounds_toArray, List.set_cons_zero, List.set_cons_succ])
        refine wpAnyH_ready (rs := [4]) (by kernel_rfl) (by simp) ?_
        refine AllReadyH.cons (o := { dst := some 89, op := Op.call { callee := Callee.value (Operand.func 13), args := #[Operand.tmp 86, Operand.tmp 88], argTypes := #[31, 35] }, type := 32, pos := "exact.go:3544", after := #[{ on := 1, ground := Ground.data }, { on := 3, ground := Ground.data }, { on := 3, ground := Ground.chain }], guard := none }) rfl (fun KC hKC => ?_) AllReadyH.nil
        go_simp
        go_at_call 13
        refine (implStamped_any I X N B F C U _ _ ot.rd SMK.out hl hN1 hB1x).mono ?_
        rintro er wr4 ⟨vh, rfl, oh, hBr4⟩
        rw [hJ.out] at oh
        rw [hJ.out, hy.out]
        dsimp only at oh ⊢
        obtain ⟨Ah, Nh, Kh, rfl⟩ := oh.slice
        replace oh := oh.wide (lo' := w16.heap.size) hC.size (Nat.le_refl _)
        (try replace ow := ow.grow hBr4)
        (try replace pg := pg.grow hBr4)
        (try replace ot := ot.grow hBr4)
        replace ca := vblk_grow ca hBr4
        replace ci := vblk_grow ci hBr4
        replace cw := vblk_grow cw hBr4
        replace cx := vblk_grow cx hBr4
        replace cg := vblk_grow cg hBr4
        replace hC := hC.trans (hBr4.mono hC.size)
        (try replace ch := vblk_grow ch hBr4)
        refine hKC.out _ _ (⟨(cells2 ca).1, (cells2 ca).2, cells5 ci⟩) (fun hHeld2 => ?_)
        clear hKC KC hHeld
        have hHeld := hHeld2
        clear hHeld2
        (try simp only [Act.put, List.setIfInBounds_toArray, List.set_cons_zero, List.set_cons_succ])
        refine wpAnyH_take (i := 5) (oi := { dst := some 84, op := Op.move (Operand.tmp 89), type := 32, pos := "exact.go:3544", after := #[{ on := 4, ground := Ground.data }], guard := none }) (v := ?_) rfl (by kernel_rfl) (by kernel_rfl) (by kernel_rfl) (fun _ _ _ h => h) (Or.inl ⟨by rfl, ?_⟩) (by assumption) ?_
        rotate_left 1
        · intro w' hSw
          (try dsimp only at hSw)
          go_simp
          (try with_reducible rfl)
        (try simp only [Act.put, List.setIfInBounds_toArray, List.set_cons_zero, List.set_cons_succ])
        refine wpAnyH_take (i := 6) (oi := { dst := some 90, op := Op.extract (Operand.tmp 84) 0, type := 31, pos := "exact.go:3544", after := #[{ on := 5, ground := Ground.data }], guard := none }) (v := ?_) rfl (by kernel_rfl) (by kernel_rfl) (by kernel_rfl) (fun _ _ _ h => h) (Or.inl ⟨by rfl, ?_⟩) (by assumption) ?_
        rotate_left 1
        · intro w' hSw
          (try dsimp only at hSw)
          go_simp
          (try with_reducible rfl)
        (try simp only [Act.put, List.setIfInBounds_toArray, List.set_cons_zero, List.set_cons_succ])
        refine wpAnyH_take (i := 7) (oi := { dst := some 91, op := Op.extract (Operand.tmp 84) 1, type := 4, pos := "exact.go:3544", after := #[{ on := 5, ground := Ground.data }, { on := 9, ground := Ground.gcOnly Departure.lateStores }], guard := none }) (v := ?_) rfl (by kernel_rfl) (by kernel_rfl) (by kernel_rfl) (fun _ _ _ h => h) (Or.inl ⟨by rfl, ?_⟩) (by assumption) ?_
        rotate_left 1
        · intro w' hSw
          (try dsimp only at hSw)
          go_simp
          (try with_reducible rfl)
        (try simp only [Act.put, List.setIfInBounds_toArray, List.set_cons_zero, List.set_cons_succ])
        refine wpAnyH_ready (rs := [9]) (by kernel_rfl) (by simp) ?_
        refine AllReadyH.cons (o := { dst := none, op := Op.store 31 (Operand.tmp 14) (Operand.tmp 90), type := 0, pos := "exact.go:3544", after := #[{ on := 8, ground := Ground.data }, { on := 6, ground := Ground.data }, { on := 4, ground := Ground.chain }, { on := 0, ground := Ground.phase }, { on := 1, ground := Ground.phase }, { on := 2, ground := Ground.phase }, { on := 3, ground := Ground.phase }, { on := 4, ground := Ground.phase }, { on := 5, ground := Ground.phase }, { on := 6, ground := Ground.phase }, { on := 7, ground := Ground.textOnly Departure.lateStores }, { on := 8, ground := Ground.phase }], guard := none }) rfl (fun KC hKC => ?_) AllReadyH.nil
        refine step_store_v rfl 31 _ _ rfl bh [.slice Ah Nh Kh, .int .i64 Y] rfl rfl sizeBk ch rfl (oneBk _ _ _ _) ?_
        intro wr9 hOr9 chx
        (try replace ow := ow.only hOr9 ch (by decide))
        (try replace pg := pg.only hOr9 ch (by decide))
        (try replace ot := ot.only hOr9 ch (by decide))
        (try replace oh := oh.only hOr9 ch (by decide))
        replace ca := vblk_only ca hOr9 lt_ca
        replace ci := vblk_only ci hOr9 lt_ci
        replace cw := vblk_only cw hOr9 lt_cw
        replace cx := vblk_only cx hOr9 lt_cx
        replace cg := vblk_only cg hOr9 lt_cg
        replace hC := hC.trans (hOr9.2.2 _ hlv)
        replace ch := chx
        refine hKC.out _ _ (⟨(cells2 ca).1, (cells2 ca).2, cells5 ci⟩) (fun hHeld2 => ?_)
        clear hKC KC hHeld
        have hHeld := hHeld2
        clear hHeld2
        (try simp only [Act.put])
        refine wpAnyH_take (i := 10) (oi := { dst := some 15, op := Op.assign (Operand.tmp 91), type := 4, pos := "exact.go:3544", after := #[{ on := 7, ground := Ground.data }, { on := 9, ground := Ground.chain }, { on := 0, ground := Ground.phase }, { on := 1, ground := Ground.phase }, { on := 2, ground := Ground.phase }, { on := 3, ground := Ground.phase }, { on := 4, ground := Ground.phase }, { on := 5, ground := Ground.phase }, { on := 6, ground := Ground.phase }, { on := 7, ground := Ground.phase }, { on := 8, ground := Ground.phase }, { on := 9, ground := Ground.phase }], guard := none }) (v := ?_) rfl (by kernel_rfl) (by kernel_rfl) (by kernel_rfl) (fun _ _ _ h => h) (Or.inl ⟨by rfl, ?_⟩) (by assumption) ?_
        rotate_left 1
        · intro w' hSw
          (try dsimp only at hSw)
          go_simp
          (try with_reducible rfl)
        (try simp only [Act.put, List.setIfInBounds_toArray, List.set_cons_zero, List.set_cons_succ])
        refine wpAnyH_done (by kernel_rfl) ?_ _
        go_wp2
        go_meet
        case rel => exact ⟨bh, Ah, Nh, Kh, rfl, rfl, hC, ca, ci, cw, cx, cg, ow, pg, ch, oh.top⟩
    · refine step_alloc_v rfl 31 rfl _ zeroBk ?_
      intro bh wr8 hbh hwbh hBr8 ch
      have hlv : w16.heap.size ≤ bh := Nat.le_trans hC.size hbh
      have lt_ca := Nat.ne_of_lt (Nat.lt_of_lt_of_le ca.lt hbh)
      have lt_ci := Nat.ne_of_lt (Nat.lt_of_lt_of_le ci.lt hbh)
      have lt_cw := Nat.ne_of_lt (Nat.lt_of_lt_of_le cw.lt hbh)
      have lt_cx := Nat.ne_of_lt (Nat.lt_of_lt_of_le cx.lt hbh)
      have lt_cg := Nat.ne_of_lt (Nat.lt_of_lt_of_le cg.lt hbh)
      (try replace ow := ow.grow hBr8)
      (try replace pg := pg.grow hBr8)
      (try replace ot := ot.grow hBr8)
      (try replace oh := oh.grow hBr8)
      replace ca := vblk_grow ca hBr8
      replace ci := vblk_grow ci hBr8
      replace cw := vblk_grow cw hBr8
      replace cx := vblk_grow cx hBr8
      replace cg := vblk_grow cg hBr8
      replace hC := hC.trans (hBr8.mono hC.size)
      refine hKC.out _ _ (⟨(cells2 ca).1, (cells2 ca).2, cells5 ci⟩) (fun hHeld2 => ?_)
      clear hKC KC hHeld
      have hHeld := hHeld2
      clear hHeld2
      (try simp only [Act.put, List.setIfInBounds_toArray, List.set_cons_zero, List.set_cons_succ])
      refine wpAnyH_ready (rs := [1]) (by kernel_rfl) (by simp) ?_
      refine AllReadyH.cons (o := { dst := some 86, op := Op.call { callee := Callee.value (Operand.func 11), args := #[Operand.tmp 85], argTypes := #[24] }, type := 31, pos := "exact.go:3544", after := #[{ on := 0, ground := Ground.data }], guard := none }) rfl (fun KC hKC => ?_) AllReadyH.nil
      go_simp
      go_at_call 11
      refine (toBook_any I X _ _ (R.out.grow (hB.trans (hC.mono (by omega)))) hl).mono ?_
      rintro er wr1 ⟨vt, rfl, ot, hBr1⟩
      obtain ⟨At, Nt, Kt, rfl⟩ := ot.slice
      (try replace ow := ow.grow hBr1)
      (try replace pg := pg.grow hBr1)
      (try replace oh := oh.grow hBr1)
      replace ca := vblk_grow ca hBr1
      replace ci := vblk_grow ci hBr1
      replace cw := vblk_grow cw hBr1
      replace cx := vblk_grow cx hBr1
      replace cg := vblk_grow cg hBr1
      replace hC := hC.trans (hBr1.mono hC.size)
      (try replace ch := vblk_grow ch hBr1)
      refine hKC.out _ _ (⟨(cells2 ca).1, (cells2 ca).2, cells5 ci⟩) (fun hHeld2 => ?_)
      clear hKC KC hHeld
      have hHeld := hHeld2
      clear hHeld2
      (try simp only [Act.put, List.setIfInBounds_toArray, List.set_cons_zero, List.set_cons_succ])
      refine wpAnyH_ready (rs := [3]) (by kernel_rfl) (by simp) ?_
      refine AllReadyH.cons (o := { dst := some 88, op := Op.call { callee := Callee.value (Operand.func 12), args := #[Operand.tmp 87], argTypes := #[26] }, type := 35, pos := "exact.go:3544", after := #[{ on := 2, ground := Ground.data }, { on := 1, ground := Ground.chain }], guard := none }) rfl (fun KC hKC => ?_) AllReadyH.nil
      go_simp
      go_at_call 12
      refine (toItem_any N B F C U _).mono ?_
      rintro er wr3 ⟨rfl, hBr3⟩
      (try replace ow := ow.grow hBr3)
      (try replace pg := pg.grow hBr3)
      (try replace ot := ot.grow hBr3)
      (try replace oh := oh.grow hBr3)
      replace ca := vblk_grow ca hBr3
      replace ci := vblk_grow ci hBr3
      replace cw := vblk_grow cw hBr3
      replace cx := vblk_grow cx hBr3
      replace cg := vblk_grow cg hBr3
      replace hC := hC.trans (hBr3.mono hC.size)
      (try replace ch := vblk_grow ch hBr3)
      refine hKC.out _ _ (⟨(cells2 ca).1, (cells2 ca).2, cells5 ci⟩) (fun hHeld2 => ?_)
      clear hKC KC hHeld
      have hHeld := hHeld2
      clear hHeld2
      (try simp only [Act.put, List.setIfInBounds_toArray, List.set_cons_zero, List.set_cons_succ])
      refine wpAnyH_ready (rs := [4]) (by kernel_rfl) (by simp) ?_
      refine AllReadyH.cons (o := { dst := some 89, op := Op.call { callee := Callee.value (Operand.func 13), args := #[Operand.tmp 86, Operand.tmp 88], argTypes := #[31, 35] }, type := 32, pos := "exact.go:3544", after := #[{ on := 1, ground := Ground.data }, { on := 3, ground := Ground.data }, { on := 3, ground := Ground.chain }], guard := none }) rfl (fun KC hKC => ?_) AllReadyH.nil
      go_simp
      go_at_call 13
      refine (implStamped_any I X N B F C U _ _ ot.rd SMK.out hl hN1 hB1x).mono ?_
      rintro er wr4 ⟨vh, rfl, oh, hBr4⟩
      rw [hJ.out] at oh
      rw [hJ.out, hy.out]
      dsimp only at oh ⊢
      obtain ⟨Ah, Nh, Kh, rfl⟩ := oh.slice
      replace oh := oh.wide (lo' := w16.heap.size) hC.size (Nat.le_refl _)
      (try replace ow := ow.grow hBr4)
      (try replace pg := pg.grow hBr4)
      (try replace ot := ot.grow hBr4)
      replace ca := vblk_grow ca hBr4
      replace ci := vblk_grow ci hBr4
      replace cw := vblk_grow cw hBr4
      replace cx := vblk_grow cx hBr4
      replace cg := vblk_grow cg hBr4
      replace hC := hC.trans (hBr4.mono hC.size)
      (try replace ch := vblk_grow ch hBr4)
      refine hKC.out _ _ (⟨(cells2 ca).1, (cells2 ca).2, cells5 ci⟩) (fun hHeld2 => ?_)
      clear hKC KC hHeld
      have hHeld := hHeld2
      clear hHeld2
      (try simp only [Act.put, List.setIfInBounds_toArray, List.set_cons_zero, List.set_cons_succ])
      refine wpAnyH_take (i := 5) (oi := { dst := some 84, op := Op.move (Operand.tmp 89), type := 32, pos := "exact.go:3544", after := #[{ on := 4, ground := Ground.data }], guard := none }) (v := ?_) rfl (by kernel_rfl) (by kernel_rfl) (by kernel_rfl) (fun _ _ _ h => h) (Or.inl ⟨by rfl, ?_⟩) (by assumption) ?_
      rotate_left 1
      · intro w' hSw
        (try dsimp only at hSw)
        go_simp
        (try with_reducible rfl)
      (try simp only [Act.put, List.setIfInBounds_toArray, List.set_cons_zero, List.set_cons_succ])
      refine wpAnyH_take (i := 6) (oi := { dst := some 90, op := Op.extract (Operand.tmp 84) 0, type := 31, pos := "exact.go:3544", after := #[{ on := 5, ground := Ground.data }], guard := none }) (v := ?_) rfl (by kernel_rfl) (by kernel_rfl) (by kernel_rfl) (fun _ _ _ h => h) (Or.inl ⟨by rfl, ?_⟩) (by assumption) ?_
      rotate_left 1
      · intro w' hSw
        (try dsimp only at hSw)
        go_simp
        (try with_reducible rfl)
      (try simp only [Act.put, List.setIfInBounds_toArray, List.set_cons_zero, List.set_cons_succ])
      refine wpAnyH_take (i := 7) (oi := { dst := some 91, op := Op.extract (Operand.tmp 84) 1, type := 4, pos := "exact.go:3544", after := #[{ on := 5, ground := Ground.data }, { on := 9, ground := Ground.gcOnly Departure.lateStores }], guard := none }) (v := ?_) rfl (by kernel_rfl) (by kernel_rfl) (by kernel_rfl) (fun _ _ _ h => h) (Or.inl ⟨by rfl, ?_⟩) (by assumption) ?_
      rotate_left 1
      · intro w' hSw
        (try dsimp only at hSw)
        go_simp
        (try with_reducible rfl)
      (try simp only [Act.put, List.setIfInBounds_toArray, List.set_cons_zero, List.set_cons_succ])
      refine wpAnyH_ready (rs := [9]) (by kernel_rfl) (by simp) ?_
      refine AllReadyH.cons (o := { dst := none, op := Op.store 31 (Operand.tmp 14) (Operand.tmp 90), type := 0, pos := "exact.go:3544", after := #[{ on := 8, ground := Ground.data }, { on := 6, ground := Ground.data }, { on := 4, ground := Ground.chain }, { on := 0, ground := Ground.phase }, { on := 1, ground := Ground.phase }, { on := 2, ground := Ground.phase }, { on := 3, ground := Ground.phase }, { on := 4, ground := Ground.phase }, { on := 5, ground := Ground.phase }, { on := 6, ground := Ground.phase }, { on := 7, ground := Ground.textOnly Departure.lateStores }, { on := 8, ground := Ground.phase }], guard := none }) rfl (fun KC hKC => ?_) AllReadyH.nil
      refine step_store_v rfl 31 _ _ rfl bh [.slice Ah Nh Kh, .int .i64 Y] rfl rfl sizeBk ch rfl (oneBk _ _ _ _) ?_
      intro wr9 hOr9 chx
      (try replace ow := ow.only hOr9 ch (by decide))
      (try replace pg := pg.only hOr9 ch (by decide))
      (try replace ot := ot.only hOr9 ch (by decide))
      (try replace oh := oh.only hOr9 ch (by decide))
      replace ca := vblk_only ca hOr9 lt_ca
      replace ci := vblk_only ci hOr9 lt_ci
      replace cw := vblk_only cw hOr9 lt_cw
      replace cx := vblk_only cx hOr9 lt_cx
      replace cg := vblk_only cg hOr9 lt_cg
      replace hC := hC.trans (hOr9.2.2 _ hlv)
      replace ch := chx
      refine hKC.out _ _ (⟨(cells2 ca).1, (cells2 ca).2, cells5 ci⟩) (fun hHeld2 => ?_)
      clear hKC KC hHeld
      have hHeld := hHeld2
      clear hHeld2
      (try simp only [Act.put])
      refine wpAnyH_take (i := 10) (oi := { dst := some 15, op := Op.assign (Operand.tmp 91), type := 4, pos := "exact.go:3544", after := #[{ on := 7, ground := Ground.data }, { on := 9, ground := Ground.chain }, { on := 0, ground := Ground.phase }, { on := 1, ground := Ground.phase }, { on := 2, ground := Ground.phase }, { on := 3, ground := Ground.phase }, { on := 4, ground := Ground.phase }, { on := 5, ground := Ground.phase }, { on := 6, ground := Ground.phase }, { on := 7, ground := Ground.phase }, { on := 8, ground := Ground.phase }, { on := 9, ground := Ground.phase }], guard := none }) (v := ?_) rfl (by kernel_rfl) (by kernel_rfl) (by kernel_rfl) (fun _ _ _ h => h) (Or.inl ⟨by rfl, ?_⟩) (by assumption) ?_
      rotate_left 1
      · intro w' hSw
        (try dsimp only at hSw)
        go_simp
        (try with_reducible rfl)
      (try simp only [Act.put, List.setIfInBounds_toArray, List.set_cons_zero, List.set_cons_succ])
      refine wpAnyH_done (by kernel_rfl) ?_ _
      go_wp2
      go_meet
      case rel => exact ⟨bh, Ah, Nh, Kh, rfl, rfl, hC, ca, ci, cw, cx, cg, ow, pg, ch, oh.top⟩
  case rest =>
  obtain ⟨bh, Ah, Nh, Kh, rfl, rfl, n_hC, n_ca, n_ci, n_cw, n_cx, n_cg, n_ow, n_pg, n_ch, n_oh⟩ := hcut
  rename World => w17
  clear ow
  clear pg
  clear ca
  clear ci
  clear cw
  clear cx
  clear cg
  clear ca0 ca1
  clear ci0 ci1 ci2 ci3 ci4
  clear cw0 cw1
  clear cx0 cx1
  clear cg0 cg1
  have hC := n_hC
  clear n_hC
  have ca := n_ca
  clear n_ca
  have ci := n_ci
  clear n_ci
  have cw := n_cw
  clear n_cw
  have cx := n_cx
  clear n_cx
  have cg := n_cg
  clear n_cg
  have ow := n_ow
  clear n_ow
  have pg := n_pg
  clear n_pg
  have ch := n_ch
  clear n_ch
  have oh := n_oh
  clear n_oh
  have hz17 : w16.heap.size ≤ w17.heap.size := hC.size
  replace hB := hB.trans (hC.mono (by omega))
  replace hzw := hB.size
  clear hC
  obtain ⟨ca0, ca1⟩ := cells2 ca
  obtain ⟨ci0, ci1, ci2, ci3, ci4⟩ := cells5 ci
  obtain ⟨cw0, cw1⟩ := cells2 cw
  obtain ⟨cx0, cx1⟩ := cells2 cx
  obtain ⟨cg0, cg1⟩ := cells2 cg
  obtain ⟨ch0, ch1⟩ := cells2 ch
  have mk16 : Hid True := trivial
  have mk17 : Hid True := trivial
  go_wp2_with (first | (clear mk16; go_at_call 14; refine (eqBook_any J Y _ _ _ oh.rd ow.rd).mono ?_; rintro er w18 ⟨rfl, hB18⟩; have hz18 : w17.heap.size ≤ w18.heap.size := hB18.size; replace ow := ow.grow hB18; replace pg := pg.grow hB18; replace oh := oh.grow hB18; replace ca := vblk_grow ca hB18; replace ci := vblk_grow ci hB18; replace cw := vblk_grow cw hB18; replace cx := vblk_grow cx hB18; replace cg := vblk_grow cg hB18; replace ch := vblk_grow ch hB18; replace hB := hB.trans (hB18.mono (by omega)); replace hzw := hB.size; clear ca0 ca1; obtain ⟨ca0, ca1⟩ := cells2 ca; clear ci0 ci1 ci2 ci3 ci4; obtain ⟨ci0, ci1, ci2, ci3, ci4⟩ := cells5 ci; clear cw0 cw1; obtain ⟨cw0, cw1⟩ := cells2 cw; clear cx0 cx1; obtain ⟨cx0, cx1⟩ := cells2 cx; clear cg0 cg1; obtain ⟨cg0, cg1⟩ := cells2 cg; clear ch0 ch1; obtain ⟨ch0, ch1⟩ := cells2 ch) | (clear mk17; go_at_call 16; refine (heldBook_any J.length Y _ 1 (by omega) (by omega) mj hmj.out _ pg.rd).mono ?_; rintro er w19 ⟨rfl, hB19⟩; have hz19 : w18.heap.size ≤ w19.heap.size := hB19.size; replace ow := ow.grow hB19; replace pg := pg.grow hB19; replace oh := oh.grow hB19; replace ca := vblk_grow ca hB19; replace ci := vblk_grow ci hB19; replace cw := vblk_grow cw hB19; replace cx := vblk_grow cx hB19; replace cg := vblk_grow cg hB19; replace ch := vblk_grow ch hB19; replace hB := hB.trans (hB19.mono (by omega)); replace hzw := hB.size; clear ca0 ca1; obtain ⟨ca0, ca1⟩ := cells2 ca; clear ci0 ci1 ci2 ci3 ci4; obtain ⟨ci0, ci1, ci2, ci3, ci4⟩ := cells5 ci; clear cw0 cw1; obtain ⟨cw0, cw1⟩ := cells2 cw; clear cx0 cx1; obtain ⟨cx0, cx1⟩ := cells2 cx; clear cg0 cg1; obtain ⟨cg0, cg1⟩ := cells2 cg; clear ch0 ch1; obtain ⟨ch0, ch1⟩ := cells2 ch) | (fail))
  go_ret
  exact ⟨rfl, hB⟩

/-! ### the row, by the frame -/
set_option maxRecDepth 100000 in
theorem lifted (os : Os) (started : os.Started) (H : Type) (enc : TypeId × Value → H) :
    ReturnsInHanded {} Try.checked os 3 .any (Rows.fnExactStampedSpec.pre6 enc Try.prog Try.f3 Rows.fnExactStampedRow.domain false) (Rows.fnExactStampedSpec.post enc Try.prog Try.f3 false true false false) := by
  refine returnsInHanded_of_change (C := Try.checked) own started (by kernel_rfl) Try.func3
    (ChangeSpec.witness6 (enc := enc) (C := Try.checked) false ⟨#[], #[.agg #[.slice none 0 0, .int .i64 0], .agg #[.string ByteArray.empty, .int .i64 0, .string ByteArray.empty, .int .i64 0, .int .i64 0]], []⟩ 8 (by kernel_rfl) (by kernel_rfl) (by kernel_rfl) (by kernel_rfl)) ?_
  intro W base args ds gs before hval0 hW hcnd _
  have hval : ∀ (j : Nat) t v, Try.f3.params[j]? = some t → args[j]? = some v → Value.okWide Try.prog W .any base t v := hval0
  have hW' := hW
  obtain ⟨p, q, hA0, hV, rfl, hfz, hnd⟩ := hW
  have hA : DataW.TrodAll enc Try.prog W 0 (fun _ => true) true Try.f3.params.toList args.toList ds p := hA0
  rw [Try.params3] at hA hval
  obtain ⟨v0, vs0, d0, ds0, p0, q0, hargs, rfl, rfl, h0, r0⟩ := trodAll_cons hA
  obtain ⟨v1, vs1, d1, ds1, p1, q1, rfl, rfl, rfl, h1, r1⟩ := trodAll_cons r0
  obtain ⟨rfl, rfl, rfl⟩ := trodAll_nil r1
  obtain rfl : args = #[v0, v1] := by cases args; simp_all
  obtain ⟨rfl, rfl⟩ := trodVars_none hV
  have k0 := h0
  have lt0 : ∀ x ∈ p0, x.block < W.heap.size := by obtain ⟨m, hm⟩ := k0; exact DataW.trod_lt m _ _ _ hm
  obtain ⟨u0, I0, X0, rfl, hR0, hS0⟩ := open_book (hval 0 24 v0 rfl rfl) h0
  have k1 := h1
  have lt1 : ∀ x ∈ p1, x.block < W.heap.size := by obtain ⟨m, hm⟩ := k1; exact DataW.trod_lt m _ _ _ hm
  obtain ⟨N1, F1, B1, C1, U1, rfl, sN1, sB1⟩ := open_item (hval 1 26 v1 rfl rfl) h1
  clear hA0 hval0
  refine (walk u0 I0 X0 N1 B1 F1 C1 U1 W hR0 hS0 sN1 sB1).mono fun e W' ⟨he, bel⟩ => ?_
  subst he
  exact ⟨_, rfl, _, _, _, [], _, [], hW', trodAll_mk1 (shut_bool Try.underlying4 _), (trodAll_cons_mk (Below.trod laidOut (by kernel_rfl) (of_decide_eq_true (by kernel_rfl)) k0 bel lt0) (trodAll_cons_mk (Below.trod laidOut (by kernel_rfl) (of_decide_eq_true (by kernel_rfl)) k1 bel lt1) trodAll_mk0)), rfl, bel.frame _, fun h => by cases h⟩

theorem over : Rows.fnExactStampedRow.holds Try.pinned (OpenSpec.ofChange Rows.fnExactStampedSpec) :=
  OpenClaim.holds_of_wide 3 Try.f3 rfl rfl rfl rfl rfl rfl rfl ⟨rfl, rfl, rfl, rfl, rfl⟩ rfl rfl rfl rfl rfl (by kernel_rfl) Try.func3 (by kernel_rfl)
    (of_decide_eq_true (by kernel_rfl)) (by unfold Func.isWrapper; first | (rw [if_pos (by decide +kernel)]; kernel_rfl) | (rw [if_neg (by decide +kernel)]; exact ⟨rfl, rfl⟩))
    (fun os started H enc _ => lifted os started H enc)

/-- the statement -/
theorem proved : Rows.FnExactStampedSaid := over
end Go.Proofs.Ytekladbkhplchaa.fnExactStamped

namespace Go.Proofs.Ytekladbkhplchaa
/-- the statement, under its short name -/
theorem fnExactStamped_holds : Rows.FnExactStampedSaid := fnExactStamped.proved
#print axioms fnExactStamped_holds
end Go.Proofs.Ytekladbkhplchaa
