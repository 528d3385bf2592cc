/- For every tally, command and reply the program's Counted answers as the model's Counted (the law itself lets off what has over 1048576 bytes): the law's call returns true and its arguments read as before; no condition. -/
import Derived.Test.YtjkhmahdokcgeaaTl3
import Derived.Test.YtjkhmahdokcgeaaRg2
import Derived.Deep.DeepCutAuto
import Derived.Deep.RegionHeld3
namespace Go.Proofs.Ytjkhmahdokcgeaa.fnExactCounted
open Go.ChangeShapes Go.WideShapes Go.ChangeAt Go.RowKit
open Go.Proofs.Ytjkhmahdokcgeaa.ce Go.Proofs.Ytjkhmahdokcgeaa.ro Go.Proofs.Ytjkhmahdokcgeaa.rg Go.Proofs.Ytjkhmahdokcgeaa.cm
open Go.ChangeMaps (open_string shut_string)
set_option linter.unusedVariables false

theorem own : ownKnob Try.prog.godebug = none := by kernel_rfl
theorem laidOut : laidOutB Try.prog = true := by kernel_rfl

/-! ### the walk -/
set_option maxRecDepth 100000 in
set_option maxHeartbeats 4000000 in
theorem walk (A H S D O : Int) (V : Int) (N : ByteArray) (F U : Int) (B : ByteArray) (C E : Int) (Q : Bool) (K : Int) (N2 : ByteArray) (F2 : Int) (B2 : ByteArray) (C2 M2 : Int) (w : World) (hN : N.size ≤ 9223372036854775807) (hB0 : B.size ≤ 9223372036854775807) (hN2 : N2.size ≤ 9223372036854775807) (hB02 : B2.size ≤ 9223372036854775807) :
    Calls Try.prog 8 #[.agg #[.int .i64 A, .int .i64 H, .int .i64 S, .int .i64 D, .int .i64 O], .agg #[.int .i64 V, .string N, .int .i64 F, .int .i64 U, .string B, .int .i64 C, .int .i64 E, .bool Q], .agg #[.int .i64 K, .string N2, .int .i64 F2, .string B2, .int .i64 C2, .int .i64 M2]] w fun e w' => e = .returned (.bool true) ∧ Below w.heap.size w w' := by
  obtain ⟨⟨A', H', S', D', O'⟩, hT⟩ := hid_ex (coT ⟨A, H, S, D, O⟩ ⟨V, N, F, U, B, C, E, Q⟩ ⟨K, N2, F2, B2, C2, M2⟩)
  have k1 := specCounted_x A H S D O V N F U B C E Q K N2 F2 B2 C2 M2 A' H' S' D' O' hT
  have k2 := implCounted_x A H S D O V N F U B C E Q K N2 F2 B2 C2 M2 A' H' S' D' O' hT
  have k3 := eqTl_any A' H' S' D' O'
  have k4 := szCm_any V N F U B C E Q hN hB0
  have k5 := szRp_any K N2 F2 B2 C2 M2 hN2 hB02
  have k6 := oneTl ⟨A', H', S', D', O'⟩
  have e6 : csTl ⟨A', H', S', D', O'⟩ = [.int .i64 A', .int .i64 H', .int .i64 S', .int .i64 D', .int .i64 O'] := rfl
  rw [e6] at k6
  clear e6
  have sX : (Try.prog.info? 56).map (·.size) = some ([.int .i64 A', .int .i64 H', .int .i64 S', .int .i64 D', .int .i64 O'] : List Value).length := sizeTl
  have nX : ([.int .i64 A', .int .i64 H', .int .i64 S', .int .i64 D', .int .i64 O'] : List Value).length = [Value.int .i64 0, .int .i64 0, .int .i64 0, .int .i64 0, .int .i64 0].length := rfl
  have aX : (#[.int .i64 A', .int .i64 H', .int .i64 S', .int .i64 D', .int .i64 O'] : Array Value) = ([.int .i64 A', .int .i64 H', .int .i64 S', .int .i64 D', .int .i64 O'] : List Value).toArray := rfl
  rw [aX] at k1 k2 k3
  clear aX
  have toT := toTl_any A H S D O
  have slT : (Try.prog.info? 54).map (·.size) = some ([.int .i64 A, .int .i64 H, .int .i64 S, .int .i64 D, .int .i64 O] : List Value).length := sizeLTl
  have aT : (#[.int .i64 A, .int .i64 H, .int .i64 S, .int .i64 D, .int .i64 O] : Array Value) = ([.int .i64 A, .int .i64 H, .int .i64 S, .int .i64 D, .int .i64 O] : List Value).toArray := rfl
  rw [aT] at toT k1 k2  ⊢
  clear aT
  generalize ([.int .i64 A, .int .i64 H, .int .i64 S, .int .i64 D, .int .i64 O] : List Value) = lT at toT slT k1 k2  ⊢
  have toC := toCm_any V N F U B C E Q
  have slC : (Try.prog.info? 60).map (·.size) = some ([.int .i64 V, .string N, .int .i64 F, .int .i64 U, .string B, .int .i64 C, .int .i64 E, .bool Q] : List Value).length := sizeLCm
  have aC : (#[.int .i64 V, .string N, .int .i64 F, .int .i64 U, .string B, .int .i64 C, .int .i64 E, .bool Q] : Array Value) = ([.int .i64 V, .string N, .int .i64 F, .int .i64 U, .string B, .int .i64 C, .int .i64 E, .bool Q] : List Value).toArray := rfl
  rw [aC] at toC k1 k2 k4 ⊢
  clear aC
  generalize ([.int .i64 V, .string N, .int .i64 F, .int .i64 U, .string B, .int .i64 C, .int .i64 E, .bool Q] : List Value) = lC at toC slC k1 k2 k4 ⊢
  have toR := toRp_any K N2 F2 B2 C2 M2
  have slR : (Try.prog.info? 62).map (·.size) = some ([.int .i64 K, .string N2, .int .i64 F2, .string B2, .int .i64 C2, .int .i64 M2] : List Value).length := sizeLRp
  have aR : (#[.int .i64 K, .string N2, .int .i64 F2, .string B2, .int .i64 C2, .int .i64 M2] : Array Value) = ([.int .i64 K, .string N2, .int .i64 F2, .string B2, .int .i64 C2, .int .i64 M2] : List Value).toArray := rfl
  rw [aR] at toR k1 k2 k5 ⊢
  clear aR
  generalize ([.int .i64 K, .string N2, .int .i64 F2, .string B2, .int .i64 C2, .int .i64 M2] : List Value) = lR at toR slR k1 k2 k5 ⊢
  generalize ([.int .i64 A', .int .i64 H', .int .i64 S', .int .i64 D', .int .i64 O'] : List Value) = lX at k1 k2 k3 k6 sX nX
  have hk1 : Hid _ := k1
  clear k1
  have hk2 : Hid _ := k2
  clear k2
  have hk3 : Hid _ := k3
  clear k3
  have hk4 : Hid _ := k4
  clear k4
  have hk5 : Hid _ := k5
  clear k5
  have htoT : Hid _ := toT
  clear toT
  have htoC : Hid _ := toC
  clear toC
  have htoR : Hid _ := toR
  clear toR
  have hk6 : Hid _ := k6
  clear k6
  have hnX : Hid _ := nX
  clear nX
  clear hT hN hB0 hN2 hB02
  go_enter Try.func8, Try.ntmps8
  have mk1 : Hid True := trivial
  have mk2 : Hid True := trivial
  have mk3 : Hid True := trivial
  have mk4 : Hid True := trivial
  have mk5 : Hid True := trivial
  have mk6 : Hid True := trivial
  have mk7 : Hid True := trivial
  go_wp2_with (first | (clear mk1; refine wpList_box_v rfl 54 _ rfl lT rfl ?_; intro bt w1 hbt hwbt hB1 ct; have hz1 : w.heap.size ≤ w1.heap.size := hB1.size; have hB := hB1; have hzw := hB.size) | (clear mk2; refine wpList_box_v rfl 60 _ rfl lC rfl ?_; intro bc w2 hbc hwbc hB2 cc; have hz2 : w1.heap.size ≤ w2.heap.size := hB2.size; replace ct := vblk_grow ct hB2; replace hB := hB.trans (hB2.mono (by omega)); replace hzw := hB.size) | (clear mk3; refine wpList_box_v rfl 62 _ rfl lR rfl ?_; intro br w3 hbr hwbr hB3 cr; have hz3 : w2.heap.size ≤ w3.heap.size := hB3.size; replace ct := vblk_grow ct hB3; replace cc := vblk_grow cc hB3; replace hB := hB.trans (hB3.mono (by omega)); replace hzw := hB.size) | (clear mk4; refine wpList_load_r rfl 60 _ rfl bc 0 lC rfl _ Try.underlying60 rfl slC cc.range ?_) | (clear mk5; go_at_call 36; refine (hk4.out 1048576 (by omega) (by omega) _).mono ?_; rintro er w4 ⟨q, rfl, hB4, hq, -⟩; have hz4 : w3.heap.size ≤ w4.heap.size := hB4.size; replace ct := vblk_grow ct hB4; replace cc := vblk_grow cc hB4; replace cr := vblk_grow cr hB4; replace hB := hB.trans (hB4.mono (by omega)); replace hzw := hB.size; by_cases hneg : q < 0) | (clear mk6; refine wpList_load_r rfl 62 _ rfl br 0 lR rfl _ Try.underlying62 rfl slR cr.range ?_) | (clear mk7; go_at_call 37; refine (hk5.out q (by omega) (by omega) _).mono ?_; rintro er w5 ⟨q2, rfl, hB5, -, -⟩; have hz5 : w4.heap.size ≤ w5.heap.size := hB5.size; replace ct := vblk_grow ct hB5; replace cc := vblk_grow cc hB5; replace cr := vblk_grow cr hB5; replace hB := hB.trans (hB5.mono (by omega)); replace hzw := hB.size; by_cases hneg2 : q2 < 0) | (fail))
  · go_ret
    exact ⟨rfl, hB⟩
  · go_ret
    exact ⟨rfl, hB⟩
  (try simp only [Act.put])
  (try simp only [List.setIfInBounds_toArray, List.set_cons_zero, List.set_cons_succ])
  go_cut [8] from 20 to 27 (fun s8 wc => ∃ (bw : Nat), s8 = .pointer (some ⟨bw, 0, none⟩) ∧ Below w5.heap.size w5 wc ∧ VBlk wc bt 54 lT ∧ VBlk wc bc 60 lC ∧ VBlk wc br 62 lR ∧ VBlk wc bw 56 lX)
  case first =>
    have hC : Below w5.heap.size w5 w5.drew := (Below.refl _ _).drew
    replace ct := vblk_grow ct hC
    replace cc := vblk_grow cc hC
    replace cr := vblk_grow cr hC
    refine wp_region_held_drew (S := fun w' => VBlk w' bt 54 lT ∧ VBlk w' bc 60 lC ∧ VBlk w' br 62 lR) (by kernel_rfl) (⟨ct, cc, cr⟩) (fun hHeld => ?_)
    refine wpAnyH_take (i := 0) (oi := { dst := some 20, op := Op.load 54 (Operand.tmp 3), type := 54, pos := "exact.go:3714", after := #[], guard := none }) (v := .agg lT.toArray) rfl (by kernel_rfl) (by kernel_rfl) (by kernel_rfl) (fun _ _ _ h => h) (yieldsIf_load_mid (by rfl) 54 _ rfl bt 0 rfl lT _ (fun w' hw' => hw'.1.range) Try.underlying54 rfl slT) (by assumption) ?_
    (try simp only [Act.put, List.setIfInBounds_toArray, List.set_cons_zero, List.set_cons_succ])
    refine wpAnyH_take (i := 2) (oi := { dst := some 22, op := Op.load 60 (Operand.tmp 4), type := 60, pos := "exact.go:3714", after := #[], guard := none }) (v := .agg lC.toArray) rfl (by kernel_rfl) (by kernel_rfl) (by kernel_rfl) (fun _ _ _ h => h) (yieldsIf_load_mid (by rfl) 60 _ rfl bc 0 rfl lC _ (fun w' hw' => hw'.2.1.range) Try.underlying60 rfl slC) (by assumption) ?_
    (try simp only [Act.put, List.setIfInBounds_toArray, List.set_cons_zero, List.set_cons_succ])
    refine wpAnyH_take (i := 4) (oi := { dst := some 24, op := Op.load 62 (Operand.tmp 5), type := 62, pos := "exact.go:3714", after := #[], guard := none }) (v := .agg lR.toArray) rfl (by kernel_rfl) (by kernel_rfl) (by kernel_rfl) (fun _ _ _ h => h) (yieldsIf_load_mid (by rfl) 62 _ rfl br 0 rfl lR _ (fun w' hw' => hw'.2.2.range) Try.underlying62 rfl slR) (by assumption) ?_
    (try simp only [Act.put, List.setIfInBounds_toArray, List.set_cons_zero, List.set_cons_succ])
    refine wpAnyH_ready (rs := [1, 7]) (by kernel_rfl) (by simp) ?_
    refine AllReadyH.cons (o := { dst := some 21, op := Op.call { callee := Callee.value (Operand.func 34), args := #[Operand.tmp 20], argTypes := #[54] }, type := 56, pos := "exact.go:3714", after := #[{ on := 0, ground := Ground.data }], guard := none }) rfl (fun KC hKC => ?_) (AllReadyH.cons (o := { dst := some 8, op := Op.alloc 56, type := 0, pos := "exact.go:3714", after := #[], guard := none }) rfl (fun KC hKC => ?_) AllReadyH.nil)
    · go_simp
      go_at_call 34
      refine (htoT.out _).mono ?_
      rintro er wr1 ⟨rfl, hBr1⟩
      replace ct := vblk_grow ct hBr1
      replace cc := vblk_grow cc hBr1
      replace cr := vblk_grow cr hBr1
      replace hC := hC.trans (hBr1.mono hC.size)
      (try replace cw := vblk_grow cw hBr1)
      refine hKC.out _ _ (⟨ct, cc, cr⟩) (fun hHeld2 => ?_)
      clear hKC KC hHeld
      have hHeld := hHeld2
      clear hHeld2
      (try simp only [Act.put, List.setIfInBounds_toArray, List.set_cons_zero, List.set_cons_succ])
      refine wpAnyH_ready (rs := [3, 7]) (by kernel_rfl) (by simp) ?_
      refine AllReadyH.cons (o := { dst := some 23, op := Op.call { callee := Callee.value (Operand.func 39), args := #[Operand.tmp 22], argTypes := #[60] }, type := 66, pos := "exact.go:3714", after := #[{ on := 2, ground := Ground.data }, { on := 1, ground := Ground.chain }], guard := none }) rfl (fun KC hKC => ?_) (AllReadyH.cons (o := { dst := some 8, op := Op.alloc 56, type := 0, pos := "exact.go:3714", after := #[], guard := none }) rfl (fun KC hKC => ?_) AllReadyH.nil)
      · go_simp
        go_at_call 39
        refine (htoC.out _).mono ?_
        rintro er wr3 ⟨rfl, hBr3⟩
        replace ct := vblk_grow ct hBr3
        replace cc := vblk_grow cc hBr3
        replace cr := vblk_grow cr hBr3
        replace hC := hC.trans (hBr3.mono hC.size)
        (try replace cw := vblk_grow cw hBr3)
        refine hKC.out _ _ (⟨ct, cc, cr⟩) (fun hHeld2 => ?_)
        clear hKC KC hHeld
        have hHeld := hHeld2
        clear hHeld2
        (try simp only [Act.put, List.setIfInBounds_toArray, List.set_cons_zero, List.set_cons_succ])
        refine wpAnyH_ready (rs := [5, 7]) (by kernel_rfl) (by simp) ?_
        refine AllReadyH.cons (o := { dst := some 25, op := Op.call { callee := Callee.value (Operand.func 40), args := #[Operand.tmp 24], argTypes := #[62] }, type := 68, pos := "exact.go:3714", after := #[{ on := 4, ground := Ground.data }, { on := 3, ground := Ground.chain }], guard := none }) rfl (fun KC hKC => ?_) (AllReadyH.cons (o := { dst := some 8, op := Op.alloc 56, type := 0, pos := "exact.go:3714", after := #[], guard := none }) rfl (fun KC hKC => ?_) AllReadyH.nil)
        · go_simp
          go_at_call 40
          refine (htoR.out _).mono ?_
          rintro er wr5 ⟨rfl, hBr5⟩
          replace ct := vblk_grow ct hBr5
          replace cc := vblk_grow cc hBr5
          replace cr := vblk_grow cr hBr5
          replace hC := hC.trans (hBr5.mono hC.size)
          (try replace cw := vblk_grow cw hBr5)
          refine hKC.out _ _ (⟨ct, cc, cr⟩) (fun hHeld2 => ?_)
          clear hKC KC hHeld
          have hHeld := hHeld2
          clear hHeld2
          (try simp only [Act.put, List.setIfInBounds_toArray, List.set_cons_zero, List.set_cons_succ])
          refine wpAnyH_ready (rs := [6, 7]) (by kernel_rfl) (by simp) ?_
          refine AllReadyH.cons (o := { dst := some 26, op := Op.call { callee := Callee.value (Operand.func 38), args := #[Operand.tmp 21, Operand.tmp 23, Operand.tmp 25], argTypes := #[56, 66, 68] }, type := 56, pos := "exact.go:3714", after := #[{ on := 1, ground := Ground.data }, { on := 3, ground := Ground.data }, { on := 5, ground := Ground.data }, { on := 5, ground := Ground.chain }], guard := none }) rfl (fun KC hKC => ?_) (AllReadyH.cons (o := { dst := some 8, op := Op.alloc 56, type := 0, pos := "exact.go:3714", after := #[], guard := none }) rfl (fun KC hKC => ?_) AllReadyH.nil)
          · go_simp
            go_at_call 38
            refine (hk1.out _).mono ?_
            rintro er wr6 ⟨rfl, hBr6⟩
            replace ct := vblk_grow ct hBr6
            replace cc := vblk_grow cc hBr6
            replace cr := vblk_grow cr hBr6
            replace hC := hC.trans (hBr6.mono hC.size)
            (try replace cw := vblk_grow cw hBr6)
            refine hKC.out _ _ (⟨ct, cc, cr⟩) (fun hHeld2 => ?_)
            clear hKC KC hHeld
            have hHeld := hHeld2
            clear hHeld2
            (try simp only [Act.put, List.setIfInBounds_toArray, List.set_cons_zero, List.set_cons_succ])
            refine wpAnyH_ready (rs := [7]) (by kernel_rfl) (by simp) ?_
            refine AllReadyH.cons (o := { dst := some 8, op := Op.alloc 56, type := 0, pos := "exact.go:3714", after := #[], guard := none }) rfl (fun KC hKC => ?_) AllReadyH.nil
            refine step_alloc_v rfl 56 rfl _ zeroTl ?_
            intro bw wr7 hbw hwbw hBr7 cw
            have hlv : w5.heap.size ≤ bw := Nat.le_trans hC.size hbw
            have lt_ct := Nat.ne_of_lt (Nat.lt_of_lt_of_le ct.lt hbw)
            have lt_cc := Nat.ne_of_lt (Nat.lt_of_lt_of_le cc.lt hbw)
            have lt_cr := Nat.ne_of_lt (Nat.lt_of_lt_of_le cr.lt hbw)
            replace ct := vblk_grow ct hBr7
            replace cc := vblk_grow cc hBr7
            replace cr := vblk_grow cr hBr7
            replace hC := hC.trans (hBr7.mono hC.size)
            refine hKC.out _ _ (⟨ct, cc, cr⟩) (fun hHeld2 => ?_)
            clear hKC KC hHeld
            have hHeld := hHeld2
            clear hHeld2
            (try simp only [Act.put, List.setIfInBounds_toArray, List.set_cons_zero, List.set_cons_succ])
            refine wpAnyH_ready (rs := [8]) (by kernel_rfl) (by simp) ?_
            refine AllReadyH.cons (o := { dst := none, op := Op.store 56 (Operand.tmp 8) (Operand.tmp 26), type := 0, pos := "exact.go:3714", after := #[{ on := 7, ground := Ground.data }, { on := 6, ground := Ground.data }, { on := 6, ground := Ground.chain }, { on := 0, ground := Ground.phase }, { on := 1, ground := Ground.phase }, { on := 2, ground := Ground.phase }, { on := 3, ground := Ground.phase }, { on := 4, ground := Ground.phase }, { on := 5, ground := Ground.phase }, { on := 6, ground := Ground.phase }, { on := 7, ground := Ground.phase }], guard := none }) rfl (fun KC hKC => ?_) AllReadyH.nil
            refine step_store_v rfl 56 _ _ rfl bw lX rfl rfl sX cw hnX.out hk6.out ?_
            intro wr8 hOr8 cwx
            replace ct := vblk_only ct hOr8 lt_ct
            replace cc := vblk_only cc hOr8 lt_cc
            replace cr := vblk_only cr hOr8 lt_cr
            replace hC := hC.trans (hOr8.2.2 _ hlv)
            replace cw := cwx
            refine hKC.out _ _ (⟨ct, cc, cr⟩) (fun hHeld2 => ?_)
            clear hKC KC hHeld
            have hHeld := hHeld2
            clear hHeld2
            (try simp only [Act.put])
            refine wpAnyH_done (by kernel_rfl) ?_ _
            go_wp2
            go_meet
            case rel => exact ⟨bw, rfl, hC, ct, cc, cr, cw⟩
          · refine step_alloc_v rfl 56 rfl _ zeroTl ?_
            intro bw wr7 hbw hwbw hBr7 cw
            have hlv : w5.heap.size ≤ bw := Nat.le_trans hC.size hbw
            have lt_ct := Nat.ne_of_lt (Nat.lt_of_lt_of_le ct.lt hbw)
            have lt_cc := Nat.ne_of_lt (Nat.lt_of_lt_of_le cc.lt hbw)
            have lt_cr := Nat.ne_of_lt (Nat.lt_of_lt_of_le cr.lt hbw)
            replace ct := vblk_grow ct hBr7
            replace cc := vblk_grow cc hBr7
            replace cr := vblk_grow cr hBr7
            replace hC := hC.trans (hBr7.mono hC.size)
            refine hKC.out _ _ (⟨ct, cc, cr⟩) (fun hHeld2 => ?_)
            clear hKC KC hHeld
            have hHeld := hHeld2
            clear hHeld2
            (try simp only [Act.put, List.setIfInBounds_toArray, List.set_cons_zero, List.set_cons_succ])
            refine wpAnyH_ready (rs := [6]) (by kernel_rfl) (by simp) ?_
            refine AllReadyH.cons (o := { dst := some 26, op := Op.call { callee := Callee.value (Operand.func 38), args := #[Operand.tmp 21, Operand.tmp 23, Operand.tmp 25], argTypes := #[56, 66, 68] }, type := 56, pos := "exact.go:3714", after := #[{ on := 1, ground := Ground.data }, { on := 3, ground := Ground.data }, { on := 5, ground := Ground.data }, { on := 5, ground := Ground.chain }], guard := none }) rfl (fun KC hKC => ?_) AllReadyH.nil
            go_simp
            go_at_call 38
            refine (hk1.out _).mono ?_
            rintro er wr6 ⟨rfl, hBr6⟩
            replace ct := vblk_grow ct hBr6
            replace cc := vblk_grow cc hBr6
            replace cr := vblk_grow cr hBr6
            replace hC := hC.trans (hBr6.mono hC.size)
            (try replace cw := vblk_grow cw hBr6)
            refine hKC.out _ _ (⟨ct, cc, cr⟩) (fun hHeld2 => ?_)
            clear hKC KC hHeld
            have hHeld := hHeld2
            clear hHeld2
            (try simp only [Act.put, List.setIfInBounds_toArray, List.set_cons_zero, List.set_cons_succ])
            refine wpAnyH_ready (rs := [8]) (by kernel_rfl) (by simp) ?_
            refine AllReadyH.cons (o := { dst := none, op := Op.store 56 (Operand.tmp 8) (Operand.tmp 26), type := 0, pos := "exact.go:3714", after := #[{ on := 7, ground := Ground.data }, { on := 6, ground := Ground.data }, { on := 6, ground := Ground.chain }, { on := 0, ground := Ground.phase }, { on := 1, ground := Ground.phase }, { on := 2, ground := Ground.phase }, { on := 3, ground := Ground.phase }, { on := 4, ground := Ground.phase }, { on := 5, ground := Ground.phase }, { on := 6, ground := Ground.phase }, { on := 7, ground := Ground.phase }], guard := none }) rfl (fun KC hKC => ?_) AllReadyH.nil
            refine step_store_v rfl 56 _ _ rfl bw lX rfl rfl sX cw hnX.out hk6.out ?_
            intro wr8 hOr8 cwx
            replace ct := vblk_only ct hOr8 lt_ct
            replace cc := vblk_only cc hOr8 lt_cc
            replace cr := vblk_only cr hOr8 lt_cr
            replace hC := hC.trans (hOr8.2.2 _ hlv)
            replace cw := cwx
            refine hKC.out _ _ (⟨ct, cc, cr⟩) (fun hHeld2 => ?_)
            clear hKC KC hHeld
            have hHeld := hHeld2
            clear hHeld2
            (try simp only [Act.put])
            refine wpAnyH_done (by kernel_rfl) ?_ _
            go_wp2
            go_meet
            case rel => exact ⟨bw, rfl, hC, ct, cc, cr, cw⟩
        · refine step_alloc_v rfl 56 rfl _ zeroTl ?_
          intro bw wr7 hbw hwbw hBr7 cw
          have hlv : w5.heap.size ≤ bw := Nat.le_trans hC.size hbw
          have lt_ct := Nat.ne_of_lt (Nat.lt_of_lt_of_le ct.lt hbw)
          have lt_cc := Nat.ne_of_lt (Nat.lt_of_lt_of_le cc.lt hbw)
          have lt_cr := Nat.ne_of_lt (Nat.lt_of_lt_of_le cr.lt hbw)
          replace ct := vblk_grow ct hBr7
          replace cc := vblk_grow cc hBr7
          replace cr := vblk_grow cr hBr7
          replace hC := hC.trans (hBr7.mono hC.size)
          refine hKC.out _ _ (⟨ct, cc, cr⟩) (fun hHeld2 => ?_)
          clear hKC KC hHeld
          have hHeld := hHeld2
          clear hHeld2
          (try simp only [Act.put, List.setIfInBounds_toArray, List.set_cons_zero, List.set_cons_succ])
          refine wpAnyH_ready (rs := [5]) (by kernel_rfl) (by simp) ?_
          refine AllReadyH.cons (o := { dst := some 25, op := Op.call { callee := Callee.value (Operand.func 40), args := #[Operand.tmp 24], argTypes := #[62] }, type := 68, pos := "exact.go:3714", after := #[{ on := 4, ground := Ground.data }, { on := 3, ground := Ground.chain }], guard := none }) rfl (fun KC hKC => ?_) AllReadyH.nil
          go_simp
          go_at_call 40
          refine (htoR.out _).mono ?_
          rintro er wr5 ⟨rfl, hBr5⟩
          replace ct := vblk_grow ct hBr5
          replace cc := vblk_grow cc hBr5
          replace cr := vblk_grow cr hBr5
          replace hC := hC.trans (hBr5.mono hC.size)
          (try replace cw := vblk_grow cw hBr5)
          refine hKC.out _ _ (⟨ct, cc, cr⟩) (fun hHeld2 => ?_)
          clear hKC KC hHeld
          have hHeld := hHeld2
          clear hHeld2
          (try simp only [Act.put, List.setIfInBounds_toArray, List.set_cons_zero, List.set_cons_succ])
          refine wpAnyH_ready (rs := [6]) (by kernel_rfl) (by simp) ?_
          refine AllReadyH.cons (o := { dst := some 26, op := Op.call { callee := Callee.value (Operand.func 38), args := #[Operand.tmp 21, Operand.tmp 23, Operand.tmp 25], argTypes := #[56, 66, 68] }, type := 56, pos := "exact.go:3714", after := #[{ on := 1, ground := Ground.data }, { on := 3, ground := Ground.data }, { on := 5, ground := Ground.data }, { on := 5, ground := Ground.chain }], guard := none }) rfl (fun KC hKC => ?_) AllReadyH.nil
          go_simp
          go_at_call 38
          refine (hk1.out _).mono ?_
          rintro er wr6 ⟨rfl, hBr6⟩
          replace ct := vblk_grow ct hBr6
          replace cc := vblk_grow cc hBr6
          replace cr := vblk_grow cr hBr6
          replace hC := hC.trans (hBr6.mono hC.size)
          (try replace cw := vblk_grow cw hBr6)
          refine hKC.out _ _ (⟨ct, cc, cr⟩) (fun hHeld2 => ?_)
          clear hKC KC hHeld
          have hHeld := hHeld2
          clear hHeld2
          (try simp only [Act.put, List.setIfInBounds_toArray, List.set_cons_zero, List.set_cons_succ])
          refine wpAnyH_ready (rs := [8]) (by kernel_rfl) (by simp) ?_
          refine AllReadyH.cons (o := { dst := none, op := Op.store 56 (Operand.tmp 8) (Operand.tmp 26), type := 0, pos := "exact.go:3714", after := #[{ on := 7, ground := Ground.data }, { on := 6, ground := Ground.data }, { on := 6, ground := Ground.chain }, { on := 0, ground := Ground.phase }, { on := 1, ground := Ground.phase }, { on := 2, ground := Ground.phase }, { on := 3, ground := Ground.phase }, { on := 4, ground := Ground.phase }, { on := 5, ground := Ground.phase }, { on := 6, ground := Ground.phase }, { on := 7, ground := Ground.phase }], guard := none }) rfl (fun KC hKC => ?_) AllReadyH.nil
          refine step_store_v rfl 56 _ _ rfl bw lX rfl rfl sX cw hnX.out hk6.out ?_
          intro wr8 hOr8 cwx
          replace ct := vblk_only ct hOr8 lt_ct
          replace cc := vblk_only cc hOr8 lt_cc
          replace cr := vblk_only cr hOr8 lt_cr
          replace hC := hC.trans (hOr8.2.2 _ hlv)
          replace cw := cwx
          refine hKC.out _ _ (⟨ct, cc, cr⟩) (fun hHeld2 => ?_)
          clear hKC KC hHeld
          have hHeld := hHeld2
          clear hHeld2
          (try simp only [Act.put])
          refine wpAnyH_done (by kernel_rfl) ?_ _
          go_wp2
          go_meet
          case rel => exact ⟨bw, rfl, hC, ct, cc, cr, cw⟩
      · refine step_alloc_v rfl 56 rfl _ zeroTl ?_
        intro bw wr7 hbw hwbw hBr7 cw
        have hlv : w5.heap.size ≤ bw := Nat.le_trans hC.size hbw
        have lt_ct := Nat.ne_of_lt (Nat.lt_of_lt_of_le ct.lt hbw)
        have lt_cc := Nat.ne_of_lt (Nat.lt_of_lt_of_le cc.lt hbw)
        have lt_cr := Nat.ne_of_lt (Nat.lt_of_lt_of_le cr.lt hbw)
        replace ct := vblk_grow ct hBr7
        replace cc := vblk_grow cc hBr7
        replace cr := vblk_grow cr hBr7
        replace hC := hC.trans (hBr7.mono hC.size)
        refine hKC.out _ _ (⟨ct, cc, cr⟩) (fun hHeld2 => ?_)
        clear hKC KC hHeld
        have hHeld := hHeld2
        clear hHeld2
        (try simp only [Act.put, List.setIfInBounds_toArray, List.set_cons_zero, List.set_cons_succ])
        refine wpAnyH_ready (rs := [3]) (by kernel_rfl) (by simp) ?_
        refine AllReadyH.cons (o := { dst := some 23, op := Op.call { callee := Callee.value (Operand.func 39), args := #[Operand.tmp 22], argTypes := #[60] }, type := 66, pos := "exact.go:3714", after := #[{ on := 2, ground := Ground.data }, { on := 1, ground := Ground.chain }], guard := none }) rfl (fun KC hKC => ?_) AllReadyH.nil
        go_simp
        go_at_call 39
        refine (htoC.out _).mono ?_
        rintro er wr3 ⟨rfl, hBr3⟩
        replace ct := vblk_grow ct hBr3
        replace cc := vblk_grow cc hBr3
        replace cr := vblk_grow cr hBr3
        replace hC := hC.trans (hBr3.mono hC.size)
        (try replace cw := vblk_grow cw hBr3)
        refine hKC.out _ _ (⟨ct, cc, cr⟩) (fun hHeld2 => ?_)
        clear hKC KC hHeld
        have hHeld := hHeld2
        clear hHeld2
        (try simp only [Act.put, List.setIfInBounds_toArray, List.set_cons_zero, List.set_cons_succ])
        refine wpAnyH_ready (rs := [5]) (by kernel_rfl) (by simp) ?_
        refine AllReadyH.cons (o := { dst := some 25, op := Op.call { callee := Callee.value (Operand.func 40), args := #[Operand.tmp 24], argTypes := #[62] }, type := 68, pos := "exact.go:3714", after := #[{ on := 4, ground := Ground.data }, { on := 3, ground := Ground.chain }], guard := none }) rfl (fun KC hKC => ?_) AllReadyH.nil
        go_simp
        go_at_call 40
        refine (htoR.out _).mono ?_
        rintro er wr5 ⟨rfl, hBr5⟩
        replace ct := vblk_grow ct hBr5
        replace cc := vblk_grow cc hBr5
        replace cr := vblk_grow cr hBr5
        replace hC := hC.trans (hBr5.mono hC.size)
        (try replace cw := vblk_grow cw hBr5)
        refine hKC.out _ _ (⟨ct, cc, cr⟩) (fun hHeld2 => ?_)
        clear hKC KC hHeld
        have hHeld := hHeld2
        clear hHeld2
        (try simp only [Act.put, List.setIfInBounds_toArray, List.set_cons_zero, List.set_cons_succ])
        refine wpAnyH_ready (rs := [6]) (by kernel_rfl) (by simp) ?_
        refine AllReadyH.cons (o := { dst := some 26, op := Op.call { callee := Callee.value (Operand.func 38), args := #[Operand.tmp 21, Operand.tmp 23, Operand.tmp 25], argTypes := #[56, 66, 68] }, type := 56, pos := "exact.go:3714", after := #[{ on := 1, ground := Ground.data }, { on := 3, ground := Ground.data }, { on := 5, ground := Ground.data }, { on := 5, ground := Ground.chain }], guard := none }) rfl (fun KC hKC => ?_) AllReadyH.nil
        go_simp
        go_at_call 38
        refine (hk1.out _).mono ?_
        rintro er wr6 ⟨rfl, hBr6⟩
        replace ct := vblk_grow ct hBr6
        replace cc := vblk_grow cc hBr6
        replace cr := vblk_grow cr hBr6
        replace hC := hC.trans (hBr6.mono hC.size)
        (try replace cw := vblk_grow cw hBr6)
        refine hKC.out _ _ (⟨ct, cc, cr⟩) (fun hHeld2 => ?_)
        clear hKC KC hHeld
        have hHeld := hHeld2
        clear hHeld2
        (try simp only [Act.put, List.setIfInBounds_toArray, List.set_cons_zero, List.set_cons_succ])
        refine wpAnyH_ready (rs := [8]) (by kernel_rfl) (by simp) ?_
        refine AllReadyH.cons (o := { dst := none, op := Op.store 56 (Operand.tmp 8) (Operand.tmp 26), type := 0, pos := "exact.go:3714", after := #[{ on := 7, ground := Ground.data }, { on := 6, ground := Ground.data }, { on := 6, ground := Ground.chain }, { on := 0, ground := Ground.phase }, { on := 1, ground := Ground.phase }, { on := 2, ground := Ground.phase }, { on := 3, ground := Ground.phase }, { on := 4, ground := Ground.phase }, { on := 5, ground := Ground.phase }, { on := 6, ground := Ground.phase }, { on := 7, ground := Ground.phase }], guard := none }) rfl (fun KC hKC => ?_) AllReadyH.nil
        refine step_store_v rfl 56 _ _ rfl bw lX rfl rfl sX cw hnX.out hk6.out ?_
        intro wr8 hOr8 cwx
        replace ct := vblk_only ct hOr8 lt_ct
        replace cc := vblk_only cc hOr8 lt_cc
        replace cr := vblk_only cr hOr8 lt_cr
        replace hC := hC.trans (hOr8.2.2 _ hlv)
        replace cw := cwx
        refine hKC.out _ _ (⟨ct, cc, cr⟩) (fun hHeld2 => ?_)
        clear hKC KC hHeld
        have hHeld := hHeld2
        clear hHeld2
        (try simp only [Act.put])
        refine wpAnyH_done (by kernel_rfl) ?_ _
        go_wp2
        go_meet
        case rel => exact ⟨bw, rfl, hC, ct, cc, cr, cw⟩
    · refine step_alloc_v rfl 56 rfl _ zeroTl ?_
      intro bw wr7 hbw hwbw hBr7 cw
      have hlv : w5.heap.size ≤ bw := Nat.le_trans hC.size hbw
      have lt_ct := Nat.ne_of_lt (Nat.lt_of_lt_of_le ct.lt hbw)
      have lt_cc := Nat.ne_of_lt (Nat.lt_of_lt_of_le cc.lt hbw)
      have lt_cr := Nat.ne_of_lt (Nat.lt_of_lt_of_le cr.lt hbw)
      replace ct := vblk_grow ct hBr7
      replace cc := vblk_grow cc hBr7
      replace cr := vblk_grow cr hBr7
      replace hC := hC.trans (hBr7.mono hC.size)
      refine hKC.out _ _ (⟨ct, cc, cr⟩) (fun hHeld2 => ?_)
      clear hKC KC hHeld
      have hHeld := hHeld2
      clear hHeld2
      (try simp only [Act.put, List.setIfInBounds_toArray, List.set_cons_zero, List.set_cons_succ])
      refine wpAnyH_ready (rs := [1]) (by kernel_rfl) (by simp) ?_
      refine AllReadyH.cons (o := { dst := some 21, op := Op.call { callee := Callee.value (Operand.func 34), args := #[Operand.tmp 20], argTypes := #[54] }, type := 56, pos := "exact.go:3714", after := #[{ on := 0, ground := Ground.data }], guard := none }) rfl (fun KC hKC => ?_) AllReadyH.nil
      go_simp
      go_at_call 34
      refine (htoT.out _).mono ?_
      rintro er wr1 ⟨rfl, hBr1⟩
      replace ct := vblk_grow ct hBr1
      replace cc := vblk_grow cc hBr1
      replace cr := vblk_grow cr hBr1
      replace hC := hC.trans (hBr1.mono hC.size)
      (try replace cw := vblk_grow cw hBr1)
      refine hKC.out _ _ (⟨ct, cc, cr⟩) (fun hHeld2 => ?_)
      clear hKC KC hHeld
      have hHeld := hHeld2
      clear hHeld2
      (try simp only [Act.put, List.setIfInBounds_toArray, List.set_cons_zero, List.set_cons_succ])
      refine wpAnyH_ready (rs := [3]) (by kernel_rfl) (by simp) ?_
      refine AllReadyH.cons (o := { dst := some 23, op := Op.call { callee := Callee.value (Operand.func 39), args := #[Operand.tmp 22], argTypes := #[60] }, type := 66, pos := "exact.go:3714", after := #[{ on := 2, ground := Ground.data }, { on := 1, ground := Ground.chain }], guard := none }) rfl (fun KC hKC => ?_) AllReadyH.nil
      go_simp
      go_at_call 39
      refine (htoC.out _).mono ?_
      rintro er wr3 ⟨rfl, hBr3⟩
      replace ct := vblk_grow ct hBr3
      replace cc := vblk_grow cc hBr3
      replace cr := vblk_grow cr hBr3
      replace hC := hC.trans (hBr3.mono hC.size)
      (try replace cw := vblk_grow cw hBr3)
      refine hKC.out _ _ (⟨ct, cc, cr⟩) (fun hHeld2 => ?_)
      clear hKC KC hHeld
      have hHeld := hHeld2
      clear hHeld2
      (try simp only [Act.put, List.setIfInBounds_toArray, List.set_cons_zero, List.set_cons_succ])
      refine wpAnyH_ready (rs := [5]) (by kernel_rfl) (by simp) ?_
      refine AllReadyH.cons (o := { dst := some 25, op := Op.call { callee := Callee.value (Operand.func 40), args := #[Operand.tmp 24], argTypes := #[62] }, type := 68, pos := "exact.go:3714", after := #[{ on := 4, ground := Ground.data }, { on := 3, ground := Ground.chain }], guard := none }) rfl (fun KC hKC => ?_) AllReadyH.nil
      go_simp
      go_at_call 40
      refine (htoR.out _).mono ?_
      rintro er wr5 ⟨rfl, hBr5⟩
      replace ct := vblk_grow ct hBr5
      replace cc := vblk_grow cc hBr5
      replace cr := vblk_grow cr hBr5
      replace hC := hC.trans (hBr5.mono hC.size)
      (try replace cw := vblk_grow cw hBr5)
      refine hKC.out _ _ (⟨ct, cc, cr⟩) (fun hHeld2 => ?_)
      clear hKC KC hHeld
      have hHeld := hHeld2
      clear hHeld2
      (try simp only [Act.put, List.setIfInBounds_toArray, List.set_cons_zero, List.set_cons_succ])
      refine wpAnyH_ready (rs := [6]) (by kernel_rfl) (by simp) ?_
      refine AllReadyH.cons (o := { dst := some 26, op := Op.call { callee := Callee.value (Operand.func 38), args := #[Operand.tmp 21, Operand.tmp 23, Operand.tmp 25], argTypes := #[56, 66, 68] }, type := 56, pos := "exact.go:3714", after := #[{ on := 1, ground := Ground.data }, { on := 3, ground := Ground.data }, { on := 5, ground := Ground.data }, { on := 5, ground := Ground.chain }], guard := none }) rfl (fun KC hKC => ?_) AllReadyH.nil
      go_simp
      go_at_call 38
      refine (hk1.out _).mono ?_
      rintro er wr6 ⟨rfl, hBr6⟩
      replace ct := vblk_grow ct hBr6
      replace cc := vblk_grow cc hBr6
      replace cr := vblk_grow cr hBr6
      replace hC := hC.trans (hBr6.mono hC.size)
      (try replace cw := vblk_grow cw hBr6)
      refine hKC.out _ _ (⟨ct, cc, cr⟩) (fun hHeld2 => ?_)
      clear hKC KC hHeld
      have hHeld := hHeld2
      clear hHeld2
      (try simp only [Act.put, List.setIfInBounds_toArray, List.set_cons_zero, List.set_cons_succ])
      refine wpAnyH_ready (rs := [8]) (by kernel_rfl) (by simp) ?_
      refine AllReadyH.cons (o := { dst := none, op := Op.store 56 (Operand.tmp 8) (Operand.tmp 26), type := 0, pos := "exact.go:3714", after := #[{ on := 7, ground := Ground.data }, { on := 6, ground := Ground.data }, { on := 6, ground := Ground.chain }, { on := 0, ground := Ground.phase }, { on := 1, ground := Ground.phase }, { on := 2, ground := Ground.phase }, { on := 3, ground := Ground.phase }, { on := 4, ground := Ground.phase }, { on := 5, ground := Ground.phase }, { on := 6, ground := Ground.phase }, { on := 7, ground := Ground.phase }], guard := none }) rfl (fun KC hKC => ?_) AllReadyH.nil
      refine step_store_v rfl 56 _ _ rfl bw lX rfl rfl sX cw hnX.out hk6.out ?_
      intro wr8 hOr8 cwx
      replace ct := vblk_only ct hOr8 lt_ct
      replace cc := vblk_only cc hOr8 lt_cc
      replace cr := vblk_only cr hOr8 lt_cr
      replace hC := hC.trans (hOr8.2.2 _ hlv)
      replace cw := cwx
      refine hKC.out _ _ (⟨ct, cc, cr⟩) (fun hHeld2 => ?_)
      clear hKC KC hHeld
      have hHeld := hHeld2
      clear hHeld2
      (try simp only [Act.put])
      refine wpAnyH_done (by kernel_rfl) ?_ _
      go_wp2
      go_meet
      case rel => exact ⟨bw, rfl, hC, ct, cc, cr, cw⟩
  case rest =>
  obtain ⟨bw, rfl, n_hC, n_ct, n_cc, n_cr, n_cw⟩ := hcut
  rename World => w6
  clear ct
  clear cc
  clear cr
  have hC := n_hC
  clear n_hC
  have ct := n_ct
  clear n_ct
  have cc := n_cc
  clear n_cc
  have cr := n_cr
  clear n_cr
  have cw := n_cw
  clear n_cw
  have hz6 : w5.heap.size ≤ w6.heap.size := hC.size
  replace hB := hB.trans (hC.mono (by omega))
  replace hzw := hB.size
  clear hC
  go_upto_region 9 with (fail)
  (try simp only [Act.put])
  (try simp only [List.setIfInBounds_toArray, List.set_cons_zero, List.set_cons_succ])
  go_cut [9] from 27 to 34 (fun s9 wc => ∃ (bg : Nat), s9 = .pointer (some ⟨bg, 0, none⟩) ∧ Below w6.heap.size w6 wc ∧ VBlk wc bt 54 lT ∧ VBlk wc bc 60 lC ∧ VBlk wc br 62 lR ∧ VBlk wc bw 56 lX ∧ VBlk wc bg 56 lX)
  case first =>
    have hC : Below w6.heap.size w6 w6.drew := (Below.refl _ _).drew
    replace ct := vblk_grow ct hC
    replace cc := vblk_grow cc hC
    replace cr := vblk_grow cr hC
    replace cw := vblk_grow cw hC
    refine wp_region_held_drew (S := fun w' => VBlk w' bt 54 lT ∧ VBlk w' bc 60 lC ∧ VBlk w' br 62 lR) (by kernel_rfl) (⟨ct, cc, cr⟩) (fun hHeld => ?_)
    refine wpAnyH_take (i := 0) (oi := { dst := some 27, op := Op.load 54 (Operand.tmp 3), type := 54, pos := "exact.go:3715", after := #[], guard := none }) (v := .agg lT.toArray) rfl (by kernel_rfl) (by kernel_rfl) (by kernel_rfl) (fun _ _ _ h => h) (yieldsIf_load_mid (by rfl) 54 _ rfl bt 0 rfl lT _ (fun w' hw' => hw'.1.range) Try.underlying54 rfl slT) (by assumption) ?_
    (try simp only [Act.put, List.setIfInBounds_toArray, List.set_cons_zero, List.set_cons_succ])
    refine wpAnyH_take (i := 2) (oi := { dst := some 29, op := Op.load 60 (Operand.tmp 4), type := 60, pos := "exact.go:3715", after := #[], guard := none }) (v := .agg lC.toArray) rfl (by kernel_rfl) (by kernel_rfl) (by kernel_rfl) (fun _ _ _ h => h) (yieldsIf_load_mid (by rfl) 60 _ rfl bc 0 rfl lC _ (fun w' hw' => hw'.2.1.range) Try.underlying60 rfl slC) (by assumption) ?_
    (try simp only [Act.put, List.setIfInBounds_toArray, List.set_cons_zero, List.set_cons_succ])
    refine wpAnyH_take (i := 4) (oi := { dst := some 31, op := Op.load 62 (Operand.tmp 5), type := 62, pos := "exact.go:3715", after := #[], guard := none }) (v := .agg lR.toArray) rfl (by kernel_rfl) (by kernel_rfl) (by kernel_rfl) (fun _ _ _ h => h) (yieldsIf_load_mid (by rfl) 62 _ rfl br 0 rfl lR _ (fun w' hw' => hw'.2.2.range) Try.underlying62 rfl slR) (by assumption) ?_
    (try simp only [Act.put, List.setIfInBounds_toArray, List.set_cons_zero, List.set_cons_succ])
    refine wpAnyH_ready (rs := [1, 7]) (by kernel_rfl) (by simp) ?_
    refine AllReadyH.cons (o := { dst := some 28, op := Op.call { callee := Callee.value (Operand.func 34), args := #[Operand.tmp 27], argTypes := #[54] }, type := 56, pos := "exact.go:3715", after := #[{ on := 0, ground := Ground.data }], guard := none }) rfl (fun KC hKC => ?_) (AllReadyH.cons (o := { dst := some 9, op := Op.alloc 56, type := 0, pos := "exact.go:3715", after := #[], guard := none }) rfl (fun KC hKC => ?_) AllReadyH.nil)
    · go_simp
      go_at_call 34
      refine (htoT.out _).mono ?_
      rintro er wr1 ⟨rfl, hBr1⟩
      replace ct := vblk_grow ct hBr1
      replace cc := vblk_grow cc hBr1
      replace cr := vblk_grow cr hBr1
      replace cw := vblk_grow cw hBr1
      replace hC := hC.trans (hBr1.mono hC.size)
      (try replace cg := vblk_grow cg hBr1)
      refine hKC.out _ _ (⟨ct, cc, cr⟩) (fun hHeld2 => ?_)
      clear hKC KC hHeld
      have hHeld := hHeld2
      clear hHeld2
      (try simp only [Act.put, List.setIfInBounds_toArray, List.set_cons_zero, List.set_cons_succ])
      refine wpAnyH_ready (rs := [3, 7]) (by kernel_rfl) (by simp) ?_
      refine AllReadyH.cons (o := { dst := some 30, op := Op.call { callee := Callee.value (Operand.func 39), args := #[Operand.tmp 29], argTypes := #[60] }, type := 66, pos := "exact.go:3715", after := #[{ on := 2, ground := Ground.data }, { on := 1, ground := Ground.chain }], guard := none }) rfl (fun KC hKC => ?_) (AllReadyH.cons (o := { dst := some 9, op := Op.alloc 56, type := 0, pos := "exact.go:3715", after := #[], guard := none }) rfl (fun KC hKC => ?_) AllReadyH.nil)
      · go_simp
        go_at_call 39
        refine (htoC.out _).mono ?_
        rintro er wr3 ⟨rfl, hBr3⟩
        replace ct := vblk_grow ct hBr3
        replace cc := vblk_grow cc hBr3
        replace cr := vblk_grow cr hBr3
        replace cw := vblk_grow cw hBr3
        replace hC := hC.trans (hBr3.mono hC.size)
        (try replace cg := vblk_grow cg hBr3)
        refine hKC.out _ _ (⟨ct, cc, cr⟩) (fun hHeld2 => ?_)
        clear hKC KC hHeld
        have hHeld := hHeld2
        clear hHeld2
        (try simp only [Act.put, List.setIfInBounds_toArray, List.set_cons_zero, List.set_cons_succ])
        refine wpAnyH_ready (rs := [5, 7]) (by kernel_rfl) (by simp) ?_
        refine AllReadyH.cons (o := { dst := some 32, op := Op.call { callee := Callee.value (Operand.func 40), args := #[Operand.tmp 31], argTypes := #[62] }, type := 68, pos := "exact.go:3715", after := #[{ on := 4, ground := Ground.data }, { on := 3, ground := Ground.chain }], guard := none }) rfl (fun KC hKC => ?_) (AllReadyH.cons (o := { dst := some 9, op := Op.alloc 56, type := 0, pos := "exact.go:3715", after := #[], guard := none }) rfl (fun KC hKC => ?_) AllReadyH.nil)
        · go_simp
          go_at_call 40
          refine (htoR.out _).mono ?_
          rintro er wr5 ⟨rfl, hBr5⟩
          replace ct := vblk_grow ct hBr5
          replace cc := vblk_grow cc hBr5
          replace cr := vblk_grow cr hBr5
          replace cw := vblk_grow cw hBr5
          replace hC := hC.trans (hBr5.mono hC.size)
          (try replace cg := vblk_grow cg hBr5)
          refine hKC.out _ _ (⟨ct, cc, cr⟩) (fun hHeld2 => ?_)
          clear hKC KC hHeld
          have hHeld := hHeld2
          clear hHeld2
          (try simp only [Act.put, List.setIfInBounds_toArray, List.set_cons_zero, List.set_cons_succ])
          refine wpAnyH_ready (rs := [6, 7]) (by kernel_rfl) (by simp) ?_
          refine AllReadyH.cons (o := { dst := some 33, op := Op.call { callee := Callee.value (Operand.func 41), args := #[Operand.tmp 28, Operand.tmp 30, Operand.tmp 32], argTypes := #[56, 66, 68] }, type := 56, pos := "exact.go:3715", after := #[{ on := 1, ground := Ground.data }, { on := 3, ground := Ground.data }, { on := 5, ground := Ground.data }, { on := 5, ground := Ground.chain }], guard := none }) rfl (fun KC hKC => ?_) (AllReadyH.cons (o := { dst := some 9, op := Op.alloc 56, type := 0, pos := "exact.go:3715", after := #[], guard := none }) rfl (fun KC hKC => ?_) AllReadyH.nil)
          · go_simp
            go_at_call 41
            refine (hk2.out _).mono ?_
            rintro er wr6 ⟨rfl, hBr6⟩
            replace ct := vblk_grow ct hBr6
            replace cc := vblk_grow cc hBr6
            replace cr := vblk_grow cr hBr6
            replace cw := vblk_grow cw hBr6
            replace hC := hC.trans (hBr6.mono hC.size)
            (try replace cg := vblk_grow cg hBr6)
            refine hKC.out _ _ (⟨ct, cc, cr⟩) (fun hHeld2 => ?_)
            clear hKC KC hHeld
            have hHeld := hHeld2
            clear hHeld2
            (try simp only [Act.put, List.setIfInBounds_toArray, List.set_cons_zero, List.set_cons_succ])
            refine wpAnyH_ready (rs := [7]) (by kernel_rfl) (by simp) ?_
            refine AllReadyH.cons (o := { dst := some 9, op := Op.alloc 56, type := 0, pos := "exact.go:3715", after := #[], guard := none }) rfl (fun KC hKC => ?_) AllReadyH.nil
            refine step_alloc_v rfl 56 rfl _ zeroTl ?_
            intro bg wr7 hbg hwbg hBr7 cg
            have hlv : w6.heap.size ≤ bg := Nat.le_trans hC.size hbg
            have lt_ct := Nat.ne_of_lt (Nat.lt_of_lt_of_le ct.lt hbg)
            have lt_cc := Nat.ne_of_lt (Nat.lt_of_lt_of_le cc.lt hbg)
            have lt_cr := Nat.ne_of_lt (Nat.lt_of_lt_of_le cr.lt hbg)
            have lt_cw := Nat.ne_of_lt (Nat.lt_of_lt_of_le cw.lt hbg)
            replace ct := vblk_grow ct hBr7
            replace cc := vblk_grow cc hBr7
            replace cr := vblk_grow cr hBr7
            replace cw := vblk_grow cw hBr7
            replace hC := hC.trans (hBr7.mono hC.size)
            refine hKC.out _ _ (⟨ct, cc, cr⟩) (fun hHeld2 => ?_)
            clear hKC KC hHeld
            have hHeld := hHeld2
            clear hHeld2
            (try simp only [Act.put, List.setIfInBounds_toArray, List.set_cons_zero, List.set_cons_succ])
            refine wpAnyH_ready (rs := [8]) (by kernel_rfl) (by simp) ?_
            refine AllReadyH.cons (o := { dst := none, op := Op.store 56 (Operand.tmp 9) (Operand.tmp 33), type := 0, pos := "exact.go:3715", after := #[{ on := 7, ground := Ground.data }, { on := 6, ground := Ground.data }, { on := 6, ground := Ground.chain }, { on := 0, ground := Ground.phase }, { on := 1, ground := Ground.phase }, { on := 2, ground := Ground.phase }, { on := 3, ground := Ground.phase }, { on := 4, ground := Ground.phase }, { on := 5, ground := Ground.phase }, { on := 6, ground := Ground.phase }, { on := 7, ground := Ground.phase }], guard := none }) rfl (fun KC hKC => ?_) AllReadyH.nil
            refine step_store_v rfl 56 _ _ rfl bg lX rfl rfl sX cg hnX.out hk6.out ?_
            intro wr8 hOr8 cgx
            replace ct := vblk_only ct hOr8 lt_ct
            replace cc := vblk_only cc hOr8 lt_cc
            replace cr := vblk_only cr hOr8 lt_cr
            replace cw := vblk_only cw hOr8 lt_cw
            replace hC := hC.trans (hOr8.2.2 _ hlv)
            replace cg := cgx
            refine hKC.out _ _ (⟨ct, cc, cr⟩) (fun hHeld2 => ?_)
            clear hKC KC hHeld
            have hHeld := hHeld2
            clear hHeld2
            (try simp only [Act.put])
            refine wpAnyH_done (by kernel_rfl) ?_ _
            go_wp2
            go_meet
            case rel => exact ⟨bg, rfl, hC, ct, cc, cr, cw, cg⟩
          · refine step_alloc_v rfl 56 rfl _ zeroTl ?_
            intro bg wr7 hbg hwbg hBr7 cg
            have hlv : w6.heap.size ≤ bg := Nat.le_trans hC.size hbg
            have lt_ct := Nat.ne_of_lt (Nat.lt_of_lt_of_le ct.lt hbg)
            have lt_cc := Nat.ne_of_lt (Nat.lt_of_lt_of_le cc.lt hbg)
            have lt_cr := Nat.ne_of_lt (Nat.lt_of_lt_of_le cr.lt hbg)
            have lt_cw := Nat.ne_of_lt (Nat.lt_of_lt_of_le cw.lt hbg)
            replace ct := vblk_grow ct hBr7
            replace cc := vblk_grow cc hBr7
            replace cr := vblk_grow cr hBr7
            replace cw := vblk_grow cw hBr7
            replace hC := hC.trans (hBr7.mono hC.size)
            refine hKC.out _ _ (⟨ct, cc, cr⟩) (fun hHeld2 => ?_)
            clear hKC KC hHeld
            have hHeld := hHeld2
            clear hHeld2
            (try simp only [Act.put, List.setIfInBounds_toArray, List.set_cons_zero, List.set_cons_succ])
            refine wpAnyH_ready (rs := [6]) (by kernel_rfl) (by simp) ?_
            refine AllReadyH.cons (o := { dst := some 33, op := Op.call { callee := Callee.value (Operand.func 41), args := #[Operand.tmp 28, Operand.tmp 30, Operand.tmp 32], argTypes := #[56, 66, 68] }, type := 56, pos := "exact.go:3715", after := #[{ on := 1, ground := Ground.data }, { on := 3, ground := Ground.data }, { on := 5, ground := Ground.data }, { on := 5, ground := Ground.chain }], guard := none }) rfl (fun KC hKC => ?_) AllReadyH.nil
            go_simp
            go_at_call 41
            refine (hk2.out _).mono ?_
            rintro er wr6 ⟨rfl, hBr6⟩
            replace ct := vblk_grow ct hBr6
            replace cc := vblk_grow cc hBr6
            replace cr := vblk_grow cr hBr6
            replace cw := vblk_grow cw hBr6
            replace hC := hC.trans (hBr6.mono hC.size)
            (try replace cg := vblk_grow cg hBr6)
            refine hKC.out _ _ (⟨ct, cc, cr⟩) (fun hHeld2 => ?_)
            clear hKC KC hHeld
            have hHeld := hHeld2
            clear hHeld2
            (try simp only [Act.put, List.setIfInBounds_toArray, List.set_cons_zero, List.set_cons_succ])
            refine wpAnyH_ready (rs := [8]) (by kernel_rfl) (by simp) ?_
            refine AllReadyH.cons (o := { dst := none, op := Op.store 56 (Operand.tmp 9) (Operand.tmp 33), type := 0, pos := "exact.go:3715", after := #[{ on := 7, ground := Ground.data }, { on := 6, ground := Ground.data }, { on := 6, ground := Ground.chain }, { on := 0, ground := Ground.phase }, { on := 1, ground := Ground.phase }, { on := 2, ground := Ground.phase }, { on := 3, ground := Ground.phase }, { on := 4, ground := Ground.phase }, { on := 5, ground := Ground.phase }, { on := 6, ground := Ground.phase }, { on := 7, ground := Ground.phase }], guard := none }) rfl (fun KC hKC => ?_) AllReadyH.nil
            refine step_store_v rfl 56 _ _ rfl bg lX rfl rfl sX cg hnX.out hk6.out ?_
            intro wr8 hOr8 cgx
            replace ct := vblk_only ct hOr8 lt_ct
            replace cc := vblk_only cc hOr8 lt_cc
            replace cr := vblk_only cr hOr8 lt_cr
            replace cw := vblk_only cw hOr8 lt_cw
            replace hC := hC.trans (hOr8.2.2 _ hlv)
            replace cg := cgx
            refine hKC.out _ _ (⟨ct, cc, cr⟩) (fun hHeld2 => ?_)
            clear hKC KC hHeld
            have hHeld := hHeld2
            clear hHeld2
            (try simp only [Act.put])
            refine wpAnyH_done (by kernel_rfl) ?_ _
            go_wp2
            go_meet
            case rel => exact ⟨bg, rfl, hC, ct, cc, cr, cw, cg⟩
        · refine step_alloc_v rfl 56 rfl _ zeroTl ?_
          intro bg wr7 hbg hwbg hBr7 cg
          have hlv : w6.heap.size ≤ bg := Nat.le_trans hC.size hbg
          have lt_ct := Nat.ne_of_lt (Nat.lt_of_lt_of_le ct.lt hbg)
          have lt_cc := Nat.ne_of_lt (Nat.lt_of_lt_of_le cc.lt hbg)
          have lt_cr := Nat.ne_of_lt (Nat.lt_of_lt_of_le cr.lt hbg)
          have lt_cw := Nat.ne_of_lt (Nat.lt_of_lt_of_le cw.lt hbg)
          replace ct := vblk_grow ct hBr7
          replace cc := vblk_grow cc hBr7
          replace cr := vblk_grow cr hBr7
          replace cw := vblk_grow cw hBr7
          replace hC := hC.trans (hBr7.mono hC.size)
          refine hKC.out _ _ (⟨ct, cc, cr⟩) (fun hHeld2 => ?_)
          clear hKC KC hHeld
          have hHeld := hHeld2
          clear hHeld2
          (try simp only [Act.put, List.setIfInBounds_toArray, List.set_cons_zero, List.set_cons_succ])
          refine wpAnyH_ready (rs := [5]) (by kernel_rfl) (by simp) ?_
          refine AllReadyH.cons (o := { dst := some 32, op := Op.call { callee := Callee.value (Operand.func 40), args := #[Operand.tmp 31], argTypes := #[62] }, type := 68, pos := "exact.go:3715", after := #[{ on := 4, ground := Ground.data }, { on := 3, ground := Ground.chain }], guard := none }) rfl (fun KC hKC => ?_) AllReadyH.nil
          go_simp
          go_at_call 40
          refine (htoR.out _).mono ?_
          rintro er wr5 ⟨rfl, hBr5⟩
          replace ct := vblk_grow ct hBr5
          replace cc := vblk_grow cc hBr5
          replace cr := vblk_grow cr hBr5
          replace cw := vblk_grow cw hBr5
          replace hC := hC.trans (hBr5.mono hC.size)
          (try replace cg := vblk_grow cg hBr5)
          refine hKC.out _ _ (⟨ct, cc, cr⟩) (fun hHeld2 => ?_)
          clear hKC KC hHeld
          have hHeld := hHeld2
          clear hHeld2
          (try simp only [Act.put, List.setIfInBounds_toArray, List.set_cons_zero, List.set_cons_succ])
          refine wpAnyH_ready (rs := [6]) (by kernel_rfl) (by simp) ?_
          refine AllReadyH.cons (o := { dst := some 33, op := Op.call { callee := Callee.value (Operand.func 41), args := #[Operand.tmp 28, Operand.tmp 30, Operand.tmp 32], argTypes := #[56, 66, 68] }, type := 56, pos := "exact.go:3715", after := #[{ on := 1, ground := Ground.data }, { on := 3, ground := Ground.data }, { on := 5, ground := Ground.data }, { on := 5, ground := Ground.chain }], guard := none }) rfl (fun KC hKC => ?_) AllReadyH.nil
          go_simp
          go_at_call 41
          refine (hk2.out _).mono ?_
          rintro er wr6 ⟨rfl, hBr6⟩
          replace ct := vblk_grow ct hBr6
          replace cc := vblk_grow cc hBr6
          replace cr := vblk_grow cr hBr6
          replace cw := vblk_grow cw hBr6
          replace hC := hC.trans (hBr6.mono hC.size)
          (try replace cg := vblk_grow cg hBr6)
          refine hKC.out _ _ (⟨ct, cc, cr⟩) (fun hHeld2 => ?_)
          clear hKC KC hHeld
          have hHeld := hHeld2
          clear hHeld2
          (try simp only [Act.put, List.setIfInBounds_toArray, List.set_cons_zero, List.set_cons_succ])
          refine wpAnyH_ready (rs := [8]) (by kernel_rfl) (by simp) ?_
          refine AllReadyH.cons (o := { dst := none, op := Op.store 56 (Operand.tmp 9) (Operand.tmp 33), type := 0, pos := "exact.go:3715", after := #[{ on := 7, ground := Ground.data }, { on := 6, ground := Ground.data }, { on := 6, ground := Ground.chain }, { on := 0, ground := Ground.phase }, { on := 1, ground := Ground.phase }, { on := 2, ground := Ground.phase }, { on := 3, ground := Ground.phase }, { on := 4, ground := Ground.phase }, { on := 5, ground := Ground.phase }, { on := 6, ground := Ground.phase }, { on := 7, ground := Ground.phase }], guard := none }) rfl (fun KC hKC => ?_) AllReadyH.nil
          refine step_store_v rfl 56 _ _ rfl bg lX rfl rfl sX cg hnX.out hk6.out ?_
          intro wr8 hOr8 cgx
          replace ct := vblk_only ct hOr8 lt_ct
          replace cc := vblk_only cc hOr8 lt_cc
          replace cr := vblk_only cr hOr8 lt_cr
          replace cw := vblk_only cw hOr8 lt_cw
          replace hC := hC.trans (hOr8.2.2 _ hlv)
          replace cg := cgx
          refine hKC.out _ _ (⟨ct, cc, cr⟩) (fun hHeld2 => ?_)
          clear hKC KC hHeld
          have hHeld := hHeld2
          clear hHeld2
          (try simp only [Act.put])
          refine wpAnyH_done (by kernel_rfl) ?_ _
          go_wp2
          go_meet
          case rel => exact ⟨bg, rfl, hC, ct, cc, cr, cw, cg⟩
      · refine step_alloc_v rfl 56 rfl _ zeroTl ?_
        intro bg wr7 hbg hwbg hBr7 cg
        have hlv : w6.heap.size ≤ bg := Nat.le_trans hC.size hbg
        have lt_ct := Nat.ne_of_lt (Nat.lt_of_lt_of_le ct.lt hbg)
        have lt_cc := Nat.ne_of_lt (Nat.lt_of_lt_of_le cc.lt hbg)
        have lt_cr := Nat.ne_of_lt (Nat.lt_of_lt_of_le cr.lt hbg)
        have lt_cw := Nat.ne_of_lt (Nat.lt_of_lt_of_le cw.lt hbg)
        replace ct := vblk_grow ct hBr7
        replace cc := vblk_grow cc hBr7
        replace cr := vblk_grow cr hBr7
        replace cw := vblk_grow cw hBr7
        replace hC := hC.trans (hBr7.mono hC.size)
        refine hKC.out _ _ (⟨ct, cc, cr⟩) (fun hHeld2 => ?_)
        clear hKC KC hHeld
        have hHeld := hHeld2
        clear hHeld2
        (try simp only [Act.put, List.setIfInBounds_toArray, List.set_cons_zero, List.set_cons_succ])
        refine wpAnyH_ready (rs := [3]) (by kernel_rfl) (by simp) ?_
        refine AllReadyH.cons (o := { dst := some 30, op := Op.call { callee := Callee.value (Operand.func 39), args := #[Operand.tmp 29], argTypes := #[60] }, type := 66, pos := "exact.go:3715", after := #[{ on := 2, ground := Ground.data }, { on := 1, ground := Ground.chain }], guard := none }) rfl (fun KC hKC => ?_) AllReadyH.nil
        go_simp
        go_at_call 39
        refine (htoC.out _).mono ?_
        rintro er wr3 ⟨rfl, hBr3⟩
        replace ct := vblk_grow ct hBr3
        replace cc := vblk_grow cc hBr3
        replace cr := vblk_grow cr hBr3
        replace cw := vblk_grow cw hBr3
        replace hC := hC.trans (hBr3.mono hC.size)
        (try replace cg := vblk_grow cg hBr3)
        refine hKC.out _ _ (⟨ct, cc, cr⟩) (fun hHeld2 => ?_)
        clear hKC KC hHeld
        have hHeld := hHeld2
        clear hHeld2
        (try simp only [Act.put, List.setIfInBounds_toArray, List.set_cons_zero, List.set_cons_succ])
        refine wpAnyH_ready (rs := [5]) (by kernel_rfl) (by simp) ?_
        refine AllReadyH.cons (o := { dst := some 32, op := Op.call { callee := Callee.value (Operand.func 40), args := #[Operand.tmp 31], argTypes := #[62] }, type := 68, pos := "exact.go:3715", after := #[{ on := 4, ground := Ground.data }, { on := 3, ground := Ground.chain }], guard := none }) rfl (fun KC hKC => ?_) AllReadyH.nil
        go_simp
        go_at_call 40
        refine (htoR.out _).mono ?_
        rintro er wr5 ⟨rfl, hBr5⟩
        replace ct := vblk_grow ct hBr5
        replace cc := vblk_grow cc hBr5
        replace cr := vblk_grow cr hBr5
        replace cw := vblk_grow cw hBr5
        replace hC := hC.trans (hBr5.mono hC.size)
        (try replace cg := vblk_grow cg hBr5)
        refine hKC.out _ _ (⟨ct, cc, cr⟩) (fun hHeld2 => ?_)
        clear hKC KC hHeld
        have hHeld := hHeld2
        clear hHeld2
        (try simp only [Act.put, List.setIfInBounds_toArray, List.set_cons_zero, List.set_cons_succ])
        refine wpAnyH_ready (rs := [6]) (by kernel_rfl) (by simp) ?_
        refine AllReadyH.cons (o := { dst := some 33, op := Op.call { callee := Callee.value (Operand.func 41), args := #[Operand.tmp 28, Operand.tmp 30, Operand.tmp 32], argTypes := #[56, 66, 68] }, type := 56, pos := "exact.go:3715", after := #[{ on := 1, ground := Ground.data }, { on := 3, ground := Ground.data }, { on := 5, ground := Ground.data }, { on := 5, ground := Ground.chain }], guard := none }) rfl (fun KC hKC => ?_) AllReadyH.nil
        go_simp
        go_at_call 41
        refine (hk2.out _).mono ?_
        rintro er wr6 ⟨rfl, hBr6⟩
        replace ct := vblk_grow ct hBr6
        replace cc := vblk_grow cc hBr6
        replace cr := vblk_grow cr hBr6
        replace cw := vblk_grow cw hBr6
        replace hC := hC.trans (hBr6.mono hC.size)
        (try replace cg := vblk_grow cg hBr6)
        refine hKC.out _ _ (⟨ct, cc, cr⟩) (fun hHeld2 => ?_)
        clear hKC KC hHeld
        have hHeld := hHeld2
        clear hHeld2
        (try simp only [Act.put, List.setIfInBounds_toArray, List.set_cons_zero, List.set_cons_succ])
        refine wpAnyH_ready (rs := [8]) (by kernel_rfl) (by simp) ?_
        refine AllReadyH.cons (o := { dst := none, op := Op.store 56 (Operand.tmp 9) (Operand.tmp 33), type := 0, pos := "exact.go:3715", after := #[{ on := 7, ground := Ground.data }, { on := 6, ground := Ground.data }, { on := 6, ground := Ground.chain }, { on := 0, ground := Ground.phase }, { on := 1, ground := Ground.phase }, { on := 2, ground := Ground.phase }, { on := 3, ground := Ground.phase }, { on := 4, ground := Ground.phase }, { on := 5, ground := Ground.phase }, { on := 6, ground := Ground.phase }, { on := 7, ground := Ground.phase }], guard := none }) rfl (fun KC hKC => ?_) AllReadyH.nil
        refine step_store_v rfl 56 _ _ rfl bg lX rfl rfl sX cg hnX.out hk6.out ?_
        intro wr8 hOr8 cgx
        replace ct := vblk_only ct hOr8 lt_ct
        replace cc := vblk_only cc hOr8 lt_cc
        replace cr := vblk_only cr hOr8 lt_cr
        replace cw := vblk_only cw hOr8 lt_cw
        replace hC := hC.trans (hOr8.2.2 _ hlv)
        replace cg := cgx
        refine hKC.out _ _ (⟨ct, cc, cr⟩) (fun hHeld2 => ?_)
        clear hKC KC hHeld
        have hHeld := hHeld2
        clear hHeld2
        (try simp only [Act.put])
        refine wpAnyH_done (by kernel_rfl) ?_ _
        go_wp2
        go_meet
        case rel => exact ⟨bg, rfl, hC, ct, cc, cr, cw, cg⟩
    · refine step_alloc_v rfl 56 rfl _ zeroTl ?_
      intro bg wr7 hbg hwbg hBr7 cg
      have hlv : w6.heap.size ≤ bg := Nat.le_trans hC.size hbg
      have lt_ct := Nat.ne_of_lt (Nat.lt_of_lt_of_le ct.lt hbg)
      have lt_cc := Nat.ne_of_lt (Nat.lt_of_lt_of_le cc.lt hbg)
      have lt_cr := Nat.ne_of_lt (Nat.lt_of_lt_of_le cr.lt hbg)
      have lt_cw := Nat.ne_of_lt (Nat.lt_of_lt_of_le cw.lt hbg)
      replace ct := vblk_grow ct hBr7
      replace cc := vblk_grow cc hBr7
      replace cr := vblk_grow cr hBr7
      replace cw := vblk_grow cw hBr7
      replace hC := hC.trans (hBr7.mono hC.size)
      refine hKC.out _ _ (⟨ct, cc, cr⟩) (fun hHeld2 => ?_)
      clear hKC KC hHeld
      have hHeld := hHeld2
      clear hHeld2
      (try simp only [Act.put, List.setIfInBounds_toArray, List.set_cons_zero, List.set_cons_succ])
      refine wpAnyH_ready (rs := [1]) (by kernel_rfl) (by simp) ?_
      refine AllReadyH.cons (o := { dst := some 28, op := Op.call { callee := Callee.value (Operand.func 34), args := #[Operand.tmp 27], argTypes := #[54] }, type := 56, pos := "exact.go:3715", after := #[{ on := 0, ground := Ground.data }], guard := none }) rfl (fun KC hKC => ?_) AllReadyH.nil
      go_simp
      go_at_call 34
      refine (htoT.out _).mono ?_
      rintro er wr1 ⟨rfl, hBr1⟩
      replace ct := vblk_grow ct hBr1
      replace cc := vblk_grow cc hBr1
      replace cr := vblk_grow cr hBr1
      replace cw := vblk_grow cw hBr1
      replace hC := hC.trans (hBr1.mono hC.size)
      (try replace cg := vblk_grow cg hBr1)
      refine hKC.out _ _ (⟨ct, cc, cr⟩) (fun hHeld2 => ?_)
      clear hKC KC hHeld
      have hHeld := hHeld2
      clear hHeld2
      (try simp only [Act.put, List.setIfInBounds_toArray, List.set_cons_zero, List.set_cons_succ])
      refine wpAnyH_ready (rs := [3]) (by kernel_rfl) (by simp) ?_
      refine AllReadyH.cons (o := { dst := some 30, op := Op.call { callee := Callee.value (Operand.func 39), args := #[Operand.tmp 29], argTypes := #[60] }, type := 66, pos := "exact.go:3715", after := #[{ on := 2, ground := Ground.data }, { on := 1, ground := Ground.chain }], guard := none }) rfl (fun KC hKC => ?_) AllReadyH.nil
      go_simp
      go_at_call 39
      refine (htoC.out _).mono ?_
      rintro er wr3 ⟨rfl, hBr3⟩
      replace ct := vblk_grow ct hBr3
      replace cc := vblk_grow cc hBr3
      replace cr := vblk_grow cr hBr3
      replace cw := vblk_grow cw hBr3
      replace hC := hC.trans (hBr3.mono hC.size)
      (try replace cg := vblk_grow cg hBr3)
      refine hKC.out _ _ (⟨ct, cc, cr⟩) (fun hHeld2 => ?_)
      clear hKC KC hHeld
      have hHeld := hHeld2
      clear hHeld2
      (try simp only [Act.put, List.setIfInBounds_toArray, List.set_cons_zero, List.set_cons_succ])
      refine wpAnyH_ready (rs := [5]) (by kernel_rfl) (by simp) ?_
      refine AllReadyH.cons (o := { dst := some 32, op := Op.call { callee := Callee.value (Operand.func 40), args := #[Operand.tmp 31], argTypes := #[62] }, type := 68, pos := "exact.go:3715", after := #[{ on := 4, ground := Ground.data }, { on := 3, ground := Ground.chain }], guard := none }) rfl (fun KC hKC => ?_) AllReadyH.nil
      go_simp
      go_at_call 40
      refine (htoR.out _).mono ?_
      rintro er wr5 ⟨rfl, hBr5⟩
      replace ct := vblk_grow ct hBr5
      replace cc := vblk_grow cc hBr5
      replace cr := vblk_grow cr hBr5
      replace cw := vblk_grow cw hBr5
      replace hC := hC.trans (hBr5.mono hC.size)
      (try replace cg := vblk_grow cg hBr5)
      refine hKC.out _ _ (⟨ct, cc, cr⟩) (fun hHeld2 => ?_)
      clear hKC KC hHeld
      have hHeld := hHeld2
      clear hHeld2
      (try simp only [Act.put, List.setIfInBounds_toArray, List.set_cons_zero, List.set_cons_succ])
      refine wpAnyH_ready (rs := [6]) (by kernel_rfl) (by simp) ?_
      refine AllReadyH.cons (o := { dst := some 33, op := Op.call { callee := Callee.value (Operand.func 41), args := #[Operand.tmp 28, Operand.tmp 30, Operand.tmp 32], argTypes := #[56, 66, 68] }, type := 56, pos := "exact.go:3715", after := #[{ on := 1, ground := Ground.data }, { on := 3, ground := Ground.data }, { on := 5, ground := Ground.data }, { on := 5, ground := Ground.chain }], guard := none }) rfl (fun KC hKC => ?_) AllReadyH.nil
      go_simp
      go_at_call 41
      refine (hk2.out _).mono ?_
      rintro er wr6 ⟨rfl, hBr6⟩
      replace ct := vblk_grow ct hBr6
      replace cc := vblk_grow cc hBr6
      replace cr := vblk_grow cr hBr6
      replace cw := vblk_grow cw hBr6
      replace hC := hC.trans (hBr6.mono hC.size)
      (try replace cg := vblk_grow cg hBr6)
      refine hKC.out _ _ (⟨ct, cc, cr⟩) (fun hHeld2 => ?_)
      clear hKC KC hHeld
      have hHeld := hHeld2
      clear hHeld2
      (try simp only [Act.put, List.setIfInBounds_toArray, List.set_cons_zero, List.set_cons_succ])
      refine wpAnyH_ready (rs := [8]) (by kernel_rfl) (by simp) ?_
      refine AllReadyH.cons (o := { dst := none, op := Op.store 56 (Operand.tmp 9) (Operand.tmp 33), type := 0, pos := "exact.go:3715", after := #[{ on := 7, ground := Ground.data }, { on := 6, ground := Ground.data }, { on := 6, ground := Ground.chain }, { on := 0, ground := Ground.phase }, { on := 1, ground := Ground.phase }, { on := 2, ground := Ground.phase }, { on := 3, ground := Ground.phase }, { on := 4, ground := Ground.phase }, { on := 5, ground := Ground.phase }, { on := 6, ground := Ground.phase }, { on := 7, ground := Ground.phase }], guard := none }) rfl (fun KC hKC => ?_) AllReadyH.nil
      refine step_store_v rfl 56 _ _ rfl bg lX rfl rfl sX cg hnX.out hk6.out ?_
      intro wr8 hOr8 cgx
      replace ct := vblk_only ct hOr8 lt_ct
      replace cc := vblk_only cc hOr8 lt_cc
      replace cr := vblk_only cr hOr8 lt_cr
      replace cw := vblk_only cw hOr8 lt_cw
      replace hC := hC.trans (hOr8.2.2 _ hlv)
      replace cg := cgx
      refine hKC.out _ _ (⟨ct, cc, cr⟩) (fun hHeld2 => ?_)
      clear hKC KC hHeld
      have hHeld := hHeld2
      clear hHeld2
      (try simp only [Act.put])
      refine wpAnyH_done (by kernel_rfl) ?_ _
      go_wp2
      go_meet
      case rel => exact ⟨bg, rfl, hC, ct, cc, cr, cw, cg⟩
  case rest =>
  obtain ⟨bg, rfl, n_hC, n_ct, n_cc, n_cr, n_cw, n_cg⟩ := hcut
  rename World => w7
  clear ct
  clear cc
  clear cr
  clear cw
  have hC := n_hC
  clear n_hC
  have ct := n_ct
  clear n_ct
  have cc := n_cc
  clear n_cc
  have cr := n_cr
  clear n_cr
  have cw := n_cw
  clear n_cw
  have cg := n_cg
  clear n_cg
  have hz7 : w6.heap.size ≤ w7.heap.size := hC.size
  replace hB := hB.trans (hC.mono (by omega))
  replace hzw := hB.size
  clear hC
  have mk8 : Hid True := trivial
  have mk9 : Hid True := trivial
  have mk10 : Hid True := trivial
  go_wp2_with (first | (clear mk8; refine wpList_load_r rfl 56 _ rfl bg 0 lX rfl _ Try.underlying56 rfl sX cg.range ?_) | (clear mk9; refine wpList_load_r rfl 56 _ rfl bw 0 lX rfl _ Try.underlying56 rfl sX cw.range ?_) | (clear mk10; go_at_call 42; refine (hk3.out _).mono ?_; rintro er w8 ⟨rfl, hB8⟩; have hz8 : w7.heap.size ≤ w8.heap.size := hB8.size; replace ct := vblk_grow ct hB8; replace cc := vblk_grow cc hB8; replace cr := vblk_grow cr hB8; replace cw := vblk_grow cw hB8; replace cg := vblk_grow cg hB8; replace hB := hB.trans (hB8.mono (by omega)); replace hzw := hB.size) | (fail))
  go_ret
  exact ⟨rfl, hB⟩


/-! ### the row, by the frame -/
set_option maxRecDepth 100000 in
theorem lifted (os : Os) (started : os.Started) (H : Type) (enc : TypeId × Value → H) :
    ReturnsInHanded {} Try.checked os 8 .any (Rows.fnExactCountedSpec.pre6 enc Try.prog Try.f8 Rows.fnExactCountedRow.domain false) (Rows.fnExactCountedSpec.post enc Try.prog Try.f8 false true false false) := by
  refine returnsInHanded_of_change (C := Try.checked) own started (by kernel_rfl) Try.func8
    (ChangeSpec.witness6 (enc := enc) (C := Try.checked) false ⟨#[], #[.agg #[.int .i64 0, .int .i64 0, .int .i64 0, .int .i64 0, .int .i64 0], .agg #[.int .i64 0, .string ByteArray.empty, .int .i64 0, .int .i64 0, .string ByteArray.empty, .int .i64 0, .int .i64 0, .bool false], .agg #[.int .i64 0, .string ByteArray.empty, .int .i64 0, .string ByteArray.empty, .int .i64 0, .int .i64 0]], []⟩ 8 (by kernel_rfl) (by kernel_rfl) (by kernel_rfl) (by kernel_rfl)) ?_
  intro W base args ds gs before hval0 hW hcnd _
  have hval : ∀ (j : Nat) t v, Try.f8.params[j]? = some t → args[j]? = some v → Value.okWide Try.prog W .any base t v := hval0
  have hW' := hW
  obtain ⟨p, q, hA0, hV, rfl, hfz, hnd⟩ := hW
  have hA : DataW.TrodAll enc Try.prog W 0 (fun _ => true) true Try.f8.params.toList args.toList ds p := hA0
  rw [Try.params8] at hA hval
  obtain ⟨v0, vs0, d0, ds0, p0, q0, hargs, rfl, rfl, h0, r0⟩ := trodAll_cons hA
  obtain ⟨v1, vs1, d1, ds1, p1, q1, rfl, rfl, rfl, h1, r1⟩ := trodAll_cons r0
  obtain ⟨v2, vs2, d2, ds2, p2, q2, rfl, rfl, rfl, h2, r2⟩ := trodAll_cons r1
  obtain ⟨rfl, rfl, rfl⟩ := trodAll_nil r2
  obtain rfl : args = #[v0, v1, v2] := by cases args; simp_all
  obtain ⟨rfl, rfl⟩ := trodVars_none hV
  have k0 := h0
  have lt0 : ∀ x ∈ p0, x.block < W.heap.size := by obtain ⟨m, hm⟩ := k0; exact DataW.trod_lt m _ _ _ hm
  obtain ⟨A0, H0, S0, D0, O0, rfl, -⟩ := openTl (hval 0 54 v0 rfl rfl) h0
  have k1 := h1
  have lt1 : ∀ x ∈ p1, x.block < W.heap.size := by obtain ⟨m, hm⟩ := k1; exact DataW.trod_lt m _ _ _ hm
  obtain ⟨V1, N1, F1, U1, B1, C1, E1, Q1, rfl, sN1, sB1⟩ := openCm (hval 1 60 v1 rfl rfl) h1
  have k2 := h2
  have lt2 : ∀ x ∈ p2, x.block < W.heap.size := by obtain ⟨m, hm⟩ := k2; exact DataW.trod_lt m _ _ _ hm
  obtain ⟨K2, N2, F2, B2, C2, M2, rfl, sN2, sB2⟩ := openRp (hval 2 62 v2 rfl rfl) h2
  clear hA0 hval0
  refine (walk A0 H0 S0 D0 O0 V1 N1 F1 U1 B1 C1 E1 Q1 K2 N2 F2 B2 C2 M2 W sN1 sB1 sN2 sB2).mono fun e W' ⟨he, bel⟩ => ?_
  subst he
  exact ⟨_, rfl, _, _, _, [], _, [], hW', trodAll_mk1 (shut_bool Try.underlying4 _), (trodAll_cons_mk (Below.trod laidOut (by kernel_rfl) (of_decide_eq_true (by kernel_rfl)) k0 bel lt0) (trodAll_cons_mk (Below.trod laidOut (by kernel_rfl) (of_decide_eq_true (by kernel_rfl)) k1 bel lt1) (trodAll_cons_mk (Below.trod laidOut (by kernel_rfl) (of_decide_eq_true (by kernel_rfl)) k2 bel lt2) trodAll_mk0))), rfl, bel.frame _, fun h => by cases h⟩

theorem over : Rows.fnExactCountedRow.holds Try.pinned (OpenSpec.ofChange Rows.fnExactCountedSpec) :=
  OpenClaim.holds_of_wide 8 Try.f8 rfl rfl rfl rfl rfl rfl rfl ⟨rfl, rfl, rfl, rfl, rfl⟩ rfl rfl rfl rfl rfl (by kernel_rfl) Try.func8 (by kernel_rfl)
    (of_decide_eq_true (by kernel_rfl)) (by unfold Func.isWrapper; first | (rw [if_pos (by decide +kernel)]; kernel_rfl) | (rw [if_neg (by decide +kernel)]; exact ⟨rfl, rfl⟩))
    (fun os started H enc _ => lifted os started H enc)

/-- the statement -/
theorem proved : Rows.FnExactCountedSaid := over
end Go.Proofs.Ytjkhmahdokcgeaa.fnExactCounted

namespace Go.Proofs.Ytjkhmahdokcgeaa
/-- the statement, under its short name -/
theorem fnExactCounted_holds : Rows.FnExactCountedSaid := fnExactCounted.proved
#print axioms fnExactCounted_holds
end Go.Proofs.Ytjkhmahdokcgeaa
