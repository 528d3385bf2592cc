/- The program's Stamped. -/
import Derived.Test.YtjkkjpgebcnhgaaGreatDoorMg13
import Derived.Test.YtjkkjpgebcnhgaaGreatDoorMg12
import Derived.Deep.RegionHeld3
import Derived.Deep.DeepCutAuto
namespace Go.Proofs.YtjkkjpgebcnhgaaGreatDoor.rg
open Go.ChangeShapes Go.WideShapes Go.ChangeAt Go.RowKit
open Go.Deep Go.Joins
open Go.Proofs.YtjkkjpgebcnhgaaGreatDoor.ce Go.Proofs.YtjkkjpgebcnhgaaGreatDoor.ro
set_option linter.unusedVariables false

/-- while the new book is made -/
structure S4 (w : World) (b1 b2 b3 : Nat) (v : Value) (X : Int) (is : List Value) (wr : World) : Prop where
  low : Below w.heap.size w wr
  v1 : VBlk wr b1 31 [v, .int .i64 X]
  v2 : VBlk wr b2 31 [.slice none 0 0, .int .i64 0]
  v3 : VBlk wr b3 56 is
section
variable {w wr w' : World} {b1 b2 b3 : Nat} {v v0 u1 u2 u3 u4 u5 : Value} {X : Int} {is : List Value}
theorem S4.grow (s : S4 w b1 b2 b3 v X is wr) (hB : Below wr.heap.size wr w') : S4 w b1 b2 b3 v X is w' := ⟨s.low.trans (hB.mono s.low.size), vblk_grow s.v1 hB, vblk_grow s.v2 hB, vblk_grow s.v3 hB⟩
theorem S4.only {b : Nat} (s : S4 w b1 b2 b3 v X is wr) (hO : Only b wr w') (h0 : w.heap.size ≤ b) (h1 : b1 ≠ b) (h2 : b2 ≠ b) (h3 : b3 ≠ b) : S4 w b1 b2 b3 v X is w' := ⟨s.low.trans (hO.2.2 _ h0), vblk_only s.v1 hO h1, vblk_only s.v2 hO h2, vblk_only s.v3 hO h3⟩
theorem s4_cells (s : S4 w b1 b2 b3 v X [u1, u2, u3, u4, u5] wr) : wr.cell? ⟨b1, 0, none⟩ = some v ∧ wr.cell? ⟨b1, 1, none⟩ = some (.int .i64 X) ∧ wr.cell? ⟨b3, 0, none⟩ = some u1 ∧ wr.cell? ⟨b3, 1, none⟩ = some u2 ∧ wr.cell? ⟨b3, 2, none⟩ = some u3 ∧ wr.cell? ⟨b3, 3, none⟩ = some u4 ∧ wr.cell? ⟨b3, 4, none⟩ = some u5 :=
  ⟨(cells2 s.v1).1, (cells2 s.v1).2, cells5 s.v3⟩
/-- the new book lies in b6 -/
structure S5 (w : World) (b1 b2 b3 b6 : Nat) (v : Value) (X : Int) (is : List Value) (u6 : Value) (Y : Int) (P : List It) (wr : World) : Prop where
  q : S4 w b1 b2 b3 v X is wr
  v6 : VBlk wr b6 31 [u6, .int .i64 Y]
  lt : b2 < b6
  o : Own encIt wr w.heap.size wr.heap.size u6 P
end
theorem sm_put {I : List It} {N B : ByteArray} {F C U : Int} (h : SmK I) (hS : Srt I) (hN : N.size ≤ 1048576) (hB : B.size ≤ 1048576) : SmK (putL I ⟨N, F, B, C, U⟩) := fun x hx => by
  rcases (put_mem hS _ x).1 hx with rfl | ⟨q, -⟩
  · exact ⟨hN, hB⟩
  · exact h x q
set_option maxRecDepth 100000 in
set_option maxHeartbeats 8000000 in
theorem implStamped_any (I : List It) (X : Int) (N B : ByteArray) (F C U : Int) (v : Value) (w : World) (r : Rd encIt w v I) (hs : SmK I) (hl : I.length ≤ 1048576) (hN : N.size ≤ 1048576) (hBs : B.size ≤ 1048576) :
    Calls Tryz.prog 28 #[.agg #[v, .int .i64 X], .agg #[.string N, .int .i64 F, .string B, .int .i64 C, .int .i64 U]] w fun e w' => PostS I X ⟨N, F, B, C, U⟩ w e w' := by
  obtain ⟨a, cap, rfl⟩ := r.form
  have R : Hid (Rd encIt w (.slice a I.length cap) I) := r
  have HS : Hid (SmK I) := hs
  clear r hs
  have k1 : Hid True := trivial
  have k2 : Hid True := trivial
  have k3 : Hid True := trivial
  have k4 : Hid True := trivial
  have k5 : Hid True := trivial
  have k6 : Hid True := trivial
  have k7 : Hid True := trivial
  have k8 : Hid True := trivial
  have k9 : Hid True := trivial
  cases hst : storeB ⟨I, X⟩ with
  | false =>
    have HY : Hid (storeB ⟨I, X⟩ = false) := hst
    have e1 : stR ⟨I, X⟩ ⟨N, F, B, C, U⟩ = Bk.zero := by unfold stR; rw [hst]; rfl
    have e2 : stB ⟨I, X⟩ ⟨N, F, B, C, U⟩ = false := by unfold stB; rw [hst]; rfl
    unfold PostS
    rw [e1, e2]
    unfold Bk.zero
    clear e1 e2 hst
    go_enter Tryz.func28, Tryz.ntmps28
    go_wp2_with (first | (clear k1; refine wpList_box_v rfl 31 _ rfl [.slice a I.length cap, .int .i64 X] rfl ?_; intro b1 w1 hb1 hw1 hB1 V1; have hz1 := hB1.size) | (clear k2; refine wpList_box_v rfl 56 _ rfl [.string N, .int .i64 F, .string B, .int .i64 C, .int .i64 U] rfl ?_; intro b3 w2 hb3 hw3 hB2 V3; have hz2 := hB2.size; have V1b := vblk_grow V1 hB2) | (clear k3; refine wpList_alloc_v rfl 31 rfl _ zeroBk ?_; intro b2 w3 hb2 hw2 hB3 V2; have hz3 := hB3.size; have V1c := vblk_grow V1b hB3; have hB13 : Below w.heap.size w w3 := (hB1.trans (hB2.mono hz1)).trans (hB3.mono (by omega))) | (clear k4; refine wpList_load_r rfl 31 _ rfl b1 0 [.slice a I.length cap, .int .i64 X] rfl _ Tryz.underlying31 rfl sizeBk V1c.range ?_) | (go_at_call 19; refine (implStoreOk_any I X _ false HY _ (R.out.grow hB13) HS.out).mono ?_; rintro e w4 ⟨rfl, hB4⟩; have V2d := vblk_grow V2 hB4; have hz4 := hB4.size; have hB14 : Below w.heap.size w w4 := hB13.trans (hB4.mono hB13.size)) | (refine wpList_store_v rfl 31 _ _ rfl b2 [.slice none 0 0, .int .i64 0] rfl rfl sizeBk V2d rfl (oneBk _ _ _ _) ?_; intro w5 hO5 V5) | (fail))
    exact row_ct rfl rfl rfl V5 Tryz.underlying31 sizeBk rfl ⟨_, rfl, own_zero _ _ _ _ _, hB14.trans (hO5.2.2 _ (by omega))⟩
  | true =>
    have HY : Hid (storeB ⟨I, X⟩ = true) := hst
    have OK := storeB_iff.1 hst
    have hl20 : I.length ≤ 20 := OK.bk.2.2
    have HSr : Hid (Srt I) := OK.bk.srt
    have hX0 : 1 ≤ X := OK.x0
    have hX1 : X ≤ 1000000 := OK.x1
    obtain ⟨y, hy⟩ := hid_ex (stampOk ⟨I, X⟩ ⟨N, F, B, C, U⟩)
    have hy2 : Hid (storeB ⟨putL I ⟨N, F, B, X, U⟩, nextX X⟩ = y) := by
      have := stamp_iff OK ⟨N, F, B, C, U⟩
      rw [hy.out] at this
      exact this
    have e1 : (stR ⟨I, X⟩ ⟨N, F, B, C, U⟩).X = if y = true then nextX X else X := by unfold stR; rw [hst, hy.out]; cases y <;> rfl
    have e2 : stB ⟨I, X⟩ ⟨N, F, B, C, U⟩ = y := by unfold stB; rw [hst, hy.out]; rfl
    have e3 : (stR ⟨I, X⟩ ⟨N, F, B, C, U⟩).I = if y = true then putL I ⟨N, F, B, X, U⟩ else I := by unfold stR; rw [hst, hy.out]; cases y <;> rfl
    unfold PostS
    rw [e1, e2, e3]
    have HSP : Hid (SmK (putL I ⟨N, F, B, X, U⟩)) := sm_put HS.out HSr.out hN hBs
    obtain ⟨P, hP⟩ := hid_ex (putL I ⟨N, F, B, X, U⟩)
    obtain ⟨Y, hYY⟩ := hid_ex (nextX X)
    rw [hP.out] at hy2 HSP ⊢
    rw [hYY.out] at hy2 ⊢
    clear e1 e2 e3 hst OK
    go_enter Tryz.func28, Tryz.ntmps28
    go_upto_region 4 with (first | (clear k1; refine wpList_box_v rfl 31 _ rfl [.slice a I.length cap, .int .i64 X] rfl ?_; intro b1 w1 hb1 hw1 hB1 V1; have hz1 := hB1.size) | (clear k2; refine wpList_box_v rfl 56 _ rfl [.string N, .int .i64 F, .string B, .int .i64 C, .int .i64 U] rfl ?_; intro b3 w2 hb3 hw3 hB2 V3; have hz2 := hB2.size; have V1b := vblk_grow V1 hB2) | (clear k3; refine wpList_alloc_v rfl 31 rfl _ zeroBk ?_; intro b2 w3 hb2 hw2 hB3 V2; have hz3 := hB3.size; have V1c := vblk_grow V1b hB3; have V3c := vblk_grow V3 hB3; have hB13 : Below w.heap.size w w3 := (hB1.trans (hB2.mono hz1)).trans (hB3.mono (by omega))) | (clear k4; refine wpList_load_r rfl 31 _ rfl b1 0 [.slice a I.length cap, .int .i64 X] rfl _ Tryz.underlying31 rfl sizeBk V1c.range ?_) | (go_at_call 19; refine (implStoreOk_any I X _ true HY _ (R.out.grow hB13) HS.out).mono ?_; rintro e w4 ⟨rfl, hB4⟩; have V1d := vblk_grow V1c hB4; have V2d := vblk_grow V2 hB4; have V3d := vblk_grow V3c hB4; have hz4 := hB4.size; have hB14 : Below w.heap.size w w4 := hB13.trans (hB4.mono hB13.size); obtain ⟨c0, c1⟩ := cells2 V1d) | (refine wpList_store_cell rfl 2 _ _ rfl b3 3 (.int .i64 X) rfl rfl rfl szI1 V3d (by simp) ?_; intro w5 hO5 V5; have V15 := vblk_only V1d hO5 (by have := V1.lt; omega); have V25 := vblk_only V2d hO5 (by have := V3.lt; omega); have hz5 := Nat.le_of_eq hO5.1.symm; have hy5 := Nat.le_of_eq hO5.1) | (fail))
    have h12 : b1 < b3 := by have := V1.lt; omega
    have h32 : b3 < b2 := by have := V3.lt; omega
    have Q5 : Hid (S4 w b1 b2 b3 (.slice a I.length cap) X [.string N, .int .i64 F, .string B, .int .i64 X, .int .i64 U] w5) := ⟨hB14.trans (hO5.2.2 _ (by omega)), V15, V25, V5⟩
    have hb2o : w.heap.size ≤ b2 := by omega
    clear V1 V1b V1c V1d V15 V2 V2d V25 V3 V3c V3d V5 hO5 hB4 c0 c1 hB1 hB2 hB3 hB13 hB14 hb1 hb2 hb3 hw1 hw2 hw3 hz1 hz2 hz3 hz4 hz5 hy5
    simp only [Act.put]
    go_cut [6] from 14 to 21 (fun p wc => ∃ (b6 : Nat) (a6 : Option Addr) (n6 c6 : Nat), p = .pointer (some ⟨b6, 0, none⟩) ∧ Hid (S5 w b1 b2 b3 b6 (.slice a I.length cap) X [.string N, .int .i64 F, .string B, .int .i64 X, .int .i64 U] (.slice a6 n6 c6) Y P wc))
    case first =>
      have Q := Q5.out.grow (Below.refl _ _).drew
      refine wp_region_held_drew (S := fun w' => w'.cell? ⟨b1, 0, none⟩ = some (.slice a I.length cap) ∧ w'.cell? ⟨b1, 1, none⟩ = some (.int .i64 X) ∧ w'.cell? ⟨b3, 0, none⟩ = some (.string N) ∧ w'.cell? ⟨b3, 1, none⟩ = some (.int .i64 F) ∧ w'.cell? ⟨b3, 2, none⟩ = some (.string B) ∧ w'.cell? ⟨b3, 3, none⟩ = some (.int .i64 X) ∧ w'.cell? ⟨b3, 4, none⟩ = some (.int .i64 U)) (by kernel_rfl) (s4_cells Q) (fun hHeld => ?_)
      refine wpAnyH_take (i := 0) (oi := { dst := some 14, op := Op.fieldAddr 31 (Operand.tmp 2) 0, type := 0, pos := "l13_store.go:185", after := #[], guard := none }) (v := ?_) rfl (by kernel_rfl) (by kernel_rfl) (by kernel_rfl) (fun _ _ _ h => h) (Or.inl ⟨by rfl, ?_⟩) (by assumption) ?_
      rotate_left 1
      · intro w' hSw; (try dsimp only at hSw); go_simp; (try with_reducible rfl)
      (try simp only [Act.put, List.setIfInBounds_toArray, List.set_cons_zero, List.set_cons_succ])
      refine wpAnyH_take (i := 1) (oi := { dst := some 15, op := Op.load 29 (Operand.tmp 14), type := 29, pos := "l13_store.go:185", after := #[{ on := 0, ground := Ground.data }], guard := none }) (v := ?_) rfl (by kernel_rfl) (by kernel_rfl) (by kernel_rfl) (fun _ _ _ h => h) (Or.inl ⟨by rfl, ?_⟩) (by assumption) ?_
      rotate_left 1
      · intro w' hSw; (try dsimp only at hSw); go_simp; (try with_reducible rfl)
      (try simp only [Act.put, List.setIfInBounds_toArray, List.set_cons_zero, List.set_cons_succ])
      refine wpAnyH_take (i := 2) (oi := { dst := some 16, op := Op.load 56 (Operand.tmp 3), type := 56, pos := "l13_store.go:185", after := #[], guard := none }) (v := ?_) rfl (by kernel_rfl) (by kernel_rfl) (by kernel_rfl) (fun _ _ _ h => h) (Or.inl ⟨by rfl, ?_⟩) (by assumption) ?_
      rotate_left 1
      · intro w' hSw; (try dsimp only at hSw); go_simp; (try with_reducible rfl)
      (try simp only [Act.put, List.setIfInBounds_toArray, List.set_cons_zero, List.set_cons_succ])
      refine wpAnyH_take (i := 4) (oi := { dst := some 18, op := Op.fieldAddr 31 (Operand.tmp 2) 1, type := 0, pos := "l13_store.go:185", after := #[], guard := none }) (v := ?_) rfl (by kernel_rfl) (by kernel_rfl) (by kernel_rfl) (fun _ _ _ h => h) (Or.inl ⟨by rfl, ?_⟩) (by assumption) ?_
      rotate_left 1
      · intro w' hSw; (try dsimp only at hSw); go_simp; (try with_reducible rfl)
      (try simp only [Act.put, List.setIfInBounds_toArray, List.set_cons_zero, List.set_cons_succ])
      refine wpAnyH_take (i := 5) (oi := { dst := some 19, op := Op.load 2 (Operand.tmp 18), type := 2, pos := "l13_store.go:185", after := #[{ on := 4, ground := Ground.data }], guard := none }) (v := ?_) rfl (by kernel_rfl) (by kernel_rfl) (by kernel_rfl) (fun _ _ _ h => h) (Or.inl ⟨by rfl, ?_⟩) (by assumption) ?_
      rotate_left 1
      · intro w' hSw; (try dsimp only at hSw); go_simp; (try with_reducible rfl)
      (try simp only [Act.put, List.setIfInBounds_toArray, List.set_cons_zero, List.set_cons_succ])
      refine wpAnyH_ready (rs := [3, 8]) (by kernel_rfl) (by simp) ?_
      refine AllReadyH.cons (o := { dst := some 17, op := Op.call { callee := Callee.value (Operand.func 61), args := #[Operand.tmp 15, Operand.tmp 16], argTypes := #[29, 56] }, type := 29, pos := "l13_store.go:185", after := #[{ on := 1, ground := Ground.data }, { on := 2, ground := Ground.data }], guard := none }) rfl (fun KC hKC => ?_) (AllReadyH.cons (o := { dst := some 6, op := Op.alloc 31, type := 0, pos := "l13_store.go:185", after := #[], guard := none }) rfl (fun KC hKC => ?_) AllReadyH.nil)
      · go_simp
        go_at_call 61
        refine (withItem_any I N B F X U _ _ (R.out.grow Q.low) HSr.out (by omega)).mono ?_
        rintro e W6 ⟨v6, rfl, o6, hB6⟩
        rw [hP.out] at o6
        obtain ⟨a6, n6, c6, rfl⟩ := o6.slice
        replace o6 := o6.wide (lo' := w.heap.size) Q.low.size (Nat.le_refl _)
        replace Q := Q.grow hB6
        (try replace V8 := vblk_grow V8 hB6)
        refine hKC.out _ _ (s4_cells Q) (fun hHeld2 => ?_)
        clear hKC KC hHeld
        have hHeld := hHeld2
        clear hHeld2
        (try simp only [Act.put, List.setIfInBounds_toArray, List.set_cons_zero, List.set_cons_succ])
        refine wpAnyH_ready (rs := [6, 8]) (by kernel_rfl) (by simp) ?_
        refine AllReadyH.cons (o := { dst := some 20, op := Op.call { callee := Callee.value (Operand.func 62), args := #[Operand.tmp 19], argTypes := #[2] }, type := 2, pos := "l13_store.go:185", after := #[{ on := 5, ground := Ground.data }, { on := 3, ground := Ground.chain }], guard := none }) rfl (fun KC hKC => ?_) (AllReadyH.cons (o := { dst := some 6, op := Op.alloc 31, type := 0, pos := "l13_store.go:185", after := #[], guard := none }) rfl (fun KC hKC => ?_) AllReadyH.nil)
        · go_simp
          go_at_call 62
          refine (casBehind_is X hX0 hX1 _).mono ?_
          rintro e Wq ⟨rfl, hq⟩
          subst Wq
          rw [hYY.out]
          refine hKC.out _ _ (s4_cells Q) (fun hHeld2 => ?_)
          clear hKC KC hHeld
          have hHeld := hHeld2
          clear hHeld2
          (try simp only [Act.put, List.setIfInBounds_toArray, List.set_cons_zero, List.set_cons_succ])
          refine wpAnyH_take (i := 7) (oi := { dst := some 21, op := Op.build 31 #[(0, Operand.tmp 17), (1, Operand.tmp 20)], type := 31, pos := "l13_store.go:185", after := #[{ on := 3, ground := Ground.data }, { on := 6, ground := Ground.data }], guard := none }) (v := ?_) rfl (by kernel_rfl) (by kernel_rfl) (by kernel_rfl) (fun _ _ _ h => h) (Or.inl ⟨by rfl, ?_⟩) (by assumption) ?_
          rotate_left 1
          · intro w' hSw; (try dsimp only at hSw); go_simp; (try with_reducible rfl)
          (try simp only [Act.put, List.setIfInBounds_toArray, List.set_cons_zero, List.set_cons_succ])
          refine wpAnyH_ready (rs := [8]) (by kernel_rfl) (by simp) ?_
          refine AllReadyH.cons (o := { dst := some 6, op := Op.alloc 31, type := 0, pos := "l13_store.go:185", after := #[], guard := none }) rfl (fun KC hKC => ?_) AllReadyH.nil
          refine step_alloc_v rfl 31 rfl _ zeroBk ?_
          intro b6 W8 hb6 hw8 hB8 V8
          have hk8 : b2 < b6 ∧ w.heap.size ≤ b6 := ⟨Nat.lt_of_lt_of_le Q.v2.lt hb6, Nat.le_trans Q.low.size hb6⟩
          (try replace o6 := o6.grow hB8)
          replace Q := Q.grow hB8
          refine hKC.out _ _ (s4_cells Q) (fun hHeld2 => ?_)
          clear hKC KC hHeld
          have hHeld := hHeld2
          clear hHeld2
          (try simp only [Act.put, List.setIfInBounds_toArray, List.set_cons_zero, List.set_cons_succ])
          refine wpAnyH_ready (rs := [9]) (by kernel_rfl) (by simp) ?_
          refine AllReadyH.cons (o := { dst := none, op := Op.store 31 (Operand.tmp 6) (Operand.tmp 21), type := 0, pos := "l13_store.go:185", after := #[{ on := 8, ground := Ground.data }, { on := 7, ground := Ground.data }, { on := 6, ground := Ground.chain }, { on := 0, ground := Ground.phase }, { on := 1, ground := Ground.phase }, { on := 2, ground := Ground.phase }, { on := 3, ground := Ground.phase }, { on := 4, ground := Ground.phase }, { on := 5, ground := Ground.phase }, { on := 6, ground := Ground.phase }, { on := 7, ground := Ground.phase }, { on := 8, ground := Ground.phase }], guard := none }) rfl (fun KC hKC => ?_) AllReadyH.nil
          refine step_store_v rfl 31 _ _ rfl b6 [.slice a6 n6 c6, .int .i64 Y] rfl rfl sizeBk V8 rfl (oneBk _ _ _ _) ?_
          intro W9 hO9 V9
          have o9 := o6.only hO9 V8 (by decide)
          replace Q := Q.only hO9 hk8.2 (by omega) (by omega) (by omega)
          refine hKC.out _ _ (s4_cells Q) (fun hHeld2 => ?_)
          clear hKC KC hHeld
          have hHeld := hHeld2
          clear hHeld2
          (try simp only [Act.put])
          refine wpAnyH_done (by kernel_rfl) ?_ _
          go_wp2
          go_meet
          case rel => exact ⟨b6, a6, n6, c6, rfl, ⟨Q, V9, hk8.1, o9.top⟩⟩
        refine step_alloc_v rfl 31 rfl _ zeroBk ?_
        intro b6 W8 hb6 hw8 hB8 V8
        have hk8 : b2 < b6 ∧ w.heap.size ≤ b6 := ⟨Nat.lt_of_lt_of_le Q.v2.lt hb6, Nat.le_trans Q.low.size hb6⟩
        (try replace o6 := o6.grow hB8)
        replace Q := Q.grow hB8
        refine hKC.out _ _ (s4_cells Q) (fun hHeld2 => ?_)
        clear hKC KC hHeld
        have hHeld := hHeld2
        clear hHeld2
        (try simp only [Act.put, List.setIfInBounds_toArray, List.set_cons_zero, List.set_cons_succ])
        refine wpAnyH_ready (rs := [6]) (by kernel_rfl) (by simp) ?_
        refine AllReadyH.cons (o := { dst := some 20, op := Op.call { callee := Callee.value (Operand.func 62), args := #[Operand.tmp 19], argTypes := #[2] }, type := 2, pos := "l13_store.go:185", after := #[{ on := 5, ground := Ground.data }, { on := 3, ground := Ground.chain }], guard := none }) rfl (fun KC hKC => ?_) AllReadyH.nil
        go_simp
        go_at_call 62
        refine (casBehind_is X hX0 hX1 _).mono ?_
        rintro e Wq ⟨rfl, hq⟩
        subst Wq
        rw [hYY.out]
        refine hKC.out _ _ (s4_cells Q) (fun hHeld2 => ?_)
        clear hKC KC hHeld
        have hHeld := hHeld2
        clear hHeld2
        (try simp only [Act.put, List.setIfInBounds_toArray, List.set_cons_zero, List.set_cons_succ])
        refine wpAnyH_take (i := 7) (oi := { dst := some 21, op := Op.build 31 #[(0, Operand.tmp 17), (1, Operand.tmp 20)], type := 31, pos := "l13_store.go:185", after := #[{ on := 3, ground := Ground.data }, { on := 6, ground := Ground.data }], guard := none }) (v := ?_) rfl (by kernel_rfl) (by kernel_rfl) (by kernel_rfl) (fun _ _ _ h => h) (Or.inl ⟨by rfl, ?_⟩) (by assumption) ?_
        rotate_left 1
        · intro w' hSw; (try dsimp only at hSw); go_simp; (try with_reducible rfl)
        (try simp only [Act.put, List.setIfInBounds_toArray, List.set_cons_zero, List.set_cons_succ])
        refine wpAnyH_ready (rs := [9]) (by kernel_rfl) (by simp) ?_
        refine AllReadyH.cons (o := { dst := none, op := Op.store 31 (Operand.tmp 6) (Operand.tmp 21), type := 0, pos := "l13_store.go:185", after := #[{ on := 8, ground := Ground.data }, { on := 7, ground := Ground.data }, { on := 6, ground := Ground.chain }, { on := 0, ground := Ground.phase }, { on := 1, ground := Ground.phase }, { on := 2, ground := Ground.phase }, { on := 3, ground := Ground.phase }, { on := 4, ground := Ground.phase }, { on := 5, ground := Ground.phase }, { on := 6, ground := Ground.phase }, { on := 7, ground := Ground.phase }, { on := 8, ground := Ground.phase }], guard := none }) rfl (fun KC hKC => ?_) AllReadyH.nil
        refine step_store_v rfl 31 _ _ rfl b6 [.slice a6 n6 c6, .int .i64 Y] rfl rfl sizeBk V8 rfl (oneBk _ _ _ _) ?_
        intro W9 hO9 V9
        have o9 := o6.only hO9 V8 (by decide)
        replace Q := Q.only hO9 hk8.2 (by omega) (by omega) (by omega)
        refine hKC.out _ _ (s4_cells Q) (fun hHeld2 => ?_)
        clear hKC KC hHeld
        have hHeld := hHeld2
        clear hHeld2
        (try simp only [Act.put])
        refine wpAnyH_done (by kernel_rfl) ?_ _
        go_wp2
        go_meet
        case rel => exact ⟨b6, a6, n6, c6, rfl, ⟨Q, V9, hk8.1, o9.top⟩⟩
      refine step_alloc_v rfl 31 rfl _ zeroBk ?_
      intro b6 W8 hb6 hw8 hB8 V8
      have hk8 : b2 < b6 ∧ w.heap.size ≤ b6 := ⟨Nat.lt_of_lt_of_le Q.v2.lt hb6, Nat.le_trans Q.low.size hb6⟩
      (try replace o6 := o6.grow hB8)
      replace Q := Q.grow hB8
      refine hKC.out _ _ (s4_cells Q) (fun hHeld2 => ?_)
      clear hKC KC hHeld
      have hHeld := hHeld2
      clear hHeld2
      (try simp only [Act.put, List.setIfInBounds_toArray, List.set_cons_zero, List.set_cons_succ])
      refine wpAnyH_ready (rs := [3]) (by kernel_rfl) (by simp) ?_
      refine AllReadyH.cons (o := { dst := some 17, op := Op.call { callee := Callee.value (Operand.func 61), args := #[Operand.tmp 15, Operand.tmp 16], argTypes := #[29, 56] }, type := 29, pos := "l13_store.go:185", after := #[{ on := 1, ground := Ground.data }, { on := 2, ground := Ground.data }], guard := none }) rfl (fun KC hKC => ?_) AllReadyH.nil
      go_simp
      go_at_call 61
      refine (withItem_any I N B F X U _ _ (R.out.grow Q.low) HSr.out (by omega)).mono ?_
      rintro e W6 ⟨v6, rfl, o6, hB6⟩
      rw [hP.out] at o6
      obtain ⟨a6, n6, c6, rfl⟩ := o6.slice
      replace o6 := o6.wide (lo' := w.heap.size) Q.low.size (Nat.le_refl _)
      replace Q := Q.grow hB6
      (try replace V8 := vblk_grow V8 hB6)
      refine hKC.out _ _ (s4_cells Q) (fun hHeld2 => ?_)
      clear hKC KC hHeld
      have hHeld := hHeld2
      clear hHeld2
      (try simp only [Act.put, List.setIfInBounds_toArray, List.set_cons_zero, List.set_cons_succ])
      refine wpAnyH_ready (rs := [6]) (by kernel_rfl) (by simp) ?_
      refine AllReadyH.cons (o := { dst := some 20, op := Op.call { callee := Callee.value (Operand.func 62), args := #[Operand.tmp 19], argTypes := #[2] }, type := 2, pos := "l13_store.go:185", after := #[{ on := 5, ground := Ground.data }, { on := 3, ground := Ground.chain }], guard := none }) rfl (fun KC hKC => ?_) AllReadyH.nil
      go_simp
      go_at_call 62
      refine (casBehind_is X hX0 hX1 _).mono ?_
      rintro e Wq ⟨rfl, hq⟩
      subst Wq
      rw [hYY.out]
      refine hKC.out _ _ (s4_cells Q) (fun hHeld2 => ?_)
      clear hKC KC hHeld
      have hHeld := hHeld2
      clear hHeld2
      (try simp only [Act.put, List.setIfInBounds_toArray, List.set_cons_zero, List.set_cons_succ])
      refine wpAnyH_take (i := 7) (oi := { dst := some 21, op := Op.build 31 #[(0, Operand.tmp 17), (1, Operand.tmp 20)], type := 31, pos := "l13_store.go:185", after := #[{ on := 3, ground := Ground.data }, { on := 6, ground := Ground.data }], guard := none }) (v := ?_) rfl (by kernel_rfl) (by kernel_rfl) (by kernel_rfl) (fun _ _ _ h => h) (Or.inl ⟨by rfl, ?_⟩) (by assumption) ?_
      rotate_left 1
      · intro w' hSw; (try dsimp only at hSw); go_simp; (try with_reducible rfl)
      (try simp only [Act.put, List.setIfInBounds_toArray, List.set_cons_zero, List.set_cons_succ])
      refine wpAnyH_ready (rs := [9]) (by kernel_rfl) (by simp) ?_
      refine AllReadyH.cons (o := { dst := none, op := Op.store 31 (Operand.tmp 6) (Operand.tmp 21), type := 0, pos := "l13_store.go:185", after := #[{ on := 8, ground := Ground.data }, { on := 7, ground := Ground.data }, { on := 6, ground := Ground.chain }, { on := 0, ground := Ground.phase }, { on := 1, ground := Ground.phase }, { on := 2, ground := Ground.phase }, { on := 3, ground := Ground.phase }, { on := 4, ground := Ground.phase }, { on := 5, ground := Ground.phase }, { on := 6, ground := Ground.phase }, { on := 7, ground := Ground.phase }, { on := 8, ground := Ground.phase }], guard := none }) rfl (fun KC hKC => ?_) AllReadyH.nil
      refine step_store_v rfl 31 _ _ rfl b6 [.slice a6 n6 c6, .int .i64 Y] rfl rfl sizeBk V8 rfl (oneBk _ _ _ _) ?_
      intro W9 hO9 V9
      have o9 := o6.only hO9 V8 (by decide)
      replace Q := Q.only hO9 hk8.2 (by omega) (by omega) (by omega)
      refine hKC.out _ _ (s4_cells Q) (fun hHeld2 => ?_)
      clear hKC KC hHeld
      have hHeld := hHeld2
      clear hHeld2
      (try simp only [Act.put])
      refine wpAnyH_done (by kernel_rfl) ?_ _
      go_wp2
      go_meet
      case rel => exact ⟨b6, a6, n6, c6, rfl, ⟨Q, V9, hk8.1, o9.top⟩⟩
    case rest =>
    obtain ⟨b6, a6, n6, c6, rfl, Z⟩ := hcut
    clear Q5
    have hB0 := Z.out.q.low
    have hz0 := hB0.size
    go_upto_if 24 with (first | (clear k5; refine wpList_load_r rfl 31 _ rfl b6 0 [.slice a6 n6 c6, .int .i64 Y] rfl _ Tryz.underlying31 rfl sizeBk Z.out.v6.range ?_) | (go_at_call 19; refine (implStoreOk_any P Y _ y hy2 _ Z.out.o.rd HSP.out).mono ?_; rintro e w7 ⟨rfl, hB7⟩; have V17 := vblk_grow Z.out.q.v1 hB7; have V27 := vblk_grow Z.out.q.v2 hB7; have V67 := vblk_grow Z.out.v6 hB7; have o7 := Z.out.o.grow hB7; have hz7 := hB7.size; have hB07 := hB0.trans (hB7.mono hz0)) | (fail))
    have hb2 : w.heap.size ≤ b2 := hb2o
    cases y with
    | false =>
      go_wp2_with (first | (clear k6; refine wpList_load_r rfl 31 _ rfl b1 0 [.slice a I.length cap, .int .i64 X] rfl _ Tryz.underlying31 rfl sizeBk V17.range ?_) | (go_at_call 39; refine (copyBook_any I X _ _ (R.out.grow hB07) hl).mono ?_; rintro e w8 ⟨v8, rfl, o8, hB8⟩; obtain ⟨a8, n8, c8, rfl⟩ := o8.slice; have V28 := vblk_grow V27 hB8) | (refine wpList_store_v rfl 31 _ _ rfl b2 [.slice a8 n8 c8, .int .i64 X] rfl rfl sizeBk V28 rfl (oneBk _ _ _ _) ?_; intro w9 hO9 V9) | (fail))
      exact row_ct rfl rfl rfl V9 Tryz.underlying31 sizeBk rfl ⟨_, rfl, ((o8.only hO9 V28 (by decide)).wide (by omega) (Nat.le_refl _)).top, (hB07.trans (hB8.mono (by omega))).trans (hO9.2.2 _ hb2)⟩
    | true =>
      go_wp2_with (first | (clear k6; refine wpList_load_r rfl 31 _ rfl b6 0 [.slice a6 n6 c6, .int .i64 Y] rfl _ Tryz.underlying31 rfl sizeBk V67.range ?_) | (refine wpList_store_v rfl 31 _ _ rfl b2 [.slice a6 n6 c6, .int .i64 Y] rfl rfl sizeBk V27 rfl (oneBk _ _ _ _) ?_; intro w9 hO9 V9) | (fail))
      exact row_ct rfl rfl rfl V9 Tryz.underlying31 sizeBk rfl ⟨_, rfl, (o7.only hO9 V27 (by decide)).top, hB07.trans (hO9.2.2 _ hb2)⟩
end Go.Proofs.YtjkkjpgebcnhgaaGreatDoor.rg
