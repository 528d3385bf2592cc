/- The model's l13Stamp. -/
import Derived.Test.YtekladbkhplchaaSm1
import Derived.Test.YtekladbkhplchaaBb1
import Derived.Test.YtekladbkhplchaaBh1
import Derived.Lib.SmallJoins
import Derived.Deep.Slices
import Derived.Deep.RegionHeld3
import Derived.BigQuiet
namespace Go.Proofs.Ytekladbkhplchaa.rg
open Go.ChangeShapes Go.WideShapes Go.ChangeAt Go.RowKit
open Go.Deep Go.Joins
open Go.Proofs.Ytekladbkhplchaa.ce Go.Proofs.Ytekladbkhplchaa.ro Go.Proofs.Ytekladbkhplchaa.draw
set_option linter.unusedVariables false

set_option maxRecDepth 100000 in
set_option maxHeartbeats 4000000 in
theorem l13Stamp_any (I : List It) (X : Int) (N B : ByteArray) (F C U : Int) (b0 lo n K : Nat) (A : Option Addr) (y : Bool) (hy : Hid (stampOk ⟨I, X⟩ ⟨N, F, B, C, U⟩ = y)) (w : World) (V : VBlk w b0 31 [.slice A n K, .int .i64 X]) (hlo : lo ≤ b0) (o : Own encIt w lo w.heap.size (.slice A n K) I)
    (hl : I.length ≤ 1000000) (hX0 : 1 ≤ X) (hX1 : X ≤ 1000000) (hN : N.size ≤ 1048576) (hBs : B.size ≤ 1048576) :
    Calls Try.prog 41 #[.pointer (some ⟨b0, 0, none⟩), .agg #[.string N, .int .i64 F, .string B, .int .i64 C, .int .i64 U]] w fun e w' => e = .returned (.bool y) ∧ ∃ A' n' K', VBlk w' b0 31 [.slice A' n' K', .int .i64 (if y = true then nextX X else X)] ∧ Own encIt w' lo w'.heap.size (.slice A' n' K') (if y = true then putL I ⟨N, F, B, X, U⟩ else I) ∧ Below lo w w' := by
  have hlt0 := V.lt
  have hy' : (itemB ⟨N, F, B, X, U⟩ && decide (((putL I ⟨N, F, B, X, U⟩).length : Int) ≤ 20)) = y := hy.out
  obtain ⟨x, hx⟩ := hid_ex (itemB ⟨N, F, B, X, U⟩)
  obtain ⟨P, hP⟩ := hid_ex (putL I ⟨N, F, B, X, U⟩)
  rw [hx.out, hP.out] at hy'
  rw [hP.out]
  have HY : Hid ((x && decide ((P.length : Int) ≤ 20)) = y) := hy'
  have O : Hid (Own encIt w lo w.heap.size (.slice A n K) I) := o
  have VV : Hid (VBlk w b0 31 [.slice A n K, .int .i64 X]) := V
  clear hy' hy o V
  go_enter Try.func41, Try.ntmps41
  go_upto_region 2 with (first | (refine wpList_box_v rfl 35 _ rfl [.string N, .int .i64 F, .string B, .int .i64 C, .int .i64 U] rfl ?_; intro b1 w1 hb1 hw1 hB1 V1; have hz1 := hB1.size; have V0 := vblk_grow VV.out hB1; obtain ⟨c00, c01⟩ := cells2 V0) | (refine wpList_store_cell rfl 2 _ _ rfl b1 3 (.int .i64 X) rfl rfl rfl szI1 V1 (by simp) ?_; intro w2 hO2 V2) | (fail))
  have hne : b0 ≠ b1 := by omega
  have W0 : Hid (VBlk w2 b0 31 [.slice A n K, .int .i64 X]) := vblk_only V0 hO2 hne
  have W1 : Hid (VBlk w2 b1 35 [.string N, .int .i64 F, .string B, .int .i64 X, .int .i64 U]) := V2
  have hB2 : Hid (Below w.heap.size w w2) := hB1.trans (hO2.2.2 _ hb1)
  have O2 : Hid (Own encIt w2 lo w.heap.size (.slice A n K) I) := (O.out.grow hB1).below (hO2.2.2 w.heap.size hb1) (Nat.le_refl _)
  have hz2 := hB2.out.size
  clear V0 V1 V2 c00 c01 hO2
  have S1 : w2.drew.cell? ⟨b0, 0, none⟩ = some (.slice A n K) ∧ w2.drew.cell? ⟨b1, 0, none⟩ = some (.string N) ∧ w2.drew.cell? ⟨b1, 1, none⟩ = some (.int .i64 F) ∧ w2.drew.cell? ⟨b1, 2, none⟩ = some (.string B) ∧ w2.drew.cell? ⟨b1, 3, none⟩ = some (.int .i64 X) ∧ w2.drew.cell? ⟨b1, 4, none⟩ = some (.int .i64 U) := ⟨(cells2 W0.out).1, cells5 W1.out⟩
  go_region_held3 (fun w' => w'.cell? ⟨b0, 0, none⟩ = some (.slice A n K) ∧ w'.cell? ⟨b1, 0, none⟩ = some (.string N) ∧ w'.cell? ⟨b1, 1, none⟩ = some (.int .i64 F) ∧ w'.cell? ⟨b1, 2, none⟩ = some (.string B) ∧ w'.cell? ⟨b1, 3, none⟩ = some (.int .i64 X) ∧ w'.cell? ⟨b1, 4, none⟩ = some (.int .i64 U)) (first | with_reducible assumption | with_reducible exact S1 | (fail)) (first | (go_at_call 61; refine (l10Put_own I _ lo w.heap.size N B F X U _ (O2.out.grow (Below.refl _ _).drew) hl).mono ?_; rintro e w3 ⟨v5, rfl, o5, hB3⟩; rw [hP.out] at o5; have S2 : w3.cell? ⟨b0, 0, none⟩ = some (.slice A n K) ∧ w3.cell? ⟨b1, 0, none⟩ = some (.string N) ∧ w3.cell? ⟨b1, 1, none⟩ = some (.int .i64 F) ∧ w3.cell? ⟨b1, 2, none⟩ = some (.string B) ∧ w3.cell? ⟨b1, 3, none⟩ = some (.int .i64 X) ∧ w3.cell? ⟨b1, 4, none⟩ = some (.int .i64 U) := ⟨(cells2 (vblk_grow W0.out ((Below.refl _ _).drew.trans hB3))).1, cells5 (vblk_grow W1.out ((Below.refl _ _).drew.trans hB3))⟩; obtain ⟨A5, n5, K5, rfl⟩ := o5.slice) | (fail))
  have hB23 : Below w2.heap.size w2 w3 := (Below.refl _ _).drew.trans hB3
  have hz3 := hB23.size
  have q5 : Hid (n5 = P.length) := o5.rd.cap.1
  have O5 : Hid (Own encIt w3 w2.heap.size w3.heap.size (.slice A5 n5 K5) P) := o5
  have Y0 : Hid (VBlk w3 b0 31 [.slice A n K, .int .i64 X]) := vblk_grow W0.out hB23
  have O3 : Hid (Own encIt w3 lo w.heap.size (.slice A n K) I) := O2.out.grow hB23
  have hB3w : Hid (Below w.heap.size w w3) := hB2.out.trans (hB23.mono hz2)
  obtain ⟨s0, s1, s2, s3, s4, s5⟩ := S2
  clear o5 S1 hB3
  cases x with
  | false =>
    have ey : y = false := by rw [← HY.out]; rfl
    subst ey
    go_wp2_with (first | (go_at_call 57; refine (specItemOk_any N B F X U false hx (by omega) (by omega) _).mono ?_; rintro e w4 ⟨rfl, hB4⟩) | (fail))
    go_ret
    exact ⟨rfl, A, n, K, vblk_grow Y0.out hB4, (O3.out.grow hB4).wide (Nat.le_refl _) (by have := hB4.size; omega), (hB3w.out.trans (hB4.mono hB3w.out.size)).mono (by omega)⟩
  | true =>
    by_cases hn : P.length ≤ 20
    · have ey : y = true := by rw [← HY.out]; simp; omega
      subst ey
      have hn' : ¬ (20 : Int) < (n5 : Int) := by have := q5.out; omega
      have ew : IntKind.i64.wrap (X + 1) = X + 1 := by rw [IntKind.wrap_i64]; omega
      by_cases hm : (1000000 : Int) < X + 1
      · have en : nextX X = 1 := by unfold nextX; rw [if_pos hm]
        have k1 : Hid True := trivial
        have k2 : Hid True := trivial
        go_wp2_with (first | (go_at_call 57; refine (specItemOk_any N B F X U true hx (by omega) (by omega) _).mono ?_; rintro e w4 ⟨rfl, hB4⟩; have Y4 := vblk_grow Y0.out hB4) | (clear k1; refine wpList_store_cell rfl 29 _ _ rfl b0 0 (.slice A5 n5 K5) rfl rfl rfl szL1 Y4 (by simp) ?_; intro w5 hO5 V5; have c51 := (cells2 V5).2) | (clear k2; refine wpList_store_cell rfl 2 _ _ rfl b0 1 (.int .i64 (X + 1)) rfl (by first | rfl | simp [ew] | (go_simp)) rfl szI1 V5 (by simp) ?_; intro w6 hO6 V6; have c61 := (cells2 V6).2) | (refine wpList_store_cell rfl 2 _ _ rfl b0 1 (.int .i64 1) rfl rfl rfl szI1 V6 (by simp) ?_; intro w7 hO7 V7) | (fail))
        go_ret
        exact ⟨rfl, A5, n5, K5, (by first | exact V7 | (rw [en]; exact V7)), ((((O5.out.grow hB4).only hO5 Y4 (by decide)).only hO6 V5 (by decide)).only hO7 V6 (by decide)).wide (by omega) (by have := hB4.size; have := (hO5.2.2 0 (by omega)).size; have := (hO6.2.2 0 (by omega)).size; have := (hO7.2.2 0 (by omega)).size; omega), ((((hB3w.out.trans (hB4.mono hB3w.out.size)).mono (by omega)).trans (hO5.2.2 _ hlo)).trans (hO6.2.2 _ hlo)).trans (hO7.2.2 _ hlo)⟩
      · have en : nextX X = X + 1 := by unfold nextX; rw [if_neg hm]
        have k1 : Hid True := trivial
        go_wp2_with (first | (go_at_call 57; refine (specItemOk_any N B F X U true hx (by omega) (by omega) _).mono ?_; rintro e w4 ⟨rfl, hB4⟩; have Y4 := vblk_grow Y0.out hB4) | (clear k1; refine wpList_store_cell rfl 29 _ _ rfl b0 0 (.slice A5 n5 K5) rfl rfl rfl szL1 Y4 (by simp) ?_; intro w5 hO5 V5; have c51 := (cells2 V5).2) | (refine wpList_store_cell rfl 2 _ _ rfl b0 1 (.int .i64 (X + 1)) rfl (by first | rfl | simp [ew] | (go_simp)) rfl szI1 V5 (by simp) ?_; intro w6 hO6 V6; have c61 := (cells2 V6).2) | (fail))
        go_ret
        exact ⟨rfl, A5, n5, K5, (by first | exact V6 | (rw [en]; exact V6)), (((O5.out.grow hB4).only hO5 Y4 (by decide)).only hO6 V5 (by decide)).wide (by omega) (by have := hB4.size; have := (hO5.2.2 0 (by omega)).size; have := (hO6.2.2 0 (by omega)).size; omega), (((hB3w.out.trans (hB4.mono hB3w.out.size)).mono (by omega)).trans (hO5.2.2 _ hlo)).trans (hO6.2.2 _ hlo)⟩
    · have ey : y = false := by rw [← HY.out]; simp; omega
      subst ey
      have hn' : (20 : Int) < (n5 : Int) := by have := q5.out; omega
      go_wp2_with (first | (go_at_call 57; refine (specItemOk_any N B F X U true hx (by omega) (by omega) _).mono ?_; rintro e w4 ⟨rfl, hB4⟩) | (fail))
      go_ret
      exact ⟨rfl, A, n, K, vblk_grow Y0.out hB4, (O3.out.grow hB4).wide (Nat.le_refl _) (by have := hB4.size; omega), (hB3w.out.trans (hB4.mono hB3w.out.size)).mono (by omega)⟩
end Go.Proofs.Ytekladbkhplchaa.rg
