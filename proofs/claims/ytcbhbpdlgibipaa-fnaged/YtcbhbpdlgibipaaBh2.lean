/- The laws' likeItems and likeBook. -/
import Derived.Test.YtcbhbpdlgibipaaBb1
import Derived.Lib.SmallJoins
import Derived.Deep.Slices
import Derived.Deep.RegionHeld3
import Derived.BigQuiet
namespace Go.Proofs.Ytcbhbpdlgibipaa.rg
open Go.ChangeShapes Go.WideShapes Go.ChangeAt Go.RowKit
open Go.Deep Go.Joins
open Go.Proofs.Ytcbhbpdlgibipaa.ce Go.Proofs.Ytcbhbpdlgibipaa.ro
set_option linter.unusedVariables false

set_option maxRecDepth 10000 in
set_option maxHeartbeats 1000000 in
theorem likeItems_any (b : List It) (v v' : Value) (w : World) (r : Rd encIt w v b) (r' : Rd encIt w v' b) :
    Calls Try.prog 54 #[v, v'] w fun e w' => e = .returned (.bool true) ∧ Below w.heap.size w w' := by
  have hl := r.len
  obtain ⟨a, cap, rfl⟩ := r.form
  obtain ⟨a', cap', rfl⟩ := r'.form
  have R : Hid (Rd encIt w (.slice a b.length cap) b) := r
  have R' : Hid (Rd encIt w (.slice a' b.length cap') b) := r'
  clear r r'
  have hne : ((b.length : Int) != (b.length : Int)) = false := by simp
  go_enter Try.func54, Try.ntmps54
  go_wp2
  go_loopw [5] (fun q wr => ∃ i : Nat, i ≤ b.length ∧ q = .int .i64 i ∧ Below w.heap.size w wr) (fun q _ => b.length - (intOf q).toNat)
  case atStart => exact ⟨0, by omega, rfl, Below.refl _ _⟩
  case round =>
    obtain ⟨i, hi1, rfl, hBr⟩ := hrel
    by_cases hlt : i < b.length
    · obtain ⟨b1, o1, rfl, hb1, rg1⟩ := rd_item rfl rfl (R.out.grow hBr) i hlt
      obtain ⟨b2, o2, rfl, hb2, rg2⟩ := rd_item rfl rfl (R'.out.grow hBr) i hlt
      have hlt' : (i : Int) < (b.length : Int) := by omega
      obtain ⟨z, hz⟩ := hid_ex (b[i])
      rw [hz.out] at rg1 rg2
      obtain ⟨N, F, B, C, U⟩ := z
      have eN : (N.toList == N.toList) = true := by simp
      have eB : (B.toList == B.toList) = true := by simp
      have eF : (F == F) = true := by simp
      have eC : (C == C) = true := by simp
      have eU : (U == U) = true := by simp
      obtain ⟨c0, c1, c2, c3, c4⟩ := rng5 rg1
      obtain ⟨d0, d1, d2, d3, d4⟩ := rng5 rg2
      have S1 : wr.drew.cell? ⟨b1, o1 + i * 5, none⟩ = some (.string N) ∧ wr.drew.cell? ⟨b1, o1 + i * 5 + 1, none⟩ = some (.int .i64 F) ∧ wr.drew.cell? ⟨b1, o1 + i * 5 + 2, none⟩ = some (.string B) ∧ wr.drew.cell? ⟨b1, o1 + i * 5 + 3, none⟩ = some (.int .i64 C) ∧ wr.drew.cell? ⟨b1, o1 + i * 5 + 4, none⟩ = some (.int .i64 U) ∧ wr.drew.cell? ⟨b2, o2 + i * 5, none⟩ = some (.string N) ∧ wr.drew.cell? ⟨b2, o2 + i * 5 + 1, none⟩ = some (.int .i64 F) ∧ wr.drew.cell? ⟨b2, o2 + i * 5 + 2, none⟩ = some (.string B) ∧ wr.drew.cell? ⟨b2, o2 + i * 5 + 3, none⟩ = some (.int .i64 C) ∧ wr.drew.cell? ⟨b2, o2 + i * 5 + 4, none⟩ = some (.int .i64 U) := ⟨c0, c1, c2, c3, c4, d0, d1, d2, d3, d4⟩
      go_wp2
      go_region_held3 (fun w' => w'.cell? ⟨b1, o1 + i * 5, none⟩ = some (.string N) ∧ w'.cell? ⟨b1, o1 + i * 5 + 1, none⟩ = some (.int .i64 F) ∧ w'.cell? ⟨b1, o1 + i * 5 + 2, none⟩ = some (.string B) ∧ w'.cell? ⟨b1, o1 + i * 5 + 3, none⟩ = some (.int .i64 C) ∧ w'.cell? ⟨b1, o1 + i * 5 + 4, none⟩ = some (.int .i64 U) ∧ w'.cell? ⟨b2, o2 + i * 5, none⟩ = some (.string N) ∧ w'.cell? ⟨b2, o2 + i * 5 + 1, none⟩ = some (.int .i64 F) ∧ w'.cell? ⟨b2, o2 + i * 5 + 2, none⟩ = some (.string B) ∧ w'.cell? ⟨b2, o2 + i * 5 + 3, none⟩ = some (.int .i64 C) ∧ w'.cell? ⟨b2, o2 + i * 5 + 4, none⟩ = some (.int .i64 U)) (first | with_reducible assumption | with_reducible exact S1 | (fail)) (fail)
      go_wp2
      go_roundw
      case rel => exact ⟨i + 1, by omega, by go_num, hBr.drew⟩
      case measure => simp [intOf]; omega
    · have hlt' : ¬ (i : Int) < (b.length : Int) := by omega
      go_wp2
      go_ret
      exact ⟨rfl, hBr⟩
theorem likeBook_any (I : List It) (X : Int) (v v' : Value) (w : World) (r : Rd encIt w v I) (r' : Rd encIt w v' I) :
    Calls Try.prog 28 #[.agg #[v, .int .i64 X], .agg #[v', .int .i64 X]] w fun e w' => e = .returned (.bool true) ∧ Below w.heap.size w w' := by
  obtain ⟨a, cap, rfl⟩ := r.form
  obtain ⟨a', cap', rfl⟩ := r'.form
  have R : Hid (Rd encIt w (.slice a I.length cap) I) := r
  have R' : Hid (Rd encIt w (.slice a' I.length cap') I) := r'
  clear r r'
  have hxx : (X == X) = true := by simp
  have k1 : Hid True := trivial
  go_enter Try.func28, Try.ntmps28
  go_wp2_with (first | (clear k1; refine wpList_box_v rfl 29 _ rfl [.slice a I.length cap, .int .i64 X] rfl ?_; intro b1 w1 hb1 hw1 hB1 V1; have hz1 := hB1.size) | (refine wpList_box_v rfl 29 _ rfl [.slice a' I.length cap', .int .i64 X] rfl ?_; intro b2 w2 hb2 hw2 hB2 V2; have hz2 := hB2.size; have V1b := vblk_grow V1 hB2; obtain ⟨c0, c1⟩ := cells2 V1b; obtain ⟨d0, d1⟩ := cells2 V2; have hB12 : Below w.heap.size w w2 := hB1.trans (hB2.mono hz1)) | (go_at_call 54; refine (likeItems_any I _ _ _ (R.out.grow hB12) (R'.out.grow hB12)).mono ?_; rintro e w3 ⟨rfl, hB3⟩) | (fail))
  go_ret
  exact ⟨rfl, hB12.trans (hB3.mono hB12.size)⟩
end Go.Proofs.Ytcbhbpdlgibipaa.rg
