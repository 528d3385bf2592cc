/- FnReplies' walk. -/
import Derived.Test.YtaabmkhckbndgaaGreatDoorRy0
import Derived.Test.YtaabmkhckbndgaaGreatDoorDr3
import Derived.Test.YtaabmkhckbndgaaGreatDoorRa4
import Derived.Test.YtaabmkhckbndgaaGreatDoorRb1
import Derived.Test.YtaabmkhckbndgaaGreatDoorMg20
import Derived.Test.YtaabmkhckbndgaaGreatDoorMg16
import Derived.Test.YtaabmkhckbndgaaGreatDoorMg15
import Derived.Lib.SmallJoins
import Derived.Deep.Slices
import Derived.Deep.RegionHeld3
import Derived.BigQuiet
import Derived.Deep.DeepCutAuto
import Derived.Deep.CutBlock
namespace Go.Proofs.YtaabmkhckbndgaaGreatDoor.lawRy
open Go.ChangeShapes Go.WideShapes Go.ChangeAt Go.RowKit
open Go.Deep Go.Joins
open Go.Proofs.YtaabmkhckbndgaaGreatDoor.ce Go.Proofs.YtaabmkhckbndgaaGreatDoor.ro Go.Proofs.YtaabmkhckbndgaaGreatDoor.rg Go.Proofs.YtaabmkhckbndgaaGreatDoor.draw Go.Proofs.YtaabmkhckbndgaaGreatDoor.cm
set_option linter.unusedVariables false

set_option maxRecDepth 100000 in
set_option maxHeartbeats 8000000 in
theorem walk (a0 : Option Addr) (len cap : Nat) (w : World) (en : EnvX w) (hlen : len ≤ 4096) (hcode0 : CodeAt w a0 len) :
    Calls Tryz.prog 5 #[.slice a0 len cap] w fun e w' => e = .returned (.bool true) ∧ Below w.heap.size w w' := by
  have HC : Hid (CodeAt w a0 len) := hcode0
  clear hcode0
  have EN : Hid (EnvX w) := en
  clear en
  have hl' : ¬ (4096 : Int) < (len : Int) := by omega
  have hB : Below w.heap.size w w := Below.refl _ _
  have hzw := hB.size
  go_enter Tryz.func5, Tryz.ntmps5
  have mk1 : Hid True := trivial
  have mk2 : Hid True := trivial
  have mk3 : Hid True := trivial
  have mk4 : Hid True := trivial
  have mk5 : Hid True := trivial
  have mk6 : Hid True := trivial
  have mk7 : Hid True := trivial
  have mk8 : Hid True := trivial
  have mk9 : Hid True := trivial
  have mk10 : Hid True := trivial
  have mk11 : Hid True := trivial
  have mk12 : Hid True := trivial
  have mk13 : Hid True := trivial
  go_upto_region 8 with (first | (clear mk1; go_at_call 9; go_in) | (clear mk2; go_at_call 24; refine (drawShowReply_any _ _ _ _ HC.out).mono ?_; rintro er w1 ⟨K3, N3, F3, B3, C3, M3, rfl, hB1, hN3, hb3⟩; have hz1 : w.heap.size ≤ w1.heap.size := hB1.size; replace hB := hB.trans (hB1.mono (by omega)); replace hzw := hB.size; obtain ⟨S, hS⟩ := hid_ex (shRX ⟨K3, N3, F3, B3, C3, M3⟩); obtain ⟨z, hz⟩ := hid_ex (repB ⟨K3, N3, F3, B3, C3, M3⟩)) | (clear mk3; refine wpList_alloc_v rfl 42 rfl _ zeroRp ?_; intro b3 w2 hb3 hwb3 hB2 c3; have hz2 : w1.heap.size ≤ w2.heap.size := hB2.size; replace hB := hB.trans (hB2.mono (by omega)); replace hzw := hB.size) | (clear mk4; refine wpList_store_v rfl 42 _ _ rfl b3 [.int .i64 K3, .string N3, .int .i64 F3, .string B3, .int .i64 C3, .int .i64 M3] rfl rfl sizeRp c3 rfl (oneRp ⟨K3, N3, F3, B3, C3, M3⟩) ?_; intro w3 hO3 c3x; have hz3 : w2.heap.size ≤ w3.heap.size := (Nat.le_of_eq hO3.1.symm); have hy3 : w3.heap.size ≤ w2.heap.size := (Nat.le_of_eq hO3.1); replace hB := hB.trans (hO3.2.2 _ (by omega)); replace hzw := hB.size; clear c3; have c3 := c3x; clear c3x; obtain ⟨c30, c31, c32, c33, c34, c35⟩ := cellsRp c3) | (clear mk5; refine wpList_load_r rfl 42 _ rfl b3 0 [.int .i64 K3, .string N3, .int .i64 F3, .string B3, .int .i64 C3, .int .i64 M3] rfl _ Tryz.underlying42 rfl sizeRp c3.range ?_) | (clear mk6; go_at_call 25; refine (implShowReply_any K3 N3 F3 B3 C3 M3 S hS (by omega) (by omega) _ (EN.out.grow hB).p).mono ?_; rintro er w4 ⟨rfl, hB4⟩; have hz4 : w3.heap.size ≤ w4.heap.size := hB4.size; replace c3 := vblk_grow c3 hB4; replace hB := hB.trans (hB4.mono (by omega)); replace hzw := hB.size; clear c30 c31 c32 c33 c34 c35; obtain ⟨c30, c31, c32, c33, c34, c35⟩ := cellsRp c3) | (clear mk7; go_at_call 26; refine (drawReplyAt_any _ _ _ _ (codei_below HC.out hB)).mono ?_; rintro er w5 ⟨t, q, rfl, hB5, ht, hq0, hq1⟩; have hz5 : w4.heap.size ≤ w5.heap.size := hB5.size; replace c3 := vblk_grow c3 hB5; replace hB := hB.trans (hB5.mono (by omega)); replace hzw := hB.size; clear c30 c31 c32 c33 c34 c35; obtain ⟨c30, c31, c32, c33, c34, c35⟩ := cellsRp c3; obtain ⟨⟨⟨K7, N7, F7, B7, C7, M7⟩, T7⟩, hX⟩ := hid_ex (atR t q)) | (clear mk8; go_at_call 27; refine (implReplyAt_any t q (by omega) _ (EN.out.grow hB)).mono ?_; rw [hX.out]; rintro er w6 ⟨rfl, hB6⟩; dsimp only [csRp]; have hz6 : w5.heap.size ≤ w6.heap.size := hB6.size; replace c3 := vblk_grow c3 hB6; replace hB := hB.trans (hB6.mono (by omega)); replace hzw := hB.size; clear c30 c31 c32 c33 c34 c35; obtain ⟨c30, c31, c32, c33, c34, c35⟩ := cellsRp c3) | (clear mk9; refine wpList_alloc_v rfl 42 rfl _ zeroRp ?_; intro b7 w7 hb7 hwb7 hB7 c7; have hz7 : w6.heap.size ≤ w7.heap.size := hB7.size; replace c3 := vblk_grow c3 hB7; replace hB := hB.trans (hB7.mono (by omega)); replace hzw := hB.size; clear c30 c31 c32 c33 c34 c35; obtain ⟨c30, c31, c32, c33, c34, c35⟩ := cellsRp c3) | (clear mk10; refine wpList_store_v rfl 42 _ _ rfl b7 [.int .i64 K7, .string N7, .int .i64 F7, .string B7, .int .i64 C7, .int .i64 M7] rfl rfl sizeRp c7 rfl (oneRp ⟨K7, N7, F7, B7, C7, M7⟩) ?_; intro w8 hO8 c7x; have hz8 : w7.heap.size ≤ w8.heap.size := (Nat.le_of_eq hO8.1.symm); have hy8 : w8.heap.size ≤ w7.heap.size := (Nat.le_of_eq hO8.1); replace c3 := vblk_only c3 hO8 (by omega); replace hB := hB.trans (hO8.2.2 _ (by omega)); replace hzw := hB.size; clear c30 c31 c32 c33 c34 c35; obtain ⟨c30, c31, c32, c33, c34, c35⟩ := cellsRp c3; clear c7; have c7 := c7x; clear c7x; obtain ⟨c70, c71, c72, c73, c74, c75⟩ := cellsRp c7) | (clear mk11; go_at_call 28; refine (specReplyAt_any t q (by omega) _).mono ?_; rw [hX.out]; rintro er w9 ⟨rfl, hB9⟩; dsimp only [csRp]; have hz9 : w8.heap.size ≤ w9.heap.size := hB9.size; replace c3 := vblk_grow c3 hB9; replace c7 := vblk_grow c7 hB9; replace hB := hB.trans (hB9.mono (by omega)); replace hzw := hB.size; clear c30 c31 c32 c33 c34 c35; obtain ⟨c30, c31, c32, c33, c34, c35⟩ := cellsRp c3; clear c70 c71 c72 c73 c74 c75; obtain ⟨c70, c71, c72, c73, c74, c75⟩ := cellsRp c7) | (clear mk12; refine wpList_alloc_v rfl 42 rfl _ zeroRp ?_; intro b9 w10 hb9 hwb9 hB10 c9; have hz10 : w9.heap.size ≤ w10.heap.size := hB10.size; replace c3 := vblk_grow c3 hB10; replace c7 := vblk_grow c7 hB10; replace hB := hB.trans (hB10.mono (by omega)); replace hzw := hB.size; clear c30 c31 c32 c33 c34 c35; obtain ⟨c30, c31, c32, c33, c34, c35⟩ := cellsRp c3; clear c70 c71 c72 c73 c74 c75; obtain ⟨c70, c71, c72, c73, c74, c75⟩ := cellsRp c7) | (clear mk13; refine wpList_store_v rfl 42 _ _ rfl b9 [.int .i64 K7, .string N7, .int .i64 F7, .string B7, .int .i64 C7, .int .i64 M7] rfl rfl sizeRp c9 rfl (oneRp ⟨K7, N7, F7, B7, C7, M7⟩) ?_; intro w11 hO11 c9x; have hz11 : w10.heap.size ≤ w11.heap.size := (Nat.le_of_eq hO11.1.symm); have hy11 : w11.heap.size ≤ w10.heap.size := (Nat.le_of_eq hO11.1); replace c3 := vblk_only c3 hO11 (by omega); replace c7 := vblk_only c7 hO11 (by omega); replace hB := hB.trans (hO11.2.2 _ (by omega)); replace hzw := hB.size; clear c30 c31 c32 c33 c34 c35; obtain ⟨c30, c31, c32, c33, c34, c35⟩ := cellsRp c3; clear c70 c71 c72 c73 c74 c75; obtain ⟨c70, c71, c72, c73, c74, c75⟩ := cellsRp c7; clear c9; have c9 := c9x; clear c9x; obtain ⟨c90, c91, c92, c93, c94, c95⟩ := cellsRp c9) | (fail))
  have eK : (K7 == K7) = true := by simp
  have eF : (F7 == F7) = true := by simp
  have eC : (C7 == C7) = true := by simp
  have eM : (M7 == M7) = true := by simp
  have eN : (N7.toList == N7.toList) = true := by simp
  have eB : (B7.toList == B7.toList) = true := by simp
  have eT : (T7 != T7) = false := by simp
  have eS : (S.toList != S.toList) = false := by simp
  have ezz : (z != z) = false := by simp
  have hBd : Below w11.heap.size w11 w11.drew := (Below.refl _ _).drew
  have hzd : w11.drew.heap.size ≤ w11.heap.size := Nat.le_refl _
  have hzd2 : w11.heap.size ≤ w11.drew.heap.size := Nat.le_refl _
  replace c3 := vblk_grow c3 hBd
  clear c30 c31 c32 c33 c34 c35
  obtain ⟨c30, c31, c32, c33, c34, c35⟩ := cellsRp c3
  replace c7 := vblk_grow c7 hBd
  clear c70 c71 c72 c73 c74 c75
  obtain ⟨c70, c71, c72, c73, c74, c75⟩ := cellsRp c7
  replace c9 := vblk_grow c9 hBd
  clear c90 c91 c92 c93 c94 c95
  obtain ⟨c90, c91, c92, c93, c94, c95⟩ := cellsRp c9
  replace hB := hB.trans (hBd.mono (by omega))
  replace hzw := hB.size
  have S1 : w11.drew.cell? ⟨b7, 0, none⟩ = some (.int .i64 K7) ∧ w11.drew.cell? ⟨b7, 1, none⟩ = some (.string N7) ∧ w11.drew.cell? ⟨b7, 2, none⟩ = some (.int .i64 F7) ∧ w11.drew.cell? ⟨b7, 3, none⟩ = some (.string B7) ∧ w11.drew.cell? ⟨b7, 4, none⟩ = some (.int .i64 C7) ∧ w11.drew.cell? ⟨b7, 5, none⟩ = some (.int .i64 M7) ∧ w11.drew.cell? ⟨b9, 0, none⟩ = some (.int .i64 K7) ∧ w11.drew.cell? ⟨b9, 1, none⟩ = some (.string N7) ∧ w11.drew.cell? ⟨b9, 2, none⟩ = some (.int .i64 F7) ∧ w11.drew.cell? ⟨b9, 3, none⟩ = some (.string B7) ∧ w11.drew.cell? ⟨b9, 4, none⟩ = some (.int .i64 C7) ∧ w11.drew.cell? ⟨b9, 5, none⟩ = some (.int .i64 M7) ∧ w11.drew.cell? ⟨b3, 0, none⟩ = some (.int .i64 K3) ∧ w11.drew.cell? ⟨b3, 1, none⟩ = some (.string N3) ∧ w11.drew.cell? ⟨b3, 2, none⟩ = some (.int .i64 F3) ∧ w11.drew.cell? ⟨b3, 3, none⟩ = some (.string B3) ∧ w11.drew.cell? ⟨b3, 4, none⟩ = some (.int .i64 C3) ∧ w11.drew.cell? ⟨b3, 5, none⟩ = some (.int .i64 M3) := ⟨c70, c71, c72, c73, c74, c75, c90, c91, c92, c93, c94, c95, c30, c31, c32, c33, c34, c35⟩
  have mk14 : Hid True := trivial
  have mk15 : Hid True := trivial
  have mk16 : Hid True := trivial
  go_region_held3 (fun w' => w'.cell? ⟨b7, 0, none⟩ = some (.int .i64 K7) ∧ w'.cell? ⟨b7, 1, none⟩ = some (.string N7) ∧ w'.cell? ⟨b7, 2, none⟩ = some (.int .i64 F7) ∧ w'.cell? ⟨b7, 3, none⟩ = some (.string B7) ∧ w'.cell? ⟨b7, 4, none⟩ = some (.int .i64 C7) ∧ w'.cell? ⟨b7, 5, none⟩ = some (.int .i64 M7) ∧ w'.cell? ⟨b9, 0, none⟩ = some (.int .i64 K7) ∧ w'.cell? ⟨b9, 1, none⟩ = some (.string N7) ∧ w'.cell? ⟨b9, 2, none⟩ = some (.int .i64 F7) ∧ w'.cell? ⟨b9, 3, none⟩ = some (.string B7) ∧ w'.cell? ⟨b9, 4, none⟩ = some (.int .i64 C7) ∧ w'.cell? ⟨b9, 5, none⟩ = some (.int .i64 M7) ∧ w'.cell? ⟨b3, 0, none⟩ = some (.int .i64 K3) ∧ w'.cell? ⟨b3, 1, none⟩ = some (.string N3) ∧ w'.cell? ⟨b3, 2, none⟩ = some (.int .i64 F3) ∧ w'.cell? ⟨b3, 3, none⟩ = some (.string B3) ∧ w'.cell? ⟨b3, 4, none⟩ = some (.int .i64 C3) ∧ w'.cell? ⟨b3, 5, none⟩ = some (.int .i64 M3)) (first | with_reducible assumption | with_reducible exact S1 | (fail)) (first | (clear mk14; go_at_call 29; refine (specShowReply_any K3 N3 F3 B3 C3 M3 S hS (by omega) (by omega) _).mono ?_; rintro er w12 ⟨rfl, hB12⟩; have hz12 : w11.drew.heap.size ≤ w12.heap.size := hB12.size; replace c3 := vblk_grow c3 hB12; replace c7 := vblk_grow c7 hB12; replace c9 := vblk_grow c9 hB12; replace hB := hB.trans (hB12.mono (by omega)); replace hzw := hB.size; clear c30 c31 c32 c33 c34 c35; obtain ⟨c30, c31, c32, c33, c34, c35⟩ := cellsRp c3; clear c70 c71 c72 c73 c74 c75; obtain ⟨c70, c71, c72, c73, c74, c75⟩ := cellsRp c7; clear c90 c91 c92 c93 c94 c95; obtain ⟨c90, c91, c92, c93, c94, c95⟩ := cellsRp c9; have S2 : w12.cell? ⟨b7, 0, none⟩ = some (.int .i64 K7) ∧ w12.cell? ⟨b7, 1, none⟩ = some (.string N7) ∧ w12.cell? ⟨b7, 2, none⟩ = some (.int .i64 F7) ∧ w12.cell? ⟨b7, 3, none⟩ = some (.string B7) ∧ w12.cell? ⟨b7, 4, none⟩ = some (.int .i64 C7) ∧ w12.cell? ⟨b7, 5, none⟩ = some (.int .i64 M7) ∧ w12.cell? ⟨b9, 0, none⟩ = some (.int .i64 K7) ∧ w12.cell? ⟨b9, 1, none⟩ = some (.string N7) ∧ w12.cell? ⟨b9, 2, none⟩ = some (.int .i64 F7) ∧ w12.cell? ⟨b9, 3, none⟩ = some (.string B7) ∧ w12.cell? ⟨b9, 4, none⟩ = some (.int .i64 C7) ∧ w12.cell? ⟨b9, 5, none⟩ = some (.int .i64 M7) ∧ w12.cell? ⟨b3, 0, none⟩ = some (.int .i64 K3) ∧ w12.cell? ⟨b3, 1, none⟩ = some (.string N3) ∧ w12.cell? ⟨b3, 2, none⟩ = some (.int .i64 F3) ∧ w12.cell? ⟨b3, 3, none⟩ = some (.string B3) ∧ w12.cell? ⟨b3, 4, none⟩ = some (.int .i64 C3) ∧ w12.cell? ⟨b3, 5, none⟩ = some (.int .i64 M3) := ⟨c70, c71, c72, c73, c74, c75, c90, c91, c92, c93, c94, c95, c30, c31, c32, c33, c34, c35⟩) | (clear mk15; go_at_call 30; refine (implReplyOk_any K3 N3 F3 B3 C3 M3 z hz (by omega) (by omega) _).mono ?_; rintro er w13 ⟨rfl, hB13⟩; have hz13 : w12.heap.size ≤ w13.heap.size := hB13.size; replace c3 := vblk_grow c3 hB13; replace c7 := vblk_grow c7 hB13; replace c9 := vblk_grow c9 hB13; replace hB := hB.trans (hB13.mono (by omega)); replace hzw := hB.size; clear c30 c31 c32 c33 c34 c35; obtain ⟨c30, c31, c32, c33, c34, c35⟩ := cellsRp c3; clear c70 c71 c72 c73 c74 c75; obtain ⟨c70, c71, c72, c73, c74, c75⟩ := cellsRp c7; clear c90 c91 c92 c93 c94 c95; obtain ⟨c90, c91, c92, c93, c94, c95⟩ := cellsRp c9; have S3 : w13.cell? ⟨b7, 0, none⟩ = some (.int .i64 K7) ∧ w13.cell? ⟨b7, 1, none⟩ = some (.string N7) ∧ w13.cell? ⟨b7, 2, none⟩ = some (.int .i64 F7) ∧ w13.cell? ⟨b7, 3, none⟩ = some (.string B7) ∧ w13.cell? ⟨b7, 4, none⟩ = some (.int .i64 C7) ∧ w13.cell? ⟨b7, 5, none⟩ = some (.int .i64 M7) ∧ w13.cell? ⟨b9, 0, none⟩ = some (.int .i64 K7) ∧ w13.cell? ⟨b9, 1, none⟩ = some (.string N7) ∧ w13.cell? ⟨b9, 2, none⟩ = some (.int .i64 F7) ∧ w13.cell? ⟨b9, 3, none⟩ = some (.string B7) ∧ w13.cell? ⟨b9, 4, none⟩ = some (.int .i64 C7) ∧ w13.cell? ⟨b9, 5, none⟩ = some (.int .i64 M7) ∧ w13.cell? ⟨b3, 0, none⟩ = some (.int .i64 K3) ∧ w13.cell? ⟨b3, 1, none⟩ = some (.string N3) ∧ w13.cell? ⟨b3, 2, none⟩ = some (.int .i64 F3) ∧ w13.cell? ⟨b3, 3, none⟩ = some (.string B3) ∧ w13.cell? ⟨b3, 4, none⟩ = some (.int .i64 C3) ∧ w13.cell? ⟨b3, 5, none⟩ = some (.int .i64 M3) := ⟨c70, c71, c72, c73, c74, c75, c90, c91, c92, c93, c94, c95, c30, c31, c32, c33, c34, c35⟩) | (clear mk16; go_at_call 31; refine (specReplyOk_any K3 N3 F3 B3 C3 M3 z hz (by omega) (by omega) _).mono ?_; rintro er w14 ⟨rfl, hB14⟩; have hz14 : w13.heap.size ≤ w14.heap.size := hB14.size; replace c3 := vblk_grow c3 hB14; replace c7 := vblk_grow c7 hB14; replace c9 := vblk_grow c9 hB14; replace hB := hB.trans (hB14.mono (by omega)); replace hzw := hB.size; clear c30 c31 c32 c33 c34 c35; obtain ⟨c30, c31, c32, c33, c34, c35⟩ := cellsRp c3; clear c70 c71 c72 c73 c74 c75; obtain ⟨c70, c71, c72, c73, c74, c75⟩ := cellsRp c7; clear c90 c91 c92 c93 c94 c95; obtain ⟨c90, c91, c92, c93, c94, c95⟩ := cellsRp c9; have S4 : w14.cell? ⟨b7, 0, none⟩ = some (.int .i64 K7) ∧ w14.cell? ⟨b7, 1, none⟩ = some (.string N7) ∧ w14.cell? ⟨b7, 2, none⟩ = some (.int .i64 F7) ∧ w14.cell? ⟨b7, 3, none⟩ = some (.string B7) ∧ w14.cell? ⟨b7, 4, none⟩ = some (.int .i64 C7) ∧ w14.cell? ⟨b7, 5, none⟩ = some (.int .i64 M7) ∧ w14.cell? ⟨b9, 0, none⟩ = some (.int .i64 K7) ∧ w14.cell? ⟨b9, 1, none⟩ = some (.string N7) ∧ w14.cell? ⟨b9, 2, none⟩ = some (.int .i64 F7) ∧ w14.cell? ⟨b9, 3, none⟩ = some (.string B7) ∧ w14.cell? ⟨b9, 4, none⟩ = some (.int .i64 C7) ∧ w14.cell? ⟨b9, 5, none⟩ = some (.int .i64 M7) ∧ w14.cell? ⟨b3, 0, none⟩ = some (.int .i64 K3) ∧ w14.cell? ⟨b3, 1, none⟩ = some (.string N3) ∧ w14.cell? ⟨b3, 2, none⟩ = some (.int .i64 F3) ∧ w14.cell? ⟨b3, 3, none⟩ = some (.string B3) ∧ w14.cell? ⟨b3, 4, none⟩ = some (.int .i64 C3) ∧ w14.cell? ⟨b3, 5, none⟩ = some (.int .i64 M3) := ⟨c70, c71, c72, c73, c74, c75, c90, c91, c92, c93, c94, c95, c30, c31, c32, c33, c34, c35⟩) | (fail))
  clear S1 hBd
  clear c90 c91 c92 c93 c94 c95 c30 c31 c32 c33 c34 c35
  go_upto_region 10 with (fail)
  have hq : Below w.heap.size w w14 ∧ VBlk w14 b3 42 [.int .i64 K3, .string N3, .int .i64 F3, .string B3, .int .i64 C3, .int .i64 M3] ∧ VBlk w14 b7 42 [.int .i64 K7, .string N7, .int .i64 F7, .string B7, .int .i64 C7, .int .i64 M7] := ⟨hB, c3, c7⟩
  clear hB c3 c7 c9 c70 c71 c72 c73 c74 c75
  (try simp only [Act.put])
  (try simp only [List.setIfInBounds_toArray, List.set_cons_zero, List.set_cons_succ])
  go_cut [78] from 59 to 78 (fun s78 wc => s78 = .bool false ∧ Below w.heap.size w wc ∧ VBlk wc b3 42 [.int .i64 K3, .string N3, .int .i64 F3, .string B3, .int .i64 C3, .int .i64 M3])
  case first =>
    obtain ⟨hB, c3, c7⟩ := hq
    replace hB := hB.drew
    replace c3 := c3.drew
    replace c7 := c7.drew
    have S1 := cellsRp c7
    rcases atR_cases t q with h0 | ⟨r1, a, b, rfl, hab, hbt, h1, ok1, hsh⟩
    · rw [hX.out] at h0
      obtain ⟨hr, rfl⟩ := Prod.mk.inj h0
      obtain ⟨rfl, rfl, rfl, rfl, rfl, rfl⟩ : K7 = 0 ∧ N7 = ⟨#[]⟩ ∧ F7 = 0 ∧ B7 = ⟨#[]⟩ ∧ C7 = 0 ∧ M7 = 0 := by cases hr; exact ⟨rfl, rfl, rfl, rfl, rfl, rfl⟩
      clear hr h0 hX
      refine wp_region_held_drew (S := fun w' => w'.cell? ⟨b7, 0, none⟩ = some (.int .i64 0) ∧ w'.cell? ⟨b7, 1, none⟩ = some (.string ⟨#[]⟩) ∧ w'.cell? ⟨b7, 2, none⟩ = some (.int .i64 0) ∧ w'.cell? ⟨b7, 3, none⟩ = some (.string ⟨#[]⟩) ∧ w'.cell? ⟨b7, 4, none⟩ = some (.int .i64 0) ∧ w'.cell? ⟨b7, 5, none⟩ = some (.int .i64 0)) (by kernel_rfl) (S1) (fun hHeld => ?_)
      refine wpAnyH_take (i := 0) (oi := { dst := some 59, op := Op.move (Operand.tmp 8), type := 2, pos := "laws.go:853", after := #[], guard := none }) (v := ?_) rfl (by kernel_rfl) (by kernel_rfl) (by kernel_rfl) (fun _ _ _ h => h) (Or.inl ⟨by rfl, ?_⟩) (by assumption) ?_
      rotate_left 1
      · intro w' hSw
        (try dsimp only at hSw)
        go_simp
        (try with_reducible rfl)
      (try simp only [Act.put, List.setIfInBounds_toArray, List.set_cons_zero, List.set_cons_succ])
      refine wpAnyH_take (i := 1) (oi := { dst := some 60, op := Op.binOp BinOp.geq 2 (Operand.tmp 59) (Operand.const (Value.int IntKind.i64 0)) 2, type := 4, pos := "laws.go:853", after := #[{ on := 0, ground := Ground.data }], guard := none }) (v := ?_) rfl (by kernel_rfl) (by kernel_rfl) (by kernel_rfl) (fun _ _ _ h => h) (Or.inl ⟨by rfl, ?_⟩) (by assumption) ?_
      rotate_left 1
      · intro w' hSw
        (try dsimp only at hSw)
        go_simp
        (try with_reducible rfl)
      (try simp only [Act.put, List.setIfInBounds_toArray, List.set_cons_zero, List.set_cons_succ])
      refine wpAnyH_take (i := 2) (oi := { dst := some 61, op := Op.move (Operand.tmp 60), type := 4, pos := "laws.go:853", after := #[{ on := 1, ground := Ground.data }], guard := none }) (v := ?_) rfl (by kernel_rfl) (by kernel_rfl) (by kernel_rfl) (fun _ _ _ h => h) (Or.inl ⟨by rfl, ?_⟩) (by assumption) ?_
      rotate_left 1
      · intro w' hSw
        (try dsimp only at hSw)
        go_simp
        (try with_reducible rfl)
      (try simp only [Act.put, List.setIfInBounds_toArray, List.set_cons_zero, List.set_cons_succ])
      refine wpAnyH_take (i := 3) (oi := { dst := some 62, op := Op.load 42 (Operand.tmp 7), type := 42, pos := "laws.go:853", after := #[{ on := 2, ground := Ground.guard }], guard := some (2, true) }) (v := undef) rfl (by kernel_rfl) (by kernel_rfl) (by kernel_rfl) (fun _ _ _ h => h) (Or.inr ⟨by rfl, rfl⟩) (by assumption) ?_
      (try simp only [Act.put, List.setIfInBounds_toArray, List.set_cons_zero, List.set_cons_succ])
      refine wpAnyH_take (i := 4) (oi := { dst := some 63, op := Op.call { callee := Callee.value (Operand.func 25), args := #[Operand.tmp 62], argTypes := #[42] }, type := 9, pos := "laws.go:853", after := #[{ on := 3, ground := Ground.data }, { on := 2, ground := Ground.chain }, { on := 2, ground := Ground.guard }], guard := some (2, true) }) (v := undef) rfl (by kernel_rfl) (by kernel_rfl) (by kernel_rfl) (fun _ _ _ h => h) (Or.inr ⟨by rfl, rfl⟩) (by assumption) ?_
      (try simp only [Act.put, List.setIfInBounds_toArray, List.set_cons_zero, List.set_cons_succ])
      refine wpAnyH_take (i := 5) (oi := { dst := some 64, op := Op.move (Operand.tmp 5), type := 9, pos := "laws.go:853", after := #[{ on := 2, ground := Ground.guard }], guard := some (2, true) }) (v := undef) rfl (by kernel_rfl) (by kernel_rfl) (by kernel_rfl) (fun _ _ _ h => h) (Or.inr ⟨by rfl, rfl⟩) (by assumption) ?_
      (try simp only [Act.put, List.setIfInBounds_toArray, List.set_cons_zero, List.set_cons_succ])
      refine wpAnyH_take (i := 6) (oi := { dst := some 65, op := Op.move (Operand.tmp 6), type := 2, pos := "laws.go:853", after := #[{ on := 2, ground := Ground.guard }], guard := some (2, true) }) (v := undef) rfl (by kernel_rfl) (by kernel_rfl) (by kernel_rfl) (fun _ _ _ h => h) (Or.inr ⟨by rfl, rfl⟩) (by assumption) ?_
      (try simp only [Act.put, List.setIfInBounds_toArray, List.set_cons_zero, List.set_cons_succ])
      refine wpAnyH_take (i := 7) (oi := { dst := some 66, op := Op.move (Operand.tmp 8), type := 2, pos := "laws.go:853", after := #[{ on := 2, ground := Ground.guard }], guard := some (2, true) }) (v := undef) rfl (by kernel_rfl) (by kernel_rfl) (by kernel_rfl) (fun _ _ _ h => h) (Or.inr ⟨by rfl, rfl⟩) (by assumption) ?_
      (try simp only [Act.put, List.setIfInBounds_toArray, List.set_cons_zero, List.set_cons_succ])
      refine wpAnyH_take (i := 8) (oi := { dst := some 67, op := Op.slice 9 (Operand.tmp 64) (some (Operand.tmp 65)) (some (Operand.tmp 66)) none, type := 9, pos := "laws.go:853", after := #[{ on := 5, ground := Ground.data }, { on := 6, ground := Ground.data }, { on := 7, ground := Ground.data }, { on := 2, ground := Ground.guard }], guard := some (2, true) }) (v := undef) rfl (by kernel_rfl) (by kernel_rfl) (by kernel_rfl) (fun _ _ _ h => h) (Or.inr ⟨by rfl, rfl⟩) (by assumption) ?_
      (try simp only [Act.put, List.setIfInBounds_toArray, List.set_cons_zero, List.set_cons_succ])
      refine wpAnyH_take (i := 9) (oi := { dst := some 68, op := Op.binOp BinOp.neq 9 (Operand.tmp 63) (Operand.tmp 67) 9, type := 4, pos := "laws.go:853", after := #[{ on := 4, ground := Ground.data }, { on := 8, ground := Ground.data }, { on := 2, ground := Ground.guard }], guard := some (2, true) }) (v := undef) rfl (by kernel_rfl) (by kernel_rfl) (by kernel_rfl) (fun _ _ _ h => h) (Or.inr ⟨by rfl, rfl⟩) (by assumption) ?_
      (try simp only [Act.put, List.setIfInBounds_toArray, List.set_cons_zero, List.set_cons_succ])
      refine wpAnyH_take (i := 10) (oi := { dst := some 69, op := Op.pick (Operand.tmp 61) (Operand.tmp 68) (Operand.const (Value.bool false)), type := 4, pos := "laws.go:853", after := #[{ on := 2, ground := Ground.data }, { on := 9, ground := Ground.data }], guard := none }) (v := ?_) rfl (by kernel_rfl) (by kernel_rfl) (by kernel_rfl) (fun _ _ _ h => h) (Or.inl ⟨by rfl, ?_⟩) (by assumption) ?_
      rotate_left 1
      · intro w' hSw
        (try dsimp only at hSw)
        go_simp
        (try with_reducible rfl)
      (try simp only [Act.put, List.setIfInBounds_toArray, List.set_cons_zero, List.set_cons_succ])
      refine wpAnyH_take (i := 11) (oi := { dst := some 70, op := Op.move (Operand.tmp 69), type := 4, pos := "laws.go:853", after := #[{ on := 10, ground := Ground.data }, { on := 4, ground := Ground.chain }], guard := none }) (v := ?_) rfl (by kernel_rfl) (by kernel_rfl) (by kernel_rfl) (fun _ _ _ h => h) (Or.inl ⟨by rfl, ?_⟩) (by assumption) ?_
      rotate_left 1
      · intro w' hSw
        (try dsimp only at hSw)
        go_simp
        (try with_reducible rfl)
      (try simp only [Act.put, List.setIfInBounds_toArray, List.set_cons_zero, List.set_cons_succ])
      refine wpAnyH_take (i := 12) (oi := { dst := some 71, op := Op.move (Operand.tmp 8), type := 2, pos := "laws.go:853", after := #[{ on := 11, ground := Ground.guard }], guard := some (11, false) }) (v := ?_) rfl (by kernel_rfl) (by kernel_rfl) (by kernel_rfl) (fun _ _ _ h => h) (Or.inl ⟨by rfl, ?_⟩) (by assumption) ?_
      rotate_left 1
      · intro w' hSw
        (try dsimp only at hSw)
        go_simp
        (try with_reducible rfl)
      (try simp only [Act.put, List.setIfInBounds_toArray, List.set_cons_zero, List.set_cons_succ])
      refine wpAnyH_take (i := 13) (oi := { dst := some 72, op := Op.binOp BinOp.lss 2 (Operand.tmp 71) (Operand.const (Value.int IntKind.i64 0)) 2, type := 4, pos := "laws.go:853", after := #[{ on := 12, ground := Ground.data }, { on := 11, ground := Ground.guard }], guard := some (11, false) }) (v := ?_) rfl (by kernel_rfl) (by kernel_rfl) (by kernel_rfl) (fun _ _ _ h => h) (Or.inl ⟨by rfl, ?_⟩) (by assumption) ?_
      rotate_left 1
      · intro w' hSw
        (try dsimp only at hSw)
        go_simp
        (try with_reducible rfl)
      (try simp only [Act.put, List.setIfInBounds_toArray, List.set_cons_zero, List.set_cons_succ])
      refine wpAnyH_take (i := 14) (oi := { dst := some 73, op := Op.move (Operand.tmp 72), type := 4, pos := "laws.go:853", after := #[{ on := 13, ground := Ground.data }, { on := 11, ground := Ground.chain }, { on := 11, ground := Ground.guard }], guard := some (11, false) }) (v := ?_) rfl (by kernel_rfl) (by kernel_rfl) (by kernel_rfl) (fun _ _ _ h => h) (Or.inl ⟨by rfl, ?_⟩) (by assumption) ?_
      rotate_left 1
      · intro w' hSw
        (try dsimp only at hSw)
        go_simp
        (try with_reducible rfl)
      (try simp only [Act.put, List.setIfInBounds_toArray, List.set_cons_zero, List.set_cons_succ])
      refine wpAnyH_take (i := 15) (oi := { dst := some 74, op := Op.load 42 (Operand.tmp 7), type := 42, pos := "laws.go:853", after := #[{ on := 14, ground := Ground.guard }], guard := some (14, true) }) (v := ?_) rfl (by kernel_rfl) (by kernel_rfl) (by kernel_rfl) (fun _ _ _ h => h) (Or.inl ⟨by rfl, ?_⟩) (by assumption) ?_
      rotate_left 1
      · intro w' hSw
        (try dsimp only at hSw)
        go_simp
        (try with_reducible rfl)
      (try simp only [Act.put, List.setIfInBounds_toArray, List.set_cons_zero, List.set_cons_succ])
      refine wpAnyH_take (i := 16) (oi := { dst := some 75, op := Op.build 42 #[], type := 42, pos := "laws.go:853", after := #[{ on := 14, ground := Ground.guard }], guard := some (14, true) }) (v := ?_) rfl (by kernel_rfl) (by kernel_rfl) (by kernel_rfl) (fun _ _ _ h => h) (Or.inl ⟨by rfl, ?_⟩) (by assumption) ?_
      rotate_left 1
      · intro w' hSw
        (try dsimp only at hSw)
        go_simp
        (try with_reducible rfl)
      (try simp only [Act.put, List.setIfInBounds_toArray, List.set_cons_zero, List.set_cons_succ])
      refine wpAnyH_take (i := 17) (oi := { dst := some 76, op := Op.binOp BinOp.neq 42 (Operand.tmp 74) (Operand.tmp 75) 42, type := 4, pos := "laws.go:853", after := #[{ on := 15, ground := Ground.data }, { on := 16, ground := Ground.data }, { on := 14, ground := Ground.guard }], guard := some (14, true) }) (v := ?_) rfl (by kernel_rfl) (by kernel_rfl) (by kernel_rfl) (fun _ _ _ h => h) (Or.inl ⟨by rfl, ?_⟩) (by assumption) ?_
      rotate_left 1
      · intro w' hSw
        (try dsimp only at hSw)
        go_simp
        (try with_reducible rfl)
      (try simp only [Act.put, List.setIfInBounds_toArray, List.set_cons_zero, List.set_cons_succ])
      refine wpAnyH_take (i := 18) (oi := { dst := some 77, op := Op.pick (Operand.tmp 73) (Operand.tmp 76) (Operand.const (Value.bool false)), type := 4, pos := "laws.go:853", after := #[{ on := 14, ground := Ground.data }, { on := 17, ground := Ground.data }, { on := 11, ground := Ground.guard }], guard := some (11, false) }) (v := ?_) rfl (by kernel_rfl) (by kernel_rfl) (by kernel_rfl) (fun _ _ _ h => h) (Or.inl ⟨by rfl, ?_⟩) (by assumption) ?_
      rotate_left 1
      · intro w' hSw
        (try dsimp only at hSw)
        go_simp
        (try with_reducible rfl)
      (try simp only [Act.put, List.setIfInBounds_toArray, List.set_cons_zero, List.set_cons_succ])
      refine wpAnyH_take (i := 19) (oi := { dst := some 78, op := Op.pick (Operand.tmp 70) (Operand.const (Value.bool true)) (Operand.tmp 77), type := 4, pos := "laws.go:853", after := #[{ on := 11, ground := Ground.data }, { on := 18, ground := Ground.data }], guard := none }) (v := ?_) rfl (by kernel_rfl) (by kernel_rfl) (by kernel_rfl) (fun _ _ _ h => h) (Or.inl ⟨by rfl, ?_⟩) (by assumption) ?_
      rotate_left 1
      · intro w' hSw
        (try dsimp only at hSw)
        go_simp
        (try with_reducible rfl)
      (try simp only [Act.put, List.setIfInBounds_toArray, List.set_cons_zero, List.set_cons_succ])
      refine wpAnyH_done (by kernel_rfl) ?_ _
      go_wp2
      go_meet
      case rel => exact ⟨rfl, hB, c3⟩
    · rw [hX.out] at h1
      obtain ⟨rfl, rfl⟩ := Prod.mk.inj h1
      obtain ⟨X, hXe⟩ : ∃ X, t.extract a b = X := ⟨_, rfl⟩
      have hy : Hid (shRX ⟨K7, N7, F7, B7, C7, M7⟩ = X) := hsh.trans hXe
      have eX : (X.toList != X.toList) = false := by simp
      have b0 : (0 : Int) ≤ (b : Int) := by omega
      have b1 : ¬ (b : Int) < 0 := by omega
      have b2 : (a : Int) ≤ (b : Int) := by omega
      have b3' : (b : Int) ≤ (t.size : Int) := by omega
      have b4 : (0 : Int) ≤ (a : Int) := by omega
      have hNs : N7.size ≤ 9223372036854775807 := by
        by_cases h5 : K7 = 5
        · have := nameB_size (ok1.nm h5); dsimp only at this; omega
        · have : N7 = emp := ok1.n0 h5
          rw [this]; decide
      have hBs : B7.size ≤ 9223372036854775807 := by have := ok1.b1; dsimp only at this; omega
      clear hX h1 ok1 hsh
      refine wp_region_held_drew (S := fun w' => w'.cell? ⟨b7, 0, none⟩ = some (.int .i64 K7) ∧ w'.cell? ⟨b7, 1, none⟩ = some (.string N7) ∧ w'.cell? ⟨b7, 2, none⟩ = some (.int .i64 F7) ∧ w'.cell? ⟨b7, 3, none⟩ = some (.string B7) ∧ w'.cell? ⟨b7, 4, none⟩ = some (.int .i64 C7) ∧ w'.cell? ⟨b7, 5, none⟩ = some (.int .i64 M7)) (by kernel_rfl) (S1) (fun hHeld => ?_)
      refine wpAnyH_take (i := 0) (oi := { dst := some 59, op := Op.move (Operand.tmp 8), type := 2, pos := "laws.go:853", after := #[], guard := none }) (v := ?_) rfl (by kernel_rfl) (by kernel_rfl) (by kernel_rfl) (fun _ _ _ h => h) (Or.inl ⟨by rfl, ?_⟩) (by assumption) ?_
      rotate_left 1
      · intro w' hSw
        (try dsimp only at hSw)
        go_simp
        (try with_reducible rfl)
      (try simp only [Act.put, List.setIfInBounds_toArray, List.set_cons_zero, List.set_cons_succ])
      refine wpAnyH_take (i := 1) (oi := { dst := some 60, op := Op.binOp BinOp.geq 2 (Operand.tmp 59) (Operand.const (Value.int IntKind.i64 0)) 2, type := 4, pos := "laws.go:853", after := #[{ on := 0, ground := Ground.data }], guard := none }) (v := ?_) rfl (by kernel_rfl) (by kernel_rfl) (by kernel_rfl) (fun _ _ _ h => h) (Or.inl ⟨by rfl, ?_⟩) (by assumption) ?_
      rotate_left 1
      · intro w' hSw
        (try dsimp only at hSw)
        go_simp
        (try with_reducible rfl)
      (try simp only [Act.put, List.setIfInBounds_toArray, List.set_cons_zero, List.set_cons_succ])
      refine wpAnyH_take (i := 2) (oi := { dst := some 61, op := Op.move (Operand.tmp 60), type := 4, pos := "laws.go:853", after := #[{ on := 1, ground := Ground.data }], guard := none }) (v := ?_) rfl (by kernel_rfl) (by kernel_rfl) (by kernel_rfl) (fun _ _ _ h => h) (Or.inl ⟨by rfl, ?_⟩) (by assumption) ?_
      rotate_left 1
      · intro w' hSw
        (try dsimp only at hSw)
        go_simp
        (try with_reducible rfl)
      (try simp only [Act.put, List.setIfInBounds_toArray, List.set_cons_zero, List.set_cons_succ])
      refine wpAnyH_take (i := 3) (oi := { dst := some 62, op := Op.load 42 (Operand.tmp 7), type := 42, pos := "laws.go:853", after := #[{ on := 2, ground := Ground.guard }], guard := some (2, true) }) (v := ?_) rfl (by kernel_rfl) (by kernel_rfl) (by kernel_rfl) (fun _ _ _ h => h) (Or.inl ⟨by rfl, ?_⟩) (by assumption) ?_
      rotate_left 1
      · intro w' hSw
        (try dsimp only at hSw)
        go_simp
        (try with_reducible rfl)
      (try simp only [Act.put, List.setIfInBounds_toArray, List.set_cons_zero, List.set_cons_succ])
      refine wpAnyH_take (i := 5) (oi := { dst := some 64, op := Op.move (Operand.tmp 5), type := 9, pos := "laws.go:853", after := #[{ on := 2, ground := Ground.guard }], guard := some (2, true) }) (v := ?_) rfl (by kernel_rfl) (by kernel_rfl) (by kernel_rfl) (fun _ _ _ h => h) (Or.inl ⟨by rfl, ?_⟩) (by assumption) ?_
      rotate_left 1
      · intro w' hSw
        (try dsimp only at hSw)
        go_simp
        (try with_reducible rfl)
      (try simp only [Act.put, List.setIfInBounds_toArray, List.set_cons_zero, List.set_cons_succ])
      refine wpAnyH_take (i := 6) (oi := { dst := some 65, op := Op.move (Operand.tmp 6), type := 2, pos := "laws.go:853", after := #[{ on := 2, ground := Ground.guard }], guard := some (2, true) }) (v := ?_) rfl (by kernel_rfl) (by kernel_rfl) (by kernel_rfl) (fun _ _ _ h => h) (Or.inl ⟨by rfl, ?_⟩) (by assumption) ?_
      rotate_left 1
      · intro w' hSw
        (try dsimp only at hSw)
        go_simp
        (try with_reducible rfl)
      (try simp only [Act.put, List.setIfInBounds_toArray, List.set_cons_zero, List.set_cons_succ])
      refine wpAnyH_take (i := 7) (oi := { dst := some 66, op := Op.move (Operand.tmp 8), type := 2, pos := "laws.go:853", after := #[{ on := 2, ground := Ground.guard }], guard := some (2, true) }) (v := ?_) rfl (by kernel_rfl) (by kernel_rfl) (by kernel_rfl) (fun _ _ _ h => h) (Or.inl ⟨by rfl, ?_⟩) (by assumption) ?_
      rotate_left 1
      · intro w' hSw
        (try dsimp only at hSw)
        go_simp
        (try with_reducible rfl)
      (try simp only [Act.put, List.setIfInBounds_toArray, List.set_cons_zero, List.set_cons_succ])
      refine wpAnyH_take (i := 8) (oi := { dst := some 67, op := Op.slice 9 (Operand.tmp 64) (some (Operand.tmp 65)) (some (Operand.tmp 66)) none, type := 9, pos := "laws.go:853", after := #[{ on := 5, ground := Ground.data }, { on := 6, ground := Ground.data }, { on := 7, ground := Ground.data }, { on := 2, ground := Ground.guard }], guard := some (2, true) }) (v := ?_) rfl (by kernel_rfl) (by kernel_rfl) (by kernel_rfl) (fun _ _ _ h => h) (Or.inl ⟨by rfl, ?_⟩) (by assumption) ?_
      rotate_left 1
      · intro w' hSw
        (try dsimp only at hSw)
        go_simp
        (try with_reducible rfl)
      (try simp only [Act.put, List.setIfInBounds_toArray, List.set_cons_zero, List.set_cons_succ])
      refine wpAnyH_ready (rs := [4]) (by kernel_rfl) (by simp) ?_
      refine AllReadyH.cons (o := { dst := some 63, op := Op.call { callee := Callee.value (Operand.func 25), args := #[Operand.tmp 62], argTypes := #[42] }, type := 9, pos := "laws.go:853", after := #[{ on := 3, ground := Ground.data }, { on := 2, ground := Ground.chain }, { on := 2, ground := Ground.guard }], guard := some (2, true) }) rfl (fun KC hKC => ?_) AllReadyH.nil
      go_simp
      go_at_call 25
      refine (implShowReply_any K7 N7 F7 B7 C7 M7 X hy hNs hBs _ (EN.out.grow hB).p).mono ?_
      rintro e wr4 ⟨rfl, hBr4⟩
      replace hB := hB.trans (hBr4.mono hB.size)
      replace c3 := vblk_grow c3 hBr4
      replace c7 := vblk_grow c7 hBr4
      refine hKC.out _ _ (cellsRp c7) (fun hHeld2 => ?_)
      clear hKC KC hHeld
      have hHeld := hHeld2
      clear hHeld2
      (try simp only [Act.put, List.setIfInBounds_toArray, List.set_cons_zero, List.set_cons_succ])
      refine wpAnyH_take (i := 9) (oi := { dst := some 68, op := Op.binOp BinOp.neq 9 (Operand.tmp 63) (Operand.tmp 67) 9, type := 4, pos := "laws.go:853", after := #[{ on := 4, ground := Ground.data }, { on := 8, ground := Ground.data }, { on := 2, ground := Ground.guard }], guard := some (2, true) }) (v := ?_) rfl (by kernel_rfl) (by kernel_rfl) (by kernel_rfl) (fun _ _ _ h => h) (Or.inl ⟨by rfl, ?_⟩) (by assumption) ?_
      rotate_left 1
      · intro w' hSw
        (try dsimp only at hSw)
        go_simp
        (try with_reducible rfl)
      (try simp only [Act.put, List.setIfInBounds_toArray, List.set_cons_zero, List.set_cons_succ])
      refine wpAnyH_take (i := 10) (oi := { dst := some 69, op := Op.pick (Operand.tmp 61) (Operand.tmp 68) (Operand.const (Value.bool false)), type := 4, pos := "laws.go:853", after := #[{ on := 2, ground := Ground.data }, { on := 9, ground := Ground.data }], guard := none }) (v := ?_) rfl (by kernel_rfl) (by kernel_rfl) (by kernel_rfl) (fun _ _ _ h => h) (Or.inl ⟨by rfl, ?_⟩) (by assumption) ?_
      rotate_left 1
      · intro w' hSw
        (try dsimp only at hSw)
        go_simp
        (try with_reducible rfl)
      (try simp only [Act.put, List.setIfInBounds_toArray, List.set_cons_zero, List.set_cons_succ])
      refine wpAnyH_take (i := 11) (oi := { dst := some 70, op := Op.move (Operand.tmp 69), type := 4, pos := "laws.go:853", after := #[{ on := 10, ground := Ground.data }, { on := 4, ground := Ground.chain }], guard := none }) (v := ?_) rfl (by kernel_rfl) (by kernel_rfl) (by kernel_rfl) (fun _ _ _ h => h) (Or.inl ⟨by rfl, ?_⟩) (by assumption) ?_
      rotate_left 1
      · intro w' hSw
        (try dsimp only at hSw)
        go_simp
        (try with_reducible rfl)
      (try simp only [Act.put, List.setIfInBounds_toArray, List.set_cons_zero, List.set_cons_succ])
      refine wpAnyH_take (i := 12) (oi := { dst := some 71, op := Op.move (Operand.tmp 8), type := 2, pos := "laws.go:853", after := #[{ on := 11, ground := Ground.guard }], guard := some (11, false) }) (v := ?_) rfl (by kernel_rfl) (by kernel_rfl) (by kernel_rfl) (fun _ _ _ h => h) (Or.inl ⟨by rfl, ?_⟩) (by assumption) ?_
      rotate_left 1
      · intro w' hSw
        (try dsimp only at hSw)
        go_simp
        (try with_reducible rfl)
      (try simp only [Act.put, List.setIfInBounds_toArray, List.set_cons_zero, List.set_cons_succ])
      refine wpAnyH_take (i := 13) (oi := { dst := some 72, op := Op.binOp BinOp.lss 2 (Operand.tmp 71) (Operand.const (Value.int IntKind.i64 0)) 2, type := 4, pos := "laws.go:853", after := #[{ on := 12, ground := Ground.data }, { on := 11, ground := Ground.guard }], guard := some (11, false) }) (v := ?_) rfl (by kernel_rfl) (by kernel_rfl) (by kernel_rfl) (fun _ _ _ h => h) (Or.inl ⟨by rfl, ?_⟩) (by assumption) ?_
      rotate_left 1
      · intro w' hSw
        (try dsimp only at hSw)
        go_simp
        (try with_reducible rfl)
      (try simp only [Act.put, List.setIfInBounds_toArray, List.set_cons_zero, List.set_cons_succ])
      refine wpAnyH_take (i := 14) (oi := { dst := some 73, op := Op.move (Operand.tmp 72), type := 4, pos := "laws.go:853", after := #[{ on := 13, ground := Ground.data }, { on := 11, ground := Ground.chain }, { on := 11, ground := Ground.guard }], guard := some (11, false) }) (v := ?_) rfl (by kernel_rfl) (by kernel_rfl) (by kernel_rfl) (fun _ _ _ h => h) (Or.inl ⟨by rfl, ?_⟩) (by assumption) ?_
      rotate_left 1
      · intro w' hSw
        (try dsimp only at hSw)
        go_simp
        (try with_reducible rfl)
      (try simp only [Act.put, List.setIfInBounds_toArray, List.set_cons_zero, List.set_cons_succ])
      refine wpAnyH_take (i := 15) (oi := { dst := some 74, op := Op.load 42 (Operand.tmp 7), type := 42, pos := "laws.go:853", after := #[{ on := 14, ground := Ground.guard }], guard := some (14, true) }) (v := undef) rfl (by kernel_rfl) (by kernel_rfl) (by kernel_rfl) (fun _ _ _ h => h) (Or.inr ⟨by rfl, rfl⟩) (by assumption) ?_
      (try simp only [Act.put, List.setIfInBounds_toArray, List.set_cons_zero, List.set_cons_succ])
      refine wpAnyH_take (i := 16) (oi := { dst := some 75, op := Op.build 42 #[], type := 42, pos := "laws.go:853", after := #[{ on := 14, ground := Ground.guard }], guard := some (14, true) }) (v := undef) rfl (by kernel_rfl) (by kernel_rfl) (by kernel_rfl) (fun _ _ _ h => h) (Or.inr ⟨by rfl, rfl⟩) (by assumption) ?_
      (try simp only [Act.put, List.setIfInBounds_toArray, List.set_cons_zero, List.set_cons_succ])
      refine wpAnyH_take (i := 17) (oi := { dst := some 76, op := Op.binOp BinOp.neq 42 (Operand.tmp 74) (Operand.tmp 75) 42, type := 4, pos := "laws.go:853", after := #[{ on := 15, ground := Ground.data }, { on := 16, ground := Ground.data }, { on := 14, ground := Ground.guard }], guard := some (14, true) }) (v := undef) rfl (by kernel_rfl) (by kernel_rfl) (by kernel_rfl) (fun _ _ _ h => h) (Or.inr ⟨by rfl, rfl⟩) (by assumption) ?_
      (try simp only [Act.put, List.setIfInBounds_toArray, List.set_cons_zero, List.set_cons_succ])
      refine wpAnyH_take (i := 18) (oi := { dst := some 77, op := Op.pick (Operand.tmp 73) (Operand.tmp 76) (Operand.const (Value.bool false)), type := 4, pos := "laws.go:853", after := #[{ on := 14, ground := Ground.data }, { on := 17, ground := Ground.data }, { on := 11, ground := Ground.guard }], guard := some (11, false) }) (v := ?_) rfl (by kernel_rfl) (by kernel_rfl) (by kernel_rfl) (fun _ _ _ h => h) (Or.inl ⟨by rfl, ?_⟩) (by assumption) ?_
      rotate_left 1
      · intro w' hSw
        (try dsimp only at hSw)
        go_simp
        (try with_reducible rfl)
      (try simp only [Act.put, List.setIfInBounds_toArray, List.set_cons_zero, List.set_cons_succ])
      refine wpAnyH_take (i := 19) (oi := { dst := some 78, op := Op.pick (Operand.tmp 70) (Operand.const (Value.bool true)) (Operand.tmp 77), type := 4, pos := "laws.go:853", after := #[{ on := 11, ground := Ground.data }, { on := 18, ground := Ground.data }], guard := none }) (v := ?_) rfl (by kernel_rfl) (by kernel_rfl) (by kernel_rfl) (fun _ _ _ h => h) (Or.inl ⟨by rfl, ?_⟩) (by assumption) ?_
      rotate_left 1
      · intro w' hSw
        (try dsimp only at hSw)
        go_simp
        (try with_reducible rfl)
      (try simp only [Act.put, List.setIfInBounds_toArray, List.set_cons_zero, List.set_cons_succ])
      refine wpAnyH_done (by kernel_rfl) ?_ _
      go_wp2
      go_meet
      case rel => exact ⟨rfl, hB, c3⟩
  case rest =>
  obtain ⟨rfl, hB, c3⟩ := hcut
  clear hq
  rename World => w15
  have hzw := hB.size
  have hlt3 := c3.lt
  obtain ⟨c30, c31, c32, c33, c34, c35⟩ := cellsRp c3
  cases z with
  | false =>
    have hSe : S = emp := by rw [← hS.out]; exact shR_no hz.out
    have hse : S.toList.isEmpty = true := by rw [hSe, ByteArray.toList_eq]; rfl
    clear hSe
    have mk17 : Hid True := trivial
    have mk18 : Hid True := trivial
    go_wp2_with (first | (clear mk17; refine wpList_load_r rfl 42 _ rfl b3 0 [.int .i64 K3, .string N3, .int .i64 F3, .string B3, .int .i64 C3, .int .i64 M3] rfl _ Tryz.underlying42 rfl sizeRp c3.range ?_) | (clear mk18; go_at_call 30; refine (implReplyOk_any K3 N3 F3 B3 C3 M3 false hz (by omega) (by omega) _).mono ?_; rintro er w16 ⟨rfl, hB16⟩; have hz16 : w15.heap.size ≤ w16.heap.size := hB16.size; replace c3 := vblk_grow c3 hB16; replace hB := hB.trans (hB16.mono (by omega)); replace hzw := hB.size; clear c30 c31 c32 c33 c34 c35; obtain ⟨c30, c31, c32, c33, c34, c35⟩ := cellsRp c3) | (fail))
    go_ret
    exact ⟨rfl, hB⟩
  | true =>
    obtain ⟨h1, h2, h3⟩ := shR_twice hz.out
    have hss := shR_small ⟨K3, N3, F3, B3, C3, M3⟩
    rw [hS.out] at h1 h2 h3 hss
    have hse : S.toList.isEmpty = false := by
      cases q9 : S.toList with
      | nil => have := bs_len S; rw [show bs S = S.toList from (ByteArray.toList_eq S).symm, q9] at this; simp at this; omega
      | cons x r => rfl
    have hsum : S.size + S.size ≤ 700 := by omega
    obtain ⟨D, hD⟩ := hid_ex (S ++ S)
    have hDs : D.size ≤ 1048576 := by rw [← hD.out, ByteArray.size_append]; omega
    rw [hD.out] at h2 h3
    have eDD : S ++ S = D := hD.out
    have e2 : IntKind.i64.wrap (2 * (S.size : Int)) = 2 * (S.size : Int) := by rw [IntKind.wrap_i64]; omega
    clear hss
    have fK : (K3 == K3) = true := by simp
    have fF : (F3 == F3) = true := by simp
    have fC : (C3 == C3) = true := by simp
    have fM : (M3 == M3) = true := by simp
    have fN : (N3.toList == N3.toList) = true := by simp
    have fB : (B3.toList == B3.toList) = true := by simp
    have mk19 : Hid True := trivial
    have mk20 : Hid True := trivial
    have mk21 : Hid True := trivial
    have mk22 : Hid True := trivial
    have mk23 : Hid True := trivial
    have mk24 : Hid True := trivial
    go_wp2_with (first | (clear mk19; go_at_call 27; refine (implReplyAt_any D 0 hDs _ (EN.out.grow hB)).mono ?_; rw [h2]; rintro er w16 ⟨rfl, hB16⟩; dsimp only [csRp]; have hz16 : w15.heap.size ≤ w16.heap.size := hB16.size; replace c3 := vblk_grow c3 hB16; replace hB := hB.trans (hB16.mono (by omega)); replace hzw := hB.size; clear c30 c31 c32 c33 c34 c35; obtain ⟨c30, c31, c32, c33, c34, c35⟩ := cellsRp c3) | (clear mk20; refine wpList_alloc_v rfl 42 rfl _ zeroRp ?_; intro b11 w17 hb11 hwb11 hB17 c11; have hz17 : w16.heap.size ≤ w17.heap.size := hB17.size; replace c3 := vblk_grow c3 hB17; replace hB := hB.trans (hB17.mono (by omega)); replace hzw := hB.size; clear c30 c31 c32 c33 c34 c35; obtain ⟨c30, c31, c32, c33, c34, c35⟩ := cellsRp c3) | (clear mk21; refine wpList_store_v rfl 42 _ _ rfl b11 [.int .i64 K3, .string N3, .int .i64 F3, .string B3, .int .i64 C3, .int .i64 M3] rfl rfl sizeRp c11 rfl (oneRp ⟨K3, N3, F3, B3, C3, M3⟩) ?_; intro w18 hO18 c11x; have hz18 : w17.heap.size ≤ w18.heap.size := (Nat.le_of_eq hO18.1.symm); have hy18 : w18.heap.size ≤ w17.heap.size := (Nat.le_of_eq hO18.1); replace c3 := vblk_only c3 hO18 (by omega); replace hB := hB.trans (hO18.2.2 _ (by omega)); replace hzw := hB.size; clear c30 c31 c32 c33 c34 c35; obtain ⟨c30, c31, c32, c33, c34, c35⟩ := cellsRp c3; clear c11; have c11 := c11x; clear c11x; obtain ⟨c110, c111, c112, c113, c114, c115⟩ := cellsRp c11) | (clear mk22; go_at_call 27; refine (implReplyAt_any D (S.size : Int) hDs _ (EN.out.grow hB)).mono ?_; rw [h3]; rintro er w19 ⟨rfl, hB19⟩; dsimp only [csRp]; have hz19 : w18.heap.size ≤ w19.heap.size := hB19.size; replace c3 := vblk_grow c3 hB19; replace c11 := vblk_grow c11 hB19; replace hB := hB.trans (hB19.mono (by omega)); replace hzw := hB.size; clear c30 c31 c32 c33 c34 c35; obtain ⟨c30, c31, c32, c33, c34, c35⟩ := cellsRp c3; clear c110 c111 c112 c113 c114 c115; obtain ⟨c110, c111, c112, c113, c114, c115⟩ := cellsRp c11) | (clear mk23; refine wpList_alloc_v rfl 42 rfl _ zeroRp ?_; intro b13 w20 hb13 hwb13 hB20 c13; have hz20 : w19.heap.size ≤ w20.heap.size := hB20.size; replace c3 := vblk_grow c3 hB20; replace c11 := vblk_grow c11 hB20; replace hB := hB.trans (hB20.mono (by omega)); replace hzw := hB.size; clear c30 c31 c32 c33 c34 c35; obtain ⟨c30, c31, c32, c33, c34, c35⟩ := cellsRp c3; clear c110 c111 c112 c113 c114 c115; obtain ⟨c110, c111, c112, c113, c114, c115⟩ := cellsRp c11) | (clear mk24; refine wpList_store_v rfl 42 _ _ rfl b13 [.int .i64 K3, .string N3, .int .i64 F3, .string B3, .int .i64 C3, .int .i64 M3] rfl rfl sizeRp c13 rfl (oneRp ⟨K3, N3, F3, B3, C3, M3⟩) ?_; intro w21 hO21 c13x; have hz21 : w20.heap.size ≤ w21.heap.size := (Nat.le_of_eq hO21.1.symm); have hy21 : w21.heap.size ≤ w20.heap.size := (Nat.le_of_eq hO21.1); replace c3 := vblk_only c3 hO21 (by omega); replace c11 := vblk_only c11 hO21 (by omega); replace hB := hB.trans (hO21.2.2 _ (by omega)); replace hzw := hB.size; clear c30 c31 c32 c33 c34 c35; obtain ⟨c30, c31, c32, c33, c34, c35⟩ := cellsRp c3; clear c110 c111 c112 c113 c114 c115; obtain ⟨c110, c111, c112, c113, c114, c115⟩ := cellsRp c11; clear c13; have c13 := c13x; clear c13x; obtain ⟨c130, c131, c132, c133, c134, c135⟩ := cellsRp c13) | (fail))
    go_ret
    exact ⟨rfl, hB⟩
end Go.Proofs.YtaabmkhckbndgaaGreatDoor.lawRy
