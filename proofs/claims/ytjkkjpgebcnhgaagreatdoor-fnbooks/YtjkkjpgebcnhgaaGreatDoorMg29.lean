/- Texts laid together: LawBk Lg1. -/
import Derived.Test.YtjkkjpgebcnhgaaGreatDoorMg19
import Derived.Test.YtjkkjpgebcnhgaaGreatDoorMg03
import Derived.Test.YtjkkjpgebcnhgaaGreatDoorMg23
import Derived.Test.YtjkkjpgebcnhgaaGreatDoorMg01
import Derived.Test.YtjkkjpgebcnhgaaGreatDoorMg13
import Derived.Test.YtjkkjpgebcnhgaaGreatDoorMg25
import Derived.Test.YtjkkjpgebcnhgaaGreatDoorMg28
import Derived.Test.YtjkkjpgebcnhgaaGreatDoorPx1
import Derived.Test.YtjkkjpgebcnhgaaGreatDoorMg00
import Derived.Lib.SmallJoins
import Derived.Deep.Slices
import Derived.Deep.RegionHeld3
import Derived.BigQuiet
import Derived.Deep.DeepCutAuto
import Derived.ChangeOld
import Derived.Handed
import Derived.HandedShaped
import Derived.LaidMore
import Derived.Lay
import Derived.Lib.LaidTab
import Derived.Shelf.Vars
/- FnBooks' walk. -/
namespace Go.Proofs.YtjkkjpgebcnhgaaGreatDoor.lawBk
open Go.ChangeShapes Go.WideShapes Go.ChangeAt Go.RowKit
open Go.Deep Go.Joins
open Go.Proofs.YtjkkjpgebcnhgaaGreatDoor.ce Go.Proofs.YtjkkjpgebcnhgaaGreatDoor.ro Go.Proofs.YtjkkjpgebcnhgaaGreatDoor.rg Go.Proofs.YtjkkjpgebcnhgaaGreatDoor.draw Go.Proofs.YtjkkjpgebcnhgaaGreatDoor.cm
set_option linter.unusedVariables false

theorem sm_of {q : List It} (h : ∀ x ∈ q, SmI x) : SmK q := fun i hi => by
  obtain ⟨h1, h2⟩ := h i hi
  exact ⟨by omega, by omega⟩
set_option maxRecDepth 100000 in
set_option maxHeartbeats 16000000 in
theorem walk (a0 : Option Addr) (len cap : Nat) (w : World) (en : EnvD w) (hlen : len ≤ 4096) (hcode0 : CodeAt w a0 len) :
    Calls Tryz.prog 4 #[.slice a0 len cap] w fun e w' => e = .returned (.bool true) ∧ Below w.heap.size w w' := by
  have HC : Hid (CodeAt w a0 len) := hcode0
  clear hcode0
  have EN : Hid (EnvD w) := en
  clear en
  have hl' : ¬ (4096 : Int) < (len : Int) := by omega
  have hB : Below w.heap.size w w := Below.refl _ _
  have hzw := hB.size
  go_enter Tryz.func4, Tryz.ntmps4
  have mk1 : Hid True := trivial
  have mk2 : Hid True := trivial
  have mk3 : Hid True := trivial
  have mk4 : Hid True := trivial
  have mk5 : Hid True := trivial
  have mk6 : Hid True := trivial
  have mk7 : Hid True := trivial
  have mk8 : Hid True := trivial
  have mk9 : Hid True := trivial
  have mk10 : Hid True := trivial
  have mk11 : Hid True := trivial
  have mk12 : Hid True := trivial
  have mk13 : Hid True := trivial
  have mk14 : Hid True := trivial
  have mk15 : Hid True := trivial
  have mk16 : Hid True := trivial
  have mk17 : Hid True := trivial
  have mk18 : Hid True := trivial
  go_upto_region 6 with (first | (clear mk1; go_at_call 16; go_in) | (clear mk2; go_at_call 17; refine (drawDidBook_any _ _ _ _ HC.out).mono ?_; rintro er w1 ⟨v3, X, q, V, N, F, U, B, C, D, Q, now, rfl, ⟨o3, sq, hl3, hB1⟩, hX0, hX1, sN, sB⟩; have hz1 : w.heap.size ≤ w1.heap.size := hB1.size; replace hB := hB.trans (hB1.mono (by omega)); replace hzw := hB.size; have HS : Hid (SmK q) := (sm_of sq); clear sq; obtain ⟨⟨⟨J, Y⟩, ⟨r1, r2, r3, r4, r5, r6⟩⟩, hD⟩ := hid_ex (diR ⟨q, X⟩ ⟨V, N, F, U, B, C, D, Q⟩ now); obtain ⟨sb, hsb⟩ := hid_ex (storeB ⟨q, X⟩); obtain ⟨tm, htm⟩ := hid_ex (timeB now); obtain ⟨zc, hzc⟩ := hid_ex (cmdB ⟨V, N, F, U, B, C, D, Q⟩); have hql : q.length ≤ 1048576 := (by omega); obtain ⟨A3, N3, K3, rfl⟩ := o3.slice) | (clear mk3; refine wpList_alloc_v rfl 31 rfl _ zeroBk ?_; intro b3 w2 hb3 hwb3 hB2 c3; have hz2 : w1.heap.size ≤ w2.heap.size := hB2.size; replace o3 := o3.grow hB2; replace hB := hB.trans (hB2.mono (by omega)); replace hzw := hB.size) | (clear mk4; refine wpList_alloc_v rfl 37 rfl _ zeroCm ?_; intro b4 w3 hb4 hwb4 hB3 c4; have hz3 : w2.heap.size ≤ w3.heap.size := hB3.size; replace o3 := o3.grow hB3; replace c3 := vblk_grow c3 hB3; replace hB := hB.trans (hB3.mono (by omega)); replace hzw := hB.size) | (clear mk5; refine wpList_store_v rfl 31 _ _ rfl b3 [.slice A3 N3 K3, .int .i64 X] rfl rfl sizeBk c3 rfl (oneBk _ _ _ _) ?_; intro w4 hO4 c3x; have hz4 : w3.heap.size ≤ w4.heap.size := (Nat.le_of_eq hO4.1.symm); have hy4 : w4.heap.size ≤ w3.heap.size := (Nat.le_of_eq hO4.1); replace o3 := o3.only hO4 c3 (by decide); replace c4 := vblk_only c4 hO4 (by omega); replace hB := hB.trans (hO4.2.2 _ (by omega)); replace hzw := hB.size; clear c3; have c3 := c3x; clear c3x; obtain ⟨c30, c31⟩ := cells2 c3) | (clear mk6; refine wpList_store_v rfl 37 _ _ rfl b4 [.int .i64 V, .string N, .int .i64 F, .int .i64 U, .string B, .int .i64 C, .int .i64 D, .bool Q] rfl rfl sizeCm c4 rfl (by simp [Value.oneCell']) ?_; intro w5 hO5 c4x; have hz5 : w4.heap.size ≤ w5.heap.size := (Nat.le_of_eq hO5.1.symm); have hy5 : w5.heap.size ≤ w4.heap.size := (Nat.le_of_eq hO5.1); replace o3 := o3.only hO5 c4 (by decide); replace c3 := vblk_only c3 hO5 (by omega); replace hB := hB.trans (hO5.2.2 _ (by omega)); replace hzw := hB.size; clear c30 c31; obtain ⟨c30, c31⟩ := cells2 c3; clear c4; have c4 := c4x; clear c4x; obtain ⟨c40, c41, c42, c43, c44, c45, c46, c47⟩ := cellsCm c4) | (clear mk7; refine wpList_load_r rfl 37 _ rfl b4 0 [.int .i64 V, .string N, .int .i64 F, .int .i64 U, .string B, .int .i64 C, .int .i64 D, .bool Q] rfl _ Tryz.underlying37 rfl sizeCm c4.range ?_) | (clear mk8; go_at_call 11; refine (implDidBook_any q X V N F U B C D Q now _ _ o3.rd HS.out hql (by omega) (by omega) (EN.out.grow hB)).mono ?_; rintro er w6 hP6; unfold PostD at hP6; rw [hD.out] at hP6; obtain ⟨v6, rfl, o6, hB6⟩ := hP6; dsimp only [csRp] at o6 ⊢; obtain ⟨A6, N6, K6, rfl⟩ := o6.slice; have hz6 : w5.heap.size ≤ w6.heap.size := hB6.size; replace o3 := o3.grow hB6; replace c3 := vblk_grow c3 hB6; replace c4 := vblk_grow c4 hB6; replace hB := hB.trans (hB6.mono (by omega)); replace hzw := hB.size; clear c30 c31; obtain ⟨c30, c31⟩ := cells2 c3; clear c40 c41 c42 c43 c44 c45 c46 c47; obtain ⟨c40, c41, c42, c43, c44, c45, c46, c47⟩ := cellsCm c4) | (clear mk9; refine wpList_alloc_v rfl 31 rfl _ zeroBk ?_; intro b6 w7 hb6 hwb6 hB7 c6; have hz7 : w6.heap.size ≤ w7.heap.size := hB7.size; replace o3 := o3.grow hB7; replace o6 := o6.grow hB7; replace c3 := vblk_grow c3 hB7; replace c4 := vblk_grow c4 hB7; replace hB := hB.trans (hB7.mono (by omega)); replace hzw := hB.size; clear c30 c31; obtain ⟨c30, c31⟩ := cells2 c3; clear c40 c41 c42 c43 c44 c45 c46 c47; obtain ⟨c40, c41, c42, c43, c44, c45, c46, c47⟩ := cellsCm c4) | (clear mk10; refine wpList_alloc_v rfl 33 rfl _ zeroRp ?_; intro b7 w8 hb7 hwb7 hB8 c7; have hz8 : w7.heap.size ≤ w8.heap.size := hB8.size; replace o3 := o3.grow hB8; replace o6 := o6.grow hB8; replace c3 := vblk_grow c3 hB8; replace c4 := vblk_grow c4 hB8; replace c6 := vblk_grow c6 hB8; replace hB := hB.trans (hB8.mono (by omega)); replace hzw := hB.size; clear c30 c31; obtain ⟨c30, c31⟩ := cells2 c3; clear c40 c41 c42 c43 c44 c45 c46 c47; obtain ⟨c40, c41, c42, c43, c44, c45, c46, c47⟩ := cellsCm c4) | (clear mk11; refine wpList_store_v rfl 31 _ _ rfl b6 [.slice A6 N6 K6, .int .i64 Y] rfl rfl sizeBk c6 rfl (oneBk _ _ _ _) ?_; intro w9 hO9 c6x; have hz9 : w8.heap.size ≤ w9.heap.size := (Nat.le_of_eq hO9.1.symm); have hy9 : w9.heap.size ≤ w8.heap.size := (Nat.le_of_eq hO9.1); replace o3 := o3.only hO9 c6 (by decide); replace o6 := o6.only hO9 c6 (by decide); replace c3 := vblk_only c3 hO9 (by omega); replace c4 := vblk_only c4 hO9 (by omega); replace c7 := vblk_only c7 hO9 (by omega); replace hB := hB.trans (hO9.2.2 _ (by omega)); replace hzw := hB.size; clear c30 c31; obtain ⟨c30, c31⟩ := cells2 c3; clear c40 c41 c42 c43 c44 c45 c46 c47; obtain ⟨c40, c41, c42, c43, c44, c45, c46, c47⟩ := cellsCm c4; clear c6; have c6 := c6x; clear c6x; obtain ⟨c60, c61⟩ := cells2 c6) | (clear mk12; refine wpList_store_v rfl 33 _ _ rfl b7 [.int .i64 r1, .string r2, .int .i64 r3, .string r4, .int .i64 r5, .int .i64 r6] rfl rfl sizeRp c7 rfl (by simp [Value.oneCell']) ?_; intro w10 hO10 c7x; have hz10 : w9.heap.size ≤ w10.heap.size := (Nat.le_of_eq hO10.1.symm); have hy10 : w10.heap.size ≤ w9.heap.size := (Nat.le_of_eq hO10.1); replace o3 := o3.only hO10 c7 (by decide); replace o6 := o6.only hO10 c7 (by decide); replace c3 := vblk_only c3 hO10 (by omega); replace c4 := vblk_only c4 hO10 (by omega); replace c6 := vblk_only c6 hO10 (by omega); replace hB := hB.trans (hO10.2.2 _ (by omega)); replace hzw := hB.size; clear c30 c31; obtain ⟨c30, c31⟩ := cells2 c3; clear c40 c41 c42 c43 c44 c45 c46 c47; obtain ⟨c40, c41, c42, c43, c44, c45, c46, c47⟩ := cellsCm c4; clear c60 c61; obtain ⟨c60, c61⟩ := cells2 c6; clear c7; have c7 := c7x; clear c7x; obtain ⟨c70, c71, c72, c73, c74, c75⟩ := cellsRp c7) | (clear mk13; refine wpList_load_r rfl 37 _ rfl b4 0 [.int .i64 V, .string N, .int .i64 F, .int .i64 U, .string B, .int .i64 C, .int .i64 D, .bool Q] rfl _ Tryz.underlying37 rfl sizeCm c4.range ?_) | (clear mk14; go_at_call 8; refine (specDidBook_any q X V N F U B C D Q now _ _ o3.rd HS.out hql (by omega) (by omega)).mono ?_; rintro er w11 hP11; unfold PostD at hP11; rw [hD.out] at hP11; obtain ⟨v8, rfl, o8, hB11⟩ := hP11; dsimp only [csRp] at o8 ⊢; obtain ⟨A8, N8, K8, rfl⟩ := o8.slice; have hz11 : w10.heap.size ≤ w11.heap.size := hB11.size; replace o3 := o3.grow hB11; replace o6 := o6.grow hB11; replace c3 := vblk_grow c3 hB11; replace c4 := vblk_grow c4 hB11; replace c6 := vblk_grow c6 hB11; replace c7 := vblk_grow c7 hB11; replace hB := hB.trans (hB11.mono (by omega)); replace hzw := hB.size; clear c30 c31; obtain ⟨c30, c31⟩ := cells2 c3; clear c40 c41 c42 c43 c44 c45 c46 c47; obtain ⟨c40, c41, c42, c43, c44, c45, c46, c47⟩ := cellsCm c4; clear c60 c61; obtain ⟨c60, c61⟩ := cells2 c6; clear c70 c71 c72 c73 c74 c75; obtain ⟨c70, c71, c72, c73, c74, c75⟩ := cellsRp c7) | (clear mk15; refine wpList_alloc_v rfl 31 rfl _ zeroBk ?_; intro b8 w12 hb8 hwb8 hB12 c8; have hz12 : w11.heap.size ≤ w12.heap.size := hB12.size; replace o3 := o3.grow hB12; replace o6 := o6.grow hB12; replace o8 := o8.grow hB12; replace c3 := vblk_grow c3 hB12; replace c4 := vblk_grow c4 hB12; replace c6 := vblk_grow c6 hB12; replace c7 := vblk_grow c7 hB12; replace hB := hB.trans (hB12.mono (by omega)); replace hzw := hB.size; clear c30 c31; obtain ⟨c30, c31⟩ := cells2 c3; clear c40 c41 c42 c43 c44 c45 c46 c47; obtain ⟨c40, c41, c42, c43, c44, c45, c46, c47⟩ := cellsCm c4; clear c60 c61; obtain ⟨c60, c61⟩ := cells2 c6; clear c70 c71 c72 c73 c74 c75; obtain ⟨c70, c71, c72, c73, c74, c75⟩ := cellsRp c7) | (clear mk16; refine wpList_alloc_v rfl 33 rfl _ zeroRp ?_; intro b9 w13 hb9 hwb9 hB13 c9; have hz13 : w12.heap.size ≤ w13.heap.size := hB13.size; replace o3 := o3.grow hB13; replace o6 := o6.grow hB13; replace o8 := o8.grow hB13; replace c3 := vblk_grow c3 hB13; replace c4 := vblk_grow c4 hB13; replace c6 := vblk_grow c6 hB13; replace c7 := vblk_grow c7 hB13; replace c8 := vblk_grow c8 hB13; replace hB := hB.trans (hB13.mono (by omega)); replace hzw := hB.size; clear c30 c31; obtain ⟨c30, c31⟩ := cells2 c3; clear c40 c41 c42 c43 c44 c45 c46 c47; obtain ⟨c40, c41, c42, c43, c44, c45, c46, c47⟩ := cellsCm c4; clear c60 c61; obtain ⟨c60, c61⟩ := cells2 c6; clear c70 c71 c72 c73 c74 c75; obtain ⟨c70, c71, c72, c73, c74, c75⟩ := cellsRp c7) | (clear mk17; refine wpList_store_v rfl 31 _ _ rfl b8 [.slice A8 N8 K8, .int .i64 Y] rfl rfl sizeBk c8 rfl (oneBk _ _ _ _) ?_; intro w14 hO14 c8x; have hz14 : w13.heap.size ≤ w14.heap.size := (Nat.le_of_eq hO14.1.symm); have hy14 : w14.heap.size ≤ w13.heap.size := (Nat.le_of_eq hO14.1); replace o3 := o3.only hO14 c8 (by decide); replace o6 := o6.only hO14 c8 (by decide); replace o8 := o8.only hO14 c8 (by decide); replace c3 := vblk_only c3 hO14 (by omega); replace c4 := vblk_only c4 hO14 (by omega); replace c6 := vblk_only c6 hO14 (by omega); replace c7 := vblk_only c7 hO14 (by omega); replace c9 := vblk_only c9 hO14 (by omega); replace hB := hB.trans (hO14.2.2 _ (by omega)); replace hzw := hB.size; clear c30 c31; obtain ⟨c30, c31⟩ := cells2 c3; clear c40 c41 c42 c43 c44 c45 c46 c47; obtain ⟨c40, c41, c42, c43, c44, c45, c46, c47⟩ := cellsCm c4; clear c60 c61; obtain ⟨c60, c61⟩ := cells2 c6; clear c70 c71 c72 c73 c74 c75; obtain ⟨c70, c71, c72, c73, c74, c75⟩ := cellsRp c7; clear c8; have c8 := c8x; clear c8x; obtain ⟨c80, c81⟩ := cells2 c8) | (clear mk18; refine wpList_store_v rfl 33 _ _ rfl b9 [.int .i64 r1, .string r2, .int .i64 r3, .string r4, .int .i64 r5, .int .i64 r6] rfl rfl sizeRp c9 rfl (by simp [Value.oneCell']) ?_; intro w15 hO15 c9x; have hz15 : w14.heap.size ≤ w15.heap.size := (Nat.le_of_eq hO15.1.symm); have hy15 : w15.heap.size ≤ w14.heap.size := (Nat.le_of_eq hO15.1); replace o3 := o3.only hO15 c9 (by decide); replace o6 := o6.only hO15 c9 (by decide); replace o8 := o8.only hO15 c9 (by decide); replace c3 := vblk_only c3 hO15 (by omega); replace c4 := vblk_only c4 hO15 (by omega); replace c6 := vblk_only c6 hO15 (by omega); replace c7 := vblk_only c7 hO15 (by omega); replace c8 := vblk_only c8 hO15 (by omega); replace hB := hB.trans (hO15.2.2 _ (by omega)); replace hzw := hB.size; clear c30 c31; obtain ⟨c30, c31⟩ := cells2 c3; clear c40 c41 c42 c43 c44 c45 c46 c47; obtain ⟨c40, c41, c42, c43, c44, c45, c46, c47⟩ := cellsCm c4; clear c60 c61; obtain ⟨c60, c61⟩ := cells2 c6; clear c70 c71 c72 c73 c74 c75; obtain ⟨c70, c71, c72, c73, c74, c75⟩ := cellsRp c7; clear c80 c81; obtain ⟨c80, c81⟩ := cells2 c8; clear c9; have c9 := c9x; clear c9x; obtain ⟨c90, c91, c92, c93, c94, c95⟩ := cellsRp c9) | (fail))
  have f1 : (r1 == r1) = true := by simp
  have f2 : (r2.toList == r2.toList) = true := by simp
  have f3 : (r3 == r3) = true := by simp
  have f4 : (r4.toList == r4.toList) = true := by simp
  have f5 : (r5 == r5) = true := by simp
  have f6 : (r6 == r6) = true := by simp
  have f7 : ∀ z : Bool, (z != z) = false := fun z => by cases z <;> rfl
  have hBd : Below w15.heap.size w15 w15.drew := (Below.refl _ _).drew
  have hzd : w15.drew.heap.size ≤ w15.heap.size := Nat.le_refl _
  have hzd2 : w15.heap.size ≤ w15.drew.heap.size := Nat.le_refl _
  replace o3 := o3.grow hBd
  replace o6 := o6.grow hBd
  replace o8 := o8.grow hBd
  replace c3 := vblk_grow c3 hBd
  clear c30 c31
  obtain ⟨c30, c31⟩ := cells2 c3
  replace c4 := vblk_grow c4 hBd
  clear c40 c41 c42 c43 c44 c45 c46 c47
  obtain ⟨c40, c41, c42, c43, c44, c45, c46, c47⟩ := cellsCm c4
  replace c6 := vblk_grow c6 hBd
  clear c60 c61
  obtain ⟨c60, c61⟩ := cells2 c6
  replace c7 := vblk_grow c7 hBd
  clear c70 c71 c72 c73 c74 c75
  obtain ⟨c70, c71, c72, c73, c74, c75⟩ := cellsRp c7
  replace c8 := vblk_grow c8 hBd
  clear c80 c81
  obtain ⟨c80, c81⟩ := cells2 c8
  replace c9 := vblk_grow c9 hBd
  clear c90 c91 c92 c93 c94 c95
  obtain ⟨c90, c91, c92, c93, c94, c95⟩ := cellsRp c9
  replace hB := hB.trans (hBd.mono (by omega))
  replace hzw := hB.size
  have S1 : w15.drew.cell? ⟨b7, 0, none⟩ = some (.int .i64 r1) ∧ w15.drew.cell? ⟨b7, 1, none⟩ = some (.string r2) ∧ w15.drew.cell? ⟨b7, 2, none⟩ = some (.int .i64 r3) ∧ w15.drew.cell? ⟨b7, 3, none⟩ = some (.string r4) ∧ w15.drew.cell? ⟨b7, 4, none⟩ = some (.int .i64 r5) ∧ w15.drew.cell? ⟨b7, 5, none⟩ = some (.int .i64 r6) ∧ w15.drew.cell? ⟨b9, 0, none⟩ = some (.int .i64 r1) ∧ w15.drew.cell? ⟨b9, 1, none⟩ = some (.string r2) ∧ w15.drew.cell? ⟨b9, 2, none⟩ = some (.int .i64 r3) ∧ w15.drew.cell? ⟨b9, 3, none⟩ = some (.string r4) ∧ w15.drew.cell? ⟨b9, 4, none⟩ = some (.int .i64 r5) ∧ w15.drew.cell? ⟨b9, 5, none⟩ = some (.int .i64 r6) ∧ w15.drew.cell? ⟨b6, 0, none⟩ = some (.slice A6 N6 K6) ∧ w15.drew.cell? ⟨b6, 1, none⟩ = some (.int .i64 Y) ∧ w15.drew.cell? ⟨b8, 0, none⟩ = some (.slice A8 N8 K8) ∧ w15.drew.cell? ⟨b8, 1, none⟩ = some (.int .i64 Y) ∧ w15.drew.cell? ⟨b3, 0, none⟩ = some (.slice A3 N3 K3) ∧ w15.drew.cell? ⟨b3, 1, none⟩ = some (.int .i64 X) := ⟨c70, c71, c72, c73, c74, c75, c90, c91, c92, c93, c94, c95, c60, c61, c80, c81, c30, c31⟩
  have mk19 : Hid True := trivial
  have mk20 : Hid True := trivial
  have mk21 : Hid True := trivial
  have mk22 : Hid True := trivial
  have mk23 : Hid True := trivial
  have mk24 : Hid True := trivial
  go_region_held3 (fun w' => w'.cell? ⟨b7, 0, none⟩ = some (.int .i64 r1) ∧ w'.cell? ⟨b7, 1, none⟩ = some (.string r2) ∧ w'.cell? ⟨b7, 2, none⟩ = some (.int .i64 r3) ∧ w'.cell? ⟨b7, 3, none⟩ = some (.string r4) ∧ w'.cell? ⟨b7, 4, none⟩ = some (.int .i64 r5) ∧ w'.cell? ⟨b7, 5, none⟩ = some (.int .i64 r6) ∧ w'.cell? ⟨b9, 0, none⟩ = some (.int .i64 r1) ∧ w'.cell? ⟨b9, 1, none⟩ = some (.string r2) ∧ w'.cell? ⟨b9, 2, none⟩ = some (.int .i64 r3) ∧ w'.cell? ⟨b9, 3, none⟩ = some (.string r4) ∧ w'.cell? ⟨b9, 4, none⟩ = some (.int .i64 r5) ∧ w'.cell? ⟨b9, 5, none⟩ = some (.int .i64 r6) ∧ w'.cell? ⟨b6, 0, none⟩ = some (.slice A6 N6 K6) ∧ w'.cell? ⟨b6, 1, none⟩ = some (.int .i64 Y) ∧ w'.cell? ⟨b8, 0, none⟩ = some (.slice A8 N8 K8) ∧ w'.cell? ⟨b8, 1, none⟩ = some (.int .i64 Y) ∧ w'.cell? ⟨b3, 0, none⟩ = some (.slice A3 N3 K3) ∧ w'.cell? ⟨b3, 1, none⟩ = some (.int .i64 X)) (first | with_reducible assumption | with_reducible exact S1 | (fail)) (first | (clear mk19; go_at_call 18; refine (likeBook_any J Y _ _ _ o6.rd o8.rd).mono ?_; rintro er w16 ⟨rfl, hB16⟩; have hz16 : w15.drew.heap.size ≤ w16.heap.size := hB16.size; replace o3 := o3.grow hB16; replace o6 := o6.grow hB16; replace o8 := o8.grow hB16; replace c3 := vblk_grow c3 hB16; replace c4 := vblk_grow c4 hB16; replace c6 := vblk_grow c6 hB16; replace c7 := vblk_grow c7 hB16; replace c8 := vblk_grow c8 hB16; replace c9 := vblk_grow c9 hB16; replace hB := hB.trans (hB16.mono (by omega)); replace hzw := hB.size; clear c30 c31; obtain ⟨c30, c31⟩ := cells2 c3; clear c40 c41 c42 c43 c44 c45 c46 c47; obtain ⟨c40, c41, c42, c43, c44, c45, c46, c47⟩ := cellsCm c4; clear c60 c61; obtain ⟨c60, c61⟩ := cells2 c6; clear c70 c71 c72 c73 c74 c75; obtain ⟨c70, c71, c72, c73, c74, c75⟩ := cellsRp c7; clear c80 c81; obtain ⟨c80, c81⟩ := cells2 c8; clear c90 c91 c92 c93 c94 c95; obtain ⟨c90, c91, c92, c93, c94, c95⟩ := cellsRp c9; have S2 : w16.cell? ⟨b7, 0, none⟩ = some (.int .i64 r1) ∧ w16.cell? ⟨b7, 1, none⟩ = some (.string r2) ∧ w16.cell? ⟨b7, 2, none⟩ = some (.int .i64 r3) ∧ w16.cell? ⟨b7, 3, none⟩ = some (.string r4) ∧ w16.cell? ⟨b7, 4, none⟩ = some (.int .i64 r5) ∧ w16.cell? ⟨b7, 5, none⟩ = some (.int .i64 r6) ∧ w16.cell? ⟨b9, 0, none⟩ = some (.int .i64 r1) ∧ w16.cell? ⟨b9, 1, none⟩ = some (.string r2) ∧ w16.cell? ⟨b9, 2, none⟩ = some (.int .i64 r3) ∧ w16.cell? ⟨b9, 3, none⟩ = some (.string r4) ∧ w16.cell? ⟨b9, 4, none⟩ = some (.int .i64 r5) ∧ w16.cell? ⟨b9, 5, none⟩ = some (.int .i64 r6) ∧ w16.cell? ⟨b6, 0, none⟩ = some (.slice A6 N6 K6) ∧ w16.cell? ⟨b6, 1, none⟩ = some (.int .i64 Y) ∧ w16.cell? ⟨b8, 0, none⟩ = some (.slice A8 N8 K8) ∧ w16.cell? ⟨b8, 1, none⟩ = some (.int .i64 Y) ∧ w16.cell? ⟨b3, 0, none⟩ = some (.slice A3 N3 K3) ∧ w16.cell? ⟨b3, 1, none⟩ = some (.int .i64 X) := ⟨c70, c71, c72, c73, c74, c75, c90, c91, c92, c93, c94, c95, c60, c61, c80, c81, c30, c31⟩) | (clear mk20; go_at_call 19; refine (implStoreOk_any q X _ sb hsb _ o3.rd HS.out).mono ?_; rintro er w17 ⟨rfl, hB17⟩; have hz17 : w16.heap.size ≤ w17.heap.size := hB17.size; replace o3 := o3.grow hB17; replace o6 := o6.grow hB17; replace o8 := o8.grow hB17; replace c3 := vblk_grow c3 hB17; replace c4 := vblk_grow c4 hB17; replace c6 := vblk_grow c6 hB17; replace c7 := vblk_grow c7 hB17; replace c8 := vblk_grow c8 hB17; replace c9 := vblk_grow c9 hB17; replace hB := hB.trans (hB17.mono (by omega)); replace hzw := hB.size; clear c30 c31; obtain ⟨c30, c31⟩ := cells2 c3; clear c40 c41 c42 c43 c44 c45 c46 c47; obtain ⟨c40, c41, c42, c43, c44, c45, c46, c47⟩ := cellsCm c4; clear c60 c61; obtain ⟨c60, c61⟩ := cells2 c6; clear c70 c71 c72 c73 c74 c75; obtain ⟨c70, c71, c72, c73, c74, c75⟩ := cellsRp c7; clear c80 c81; obtain ⟨c80, c81⟩ := cells2 c8; clear c90 c91 c92 c93 c94 c95; obtain ⟨c90, c91, c92, c93, c94, c95⟩ := cellsRp c9; have S3 : w17.cell? ⟨b7, 0, none⟩ = some (.int .i64 r1) ∧ w17.cell? ⟨b7, 1, none⟩ = some (.string r2) ∧ w17.cell? ⟨b7, 2, none⟩ = some (.int .i64 r3) ∧ w17.cell? ⟨b7, 3, none⟩ = some (.string r4) ∧ w17.cell? ⟨b7, 4, none⟩ = some (.int .i64 r5) ∧ w17.cell? ⟨b7, 5, none⟩ = some (.int .i64 r6) ∧ w17.cell? ⟨b9, 0, none⟩ = some (.int .i64 r1) ∧ w17.cell? ⟨b9, 1, none⟩ = some (.string r2) ∧ w17.cell? ⟨b9, 2, none⟩ = some (.int .i64 r3) ∧ w17.cell? ⟨b9, 3, none⟩ = some (.string r4) ∧ w17.cell? ⟨b9, 4, none⟩ = some (.int .i64 r5) ∧ w17.cell? ⟨b9, 5, none⟩ = some (.int .i64 r6) ∧ w17.cell? ⟨b6, 0, none⟩ = some (.slice A6 N6 K6) ∧ w17.cell? ⟨b6, 1, none⟩ = some (.int .i64 Y) ∧ w17.cell? ⟨b8, 0, none⟩ = some (.slice A8 N8 K8) ∧ w17.cell? ⟨b8, 1, none⟩ = some (.int .i64 Y) ∧ w17.cell? ⟨b3, 0, none⟩ = some (.slice A3 N3 K3) ∧ w17.cell? ⟨b3, 1, none⟩ = some (.int .i64 X) := ⟨c70, c71, c72, c73, c74, c75, c90, c91, c92, c93, c94, c95, c60, c61, c80, c81, c30, c31⟩) | (clear mk21; go_at_call 20; refine (specStoreOk_any q X _ sb hsb _ o3.rd HS.out).mono ?_; rintro er w18 ⟨rfl, hB18⟩; have hz18 : w17.heap.size ≤ w18.heap.size := hB18.size; replace o3 := o3.grow hB18; replace o6 := o6.grow hB18; replace o8 := o8.grow hB18; replace c3 := vblk_grow c3 hB18; replace c4 := vblk_grow c4 hB18; replace c6 := vblk_grow c6 hB18; replace c7 := vblk_grow c7 hB18; replace c8 := vblk_grow c8 hB18; replace c9 := vblk_grow c9 hB18; replace hB := hB.trans (hB18.mono (by omega)); replace hzw := hB.size; clear c30 c31; obtain ⟨c30, c31⟩ := cells2 c3; clear c40 c41 c42 c43 c44 c45 c46 c47; obtain ⟨c40, c41, c42, c43, c44, c45, c46, c47⟩ := cellsCm c4; clear c60 c61; obtain ⟨c60, c61⟩ := cells2 c6; clear c70 c71 c72 c73 c74 c75; obtain ⟨c70, c71, c72, c73, c74, c75⟩ := cellsRp c7; clear c80 c81; obtain ⟨c80, c81⟩ := cells2 c8; clear c90 c91 c92 c93 c94 c95; obtain ⟨c90, c91, c92, c93, c94, c95⟩ := cellsRp c9; have S4 : w18.cell? ⟨b7, 0, none⟩ = some (.int .i64 r1) ∧ w18.cell? ⟨b7, 1, none⟩ = some (.string r2) ∧ w18.cell? ⟨b7, 2, none⟩ = some (.int .i64 r3) ∧ w18.cell? ⟨b7, 3, none⟩ = some (.string r4) ∧ w18.cell? ⟨b7, 4, none⟩ = some (.int .i64 r5) ∧ w18.cell? ⟨b7, 5, none⟩ = some (.int .i64 r6) ∧ w18.cell? ⟨b9, 0, none⟩ = some (.int .i64 r1) ∧ w18.cell? ⟨b9, 1, none⟩ = some (.string r2) ∧ w18.cell? ⟨b9, 2, none⟩ = some (.int .i64 r3) ∧ w18.cell? ⟨b9, 3, none⟩ = some (.string r4) ∧ w18.cell? ⟨b9, 4, none⟩ = some (.int .i64 r5) ∧ w18.cell? ⟨b9, 5, none⟩ = some (.int .i64 r6) ∧ w18.cell? ⟨b6, 0, none⟩ = some (.slice A6 N6 K6) ∧ w18.cell? ⟨b6, 1, none⟩ = some (.int .i64 Y) ∧ w18.cell? ⟨b8, 0, none⟩ = some (.slice A8 N8 K8) ∧ w18.cell? ⟨b8, 1, none⟩ = some (.int .i64 Y) ∧ w18.cell? ⟨b3, 0, none⟩ = some (.slice A3 N3 K3) ∧ w18.cell? ⟨b3, 1, none⟩ = some (.int .i64 X) := ⟨c70, c71, c72, c73, c74, c75, c90, c91, c92, c93, c94, c95, c60, c61, c80, c81, c30, c31⟩) | (clear mk22; go_at_call 21; refine (implNewBook_any _).mono ?_; rintro er w19 ⟨rfl, hB19⟩; have hz19 : w18.heap.size ≤ w19.heap.size := hB19.size; replace o3 := o3.grow hB19; replace o6 := o6.grow hB19; replace o8 := o8.grow hB19; replace c3 := vblk_grow c3 hB19; replace c4 := vblk_grow c4 hB19; replace c6 := vblk_grow c6 hB19; replace c7 := vblk_grow c7 hB19; replace c8 := vblk_grow c8 hB19; replace c9 := vblk_grow c9 hB19; replace hB := hB.trans (hB19.mono (by omega)); replace hzw := hB.size; clear c30 c31; obtain ⟨c30, c31⟩ := cells2 c3; clear c40 c41 c42 c43 c44 c45 c46 c47; obtain ⟨c40, c41, c42, c43, c44, c45, c46, c47⟩ := cellsCm c4; clear c60 c61; obtain ⟨c60, c61⟩ := cells2 c6; clear c70 c71 c72 c73 c74 c75; obtain ⟨c70, c71, c72, c73, c74, c75⟩ := cellsRp c7; clear c80 c81; obtain ⟨c80, c81⟩ := cells2 c8; clear c90 c91 c92 c93 c94 c95; obtain ⟨c90, c91, c92, c93, c94, c95⟩ := cellsRp c9; have S5 : w19.cell? ⟨b7, 0, none⟩ = some (.int .i64 r1) ∧ w19.cell? ⟨b7, 1, none⟩ = some (.string r2) ∧ w19.cell? ⟨b7, 2, none⟩ = some (.int .i64 r3) ∧ w19.cell? ⟨b7, 3, none⟩ = some (.string r4) ∧ w19.cell? ⟨b7, 4, none⟩ = some (.int .i64 r5) ∧ w19.cell? ⟨b7, 5, none⟩ = some (.int .i64 r6) ∧ w19.cell? ⟨b9, 0, none⟩ = some (.int .i64 r1) ∧ w19.cell? ⟨b9, 1, none⟩ = some (.string r2) ∧ w19.cell? ⟨b9, 2, none⟩ = some (.int .i64 r3) ∧ w19.cell? ⟨b9, 3, none⟩ = some (.string r4) ∧ w19.cell? ⟨b9, 4, none⟩ = some (.int .i64 r5) ∧ w19.cell? ⟨b9, 5, none⟩ = some (.int .i64 r6) ∧ w19.cell? ⟨b6, 0, none⟩ = some (.slice A6 N6 K6) ∧ w19.cell? ⟨b6, 1, none⟩ = some (.int .i64 Y) ∧ w19.cell? ⟨b8, 0, none⟩ = some (.slice A8 N8 K8) ∧ w19.cell? ⟨b8, 1, none⟩ = some (.int .i64 Y) ∧ w19.cell? ⟨b3, 0, none⟩ = some (.slice A3 N3 K3) ∧ w19.cell? ⟨b3, 1, none⟩ = some (.int .i64 X) := ⟨c70, c71, c72, c73, c74, c75, c90, c91, c92, c93, c94, c95, c60, c61, c80, c81, c30, c31⟩) | (clear mk23; go_at_call 22; refine (specNewBook_any _).mono ?_; rintro er w20 ⟨rfl, hB20⟩; have hz20 : w19.heap.size ≤ w20.heap.size := hB20.size; replace o3 := o3.grow hB20; replace o6 := o6.grow hB20; replace o8 := o8.grow hB20; replace c3 := vblk_grow c3 hB20; replace c4 := vblk_grow c4 hB20; replace c6 := vblk_grow c6 hB20; replace c7 := vblk_grow c7 hB20; replace c8 := vblk_grow c8 hB20; replace c9 := vblk_grow c9 hB20; replace hB := hB.trans (hB20.mono (by omega)); replace hzw := hB.size; clear c30 c31; obtain ⟨c30, c31⟩ := cells2 c3; clear c40 c41 c42 c43 c44 c45 c46 c47; obtain ⟨c40, c41, c42, c43, c44, c45, c46, c47⟩ := cellsCm c4; clear c60 c61; obtain ⟨c60, c61⟩ := cells2 c6; clear c70 c71 c72 c73 c74 c75; obtain ⟨c70, c71, c72, c73, c74, c75⟩ := cellsRp c7; clear c80 c81; obtain ⟨c80, c81⟩ := cells2 c8; clear c90 c91 c92 c93 c94 c95; obtain ⟨c90, c91, c92, c93, c94, c95⟩ := cellsRp c9; have S6 : w20.cell? ⟨b7, 0, none⟩ = some (.int .i64 r1) ∧ w20.cell? ⟨b7, 1, none⟩ = some (.string r2) ∧ w20.cell? ⟨b7, 2, none⟩ = some (.int .i64 r3) ∧ w20.cell? ⟨b7, 3, none⟩ = some (.string r4) ∧ w20.cell? ⟨b7, 4, none⟩ = some (.int .i64 r5) ∧ w20.cell? ⟨b7, 5, none⟩ = some (.int .i64 r6) ∧ w20.cell? ⟨b9, 0, none⟩ = some (.int .i64 r1) ∧ w20.cell? ⟨b9, 1, none⟩ = some (.string r2) ∧ w20.cell? ⟨b9, 2, none⟩ = some (.int .i64 r3) ∧ w20.cell? ⟨b9, 3, none⟩ = some (.string r4) ∧ w20.cell? ⟨b9, 4, none⟩ = some (.int .i64 r5) ∧ w20.cell? ⟨b9, 5, none⟩ = some (.int .i64 r6) ∧ w20.cell? ⟨b6, 0, none⟩ = some (.slice A6 N6 K6) ∧ w20.cell? ⟨b6, 1, none⟩ = some (.int .i64 Y) ∧ w20.cell? ⟨b8, 0, none⟩ = some (.slice A8 N8 K8) ∧ w20.cell? ⟨b8, 1, none⟩ = some (.int .i64 Y) ∧ w20.cell? ⟨b3, 0, none⟩ = some (.slice A3 N3 K3) ∧ w20.cell? ⟨b3, 1, none⟩ = some (.int .i64 X) := ⟨c70, c71, c72, c73, c74, c75, c90, c91, c92, c93, c94, c95, c60, c61, c80, c81, c30, c31⟩) | (clear mk24; go_at_call 18; refine (likeBook_any [] 1 _ _ _ (rd_zero encIt _ none 0 (Nat.zero_le _)) (rd_zero encIt _ none 0 (Nat.zero_le _))).mono ?_; rintro er w21 ⟨rfl, hB21⟩; have hz21 : w20.heap.size ≤ w21.heap.size := hB21.size; replace o3 := o3.grow hB21; replace o6 := o6.grow hB21; replace o8 := o8.grow hB21; replace c3 := vblk_grow c3 hB21; replace c4 := vblk_grow c4 hB21; replace c6 := vblk_grow c6 hB21; replace c7 := vblk_grow c7 hB21; replace c8 := vblk_grow c8 hB21; replace c9 := vblk_grow c9 hB21; replace hB := hB.trans (hB21.mono (by omega)); replace hzw := hB.size; clear c30 c31; obtain ⟨c30, c31⟩ := cells2 c3; clear c40 c41 c42 c43 c44 c45 c46 c47; obtain ⟨c40, c41, c42, c43, c44, c45, c46, c47⟩ := cellsCm c4; clear c60 c61; obtain ⟨c60, c61⟩ := cells2 c6; clear c70 c71 c72 c73 c74 c75; obtain ⟨c70, c71, c72, c73, c74, c75⟩ := cellsRp c7; clear c80 c81; obtain ⟨c80, c81⟩ := cells2 c8; clear c90 c91 c92 c93 c94 c95; obtain ⟨c90, c91, c92, c93, c94, c95⟩ := cellsRp c9; have S7 : w21.cell? ⟨b7, 0, none⟩ = some (.int .i64 r1) ∧ w21.cell? ⟨b7, 1, none⟩ = some (.string r2) ∧ w21.cell? ⟨b7, 2, none⟩ = some (.int .i64 r3) ∧ w21.cell? ⟨b7, 3, none⟩ = some (.string r4) ∧ w21.cell? ⟨b7, 4, none⟩ = some (.int .i64 r5) ∧ w21.cell? ⟨b7, 5, none⟩ = some (.int .i64 r6) ∧ w21.cell? ⟨b9, 0, none⟩ = some (.int .i64 r1) ∧ w21.cell? ⟨b9, 1, none⟩ = some (.string r2) ∧ w21.cell? ⟨b9, 2, none⟩ = some (.int .i64 r3) ∧ w21.cell? ⟨b9, 3, none⟩ = some (.string r4) ∧ w21.cell? ⟨b9, 4, none⟩ = some (.int .i64 r5) ∧ w21.cell? ⟨b9, 5, none⟩ = some (.int .i64 r6) ∧ w21.cell? ⟨b6, 0, none⟩ = some (.slice A6 N6 K6) ∧ w21.cell? ⟨b6, 1, none⟩ = some (.int .i64 Y) ∧ w21.cell? ⟨b8, 0, none⟩ = some (.slice A8 N8 K8) ∧ w21.cell? ⟨b8, 1, none⟩ = some (.int .i64 Y) ∧ w21.cell? ⟨b3, 0, none⟩ = some (.slice A3 N3 K3) ∧ w21.cell? ⟨b3, 1, none⟩ = some (.int .i64 X) := ⟨c70, c71, c72, c73, c74, c75, c90, c91, c92, c93, c94, c95, c60, c61, c80, c81, c30, c31⟩) | (fail))
  clear S1 hBd
  clear c8 c80 c81 o8 c9 c90 c91 c92 c93 c94 c95 f1 f2 f3 f4 f5 f6
  cases sb with
  | false =>
    have e0 := dk_bad (b := ⟨q, X⟩) (c := ⟨V, N, F, U, B, C, D, Q⟩) (now := now) (by rw [hsb.out]; rfl)
    rw [hD.out] at e0
    obtain ⟨rfl, rfl, rfl⟩ : J = [] ∧ Y = 0 ∧ r1 = 10 := by cases e0; exact ⟨rfl, rfl, rfl⟩
    clear e0 hD
    have mk25 : Hid True := trivial
    have mk26 : Hid True := trivial
    go_wp2_with (first | (clear mk25; go_at_call 20; refine (specStoreOk_any q X _ false hsb _ o3.rd HS.out).mono ?_; rintro er w22 ⟨rfl, hB22⟩; have hz22 : w21.heap.size ≤ w22.heap.size := hB22.size; replace o3 := o3.grow hB22; replace o6 := o6.grow hB22; replace c3 := vblk_grow c3 hB22; replace c4 := vblk_grow c4 hB22; replace c6 := vblk_grow c6 hB22; replace c7 := vblk_grow c7 hB22; replace hB := hB.trans (hB22.mono (by omega)); replace hzw := hB.size; clear c30 c31; obtain ⟨c30, c31⟩ := cells2 c3; clear c40 c41 c42 c43 c44 c45 c46 c47; obtain ⟨c40, c41, c42, c43, c44, c45, c46, c47⟩ := cellsCm c4; clear c60 c61; obtain ⟨c60, c61⟩ := cells2 c6; clear c70 c71 c72 c73 c74 c75; obtain ⟨c70, c71, c72, c73, c74, c75⟩ := cellsRp c7) | (clear mk26; go_at_call 18; refine (likeBook_any [] 0 _ _ _ o6.rd (rd_zero encIt _ none 0 (Nat.zero_le _))).mono ?_; rintro er w23 ⟨rfl, hB23⟩; have hz23 : w22.heap.size ≤ w23.heap.size := hB23.size; replace o3 := o3.grow hB23; replace o6 := o6.grow hB23; replace c3 := vblk_grow c3 hB23; replace c4 := vblk_grow c4 hB23; replace c6 := vblk_grow c6 hB23; replace c7 := vblk_grow c7 hB23; replace hB := hB.trans (hB23.mono (by omega)); replace hzw := hB.size; clear c30 c31; obtain ⟨c30, c31⟩ := cells2 c3; clear c40 c41 c42 c43 c44 c45 c46 c47; obtain ⟨c40, c41, c42, c43, c44, c45, c46, c47⟩ := cellsCm c4; clear c60 c61; obtain ⟨c60, c61⟩ := cells2 c6; clear c70 c71 c72 c73 c74 c75; obtain ⟨c70, c71, c72, c73, c74, c75⟩ := cellsRp c7) | (fail))
    go_ret
    exact ⟨rfl, hB⟩
  | true =>
    cases tm with
    | false =>
      have e0 := dk_bad (b := ⟨q, X⟩) (c := ⟨V, N, F, U, B, C, D, Q⟩) (now := now) (by rw [hsb.out, htm.out]; rfl)
      rw [hD.out] at e0
      obtain ⟨rfl, rfl, rfl⟩ : J = [] ∧ Y = 0 ∧ r1 = 10 := by cases e0; exact ⟨rfl, rfl, rfl⟩
      clear e0 hD
      by_cases hn0 : now < 0
      ·
        have mk27 : Hid True := trivial
        have mk28 : Hid True := trivial
        go_wp2_with (first | (clear mk27; go_at_call 20; refine (specStoreOk_any q X _ true hsb _ o3.rd HS.out).mono ?_; rintro er w22 ⟨rfl, hB22⟩; have hz22 : w21.heap.size ≤ w22.heap.size := hB22.size; replace o3 := o3.grow hB22; replace o6 := o6.grow hB22; replace c3 := vblk_grow c3 hB22; replace c4 := vblk_grow c4 hB22; replace c6 := vblk_grow c6 hB22; replace c7 := vblk_grow c7 hB22; replace hB := hB.trans (hB22.mono (by omega)); replace hzw := hB.size; clear c30 c31; obtain ⟨c30, c31⟩ := cells2 c3; clear c40 c41 c42 c43 c44 c45 c46 c47; obtain ⟨c40, c41, c42, c43, c44, c45, c46, c47⟩ := cellsCm c4; clear c60 c61; obtain ⟨c60, c61⟩ := cells2 c6; clear c70 c71 c72 c73 c74 c75; obtain ⟨c70, c71, c72, c73, c74, c75⟩ := cellsRp c7) | (clear mk28; go_at_call 18; refine (likeBook_any [] 0 _ _ _ o6.rd (rd_zero encIt _ none 0 (Nat.zero_le _))).mono ?_; rintro er w23 ⟨rfl, hB23⟩; have hz23 : w22.heap.size ≤ w23.heap.size := hB23.size; replace o3 := o3.grow hB23; replace o6 := o6.grow hB23; replace c3 := vblk_grow c3 hB23; replace c4 := vblk_grow c4 hB23; replace c6 := vblk_grow c6 hB23; replace c7 := vblk_grow c7 hB23; replace hB := hB.trans (hB23.mono (by omega)); replace hzw := hB.size; clear c30 c31; obtain ⟨c30, c31⟩ := cells2 c3; clear c40 c41 c42 c43 c44 c45 c46 c47; obtain ⟨c40, c41, c42, c43, c44, c45, c46, c47⟩ := cellsCm c4; clear c60 c61; obtain ⟨c60, c61⟩ := cells2 c6; clear c70 c71 c72 c73 c74 c75; obtain ⟨c70, c71, c72, c73, c74, c75⟩ := cellsRp c7) | (fail))
        go_ret
        exact ⟨rfl, hB⟩
      ·
        have hn1 : (1000000 : Int) < now := by
          have := htm.out
          unfold timeB at this
          simp at this
          omega
        have mk29 : Hid True := trivial
        have mk30 : Hid True := trivial
        go_wp2_with (first | (clear mk29; go_at_call 20; refine (specStoreOk_any q X _ true hsb _ o3.rd HS.out).mono ?_; rintro er w22 ⟨rfl, hB22⟩; have hz22 : w21.heap.size ≤ w22.heap.size := hB22.size; replace o3 := o3.grow hB22; replace o6 := o6.grow hB22; replace c3 := vblk_grow c3 hB22; replace c4 := vblk_grow c4 hB22; replace c6 := vblk_grow c6 hB22; replace c7 := vblk_grow c7 hB22; replace hB := hB.trans (hB22.mono (by omega)); replace hzw := hB.size; clear c30 c31; obtain ⟨c30, c31⟩ := cells2 c3; clear c40 c41 c42 c43 c44 c45 c46 c47; obtain ⟨c40, c41, c42, c43, c44, c45, c46, c47⟩ := cellsCm c4; clear c60 c61; obtain ⟨c60, c61⟩ := cells2 c6; clear c70 c71 c72 c73 c74 c75; obtain ⟨c70, c71, c72, c73, c74, c75⟩ := cellsRp c7) | (clear mk30; go_at_call 18; refine (likeBook_any [] 0 _ _ _ o6.rd (rd_zero encIt _ none 0 (Nat.zero_le _))).mono ?_; rintro er w23 ⟨rfl, hB23⟩; have hz23 : w22.heap.size ≤ w23.heap.size := hB23.size; replace o3 := o3.grow hB23; replace o6 := o6.grow hB23; replace c3 := vblk_grow c3 hB23; replace c4 := vblk_grow c4 hB23; replace c6 := vblk_grow c6 hB23; replace c7 := vblk_grow c7 hB23; replace hB := hB.trans (hB23.mono (by omega)); replace hzw := hB.size; clear c30 c31; obtain ⟨c30, c31⟩ := cells2 c3; clear c40 c41 c42 c43 c44 c45 c46 c47; obtain ⟨c40, c41, c42, c43, c44, c45, c46, c47⟩ := cellsCm c4; clear c60 c61; obtain ⟨c60, c61⟩ := cells2 c6; clear c70 c71 c72 c73 c74 c75; obtain ⟨c70, c71, c72, c73, c74, c75⟩ := cellsRp c7) | (fail))
        go_ret
        exact ⟨rfl, hB⟩
    | true =>
      have hnt : 0 ≤ now ∧ now ≤ 1000000 := by have := htm.out; unfold timeB at this; simpa using this
      have hn0 : ¬ now < 0 := by omega
      have hn1 : ¬ (1000000 : Int) < now := by omega
      cases zc with
      | false =>
        have e0 := dk_nocmd (b := ⟨q, X⟩) (c := ⟨V, N, F, U, B, C, D, Q⟩) (now := now) (by rw [hsb.out, htm.out]; rfl) hzc.out
        rw [hD.out] at e0
        obtain ⟨eI, eX, rfl⟩ : J = q ∧ Y = X ∧ r1 = 10 := by cases e0; exact ⟨rfl, rfl, rfl⟩
        rw [eI] at o6
        rw [eX] at c6 c61
        clear e0 hD eI eX
        have mk31 : Hid True := trivial
        have mk32 : Hid True := trivial
        have mk33 : Hid True := trivial
        have mk34 : Hid True := trivial
        go_wp2_with (first | (clear mk31; go_at_call 20; refine (specStoreOk_any q X _ true hsb _ o3.rd HS.out).mono ?_; rintro er w22 ⟨rfl, hB22⟩; have hz22 : w21.heap.size ≤ w22.heap.size := hB22.size; replace o3 := o3.grow hB22; replace o6 := o6.grow hB22; replace c3 := vblk_grow c3 hB22; replace c4 := vblk_grow c4 hB22; replace c6 := vblk_grow c6 hB22; replace c7 := vblk_grow c7 hB22; replace hB := hB.trans (hB22.mono (by omega)); replace hzw := hB.size; clear c30 c31; obtain ⟨c30, c31⟩ := cells2 c3; clear c40 c41 c42 c43 c44 c45 c46 c47; obtain ⟨c40, c41, c42, c43, c44, c45, c46, c47⟩ := cellsCm c4; clear c60 c61; obtain ⟨c60, c61⟩ := cells2 c6; clear c70 c71 c72 c73 c74 c75; obtain ⟨c70, c71, c72, c73, c74, c75⟩ := cellsRp c7) | (clear mk32; refine wpList_load_r rfl 37 _ rfl b4 0 [.int .i64 V, .string N, .int .i64 F, .int .i64 U, .string B, .int .i64 C, .int .i64 D, .bool Q] rfl _ Tryz.underlying37 rfl sizeCm c4.range ?_) | (clear mk33; go_at_call 23; refine (specCmdOk_any V N B F U C D Q false hzc (by omega) (by omega) _).mono ?_; rintro er w23 ⟨rfl, hB23⟩; have hz23 : w22.heap.size ≤ w23.heap.size := hB23.size; replace o3 := o3.grow hB23; replace o6 := o6.grow hB23; replace c3 := vblk_grow c3 hB23; replace c4 := vblk_grow c4 hB23; replace c6 := vblk_grow c6 hB23; replace c7 := vblk_grow c7 hB23; replace hB := hB.trans (hB23.mono (by omega)); replace hzw := hB.size; clear c30 c31; obtain ⟨c30, c31⟩ := cells2 c3; clear c40 c41 c42 c43 c44 c45 c46 c47; obtain ⟨c40, c41, c42, c43, c44, c45, c46, c47⟩ := cellsCm c4; clear c60 c61; obtain ⟨c60, c61⟩ := cells2 c6; clear c70 c71 c72 c73 c74 c75; obtain ⟨c70, c71, c72, c73, c74, c75⟩ := cellsRp c7) | (clear mk34; go_at_call 18; refine (likeBook_any q X _ _ _ o6.rd o3.rd).mono ?_; rintro er w24 ⟨rfl, hB24⟩; have hz24 : w23.heap.size ≤ w24.heap.size := hB24.size; replace o3 := o3.grow hB24; replace o6 := o6.grow hB24; replace c3 := vblk_grow c3 hB24; replace c4 := vblk_grow c4 hB24; replace c6 := vblk_grow c6 hB24; replace c7 := vblk_grow c7 hB24; replace hB := hB.trans (hB24.mono (by omega)); replace hzw := hB.size; clear c30 c31; obtain ⟨c30, c31⟩ := cells2 c3; clear c40 c41 c42 c43 c44 c45 c46 c47; obtain ⟨c40, c41, c42, c43, c44, c45, c46, c47⟩ := cellsCm c4; clear c60 c61; obtain ⟨c60, c61⟩ := cells2 c6; clear c70 c71 c72 c73 c74 c75; obtain ⟨c70, c71, c72, c73, c74, c75⟩ := cellsRp c7) | (fail))
        go_ret
        exact ⟨rfl, hB⟩
      | true =>
        obtain ⟨okJ, hrb, okA, hst0, hnew0, hsame0⟩ := books_law hsb.out htm.out hzc.out hD.out
        have stJ : Hid (storeB ⟨J, Y⟩ = true) := storeB_iff.2 okJ
        have SMJ : Hid (SmK J) := smK_of okJ
        have hJl := len_of okJ
        have hrB : Hid (repB ⟨r1, r2, r3, r4, r5, r6⟩ = true) := hrb
        have hr2 : r2.size ≤ 9223372036854775807 := by
          have h := (repB_iff.1 hrb)
          by_cases h5 : r1 = 5
          · have := nameB_size (h.nm h5); dsimp only at this; omega
          · have : r2 = emp := h.n0 h5
            rw [this]; decide
        have hr4 : r4.size ≤ 9223372036854775807 := by
          have := (repB_iff.1 hrb).b1
          dsimp only at this
          omega
        obtain ⟨P, hP⟩ := hid_ex (ageL q now)
        have hAge := (ag_yes (I := q) (X := X) (now := now) (by rw [hsb.out, htm.out]; rfl)).1
        rw [hP.out] at hAge hst0 hsame0 okA
        have HAge : Hid (agR ⟨q, X⟩ now = ⟨P, X⟩) := hAge
        have hPl := len_of okA
        have HST : Hid (∀ i (hi : i < P.length), V ≠ 13 → P[i].N ≠ N → ∃ k : Nat, ∃ hk : k < J.length, findI J P[i].N = (k : Int) ∧ J[k] = P[i]) := hst0
        have HNEW : Hid (r1 = 1 ∨ r1 = 6 → ∃ k : Nat, ∃ hk : k < J.length, findI J N = (k : Int) ∧ J[k].C = X) := hnew0
        have HSAME : Hid (r1 ≠ 1 → r1 ≠ 6 → V ≠ 11 → V ≠ 12 → V ≠ 13 → J = P ∧ Y = X) := hsame0
        clear okJ hrb okA hst0 hnew0 hsame0 hAge hP hD
        have mk35 : Hid True := trivial
        have mk36 : Hid True := trivial
        have mk37 : Hid True := trivial
        have mk38 : Hid True := trivial
        have mk39 : Hid True := trivial
        have mk40 : Hid True := trivial
        have mk41 : Hid True := trivial
        have mk42 : Hid True := trivial
        go_wp2_with (first | (clear mk35; go_at_call 20; refine (specStoreOk_any q X _ true hsb _ o3.rd HS.out).mono ?_; rintro er w22 ⟨rfl, hB22⟩; have hz22 : w21.heap.size ≤ w22.heap.size := hB22.size; replace o3 := o3.grow hB22; replace o6 := o6.grow hB22; replace c3 := vblk_grow c3 hB22; replace c4 := vblk_grow c4 hB22; replace c6 := vblk_grow c6 hB22; replace c7 := vblk_grow c7 hB22; replace hB := hB.trans (hB22.mono (by omega)); replace hzw := hB.size; clear c30 c31; obtain ⟨c30, c31⟩ := cells2 c3; clear c40 c41 c42 c43 c44 c45 c46 c47; obtain ⟨c40, c41, c42, c43, c44, c45, c46, c47⟩ := cellsCm c4; clear c60 c61; obtain ⟨c60, c61⟩ := cells2 c6; clear c70 c71 c72 c73 c74 c75; obtain ⟨c70, c71, c72, c73, c74, c75⟩ := cellsRp c7) | (clear mk36; refine wpList_load_r rfl 37 _ rfl b4 0 [.int .i64 V, .string N, .int .i64 F, .int .i64 U, .string B, .int .i64 C, .int .i64 D, .bool Q] rfl _ Tryz.underlying37 rfl sizeCm c4.range ?_) | (clear mk37; go_at_call 23; refine (specCmdOk_any V N B F U C D Q true hzc (by omega) (by omega) _).mono ?_; rintro er w23 ⟨rfl, hB23⟩; have hz23 : w22.heap.size ≤ w23.heap.size := hB23.size; replace o3 := o3.grow hB23; replace o6 := o6.grow hB23; replace c3 := vblk_grow c3 hB23; replace c4 := vblk_grow c4 hB23; replace c6 := vblk_grow c6 hB23; replace c7 := vblk_grow c7 hB23; replace hB := hB.trans (hB23.mono (by omega)); replace hzw := hB.size; clear c30 c31; obtain ⟨c30, c31⟩ := cells2 c3; clear c40 c41 c42 c43 c44 c45 c46 c47; obtain ⟨c40, c41, c42, c43, c44, c45, c46, c47⟩ := cellsCm c4; clear c60 c61; obtain ⟨c60, c61⟩ := cells2 c6; clear c70 c71 c72 c73 c74 c75; obtain ⟨c70, c71, c72, c73, c74, c75⟩ := cellsRp c7) | (clear mk38; go_at_call 19; refine (implStoreOk_any J Y _ true stJ _ o6.rd SMJ.out).mono ?_; rintro er w24 ⟨rfl, hB24⟩; have hz24 : w23.heap.size ≤ w24.heap.size := hB24.size; replace o3 := o3.grow hB24; replace o6 := o6.grow hB24; replace c3 := vblk_grow c3 hB24; replace c4 := vblk_grow c4 hB24; replace c6 := vblk_grow c6 hB24; replace c7 := vblk_grow c7 hB24; replace hB := hB.trans (hB24.mono (by omega)); replace hzw := hB.size; clear c30 c31; obtain ⟨c30, c31⟩ := cells2 c3; clear c40 c41 c42 c43 c44 c45 c46 c47; obtain ⟨c40, c41, c42, c43, c44, c45, c46, c47⟩ := cellsCm c4; clear c60 c61; obtain ⟨c60, c61⟩ := cells2 c6; clear c70 c71 c72 c73 c74 c75; obtain ⟨c70, c71, c72, c73, c74, c75⟩ := cellsRp c7) | (clear mk39; go_at_call 24; refine (implReplyOk_any r1 r2 r3 r4 r5 r6 true hrB hr2 hr4 _).mono ?_; rintro er w25 ⟨rfl, hB25⟩; have hz25 : w24.heap.size ≤ w25.heap.size := hB25.size; replace o3 := o3.grow hB25; replace o6 := o6.grow hB25; replace c3 := vblk_grow c3 hB25; replace c4 := vblk_grow c4 hB25; replace c6 := vblk_grow c6 hB25; replace c7 := vblk_grow c7 hB25; replace hB := hB.trans (hB25.mono (by omega)); replace hzw := hB.size; clear c30 c31; obtain ⟨c30, c31⟩ := cells2 c3; clear c40 c41 c42 c43 c44 c45 c46 c47; obtain ⟨c40, c41, c42, c43, c44, c45, c46, c47⟩ := cellsCm c4; clear c60 c61; obtain ⟨c60, c61⟩ := cells2 c6; clear c70 c71 c72 c73 c74 c75; obtain ⟨c70, c71, c72, c73, c74, c75⟩ := cellsRp c7) | (clear mk40; go_at_call 25; refine (specAged_any q X now _ _ o3.rd HS.out hql).mono ?_; rintro er w26 hP26; unfold PostG at hP26; rw [HAge.out] at hP26; obtain ⟨vA, vg, rfl, oA, -, hB26⟩ := hP26; dsimp only at oA ⊢; obtain ⟨AA, NA, KA, rfl⟩ := oA.slice; have hz26 : w25.heap.size ≤ w26.heap.size := hB26.size; replace o3 := o3.grow hB26; replace o6 := o6.grow hB26; replace c3 := vblk_grow c3 hB26; replace c4 := vblk_grow c4 hB26; replace c6 := vblk_grow c6 hB26; replace c7 := vblk_grow c7 hB26; replace hB := hB.trans (hB26.mono (by omega)); replace hzw := hB.size; clear c30 c31; obtain ⟨c30, c31⟩ := cells2 c3; clear c40 c41 c42 c43 c44 c45 c46 c47; obtain ⟨c40, c41, c42, c43, c44, c45, c46, c47⟩ := cellsCm c4; clear c60 c61; obtain ⟨c60, c61⟩ := cells2 c6; clear c70 c71 c72 c73 c74 c75; obtain ⟨c70, c71, c72, c73, c74, c75⟩ := cellsRp c7) | (clear mk41; refine wpList_alloc_v rfl 31 rfl _ zeroBk ?_; intro bA w27 hbA hwbA hB27 cA; have hz27 : w26.heap.size ≤ w27.heap.size := hB27.size; replace o3 := o3.grow hB27; replace o6 := o6.grow hB27; replace oA := oA.grow hB27; replace c3 := vblk_grow c3 hB27; replace c4 := vblk_grow c4 hB27; replace c6 := vblk_grow c6 hB27; replace c7 := vblk_grow c7 hB27; replace hB := hB.trans (hB27.mono (by omega)); replace hzw := hB.size; clear c30 c31; obtain ⟨c30, c31⟩ := cells2 c3; clear c40 c41 c42 c43 c44 c45 c46 c47; obtain ⟨c40, c41, c42, c43, c44, c45, c46, c47⟩ := cellsCm c4; clear c60 c61; obtain ⟨c60, c61⟩ := cells2 c6; clear c70 c71 c72 c73 c74 c75; obtain ⟨c70, c71, c72, c73, c74, c75⟩ := cellsRp c7) | (clear mk42; refine wpList_store_v rfl 31 _ _ rfl bA [.slice AA NA KA, .int .i64 X] rfl rfl sizeBk cA rfl (oneBk _ _ _ _) ?_; intro w28 hO28 cAx; have hz28 : w27.heap.size ≤ w28.heap.size := (Nat.le_of_eq hO28.1.symm); have hy28 : w28.heap.size ≤ w27.heap.size := (Nat.le_of_eq hO28.1); replace o3 := o3.only hO28 cA (by decide); replace o6 := o6.only hO28 cA (by decide); replace oA := oA.only hO28 cA (by decide); replace c3 := vblk_only c3 hO28 (by omega); replace c4 := vblk_only c4 hO28 (by omega); replace c6 := vblk_only c6 hO28 (by omega); replace c7 := vblk_only c7 hO28 (by omega); replace hB := hB.trans (hO28.2.2 _ (by omega)); replace hzw := hB.size; clear c30 c31; obtain ⟨c30, c31⟩ := cells2 c3; clear c40 c41 c42 c43 c44 c45 c46 c47; obtain ⟨c40, c41, c42, c43, c44, c45, c46, c47⟩ := cellsCm c4; clear c60 c61; obtain ⟨c60, c61⟩ := cells2 c6; clear c70 c71 c72 c73 c74 c75; obtain ⟨c70, c71, c72, c73, c74, c75⟩ := cellsRp c7; clear cA; have cA := cAx; clear cAx; obtain ⟨cA0, cA1⟩ := cells2 cA) | (fail))
        have V3 : Hid (VBlk w28 b3 31 [.slice A3 N3 K3, .int .i64 X]) := c3
        have V4 : Hid (VBlk w28 b4 37 [.int .i64 V, .string N, .int .i64 F, .int .i64 U, .string B, .int .i64 C, .int .i64 D, .bool Q]) := c4
        have V6 : Hid (VBlk w28 b6 31 [.slice A6 N6 K6, .int .i64 Y]) := c6
        have V7 : Hid (VBlk w28 b7 33 [.int .i64 r1, .string r2, .int .i64 r3, .string r4, .int .i64 r5, .int .i64 r6]) := c7
        have VA : Hid (VBlk w28 bA 31 [.slice AA NA KA, .int .i64 X]) := cA
        have R6 : Hid (Rd encIt w28 (.slice A6 N6 K6) J) := o6.rd
        have RA : Hid (Rd encIt w28 (.slice AA NA KA) P) := oA.rd
        have q6 : Hid (N6 = J.length) := o6.rd.cap.1
        have qA : Hid (NA = P.length) := oA.rd.cap.1
        have hBw : Hid (Below w.heap.size w w28) := hB
        have hNA : NA ≤ 20 ∧ P.length ≤ NA ∧ NA ≤ P.length := by have := qA.out; omega
        have hN6 : N6 ≤ 20 ∧ J.length ≤ N6 ∧ N6 ≤ J.length := by have := q6.out; omega
        clear o3 o6 oA hB c3 c4 c6 c7 cA c30 c31 c40 c41 c42 c43 c44 c45 c46 c47 c60 c61 c70 c71 c72 c73 c74 c75 cA0 cA1
        go_loopw [12] (fun iv wr => ∃ i : Nat, i ≤ P.length ∧ iv = .int .i64 i ∧ Hid (Below w28.heap.size w28 wr)) (fun iv _ => P.length - (intOf iv).toNat)
        case atStart => exact ⟨0, by omega, rfl, Below.refl _ _⟩
        case round =>
          obtain ⟨i, hi1, rfl, hBr⟩ := hrel
          by_cases hlt : i < P.length
          · obtain ⟨bk, off, eA, hbk, rg0⟩ := rd_item rfl rfl (RA.out.grow hBr.out) i hlt
            have hlt' : (i : Int) < (NA : Int) := by omega
            have hst1 := HST.out i hlt
            obtain ⟨z, hz⟩ := hid_ex (P[i])
            rw [hz.out] at rg0 hst1
            obtain ⟨N9, F9, B9, C9, U9⟩ := z
            obtain ⟨fi, hfi⟩ := hid_ex (findI J N9)
            subst eA
            have rg : Hid (wr.rangeAt bk (off + i * 5) [.string N9, .int .i64 F9, .string B9, .int .i64 C9, .int .i64 U9]) := rg0
            have HS1 : Hid (V ≠ 13 → N9 ≠ N → ∃ k : Nat, ∃ hk : k < J.length, findI J N9 = (k : Int) ∧ J[k] = ⟨N9, F9, B9, C9, U9⟩) := hst1
            clear rg0 hst1
            obtain ⟨d60, d61⟩ := cells2 (vblk_grow V6.out hBr.out)
            obtain ⟨dA0, dA1⟩ := cells2 (vblk_grow VA.out hBr.out)
            go_upto_region 18 with (fail)
            have hBd : Below w28.heap.size w28 wr.drew := hBr.out.drew
            have S1 : wr.drew.cell? ⟨b6, 0, none⟩ = some (.slice A6 N6 K6) ∧ wr.drew.cell? ⟨bA, 0, none⟩ = some (.slice (some ⟨bk, off, none⟩) NA KA) ∧ wr.drew.cell? ⟨bk, off + i * 5, none⟩ = some (.string N9) := ⟨(cells2 (vblk_grow V6.out hBd)).1, (cells2 (vblk_grow VA.out hBd)).1, (rng5 (range_of rg.out ((Below.refl _ _).drew.block bk hbk))).1⟩
            go_region_held3 (fun w' => w'.cell? ⟨b6, 0, none⟩ = some (.slice A6 N6 K6) ∧ w'.cell? ⟨bA, 0, none⟩ = some (.slice (some ⟨bk, off, none⟩) NA KA) ∧ w'.cell? ⟨bk, off + i * 5, none⟩ = some (.string N9)) (first | with_reducible assumption | with_reducible exact S1 | (fail)) (first | (go_at_call 26; refine (specFindItem_any J N9 _ _ (R6.out.grow hBd)).mono ?_; rintro e wq ⟨he, hq⟩; rw [hfi.out] at he; subst he; subst wq) | (fail))
            clear d60 d61 dA0 dA1 S1
            have hBe : Hid (Below w28.heap.size w28 wr.drew) := hBd
            clear hBd
            obtain ⟨wd, hwd⟩ : ∃ x, x = wr.drew := ⟨_, rfl⟩
            rw [← hwd] at hBe ⊢
            have rgd : Hid (wd.rangeAt bk (off + i * 5) [.string N9, .int .i64 F9, .string B9, .int .i64 C9, .int .i64 U9]) := by rw [hwd]; exact range_of rg.out ((Below.refl _ _).drew.block bk hbk)
            clear rg hwd
            obtain ⟨d60, d61⟩ := cells2 (vblk_grow V6.out hBe.out)
            obtain ⟨dA0, dA1⟩ := cells2 (vblk_grow VA.out hBe.out)
            obtain ⟨d40, d41, -, -, -, -, -, -⟩ := cellsCm (vblk_grow V4.out hBe.out)
            obtain ⟨e0, e1, e2, e3, e4⟩ := rng5 rgd.out
            go_upto_region 19 with (fail)
            by_cases hNN : N9 = N
            · have hne : (N9.toList != N.toList) = false := by rw [hNN]; simp
              have hne2 : (N9.toList == N.toList) = true := by rw [hNN]; simp
              clear hNN
              go_big_quiet (fail)
              go_wp2
              go_roundw
              case rel => exact ⟨i + 1, by omega, by go_num, hBe.out.trans (ce.below_drewN _ _)⟩
              case measure => simp [intOf]; omega
            · have hne : (N9.toList != N.toList) = true := by simpa using fun e => hNN (str_eq e)
              have hne2 : (N9.toList == N.toList) = false := by simpa using fun e => hNN (str_eq e)
              by_cases h13 : V = 13
              · have hv : (V != 13) = false := by rw [h13]; rfl
                have hv2 : (V == 13) = true := by rw [h13]; rfl
                clear hNN h13
                go_big_quiet (fail)
                go_wp2
                go_roundw
                case rel => exact ⟨i + 1, by omega, by go_num, hBe.out.trans (ce.below_drewN _ _)⟩
                case measure => simp [intOf]; omega
              · have hv : (V != 13) = true := by simpa using h13
                have hv2 : (V == 13) = false := by simpa using h13
                obtain ⟨k, hk, hf, hg⟩ := HS1.out h13 hNN
                rw [hfi.out] at hf
                subst hf
                clear hNN h13 hfi
                obtain ⟨b6k, o6k, e6, -, rgk⟩ := rd_item rfl rfl (R6.out.grow hBe.out) k hk
                rw [hg] at rgk
                subst e6
                obtain ⟨f0, f1, f2, f3, f4⟩ := rng5 rgk
                have hk0 : decide ((k : Int) < 0) = false := decide_eq_false (by omega)
                have hkl : (k : Int) < (N6 : Int) := by omega
                have eN : (N9.toList == N9.toList) = true := by simp
                have eB : (B9.toList == B9.toList) = true := by simp
                have eF : (F9 == F9) = true := by simp
                have eC : (C9 == C9) = true := by simp
                have eU : (U9 == U9) = true := by simp
                clear rgk hg
                go_big_quiet (fail)
                go_wp2
                go_roundw
                case rel => exact ⟨i + 1, by omega, by go_num, hBe.out.trans (ce.below_drewN _ _)⟩
                case measure => simp [intOf]; omega
          · have hlt' : ¬ (i : Int) < (NA : Int) := by omega
            obtain ⟨d60, d61⟩ := cells2 (vblk_grow V6.out hBr.out)
            obtain ⟨d30, d31⟩ := cells2 (vblk_grow V3.out hBr.out)
            obtain ⟨dA0, dA1⟩ := cells2 (vblk_grow VA.out hBr.out)
            obtain ⟨d40, d41, -, -, -, -, -, -⟩ := cellsCm (vblk_grow V4.out hBr.out)
            obtain ⟨d70, -, -, -, -, -⟩ := cellsRp (vblk_grow V7.out hBr.out)
            have BW : Hid (Below w.heap.size w wr) := hBw.out.trans (hBr.out.mono hBw.out.size)
            by_cases k1 : r1 = 1
            ·
              obtain ⟨k, hk, hf, hg⟩ := HNEW.out (.inl k1)
              have hF : Hid (findI J N = (k : Int)) := hf
              obtain ⟨bk, off, eA, hbk, rg0⟩ := rd_item rfl rfl (R6.out.grow hBr.out) k hk
              obtain ⟨z, hz⟩ := hid_ex (J[k])
              rw [hz.out] at rg0 hg
              obtain ⟨N9, F9, B9, C9, U9⟩ := z
              dsimp only at hg
              subst eA
              rw [hg] at rg0
              obtain ⟨f0, f1, f2, f3, f4⟩ := rng5 rg0
              have hk0 : decide (0 ≤ (k : Int)) = true := decide_eq_true (by omega)
              have hk1 : (0 : Int) ≤ (k : Int) := by omega
              have hkl : (k : Int) < (N6 : Int) := by omega
              have eX : (X == X) = true := by simp
              have t1 : (r1 == 1) = true := by rw [k1]; rfl
              clear rg0 hg hf k1
              go_upto_region 23 with (first | (go_at_call 26; refine (specFindItem_any J N _ _ (R6.out.grow hBr.out)).mono ?_; rintro e wq ⟨he, hq⟩; rw [hF.out] at he; subst he; subst wq) | (fail))
              go_big_quiet (fail)
              go_wp2
              go_ret
              exact ⟨rfl, BW.out.trans (ce.below_drewN _ _)⟩
            have t1 : (r1 == 1) = false := by simpa using k1
            by_cases k6 : r1 = 6
            ·
              obtain ⟨k, hk, hf, hg⟩ := HNEW.out (.inr k6)
              have hF : Hid (findI J N = (k : Int)) := hf
              obtain ⟨bk, off, eA, hbk, rg0⟩ := rd_item rfl rfl (R6.out.grow hBr.out) k hk
              obtain ⟨z, hz⟩ := hid_ex (J[k])
              rw [hz.out] at rg0 hg
              obtain ⟨N9, F9, B9, C9, U9⟩ := z
              dsimp only at hg
              subst eA
              rw [hg] at rg0
              obtain ⟨f0, f1, f2, f3, f4⟩ := rng5 rg0
              have hk0 : decide (0 ≤ (k : Int)) = true := decide_eq_true (by omega)
              have hk1 : (0 : Int) ≤ (k : Int) := by omega
              have hkl : (k : Int) < (N6 : Int) := by omega
              have eX : (X == X) = true := by simp
              have t6 : (r1 == 6) = true := by rw [k6]; rfl
              clear rg0 hg hf k6
              go_upto_region 23 with (first | (go_at_call 26; refine (specFindItem_any J N _ _ (R6.out.grow hBr.out)).mono ?_; rintro e wq ⟨he, hq⟩; rw [hF.out] at he; subst he; subst wq) | (fail))
              go_big_quiet (fail)
              go_wp2
              go_ret
              exact ⟨rfl, BW.out.trans (ce.below_drewN _ _)⟩
            have t6 : (r1 == 6) = false := by simpa using k6
            by_cases v11 : V = 11
            · have u11 : (V == 11) = true := by rw [v11]; rfl
              clear v11
              go_wp2
              go_ret
              exact ⟨rfl, BW.out⟩
            have u11 : (V == 11) = false := by simpa using v11
            by_cases v12 : V = 12
            · have u12 : (V == 12) = true := by rw [v12]; rfl
              clear v12
              go_wp2
              go_ret
              exact ⟨rfl, BW.out⟩
            have u12 : (V == 12) = false := by simpa using v12
            by_cases v13 : V = 13
            · have u13 : (V == 13) = true := by rw [v13]; rfl
              clear v13
              go_wp2
              go_ret
              exact ⟨rfl, BW.out⟩
            have u13 : (V == 13) = false := by simpa using v13
            obtain ⟨eP, eY⟩ := HSAME.out k1 k6 v11 v12 v13
            have RA2 : Hid (Rd encIt wr (.slice AA NA KA) J) := by rw [eP]; exact RA.out.grow hBr.out
            rw [eY] at d61
            have R62 : Hid (Rd encIt wr (.slice A6 N6 K6) J) := R6.out.grow hBr.out
            clear eP eY k1 k6 v11 v12 v13
            go_wp2_with (first | (go_at_call 18; refine (likeBook_any J X _ _ _ R62.out RA2.out).mono ?_; rintro e w50 ⟨rfl, hB50⟩) | (fail))
            go_ret
            exact ⟨rfl, BW.out.trans (hB50.mono BW.out.size)⟩

end Go.Proofs.YtjkkjpgebcnhgaaGreatDoor.lawBk
/- What a row's list of package-level variables gives: a table of numbers, an error, as they lie in memory. -/
namespace Go.Proofs.YtjkkjpgebcnhgaaGreatDoor.cm
open Go.ChangeShapes Go.WideShapes Go.ChangeAt Go.RowKit
set_option linter.unusedVariables false

theorem laid_get {P : Program} {w : World} : ∀ {l : List (String × DataW Unit)} {ps : List MemPlace}, DataW.LaidVars P w l ps → ∀ {n : String} {d : DataW Unit}, (n, d) ∈ l → ∃ g t cs fuel p, P.globalNamed n = some g ∧ (P.globals[g]?).map (·.type) = some t ∧ w.var? P n = some cs ∧ DataW.trod (fun _ => ()) P w 0 (fun _ => true) false fuel t cs.toList = some (d, p)
  | [], _, _, n, d, h => by simp at h
  | (m, e) :: r, ps, hl, n, d, h => by
    obtain ⟨g, t, cs, fuel, p, q, h1, h2, h3, h4, h5, -⟩ := hl
    rcases List.mem_cons.1 h with h | h
    · obtain ⟨rfl, rfl⟩ := Prod.mk.inj h
      exact ⟨g, t, cs, fuel, p, h1, h2, h3, h4⟩
    · exact laid_get h5 h
theorem tab_get {P : Program} {w : World} {l : List (String × DataW Unit)} (h : laidMet P l w) {n : String} {k : IntKind} {zs : List Int} {g : Nat} {t e : TypeId} {m : Nat} (hm : (n, Lib.tabData k zs) ∈ l) (hg : P.globalNamed n = some g) (hty : (P.globals[g]?).map (·.type) = some t) (ht : P.underlying t = some (.array m e)) (he : P.underlying e = some (.int k)) (hce : P.cellsOf e = 1) (hct : P.cellsOf t = m) : Lib.TabIs P w n k zs := by
  obtain ⟨ps, hl, -⟩ := h
  obtain ⟨g', t', cs, fuel, p, h1, h2, h3, h4⟩ := laid_get hl hm
  obtain rfl := Option.some.inj (hg.symm.trans h1)
  obtain rfl := Option.some.inj (hty.symm.trans h2)
  unfold Lib.TabIs
  rw [h3, ← Lib.cells_of_tab ht he hce hct h4]
theorem iface_get {P : Program} {w : World} {l : List (String × DataW Unit)} (h : laidMet P l w) {n nm : String} {d : DataW Unit} {g : Nat} {t : TypeId} (hm : (n, DataW.iface nm d) ∈ l) (hg : P.globalNamed n = some g) (hty : (P.globals[g]?).map (·.type) = some t) (ht0 : ∃ ms, P.underlying t = some (.interface ms)) : ∃ te pe, w.cell? ⟨g, 0, none⟩ = some (.iface te pe) := by
  obtain ⟨ps, hl, -⟩ := h
  obtain ⟨g', t', cs, fuel, p, h1, h2, h3, h4⟩ := laid_get hl hm
  obtain rfl := Option.some.inj (hg.symm.trans h1)
  obtain rfl := Option.some.inj (hty.symm.trans h2)
  obtain ⟨ms, ht⟩ := ht0
  have h0 := World.var?_cell hg h3 0
  rw [← Array.getElem?_toList] at h0
  generalize cs.toList = cl at h4 h0
  cases fuel with
  | zero => simp [DataW.trod] at h4
  | succ fuel =>
    match cl, h4, h0 with
    | [], h4, _ => simp [DataW.trod, ht] at h4
    | [.iface u v], _, h0 => exact ⟨u, v, h0⟩
    | [.int _ _], h4, _ => simp [DataW.trod, ht] at h4
    | [.nilIface], h4, _ => simp [DataW.trod, ht] at h4
    | [x], h4, h0 => (cases x <;> first | exact ⟨_, _, h0⟩ | (simp [DataW.trod, ht] at h4))
    | x :: y :: r, h4, _ => (cases x <;> simp [DataW.trod, ht] at h4)
end Go.Proofs.YtjkkjpgebcnhgaaGreatDoor.cm
