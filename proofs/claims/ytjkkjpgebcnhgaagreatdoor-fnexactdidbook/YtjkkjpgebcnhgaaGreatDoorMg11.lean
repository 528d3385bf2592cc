/- Texts laid together: Dd3 Dd4. -/
import Derived.Test.YtjkkjpgebcnhgaaGreatDoorMg10
import Derived.Test.YtjkkjpgebcnhgaaGreatDoorWr5
import Derived.Deep.DeepCutAuto
import Derived.Deep.RegionHeld3
/- Contracts: the program's deeds that put bytes together. -/
namespace Go.Proofs.YtjkkjpgebcnhgaaGreatDoor.rg
open Go.ChangeShapes Go.WideShapes Go.ChangeAt Go.RowKit
open Go.Deep Go.Joins
open Go.Proofs.YtjkkjpgebcnhgaaGreatDoor.ce Go.Proofs.YtjkkjpgebcnhgaaGreatDoor.ro Go.Proofs.YtjkkjpgebcnhgaaGreatDoor.cm
set_option linter.unusedVariables false

set_option maxRecDepth 100000 in
set_option maxHeartbeats 2000000 in
theorem putTogether_any (I : List It) (X : Int) (N B : ByteArray) (F C U : Int) (S : ByteArray) (hS : S.size ≤ 4194304) (v : Value) (lo : Nat) (w : World) (o : Own encIt w lo w.heap.size v I) (hlo : lo ≤ w.heap.size) (ok : StOk ⟨I, X⟩) (hN : N.size ≤ 1048576) :
    Calls Tryz.prog 111 #[.agg #[v, .int .i64 X], .agg #[.string N, .int .i64 F, .string B, .int .i64 C, .int .i64 U], .string S] w fun e w' => PostD (if S.size > 64 then ((⟨I, X⟩, rp 12) : Bk × Rp) else keepK ⟨I, X⟩ ⟨N, F, S, C, U⟩).1 (if S.size > 64 then ((⟨I, X⟩, rp 12) : Bk × Rp) else keepK ⟨I, X⟩ ⟨N, F, S, C, U⟩).2 lo w e w' := by
  obtain ⟨A0, n0, k0, rfl⟩ := o.slice
  by_cases hs : S.size > 64
  · have hss : decide ((64 : Int) < (S.size : Int)) = true := decide_eq_true (by omega)
    rw [if_pos hs]
    have hzw0 : w.heap.size ≤ w.heap.size := Nat.le_refl _
    go_enter Tryz.func111, Tryz.ntmps111
    have mk1 : Hid True := trivial
    have mk2 : Hid True := trivial
    have mk3 : Hid True := trivial
    have mk4 : Hid True := trivial
    have mk5 : Hid True := trivial
    have mk6 : Hid True := trivial
    have mk7 : Hid True := trivial
    go_wp2_with (first | (clear mk1; refine wpList_box_v rfl 31 _ rfl [.slice A0 n0 k0, .int .i64 X] rfl ?_; intro b3 w1 hb3 hwb3 hB1 c3; have hz1 : w.heap.size ≤ w1.heap.size := hB1.size; replace o := o.grow hB1; have hB := hB1; have hzw := hB.size; obtain ⟨c30, c31⟩ := cells2 c3) | (clear mk2; refine wpList_box_v rfl 56 _ rfl [.string N, .int .i64 F, .string B, .int .i64 C, .int .i64 U] rfl ?_; intro b4 w2 hb4 hwb4 hB2 c4; have hz2 : w1.heap.size ≤ w2.heap.size := hB2.size; replace o := o.grow hB2; replace c3 := vblk_grow c3 hB2; replace hB := hB.trans (hB2.mono (by omega)); replace hzw := hB.size; clear c30 c31; obtain ⟨c30, c31⟩ := cells2 c3; obtain ⟨c40, c41, c42, c43, c44⟩ := cells5 c4) | (clear mk3; refine wpList_alloc_v rfl 31 rfl _ zeroBk ?_; intro b6 w3 hb6 hwb6 hB3 c6; have hz3 : w2.heap.size ≤ w3.heap.size := hB3.size; replace o := o.grow hB3; replace c3 := vblk_grow c3 hB3; replace c4 := vblk_grow c4 hB3; replace hB := hB.trans (hB3.mono (by omega)); replace hzw := hB.size; clear c30 c31; obtain ⟨c30, c31⟩ := cells2 c3; clear c40 c41 c42 c43 c44; obtain ⟨c40, c41, c42, c43, c44⟩ := cells5 c4; obtain ⟨c60, c61⟩ := cells2 c6) | (clear mk4; refine wpList_alloc_v rfl 33 rfl _ zeroRp ?_; intro b7 w4 hb7 hwb7 hB4 c7; have hz4 : w3.heap.size ≤ w4.heap.size := hB4.size; replace o := o.grow hB4; replace c3 := vblk_grow c3 hB4; replace c4 := vblk_grow c4 hB4; replace c6 := vblk_grow c6 hB4; replace hB := hB.trans (hB4.mono (by omega)); replace hzw := hB.size; clear c30 c31; obtain ⟨c30, c31⟩ := cells2 c3; clear c40 c41 c42 c43 c44; obtain ⟨c40, c41, c42, c43, c44⟩ := cells5 c4; clear c60 c61; obtain ⟨c60, c61⟩ := cells2 c6; obtain ⟨c70, c71, c72, c73, c74, c75⟩ := cellsRp c7) | (clear mk5; refine wpList_load_r rfl 31 _ rfl b3 0 [.slice A0 n0 k0, .int .i64 X] rfl _ Tryz.underlying31 rfl sizeBk c3.range ?_) | (clear mk6; refine wpList_store_v rfl 31 _ _ rfl b6 [.slice A0 n0 k0, .int .i64 X] rfl rfl sizeBk c6 rfl (oneBk _ _ _ _) ?_; intro w5 hO5 c6x; clear c60 c61; have hz5 : w4.heap.size ≤ w5.heap.size := (Nat.le_of_eq hO5.1.symm); have hy5 : w5.heap.size ≤ w4.heap.size := (Nat.le_of_eq hO5.1); replace o := o.only hO5 c6 (by decide); replace c3 := vblk_only c3 hO5 (by omega); replace c4 := vblk_only c4 hO5 (by omega); replace c7 := vblk_only c7 hO5 (by omega); replace hB := hB.trans (hO5.2.2 _ (by omega)); replace hzw := hB.size; clear c30 c31; obtain ⟨c30, c31⟩ := cells2 c3; clear c40 c41 c42 c43 c44; obtain ⟨c40, c41, c42, c43, c44⟩ := cells5 c4; clear c70 c71 c72 c73 c74 c75; obtain ⟨c70, c71, c72, c73, c74, c75⟩ := cellsRp c7; clear c6; have c6 := c6x; clear c6x; obtain ⟨c60, c61⟩ := cells2 c6) | (clear mk7; refine wpList_store_v rfl 33 _ _ rfl b7 [.int .i64 12, .string ⟨#[]⟩, .int .i64 0, .string ⟨#[]⟩, .int .i64 0, .int .i64 0] rfl rfl sizeRp c7 rfl (oneRp (rp 12)) ?_; intro w6 hO6 c7x; clear c70 c71 c72 c73 c74 c75; have hz6 : w5.heap.size ≤ w6.heap.size := (Nat.le_of_eq hO6.1.symm); have hy6 : w6.heap.size ≤ w5.heap.size := (Nat.le_of_eq hO6.1); replace o := o.only hO6 c7 (by decide); replace c3 := vblk_only c3 hO6 (by omega); replace c4 := vblk_only c4 hO6 (by omega); replace c6 := vblk_only c6 hO6 (by omega); replace hB := hB.trans (hO6.2.2 _ (by omega)); replace hzw := hB.size; clear c30 c31; obtain ⟨c30, c31⟩ := cells2 c3; clear c40 c41 c42 c43 c44; obtain ⟨c40, c41, c42, c43, c44⟩ := cells5 c4; clear c60 c61; obtain ⟨c60, c61⟩ := cells2 c6; clear c7; have c7 := c7x; clear c7x; obtain ⟨c70, c71, c72, c73, c74, c75⟩ := cellsRp c7) | (fail))
    exact row_cc rfl rfl rfl c6 c7 Tryz.underlying31 Tryz.underlying33 sizeBk sizeRp rfl ⟨_, rfl, (o.wide (Nat.le_refl _) (by omega)).top, hB⟩
  have hss : decide ((64 : Int) < (S.size : Int)) = false := decide_eq_false (by omega)
  rw [if_neg hs]
  have hzw0 : w.heap.size ≤ w.heap.size := Nat.le_refl _
  have HS := fun v lo w o h => stamp_any I X N S F C U v lo w o h ok hN (by omega)
  obtain ⟨⟨⟨J, Y⟩, ⟨r1, r2, r3, r4, r5, r6⟩⟩, hR⟩ := hid_ex (keepK ⟨I, X⟩ ⟨N, F, S, C, U⟩)
  unfold PostD at HS ⊢
  rw [hR.out] at HS ⊢
  have HH : Hid _ := HS
  clear HS hR
  dsimp only [csRp] at HH ⊢
  have hzw0 : w.heap.size ≤ w.heap.size := Nat.le_refl _
  go_enter Tryz.func111, Tryz.ntmps111
  have mk1 : Hid True := trivial
  have mk2 : Hid True := trivial
  have mk3 : Hid True := trivial
  have mk4 : Hid True := trivial
  have mk5 : Hid True := trivial
  have mk6 : Hid True := trivial
  have mk7 : Hid True := trivial
  have mk8 : Hid True := trivial
  have mk9 : Hid True := trivial
  have mk10 : Hid True := trivial
  go_wp2_with (first | (clear mk1; refine wpList_box_v rfl 31 _ rfl [.slice A0 n0 k0, .int .i64 X] rfl ?_; intro b3 w1 hb3 hwb3 hB1 c3; have hz1 : w.heap.size ≤ w1.heap.size := hB1.size; replace o := o.grow hB1; have hB := hB1; have hzw := hB.size; obtain ⟨c30, c31⟩ := cells2 c3) | (clear mk2; refine wpList_box_v rfl 56 _ rfl [.string N, .int .i64 F, .string B, .int .i64 C, .int .i64 U] rfl ?_; intro b4 w2 hb4 hwb4 hB2 c4; have hz2 : w1.heap.size ≤ w2.heap.size := hB2.size; replace o := o.grow hB2; replace c3 := vblk_grow c3 hB2; replace hB := hB.trans (hB2.mono (by omega)); replace hzw := hB.size; clear c30 c31; obtain ⟨c30, c31⟩ := cells2 c3; obtain ⟨c40, c41, c42, c43, c44⟩ := cells5 c4) | (clear mk3; refine wpList_alloc_v rfl 31 rfl _ zeroBk ?_; intro b6 w3 hb6 hwb6 hB3 c6; have hz3 : w2.heap.size ≤ w3.heap.size := hB3.size; replace o := o.grow hB3; replace c3 := vblk_grow c3 hB3; replace c4 := vblk_grow c4 hB3; replace hB := hB.trans (hB3.mono (by omega)); replace hzw := hB.size; clear c30 c31; obtain ⟨c30, c31⟩ := cells2 c3; clear c40 c41 c42 c43 c44; obtain ⟨c40, c41, c42, c43, c44⟩ := cells5 c4; obtain ⟨c60, c61⟩ := cells2 c6) | (clear mk4; refine wpList_alloc_v rfl 33 rfl _ zeroRp ?_; intro b7 w4 hb7 hwb7 hB4 c7; have hz4 : w3.heap.size ≤ w4.heap.size := hB4.size; replace o := o.grow hB4; replace c3 := vblk_grow c3 hB4; replace c4 := vblk_grow c4 hB4; replace c6 := vblk_grow c6 hB4; replace hB := hB.trans (hB4.mono (by omega)); replace hzw := hB.size; clear c30 c31; obtain ⟨c30, c31⟩ := cells2 c3; clear c40 c41 c42 c43 c44; obtain ⟨c40, c41, c42, c43, c44⟩ := cells5 c4; clear c60 c61; obtain ⟨c60, c61⟩ := cells2 c6; obtain ⟨c70, c71, c72, c73, c74, c75⟩ := cellsRp c7) | (clear mk5; refine wpList_store_cell rfl 9 _ _ rfl b4 2 (.string S) rfl rfl rfl szSt1 c4 (by simp) ?_; intro w5 hO5 c4x; clear c40 c41 c42 c43 c44; have hz5 : w4.heap.size ≤ w5.heap.size := (Nat.le_of_eq hO5.1.symm); have hy5 : w5.heap.size ≤ w4.heap.size := (Nat.le_of_eq hO5.1); replace o := o.below (hO5.2.2 b4 (Nat.le_refl _)) (by omega); replace c3 := vblk_only c3 hO5 (by omega); replace c6 := vblk_only c6 hO5 (by omega); replace c7 := vblk_only c7 hO5 (by omega); replace hB := hB.trans (hO5.2.2 _ (by omega)); replace hzw := hB.size; clear c30 c31; obtain ⟨c30, c31⟩ := cells2 c3; clear c60 c61; obtain ⟨c60, c61⟩ := cells2 c6; clear c70 c71 c72 c73 c74 c75; obtain ⟨c70, c71, c72, c73, c74, c75⟩ := cellsRp c7; clear c4; have c4 : VBlk w5 b4 56 [.string N, .int .i64 F, .string S, .int .i64 C, .int .i64 U] := c4x; clear c4x; obtain ⟨c40, c41, c42, c43, c44⟩ := cells5 c4) | (clear mk6; refine wpList_load_r rfl 31 _ rfl b3 0 [.slice A0 n0 k0, .int .i64 X] rfl _ Tryz.underlying31 rfl sizeBk c3.range ?_) | (clear mk7; refine wpList_load_r rfl 56 _ rfl b4 0 [.string N, .int .i64 F, .string S, .int .i64 C, .int .i64 U] rfl _ Tryz.underlying56 rfl sizeIt c4.range ?_) | (clear mk8; go_at_call 110; refine (HH.out _ lo _ o.top (by omega)).mono ?_; rintro er w6 ⟨v1, rfl, o1, hB6⟩; have hz6 : w5.heap.size ≤ w6.heap.size := hB6.size; replace c3 := vblk_grow c3 hB6; replace c6 := vblk_grow c6 hB6; replace c7 := vblk_grow c7 hB6; replace c4 := vblk_grow c4 hB6; replace hB := hB.trans (hB6.mono (by omega)); replace hzw := hB.size; clear c30 c31; obtain ⟨c30, c31⟩ := cells2 c3; clear c60 c61; obtain ⟨c60, c61⟩ := cells2 c6; clear c70 c71 c72 c73 c74 c75; obtain ⟨c70, c71, c72, c73, c74, c75⟩ := cellsRp c7; clear c40 c41 c42 c43 c44; obtain ⟨c40, c41, c42, c43, c44⟩ := cells5 c4; obtain ⟨A1, n1, k1, rfl⟩ := o1.slice) | (clear mk9; refine wpList_store_v rfl 31 _ _ rfl b6 [.slice A1 n1 k1, .int .i64 Y] rfl rfl sizeBk c6 rfl (oneBk _ _ _ _) ?_; intro w7 hO7 c6x; clear c60 c61; have hz7 : w6.heap.size ≤ w7.heap.size := (Nat.le_of_eq hO7.1.symm); have hy7 : w7.heap.size ≤ w6.heap.size := (Nat.le_of_eq hO7.1); replace o1 := o1.only hO7 c6 (by decide); replace c3 := vblk_only c3 hO7 (by omega); replace c7 := vblk_only c7 hO7 (by omega); replace c4 := vblk_only c4 hO7 (by omega); replace hB := hB.trans (hO7.2.2 _ (by omega)); replace hzw := hB.size; clear c30 c31; obtain ⟨c30, c31⟩ := cells2 c3; clear c70 c71 c72 c73 c74 c75; obtain ⟨c70, c71, c72, c73, c74, c75⟩ := cellsRp c7; clear c40 c41 c42 c43 c44; obtain ⟨c40, c41, c42, c43, c44⟩ := cells5 c4; clear c6; have c6 := c6x; clear c6x; obtain ⟨c60, c61⟩ := cells2 c6) | (clear mk10; refine wpList_store_v rfl 33 _ _ rfl b7 [.int .i64 r1, .string r2, .int .i64 r3, .string r4, .int .i64 r5, .int .i64 r6] rfl rfl sizeRp c7 rfl (oneRp ⟨r1, r2, r3, r4, r5, r6⟩) ?_; intro w8 hO8 c7x; clear c70 c71 c72 c73 c74 c75; have hz8 : w7.heap.size ≤ w8.heap.size := (Nat.le_of_eq hO8.1.symm); have hy8 : w8.heap.size ≤ w7.heap.size := (Nat.le_of_eq hO8.1); replace o1 := o1.only hO8 c7 (by decide); replace c3 := vblk_only c3 hO8 (by omega); replace c4 := vblk_only c4 hO8 (by omega); replace c6 := vblk_only c6 hO8 (by omega); replace hB := hB.trans (hO8.2.2 _ (by omega)); replace hzw := hB.size; clear c30 c31; obtain ⟨c30, c31⟩ := cells2 c3; clear c40 c41 c42 c43 c44; obtain ⟨c40, c41, c42, c43, c44⟩ := cells5 c4; clear c60 c61; obtain ⟨c60, c61⟩ := cells2 c6; clear c7; have c7 := c7x; clear c7x; obtain ⟨c70, c71, c72, c73, c74, c75⟩ := cellsRp c7) | (fail))
  exact row_cc rfl rfl rfl c6 c7 Tryz.underlying31 Tryz.underlying33 sizeBk sizeRp rfl ⟨_, rfl, (o1.wide (Nat.le_refl _) (by omega)).top, hB⟩

set_option maxRecDepth 100000 in
set_option maxHeartbeats 2000000 in
theorem putBehind_any (I : List It) (X : Int) (N B : ByteArray) (F C U : Int) (V : Int) (N2 : ByteArray) (F2 U2 : Int) (B2 : ByteArray) (C2 D2 : Int) (Q2 : Bool) (v : Value) (lo : Nat) (w : World) (o : Own encIt w lo w.heap.size v I) (hlo : lo ≤ w.heap.size) (ok : StOk ⟨I, X⟩) (hN : N.size ≤ 1048576) (hBs : B.size ≤ 1048576) (hN2 : N2.size ≤ 1048576) (hB2 : B2.size ≤ 1048576) :
    Calls Tryz.prog 81 #[.agg #[v, .int .i64 X], .agg #[.string N, .int .i64 F, .string B, .int .i64 C, .int .i64 U], .agg #[.int .i64 V, .string N2, .int .i64 F2, .int .i64 U2, .string B2, .int .i64 C2, .int .i64 D2, .bool Q2]] w fun e w' => PostD (if (B ++ B2).size > 64 then ((⟨I, X⟩, rp 12) : Bk × Rp) else keepK ⟨I, X⟩ ⟨N, F, B ++ B2, C, U⟩).1 (if (B ++ B2).size > 64 then ((⟨I, X⟩, rp 12) : Bk × Rp) else keepK ⟨I, X⟩ ⟨N, F, B ++ B2, C, U⟩).2 lo w e w' := by
  obtain ⟨A0, n0, k0, rfl⟩ := o.slice
  obtain ⟨S, hSx⟩ := hid_ex (B ++ B2)
  have hSz : S.size ≤ 4194304 := by rw [← hSx.out]; simp [ByteArray.size_append]; omega
  rw [hSx.out]
  replace hSx := hSx.out
  have hSn : B.size + B2.size ≤ 4194304 := by omega
  have hSn2 : B2.size + B.size ≤ 4194304 := by omega
  have hzw0 : w.heap.size ≤ w.heap.size := Nat.le_refl _
  have HS := fun v lo w o h => putTogether_any I X N B F C U S hSz v lo w o h ok hN
  obtain ⟨⟨⟨J, Y⟩, ⟨r1, r2, r3, r4, r5, r6⟩⟩, hR⟩ := hid_ex (if S.size > 64 then ((⟨I, X⟩, rp 12) : Bk × Rp) else keepK ⟨I, X⟩ ⟨N, F, S, C, U⟩)
  unfold PostD at HS ⊢
  rw [hR.out] at HS ⊢
  have HH : Hid _ := HS
  clear HS hR
  dsimp only [csRp] at HH ⊢
  have hzw0 : w.heap.size ≤ w.heap.size := Nat.le_refl _
  go_enter Tryz.func81, Tryz.ntmps81
  have mk1 : Hid True := trivial
  have mk2 : Hid True := trivial
  have mk3 : Hid True := trivial
  have mk4 : Hid True := trivial
  have mk5 : Hid True := trivial
  have mk6 : Hid True := trivial
  have mk7 : Hid True := trivial
  have mk8 : Hid True := trivial
  have mk9 : Hid True := trivial
  have mk10 : Hid True := trivial
  go_wp2_with (first | (clear mk1; refine wpList_box_v rfl 31 _ rfl [.slice A0 n0 k0, .int .i64 X] rfl ?_; intro b3 w1 hb3 hwb3 hB1 c3; have hz1 : w.heap.size ≤ w1.heap.size := hB1.size; replace o := o.grow hB1; have hB := hB1; have hzw := hB.size; obtain ⟨c30, c31⟩ := cells2 c3) | (clear mk2; refine wpList_box_v rfl 56 _ rfl [.string N, .int .i64 F, .string B, .int .i64 C, .int .i64 U] rfl ?_; intro b4 w2 hb4 hwb4 hB2 c4; have hz2 : w1.heap.size ≤ w2.heap.size := hB2.size; replace o := o.grow hB2; replace c3 := vblk_grow c3 hB2; replace hB := hB.trans (hB2.mono (by omega)); replace hzw := hB.size; clear c30 c31; obtain ⟨c30, c31⟩ := cells2 c3; obtain ⟨c40, c41, c42, c43, c44⟩ := cells5 c4) | (clear mk3; refine wpList_box_v rfl 37 _ rfl [.int .i64 V, .string N2, .int .i64 F2, .int .i64 U2, .string B2, .int .i64 C2, .int .i64 D2, .bool Q2] rfl ?_; intro b5 w3 hb5 hwb5 hB3 c5; have hz3 : w2.heap.size ≤ w3.heap.size := hB3.size; replace o := o.grow hB3; replace c3 := vblk_grow c3 hB3; replace c4 := vblk_grow c4 hB3; replace hB := hB.trans (hB3.mono (by omega)); replace hzw := hB.size; clear c30 c31; obtain ⟨c30, c31⟩ := cells2 c3; clear c40 c41 c42 c43 c44; obtain ⟨c40, c41, c42, c43, c44⟩ := cells5 c4; obtain ⟨c50, c51, c52, c53, c54, c55, c56, c57⟩ := cellsCm c5) | (clear mk4; refine wpList_alloc_v rfl 31 rfl _ zeroBk ?_; intro b6 w4 hb6 hwb6 hB4 c6; have hz4 : w3.heap.size ≤ w4.heap.size := hB4.size; replace o := o.grow hB4; replace c3 := vblk_grow c3 hB4; replace c4 := vblk_grow c4 hB4; replace c5 := vblk_grow c5 hB4; replace hB := hB.trans (hB4.mono (by omega)); replace hzw := hB.size; clear c30 c31; obtain ⟨c30, c31⟩ := cells2 c3; clear c40 c41 c42 c43 c44; obtain ⟨c40, c41, c42, c43, c44⟩ := cells5 c4; clear c50 c51 c52 c53 c54 c55 c56 c57; obtain ⟨c50, c51, c52, c53, c54, c55, c56, c57⟩ := cellsCm c5; obtain ⟨c60, c61⟩ := cells2 c6) | (clear mk5; refine wpList_alloc_v rfl 33 rfl _ zeroRp ?_; intro b7 w5 hb7 hwb7 hB5 c7; have hz5 : w4.heap.size ≤ w5.heap.size := hB5.size; replace o := o.grow hB5; replace c3 := vblk_grow c3 hB5; replace c4 := vblk_grow c4 hB5; replace c5 := vblk_grow c5 hB5; replace c6 := vblk_grow c6 hB5; replace hB := hB.trans (hB5.mono (by omega)); replace hzw := hB.size; clear c30 c31; obtain ⟨c30, c31⟩ := cells2 c3; clear c40 c41 c42 c43 c44; obtain ⟨c40, c41, c42, c43, c44⟩ := cells5 c4; clear c50 c51 c52 c53 c54 c55 c56 c57; obtain ⟨c50, c51, c52, c53, c54, c55, c56, c57⟩ := cellsCm c5; clear c60 c61; obtain ⟨c60, c61⟩ := cells2 c6; obtain ⟨c70, c71, c72, c73, c74, c75⟩ := cellsRp c7) | (clear mk6; refine wpList_load_r rfl 31 _ rfl b3 0 [.slice A0 n0 k0, .int .i64 X] rfl _ Tryz.underlying31 rfl sizeBk c3.range ?_) | (clear mk7; refine wpList_load_r rfl 56 _ rfl b4 0 [.string N, .int .i64 F, .string B, .int .i64 C, .int .i64 U] rfl _ Tryz.underlying56 rfl sizeIt c4.range ?_) | (clear mk8; go_at_call 111; refine (HH.out _ lo _ o.top (by omega)).mono ?_; rintro er w6 ⟨v1, rfl, o1, hB6⟩; have hz6 : w5.heap.size ≤ w6.heap.size := hB6.size; replace c3 := vblk_grow c3 hB6; replace c4 := vblk_grow c4 hB6; replace c5 := vblk_grow c5 hB6; replace c6 := vblk_grow c6 hB6; replace c7 := vblk_grow c7 hB6; replace hB := hB.trans (hB6.mono (by omega)); replace hzw := hB.size; clear c30 c31; obtain ⟨c30, c31⟩ := cells2 c3; clear c40 c41 c42 c43 c44; obtain ⟨c40, c41, c42, c43, c44⟩ := cells5 c4; clear c50 c51 c52 c53 c54 c55 c56 c57; obtain ⟨c50, c51, c52, c53, c54, c55, c56, c57⟩ := cellsCm c5; clear c60 c61; obtain ⟨c60, c61⟩ := cells2 c6; clear c70 c71 c72 c73 c74 c75; obtain ⟨c70, c71, c72, c73, c74, c75⟩ := cellsRp c7; obtain ⟨A1, n1, k1, rfl⟩ := o1.slice) | (clear mk9; refine wpList_store_v rfl 31 _ _ rfl b6 [.slice A1 n1 k1, .int .i64 Y] rfl rfl sizeBk c6 rfl (oneBk _ _ _ _) ?_; intro w7 hO7 c6x; clear c60 c61; have hz7 : w6.heap.size ≤ w7.heap.size := (Nat.le_of_eq hO7.1.symm); have hy7 : w7.heap.size ≤ w6.heap.size := (Nat.le_of_eq hO7.1); replace o1 := o1.only hO7 c6 (by decide); replace c3 := vblk_only c3 hO7 (by omega); replace c4 := vblk_only c4 hO7 (by omega); replace c5 := vblk_only c5 hO7 (by omega); replace c7 := vblk_only c7 hO7 (by omega); replace hB := hB.trans (hO7.2.2 _ (by omega)); replace hzw := hB.size; clear c30 c31; obtain ⟨c30, c31⟩ := cells2 c3; clear c40 c41 c42 c43 c44; obtain ⟨c40, c41, c42, c43, c44⟩ := cells5 c4; clear c50 c51 c52 c53 c54 c55 c56 c57; obtain ⟨c50, c51, c52, c53, c54, c55, c56, c57⟩ := cellsCm c5; clear c70 c71 c72 c73 c74 c75; obtain ⟨c70, c71, c72, c73, c74, c75⟩ := cellsRp c7; clear c6; have c6 := c6x; clear c6x; obtain ⟨c60, c61⟩ := cells2 c6) | (clear mk10; refine wpList_store_v rfl 33 _ _ rfl b7 [.int .i64 r1, .string r2, .int .i64 r3, .string r4, .int .i64 r5, .int .i64 r6] rfl rfl sizeRp c7 rfl (oneRp ⟨r1, r2, r3, r4, r5, r6⟩) ?_; intro w8 hO8 c7x; clear c70 c71 c72 c73 c74 c75; have hz8 : w7.heap.size ≤ w8.heap.size := (Nat.le_of_eq hO8.1.symm); have hy8 : w8.heap.size ≤ w7.heap.size := (Nat.le_of_eq hO8.1); replace o1 := o1.only hO8 c7 (by decide); replace c3 := vblk_only c3 hO8 (by omega); replace c4 := vblk_only c4 hO8 (by omega); replace c5 := vblk_only c5 hO8 (by omega); replace c6 := vblk_only c6 hO8 (by omega); replace hB := hB.trans (hO8.2.2 _ (by omega)); replace hzw := hB.size; clear c30 c31; obtain ⟨c30, c31⟩ := cells2 c3; clear c40 c41 c42 c43 c44; obtain ⟨c40, c41, c42, c43, c44⟩ := cells5 c4; clear c50 c51 c52 c53 c54 c55 c56 c57; obtain ⟨c50, c51, c52, c53, c54, c55, c56, c57⟩ := cellsCm c5; clear c60 c61; obtain ⟨c60, c61⟩ := cells2 c6; clear c7; have c7 := c7x; clear c7x; obtain ⟨c70, c71, c72, c73, c74, c75⟩ := cellsRp c7) | (fail))
  exact row_cc rfl rfl rfl c6 c7 Tryz.underlying31 Tryz.underlying33 sizeBk sizeRp rfl ⟨_, rfl, (o1.wide (Nat.le_refl _) (by omega)).top, hB⟩

set_option maxRecDepth 100000 in
set_option maxHeartbeats 2000000 in
theorem putAhead_any (I : List It) (X : Int) (N B : ByteArray) (F C U : Int) (V : Int) (N2 : ByteArray) (F2 U2 : Int) (B2 : ByteArray) (C2 D2 : Int) (Q2 : Bool) (v : Value) (lo : Nat) (w : World) (o : Own encIt w lo w.heap.size v I) (hlo : lo ≤ w.heap.size) (ok : StOk ⟨I, X⟩) (hN : N.size ≤ 1048576) (hBs : B.size ≤ 1048576) (hN2 : N2.size ≤ 1048576) (hB2 : B2.size ≤ 1048576) :
    Calls Tryz.prog 82 #[.agg #[v, .int .i64 X], .agg #[.string N, .int .i64 F, .string B, .int .i64 C, .int .i64 U], .agg #[.int .i64 V, .string N2, .int .i64 F2, .int .i64 U2, .string B2, .int .i64 C2, .int .i64 D2, .bool Q2]] w fun e w' => PostD (if (B2 ++ B).size > 64 then ((⟨I, X⟩, rp 12) : Bk × Rp) else keepK ⟨I, X⟩ ⟨N, F, B2 ++ B, C, U⟩).1 (if (B2 ++ B).size > 64 then ((⟨I, X⟩, rp 12) : Bk × Rp) else keepK ⟨I, X⟩ ⟨N, F, B2 ++ B, C, U⟩).2 lo w e w' := by
  obtain ⟨A0, n0, k0, rfl⟩ := o.slice
  obtain ⟨S, hSx⟩ := hid_ex (B2 ++ B)
  have hSz : S.size ≤ 4194304 := by rw [← hSx.out]; simp [ByteArray.size_append]; omega
  rw [hSx.out]
  replace hSx := hSx.out
  have hSn : B.size + B2.size ≤ 4194304 := by omega
  have hSn2 : B2.size + B.size ≤ 4194304 := by omega
  have hzw0 : w.heap.size ≤ w.heap.size := Nat.le_refl _
  have HS := fun v lo w o h => putTogether_any I X N B F C U S hSz v lo w o h ok hN
  obtain ⟨⟨⟨J, Y⟩, ⟨r1, r2, r3, r4, r5, r6⟩⟩, hR⟩ := hid_ex (if S.size > 64 then ((⟨I, X⟩, rp 12) : Bk × Rp) else keepK ⟨I, X⟩ ⟨N, F, S, C, U⟩)
  unfold PostD at HS ⊢
  rw [hR.out] at HS ⊢
  have HH : Hid _ := HS
  clear HS hR
  dsimp only [csRp] at HH ⊢
  have hzw0 : w.heap.size ≤ w.heap.size := Nat.le_refl _
  go_enter Tryz.func82, Tryz.ntmps82
  have mk1 : Hid True := trivial
  have mk2 : Hid True := trivial
  have mk3 : Hid True := trivial
  have mk4 : Hid True := trivial
  have mk5 : Hid True := trivial
  have mk6 : Hid True := trivial
  have mk7 : Hid True := trivial
  have mk8 : Hid True := trivial
  have mk9 : Hid True := trivial
  have mk10 : Hid True := trivial
  go_wp2_with (first | (clear mk1; refine wpList_box_v rfl 31 _ rfl [.slice A0 n0 k0, .int .i64 X] rfl ?_; intro b3 w1 hb3 hwb3 hB1 c3; have hz1 : w.heap.size ≤ w1.heap.size := hB1.size; replace o := o.grow hB1; have hB := hB1; have hzw := hB.size; obtain ⟨c30, c31⟩ := cells2 c3) | (clear mk2; refine wpList_box_v rfl 56 _ rfl [.string N, .int .i64 F, .string B, .int .i64 C, .int .i64 U] rfl ?_; intro b4 w2 hb4 hwb4 hB2 c4; have hz2 : w1.heap.size ≤ w2.heap.size := hB2.size; replace o := o.grow hB2; replace c3 := vblk_grow c3 hB2; replace hB := hB.trans (hB2.mono (by omega)); replace hzw := hB.size; clear c30 c31; obtain ⟨c30, c31⟩ := cells2 c3; obtain ⟨c40, c41, c42, c43, c44⟩ := cells5 c4) | (clear mk3; refine wpList_box_v rfl 37 _ rfl [.int .i64 V, .string N2, .int .i64 F2, .int .i64 U2, .string B2, .int .i64 C2, .int .i64 D2, .bool Q2] rfl ?_; intro b5 w3 hb5 hwb5 hB3 c5; have hz3 : w2.heap.size ≤ w3.heap.size := hB3.size; replace o := o.grow hB3; replace c3 := vblk_grow c3 hB3; replace c4 := vblk_grow c4 hB3; replace hB := hB.trans (hB3.mono (by omega)); replace hzw := hB.size; clear c30 c31; obtain ⟨c30, c31⟩ := cells2 c3; clear c40 c41 c42 c43 c44; obtain ⟨c40, c41, c42, c43, c44⟩ := cells5 c4; obtain ⟨c50, c51, c52, c53, c54, c55, c56, c57⟩ := cellsCm c5) | (clear mk4; refine wpList_alloc_v rfl 31 rfl _ zeroBk ?_; intro b6 w4 hb6 hwb6 hB4 c6; have hz4 : w3.heap.size ≤ w4.heap.size := hB4.size; replace o := o.grow hB4; replace c3 := vblk_grow c3 hB4; replace c4 := vblk_grow c4 hB4; replace c5 := vblk_grow c5 hB4; replace hB := hB.trans (hB4.mono (by omega)); replace hzw := hB.size; clear c30 c31; obtain ⟨c30, c31⟩ := cells2 c3; clear c40 c41 c42 c43 c44; obtain ⟨c40, c41, c42, c43, c44⟩ := cells5 c4; clear c50 c51 c52 c53 c54 c55 c56 c57; obtain ⟨c50, c51, c52, c53, c54, c55, c56, c57⟩ := cellsCm c5; obtain ⟨c60, c61⟩ := cells2 c6) | (clear mk5; refine wpList_alloc_v rfl 33 rfl _ zeroRp ?_; intro b7 w5 hb7 hwb7 hB5 c7; have hz5 : w4.heap.size ≤ w5.heap.size := hB5.size; replace o := o.grow hB5; replace c3 := vblk_grow c3 hB5; replace c4 := vblk_grow c4 hB5; replace c5 := vblk_grow c5 hB5; replace c6 := vblk_grow c6 hB5; replace hB := hB.trans (hB5.mono (by omega)); replace hzw := hB.size; clear c30 c31; obtain ⟨c30, c31⟩ := cells2 c3; clear c40 c41 c42 c43 c44; obtain ⟨c40, c41, c42, c43, c44⟩ := cells5 c4; clear c50 c51 c52 c53 c54 c55 c56 c57; obtain ⟨c50, c51, c52, c53, c54, c55, c56, c57⟩ := cellsCm c5; clear c60 c61; obtain ⟨c60, c61⟩ := cells2 c6; obtain ⟨c70, c71, c72, c73, c74, c75⟩ := cellsRp c7) | (clear mk6; refine wpList_load_r rfl 31 _ rfl b3 0 [.slice A0 n0 k0, .int .i64 X] rfl _ Tryz.underlying31 rfl sizeBk c3.range ?_) | (clear mk7; refine wpList_load_r rfl 56 _ rfl b4 0 [.string N, .int .i64 F, .string B, .int .i64 C, .int .i64 U] rfl _ Tryz.underlying56 rfl sizeIt c4.range ?_) | (clear mk8; go_at_call 111; refine (HH.out _ lo _ o.top (by omega)).mono ?_; rintro er w6 ⟨v1, rfl, o1, hB6⟩; have hz6 : w5.heap.size ≤ w6.heap.size := hB6.size; replace c3 := vblk_grow c3 hB6; replace c4 := vblk_grow c4 hB6; replace c5 := vblk_grow c5 hB6; replace c6 := vblk_grow c6 hB6; replace c7 := vblk_grow c7 hB6; replace hB := hB.trans (hB6.mono (by omega)); replace hzw := hB.size; clear c30 c31; obtain ⟨c30, c31⟩ := cells2 c3; clear c40 c41 c42 c43 c44; obtain ⟨c40, c41, c42, c43, c44⟩ := cells5 c4; clear c50 c51 c52 c53 c54 c55 c56 c57; obtain ⟨c50, c51, c52, c53, c54, c55, c56, c57⟩ := cellsCm c5; clear c60 c61; obtain ⟨c60, c61⟩ := cells2 c6; clear c70 c71 c72 c73 c74 c75; obtain ⟨c70, c71, c72, c73, c74, c75⟩ := cellsRp c7; obtain ⟨A1, n1, k1, rfl⟩ := o1.slice) | (clear mk9; refine wpList_store_v rfl 31 _ _ rfl b6 [.slice A1 n1 k1, .int .i64 Y] rfl rfl sizeBk c6 rfl (oneBk _ _ _ _) ?_; intro w7 hO7 c6x; clear c60 c61; have hz7 : w6.heap.size ≤ w7.heap.size := (Nat.le_of_eq hO7.1.symm); have hy7 : w7.heap.size ≤ w6.heap.size := (Nat.le_of_eq hO7.1); replace o1 := o1.only hO7 c6 (by decide); replace c3 := vblk_only c3 hO7 (by omega); replace c4 := vblk_only c4 hO7 (by omega); replace c5 := vblk_only c5 hO7 (by omega); replace c7 := vblk_only c7 hO7 (by omega); replace hB := hB.trans (hO7.2.2 _ (by omega)); replace hzw := hB.size; clear c30 c31; obtain ⟨c30, c31⟩ := cells2 c3; clear c40 c41 c42 c43 c44; obtain ⟨c40, c41, c42, c43, c44⟩ := cells5 c4; clear c50 c51 c52 c53 c54 c55 c56 c57; obtain ⟨c50, c51, c52, c53, c54, c55, c56, c57⟩ := cellsCm c5; clear c70 c71 c72 c73 c74 c75; obtain ⟨c70, c71, c72, c73, c74, c75⟩ := cellsRp c7; clear c6; have c6 := c6x; clear c6x; obtain ⟨c60, c61⟩ := cells2 c6) | (clear mk10; refine wpList_store_v rfl 33 _ _ rfl b7 [.int .i64 r1, .string r2, .int .i64 r3, .string r4, .int .i64 r5, .int .i64 r6] rfl rfl sizeRp c7 rfl (oneRp ⟨r1, r2, r3, r4, r5, r6⟩) ?_; intro w8 hO8 c7x; clear c70 c71 c72 c73 c74 c75; have hz8 : w7.heap.size ≤ w8.heap.size := (Nat.le_of_eq hO8.1.symm); have hy8 : w8.heap.size ≤ w7.heap.size := (Nat.le_of_eq hO8.1); replace o1 := o1.only hO8 c7 (by decide); replace c3 := vblk_only c3 hO8 (by omega); replace c4 := vblk_only c4 hO8 (by omega); replace c5 := vblk_only c5 hO8 (by omega); replace c6 := vblk_only c6 hO8 (by omega); replace hB := hB.trans (hO8.2.2 _ (by omega)); replace hzw := hB.size; clear c30 c31; obtain ⟨c30, c31⟩ := cells2 c3; clear c40 c41 c42 c43 c44; obtain ⟨c40, c41, c42, c43, c44⟩ := cells5 c4; clear c50 c51 c52 c53 c54 c55 c56 c57; obtain ⟨c50, c51, c52, c53, c54, c55, c56, c57⟩ := cellsCm c5; clear c60 c61; obtain ⟨c60, c61⟩ := cells2 c6; clear c7; have c7 := c7x; clear c7x; obtain ⟨c70, c71, c72, c73, c74, c75⟩ := cellsRp c7) | (fail))
  exact row_cc rfl rfl rfl c6 c7 Tryz.underlying31 Tryz.underlying33 sizeBk sizeRp rfl ⟨_, rfl, (o1.wide (Nat.le_refl _) (by omega)).top, hB⟩

end Go.Proofs.YtjkkjpgebcnhgaaGreatDoor.rg
/- Contracts: the program's deeds that count. -/
namespace Go.Proofs.YtjkkjpgebcnhgaaGreatDoor.rg
open Go.ChangeShapes Go.WideShapes Go.ChangeAt Go.RowKit
open Go.Deep Go.Joins
open Go.Proofs.YtjkkjpgebcnhgaaGreatDoor.ce Go.Proofs.YtjkkjpgebcnhgaaGreatDoor.ro Go.Proofs.YtjkkjpgebcnhgaaGreatDoor.cm
set_option linter.unusedVariables false

theorem up1_any (b : Nat) (V : Int) (N2 : ByteArray) (F2 U2 : Int) (B2 : ByteArray) (C2 D2 : Int) (Q2 : Bool) (n : Nat) (hn : n ≤ 999999999) (hD : 0 ≤ D2 ∧ D2 ≤ 1000000) (w : World) (K : VBlk w b 37 [.int .i64 V, .string N2, .int .i64 F2, .int .i64 U2, .string B2, .int .i64 C2, .int .i64 D2, .bool Q2]) (h9 : V = 9) :
    Calls Tryz.prog 113 #[.int .i64 n, .pointer (some ⟨b, 0, none⟩)] w fun e w' => e = .returned (.int .i64 (upN ⟨V, N2, F2, U2, B2, C2, D2, Q2⟩ n : Nat)) ∧ w' = w := by
  obtain ⟨c0, c1, c2, c3, c4, c5, c6, c7⟩ := cellsCm K
  have hw : IntKind.i64.wrap ((n : Int) + D2) = (n : Int) + D2 := by rw [IntKind.wrap_i64]; omega
  have hq : ((n : Int) + D2).tmod 1000000000 = ((upN ⟨V, N2, F2, U2, B2, C2, D2, Q2⟩ n : Nat) : Int) := by
    unfold upN
    rw [if_pos h9, Int.tmod_eq_emod_of_nonneg (by omega)]
    simp only [Int.natCast_emod, Int.natCast_add]
    rw [Int.toNat_of_nonneg hD.1]
    rfl
  have hm0 := up_lt (c := ⟨V, N2, F2, U2, B2, C2, D2, Q2⟩) hn
  obtain ⟨m, hm⟩ := hid_ex (upN ⟨V, N2, F2, U2, B2, C2, D2, Q2⟩ n)
  rw [hm.out] at hq hm0 ⊢
  clear hm h9
  go_enter Tryz.func113, Tryz.ntmps113
  go_wp2
  go_ret
  exact ⟨rfl, rfl⟩
theorem down1_any (b : Nat) (V : Int) (N2 : ByteArray) (F2 U2 : Int) (B2 : ByteArray) (C2 D2 : Int) (Q2 : Bool) (n : Nat) (hn : n ≤ 999999999) (hD : 0 ≤ D2 ∧ D2 ≤ 1000000) (w : World) (K : VBlk w b 37 [.int .i64 V, .string N2, .int .i64 F2, .int .i64 U2, .string B2, .int .i64 C2, .int .i64 D2, .bool Q2]) (h9 : V ≠ 9) :
    Calls Tryz.prog 114 #[.int .i64 n, .pointer (some ⟨b, 0, none⟩)] w fun e w' => e = .returned (.int .i64 (upN ⟨V, N2, F2, U2, B2, C2, D2, Q2⟩ n : Nat)) ∧ w' = w := by
  obtain ⟨c0, c1, c2, c3, c4, c5, c6, c7⟩ := cellsCm K
  have hw : IntKind.i64.wrap ((n : Int) - D2) = (n : Int) - D2 := by rw [IntKind.wrap_i64]; omega
  have hq : max ((n : Int) - D2) 0 = ((upN ⟨V, N2, F2, U2, B2, C2, D2, Q2⟩ n : Nat) : Int) := by
    unfold upN
    rw [if_neg h9]
    dsimp only
    omega
  obtain ⟨m, hm⟩ := hid_ex (upN ⟨V, N2, F2, U2, B2, C2, D2, Q2⟩ n)
  rw [hm.out] at hq ⊢
  clear hm h9
  go_enter Tryz.func114, Tryz.ntmps114
  go_wp2
  go_ret
  exact ⟨rfl, rfl⟩
set_option maxRecDepth 100000 in
set_option maxHeartbeats 2000000 in
theorem count_no (I : List It) (X : Int) (N B : ByteArray) (F C U : Int) (V : Int) (N2 : ByteArray) (F2 U2 : Int) (B2 : ByteArray) (C2 D2 : Int) (Q2 : Bool) (bc : Nat) (v : Value) (lo : Nat) (w : World) (o : Own encIt w lo w.heap.size v I) (hlo : lo ≤ w.heap.size) (ok : StOk ⟨I, X⟩) (hN : N.size ≤ 1048576) (hBs : B.size ≤ 1048576) (kc : VBlk w bc 37 [.int .i64 V, .string N2, .int .i64 F2, .int .i64 U2, .string B2, .int .i64 C2, .int .i64 D2, .bool Q2]) (en : EnvD w) (G : Nat) (hno : numB B = none) :
    Calls Tryz.prog 112 #[.agg #[v, .int .i64 X], .agg #[.string N, .int .i64 F, .string B, .int .i64 C, .int .i64 U], .func (.func G) #[] #[.pointer (some ⟨bc, 0, none⟩)]] w fun e w' => PostD ⟨I, X⟩ (rp 11) lo w e w' := by
  have hcf : True := trivial
  obtain ⟨⟨a, b⟩, hr⟩ := hid_ex (rdF (bs B))
  have hab : b = false ∨ a < 0 := by
    cases b with
    | false => exact .inl rfl
    | true =>
      refine .inr ?_
      by_cases h0 : 0 ≤ a
      · obtain ⟨n, -, hn⟩ := num_in hr.out h0
        rw [hno] at hn; cases hn
      · omega
  clear hno
  cases b with
  | false =>
    clear hab
    have h0 : True := trivial -- false
    obtain ⟨A0, n0, k0, rfl⟩ := o.slice
    have EN : Hid (EnvD w) := en
    clear en
    have hbc := kc.lt
    have hcx := hcf
    have hzw0 : w.heap.size ≤ w.heap.size := Nat.le_refl _
    go_enter Tryz.func112, Tryz.ntmps112
    have mk1 : Hid True := trivial
    have mk2 : Hid True := trivial
    have mk3 : Hid True := trivial
    have mk4 : Hid True := trivial
    have mk5 : Hid True := trivial
    have mk6 : Hid True := trivial
    have mk7 : Hid True := trivial
    have mk8 : Hid True := trivial
    go_wp2_with (first | (clear mk1; refine wpList_box_v rfl 31 _ rfl [.slice A0 n0 k0, .int .i64 X] rfl ?_; intro b3 w1 hb3 hwb3 hB1 c3; have hz1 : w.heap.size ≤ w1.heap.size := hB1.size; replace o := o.grow hB1; replace kc := vblk_grow kc hB1; have hB := hB1; have hzw := hB.size; obtain ⟨c30, c31⟩ := cells2 c3) | (clear mk2; refine wpList_box_v rfl 56 _ rfl [.string N, .int .i64 F, .string B, .int .i64 C, .int .i64 U] rfl ?_; intro b4 w2 hb4 hwb4 hB2 c4; have hz2 : w1.heap.size ≤ w2.heap.size := hB2.size; replace o := o.grow hB2; replace kc := vblk_grow kc hB2; replace c3 := vblk_grow c3 hB2; replace hB := hB.trans (hB2.mono (by omega)); replace hzw := hB.size; clear c30 c31; obtain ⟨c30, c31⟩ := cells2 c3; obtain ⟨c40, c41, c42, c43, c44⟩ := cells5 c4) | (clear mk3; refine wpList_alloc_v rfl 31 rfl _ zeroBk ?_; intro b6 w3 hb6 hwb6 hB3 c6; have hz3 : w2.heap.size ≤ w3.heap.size := hB3.size; replace o := o.grow hB3; replace kc := vblk_grow kc hB3; replace c3 := vblk_grow c3 hB3; replace c4 := vblk_grow c4 hB3; replace hB := hB.trans (hB3.mono (by omega)); replace hzw := hB.size; clear c30 c31; obtain ⟨c30, c31⟩ := cells2 c3; clear c40 c41 c42 c43 c44; obtain ⟨c40, c41, c42, c43, c44⟩ := cells5 c4; obtain ⟨c60, c61⟩ := cells2 c6) | (clear mk4; refine wpList_alloc_v rfl 33 rfl _ zeroRp ?_; intro b7 w4 hb7 hwb7 hB4 c7; have hz4 : w3.heap.size ≤ w4.heap.size := hB4.size; replace o := o.grow hB4; replace kc := vblk_grow kc hB4; replace c3 := vblk_grow c3 hB4; replace c4 := vblk_grow c4 hB4; replace c6 := vblk_grow c6 hB4; replace hB := hB.trans (hB4.mono (by omega)); replace hzw := hB.size; clear c30 c31; obtain ⟨c30, c31⟩ := cells2 c3; clear c40 c41 c42 c43 c44; obtain ⟨c40, c41, c42, c43, c44⟩ := cells5 c4; clear c60 c61; obtain ⟨c60, c61⟩ := cells2 c6; obtain ⟨c70, c71, c72, c73, c74, c75⟩ := cellsRp c7) | (clear mk5; go_at_call 124; refine (numberFrom_d B hBs _ (EN.out.grow hB) a false hr).mono ?_; rintro er w5 ⟨rfl, hB5⟩; have hz5 : w4.heap.size ≤ w5.heap.size := hB5.size; replace o := o.grow hB5; replace kc := vblk_grow kc hB5; replace c3 := vblk_grow c3 hB5; replace c4 := vblk_grow c4 hB5; replace c6 := vblk_grow c6 hB5; replace c7 := vblk_grow c7 hB5; replace hB := hB.trans (hB5.mono (by omega)); replace hzw := hB.size; clear c30 c31; obtain ⟨c30, c31⟩ := cells2 c3; clear c40 c41 c42 c43 c44; obtain ⟨c40, c41, c42, c43, c44⟩ := cells5 c4; clear c60 c61; obtain ⟨c60, c61⟩ := cells2 c6; clear c70 c71 c72 c73 c74 c75; obtain ⟨c70, c71, c72, c73, c74, c75⟩ := cellsRp c7) | (clear mk6; refine wpList_load_r rfl 31 _ rfl b3 0 [.slice A0 n0 k0, .int .i64 X] rfl _ Tryz.underlying31 rfl sizeBk c3.range ?_) | (clear mk7; refine wpList_store_v rfl 31 _ _ rfl b6 [.slice A0 n0 k0, .int .i64 X] rfl rfl sizeBk c6 rfl (oneBk _ _ _ _) ?_; intro w6 hO6 c6x; clear c60 c61; have hz6 : w5.heap.size ≤ w6.heap.size := (Nat.le_of_eq hO6.1.symm); have hy6 : w6.heap.size ≤ w5.heap.size := (Nat.le_of_eq hO6.1); replace o := o.only hO6 c6 (by decide); replace kc := vblk_only kc hO6 (by omega); replace c3 := vblk_only c3 hO6 (by omega); replace c4 := vblk_only c4 hO6 (by omega); replace c7 := vblk_only c7 hO6 (by omega); replace hB := hB.trans (hO6.2.2 _ (by omega)); replace hzw := hB.size; clear c30 c31; obtain ⟨c30, c31⟩ := cells2 c3; clear c40 c41 c42 c43 c44; obtain ⟨c40, c41, c42, c43, c44⟩ := cells5 c4; clear c70 c71 c72 c73 c74 c75; obtain ⟨c70, c71, c72, c73, c74, c75⟩ := cellsRp c7; clear c6; have c6 := c6x; clear c6x; obtain ⟨c60, c61⟩ := cells2 c6) | (clear mk8; refine wpList_store_v rfl 33 _ _ rfl b7 [.int .i64 11, .string ⟨#[]⟩, .int .i64 0, .string ⟨#[]⟩, .int .i64 0, .int .i64 0] rfl rfl sizeRp c7 rfl (oneRp (rp 11)) ?_; intro w7 hO7 c7x; clear c70 c71 c72 c73 c74 c75; have hz7 : w6.heap.size ≤ w7.heap.size := (Nat.le_of_eq hO7.1.symm); have hy7 : w7.heap.size ≤ w6.heap.size := (Nat.le_of_eq hO7.1); replace o := o.only hO7 c7 (by decide); replace kc := vblk_only kc hO7 (by omega); replace c3 := vblk_only c3 hO7 (by omega); replace c4 := vblk_only c4 hO7 (by omega); replace c6 := vblk_only c6 hO7 (by omega); replace hB := hB.trans (hO7.2.2 _ (by omega)); replace hzw := hB.size; clear c30 c31; obtain ⟨c30, c31⟩ := cells2 c3; clear c40 c41 c42 c43 c44; obtain ⟨c40, c41, c42, c43, c44⟩ := cells5 c4; clear c60 c61; obtain ⟨c60, c61⟩ := cells2 c6; clear c7; have c7 := c7x; clear c7x; obtain ⟨c70, c71, c72, c73, c74, c75⟩ := cellsRp c7) | (fail))
    exact row_cc rfl rfl rfl c6 c7 Tryz.underlying31 Tryz.underlying33 sizeBk sizeRp rfl ⟨_, rfl, (o.wide (Nat.le_refl _) (by omega)).top, hB⟩
  | true =>
    have h0 : a < 0 := by simpa using hab
    have h1 : decide (a < 0) = true := decide_eq_true h0
    clear hab h0
    obtain ⟨A0, n0, k0, rfl⟩ := o.slice
    have EN : Hid (EnvD w) := en
    clear en
    have hbc := kc.lt
    have hcx := hcf
    have hzw0 : w.heap.size ≤ w.heap.size := Nat.le_refl _
    go_enter Tryz.func112, Tryz.ntmps112
    have mk1 : Hid True := trivial
    have mk2 : Hid True := trivial
    have mk3 : Hid True := trivial
    have mk4 : Hid True := trivial
    have mk5 : Hid True := trivial
    have mk6 : Hid True := trivial
    have mk7 : Hid True := trivial
    have mk8 : Hid True := trivial
    go_wp2_with (first | (clear mk1; refine wpList_box_v rfl 31 _ rfl [.slice A0 n0 k0, .int .i64 X] rfl ?_; intro b3 w1 hb3 hwb3 hB1 c3; have hz1 : w.heap.size ≤ w1.heap.size := hB1.size; replace o := o.grow hB1; replace kc := vblk_grow kc hB1; have hB := hB1; have hzw := hB.size; obtain ⟨c30, c31⟩ := cells2 c3) | (clear mk2; refine wpList_box_v rfl 56 _ rfl [.string N, .int .i64 F, .string B, .int .i64 C, .int .i64 U] rfl ?_; intro b4 w2 hb4 hwb4 hB2 c4; have hz2 : w1.heap.size ≤ w2.heap.size := hB2.size; replace o := o.grow hB2; replace kc := vblk_grow kc hB2; replace c3 := vblk_grow c3 hB2; replace hB := hB.trans (hB2.mono (by omega)); replace hzw := hB.size; clear c30 c31; obtain ⟨c30, c31⟩ := cells2 c3; obtain ⟨c40, c41, c42, c43, c44⟩ := cells5 c4) | (clear mk3; refine wpList_alloc_v rfl 31 rfl _ zeroBk ?_; intro b6 w3 hb6 hwb6 hB3 c6; have hz3 : w2.heap.size ≤ w3.heap.size := hB3.size; replace o := o.grow hB3; replace kc := vblk_grow kc hB3; replace c3 := vblk_grow c3 hB3; replace c4 := vblk_grow c4 hB3; replace hB := hB.trans (hB3.mono (by omega)); replace hzw := hB.size; clear c30 c31; obtain ⟨c30, c31⟩ := cells2 c3; clear c40 c41 c42 c43 c44; obtain ⟨c40, c41, c42, c43, c44⟩ := cells5 c4; obtain ⟨c60, c61⟩ := cells2 c6) | (clear mk4; refine wpList_alloc_v rfl 33 rfl _ zeroRp ?_; intro b7 w4 hb7 hwb7 hB4 c7; have hz4 : w3.heap.size ≤ w4.heap.size := hB4.size; replace o := o.grow hB4; replace kc := vblk_grow kc hB4; replace c3 := vblk_grow c3 hB4; replace c4 := vblk_grow c4 hB4; replace c6 := vblk_grow c6 hB4; replace hB := hB.trans (hB4.mono (by omega)); replace hzw := hB.size; clear c30 c31; obtain ⟨c30, c31⟩ := cells2 c3; clear c40 c41 c42 c43 c44; obtain ⟨c40, c41, c42, c43, c44⟩ := cells5 c4; clear c60 c61; obtain ⟨c60, c61⟩ := cells2 c6; obtain ⟨c70, c71, c72, c73, c74, c75⟩ := cellsRp c7) | (clear mk5; go_at_call 124; refine (numberFrom_d B hBs _ (EN.out.grow hB) a true hr).mono ?_; rintro er w5 ⟨rfl, hB5⟩; have hz5 : w4.heap.size ≤ w5.heap.size := hB5.size; replace o := o.grow hB5; replace kc := vblk_grow kc hB5; replace c3 := vblk_grow c3 hB5; replace c4 := vblk_grow c4 hB5; replace c6 := vblk_grow c6 hB5; replace c7 := vblk_grow c7 hB5; replace hB := hB.trans (hB5.mono (by omega)); replace hzw := hB.size; clear c30 c31; obtain ⟨c30, c31⟩ := cells2 c3; clear c40 c41 c42 c43 c44; obtain ⟨c40, c41, c42, c43, c44⟩ := cells5 c4; clear c60 c61; obtain ⟨c60, c61⟩ := cells2 c6; clear c70 c71 c72 c73 c74 c75; obtain ⟨c70, c71, c72, c73, c74, c75⟩ := cellsRp c7) | (clear mk6; refine wpList_load_r rfl 31 _ rfl b3 0 [.slice A0 n0 k0, .int .i64 X] rfl _ Tryz.underlying31 rfl sizeBk c3.range ?_) | (clear mk7; refine wpList_store_v rfl 31 _ _ rfl b6 [.slice A0 n0 k0, .int .i64 X] rfl rfl sizeBk c6 rfl (oneBk _ _ _ _) ?_; intro w6 hO6 c6x; clear c60 c61; have hz6 : w5.heap.size ≤ w6.heap.size := (Nat.le_of_eq hO6.1.symm); have hy6 : w6.heap.size ≤ w5.heap.size := (Nat.le_of_eq hO6.1); replace o := o.only hO6 c6 (by decide); replace kc := vblk_only kc hO6 (by omega); replace c3 := vblk_only c3 hO6 (by omega); replace c4 := vblk_only c4 hO6 (by omega); replace c7 := vblk_only c7 hO6 (by omega); replace hB := hB.trans (hO6.2.2 _ (by omega)); replace hzw := hB.size; clear c30 c31; obtain ⟨c30, c31⟩ := cells2 c3; clear c40 c41 c42 c43 c44; obtain ⟨c40, c41, c42, c43, c44⟩ := cells5 c4; clear c70 c71 c72 c73 c74 c75; obtain ⟨c70, c71, c72, c73, c74, c75⟩ := cellsRp c7; clear c6; have c6 := c6x; clear c6x; obtain ⟨c60, c61⟩ := cells2 c6) | (clear mk8; refine wpList_store_v rfl 33 _ _ rfl b7 [.int .i64 11, .string ⟨#[]⟩, .int .i64 0, .string ⟨#[]⟩, .int .i64 0, .int .i64 0] rfl rfl sizeRp c7 rfl (oneRp (rp 11)) ?_; intro w7 hO7 c7x; clear c70 c71 c72 c73 c74 c75; have hz7 : w6.heap.size ≤ w7.heap.size := (Nat.le_of_eq hO7.1.symm); have hy7 : w7.heap.size ≤ w6.heap.size := (Nat.le_of_eq hO7.1); replace o := o.only hO7 c7 (by decide); replace kc := vblk_only kc hO7 (by omega); replace c3 := vblk_only c3 hO7 (by omega); replace c4 := vblk_only c4 hO7 (by omega); replace c6 := vblk_only c6 hO7 (by omega); replace hB := hB.trans (hO7.2.2 _ (by omega)); replace hzw := hB.size; clear c30 c31; obtain ⟨c30, c31⟩ := cells2 c3; clear c40 c41 c42 c43 c44; obtain ⟨c40, c41, c42, c43, c44⟩ := cells5 c4; clear c60 c61; obtain ⟨c60, c61⟩ := cells2 c6; clear c7; have c7 := c7x; clear c7x; obtain ⟨c70, c71, c72, c73, c74, c75⟩ := cellsRp c7) | (fail))
    exact row_cc rfl rfl rfl c6 c7 Tryz.underlying31 Tryz.underlying33 sizeBk sizeRp rfl ⟨_, rfl, (o.wide (Nat.le_refl _) (by omega)).top, hB⟩
set_option maxRecDepth 100000 in
set_option maxHeartbeats 2000000 in
theorem count_yes (I : List It) (X : Int) (N B : ByteArray) (F C U : Int) (V : Int) (N2 : ByteArray) (F2 U2 : Int) (B2 : ByteArray) (C2 D2 : Int) (Q2 : Bool) (bc : Nat) (v : Value) (lo : Nat) (w : World) (o : Own encIt w lo w.heap.size v I) (hlo : lo ≤ w.heap.size) (ok : StOk ⟨I, X⟩) (hN : N.size ≤ 1048576) (hBs : B.size ≤ 1048576) (kc : VBlk w bc 37 [.int .i64 V, .string N2, .int .i64 F2, .int .i64 U2, .string B2, .int .i64 C2, .int .i64 D2, .bool Q2]) (en : EnvD w) (G : Nat) (n m : Nat) (hno : numB B = some n) (hm : upN ⟨V, N2, F2, U2, B2, C2, D2, Q2⟩ n = m) (hst : stampOk ⟨I, X⟩ (withB ⟨N, F, B, C, U⟩ (digs m)) = true)
    (hcf : ∀ args w, (callFunc G args).run Tryz.prog w = .ok (.enter G args) w) (hF : ∀ w', VBlk w' bc 37 [.int .i64 V, .string N2, .int .i64 F2, .int .i64 U2, .string B2, .int .i64 C2, .int .i64 D2, .bool Q2] → Calls Tryz.prog G #[.int .i64 n, .pointer (some ⟨bc, 0, none⟩)] w' fun e w'' => e = .returned (.int .i64 (m : Nat)) ∧ w'' = w') :
    Calls Tryz.prog 112 #[.agg #[v, .int .i64 X], .agg #[.string N, .int .i64 F, .string B, .int .i64 C, .int .i64 U], .func (.func G) #[] #[.pointer (some ⟨bc, 0, none⟩)]] w fun e w' => PostD (stampR ⟨I, X⟩ (withB ⟨N, F, B, C, U⟩ (digs m))) ⟨6, emp, 0, emp, 0, (m : Int)⟩ lo w e w' := by
  have hn9 := (numB_some hno).2.2
  have hm9 := up_lt (c := ⟨V, N2, F2, U2, B2, C2, D2, Q2⟩) hn9
  rw [hm] at hm9
  have hr : Hid (rdF (bs B) = ((n : Int), true)) := by
    obtain ⟨h1, h2, -⟩ := numB_some hno
    unfold Hid
    rw [rdF_yes h1, h2]
  have hn0 : decide ((n : Int) < 0) = false := decide_eq_false (by omega)
  clear hno hm
  have HF : Hid _ := hF
  clear hF
  obtain ⟨S, hS⟩ := hid_ex (tx (digs m))
  have hSs : S.size ≤ 1048576 := by rw [← hS.out, tx_size]; have := digs_len 8 m (by omega); omega
  have hwb : withB ⟨N, F, B, C, U⟩ (digs m) = ⟨N, F, S, C, U⟩ := by unfold withB; rw [hS.out]
  rw [hwb] at hst ⊢
  have hk : Hid (keepK ⟨I, X⟩ ⟨N, F, S, C, U⟩ = (stampR ⟨I, X⟩ ⟨N, F, S, C, U⟩, rp 1)) := by unfold Hid keepK; rw [hst, if_pos rfl]
  have HS := fun v lo w o h => stamp_any I X N S F C U v lo w o h ok hN hSs
  rw [hk.out] at HS
  obtain ⟨⟨J, Y⟩, hJ⟩ := hid_ex (stampR ⟨I, X⟩ ⟨N, F, S, C, U⟩)
  unfold PostD at HS ⊢
  rw [hJ.out] at HS ⊢
  have HH : Hid _ := HS
  clear HS hwb hst hk hJ
  have hq1 : ((1 : Int) != 1) = false := by decide
  dsimp only at HH ⊢
  obtain ⟨A0, n0, k0, rfl⟩ := o.slice
  have EN : Hid (EnvD w) := en
  clear en
  have hbc := kc.lt
  have hcx := hcf
  have hzw0 : w.heap.size ≤ w.heap.size := Nat.le_refl _
  go_enter Tryz.func112, Tryz.ntmps112
  have mk1 : Hid True := trivial
  have mk2 : Hid True := trivial
  have mk3 : Hid True := trivial
  have mk4 : Hid True := trivial
  have mk5 : Hid True := trivial
  have mk6 : Hid True := trivial
  have mk7 : Hid True := trivial
  have mk8 : Hid True := trivial
  have mk9 : Hid True := trivial
  have mk10 : Hid True := trivial
  have mk11 : Hid True := trivial
  have mk12 : Hid True := trivial
  have mk13 : Hid True := trivial
  have mk14 : Hid True := trivial
  have mk15 : Hid True := trivial
  have mk16 : Hid True := trivial
  have mk17 : Hid True := trivial
  go_wp2_with (first | (clear mk1; refine wpList_box_v rfl 31 _ rfl [.slice A0 n0 k0, .int .i64 X] rfl ?_; intro b3 w1 hb3 hwb3 hB1 c3; have hz1 : w.heap.size ≤ w1.heap.size := hB1.size; replace o := o.grow hB1; replace kc := vblk_grow kc hB1; have hB := hB1; have hzw := hB.size; obtain ⟨c30, c31⟩ := cells2 c3) | (clear mk2; refine wpList_box_v rfl 56 _ rfl [.string N, .int .i64 F, .string B, .int .i64 C, .int .i64 U] rfl ?_; intro b4 w2 hb4 hwb4 hB2 c4; have hz2 : w1.heap.size ≤ w2.heap.size := hB2.size; replace o := o.grow hB2; replace kc := vblk_grow kc hB2; replace c3 := vblk_grow c3 hB2; replace hB := hB.trans (hB2.mono (by omega)); replace hzw := hB.size; clear c30 c31; obtain ⟨c30, c31⟩ := cells2 c3; obtain ⟨c40, c41, c42, c43, c44⟩ := cells5 c4) | (clear mk3; refine wpList_alloc_v rfl 31 rfl _ zeroBk ?_; intro b6 w3 hb6 hwb6 hB3 c6; have hz3 : w2.heap.size ≤ w3.heap.size := hB3.size; replace o := o.grow hB3; replace kc := vblk_grow kc hB3; replace c3 := vblk_grow c3 hB3; replace c4 := vblk_grow c4 hB3; replace hB := hB.trans (hB3.mono (by omega)); replace hzw := hB.size; clear c30 c31; obtain ⟨c30, c31⟩ := cells2 c3; clear c40 c41 c42 c43 c44; obtain ⟨c40, c41, c42, c43, c44⟩ := cells5 c4; obtain ⟨c60, c61⟩ := cells2 c6) | (clear mk4; refine wpList_alloc_v rfl 33 rfl _ zeroRp ?_; intro b7 w4 hb7 hwb7 hB4 c7; have hz4 : w3.heap.size ≤ w4.heap.size := hB4.size; replace o := o.grow hB4; replace kc := vblk_grow kc hB4; replace c3 := vblk_grow c3 hB4; replace c4 := vblk_grow c4 hB4; replace c6 := vblk_grow c6 hB4; replace hB := hB.trans (hB4.mono (by omega)); replace hzw := hB.size; clear c30 c31; obtain ⟨c30, c31⟩ := cells2 c3; clear c40 c41 c42 c43 c44; obtain ⟨c40, c41, c42, c43, c44⟩ := cells5 c4; clear c60 c61; obtain ⟨c60, c61⟩ := cells2 c6; obtain ⟨c70, c71, c72, c73, c74, c75⟩ := cellsRp c7) | (clear mk5; go_at_call 124; refine (numberFrom_d B hBs _ (EN.out.grow hB) n true hr).mono ?_; rintro er w5 ⟨rfl, hB5⟩; have hz5 : w4.heap.size ≤ w5.heap.size := hB5.size; replace o := o.grow hB5; replace kc := vblk_grow kc hB5; replace c3 := vblk_grow c3 hB5; replace c4 := vblk_grow c4 hB5; replace c6 := vblk_grow c6 hB5; replace c7 := vblk_grow c7 hB5; replace hB := hB.trans (hB5.mono (by omega)); replace hzw := hB.size; clear c30 c31; obtain ⟨c30, c31⟩ := cells2 c3; clear c40 c41 c42 c43 c44; obtain ⟨c40, c41, c42, c43, c44⟩ := cells5 c4; clear c60 c61; obtain ⟨c60, c61⟩ := cells2 c6; clear c70 c71 c72 c73 c74 c75; obtain ⟨c70, c71, c72, c73, c74, c75⟩ := cellsRp c7) | (clear mk6; refine (HF.out _ kc).mono ?_; rintro er wq ⟨rfl, hq⟩; subst wq) | (clear mk7; go_at_call 125; refine (decT_is (m : Int) (digs m) (itoa_digs m) (by omega) (by omega) _ (EN.out.grow hB).tab).mono ?_; rintro er w6 ⟨rfl, hB6⟩; have hz6 : w5.heap.size ≤ w6.heap.size := hB6.size; replace o := o.grow hB6; replace kc := vblk_grow kc hB6; replace c3 := vblk_grow c3 hB6; replace c4 := vblk_grow c4 hB6; replace c6 := vblk_grow c6 hB6; replace c7 := vblk_grow c7 hB6; replace hB := hB.trans (hB6.mono (by omega)); replace hzw := hB.size; clear c30 c31; obtain ⟨c30, c31⟩ := cells2 c3; clear c40 c41 c42 c43 c44; obtain ⟨c40, c41, c42, c43, c44⟩ := cells5 c4; clear c60 c61; obtain ⟨c60, c61⟩ := cells2 c6; clear c70 c71 c72 c73 c74 c75; obtain ⟨c70, c71, c72, c73, c74, c75⟩ := cellsRp c7; rw [hS.out]) | (clear mk8; refine wpList_store_cell rfl 9 _ _ rfl b4 2 (.string S) rfl rfl rfl szSt1 c4 (by simp) ?_; intro w7 hO7 c4x; clear c40 c41 c42 c43 c44; have hz7 : w6.heap.size ≤ w7.heap.size := (Nat.le_of_eq hO7.1.symm); have hy7 : w7.heap.size ≤ w6.heap.size := (Nat.le_of_eq hO7.1); replace o := o.below (hO7.2.2 b4 (Nat.le_refl _)) (by omega); replace kc := vblk_only kc hO7 (by omega); replace c3 := vblk_only c3 hO7 (by omega); replace c6 := vblk_only c6 hO7 (by omega); replace c7 := vblk_only c7 hO7 (by omega); replace hB := hB.trans (hO7.2.2 _ (by omega)); replace hzw := hB.size; clear c30 c31; obtain ⟨c30, c31⟩ := cells2 c3; clear c60 c61; obtain ⟨c60, c61⟩ := cells2 c6; clear c70 c71 c72 c73 c74 c75; obtain ⟨c70, c71, c72, c73, c74, c75⟩ := cellsRp c7; clear c4; have c4 : VBlk w7 b4 56 [.string N, .int .i64 F, .string S, .int .i64 C, .int .i64 U] := c4x; clear c4x; obtain ⟨c40, c41, c42, c43, c44⟩ := cells5 c4) | (clear mk9; refine wpList_load_r rfl 31 _ rfl b3 0 [.slice A0 n0 k0, .int .i64 X] rfl _ Tryz.underlying31 rfl sizeBk c3.range ?_) | (clear mk10; refine wpList_load_r rfl 56 _ rfl b4 0 [.string N, .int .i64 F, .string S, .int .i64 C, .int .i64 U] rfl _ Tryz.underlying56 rfl sizeIt c4.range ?_) | (clear mk11; go_at_call 110; refine (HH.out _ lo _ o.top (by omega)).mono ?_; rintro er w8 ⟨v1, rfl, o1, hB8⟩; have hz8 : w7.heap.size ≤ w8.heap.size := hB8.size; replace kc := vblk_grow kc hB8; replace c3 := vblk_grow c3 hB8; replace c6 := vblk_grow c6 hB8; replace c7 := vblk_grow c7 hB8; replace c4 := vblk_grow c4 hB8; replace hB := hB.trans (hB8.mono (by omega)); replace hzw := hB.size; clear c30 c31; obtain ⟨c30, c31⟩ := cells2 c3; clear c60 c61; obtain ⟨c60, c61⟩ := cells2 c6; clear c70 c71 c72 c73 c74 c75; obtain ⟨c70, c71, c72, c73, c74, c75⟩ := cellsRp c7; clear c40 c41 c42 c43 c44; obtain ⟨c40, c41, c42, c43, c44⟩ := cells5 c4; obtain ⟨A1, n1, k1, rfl⟩ := o1.slice) | (clear mk12; refine wpList_alloc_v rfl 33 rfl _ zeroRp ?_; intro b9 w9 hb9 hwb9 hB9 c9; have hz9 : w8.heap.size ≤ w9.heap.size := hB9.size; replace o1 := o1.grow hB9; replace kc := vblk_grow kc hB9; replace c3 := vblk_grow c3 hB9; replace c6 := vblk_grow c6 hB9; replace c7 := vblk_grow c7 hB9; replace c4 := vblk_grow c4 hB9; replace hB := hB.trans (hB9.mono (by omega)); replace hzw := hB.size; clear c30 c31; obtain ⟨c30, c31⟩ := cells2 c3; clear c60 c61; obtain ⟨c60, c61⟩ := cells2 c6; clear c70 c71 c72 c73 c74 c75; obtain ⟨c70, c71, c72, c73, c74, c75⟩ := cellsRp c7; clear c40 c41 c42 c43 c44; obtain ⟨c40, c41, c42, c43, c44⟩ := cells5 c4; obtain ⟨c90, c91, c92, c93, c94, c95⟩ := cellsRp c9) | (clear mk13; refine wpList_store_v rfl 31 _ _ rfl b3 [.slice A1 n1 k1, .int .i64 Y] rfl rfl sizeBk c3 rfl (oneBk _ _ _ _) ?_; intro w10 hO10 c3x; clear c30 c31; have hz10 : w9.heap.size ≤ w10.heap.size := (Nat.le_of_eq hO10.1.symm); have hy10 : w10.heap.size ≤ w9.heap.size := (Nat.le_of_eq hO10.1); replace o1 := o1.only hO10 c3 (by decide); replace kc := vblk_only kc hO10 (by omega); replace c6 := vblk_only c6 hO10 (by omega); replace c7 := vblk_only c7 hO10 (by omega); replace c4 := vblk_only c4 hO10 (by omega); replace c9 := vblk_only c9 hO10 (by omega); replace hB := hB.trans (hO10.2.2 _ (by omega)); replace hzw := hB.size; clear c60 c61; obtain ⟨c60, c61⟩ := cells2 c6; clear c70 c71 c72 c73 c74 c75; obtain ⟨c70, c71, c72, c73, c74, c75⟩ := cellsRp c7; clear c40 c41 c42 c43 c44; obtain ⟨c40, c41, c42, c43, c44⟩ := cells5 c4; clear c90 c91 c92 c93 c94 c95; obtain ⟨c90, c91, c92, c93, c94, c95⟩ := cellsRp c9; clear c3; have c3 := c3x; clear c3x; obtain ⟨c30, c31⟩ := cells2 c3) | (clear mk14; refine wpList_store_v rfl 33 _ _ rfl b9 [.int .i64 1, .string ⟨#[]⟩, .int .i64 0, .string ⟨#[]⟩, .int .i64 0, .int .i64 0] rfl rfl sizeRp c9 rfl (oneRp (rp 1)) ?_; intro w11 hO11 c9x; clear c90 c91 c92 c93 c94 c95; have hz11 : w10.heap.size ≤ w11.heap.size := (Nat.le_of_eq hO11.1.symm); have hy11 : w11.heap.size ≤ w10.heap.size := (Nat.le_of_eq hO11.1); replace o1 := o1.only hO11 c9 (by decide); replace kc := vblk_only kc hO11 (by omega); replace c6 := vblk_only c6 hO11 (by omega); replace c7 := vblk_only c7 hO11 (by omega); replace c4 := vblk_only c4 hO11 (by omega); replace c3 := vblk_only c3 hO11 (by omega); replace hB := hB.trans (hO11.2.2 _ (by omega)); replace hzw := hB.size; clear c60 c61; obtain ⟨c60, c61⟩ := cells2 c6; clear c70 c71 c72 c73 c74 c75; obtain ⟨c70, c71, c72, c73, c74, c75⟩ := cellsRp c7; clear c40 c41 c42 c43 c44; obtain ⟨c40, c41, c42, c43, c44⟩ := cells5 c4; clear c30 c31; obtain ⟨c30, c31⟩ := cells2 c3; clear c9; have c9 := c9x; clear c9x; obtain ⟨c90, c91, c92, c93, c94, c95⟩ := cellsRp c9) | (clear mk15; refine wpList_load_r rfl 31 _ rfl b3 0 [.slice A1 n1 k1, .int .i64 Y] rfl _ Tryz.underlying31 rfl sizeBk c3.range ?_) | (clear mk16; refine wpList_store_v rfl 31 _ _ rfl b6 [.slice A1 n1 k1, .int .i64 Y] rfl rfl sizeBk c6 rfl (oneBk _ _ _ _) ?_; intro w12 hO12 c6x; clear c60 c61; have hz12 : w11.heap.size ≤ w12.heap.size := (Nat.le_of_eq hO12.1.symm); have hy12 : w12.heap.size ≤ w11.heap.size := (Nat.le_of_eq hO12.1); replace o1 := o1.only hO12 c6 (by decide); replace kc := vblk_only kc hO12 (by omega); replace c7 := vblk_only c7 hO12 (by omega); replace c4 := vblk_only c4 hO12 (by omega); replace c3 := vblk_only c3 hO12 (by omega); replace c9 := vblk_only c9 hO12 (by omega); replace hB := hB.trans (hO12.2.2 _ (by omega)); replace hzw := hB.size; clear c70 c71 c72 c73 c74 c75; obtain ⟨c70, c71, c72, c73, c74, c75⟩ := cellsRp c7; clear c40 c41 c42 c43 c44; obtain ⟨c40, c41, c42, c43, c44⟩ := cells5 c4; clear c30 c31; obtain ⟨c30, c31⟩ := cells2 c3; clear c90 c91 c92 c93 c94 c95; obtain ⟨c90, c91, c92, c93, c94, c95⟩ := cellsRp c9; clear c6; have c6 := c6x; clear c6x; obtain ⟨c60, c61⟩ := cells2 c6) | (clear mk17; refine wpList_store_v rfl 33 _ _ rfl b7 [.int .i64 6, .string ⟨#[]⟩, .int .i64 0, .string ⟨#[]⟩, .int .i64 0, .int .i64 m] rfl rfl sizeRp c7 rfl (oneRp ⟨6, emp, 0, emp, 0, (m : Int)⟩) ?_; intro w13 hO13 c7x; clear c70 c71 c72 c73 c74 c75; have hz13 : w12.heap.size ≤ w13.heap.size := (Nat.le_of_eq hO13.1.symm); have hy13 : w13.heap.size ≤ w12.heap.size := (Nat.le_of_eq hO13.1); replace o1 := o1.only hO13 c7 (by decide); replace kc := vblk_only kc hO13 (by omega); replace c4 := vblk_only c4 hO13 (by omega); replace c3 := vblk_only c3 hO13 (by omega); replace c9 := vblk_only c9 hO13 (by omega); replace c6 := vblk_only c6 hO13 (by omega); replace hB := hB.trans (hO13.2.2 _ (by omega)); replace hzw := hB.size; clear c40 c41 c42 c43 c44; obtain ⟨c40, c41, c42, c43, c44⟩ := cells5 c4; clear c30 c31; obtain ⟨c30, c31⟩ := cells2 c3; clear c90 c91 c92 c93 c94 c95; obtain ⟨c90, c91, c92, c93, c94, c95⟩ := cellsRp c9; clear c60 c61; obtain ⟨c60, c61⟩ := cells2 c6; clear c7; have c7 := c7x; clear c7x; obtain ⟨c70, c71, c72, c73, c74, c75⟩ := cellsRp c7) | (fail))
  exact row_cc rfl rfl rfl c6 c7 Tryz.underlying31 Tryz.underlying33 sizeBk sizeRp rfl ⟨_, rfl, (o1.wide (Nat.le_refl _) (by omega)).top, hB⟩
end Go.Proofs.YtjkkjpgebcnhgaaGreatDoor.rg
