/- Texts laid together: Dd1 Dd2 Dd3. -/
import Derived.Test.YtjkkjpgebcnhgaaGreatDoorDd0
import Derived.Test.YtjkkjpgebcnhgaaGreatDoorMg03
import Derived.Test.YtjkkjpgebcnhgaaGreatDoorMg12
import Derived.Deep.DeepCutAuto
import Derived.Deep.RegionHeld3
/- Contracts: the program's deeds that stamp nothing. -/
namespace Go.Proofs.YtjkkjpgebcnhgaaGreatDoor.rg
open Go.ChangeShapes Go.WideShapes Go.ChangeAt Go.RowKit
open Go.Deep Go.Joins
open Go.Proofs.YtjkkjpgebcnhgaaGreatDoor.ce Go.Proofs.YtjkkjpgebcnhgaaGreatDoor.ro Go.Proofs.YtjkkjpgebcnhgaaGreatDoor.cm
set_option linter.unusedVariables false

def PostD (b : Bk) (r : Rp) (lo : Nat) (w : World) (e : Ending) (w' : World) : Prop := ∃ v', e = .returned (.tuple #[.agg #[v', .int .i64 b.X], .agg (csRp r).toArray]) ∧ Own encIt w' lo w'.heap.size v' b.I ∧ Below w.heap.size w w'
set_option maxRecDepth 100000 in
set_option maxHeartbeats 2000000 in
theorem missing_any (I : List It) (X : Int) (N B : ByteArray) (F C U : Int) (V : Int) (N2 : ByteArray) (F2 U2 : Int) (B2 : ByteArray) (C2 D2 : Int) (Q2 : Bool) (v : Value) (lo : Nat) (w : World) (o : Own encIt w lo w.heap.size v I) (hlo : lo ≤ w.heap.size) :
    Calls Tryz.prog 77 #[.agg #[v, .int .i64 X], .agg #[.string N, .int .i64 F, .string B, .int .i64 C, .int .i64 U], .agg #[.int .i64 V, .string N2, .int .i64 F2, .int .i64 U2, .string B2, .int .i64 C2, .int .i64 D2, .bool Q2]] w fun e w' => PostD ⟨I, X⟩ (rp 4) lo w e w' := by
  obtain ⟨A0, n0, k0, rfl⟩ := o.slice
  have hzw0 : w.heap.size ≤ w.heap.size := Nat.le_refl _
  go_enter Tryz.func77, Tryz.ntmps77
  have mk1 : Hid True := trivial
  have mk2 : Hid True := trivial
  have mk3 : Hid True := trivial
  have mk4 : Hid True := trivial
  have mk5 : Hid True := trivial
  have mk6 : Hid True := trivial
  have mk7 : Hid True := trivial
  have mk8 : Hid True := trivial
  go_wp2_with (first | (clear mk1; refine wpList_box_v rfl 31 _ rfl [.slice A0 n0 k0, .int .i64 X] rfl ?_; intro b3 w1 hb3 hwb3 hB1 c3; have hz1 : w.heap.size ≤ w1.heap.size := hB1.size; replace o := o.grow hB1; have hB := hB1; have hzw := hB.size; obtain ⟨c30, c31⟩ := cells2 c3) | (clear mk2; refine wpList_box_v rfl 56 _ rfl [.string N, .int .i64 F, .string B, .int .i64 C, .int .i64 U] rfl ?_; intro b4 w2 hb4 hwb4 hB2 c4; have hz2 : w1.heap.size ≤ w2.heap.size := hB2.size; replace o := o.grow hB2; replace c3 := vblk_grow c3 hB2; replace hB := hB.trans (hB2.mono (by omega)); replace hzw := hB.size; clear c30 c31; obtain ⟨c30, c31⟩ := cells2 c3; obtain ⟨c40, c41, c42, c43, c44⟩ := cells5 c4) | (clear mk3; refine wpList_box_v rfl 37 _ rfl [.int .i64 V, .string N2, .int .i64 F2, .int .i64 U2, .string B2, .int .i64 C2, .int .i64 D2, .bool Q2] rfl ?_; intro b5 w3 hb5 hwb5 hB3 c5; have hz3 : w2.heap.size ≤ w3.heap.size := hB3.size; replace o := o.grow hB3; replace c3 := vblk_grow c3 hB3; replace c4 := vblk_grow c4 hB3; replace hB := hB.trans (hB3.mono (by omega)); replace hzw := hB.size; clear c30 c31; obtain ⟨c30, c31⟩ := cells2 c3; clear c40 c41 c42 c43 c44; obtain ⟨c40, c41, c42, c43, c44⟩ := cells5 c4; obtain ⟨c50, c51, c52, c53, c54, c55, c56, c57⟩ := cellsCm c5) | (clear mk4; refine wpList_alloc_v rfl 31 rfl _ zeroBk ?_; intro b6 w4 hb6 hwb6 hB4 c6; have hz4 : w3.heap.size ≤ w4.heap.size := hB4.size; replace o := o.grow hB4; replace c3 := vblk_grow c3 hB4; replace c4 := vblk_grow c4 hB4; replace c5 := vblk_grow c5 hB4; replace hB := hB.trans (hB4.mono (by omega)); replace hzw := hB.size; clear c30 c31; obtain ⟨c30, c31⟩ := cells2 c3; clear c40 c41 c42 c43 c44; obtain ⟨c40, c41, c42, c43, c44⟩ := cells5 c4; clear c50 c51 c52 c53 c54 c55 c56 c57; obtain ⟨c50, c51, c52, c53, c54, c55, c56, c57⟩ := cellsCm c5; obtain ⟨c60, c61⟩ := cells2 c6) | (clear mk5; refine wpList_alloc_v rfl 33 rfl _ zeroRp ?_; intro b7 w5 hb7 hwb7 hB5 c7; have hz5 : w4.heap.size ≤ w5.heap.size := hB5.size; replace o := o.grow hB5; replace c3 := vblk_grow c3 hB5; replace c4 := vblk_grow c4 hB5; replace c5 := vblk_grow c5 hB5; replace c6 := vblk_grow c6 hB5; replace hB := hB.trans (hB5.mono (by omega)); replace hzw := hB.size; clear c30 c31; obtain ⟨c30, c31⟩ := cells2 c3; clear c40 c41 c42 c43 c44; obtain ⟨c40, c41, c42, c43, c44⟩ := cells5 c4; clear c50 c51 c52 c53 c54 c55 c56 c57; obtain ⟨c50, c51, c52, c53, c54, c55, c56, c57⟩ := cellsCm c5; clear c60 c61; obtain ⟨c60, c61⟩ := cells2 c6; obtain ⟨c70, c71, c72, c73, c74, c75⟩ := cellsRp c7) | (clear mk6; refine wpList_load_r rfl 31 _ rfl b3 0 [.slice A0 n0 k0, .int .i64 X] rfl _ Tryz.underlying31 rfl sizeBk c3.range ?_) | (clear mk7; refine wpList_store_v rfl 31 _ _ rfl b6 [.slice A0 n0 k0, .int .i64 X] rfl rfl sizeBk c6 rfl (oneBk _ _ _ _) ?_; intro w6 hO6 c6x; clear c60 c61; have hz6 : w5.heap.size ≤ w6.heap.size := (Nat.le_of_eq hO6.1.symm); have hy6 : w6.heap.size ≤ w5.heap.size := (Nat.le_of_eq hO6.1); replace o := o.only hO6 c6 (by decide); replace c3 := vblk_only c3 hO6 (by omega); replace c4 := vblk_only c4 hO6 (by omega); replace c5 := vblk_only c5 hO6 (by omega); replace c7 := vblk_only c7 hO6 (by omega); replace hB := hB.trans (hO6.2.2 _ (by omega)); replace hzw := hB.size; clear c30 c31; obtain ⟨c30, c31⟩ := cells2 c3; clear c40 c41 c42 c43 c44; obtain ⟨c40, c41, c42, c43, c44⟩ := cells5 c4; clear c50 c51 c52 c53 c54 c55 c56 c57; obtain ⟨c50, c51, c52, c53, c54, c55, c56, c57⟩ := cellsCm c5; clear c70 c71 c72 c73 c74 c75; obtain ⟨c70, c71, c72, c73, c74, c75⟩ := cellsRp c7; clear c6; have c6 := c6x; clear c6x; obtain ⟨c60, c61⟩ := cells2 c6) | (clear mk8; refine wpList_store_v rfl 33 _ _ rfl b7 [.int .i64 4, .string ⟨#[]⟩, .int .i64 0, .string ⟨#[]⟩, .int .i64 0, .int .i64 0] rfl rfl sizeRp c7 rfl (oneRp (rp 4)) ?_; intro w7 hO7 c7x; clear c70 c71 c72 c73 c74 c75; have hz7 : w6.heap.size ≤ w7.heap.size := (Nat.le_of_eq hO7.1.symm); have hy7 : w7.heap.size ≤ w6.heap.size := (Nat.le_of_eq hO7.1); replace o := o.only hO7 c7 (by decide); replace c3 := vblk_only c3 hO7 (by omega); replace c4 := vblk_only c4 hO7 (by omega); replace c5 := vblk_only c5 hO7 (by omega); replace c6 := vblk_only c6 hO7 (by omega); replace hB := hB.trans (hO7.2.2 _ (by omega)); replace hzw := hB.size; clear c30 c31; obtain ⟨c30, c31⟩ := cells2 c3; clear c40 c41 c42 c43 c44; obtain ⟨c40, c41, c42, c43, c44⟩ := cells5 c4; clear c50 c51 c52 c53 c54 c55 c56 c57; obtain ⟨c50, c51, c52, c53, c54, c55, c56, c57⟩ := cellsCm c5; clear c60 c61; obtain ⟨c60, c61⟩ := cells2 c6; clear c7; have c7 := c7x; clear c7x; obtain ⟨c70, c71, c72, c73, c74, c75⟩ := cellsRp c7) | (fail))
  exact row_cc rfl rfl rfl c6 c7 Tryz.underlying31 Tryz.underlying33 sizeBk sizeRp rfl ⟨_, rfl, (o.wide (Nat.le_refl _) (by omega)).top, hB⟩

set_option maxRecDepth 100000 in
set_option maxHeartbeats 2000000 in
theorem refuse_any (I : List It) (X : Int) (N B : ByteArray) (F C U : Int) (V : Int) (N2 : ByteArray) (F2 U2 : Int) (B2 : ByteArray) (C2 D2 : Int) (Q2 : Bool) (v : Value) (lo : Nat) (w : World) (o : Own encIt w lo w.heap.size v I) (hlo : lo ≤ w.heap.size) :
    Calls Tryz.prog 80 #[.agg #[v, .int .i64 X], .agg #[.string N, .int .i64 F, .string B, .int .i64 C, .int .i64 U], .agg #[.int .i64 V, .string N2, .int .i64 F2, .int .i64 U2, .string B2, .int .i64 C2, .int .i64 D2, .bool Q2]] w fun e w' => PostD ⟨I, X⟩ (rp 2) lo w e w' := by
  obtain ⟨A0, n0, k0, rfl⟩ := o.slice
  have hzw0 : w.heap.size ≤ w.heap.size := Nat.le_refl _
  go_enter Tryz.func80, Tryz.ntmps80
  have mk1 : Hid True := trivial
  have mk2 : Hid True := trivial
  have mk3 : Hid True := trivial
  have mk4 : Hid True := trivial
  have mk5 : Hid True := trivial
  have mk6 : Hid True := trivial
  have mk7 : Hid True := trivial
  have mk8 : Hid True := trivial
  go_wp2_with (first | (clear mk1; refine wpList_box_v rfl 31 _ rfl [.slice A0 n0 k0, .int .i64 X] rfl ?_; intro b3 w1 hb3 hwb3 hB1 c3; have hz1 : w.heap.size ≤ w1.heap.size := hB1.size; replace o := o.grow hB1; have hB := hB1; have hzw := hB.size; obtain ⟨c30, c31⟩ := cells2 c3) | (clear mk2; refine wpList_box_v rfl 56 _ rfl [.string N, .int .i64 F, .string B, .int .i64 C, .int .i64 U] rfl ?_; intro b4 w2 hb4 hwb4 hB2 c4; have hz2 : w1.heap.size ≤ w2.heap.size := hB2.size; replace o := o.grow hB2; replace c3 := vblk_grow c3 hB2; replace hB := hB.trans (hB2.mono (by omega)); replace hzw := hB.size; clear c30 c31; obtain ⟨c30, c31⟩ := cells2 c3; obtain ⟨c40, c41, c42, c43, c44⟩ := cells5 c4) | (clear mk3; refine wpList_box_v rfl 37 _ rfl [.int .i64 V, .string N2, .int .i64 F2, .int .i64 U2, .string B2, .int .i64 C2, .int .i64 D2, .bool Q2] rfl ?_; intro b5 w3 hb5 hwb5 hB3 c5; have hz3 : w2.heap.size ≤ w3.heap.size := hB3.size; replace o := o.grow hB3; replace c3 := vblk_grow c3 hB3; replace c4 := vblk_grow c4 hB3; replace hB := hB.trans (hB3.mono (by omega)); replace hzw := hB.size; clear c30 c31; obtain ⟨c30, c31⟩ := cells2 c3; clear c40 c41 c42 c43 c44; obtain ⟨c40, c41, c42, c43, c44⟩ := cells5 c4; obtain ⟨c50, c51, c52, c53, c54, c55, c56, c57⟩ := cellsCm c5) | (clear mk4; refine wpList_alloc_v rfl 31 rfl _ zeroBk ?_; intro b6 w4 hb6 hwb6 hB4 c6; have hz4 : w3.heap.size ≤ w4.heap.size := hB4.size; replace o := o.grow hB4; replace c3 := vblk_grow c3 hB4; replace c4 := vblk_grow c4 hB4; replace c5 := vblk_grow c5 hB4; replace hB := hB.trans (hB4.mono (by omega)); replace hzw := hB.size; clear c30 c31; obtain ⟨c30, c31⟩ := cells2 c3; clear c40 c41 c42 c43 c44; obtain ⟨c40, c41, c42, c43, c44⟩ := cells5 c4; clear c50 c51 c52 c53 c54 c55 c56 c57; obtain ⟨c50, c51, c52, c53, c54, c55, c56, c57⟩ := cellsCm c5; obtain ⟨c60, c61⟩ := cells2 c6) | (clear mk5; refine wpList_alloc_v rfl 33 rfl _ zeroRp ?_; intro b7 w5 hb7 hwb7 hB5 c7; have hz5 : w4.heap.size ≤ w5.heap.size := hB5.size; replace o := o.grow hB5; replace c3 := vblk_grow c3 hB5; replace c4 := vblk_grow c4 hB5; replace c5 := vblk_grow c5 hB5; replace c6 := vblk_grow c6 hB5; replace hB := hB.trans (hB5.mono (by omega)); replace hzw := hB.size; clear c30 c31; obtain ⟨c30, c31⟩ := cells2 c3; clear c40 c41 c42 c43 c44; obtain ⟨c40, c41, c42, c43, c44⟩ := cells5 c4; clear c50 c51 c52 c53 c54 c55 c56 c57; obtain ⟨c50, c51, c52, c53, c54, c55, c56, c57⟩ := cellsCm c5; clear c60 c61; obtain ⟨c60, c61⟩ := cells2 c6; obtain ⟨c70, c71, c72, c73, c74, c75⟩ := cellsRp c7) | (clear mk6; refine wpList_load_r rfl 31 _ rfl b3 0 [.slice A0 n0 k0, .int .i64 X] rfl _ Tryz.underlying31 rfl sizeBk c3.range ?_) | (clear mk7; refine wpList_store_v rfl 31 _ _ rfl b6 [.slice A0 n0 k0, .int .i64 X] rfl rfl sizeBk c6 rfl (oneBk _ _ _ _) ?_; intro w6 hO6 c6x; clear c60 c61; have hz6 : w5.heap.size ≤ w6.heap.size := (Nat.le_of_eq hO6.1.symm); have hy6 : w6.heap.size ≤ w5.heap.size := (Nat.le_of_eq hO6.1); replace o := o.only hO6 c6 (by decide); replace c3 := vblk_only c3 hO6 (by omega); replace c4 := vblk_only c4 hO6 (by omega); replace c5 := vblk_only c5 hO6 (by omega); replace c7 := vblk_only c7 hO6 (by omega); replace hB := hB.trans (hO6.2.2 _ (by omega)); replace hzw := hB.size; clear c30 c31; obtain ⟨c30, c31⟩ := cells2 c3; clear c40 c41 c42 c43 c44; obtain ⟨c40, c41, c42, c43, c44⟩ := cells5 c4; clear c50 c51 c52 c53 c54 c55 c56 c57; obtain ⟨c50, c51, c52, c53, c54, c55, c56, c57⟩ := cellsCm c5; clear c70 c71 c72 c73 c74 c75; obtain ⟨c70, c71, c72, c73, c74, c75⟩ := cellsRp c7; clear c6; have c6 := c6x; clear c6x; obtain ⟨c60, c61⟩ := cells2 c6) | (clear mk8; refine wpList_store_v rfl 33 _ _ rfl b7 [.int .i64 2, .string ⟨#[]⟩, .int .i64 0, .string ⟨#[]⟩, .int .i64 0, .int .i64 0] rfl rfl sizeRp c7 rfl (oneRp (rp 2)) ?_; intro w7 hO7 c7x; clear c70 c71 c72 c73 c74 c75; have hz7 : w6.heap.size ≤ w7.heap.size := (Nat.le_of_eq hO7.1.symm); have hy7 : w7.heap.size ≤ w6.heap.size := (Nat.le_of_eq hO7.1); replace o := o.only hO7 c7 (by decide); replace c3 := vblk_only c3 hO7 (by omega); replace c4 := vblk_only c4 hO7 (by omega); replace c5 := vblk_only c5 hO7 (by omega); replace c6 := vblk_only c6 hO7 (by omega); replace hB := hB.trans (hO7.2.2 _ (by omega)); replace hzw := hB.size; clear c30 c31; obtain ⟨c30, c31⟩ := cells2 c3; clear c40 c41 c42 c43 c44; obtain ⟨c40, c41, c42, c43, c44⟩ := cells5 c4; clear c50 c51 c52 c53 c54 c55 c56 c57; obtain ⟨c50, c51, c52, c53, c54, c55, c56, c57⟩ := cellsCm c5; clear c60 c61; obtain ⟨c60, c61⟩ := cells2 c6; clear c7; have c7 := c7x; clear c7x; obtain ⟨c70, c71, c72, c73, c74, c75⟩ := cellsRp c7) | (fail))
  exact row_cc rfl rfl rfl c6 c7 Tryz.underlying31 Tryz.underlying33 sizeBk sizeRp rfl ⟨_, rfl, (o.wide (Nat.le_refl _) (by omega)).top, hB⟩

set_option maxRecDepth 100000 in
set_option maxHeartbeats 2000000 in
theorem tellValue_any (I : List It) (X : Int) (N B : ByteArray) (F C U : Int) (V : Int) (N2 : ByteArray) (F2 U2 : Int) (B2 : ByteArray) (C2 D2 : Int) (Q2 : Bool) (v : Value) (lo : Nat) (w : World) (o : Own encIt w lo w.heap.size v I) (hlo : lo ≤ w.heap.size) :
    Calls Tryz.prog 76 #[.agg #[v, .int .i64 X], .agg #[.string N, .int .i64 F, .string B, .int .i64 C, .int .i64 U], .agg #[.int .i64 V, .string N2, .int .i64 F2, .int .i64 U2, .string B2, .int .i64 C2, .int .i64 D2, .bool Q2]] w fun e w' => PostD ⟨I, X⟩ ⟨5, N, F, B, 0, 0⟩ lo w e w' := by
  obtain ⟨A0, n0, k0, rfl⟩ := o.slice
  have hzw0 : w.heap.size ≤ w.heap.size := Nat.le_refl _
  go_enter Tryz.func76, Tryz.ntmps76
  have mk1 : Hid True := trivial
  have mk2 : Hid True := trivial
  have mk3 : Hid True := trivial
  have mk4 : Hid True := trivial
  have mk5 : Hid True := trivial
  go_upto_region 1 with (first | (clear mk1; refine wpList_box_v rfl 31 _ rfl [.slice A0 n0 k0, .int .i64 X] rfl ?_; intro b3 w1 hb3 hwb3 hB1 c3; have hz1 : w.heap.size ≤ w1.heap.size := hB1.size; replace o := o.grow hB1; have hB := hB1; have hzw := hB.size; obtain ⟨c30, c31⟩ := cells2 c3) | (clear mk2; refine wpList_box_v rfl 56 _ rfl [.string N, .int .i64 F, .string B, .int .i64 C, .int .i64 U] rfl ?_; intro b4 w2 hb4 hwb4 hB2 c4; have hz2 : w1.heap.size ≤ w2.heap.size := hB2.size; replace o := o.grow hB2; replace c3 := vblk_grow c3 hB2; replace hB := hB.trans (hB2.mono (by omega)); replace hzw := hB.size; clear c30 c31; obtain ⟨c30, c31⟩ := cells2 c3; obtain ⟨c40, c41, c42, c43, c44⟩ := cells5 c4) | (clear mk3; refine wpList_box_v rfl 37 _ rfl [.int .i64 V, .string N2, .int .i64 F2, .int .i64 U2, .string B2, .int .i64 C2, .int .i64 D2, .bool Q2] rfl ?_; intro b5 w3 hb5 hwb5 hB3 c5; have hz3 : w2.heap.size ≤ w3.heap.size := hB3.size; replace o := o.grow hB3; replace c3 := vblk_grow c3 hB3; replace c4 := vblk_grow c4 hB3; replace hB := hB.trans (hB3.mono (by omega)); replace hzw := hB.size; clear c30 c31; obtain ⟨c30, c31⟩ := cells2 c3; clear c40 c41 c42 c43 c44; obtain ⟨c40, c41, c42, c43, c44⟩ := cells5 c4; obtain ⟨c50, c51, c52, c53, c54, c55, c56, c57⟩ := cellsCm c5) | (clear mk4; refine wpList_alloc_v rfl 31 rfl _ zeroBk ?_; intro b6 w4 hb6 hwb6 hB4 c6; have hz4 : w3.heap.size ≤ w4.heap.size := hB4.size; replace o := o.grow hB4; replace c3 := vblk_grow c3 hB4; replace c4 := vblk_grow c4 hB4; replace c5 := vblk_grow c5 hB4; replace hB := hB.trans (hB4.mono (by omega)); replace hzw := hB.size; clear c30 c31; obtain ⟨c30, c31⟩ := cells2 c3; clear c40 c41 c42 c43 c44; obtain ⟨c40, c41, c42, c43, c44⟩ := cells5 c4; clear c50 c51 c52 c53 c54 c55 c56 c57; obtain ⟨c50, c51, c52, c53, c54, c55, c56, c57⟩ := cellsCm c5; obtain ⟨c60, c61⟩ := cells2 c6) | (clear mk5; refine wpList_alloc_v rfl 33 rfl _ zeroRp ?_; intro b7 w5 hb7 hwb7 hB5 c7; have hz5 : w4.heap.size ≤ w5.heap.size := hB5.size; replace o := o.grow hB5; replace c3 := vblk_grow c3 hB5; replace c4 := vblk_grow c4 hB5; replace c5 := vblk_grow c5 hB5; replace c6 := vblk_grow c6 hB5; replace hB := hB.trans (hB5.mono (by omega)); replace hzw := hB.size; clear c30 c31; obtain ⟨c30, c31⟩ := cells2 c3; clear c40 c41 c42 c43 c44; obtain ⟨c40, c41, c42, c43, c44⟩ := cells5 c4; clear c50 c51 c52 c53 c54 c55 c56 c57; obtain ⟨c50, c51, c52, c53, c54, c55, c56, c57⟩ := cellsCm c5; clear c60 c61; obtain ⟨c60, c61⟩ := cells2 c6; obtain ⟨c70, c71, c72, c73, c74, c75⟩ := cellsRp c7) | (fail))
  have hBd : Below w5.heap.size w5 w5.drew := (Below.refl _ _).drew
  have hzd : w5.drew.heap.size ≤ w5.heap.size := Nat.le_refl _
  have hzd2 : w5.heap.size ≤ w5.drew.heap.size := Nat.le_refl _
  replace o := o.grow hBd
  replace c3 := vblk_grow c3 hBd
  clear c30 c31
  obtain ⟨c30, c31⟩ := cells2 c3
  replace c4 := vblk_grow c4 hBd
  clear c40 c41 c42 c43 c44
  obtain ⟨c40, c41, c42, c43, c44⟩ := cells5 c4
  replace c5 := vblk_grow c5 hBd
  clear c50 c51 c52 c53 c54 c55 c56 c57
  obtain ⟨c50, c51, c52, c53, c54, c55, c56, c57⟩ := cellsCm c5
  replace c6 := vblk_grow c6 hBd
  clear c60 c61
  obtain ⟨c60, c61⟩ := cells2 c6
  replace c7 := vblk_grow c7 hBd
  clear c70 c71 c72 c73 c74 c75
  obtain ⟨c70, c71, c72, c73, c74, c75⟩ := cellsRp c7
  replace hB := hB.trans (hBd.mono (by omega))
  replace hzw := hB.size
  (try simp only [Act.put])
  (try simp only [List.setIfInBounds_toArray, List.set_cons_zero, List.set_cons_succ])
  clear c30 c31
  clear c40 c41 c42 c43 c44
  clear c50 c51 c52 c53 c54 c55 c56 c57
  clear c60 c61
  clear c70 c71 c72 c73 c74 c75
  refine wp_region_held_drew (S := fun w' => w'.cell? ⟨b3, 0, none⟩ = some (.slice A0 n0 k0) ∧ w'.cell? ⟨b3, 1, none⟩ = some (.int .i64 X) ∧ w'.cell? ⟨b4, 0, none⟩ = some (.string N) ∧ w'.cell? ⟨b4, 1, none⟩ = some (.int .i64 F) ∧ w'.cell? ⟨b4, 2, none⟩ = some (.string B) ∧ w'.cell? ⟨b4, 3, none⟩ = some (.int .i64 C) ∧ w'.cell? ⟨b4, 4, none⟩ = some (.int .i64 U)) (by kernel_rfl) (⟨(cells2 c3).1, (cells2 c3).2, cells5 c4⟩) (fun hHeld => ?_)
  refine wpAnyH_take (i := 0) (oi := { dst := some 8, op := Op.load 31 (Operand.tmp 3), type := 31, pos := "l13_store.go:50", after := #[], guard := none }) (v := ?_) rfl (by kernel_rfl) (by kernel_rfl) (by kernel_rfl) (fun _ _ _ h => h) (Or.inl ⟨by rfl, ?_⟩) (by assumption) ?_
  rotate_left 1
  · intro w' hSw; (try dsimp only at hSw); go_simp; (try with_reducible rfl)
  (try simp only [Act.put, List.setIfInBounds_toArray, List.set_cons_zero, List.set_cons_succ])
  refine wpAnyH_take (i := 1) (oi := { dst := some 9, op := Op.fieldAddr 56 (Operand.tmp 4) 0, type := 0, pos := "l13_store.go:50", after := #[{ on := 8, ground := Ground.gcOnly Departure.lateStores }], guard := none }) (v := ?_) rfl (by kernel_rfl) (by kernel_rfl) (by kernel_rfl) (fun _ _ _ h => h) (Or.inl ⟨by rfl, ?_⟩) (by assumption) ?_
  rotate_left 1
  · intro w' hSw; (try dsimp only at hSw); go_simp; (try with_reducible rfl)
  (try simp only [Act.put, List.setIfInBounds_toArray, List.set_cons_zero, List.set_cons_succ])
  refine wpAnyH_take (i := 2) (oi := { dst := some 10, op := Op.load 9 (Operand.tmp 9), type := 9, pos := "l13_store.go:50", after := #[{ on := 1, ground := Ground.data }, { on := 8, ground := Ground.gcOnly Departure.lateStores }], guard := none }) (v := ?_) rfl (by kernel_rfl) (by kernel_rfl) (by kernel_rfl) (fun _ _ _ h => h) (Or.inl ⟨by rfl, ?_⟩) (by assumption) ?_
  rotate_left 1
  · intro w' hSw; (try dsimp only at hSw); go_simp; (try with_reducible rfl)
  (try simp only [Act.put, List.setIfInBounds_toArray, List.set_cons_zero, List.set_cons_succ])
  refine wpAnyH_take (i := 3) (oi := { dst := some 11, op := Op.fieldAddr 56 (Operand.tmp 4) 1, type := 0, pos := "l13_store.go:50", after := #[{ on := 8, ground := Ground.gcOnly Departure.lateStores }], guard := none }) (v := ?_) rfl (by kernel_rfl) (by kernel_rfl) (by kernel_rfl) (fun _ _ _ h => h) (Or.inl ⟨by rfl, ?_⟩) (by assumption) ?_
  rotate_left 1
  · intro w' hSw; (try dsimp only at hSw); go_simp; (try with_reducible rfl)
  (try simp only [Act.put, List.setIfInBounds_toArray, List.set_cons_zero, List.set_cons_succ])
  refine wpAnyH_take (i := 4) (oi := { dst := some 12, op := Op.load 2 (Operand.tmp 11), type := 2, pos := "l13_store.go:50", after := #[{ on := 3, ground := Ground.data }, { on := 8, ground := Ground.gcOnly Departure.lateStores }], guard := none }) (v := ?_) rfl (by kernel_rfl) (by kernel_rfl) (by kernel_rfl) (fun _ _ _ h => h) (Or.inl ⟨by rfl, ?_⟩) (by assumption) ?_
  rotate_left 1
  · intro w' hSw; (try dsimp only at hSw); go_simp; (try with_reducible rfl)
  (try simp only [Act.put, List.setIfInBounds_toArray, List.set_cons_zero, List.set_cons_succ])
  refine wpAnyH_take (i := 5) (oi := { dst := some 13, op := Op.fieldAddr 56 (Operand.tmp 4) 2, type := 0, pos := "l13_store.go:50", after := #[{ on := 8, ground := Ground.gcOnly Departure.lateStores }], guard := none }) (v := ?_) rfl (by kernel_rfl) (by kernel_rfl) (by kernel_rfl) (fun _ _ _ h => h) (Or.inl ⟨by rfl, ?_⟩) (by assumption) ?_
  rotate_left 1
  · intro w' hSw; (try dsimp only at hSw); go_simp; (try with_reducible rfl)
  (try simp only [Act.put, List.setIfInBounds_toArray, List.set_cons_zero, List.set_cons_succ])
  refine wpAnyH_take (i := 6) (oi := { dst := some 14, op := Op.load 9 (Operand.tmp 13), type := 9, pos := "l13_store.go:50", after := #[{ on := 5, ground := Ground.data }, { on := 8, ground := Ground.gcOnly Departure.lateStores }], guard := none }) (v := ?_) rfl (by kernel_rfl) (by kernel_rfl) (by kernel_rfl) (fun _ _ _ h => h) (Or.inl ⟨by rfl, ?_⟩) (by assumption) ?_
  rotate_left 1
  · intro w' hSw; (try dsimp only at hSw); go_simp; (try with_reducible rfl)
  (try simp only [Act.put, List.setIfInBounds_toArray, List.set_cons_zero, List.set_cons_succ])
  refine wpAnyH_take (i := 7) (oi := { dst := some 15, op := Op.build 33 #[(0, Operand.const (Value.int IntKind.i64 5)), (1, Operand.tmp 10), (2, Operand.tmp 12), (3, Operand.tmp 14)], type := 33, pos := "l13_store.go:50", after := #[{ on := 2, ground := Ground.data }, { on := 4, ground := Ground.data }, { on := 6, ground := Ground.data }, { on := 8, ground := Ground.gcOnly Departure.lateStores }], guard := none }) (v := ?_) rfl (by kernel_rfl) (by kernel_rfl) (by kernel_rfl) (fun _ _ _ h => h) (Or.inl ⟨by rfl, ?_⟩) (by assumption) ?_
  rotate_left 1
  · intro w' hSw; (try dsimp only at hSw); go_simp; (try with_reducible rfl)
  (try simp only [Act.put, List.setIfInBounds_toArray, List.set_cons_zero, List.set_cons_succ])
  refine wpAnyH_ready (rs := [8]) (by kernel_rfl) (by simp) ?_
  refine AllReadyH.cons (o := { dst := none, op := Op.store 31 (Operand.tmp 6) (Operand.tmp 8), type := 0, pos := "l13_store.go:50", after := #[{ on := 0, ground := Ground.data }, { on := 0, ground := Ground.phase }, { on := 1, ground := Ground.textOnly Departure.lateStores }, { on := 2, ground := Ground.textOnly Departure.lateStores }, { on := 3, ground := Ground.textOnly Departure.lateStores }, { on := 4, ground := Ground.textOnly Departure.lateStores }, { on := 5, ground := Ground.textOnly Departure.lateStores }, { on := 6, ground := Ground.textOnly Departure.lateStores }, { on := 7, ground := Ground.textOnly Departure.lateStores }], guard := none }) rfl (fun KC hKC => ?_) AllReadyH.nil
  refine step_store_v rfl 31 _ _ rfl b6 [.slice A0 n0 k0, .int .i64 X] rfl rfl sizeBk c6 rfl (oneBk _ _ _ _) ?_
  intro wr8 hO8r c6x
  have hz8r : w5.drew.heap.size ≤ wr8.heap.size := Nat.le_of_eq hO8r.1.symm
  have hy8r : wr8.heap.size ≤ w5.drew.heap.size := Nat.le_of_eq hO8r.1
  (try replace o := o.only hO8r c6 (by decide))
  replace c3 := vblk_only c3 hO8r (by omega)
  replace c4 := vblk_only c4 hO8r (by omega)
  replace c5 := vblk_only c5 hO8r (by omega)
  replace c7 := vblk_only c7 hO8r (by omega)
  clear c6
  have c6 := c6x
  clear c6x
  replace hB := hB.trans (hO8r.2.2 _ (by omega))
  replace hzw := hB.size
  refine hKC.out _ _ (⟨(cells2 c3).1, (cells2 c3).2, cells5 c4⟩) (fun hHeld2 => ?_)
  clear hKC KC hHeld
  have hHeld := hHeld2
  clear hHeld2
  (try simp only [Act.put])
  refine wpAnyH_ready (rs := [9]) (by kernel_rfl) (by simp) ?_
  refine AllReadyH.cons (o := { dst := none, op := Op.store 33 (Operand.tmp 7) (Operand.tmp 15), type := 0, pos := "l13_store.go:50", after := #[{ on := 7, ground := Ground.data }, { on := 8, ground := Ground.chain }, { on := 0, ground := Ground.phase }, { on := 1, ground := Ground.phase }, { on := 2, ground := Ground.phase }, { on := 3, ground := Ground.phase }, { on := 4, ground := Ground.phase }, { on := 5, ground := Ground.phase }, { on := 6, ground := Ground.phase }, { on := 7, ground := Ground.phase }, { on := 8, ground := Ground.phase }], guard := none }) rfl (fun KC hKC => ?_) AllReadyH.nil
  refine step_store_v rfl 33 _ _ rfl b7 [.int .i64 5, .string N, .int .i64 F, .string B, .int .i64 0, .int .i64 0] rfl rfl sizeRp c7 rfl (oneRp ⟨5, N, F, B, 0, 0⟩) ?_
  intro wr9 hO9r c7x
  have hz9r : wr8.heap.size ≤ wr9.heap.size := Nat.le_of_eq hO9r.1.symm
  have hy9r : wr9.heap.size ≤ wr8.heap.size := Nat.le_of_eq hO9r.1
  (try replace o := o.only hO9r c7 (by decide))
  replace c3 := vblk_only c3 hO9r (by omega)
  replace c4 := vblk_only c4 hO9r (by omega)
  replace c5 := vblk_only c5 hO9r (by omega)
  replace c6 := vblk_only c6 hO9r (by omega)
  clear c7
  have c7 := c7x
  clear c7x
  replace hB := hB.trans (hO9r.2.2 _ (by omega))
  replace hzw := hB.size
  refine hKC.out _ _ (⟨(cells2 c3).1, (cells2 c3).2, cells5 c4⟩) (fun hHeld2 => ?_)
  clear hKC KC hHeld
  have hHeld := hHeld2
  clear hHeld2
  (try simp only [Act.put])
  refine wpAnyH_done (by kernel_rfl) ?_ _
  go_wp2
  exact row_cc rfl rfl rfl c6 c7 Tryz.underlying31 Tryz.underlying33 sizeBk sizeRp rfl ⟨_, rfl, (o.wide (Nat.le_refl _) (by omega)).top, hB⟩

set_option maxRecDepth 100000 in
set_option maxHeartbeats 2000000 in
theorem tellValueAndCas_any (I : List It) (X : Int) (N B : ByteArray) (F C U : Int) (V : Int) (N2 : ByteArray) (F2 U2 : Int) (B2 : ByteArray) (C2 D2 : Int) (Q2 : Bool) (v : Value) (lo : Nat) (w : World) (o : Own encIt w lo w.heap.size v I) (hlo : lo ≤ w.heap.size) :
    Calls Tryz.prog 78 #[.agg #[v, .int .i64 X], .agg #[.string N, .int .i64 F, .string B, .int .i64 C, .int .i64 U], .agg #[.int .i64 V, .string N2, .int .i64 F2, .int .i64 U2, .string B2, .int .i64 C2, .int .i64 D2, .bool Q2]] w fun e w' => PostD ⟨I, X⟩ ⟨5, N, F, B, C, 0⟩ lo w e w' := by
  obtain ⟨A0, n0, k0, rfl⟩ := o.slice
  have hzw0 : w.heap.size ≤ w.heap.size := Nat.le_refl _
  go_enter Tryz.func78, Tryz.ntmps78
  have mk1 : Hid True := trivial
  have mk2 : Hid True := trivial
  have mk3 : Hid True := trivial
  have mk4 : Hid True := trivial
  have mk5 : Hid True := trivial
  have mk6 : Hid True := trivial
  have mk7 : Hid True := trivial
  have mk8 : Hid True := trivial
  have mk9 : Hid True := trivial
  have mk10 : Hid True := trivial
  have mk11 : Hid True := trivial
  have mk12 : Hid True := trivial
  have mk13 : Hid True := trivial
  have mk14 : Hid True := trivial
  go_upto_region 3 with (first | (clear mk1; refine wpList_box_v rfl 31 _ rfl [.slice A0 n0 k0, .int .i64 X] rfl ?_; intro b3 w1 hb3 hwb3 hB1 c3; have hz1 : w.heap.size ≤ w1.heap.size := hB1.size; replace o := o.grow hB1; have hB := hB1; have hzw := hB.size; obtain ⟨c30, c31⟩ := cells2 c3) | (clear mk2; refine wpList_box_v rfl 56 _ rfl [.string N, .int .i64 F, .string B, .int .i64 C, .int .i64 U] rfl ?_; intro b4 w2 hb4 hwb4 hB2 c4; have hz2 : w1.heap.size ≤ w2.heap.size := hB2.size; replace o := o.grow hB2; replace c3 := vblk_grow c3 hB2; replace hB := hB.trans (hB2.mono (by omega)); replace hzw := hB.size; clear c30 c31; obtain ⟨c30, c31⟩ := cells2 c3; obtain ⟨c40, c41, c42, c43, c44⟩ := cells5 c4) | (clear mk3; refine wpList_box_v rfl 37 _ rfl [.int .i64 V, .string N2, .int .i64 F2, .int .i64 U2, .string B2, .int .i64 C2, .int .i64 D2, .bool Q2] rfl ?_; intro b5 w3 hb5 hwb5 hB3 c5; have hz3 : w2.heap.size ≤ w3.heap.size := hB3.size; replace o := o.grow hB3; replace c3 := vblk_grow c3 hB3; replace c4 := vblk_grow c4 hB3; replace hB := hB.trans (hB3.mono (by omega)); replace hzw := hB.size; clear c30 c31; obtain ⟨c30, c31⟩ := cells2 c3; clear c40 c41 c42 c43 c44; obtain ⟨c40, c41, c42, c43, c44⟩ := cells5 c4; obtain ⟨c50, c51, c52, c53, c54, c55, c56, c57⟩ := cellsCm c5) | (clear mk4; refine wpList_alloc_v rfl 31 rfl _ zeroBk ?_; intro b6 w4 hb6 hwb6 hB4 c6; have hz4 : w3.heap.size ≤ w4.heap.size := hB4.size; replace o := o.grow hB4; replace c3 := vblk_grow c3 hB4; replace c4 := vblk_grow c4 hB4; replace c5 := vblk_grow c5 hB4; replace hB := hB.trans (hB4.mono (by omega)); replace hzw := hB.size; clear c30 c31; obtain ⟨c30, c31⟩ := cells2 c3; clear c40 c41 c42 c43 c44; obtain ⟨c40, c41, c42, c43, c44⟩ := cells5 c4; clear c50 c51 c52 c53 c54 c55 c56 c57; obtain ⟨c50, c51, c52, c53, c54, c55, c56, c57⟩ := cellsCm c5; obtain ⟨c60, c61⟩ := cells2 c6) | (clear mk5; refine wpList_alloc_v rfl 33 rfl _ zeroRp ?_; intro b7 w5 hb7 hwb7 hB5 c7; have hz5 : w4.heap.size ≤ w5.heap.size := hB5.size; replace o := o.grow hB5; replace c3 := vblk_grow c3 hB5; replace c4 := vblk_grow c4 hB5; replace c5 := vblk_grow c5 hB5; replace c6 := vblk_grow c6 hB5; replace hB := hB.trans (hB5.mono (by omega)); replace hzw := hB.size; clear c30 c31; obtain ⟨c30, c31⟩ := cells2 c3; clear c40 c41 c42 c43 c44; obtain ⟨c40, c41, c42, c43, c44⟩ := cells5 c4; clear c50 c51 c52 c53 c54 c55 c56 c57; obtain ⟨c50, c51, c52, c53, c54, c55, c56, c57⟩ := cellsCm c5; clear c60 c61; obtain ⟨c60, c61⟩ := cells2 c6; obtain ⟨c70, c71, c72, c73, c74, c75⟩ := cellsRp c7) | (clear mk6; refine wpList_load_r rfl 31 _ rfl b3 0 [.slice A0 n0 k0, .int .i64 X] rfl _ Tryz.underlying31 rfl sizeBk c3.range ?_) | (clear mk7; refine wpList_load_r rfl 56 _ rfl b4 0 [.string N, .int .i64 F, .string B, .int .i64 C, .int .i64 U] rfl _ Tryz.underlying56 rfl sizeIt c4.range ?_) | (clear mk8; refine wpList_load_r rfl 37 _ rfl b5 0 [.int .i64 V, .string N2, .int .i64 F2, .int .i64 U2, .string B2, .int .i64 C2, .int .i64 D2, .bool Q2] rfl _ Tryz.underlying37 rfl sizeCm c5.range ?_) | (clear mk9; go_at_call 76; refine (tellValue_any I X N B F C U V N2 F2 U2 B2 C2 D2 Q2 _ lo _ o.top (by omega)).mono ?_; rintro er w6 ⟨v1, rfl, o1, hB6⟩; have hz6 : w5.heap.size ≤ w6.heap.size := hB6.size; replace o := o.grow hB6; replace c3 := vblk_grow c3 hB6; replace c4 := vblk_grow c4 hB6; replace c5 := vblk_grow c5 hB6; replace c6 := vblk_grow c6 hB6; replace c7 := vblk_grow c7 hB6; replace hB := hB.trans (hB6.mono (by omega)); replace hzw := hB.size; clear c30 c31; obtain ⟨c30, c31⟩ := cells2 c3; clear c40 c41 c42 c43 c44; obtain ⟨c40, c41, c42, c43, c44⟩ := cells5 c4; clear c50 c51 c52 c53 c54 c55 c56 c57; obtain ⟨c50, c51, c52, c53, c54, c55, c56, c57⟩ := cellsCm c5; clear c60 c61; obtain ⟨c60, c61⟩ := cells2 c6; clear c70 c71 c72 c73 c74 c75; obtain ⟨c70, c71, c72, c73, c74, c75⟩ := cellsRp c7; obtain ⟨A1, n1, k1, rfl⟩ := o1.slice; clear o1) | (clear mk10; refine wpList_alloc_v rfl 31 rfl _ zeroBk ?_; intro b8 w7 hb8 hwb8 hB7 c8; have hz7 : w6.heap.size ≤ w7.heap.size := hB7.size; replace o := o.grow hB7; replace c3 := vblk_grow c3 hB7; replace c4 := vblk_grow c4 hB7; replace c5 := vblk_grow c5 hB7; replace c6 := vblk_grow c6 hB7; replace c7 := vblk_grow c7 hB7; replace hB := hB.trans (hB7.mono (by omega)); replace hzw := hB.size; clear c30 c31; obtain ⟨c30, c31⟩ := cells2 c3; clear c40 c41 c42 c43 c44; obtain ⟨c40, c41, c42, c43, c44⟩ := cells5 c4; clear c50 c51 c52 c53 c54 c55 c56 c57; obtain ⟨c50, c51, c52, c53, c54, c55, c56, c57⟩ := cellsCm c5; clear c60 c61; obtain ⟨c60, c61⟩ := cells2 c6; clear c70 c71 c72 c73 c74 c75; obtain ⟨c70, c71, c72, c73, c74, c75⟩ := cellsRp c7; obtain ⟨c80, c81⟩ := cells2 c8) | (clear mk11; refine wpList_alloc_v rfl 33 rfl _ zeroRp ?_; intro b9 w8 hb9 hwb9 hB8 c9; have hz8 : w7.heap.size ≤ w8.heap.size := hB8.size; replace o := o.grow hB8; replace c3 := vblk_grow c3 hB8; replace c4 := vblk_grow c4 hB8; replace c5 := vblk_grow c5 hB8; replace c6 := vblk_grow c6 hB8; replace c7 := vblk_grow c7 hB8; replace c8 := vblk_grow c8 hB8; replace hB := hB.trans (hB8.mono (by omega)); replace hzw := hB.size; clear c30 c31; obtain ⟨c30, c31⟩ := cells2 c3; clear c40 c41 c42 c43 c44; obtain ⟨c40, c41, c42, c43, c44⟩ := cells5 c4; clear c50 c51 c52 c53 c54 c55 c56 c57; obtain ⟨c50, c51, c52, c53, c54, c55, c56, c57⟩ := cellsCm c5; clear c60 c61; obtain ⟨c60, c61⟩ := cells2 c6; clear c70 c71 c72 c73 c74 c75; obtain ⟨c70, c71, c72, c73, c74, c75⟩ := cellsRp c7; clear c80 c81; obtain ⟨c80, c81⟩ := cells2 c8; obtain ⟨c90, c91, c92, c93, c94, c95⟩ := cellsRp c9) | (clear mk12; refine wpList_store_v rfl 31 _ _ rfl b8 [.slice A1 n1 k1, .int .i64 X] rfl rfl sizeBk c8 rfl (oneBk _ _ _ _) ?_; intro w9 hO9 c8x; clear c80 c81; have hz9 : w8.heap.size ≤ w9.heap.size := (Nat.le_of_eq hO9.1.symm); have hy9 : w9.heap.size ≤ w8.heap.size := (Nat.le_of_eq hO9.1); replace o := o.only hO9 c8 (by decide); replace c3 := vblk_only c3 hO9 (by omega); replace c4 := vblk_only c4 hO9 (by omega); replace c5 := vblk_only c5 hO9 (by omega); replace c6 := vblk_only c6 hO9 (by omega); replace c7 := vblk_only c7 hO9 (by omega); replace c9 := vblk_only c9 hO9 (by omega); replace hB := hB.trans (hO9.2.2 _ (by omega)); replace hzw := hB.size; clear c30 c31; obtain ⟨c30, c31⟩ := cells2 c3; clear c40 c41 c42 c43 c44; obtain ⟨c40, c41, c42, c43, c44⟩ := cells5 c4; clear c50 c51 c52 c53 c54 c55 c56 c57; obtain ⟨c50, c51, c52, c53, c54, c55, c56, c57⟩ := cellsCm c5; clear c60 c61; obtain ⟨c60, c61⟩ := cells2 c6; clear c70 c71 c72 c73 c74 c75; obtain ⟨c70, c71, c72, c73, c74, c75⟩ := cellsRp c7; clear c90 c91 c92 c93 c94 c95; obtain ⟨c90, c91, c92, c93, c94, c95⟩ := cellsRp c9; clear c8; have c8 := c8x; clear c8x; obtain ⟨c80, c81⟩ := cells2 c8) | (clear mk13; refine wpList_store_v rfl 33 _ _ rfl b9 [.int .i64 5, .string N, .int .i64 F, .string B, .int .i64 0, .int .i64 0] rfl rfl sizeRp c9 rfl (oneRp ⟨5, N, F, B, 0, 0⟩) ?_; intro w10 hO10 c9x; clear c90 c91 c92 c93 c94 c95; have hz10 : w9.heap.size ≤ w10.heap.size := (Nat.le_of_eq hO10.1.symm); have hy10 : w10.heap.size ≤ w9.heap.size := (Nat.le_of_eq hO10.1); replace o := o.only hO10 c9 (by decide); replace c3 := vblk_only c3 hO10 (by omega); replace c4 := vblk_only c4 hO10 (by omega); replace c5 := vblk_only c5 hO10 (by omega); replace c6 := vblk_only c6 hO10 (by omega); replace c7 := vblk_only c7 hO10 (by omega); replace c8 := vblk_only c8 hO10 (by omega); replace hB := hB.trans (hO10.2.2 _ (by omega)); replace hzw := hB.size; clear c30 c31; obtain ⟨c30, c31⟩ := cells2 c3; clear c40 c41 c42 c43 c44; obtain ⟨c40, c41, c42, c43, c44⟩ := cells5 c4; clear c50 c51 c52 c53 c54 c55 c56 c57; obtain ⟨c50, c51, c52, c53, c54, c55, c56, c57⟩ := cellsCm c5; clear c60 c61; obtain ⟨c60, c61⟩ := cells2 c6; clear c70 c71 c72 c73 c74 c75; obtain ⟨c70, c71, c72, c73, c74, c75⟩ := cellsRp c7; clear c80 c81; obtain ⟨c80, c81⟩ := cells2 c8; clear c9; have c9 := c9x; clear c9x; obtain ⟨c90, c91, c92, c93, c94, c95⟩ := cellsRp c9) | (clear mk14; refine wpList_store_cell rfl 2 _ _ rfl b9 4 (.int .i64 C) rfl rfl rfl szI1 c9 (by simp) ?_; intro w11 hO11 c9x; clear c90 c91 c92 c93 c94 c95; have hz11 : w10.heap.size ≤ w11.heap.size := (Nat.le_of_eq hO11.1.symm); have hy11 : w11.heap.size ≤ w10.heap.size := (Nat.le_of_eq hO11.1); replace o := o.only hO11 c9 (by decide); replace c3 := vblk_only c3 hO11 (by omega); replace c4 := vblk_only c4 hO11 (by omega); replace c5 := vblk_only c5 hO11 (by omega); replace c6 := vblk_only c6 hO11 (by omega); replace c7 := vblk_only c7 hO11 (by omega); replace c8 := vblk_only c8 hO11 (by omega); replace hB := hB.trans (hO11.2.2 _ (by omega)); replace hzw := hB.size; clear c30 c31; obtain ⟨c30, c31⟩ := cells2 c3; clear c40 c41 c42 c43 c44; obtain ⟨c40, c41, c42, c43, c44⟩ := cells5 c4; clear c50 c51 c52 c53 c54 c55 c56 c57; obtain ⟨c50, c51, c52, c53, c54, c55, c56, c57⟩ := cellsCm c5; clear c60 c61; obtain ⟨c60, c61⟩ := cells2 c6; clear c70 c71 c72 c73 c74 c75; obtain ⟨c70, c71, c72, c73, c74, c75⟩ := cellsRp c7; clear c80 c81; obtain ⟨c80, c81⟩ := cells2 c8; clear c9; have c9 : VBlk w11 b9 33 [.int .i64 5, .string N, .int .i64 F, .string B, .int .i64 C, .int .i64 0] := c9x; clear c9x; obtain ⟨c90, c91, c92, c93, c94, c95⟩ := cellsRp c9) | (fail))
  have hBd : Below w11.heap.size w11 w11.drew := (Below.refl _ _).drew
  have hzd : w11.drew.heap.size ≤ w11.heap.size := Nat.le_refl _
  have hzd2 : w11.heap.size ≤ w11.drew.heap.size := Nat.le_refl _
  replace o := o.grow hBd
  replace c3 := vblk_grow c3 hBd
  clear c30 c31
  obtain ⟨c30, c31⟩ := cells2 c3
  replace c4 := vblk_grow c4 hBd
  clear c40 c41 c42 c43 c44
  obtain ⟨c40, c41, c42, c43, c44⟩ := cells5 c4
  replace c5 := vblk_grow c5 hBd
  clear c50 c51 c52 c53 c54 c55 c56 c57
  obtain ⟨c50, c51, c52, c53, c54, c55, c56, c57⟩ := cellsCm c5
  replace c6 := vblk_grow c6 hBd
  clear c60 c61
  obtain ⟨c60, c61⟩ := cells2 c6
  replace c7 := vblk_grow c7 hBd
  clear c70 c71 c72 c73 c74 c75
  obtain ⟨c70, c71, c72, c73, c74, c75⟩ := cellsRp c7
  replace c8 := vblk_grow c8 hBd
  clear c80 c81
  obtain ⟨c80, c81⟩ := cells2 c8
  replace c9 := vblk_grow c9 hBd
  clear c90 c91 c92 c93 c94 c95
  obtain ⟨c90, c91, c92, c93, c94, c95⟩ := cellsRp c9
  replace hB := hB.trans (hBd.mono (by omega))
  replace hzw := hB.size
  (try simp only [Act.put])
  (try simp only [List.setIfInBounds_toArray, List.set_cons_zero, List.set_cons_succ])
  clear c30 c31
  clear c40 c41 c42 c43 c44
  clear c50 c51 c52 c53 c54 c55 c56 c57
  clear c60 c61
  clear c70 c71 c72 c73 c74 c75
  clear c80 c81
  clear c90 c91 c92 c93 c94 c95
  refine wp_region_held_drew (S := fun w' => w'.cell? ⟨b3, 0, none⟩ = some (.slice A0 n0 k0) ∧ w'.cell? ⟨b3, 1, none⟩ = some (.int .i64 X) ∧ w'.cell? ⟨b9, 0, none⟩ = some (.int .i64 5) ∧ w'.cell? ⟨b9, 1, none⟩ = some (.string N) ∧ w'.cell? ⟨b9, 2, none⟩ = some (.int .i64 F) ∧ w'.cell? ⟨b9, 3, none⟩ = some (.string B) ∧ w'.cell? ⟨b9, 4, none⟩ = some (.int .i64 C) ∧ w'.cell? ⟨b9, 5, none⟩ = some (.int .i64 0)) (by kernel_rfl) (⟨(cells2 c3).1, (cells2 c3).2, cellsRp c9⟩) (fun hHeld => ?_)
  refine wpAnyH_take (i := 0) (oi := { dst := some 20, op := Op.load 31 (Operand.tmp 3), type := 31, pos := "l13_store.go:56", after := #[], guard := none }) (v := ?_) rfl (by kernel_rfl) (by kernel_rfl) (by kernel_rfl) (fun _ _ _ h => h) (Or.inl ⟨by rfl, ?_⟩) (by assumption) ?_
  rotate_left 1
  · intro w' hSw; (try dsimp only at hSw); go_simp; (try with_reducible rfl)
  (try simp only [Act.put, List.setIfInBounds_toArray, List.set_cons_zero, List.set_cons_succ])
  refine wpAnyH_take (i := 1) (oi := { dst := some 21, op := Op.load 33 (Operand.tmp 9), type := 33, pos := "l13_store.go:56", after := #[{ on := 2, ground := Ground.gcOnly Departure.lateStores }], guard := none }) (v := ?_) rfl (by kernel_rfl) (by kernel_rfl) (by kernel_rfl) (fun _ _ _ h => h) (Or.inl ⟨by rfl, ?_⟩) (by assumption) ?_
  rotate_left 1
  · intro w' hSw; (try dsimp only at hSw); go_simp; (try with_reducible rfl)
  (try simp only [Act.put, List.setIfInBounds_toArray, List.set_cons_zero, List.set_cons_succ])
  refine wpAnyH_ready (rs := [2]) (by kernel_rfl) (by simp) ?_
  refine AllReadyH.cons (o := { dst := none, op := Op.store 31 (Operand.tmp 6) (Operand.tmp 20), type := 0, pos := "l13_store.go:56", after := #[{ on := 0, ground := Ground.data }, { on := 0, ground := Ground.phase }, { on := 1, ground := Ground.textOnly Departure.lateStores }], guard := none }) rfl (fun KC hKC => ?_) AllReadyH.nil
  refine step_store_v rfl 31 _ _ rfl b6 [.slice A0 n0 k0, .int .i64 X] rfl rfl sizeBk c6 rfl (oneBk _ _ _ _) ?_
  intro wr2 hO2r c6x
  have hz2r : w11.drew.heap.size ≤ wr2.heap.size := Nat.le_of_eq hO2r.1.symm
  have hy2r : wr2.heap.size ≤ w11.drew.heap.size := Nat.le_of_eq hO2r.1
  (try replace o := o.only hO2r c6 (by decide))
  replace c3 := vblk_only c3 hO2r (by omega)
  replace c4 := vblk_only c4 hO2r (by omega)
  replace c5 := vblk_only c5 hO2r (by omega)
  replace c7 := vblk_only c7 hO2r (by omega)
  replace c8 := vblk_only c8 hO2r (by omega)
  replace c9 := vblk_only c9 hO2r (by omega)
  clear c6
  have c6 := c6x
  clear c6x
  replace hB := hB.trans (hO2r.2.2 _ (by omega))
  replace hzw := hB.size
  refine hKC.out _ _ (⟨(cells2 c3).1, (cells2 c3).2, cellsRp c9⟩) (fun hHeld2 => ?_)
  clear hKC KC hHeld
  have hHeld := hHeld2
  clear hHeld2
  (try simp only [Act.put])
  refine wpAnyH_ready (rs := [3]) (by kernel_rfl) (by simp) ?_
  refine AllReadyH.cons (o := { dst := none, op := Op.store 33 (Operand.tmp 7) (Operand.tmp 21), type := 0, pos := "l13_store.go:56", after := #[{ on := 1, ground := Ground.data }, { on := 2, ground := Ground.chain }, { on := 0, ground := Ground.phase }, { on := 1, ground := Ground.phase }, { on := 2, ground := Ground.phase }], guard := none }) rfl (fun KC hKC => ?_) AllReadyH.nil
  refine step_store_v rfl 33 _ _ rfl b7 [.int .i64 5, .string N, .int .i64 F, .string B, .int .i64 C, .int .i64 0] rfl rfl sizeRp c7 rfl (oneRp ⟨5, N, F, B, C, 0⟩) ?_
  intro wr3 hO3r c7x
  have hz3r : wr2.heap.size ≤ wr3.heap.size := Nat.le_of_eq hO3r.1.symm
  have hy3r : wr3.heap.size ≤ wr2.heap.size := Nat.le_of_eq hO3r.1
  (try replace o := o.only hO3r c7 (by decide))
  replace c3 := vblk_only c3 hO3r (by omega)
  replace c4 := vblk_only c4 hO3r (by omega)
  replace c5 := vblk_only c5 hO3r (by omega)
  replace c6 := vblk_only c6 hO3r (by omega)
  replace c8 := vblk_only c8 hO3r (by omega)
  replace c9 := vblk_only c9 hO3r (by omega)
  clear c7
  have c7 := c7x
  clear c7x
  replace hB := hB.trans (hO3r.2.2 _ (by omega))
  replace hzw := hB.size
  refine hKC.out _ _ (⟨(cells2 c3).1, (cells2 c3).2, cellsRp c9⟩) (fun hHeld2 => ?_)
  clear hKC KC hHeld
  have hHeld := hHeld2
  clear hHeld2
  (try simp only [Act.put])
  refine wpAnyH_done (by kernel_rfl) ?_ _
  go_wp2
  exact row_cc rfl rfl rfl c6 c7 Tryz.underlying31 Tryz.underlying33 sizeBk sizeRp rfl ⟨_, rfl, (o.wide (Nat.le_refl _) (by omega)).top, hB⟩

set_option maxRecDepth 100000 in
set_option maxHeartbeats 2000000 in
theorem clearAll_any (I : List It) (X : Int) (N B : ByteArray) (F C U : Int) (V : Int) (N2 : ByteArray) (F2 U2 : Int) (B2 : ByteArray) (C2 D2 : Int) (Q2 : Bool) (v : Value) (lo : Nat) (w : World) (o : Own encIt w lo w.heap.size v I) (hlo : lo ≤ w.heap.size) :
    Calls Tryz.prog 88 #[.agg #[v, .int .i64 X], .agg #[.string N, .int .i64 F, .string B, .int .i64 C, .int .i64 U], .agg #[.int .i64 V, .string N2, .int .i64 F2, .int .i64 U2, .string B2, .int .i64 C2, .int .i64 D2, .bool Q2]] w fun e w' => PostD ⟨[], X⟩ (rp 9) lo w e w' := by
  obtain ⟨A0, n0, k0, rfl⟩ := o.slice
  have hzw0 : w.heap.size ≤ w.heap.size := Nat.le_refl _
  go_enter Tryz.func88, Tryz.ntmps88
  have mk1 : Hid True := trivial
  have mk2 : Hid True := trivial
  have mk3 : Hid True := trivial
  have mk4 : Hid True := trivial
  have mk5 : Hid True := trivial
  have mk6 : Hid True := trivial
  have mk7 : Hid True := trivial
  go_wp2_with (first | (clear mk1; refine wpList_box_v rfl 31 _ rfl [.slice A0 n0 k0, .int .i64 X] rfl ?_; intro b3 w1 hb3 hwb3 hB1 c3; have hz1 : w.heap.size ≤ w1.heap.size := hB1.size; replace o := o.grow hB1; have hB := hB1; have hzw := hB.size; obtain ⟨c30, c31⟩ := cells2 c3) | (clear mk2; refine wpList_box_v rfl 56 _ rfl [.string N, .int .i64 F, .string B, .int .i64 C, .int .i64 U] rfl ?_; intro b4 w2 hb4 hwb4 hB2 c4; have hz2 : w1.heap.size ≤ w2.heap.size := hB2.size; replace o := o.grow hB2; replace c3 := vblk_grow c3 hB2; replace hB := hB.trans (hB2.mono (by omega)); replace hzw := hB.size; clear c30 c31; obtain ⟨c30, c31⟩ := cells2 c3; obtain ⟨c40, c41, c42, c43, c44⟩ := cells5 c4) | (clear mk3; refine wpList_box_v rfl 37 _ rfl [.int .i64 V, .string N2, .int .i64 F2, .int .i64 U2, .string B2, .int .i64 C2, .int .i64 D2, .bool Q2] rfl ?_; intro b5 w3 hb5 hwb5 hB3 c5; have hz3 : w2.heap.size ≤ w3.heap.size := hB3.size; replace o := o.grow hB3; replace c3 := vblk_grow c3 hB3; replace c4 := vblk_grow c4 hB3; replace hB := hB.trans (hB3.mono (by omega)); replace hzw := hB.size; clear c30 c31; obtain ⟨c30, c31⟩ := cells2 c3; clear c40 c41 c42 c43 c44; obtain ⟨c40, c41, c42, c43, c44⟩ := cells5 c4; obtain ⟨c50, c51, c52, c53, c54, c55, c56, c57⟩ := cellsCm c5) | (clear mk4; refine wpList_alloc_v rfl 31 rfl _ zeroBk ?_; intro b6 w4 hb6 hwb6 hB4 c6; have hz4 : w3.heap.size ≤ w4.heap.size := hB4.size; replace o := o.grow hB4; replace c3 := vblk_grow c3 hB4; replace c4 := vblk_grow c4 hB4; replace c5 := vblk_grow c5 hB4; replace hB := hB.trans (hB4.mono (by omega)); replace hzw := hB.size; clear c30 c31; obtain ⟨c30, c31⟩ := cells2 c3; clear c40 c41 c42 c43 c44; obtain ⟨c40, c41, c42, c43, c44⟩ := cells5 c4; clear c50 c51 c52 c53 c54 c55 c56 c57; obtain ⟨c50, c51, c52, c53, c54, c55, c56, c57⟩ := cellsCm c5; obtain ⟨c60, c61⟩ := cells2 c6) | (clear mk5; refine wpList_alloc_v rfl 33 rfl _ zeroRp ?_; intro b7 w5 hb7 hwb7 hB5 c7; have hz5 : w4.heap.size ≤ w5.heap.size := hB5.size; replace o := o.grow hB5; replace c3 := vblk_grow c3 hB5; replace c4 := vblk_grow c4 hB5; replace c5 := vblk_grow c5 hB5; replace c6 := vblk_grow c6 hB5; replace hB := hB.trans (hB5.mono (by omega)); replace hzw := hB.size; clear c30 c31; obtain ⟨c30, c31⟩ := cells2 c3; clear c40 c41 c42 c43 c44; obtain ⟨c40, c41, c42, c43, c44⟩ := cells5 c4; clear c50 c51 c52 c53 c54 c55 c56 c57; obtain ⟨c50, c51, c52, c53, c54, c55, c56, c57⟩ := cellsCm c5; clear c60 c61; obtain ⟨c60, c61⟩ := cells2 c6; obtain ⟨c70, c71, c72, c73, c74, c75⟩ := cellsRp c7) | (clear mk6; refine wpList_store_v rfl 31 _ _ rfl b6 [.slice none 0 0, .int .i64 X] rfl rfl sizeBk c6 rfl (oneBk _ _ _ _) ?_; intro w6 hO6 c6x; clear c60 c61; have hz6 : w5.heap.size ≤ w6.heap.size := (Nat.le_of_eq hO6.1.symm); have hy6 : w6.heap.size ≤ w5.heap.size := (Nat.le_of_eq hO6.1); replace o := o.only hO6 c6 (by decide); replace c3 := vblk_only c3 hO6 (by omega); replace c4 := vblk_only c4 hO6 (by omega); replace c5 := vblk_only c5 hO6 (by omega); replace c7 := vblk_only c7 hO6 (by omega); replace hB := hB.trans (hO6.2.2 _ (by omega)); replace hzw := hB.size; clear c30 c31; obtain ⟨c30, c31⟩ := cells2 c3; clear c40 c41 c42 c43 c44; obtain ⟨c40, c41, c42, c43, c44⟩ := cells5 c4; clear c50 c51 c52 c53 c54 c55 c56 c57; obtain ⟨c50, c51, c52, c53, c54, c55, c56, c57⟩ := cellsCm c5; clear c70 c71 c72 c73 c74 c75; obtain ⟨c70, c71, c72, c73, c74, c75⟩ := cellsRp c7; clear c6; have c6 := c6x; clear c6x; obtain ⟨c60, c61⟩ := cells2 c6) | (clear mk7; refine wpList_store_v rfl 33 _ _ rfl b7 [.int .i64 9, .string ⟨#[]⟩, .int .i64 0, .string ⟨#[]⟩, .int .i64 0, .int .i64 0] rfl rfl sizeRp c7 rfl (oneRp (rp 9)) ?_; intro w7 hO7 c7x; clear c70 c71 c72 c73 c74 c75; have hz7 : w6.heap.size ≤ w7.heap.size := (Nat.le_of_eq hO7.1.symm); have hy7 : w7.heap.size ≤ w6.heap.size := (Nat.le_of_eq hO7.1); replace o := o.only hO7 c7 (by decide); replace c3 := vblk_only c3 hO7 (by omega); replace c4 := vblk_only c4 hO7 (by omega); replace c5 := vblk_only c5 hO7 (by omega); replace c6 := vblk_only c6 hO7 (by omega); replace hB := hB.trans (hO7.2.2 _ (by omega)); replace hzw := hB.size; clear c30 c31; obtain ⟨c30, c31⟩ := cells2 c3; clear c40 c41 c42 c43 c44; obtain ⟨c40, c41, c42, c43, c44⟩ := cells5 c4; clear c50 c51 c52 c53 c54 c55 c56 c57; obtain ⟨c50, c51, c52, c53, c54, c55, c56, c57⟩ := cellsCm c5; clear c60 c61; obtain ⟨c60, c61⟩ := cells2 c6; clear c7; have c7 := c7x; clear c7x; obtain ⟨c70, c71, c72, c73, c74, c75⟩ := cellsRp c7) | (fail))
  exact row_cc rfl rfl rfl c6 c7 Tryz.underlying31 Tryz.underlying33 sizeBk sizeRp rfl ⟨_, rfl, own_zero _ _ _ _ _, hB⟩

end Go.Proofs.YtjkkjpgebcnhgaaGreatDoor.rg
/- Contracts: the program's deeds that stamp. -/
namespace Go.Proofs.YtjkkjpgebcnhgaaGreatDoor.rg
open Go.ChangeShapes Go.WideShapes Go.ChangeAt Go.RowKit
open Go.Deep Go.Joins
open Go.Proofs.YtjkkjpgebcnhgaaGreatDoor.ce Go.Proofs.YtjkkjpgebcnhgaaGreatDoor.ro Go.Proofs.YtjkkjpgebcnhgaaGreatDoor.cm
set_option linter.unusedVariables false

theorem szSt1 : (Tryz.prog.info? 9).map (·.size) = some 1 := by kernel_rfl
theorem keep_is {b : Bk} (h : StOk b) (i : It) : stR b i = (keepK b i).1 ∧ (keepK b i).2 = rp (if stB b i = true then 1 else 2) := by
  have hs : storeB b = true := storeB_iff.2 h
  unfold stR stB keepK
  rw [hs, if_pos rfl, Bool.true_and]
  cases stampOk b i <;> exact ⟨rfl, rfl⟩
theorem smK_of {I : List It} {X : Int} (h : StOk ⟨I, X⟩) : SmK I := fun x hx => by
  have := itemB_iff.1 (h.bk.1 x hx)
  have hn : x.N.size ≤ 12 := by
    have h2 := this.nm
    simp [nameB] at h2
    omega
  exact ⟨by omega, by have := this.b1; omega⟩
theorem len_of {I : List It} {X : Int} (h : StOk ⟨I, X⟩) : I.length ≤ 20 := h.bk.2.2
/-- a thing is stored: the book and what is told -/
theorem stamped_k (I : List It) (X : Int) (N B : ByteArray) (F C U : Int) (v : Value) (lo : Nat) (w : World) (o : Own encIt w lo w.heap.size v I) (hlo : lo ≤ w.heap.size) (ok : StOk ⟨I, X⟩) (hN : N.size ≤ 1048576) (hBs : B.size ≤ 1048576) :
    Calls Tryz.prog 28 #[.agg #[v, .int .i64 X], .agg #[.string N, .int .i64 F, .string B, .int .i64 C, .int .i64 U]] w fun e w' => ∃ A n k, ∃ y : Bool, e = .returned (.tuple #[.agg #[.slice A n k, .int .i64 (keepK ⟨I, X⟩ ⟨N, F, B, C, U⟩).1.X], .bool y]) ∧ Own encIt w' lo w'.heap.size (.slice A n k) (keepK ⟨I, X⟩ ⟨N, F, B, C, U⟩).1.I ∧ (keepK ⟨I, X⟩ ⟨N, F, B, C, U⟩).2 = rp (if y = true then 1 else 2) ∧ Below w.heap.size w w' := by
  refine (implStamped_any I X N B F C U v w o.rd (smK_of ok) (by have := len_of ok; omega) hN hBs).mono ?_
  rintro e w' ⟨v', rfl, o', hB⟩
  obtain ⟨h1, h2⟩ := keep_is ok ⟨N, F, B, C, U⟩
  rw [h1] at o' ⊢
  obtain ⟨A, n, k, rfl⟩ := o'.slice
  exact ⟨A, n, k, _, rfl, o'.wide hlo (Nat.le_refl _), h2, hB⟩
set_option maxRecDepth 100000 in
set_option maxHeartbeats 2000000 in
theorem stamp_any (I : List It) (X : Int) (N B : ByteArray) (F C U : Int) (v : Value) (lo : Nat) (w : World) (o : Own encIt w lo w.heap.size v I) (hlo : lo ≤ w.heap.size) (ok : StOk ⟨I, X⟩) (hN : N.size ≤ 1048576) (hBs : B.size ≤ 1048576) :
    Calls Tryz.prog 110 #[.agg #[v, .int .i64 X], .agg #[.string N, .int .i64 F, .string B, .int .i64 C, .int .i64 U]] w fun e w' => PostD (keepK ⟨I, X⟩ ⟨N, F, B, C, U⟩).1 (keepK ⟨I, X⟩ ⟨N, F, B, C, U⟩).2 lo w e w' := by
  obtain ⟨A0, n0, k0, rfl⟩ := o.slice
  have hzw0 : w.heap.size ≤ w.heap.size := Nat.le_refl _
  have HS := fun v lo w o h => stamped_k I X N B F C U v lo w o h ok hN hBs
  obtain ⟨⟨⟨J, Y⟩, r⟩, hR⟩ := hid_ex (keepK ⟨I, X⟩ ⟨N, F, B, C, U⟩)
  unfold PostD
  rw [hR.out] at HS ⊢
  have HH : Hid _ := HS
  clear HS hR
  dsimp only at HH ⊢
  go_enter Tryz.func110, Tryz.ntmps110
  have mk1 : Hid True := trivial
  have mk2 : Hid True := trivial
  have mk3 : Hid True := trivial
  have mk4 : Hid True := trivial
  have mk5 : Hid True := trivial
  have mk6 : Hid True := trivial
  have mk7 : Hid True := trivial
  have mk8 : Hid True := trivial
  go_upto_region 2 with (first | (clear mk1; refine wpList_box_v rfl 31 _ rfl [.slice A0 n0 k0, .int .i64 X] rfl ?_; intro b3 w1 hb3 hwb3 hB1 c3; have hz1 : w.heap.size ≤ w1.heap.size := hB1.size; replace o := o.grow hB1; have hB := hB1; have hzw := hB.size; obtain ⟨c30, c31⟩ := cells2 c3) | (clear mk2; refine wpList_box_v rfl 56 _ rfl [.string N, .int .i64 F, .string B, .int .i64 C, .int .i64 U] rfl ?_; intro b4 w2 hb4 hwb4 hB2 c4; have hz2 : w1.heap.size ≤ w2.heap.size := hB2.size; replace o := o.grow hB2; replace c3 := vblk_grow c3 hB2; replace hB := hB.trans (hB2.mono (by omega)); replace hzw := hB.size; clear c30 c31; obtain ⟨c30, c31⟩ := cells2 c3; obtain ⟨c40, c41, c42, c43, c44⟩ := cells5 c4) | (clear mk3; refine wpList_alloc_v rfl 31 rfl _ zeroBk ?_; intro b6 w3 hb6 hwb6 hB3 c6; have hz3 : w2.heap.size ≤ w3.heap.size := hB3.size; replace o := o.grow hB3; replace c3 := vblk_grow c3 hB3; replace c4 := vblk_grow c4 hB3; replace hB := hB.trans (hB3.mono (by omega)); replace hzw := hB.size; clear c30 c31; obtain ⟨c30, c31⟩ := cells2 c3; clear c40 c41 c42 c43 c44; obtain ⟨c40, c41, c42, c43, c44⟩ := cells5 c4; obtain ⟨c60, c61⟩ := cells2 c6) | (clear mk4; refine wpList_alloc_v rfl 33 rfl _ zeroRp ?_; intro b7 w4 hb7 hwb7 hB4 c7; have hz4 : w3.heap.size ≤ w4.heap.size := hB4.size; replace o := o.grow hB4; replace c3 := vblk_grow c3 hB4; replace c4 := vblk_grow c4 hB4; replace c6 := vblk_grow c6 hB4; replace hB := hB.trans (hB4.mono (by omega)); replace hzw := hB.size; clear c30 c31; obtain ⟨c30, c31⟩ := cells2 c3; clear c40 c41 c42 c43 c44; obtain ⟨c40, c41, c42, c43, c44⟩ := cells5 c4; clear c60 c61; obtain ⟨c60, c61⟩ := cells2 c6; obtain ⟨c70, c71, c72, c73, c74, c75⟩ := cellsRp c7) | (clear mk5; refine wpList_load_r rfl 31 _ rfl b3 0 [.slice A0 n0 k0, .int .i64 X] rfl _ Tryz.underlying31 rfl sizeBk c3.range ?_) | (clear mk6; refine wpList_load_r rfl 56 _ rfl b4 0 [.string N, .int .i64 F, .string B, .int .i64 C, .int .i64 U] rfl _ Tryz.underlying56 rfl sizeIt c4.range ?_) | (clear mk7; go_at_call 28; refine (HH.out _ lo _ o.top (by omega)).mono ?_; rintro er w5 ⟨A1, n1, k1, y, rfl, o1, hr, hB5⟩; have hz5 : w4.heap.size ≤ w5.heap.size := hB5.size; replace c3 := vblk_grow c3 hB5; replace c4 := vblk_grow c4 hB5; replace c6 := vblk_grow c6 hB5; replace c7 := vblk_grow c7 hB5; replace hB := hB.trans (hB5.mono (by omega)); replace hzw := hB.size; clear c30 c31; obtain ⟨c30, c31⟩ := cells2 c3; clear c40 c41 c42 c43 c44; obtain ⟨c40, c41, c42, c43, c44⟩ := cells5 c4; clear c60 c61; obtain ⟨c60, c61⟩ := cells2 c6; clear c70 c71 c72 c73 c74 c75; obtain ⟨c70, c71, c72, c73, c74, c75⟩ := cellsRp c7; have hr2 : Hid _ := hr; clear hr) | (clear mk8; refine wpList_store_v rfl 31 _ _ rfl b3 [.slice A1 n1 k1, .int .i64 Y] rfl rfl sizeBk c3 rfl (oneBk _ _ _ _) ?_; intro w6 hO6 c3x; clear c30 c31; have hz6 : w5.heap.size ≤ w6.heap.size := (Nat.le_of_eq hO6.1.symm); have hy6 : w6.heap.size ≤ w5.heap.size := (Nat.le_of_eq hO6.1); replace o1 := o1.only hO6 c3 (by decide); replace c4 := vblk_only c4 hO6 (by omega); replace c6 := vblk_only c6 hO6 (by omega); replace c7 := vblk_only c7 hO6 (by omega); replace hB := hB.trans (hO6.2.2 _ (by omega)); replace hzw := hB.size; clear c40 c41 c42 c43 c44; obtain ⟨c40, c41, c42, c43, c44⟩ := cells5 c4; clear c60 c61; obtain ⟨c60, c61⟩ := cells2 c6; clear c70 c71 c72 c73 c74 c75; obtain ⟨c70, c71, c72, c73, c74, c75⟩ := cellsRp c7; clear c3; have c3 := c3x; clear c3x; obtain ⟨c30, c31⟩ := cells2 c3) | (fail))
  cases y with
  | false =>
    have mk9 : Hid True := trivial
    have mk10 : Hid True := trivial
    have mk11 : Hid True := trivial
    go_wp2_with (first | (clear mk9; refine wpList_load_r rfl 31 _ rfl b3 0 [.slice A1 n1 k1, .int .i64 Y] rfl _ Tryz.underlying31 rfl sizeBk c3.range ?_) | (clear mk10; refine wpList_store_v rfl 31 _ _ rfl b6 [.slice A1 n1 k1, .int .i64 Y] rfl rfl sizeBk c6 rfl (oneBk _ _ _ _) ?_; intro w7 hO7 c6x; clear c60 c61; have hz7 : w6.heap.size ≤ w7.heap.size := (Nat.le_of_eq hO7.1.symm); have hy7 : w7.heap.size ≤ w6.heap.size := (Nat.le_of_eq hO7.1); replace o1 := o1.only hO7 c6 (by decide); replace c4 := vblk_only c4 hO7 (by omega); replace c7 := vblk_only c7 hO7 (by omega); replace c3 := vblk_only c3 hO7 (by omega); replace hB := hB.trans (hO7.2.2 _ (by omega)); replace hzw := hB.size; clear c40 c41 c42 c43 c44; obtain ⟨c40, c41, c42, c43, c44⟩ := cells5 c4; clear c70 c71 c72 c73 c74 c75; obtain ⟨c70, c71, c72, c73, c74, c75⟩ := cellsRp c7; clear c30 c31; obtain ⟨c30, c31⟩ := cells2 c3; clear c6; have c6 := c6x; clear c6x; obtain ⟨c60, c61⟩ := cells2 c6) | (clear mk11; refine wpList_store_v rfl 33 _ _ rfl b7 [.int .i64 2, .string ⟨#[]⟩, .int .i64 0, .string ⟨#[]⟩, .int .i64 0, .int .i64 0] rfl rfl sizeRp c7 rfl (oneRp (rp 2)) ?_; intro w8 hO8 c7x; clear c70 c71 c72 c73 c74 c75; have hz8 : w7.heap.size ≤ w8.heap.size := (Nat.le_of_eq hO8.1.symm); have hy8 : w8.heap.size ≤ w7.heap.size := (Nat.le_of_eq hO8.1); replace o1 := o1.only hO8 c7 (by decide); replace c4 := vblk_only c4 hO8 (by omega); replace c3 := vblk_only c3 hO8 (by omega); replace c6 := vblk_only c6 hO8 (by omega); replace hB := hB.trans (hO8.2.2 _ (by omega)); replace hzw := hB.size; clear c40 c41 c42 c43 c44; obtain ⟨c40, c41, c42, c43, c44⟩ := cells5 c4; clear c30 c31; obtain ⟨c30, c31⟩ := cells2 c3; clear c60 c61; obtain ⟨c60, c61⟩ := cells2 c6; clear c7; have c7 := c7x; clear c7x; obtain ⟨c70, c71, c72, c73, c74, c75⟩ := cellsRp c7) | (fail))
    refine row_cc rfl rfl rfl c6 c7 Tryz.underlying31 Tryz.underlying33 sizeBk sizeRp rfl ⟨_, ?_, (o1.wide (Nat.le_refl _) (by omega)).top, hB⟩
    rw [hr2.out]
    rfl
  | true =>
    have mk9 : Hid True := trivial
    have mk10 : Hid True := trivial
    have mk11 : Hid True := trivial
    go_wp2_with (first | (clear mk9; refine wpList_load_r rfl 31 _ rfl b3 0 [.slice A1 n1 k1, .int .i64 Y] rfl _ Tryz.underlying31 rfl sizeBk c3.range ?_) | (clear mk10; refine wpList_store_v rfl 31 _ _ rfl b6 [.slice A1 n1 k1, .int .i64 Y] rfl rfl sizeBk c6 rfl (oneBk _ _ _ _) ?_; intro w7 hO7 c6x; clear c60 c61; have hz7 : w6.heap.size ≤ w7.heap.size := (Nat.le_of_eq hO7.1.symm); have hy7 : w7.heap.size ≤ w6.heap.size := (Nat.le_of_eq hO7.1); replace o1 := o1.only hO7 c6 (by decide); replace c4 := vblk_only c4 hO7 (by omega); replace c7 := vblk_only c7 hO7 (by omega); replace c3 := vblk_only c3 hO7 (by omega); replace hB := hB.trans (hO7.2.2 _ (by omega)); replace hzw := hB.size; clear c40 c41 c42 c43 c44; obtain ⟨c40, c41, c42, c43, c44⟩ := cells5 c4; clear c70 c71 c72 c73 c74 c75; obtain ⟨c70, c71, c72, c73, c74, c75⟩ := cellsRp c7; clear c30 c31; obtain ⟨c30, c31⟩ := cells2 c3; clear c6; have c6 := c6x; clear c6x; obtain ⟨c60, c61⟩ := cells2 c6) | (clear mk11; refine wpList_store_v rfl 33 _ _ rfl b7 [.int .i64 1, .string ⟨#[]⟩, .int .i64 0, .string ⟨#[]⟩, .int .i64 0, .int .i64 0] rfl rfl sizeRp c7 rfl (oneRp (rp 1)) ?_; intro w8 hO8 c7x; clear c70 c71 c72 c73 c74 c75; have hz8 : w7.heap.size ≤ w8.heap.size := (Nat.le_of_eq hO8.1.symm); have hy8 : w8.heap.size ≤ w7.heap.size := (Nat.le_of_eq hO8.1); replace o1 := o1.only hO8 c7 (by decide); replace c4 := vblk_only c4 hO8 (by omega); replace c3 := vblk_only c3 hO8 (by omega); replace c6 := vblk_only c6 hO8 (by omega); replace hB := hB.trans (hO8.2.2 _ (by omega)); replace hzw := hB.size; clear c40 c41 c42 c43 c44; obtain ⟨c40, c41, c42, c43, c44⟩ := cells5 c4; clear c30 c31; obtain ⟨c30, c31⟩ := cells2 c3; clear c60 c61; obtain ⟨c60, c61⟩ := cells2 c6; clear c7; have c7 := c7x; clear c7x; obtain ⟨c70, c71, c72, c73, c74, c75⟩ := cellsRp c7) | (fail))
    refine row_cc rfl rfl rfl c6 c7 Tryz.underlying31 Tryz.underlying33 sizeBk sizeRp rfl ⟨_, ?_, (o1.wide (Nat.le_refl _) (by omega)).top, hB⟩
    rw [hr2.out]
    rfl

set_option maxRecDepth 100000 in
set_option maxHeartbeats 2000000 in
theorem store_any (I : List It) (X : Int) (N B : ByteArray) (F C U : Int) (V : Int) (N2 : ByteArray) (F2 U2 : Int) (B2 : ByteArray) (C2 D2 : Int) (Q2 : Bool) (v : Value) (lo : Nat) (w : World) (o : Own encIt w lo w.heap.size v I) (hlo : lo ≤ w.heap.size) (ok : StOk ⟨I, X⟩) (hN : N.size ≤ 1048576) (hBs : B.size ≤ 1048576) (hN2 : N2.size ≤ 1048576) (hB2 : B2.size ≤ 1048576) :
    Calls Tryz.prog 79 #[.agg #[v, .int .i64 X], .agg #[.string N, .int .i64 F, .string B, .int .i64 C, .int .i64 U], .agg #[.int .i64 V, .string N2, .int .i64 F2, .int .i64 U2, .string B2, .int .i64 C2, .int .i64 D2, .bool Q2]] w fun e w' => PostD (keepK ⟨I, X⟩ ⟨N2, F2, B2, 0, U2⟩).1 (keepK ⟨I, X⟩ ⟨N2, F2, B2, 0, U2⟩).2 lo w e w' := by
  obtain ⟨A0, n0, k0, rfl⟩ := o.slice
  have hzw0 : w.heap.size ≤ w.heap.size := Nat.le_refl _
  have HS := fun v lo w o h => stamp_any I X N2 B2 F2 0 U2 v lo w o h ok hN2 hB2
  obtain ⟨⟨⟨J, Y⟩, ⟨r1, r2, r3, r4, r5, r6⟩⟩, hR⟩ := hid_ex (keepK ⟨I, X⟩ ⟨N2, F2, B2, 0, U2⟩)
  unfold PostD at HS ⊢
  rw [hR.out] at HS ⊢
  have HH : Hid _ := HS
  clear HS hR
  dsimp only [csRp] at HH ⊢
  have hzw0 : w.heap.size ≤ w.heap.size := Nat.le_refl _
  go_enter Tryz.func79, Tryz.ntmps79
  have mk1 : Hid True := trivial
  have mk2 : Hid True := trivial
  have mk3 : Hid True := trivial
  have mk4 : Hid True := trivial
  have mk5 : Hid True := trivial
  have mk6 : Hid True := trivial
  have mk7 : Hid True := trivial
  have mk8 : Hid True := trivial
  have mk9 : Hid True := trivial
  go_wp2_with (first | (clear mk1; refine wpList_box_v rfl 31 _ rfl [.slice A0 n0 k0, .int .i64 X] rfl ?_; intro b3 w1 hb3 hwb3 hB1 c3; have hz1 : w.heap.size ≤ w1.heap.size := hB1.size; replace o := o.grow hB1; have hB := hB1; have hzw := hB.size; obtain ⟨c30, c31⟩ := cells2 c3) | (clear mk2; refine wpList_box_v rfl 56 _ rfl [.string N, .int .i64 F, .string B, .int .i64 C, .int .i64 U] rfl ?_; intro b4 w2 hb4 hwb4 hB2 c4; have hz2 : w1.heap.size ≤ w2.heap.size := hB2.size; replace o := o.grow hB2; replace c3 := vblk_grow c3 hB2; replace hB := hB.trans (hB2.mono (by omega)); replace hzw := hB.size; clear c30 c31; obtain ⟨c30, c31⟩ := cells2 c3; obtain ⟨c40, c41, c42, c43, c44⟩ := cells5 c4) | (clear mk3; refine wpList_box_v rfl 37 _ rfl [.int .i64 V, .string N2, .int .i64 F2, .int .i64 U2, .string B2, .int .i64 C2, .int .i64 D2, .bool Q2] rfl ?_; intro b5 w3 hb5 hwb5 hB3 c5; have hz3 : w2.heap.size ≤ w3.heap.size := hB3.size; replace o := o.grow hB3; replace c3 := vblk_grow c3 hB3; replace c4 := vblk_grow c4 hB3; replace hB := hB.trans (hB3.mono (by omega)); replace hzw := hB.size; clear c30 c31; obtain ⟨c30, c31⟩ := cells2 c3; clear c40 c41 c42 c43 c44; obtain ⟨c40, c41, c42, c43, c44⟩ := cells5 c4; obtain ⟨c50, c51, c52, c53, c54, c55, c56, c57⟩ := cellsCm c5) | (clear mk4; refine wpList_alloc_v rfl 31 rfl _ zeroBk ?_; intro b6 w4 hb6 hwb6 hB4 c6; have hz4 : w3.heap.size ≤ w4.heap.size := hB4.size; replace o := o.grow hB4; replace c3 := vblk_grow c3 hB4; replace c4 := vblk_grow c4 hB4; replace c5 := vblk_grow c5 hB4; replace hB := hB.trans (hB4.mono (by omega)); replace hzw := hB.size; clear c30 c31; obtain ⟨c30, c31⟩ := cells2 c3; clear c40 c41 c42 c43 c44; obtain ⟨c40, c41, c42, c43, c44⟩ := cells5 c4; clear c50 c51 c52 c53 c54 c55 c56 c57; obtain ⟨c50, c51, c52, c53, c54, c55, c56, c57⟩ := cellsCm c5; obtain ⟨c60, c61⟩ := cells2 c6) | (clear mk5; refine wpList_alloc_v rfl 33 rfl _ zeroRp ?_; intro b7 w5 hb7 hwb7 hB5 c7; have hz5 : w4.heap.size ≤ w5.heap.size := hB5.size; replace o := o.grow hB5; replace c3 := vblk_grow c3 hB5; replace c4 := vblk_grow c4 hB5; replace c5 := vblk_grow c5 hB5; replace c6 := vblk_grow c6 hB5; replace hB := hB.trans (hB5.mono (by omega)); replace hzw := hB.size; clear c30 c31; obtain ⟨c30, c31⟩ := cells2 c3; clear c40 c41 c42 c43 c44; obtain ⟨c40, c41, c42, c43, c44⟩ := cells5 c4; clear c50 c51 c52 c53 c54 c55 c56 c57; obtain ⟨c50, c51, c52, c53, c54, c55, c56, c57⟩ := cellsCm c5; clear c60 c61; obtain ⟨c60, c61⟩ := cells2 c6; obtain ⟨c70, c71, c72, c73, c74, c75⟩ := cellsRp c7) | (clear mk6; refine wpList_load_r rfl 31 _ rfl b3 0 [.slice A0 n0 k0, .int .i64 X] rfl _ Tryz.underlying31 rfl sizeBk c3.range ?_) | (clear mk7; go_at_call 110; refine (HH.out _ lo _ o.top (by omega)).mono ?_; rintro er w6 ⟨v1, rfl, o1, hB6⟩; have hz6 : w5.heap.size ≤ w6.heap.size := hB6.size; replace c3 := vblk_grow c3 hB6; replace c4 := vblk_grow c4 hB6; replace c5 := vblk_grow c5 hB6; replace c6 := vblk_grow c6 hB6; replace c7 := vblk_grow c7 hB6; replace hB := hB.trans (hB6.mono (by omega)); replace hzw := hB.size; clear c30 c31; obtain ⟨c30, c31⟩ := cells2 c3; clear c40 c41 c42 c43 c44; obtain ⟨c40, c41, c42, c43, c44⟩ := cells5 c4; clear c50 c51 c52 c53 c54 c55 c56 c57; obtain ⟨c50, c51, c52, c53, c54, c55, c56, c57⟩ := cellsCm c5; clear c60 c61; obtain ⟨c60, c61⟩ := cells2 c6; clear c70 c71 c72 c73 c74 c75; obtain ⟨c70, c71, c72, c73, c74, c75⟩ := cellsRp c7; obtain ⟨A1, n1, k1, rfl⟩ := o1.slice) | (clear mk8; refine wpList_store_v rfl 31 _ _ rfl b6 [.slice A1 n1 k1, .int .i64 Y] rfl rfl sizeBk c6 rfl (oneBk _ _ _ _) ?_; intro w7 hO7 c6x; clear c60 c61; have hz7 : w6.heap.size ≤ w7.heap.size := (Nat.le_of_eq hO7.1.symm); have hy7 : w7.heap.size ≤ w6.heap.size := (Nat.le_of_eq hO7.1); replace o1 := o1.only hO7 c6 (by decide); replace c3 := vblk_only c3 hO7 (by omega); replace c4 := vblk_only c4 hO7 (by omega); replace c5 := vblk_only c5 hO7 (by omega); replace c7 := vblk_only c7 hO7 (by omega); replace hB := hB.trans (hO7.2.2 _ (by omega)); replace hzw := hB.size; clear c30 c31; obtain ⟨c30, c31⟩ := cells2 c3; clear c40 c41 c42 c43 c44; obtain ⟨c40, c41, c42, c43, c44⟩ := cells5 c4; clear c50 c51 c52 c53 c54 c55 c56 c57; obtain ⟨c50, c51, c52, c53, c54, c55, c56, c57⟩ := cellsCm c5; clear c70 c71 c72 c73 c74 c75; obtain ⟨c70, c71, c72, c73, c74, c75⟩ := cellsRp c7; clear c6; have c6 := c6x; clear c6x; obtain ⟨c60, c61⟩ := cells2 c6) | (clear mk9; refine wpList_store_v rfl 33 _ _ rfl b7 [.int .i64 r1, .string r2, .int .i64 r3, .string r4, .int .i64 r5, .int .i64 r6] rfl rfl sizeRp c7 rfl (oneRp ⟨r1, r2, r3, r4, r5, r6⟩) ?_; intro w8 hO8 c7x; clear c70 c71 c72 c73 c74 c75; have hz8 : w7.heap.size ≤ w8.heap.size := (Nat.le_of_eq hO8.1.symm); have hy8 : w8.heap.size ≤ w7.heap.size := (Nat.le_of_eq hO8.1); replace o1 := o1.only hO8 c7 (by decide); replace c3 := vblk_only c3 hO8 (by omega); replace c4 := vblk_only c4 hO8 (by omega); replace c5 := vblk_only c5 hO8 (by omega); replace c6 := vblk_only c6 hO8 (by omega); replace hB := hB.trans (hO8.2.2 _ (by omega)); replace hzw := hB.size; clear c30 c31; obtain ⟨c30, c31⟩ := cells2 c3; clear c40 c41 c42 c43 c44; obtain ⟨c40, c41, c42, c43, c44⟩ := cells5 c4; clear c50 c51 c52 c53 c54 c55 c56 c57; obtain ⟨c50, c51, c52, c53, c54, c55, c56, c57⟩ := cellsCm c5; clear c60 c61; obtain ⟨c60, c61⟩ := cells2 c6; clear c7; have c7 := c7x; clear c7x; obtain ⟨c70, c71, c72, c73, c74, c75⟩ := cellsRp c7) | (fail))
  exact row_cc rfl rfl rfl c6 c7 Tryz.underlying31 Tryz.underlying33 sizeBk sizeRp rfl ⟨_, rfl, (o1.wide (Nat.le_refl _) (by omega)).top, hB⟩

set_option maxRecDepth 100000 in
set_option maxHeartbeats 2000000 in
theorem storeIfSame_any (I : List It) (X : Int) (N B : ByteArray) (F C U : Int) (V : Int) (N2 : ByteArray) (F2 U2 : Int) (B2 : ByteArray) (C2 D2 : Int) (Q2 : Bool) (v : Value) (lo : Nat) (w : World) (o : Own encIt w lo w.heap.size v I) (hlo : lo ≤ w.heap.size) (ok : StOk ⟨I, X⟩) (hN : N.size ≤ 1048576) (hBs : B.size ≤ 1048576) (hN2 : N2.size ≤ 1048576) (hB2 : B2.size ≤ 1048576) :
    Calls Tryz.prog 83 #[.agg #[v, .int .i64 X], .agg #[.string N, .int .i64 F, .string B, .int .i64 C, .int .i64 U], .agg #[.int .i64 V, .string N2, .int .i64 F2, .int .i64 U2, .string B2, .int .i64 C2, .int .i64 D2, .bool Q2]] w fun e w' => PostD (if C = C2 then keepK ⟨I, X⟩ ⟨N2, F2, B2, 0, U2⟩ else (⟨I, X⟩, rp 3)).1 (if C = C2 then keepK ⟨I, X⟩ ⟨N2, F2, B2, 0, U2⟩ else (⟨I, X⟩, rp 3)).2 lo w e w' := by
  obtain ⟨A0, n0, k0, rfl⟩ := o.slice
  by_cases hc : C = C2
  · subst hc
    have hcc : (C != C) = false := by simp
    rw [if_pos rfl]
    have hzw0 : w.heap.size ≤ w.heap.size := Nat.le_refl _
    have HS := fun v lo w o h => store_any I X N B F C U V N2 F2 U2 B2 C D2 Q2 v lo w o h ok hN hBs hN2 hB2
    obtain ⟨⟨⟨J, Y⟩, ⟨r1, r2, r3, r4, r5, r6⟩⟩, hR⟩ := hid_ex (keepK ⟨I, X⟩ ⟨N2, F2, B2, 0, U2⟩)
    unfold PostD at HS ⊢
    rw [hR.out] at HS ⊢
    have HH : Hid _ := HS
    clear HS hR
    dsimp only [csRp] at HH ⊢
    have hzw0 : w.heap.size ≤ w.heap.size := Nat.le_refl _
    go_enter Tryz.func83, Tryz.ntmps83
    have mk1 : Hid True := trivial
    have mk2 : Hid True := trivial
    have mk3 : Hid True := trivial
    have mk4 : Hid True := trivial
    have mk5 : Hid True := trivial
    have mk6 : Hid True := trivial
    have mk7 : Hid True := trivial
    have mk8 : Hid True := trivial
    have mk9 : Hid True := trivial
    have mk10 : Hid True := trivial
    have mk11 : Hid True := trivial
    go_wp2_with (first | (clear mk1; refine wpList_box_v rfl 31 _ rfl [.slice A0 n0 k0, .int .i64 X] rfl ?_; intro b3 w1 hb3 hwb3 hB1 c3; have hz1 : w.heap.size ≤ w1.heap.size := hB1.size; replace o := o.grow hB1; have hB := hB1; have hzw := hB.size; obtain ⟨c30, c31⟩ := cells2 c3) | (clear mk2; refine wpList_box_v rfl 56 _ rfl [.string N, .int .i64 F, .string B, .int .i64 C, .int .i64 U] rfl ?_; intro b4 w2 hb4 hwb4 hB2 c4; have hz2 : w1.heap.size ≤ w2.heap.size := hB2.size; replace o := o.grow hB2; replace c3 := vblk_grow c3 hB2; replace hB := hB.trans (hB2.mono (by omega)); replace hzw := hB.size; clear c30 c31; obtain ⟨c30, c31⟩ := cells2 c3; obtain ⟨c40, c41, c42, c43, c44⟩ := cells5 c4) | (clear mk3; refine wpList_box_v rfl 37 _ rfl [.int .i64 V, .string N2, .int .i64 F2, .int .i64 U2, .string B2, .int .i64 C, .int .i64 D2, .bool Q2] rfl ?_; intro b5 w3 hb5 hwb5 hB3 c5; have hz3 : w2.heap.size ≤ w3.heap.size := hB3.size; replace o := o.grow hB3; replace c3 := vblk_grow c3 hB3; replace c4 := vblk_grow c4 hB3; replace hB := hB.trans (hB3.mono (by omega)); replace hzw := hB.size; clear c30 c31; obtain ⟨c30, c31⟩ := cells2 c3; clear c40 c41 c42 c43 c44; obtain ⟨c40, c41, c42, c43, c44⟩ := cells5 c4; obtain ⟨c50, c51, c52, c53, c54, c55, c56, c57⟩ := cellsCm c5) | (clear mk4; refine wpList_alloc_v rfl 31 rfl _ zeroBk ?_; intro b6 w4 hb6 hwb6 hB4 c6; have hz4 : w3.heap.size ≤ w4.heap.size := hB4.size; replace o := o.grow hB4; replace c3 := vblk_grow c3 hB4; replace c4 := vblk_grow c4 hB4; replace c5 := vblk_grow c5 hB4; replace hB := hB.trans (hB4.mono (by omega)); replace hzw := hB.size; clear c30 c31; obtain ⟨c30, c31⟩ := cells2 c3; clear c40 c41 c42 c43 c44; obtain ⟨c40, c41, c42, c43, c44⟩ := cells5 c4; clear c50 c51 c52 c53 c54 c55 c56 c57; obtain ⟨c50, c51, c52, c53, c54, c55, c56, c57⟩ := cellsCm c5; obtain ⟨c60, c61⟩ := cells2 c6) | (clear mk5; refine wpList_alloc_v rfl 33 rfl _ zeroRp ?_; intro b7 w5 hb7 hwb7 hB5 c7; have hz5 : w4.heap.size ≤ w5.heap.size := hB5.size; replace o := o.grow hB5; replace c3 := vblk_grow c3 hB5; replace c4 := vblk_grow c4 hB5; replace c5 := vblk_grow c5 hB5; replace c6 := vblk_grow c6 hB5; replace hB := hB.trans (hB5.mono (by omega)); replace hzw := hB.size; clear c30 c31; obtain ⟨c30, c31⟩ := cells2 c3; clear c40 c41 c42 c43 c44; obtain ⟨c40, c41, c42, c43, c44⟩ := cells5 c4; clear c50 c51 c52 c53 c54 c55 c56 c57; obtain ⟨c50, c51, c52, c53, c54, c55, c56, c57⟩ := cellsCm c5; clear c60 c61; obtain ⟨c60, c61⟩ := cells2 c6; obtain ⟨c70, c71, c72, c73, c74, c75⟩ := cellsRp c7) | (clear mk6; refine wpList_load_r rfl 31 _ rfl b3 0 [.slice A0 n0 k0, .int .i64 X] rfl _ Tryz.underlying31 rfl sizeBk c3.range ?_) | (clear mk7; refine wpList_load_r rfl 56 _ rfl b4 0 [.string N, .int .i64 F, .string B, .int .i64 C, .int .i64 U] rfl _ Tryz.underlying56 rfl sizeIt c4.range ?_) | (clear mk8; refine wpList_load_r rfl 37 _ rfl b5 0 [.int .i64 V, .string N2, .int .i64 F2, .int .i64 U2, .string B2, .int .i64 C, .int .i64 D2, .bool Q2] rfl _ Tryz.underlying37 rfl sizeCm c5.range ?_) | (clear mk9; go_at_call 79; refine (HH.out _ lo _ o.top (by omega)).mono ?_; rintro er w6 ⟨v1, rfl, o1, hB6⟩; have hz6 : w5.heap.size ≤ w6.heap.size := hB6.size; replace c3 := vblk_grow c3 hB6; replace c4 := vblk_grow c4 hB6; replace c5 := vblk_grow c5 hB6; replace c6 := vblk_grow c6 hB6; replace c7 := vblk_grow c7 hB6; replace hB := hB.trans (hB6.mono (by omega)); replace hzw := hB.size; clear c30 c31; obtain ⟨c30, c31⟩ := cells2 c3; clear c40 c41 c42 c43 c44; obtain ⟨c40, c41, c42, c43, c44⟩ := cells5 c4; clear c50 c51 c52 c53 c54 c55 c56 c57; obtain ⟨c50, c51, c52, c53, c54, c55, c56, c57⟩ := cellsCm c5; clear c60 c61; obtain ⟨c60, c61⟩ := cells2 c6; clear c70 c71 c72 c73 c74 c75; obtain ⟨c70, c71, c72, c73, c74, c75⟩ := cellsRp c7; obtain ⟨A1, n1, k1, rfl⟩ := o1.slice) | (clear mk10; refine wpList_store_v rfl 31 _ _ rfl b6 [.slice A1 n1 k1, .int .i64 Y] rfl rfl sizeBk c6 rfl (oneBk _ _ _ _) ?_; intro w7 hO7 c6x; clear c60 c61; have hz7 : w6.heap.size ≤ w7.heap.size := (Nat.le_of_eq hO7.1.symm); have hy7 : w7.heap.size ≤ w6.heap.size := (Nat.le_of_eq hO7.1); replace o1 := o1.only hO7 c6 (by decide); replace c3 := vblk_only c3 hO7 (by omega); replace c4 := vblk_only c4 hO7 (by omega); replace c5 := vblk_only c5 hO7 (by omega); replace c7 := vblk_only c7 hO7 (by omega); replace hB := hB.trans (hO7.2.2 _ (by omega)); replace hzw := hB.size; clear c30 c31; obtain ⟨c30, c31⟩ := cells2 c3; clear c40 c41 c42 c43 c44; obtain ⟨c40, c41, c42, c43, c44⟩ := cells5 c4; clear c50 c51 c52 c53 c54 c55 c56 c57; obtain ⟨c50, c51, c52, c53, c54, c55, c56, c57⟩ := cellsCm c5; clear c70 c71 c72 c73 c74 c75; obtain ⟨c70, c71, c72, c73, c74, c75⟩ := cellsRp c7; clear c6; have c6 := c6x; clear c6x; obtain ⟨c60, c61⟩ := cells2 c6) | (clear mk11; refine wpList_store_v rfl 33 _ _ rfl b7 [.int .i64 r1, .string r2, .int .i64 r3, .string r4, .int .i64 r5, .int .i64 r6] rfl rfl sizeRp c7 rfl (oneRp ⟨r1, r2, r3, r4, r5, r6⟩) ?_; intro w8 hO8 c7x; clear c70 c71 c72 c73 c74 c75; have hz8 : w7.heap.size ≤ w8.heap.size := (Nat.le_of_eq hO8.1.symm); have hy8 : w8.heap.size ≤ w7.heap.size := (Nat.le_of_eq hO8.1); replace o1 := o1.only hO8 c7 (by decide); replace c3 := vblk_only c3 hO8 (by omega); replace c4 := vblk_only c4 hO8 (by omega); replace c5 := vblk_only c5 hO8 (by omega); replace c6 := vblk_only c6 hO8 (by omega); replace hB := hB.trans (hO8.2.2 _ (by omega)); replace hzw := hB.size; clear c30 c31; obtain ⟨c30, c31⟩ := cells2 c3; clear c40 c41 c42 c43 c44; obtain ⟨c40, c41, c42, c43, c44⟩ := cells5 c4; clear c50 c51 c52 c53 c54 c55 c56 c57; obtain ⟨c50, c51, c52, c53, c54, c55, c56, c57⟩ := cellsCm c5; clear c60 c61; obtain ⟨c60, c61⟩ := cells2 c6; clear c7; have c7 := c7x; clear c7x; obtain ⟨c70, c71, c72, c73, c74, c75⟩ := cellsRp c7) | (fail))
    exact row_cc rfl rfl rfl c6 c7 Tryz.underlying31 Tryz.underlying33 sizeBk sizeRp rfl ⟨_, rfl, (o1.wide (Nat.le_refl _) (by omega)).top, hB⟩
  have hcc : (C != C2) = true := by simpa using hc
  rw [if_neg hc]
  have hzw0 : w.heap.size ≤ w.heap.size := Nat.le_refl _
  go_enter Tryz.func83, Tryz.ntmps83
  have mk1 : Hid True := trivial
  have mk2 : Hid True := trivial
  have mk3 : Hid True := trivial
  have mk4 : Hid True := trivial
  have mk5 : Hid True := trivial
  have mk6 : Hid True := trivial
  have mk7 : Hid True := trivial
  have mk8 : Hid True := trivial
  go_wp2_with (first | (clear mk1; refine wpList_box_v rfl 31 _ rfl [.slice A0 n0 k0, .int .i64 X] rfl ?_; intro b3 w1 hb3 hwb3 hB1 c3; have hz1 : w.heap.size ≤ w1.heap.size := hB1.size; replace o := o.grow hB1; have hB := hB1; have hzw := hB.size; obtain ⟨c30, c31⟩ := cells2 c3) | (clear mk2; refine wpList_box_v rfl 56 _ rfl [.string N, .int .i64 F, .string B, .int .i64 C, .int .i64 U] rfl ?_; intro b4 w2 hb4 hwb4 hB2 c4; have hz2 : w1.heap.size ≤ w2.heap.size := hB2.size; replace o := o.grow hB2; replace c3 := vblk_grow c3 hB2; replace hB := hB.trans (hB2.mono (by omega)); replace hzw := hB.size; clear c30 c31; obtain ⟨c30, c31⟩ := cells2 c3; obtain ⟨c40, c41, c42, c43, c44⟩ := cells5 c4) | (clear mk3; refine wpList_box_v rfl 37 _ rfl [.int .i64 V, .string N2, .int .i64 F2, .int .i64 U2, .string B2, .int .i64 C2, .int .i64 D2, .bool Q2] rfl ?_; intro b5 w3 hb5 hwb5 hB3 c5; have hz3 : w2.heap.size ≤ w3.heap.size := hB3.size; replace o := o.grow hB3; replace c3 := vblk_grow c3 hB3; replace c4 := vblk_grow c4 hB3; replace hB := hB.trans (hB3.mono (by omega)); replace hzw := hB.size; clear c30 c31; obtain ⟨c30, c31⟩ := cells2 c3; clear c40 c41 c42 c43 c44; obtain ⟨c40, c41, c42, c43, c44⟩ := cells5 c4; obtain ⟨c50, c51, c52, c53, c54, c55, c56, c57⟩ := cellsCm c5) | (clear mk4; refine wpList_alloc_v rfl 31 rfl _ zeroBk ?_; intro b6 w4 hb6 hwb6 hB4 c6; have hz4 : w3.heap.size ≤ w4.heap.size := hB4.size; replace o := o.grow hB4; replace c3 := vblk_grow c3 hB4; replace c4 := vblk_grow c4 hB4; replace c5 := vblk_grow c5 hB4; replace hB := hB.trans (hB4.mono (by omega)); replace hzw := hB.size; clear c30 c31; obtain ⟨c30, c31⟩ := cells2 c3; clear c40 c41 c42 c43 c44; obtain ⟨c40, c41, c42, c43, c44⟩ := cells5 c4; clear c50 c51 c52 c53 c54 c55 c56 c57; obtain ⟨c50, c51, c52, c53, c54, c55, c56, c57⟩ := cellsCm c5; obtain ⟨c60, c61⟩ := cells2 c6) | (clear mk5; refine wpList_alloc_v rfl 33 rfl _ zeroRp ?_; intro b7 w5 hb7 hwb7 hB5 c7; have hz5 : w4.heap.size ≤ w5.heap.size := hB5.size; replace o := o.grow hB5; replace c3 := vblk_grow c3 hB5; replace c4 := vblk_grow c4 hB5; replace c5 := vblk_grow c5 hB5; replace c6 := vblk_grow c6 hB5; replace hB := hB.trans (hB5.mono (by omega)); replace hzw := hB.size; clear c30 c31; obtain ⟨c30, c31⟩ := cells2 c3; clear c40 c41 c42 c43 c44; obtain ⟨c40, c41, c42, c43, c44⟩ := cells5 c4; clear c50 c51 c52 c53 c54 c55 c56 c57; obtain ⟨c50, c51, c52, c53, c54, c55, c56, c57⟩ := cellsCm c5; clear c60 c61; obtain ⟨c60, c61⟩ := cells2 c6; obtain ⟨c70, c71, c72, c73, c74, c75⟩ := cellsRp c7) | (clear mk6; refine wpList_load_r rfl 31 _ rfl b3 0 [.slice A0 n0 k0, .int .i64 X] rfl _ Tryz.underlying31 rfl sizeBk c3.range ?_) | (clear mk7; refine wpList_store_v rfl 31 _ _ rfl b6 [.slice A0 n0 k0, .int .i64 X] rfl rfl sizeBk c6 rfl (oneBk _ _ _ _) ?_; intro w6 hO6 c6x; clear c60 c61; have hz6 : w5.heap.size ≤ w6.heap.size := (Nat.le_of_eq hO6.1.symm); have hy6 : w6.heap.size ≤ w5.heap.size := (Nat.le_of_eq hO6.1); replace o := o.only hO6 c6 (by decide); replace c3 := vblk_only c3 hO6 (by omega); replace c4 := vblk_only c4 hO6 (by omega); replace c5 := vblk_only c5 hO6 (by omega); replace c7 := vblk_only c7 hO6 (by omega); replace hB := hB.trans (hO6.2.2 _ (by omega)); replace hzw := hB.size; clear c30 c31; obtain ⟨c30, c31⟩ := cells2 c3; clear c40 c41 c42 c43 c44; obtain ⟨c40, c41, c42, c43, c44⟩ := cells5 c4; clear c50 c51 c52 c53 c54 c55 c56 c57; obtain ⟨c50, c51, c52, c53, c54, c55, c56, c57⟩ := cellsCm c5; clear c70 c71 c72 c73 c74 c75; obtain ⟨c70, c71, c72, c73, c74, c75⟩ := cellsRp c7; clear c6; have c6 := c6x; clear c6x; obtain ⟨c60, c61⟩ := cells2 c6) | (clear mk8; refine wpList_store_v rfl 33 _ _ rfl b7 [.int .i64 3, .string ⟨#[]⟩, .int .i64 0, .string ⟨#[]⟩, .int .i64 0, .int .i64 0] rfl rfl sizeRp c7 rfl (oneRp (rp 3)) ?_; intro w7 hO7 c7x; clear c70 c71 c72 c73 c74 c75; have hz7 : w6.heap.size ≤ w7.heap.size := (Nat.le_of_eq hO7.1.symm); have hy7 : w7.heap.size ≤ w6.heap.size := (Nat.le_of_eq hO7.1); replace o := o.only hO7 c7 (by decide); replace c3 := vblk_only c3 hO7 (by omega); replace c4 := vblk_only c4 hO7 (by omega); replace c5 := vblk_only c5 hO7 (by omega); replace c6 := vblk_only c6 hO7 (by omega); replace hB := hB.trans (hO7.2.2 _ (by omega)); replace hzw := hB.size; clear c30 c31; obtain ⟨c30, c31⟩ := cells2 c3; clear c40 c41 c42 c43 c44; obtain ⟨c40, c41, c42, c43, c44⟩ := cells5 c4; clear c50 c51 c52 c53 c54 c55 c56 c57; obtain ⟨c50, c51, c52, c53, c54, c55, c56, c57⟩ := cellsCm c5; clear c60 c61; obtain ⟨c60, c61⟩ := cells2 c6; clear c7; have c7 := c7x; clear c7x; obtain ⟨c70, c71, c72, c73, c74, c75⟩ := cellsRp c7) | (fail))
  exact row_cc rfl rfl rfl c6 c7 Tryz.underlying31 Tryz.underlying33 sizeBk sizeRp rfl ⟨_, rfl, (o.wide (Nat.le_refl _) (by omega)).top, hB⟩

end Go.Proofs.YtjkkjpgebcnhgaaGreatDoor.rg
/- Contracts: the program's deeds that put bytes together. -/
namespace Go.Proofs.YtjkkjpgebcnhgaaGreatDoor.rg
open Go.ChangeShapes Go.WideShapes Go.ChangeAt Go.RowKit
open Go.Deep Go.Joins
open Go.Proofs.YtjkkjpgebcnhgaaGreatDoor.ce Go.Proofs.YtjkkjpgebcnhgaaGreatDoor.ro Go.Proofs.YtjkkjpgebcnhgaaGreatDoor.cm
set_option linter.unusedVariables false

set_option maxRecDepth 100000 in
set_option maxHeartbeats 2000000 in
theorem putTogether_any (I : List It) (X : Int) (N B : ByteArray) (F C U : Int) (S : ByteArray) (hS : S.size ≤ 4194304) (v : Value) (lo : Nat) (w : World) (o : Own encIt w lo w.heap.size v I) (hlo : lo ≤ w.heap.size) (ok : StOk ⟨I, X⟩) (hN : N.size ≤ 1048576) :
    Calls Tryz.prog 111 #[.agg #[v, .int .i64 X], .agg #[.string N, .int .i64 F, .string B, .int .i64 C, .int .i64 U], .string S] w fun e w' => PostD (if S.size > 64 then ((⟨I, X⟩, rp 12) : Bk × Rp) else keepK ⟨I, X⟩ ⟨N, F, S, C, U⟩).1 (if S.size > 64 then ((⟨I, X⟩, rp 12) : Bk × Rp) else keepK ⟨I, X⟩ ⟨N, F, S, C, U⟩).2 lo w e w' := by
  obtain ⟨A0, n0, k0, rfl⟩ := o.slice
  by_cases hs : S.size > 64
  · have hss : decide ((64 : Int) < (S.size : Int)) = true := decide_eq_true (by omega)
    rw [if_pos hs]
    have hzw0 : w.heap.size ≤ w.heap.size := Nat.le_refl _
    go_enter Tryz.func111, Tryz.ntmps111
    have mk1 : Hid True := trivial
    have mk2 : Hid True := trivial
    have mk3 : Hid True := trivial
    have mk4 : Hid True := trivial
    have mk5 : Hid True := trivial
    have mk6 : Hid True := trivial
    have mk7 : Hid True := trivial
    go_wp2_with (first | (clear mk1; refine wpList_box_v rfl 31 _ rfl [.slice A0 n0 k0, .int .i64 X] rfl ?_; intro b3 w1 hb3 hwb3 hB1 c3; have hz1 : w.heap.size ≤ w1.heap.size := hB1.size; replace o := o.grow hB1; have hB := hB1; have hzw := hB.size; obtain ⟨c30, c31⟩ := cells2 c3) | (clear mk2; refine wpList_box_v rfl 56 _ rfl [.string N, .int .i64 F, .string B, .int .i64 C, .int .i64 U] rfl ?_; intro b4 w2 hb4 hwb4 hB2 c4; have hz2 : w1.heap.size ≤ w2.heap.size := hB2.size; replace o := o.grow hB2; replace c3 := vblk_grow c3 hB2; replace hB := hB.trans (hB2.mono (by omega)); replace hzw := hB.size; clear c30 c31; obtain ⟨c30, c31⟩ := cells2 c3; obtain ⟨c40, c41, c42, c43, c44⟩ := cells5 c4) | (clear mk3; refine wpList_alloc_v rfl 31 rfl _ zeroBk ?_; intro b6 w3 hb6 hwb6 hB3 c6; have hz3 : w2.heap.size ≤ w3.heap.size := hB3.size; replace o := o.grow hB3; replace c3 := vblk_grow c3 hB3; replace c4 := vblk_grow c4 hB3; replace hB := hB.trans (hB3.mono (by omega)); replace hzw := hB.size; clear c30 c31; obtain ⟨c30, c31⟩ := cells2 c3; clear c40 c41 c42 c43 c44; obtain ⟨c40, c41, c42, c43, c44⟩ := cells5 c4; obtain ⟨c60, c61⟩ := cells2 c6) | (clear mk4; refine wpList_alloc_v rfl 33 rfl _ zeroRp ?_; intro b7 w4 hb7 hwb7 hB4 c7; have hz4 : w3.heap.size ≤ w4.heap.size := hB4.size; replace o := o.grow hB4; replace c3 := vblk_grow c3 hB4; replace c4 := vblk_grow c4 hB4; replace c6 := vblk_grow c6 hB4; replace hB := hB.trans (hB4.mono (by omega)); replace hzw := hB.size; clear c30 c31; obtain ⟨c30, c31⟩ := cells2 c3; clear c40 c41 c42 c43 c44; obtain ⟨c40, c41, c42, c43, c44⟩ := cells5 c4; clear c60 c61; obtain ⟨c60, c61⟩ := cells2 c6; obtain ⟨c70, c71, c72, c73, c74, c75⟩ := cellsRp c7) | (clear mk5; refine wpList_load_r rfl 31 _ rfl b3 0 [.slice A0 n0 k0, .int .i64 X] rfl _ Tryz.underlying31 rfl sizeBk c3.range ?_) | (clear mk6; refine wpList_store_v rfl 31 _ _ rfl b6 [.slice A0 n0 k0, .int .i64 X] rfl rfl sizeBk c6 rfl (oneBk _ _ _ _) ?_; intro w5 hO5 c6x; clear c60 c61; have hz5 : w4.heap.size ≤ w5.heap.size := (Nat.le_of_eq hO5.1.symm); have hy5 : w5.heap.size ≤ w4.heap.size := (Nat.le_of_eq hO5.1); replace o := o.only hO5 c6 (by decide); replace c3 := vblk_only c3 hO5 (by omega); replace c4 := vblk_only c4 hO5 (by omega); replace c7 := vblk_only c7 hO5 (by omega); replace hB := hB.trans (hO5.2.2 _ (by omega)); replace hzw := hB.size; clear c30 c31; obtain ⟨c30, c31⟩ := cells2 c3; clear c40 c41 c42 c43 c44; obtain ⟨c40, c41, c42, c43, c44⟩ := cells5 c4; clear c70 c71 c72 c73 c74 c75; obtain ⟨c70, c71, c72, c73, c74, c75⟩ := cellsRp c7; clear c6; have c6 := c6x; clear c6x; obtain ⟨c60, c61⟩ := cells2 c6) | (clear mk7; refine wpList_store_v rfl 33 _ _ rfl b7 [.int .i64 12, .string ⟨#[]⟩, .int .i64 0, .string ⟨#[]⟩, .int .i64 0, .int .i64 0] rfl rfl sizeRp c7 rfl (oneRp (rp 12)) ?_; intro w6 hO6 c7x; clear c70 c71 c72 c73 c74 c75; have hz6 : w5.heap.size ≤ w6.heap.size := (Nat.le_of_eq hO6.1.symm); have hy6 : w6.heap.size ≤ w5.heap.size := (Nat.le_of_eq hO6.1); replace o := o.only hO6 c7 (by decide); replace c3 := vblk_only c3 hO6 (by omega); replace c4 := vblk_only c4 hO6 (by omega); replace c6 := vblk_only c6 hO6 (by omega); replace hB := hB.trans (hO6.2.2 _ (by omega)); replace hzw := hB.size; clear c30 c31; obtain ⟨c30, c31⟩ := cells2 c3; clear c40 c41 c42 c43 c44; obtain ⟨c40, c41, c42, c43, c44⟩ := cells5 c4; clear c60 c61; obtain ⟨c60, c61⟩ := cells2 c6; clear c7; have c7 := c7x; clear c7x; obtain ⟨c70, c71, c72, c73, c74, c75⟩ := cellsRp c7) | (fail))
    exact row_cc rfl rfl rfl c6 c7 Tryz.underlying31 Tryz.underlying33 sizeBk sizeRp rfl ⟨_, rfl, (o.wide (Nat.le_refl _) (by omega)).top, hB⟩
  have hss : decide ((64 : Int) < (S.size : Int)) = false := decide_eq_false (by omega)
  rw [if_neg hs]
  have hzw0 : w.heap.size ≤ w.heap.size := Nat.le_refl _
  have HS := fun v lo w o h => stamp_any I X N S F C U v lo w o h ok hN (by omega)
  obtain ⟨⟨⟨J, Y⟩, ⟨r1, r2, r3, r4, r5, r6⟩⟩, hR⟩ := hid_ex (keepK ⟨I, X⟩ ⟨N, F, S, C, U⟩)
  unfold PostD at HS ⊢
  rw [hR.out] at HS ⊢
  have HH : Hid _ := HS
  clear HS hR
  dsimp only [csRp] at HH ⊢
  have hzw0 : w.heap.size ≤ w.heap.size := Nat.le_refl _
  go_enter Tryz.func111, Tryz.ntmps111
  have mk1 : Hid True := trivial
  have mk2 : Hid True := trivial
  have mk3 : Hid True := trivial
  have mk4 : Hid True := trivial
  have mk5 : Hid True := trivial
  have mk6 : Hid True := trivial
  have mk7 : Hid True := trivial
  have mk8 : Hid True := trivial
  have mk9 : Hid True := trivial
  have mk10 : Hid True := trivial
  go_wp2_with (first | (clear mk1; refine wpList_box_v rfl 31 _ rfl [.slice A0 n0 k0, .int .i64 X] rfl ?_; intro b3 w1 hb3 hwb3 hB1 c3; have hz1 : w.heap.size ≤ w1.heap.size := hB1.size; replace o := o.grow hB1; have hB := hB1; have hzw := hB.size; obtain ⟨c30, c31⟩ := cells2 c3) | (clear mk2; refine wpList_box_v rfl 56 _ rfl [.string N, .int .i64 F, .string B, .int .i64 C, .int .i64 U] rfl ?_; intro b4 w2 hb4 hwb4 hB2 c4; have hz2 : w1.heap.size ≤ w2.heap.size := hB2.size; replace o := o.grow hB2; replace c3 := vblk_grow c3 hB2; replace hB := hB.trans (hB2.mono (by omega)); replace hzw := hB.size; clear c30 c31; obtain ⟨c30, c31⟩ := cells2 c3; obtain ⟨c40, c41, c42, c43, c44⟩ := cells5 c4) | (clear mk3; refine wpList_alloc_v rfl 31 rfl _ zeroBk ?_; intro b6 w3 hb6 hwb6 hB3 c6; have hz3 : w2.heap.size ≤ w3.heap.size := hB3.size; replace o := o.grow hB3; replace c3 := vblk_grow c3 hB3; replace c4 := vblk_grow c4 hB3; replace hB := hB.trans (hB3.mono (by omega)); replace hzw := hB.size; clear c30 c31; obtain ⟨c30, c31⟩ := cells2 c3; clear c40 c41 c42 c43 c44; obtain ⟨c40, c41, c42, c43, c44⟩ := cells5 c4; obtain ⟨c60, c61⟩ := cells2 c6) | (clear mk4; refine wpList_alloc_v rfl 33 rfl _ zeroRp ?_; intro b7 w4 hb7 hwb7 hB4 c7; have hz4 : w3.heap.size ≤ w4.heap.size := hB4.size; replace o := o.grow hB4; replace c3 := vblk_grow c3 hB4; replace c4 := vblk_grow c4 hB4; replace c6 := vblk_grow c6 hB4; replace hB := hB.trans (hB4.mono (by omega)); replace hzw := hB.size; clear c30 c31; obtain ⟨c30, c31⟩ := cells2 c3; clear c40 c41 c42 c43 c44; obtain ⟨c40, c41, c42, c43, c44⟩ := cells5 c4; clear c60 c61; obtain ⟨c60, c61⟩ := cells2 c6; obtain ⟨c70, c71, c72, c73, c74, c75⟩ := cellsRp c7) | (clear mk5; refine wpList_store_cell rfl 9 _ _ rfl b4 2 (.string S) rfl rfl rfl szSt1 c4 (by simp) ?_; intro w5 hO5 c4x; clear c40 c41 c42 c43 c44; have hz5 : w4.heap.size ≤ w5.heap.size := (Nat.le_of_eq hO5.1.symm); have hy5 : w5.heap.size ≤ w4.heap.size := (Nat.le_of_eq hO5.1); replace o := o.below (hO5.2.2 b4 (Nat.le_refl _)) (by omega); replace c3 := vblk_only c3 hO5 (by omega); replace c6 := vblk_only c6 hO5 (by omega); replace c7 := vblk_only c7 hO5 (by omega); replace hB := hB.trans (hO5.2.2 _ (by omega)); replace hzw := hB.size; clear c30 c31; obtain ⟨c30, c31⟩ := cells2 c3; clear c60 c61; obtain ⟨c60, c61⟩ := cells2 c6; clear c70 c71 c72 c73 c74 c75; obtain ⟨c70, c71, c72, c73, c74, c75⟩ := cellsRp c7; clear c4; have c4 : VBlk w5 b4 56 [.string N, .int .i64 F, .string S, .int .i64 C, .int .i64 U] := c4x; clear c4x; obtain ⟨c40, c41, c42, c43, c44⟩ := cells5 c4) | (clear mk6; refine wpList_load_r rfl 31 _ rfl b3 0 [.slice A0 n0 k0, .int .i64 X] rfl _ Tryz.underlying31 rfl sizeBk c3.range ?_) | (clear mk7; refine wpList_load_r rfl 56 _ rfl b4 0 [.string N, .int .i64 F, .string S, .int .i64 C, .int .i64 U] rfl _ Tryz.underlying56 rfl sizeIt c4.range ?_) | (clear mk8; go_at_call 110; refine (HH.out _ lo _ o.top (by omega)).mono ?_; rintro er w6 ⟨v1, rfl, o1, hB6⟩; have hz6 : w5.heap.size ≤ w6.heap.size := hB6.size; replace c3 := vblk_grow c3 hB6; replace c6 := vblk_grow c6 hB6; replace c7 := vblk_grow c7 hB6; replace c4 := vblk_grow c4 hB6; replace hB := hB.trans (hB6.mono (by omega)); replace hzw := hB.size; clear c30 c31; obtain ⟨c30, c31⟩ := cells2 c3; clear c60 c61; obtain ⟨c60, c61⟩ := cells2 c6; clear c70 c71 c72 c73 c74 c75; obtain ⟨c70, c71, c72, c73, c74, c75⟩ := cellsRp c7; clear c40 c41 c42 c43 c44; obtain ⟨c40, c41, c42, c43, c44⟩ := cells5 c4; obtain ⟨A1, n1, k1, rfl⟩ := o1.slice) | (clear mk9; refine wpList_store_v rfl 31 _ _ rfl b6 [.slice A1 n1 k1, .int .i64 Y] rfl rfl sizeBk c6 rfl (oneBk _ _ _ _) ?_; intro w7 hO7 c6x; clear c60 c61; have hz7 : w6.heap.size ≤ w7.heap.size := (Nat.le_of_eq hO7.1.symm); have hy7 : w7.heap.size ≤ w6.heap.size := (Nat.le_of_eq hO7.1); replace o1 := o1.only hO7 c6 (by decide); replace c3 := vblk_only c3 hO7 (by omega); replace c7 := vblk_only c7 hO7 (by omega); replace c4 := vblk_only c4 hO7 (by omega); replace hB := hB.trans (hO7.2.2 _ (by omega)); replace hzw := hB.size; clear c30 c31; obtain ⟨c30, c31⟩ := cells2 c3; clear c70 c71 c72 c73 c74 c75; obtain ⟨c70, c71, c72, c73, c74, c75⟩ := cellsRp c7; clear c40 c41 c42 c43 c44; obtain ⟨c40, c41, c42, c43, c44⟩ := cells5 c4; clear c6; have c6 := c6x; clear c6x; obtain ⟨c60, c61⟩ := cells2 c6) | (clear mk10; refine wpList_store_v rfl 33 _ _ rfl b7 [.int .i64 r1, .string r2, .int .i64 r3, .string r4, .int .i64 r5, .int .i64 r6] rfl rfl sizeRp c7 rfl (oneRp ⟨r1, r2, r3, r4, r5, r6⟩) ?_; intro w8 hO8 c7x; clear c70 c71 c72 c73 c74 c75; have hz8 : w7.heap.size ≤ w8.heap.size := (Nat.le_of_eq hO8.1.symm); have hy8 : w8.heap.size ≤ w7.heap.size := (Nat.le_of_eq hO8.1); replace o1 := o1.only hO8 c7 (by decide); replace c3 := vblk_only c3 hO8 (by omega); replace c4 := vblk_only c4 hO8 (by omega); replace c6 := vblk_only c6 hO8 (by omega); replace hB := hB.trans (hO8.2.2 _ (by omega)); replace hzw := hB.size; clear c30 c31; obtain ⟨c30, c31⟩ := cells2 c3; clear c40 c41 c42 c43 c44; obtain ⟨c40, c41, c42, c43, c44⟩ := cells5 c4; clear c60 c61; obtain ⟨c60, c61⟩ := cells2 c6; clear c7; have c7 := c7x; clear c7x; obtain ⟨c70, c71, c72, c73, c74, c75⟩ := cellsRp c7) | (fail))
  exact row_cc rfl rfl rfl c6 c7 Tryz.underlying31 Tryz.underlying33 sizeBk sizeRp rfl ⟨_, rfl, (o1.wide (Nat.le_refl _) (by omega)).top, hB⟩

set_option maxRecDepth 100000 in
set_option maxHeartbeats 2000000 in
theorem putBehind_any (I : List It) (X : Int) (N B : ByteArray) (F C U : Int) (V : Int) (N2 : ByteArray) (F2 U2 : Int) (B2 : ByteArray) (C2 D2 : Int) (Q2 : Bool) (v : Value) (lo : Nat) (w : World) (o : Own encIt w lo w.heap.size v I) (hlo : lo ≤ w.heap.size) (ok : StOk ⟨I, X⟩) (hN : N.size ≤ 1048576) (hBs : B.size ≤ 1048576) (hN2 : N2.size ≤ 1048576) (hB2 : B2.size ≤ 1048576) :
    Calls Tryz.prog 81 #[.agg #[v, .int .i64 X], .agg #[.string N, .int .i64 F, .string B, .int .i64 C, .int .i64 U], .agg #[.int .i64 V, .string N2, .int .i64 F2, .int .i64 U2, .string B2, .int .i64 C2, .int .i64 D2, .bool Q2]] w fun e w' => PostD (if (B ++ B2).size > 64 then ((⟨I, X⟩, rp 12) : Bk × Rp) else keepK ⟨I, X⟩ ⟨N, F, B ++ B2, C, U⟩).1 (if (B ++ B2).size > 64 then ((⟨I, X⟩, rp 12) : Bk × Rp) else keepK ⟨I, X⟩ ⟨N, F, B ++ B2, C, U⟩).2 lo w e w' := by
  obtain ⟨A0, n0, k0, rfl⟩ := o.slice
  obtain ⟨S, hSx⟩ := hid_ex (B ++ B2)
  have hSz : S.size ≤ 4194304 := by rw [← hSx.out]; simp [ByteArray.size_append]; omega
  rw [hSx.out]
  replace hSx := hSx.out
  have hSn : B.size + B2.size ≤ 4194304 := by omega
  have hSn2 : B2.size + B.size ≤ 4194304 := by omega
  have hzw0 : w.heap.size ≤ w.heap.size := Nat.le_refl _
  have HS := fun v lo w o h => putTogether_any I X N B F C U S hSz v lo w o h ok hN
  obtain ⟨⟨⟨J, Y⟩, ⟨r1, r2, r3, r4, r5, r6⟩⟩, hR⟩ := hid_ex (if S.size > 64 then ((⟨I, X⟩, rp 12) : Bk × Rp) else keepK ⟨I, X⟩ ⟨N, F, S, C, U⟩)
  unfold PostD at HS ⊢
  rw [hR.out] at HS ⊢
  have HH : Hid _ := HS
  clear HS hR
  dsimp only [csRp] at HH ⊢
  have hzw0 : w.heap.size ≤ w.heap.size := Nat.le_refl _
  go_enter Tryz.func81, Tryz.ntmps81
  have mk1 : Hid True := trivial
  have mk2 : Hid True := trivial
  have mk3 : Hid True := trivial
  have mk4 : Hid True := trivial
  have mk5 : Hid True := trivial
  have mk6 : Hid True := trivial
  have mk7 : Hid True := trivial
  have mk8 : Hid True := trivial
  have mk9 : Hid True := trivial
  have mk10 : Hid True := trivial
  go_wp2_with (first | (clear mk1; refine wpList_box_v rfl 31 _ rfl [.slice A0 n0 k0, .int .i64 X] rfl ?_; intro b3 w1 hb3 hwb3 hB1 c3; have hz1 : w.heap.size ≤ w1.heap.size := hB1.size; replace o := o.grow hB1; have hB := hB1; have hzw := hB.size; obtain ⟨c30, c31⟩ := cells2 c3) | (clear mk2; refine wpList_box_v rfl 56 _ rfl [.string N, .int .i64 F, .string B, .int .i64 C, .int .i64 U] rfl ?_; intro b4 w2 hb4 hwb4 hB2 c4; have hz2 : w1.heap.size ≤ w2.heap.size := hB2.size; replace o := o.grow hB2; replace c3 := vblk_grow c3 hB2; replace hB := hB.trans (hB2.mono (by omega)); replace hzw := hB.size; clear c30 c31; obtain ⟨c30, c31⟩ := cells2 c3; obtain ⟨c40, c41, c42, c43, c44⟩ := cells5 c4) | (clear mk3; refine wpList_box_v rfl 37 _ rfl [.int .i64 V, .string N2, .int .i64 F2, .int .i64 U2, .string B2, .int .i64 C2, .int .i64 D2, .bool Q2] rfl ?_; intro b5 w3 hb5 hwb5 hB3 c5; have hz3 : w2.heap.size ≤ w3.heap.size := hB3.size; replace o := o.grow hB3; replace c3 := vblk_grow c3 hB3; replace c4 := vblk_grow c4 hB3; replace hB := hB.trans (hB3.mono (by omega)); replace hzw := hB.size; clear c30 c31; obtain ⟨c30, c31⟩ := cells2 c3; clear c40 c41 c42 c43 c44; obtain ⟨c40, c41, c42, c43, c44⟩ := cells5 c4; obtain ⟨c50, c51, c52, c53, c54, c55, c56, c57⟩ := cellsCm c5) | (clear mk4; refine wpList_alloc_v rfl 31 rfl _ zeroBk ?_; intro b6 w4 hb6 hwb6 hB4 c6; have hz4 : w3.heap.size ≤ w4.heap.size := hB4.size; replace o := o.grow hB4; replace c3 := vblk_grow c3 hB4; replace c4 := vblk_grow c4 hB4; replace c5 := vblk_grow c5 hB4; replace hB := hB.trans (hB4.mono (by omega)); replace hzw := hB.size; clear c30 c31; obtain ⟨c30, c31⟩ := cells2 c3; clear c40 c41 c42 c43 c44; obtain ⟨c40, c41, c42, c43, c44⟩ := cells5 c4; clear c50 c51 c52 c53 c54 c55 c56 c57; obtain ⟨c50, c51, c52, c53, c54, c55, c56, c57⟩ := cellsCm c5; obtain ⟨c60, c61⟩ := cells2 c6) | (clear mk5; refine wpList_alloc_v rfl 33 rfl _ zeroRp ?_; intro b7 w5 hb7 hwb7 hB5 c7; have hz5 : w4.heap.size ≤ w5.heap.size := hB5.size; replace o := o.grow hB5; replace c3 := vblk_grow c3 hB5; replace c4 := vblk_grow c4 hB5; replace c5 := vblk_grow c5 hB5; replace c6 := vblk_grow c6 hB5; replace hB := hB.trans (hB5.mono (by omega)); replace hzw := hB.size; clear c30 c31; obtain ⟨c30, c31⟩ := cells2 c3; clear c40 c41 c42 c43 c44; obtain ⟨c40, c41, c42, c43, c44⟩ := cells5 c4; clear c50 c51 c52 c53 c54 c55 c56 c57; obtain ⟨c50, c51, c52, c53, c54, c55, c56, c57⟩ := cellsCm c5; clear c60 c61; obtain ⟨c60, c61⟩ := cells2 c6; obtain ⟨c70, c71, c72, c73, c74, c75⟩ := cellsRp c7) | (clear mk6; refine wpList_load_r rfl 31 _ rfl b3 0 [.slice A0 n0 k0, .int .i64 X] rfl _ Tryz.underlying31 rfl sizeBk c3.range ?_) | (clear mk7; refine wpList_load_r rfl 56 _ rfl b4 0 [.string N, .int .i64 F, .string B, .int .i64 C, .int .i64 U] rfl _ Tryz.underlying56 rfl sizeIt c4.range ?_) | (clear mk8; go_at_call 111; refine (HH.out _ lo _ o.top (by omega)).mono ?_; rintro er w6 ⟨v1, rfl, o1, hB6⟩; have hz6 : w5.heap.size ≤ w6.heap.size := hB6.size; replace c3 := vblk_grow c3 hB6; replace c4 := vblk_grow c4 hB6; replace c5 := vblk_grow c5 hB6; replace c6 := vblk_grow c6 hB6; replace c7 := vblk_grow c7 hB6; replace hB := hB.trans (hB6.mono (by omega)); replace hzw := hB.size; clear c30 c31; obtain ⟨c30, c31⟩ := cells2 c3; clear c40 c41 c42 c43 c44; obtain ⟨c40, c41, c42, c43, c44⟩ := cells5 c4; clear c50 c51 c52 c53 c54 c55 c56 c57; obtain ⟨c50, c51, c52, c53, c54, c55, c56, c57⟩ := cellsCm c5; clear c60 c61; obtain ⟨c60, c61⟩ := cells2 c6; clear c70 c71 c72 c73 c74 c75; obtain ⟨c70, c71, c72, c73, c74, c75⟩ := cellsRp c7; obtain ⟨A1, n1, k1, rfl⟩ := o1.slice) | (clear mk9; refine wpList_store_v rfl 31 _ _ rfl b6 [.slice A1 n1 k1, .int .i64 Y] rfl rfl sizeBk c6 rfl (oneBk _ _ _ _) ?_; intro w7 hO7 c6x; clear c60 c61; have hz7 : w6.heap.size ≤ w7.heap.size := (Nat.le_of_eq hO7.1.symm); have hy7 : w7.heap.size ≤ w6.heap.size := (Nat.le_of_eq hO7.1); replace o1 := o1.only hO7 c6 (by decide); replace c3 := vblk_only c3 hO7 (by omega); replace c4 := vblk_only c4 hO7 (by omega); replace c5 := vblk_only c5 hO7 (by omega); replace c7 := vblk_only c7 hO7 (by omega); replace hB := hB.trans (hO7.2.2 _ (by omega)); replace hzw := hB.size; clear c30 c31; obtain ⟨c30, c31⟩ := cells2 c3; clear c40 c41 c42 c43 c44; obtain ⟨c40, c41, c42, c43, c44⟩ := cells5 c4; clear c50 c51 c52 c53 c54 c55 c56 c57; obtain ⟨c50, c51, c52, c53, c54, c55, c56, c57⟩ := cellsCm c5; clear c70 c71 c72 c73 c74 c75; obtain ⟨c70, c71, c72, c73, c74, c75⟩ := cellsRp c7; clear c6; have c6 := c6x; clear c6x; obtain ⟨c60, c61⟩ := cells2 c6) | (clear mk10; refine wpList_store_v rfl 33 _ _ rfl b7 [.int .i64 r1, .string r2, .int .i64 r3, .string r4, .int .i64 r5, .int .i64 r6] rfl rfl sizeRp c7 rfl (oneRp ⟨r1, r2, r3, r4, r5, r6⟩) ?_; intro w8 hO8 c7x; clear c70 c71 c72 c73 c74 c75; have hz8 : w7.heap.size ≤ w8.heap.size := (Nat.le_of_eq hO8.1.symm); have hy8 : w8.heap.size ≤ w7.heap.size := (Nat.le_of_eq hO8.1); replace o1 := o1.only hO8 c7 (by decide); replace c3 := vblk_only c3 hO8 (by omega); replace c4 := vblk_only c4 hO8 (by omega); replace c5 := vblk_only c5 hO8 (by omega); replace c6 := vblk_only c6 hO8 (by omega); replace hB := hB.trans (hO8.2.2 _ (by omega)); replace hzw := hB.size; clear c30 c31; obtain ⟨c30, c31⟩ := cells2 c3; clear c40 c41 c42 c43 c44; obtain ⟨c40, c41, c42, c43, c44⟩ := cells5 c4; clear c50 c51 c52 c53 c54 c55 c56 c57; obtain ⟨c50, c51, c52, c53, c54, c55, c56, c57⟩ := cellsCm c5; clear c60 c61; obtain ⟨c60, c61⟩ := cells2 c6; clear c7; have c7 := c7x; clear c7x; obtain ⟨c70, c71, c72, c73, c74, c75⟩ := cellsRp c7) | (fail))
  exact row_cc rfl rfl rfl c6 c7 Tryz.underlying31 Tryz.underlying33 sizeBk sizeRp rfl ⟨_, rfl, (o1.wide (Nat.le_refl _) (by omega)).top, hB⟩

set_option maxRecDepth 100000 in
set_option maxHeartbeats 2000000 in
theorem putAhead_any (I : List It) (X : Int) (N B : ByteArray) (F C U : Int) (V : Int) (N2 : ByteArray) (F2 U2 : Int) (B2 : ByteArray) (C2 D2 : Int) (Q2 : Bool) (v : Value) (lo : Nat) (w : World) (o : Own encIt w lo w.heap.size v I) (hlo : lo ≤ w.heap.size) (ok : StOk ⟨I, X⟩) (hN : N.size ≤ 1048576) (hBs : B.size ≤ 1048576) (hN2 : N2.size ≤ 1048576) (hB2 : B2.size ≤ 1048576) :
    Calls Tryz.prog 82 #[.agg #[v, .int .i64 X], .agg #[.string N, .int .i64 F, .string B, .int .i64 C, .int .i64 U], .agg #[.int .i64 V, .string N2, .int .i64 F2, .int .i64 U2, .string B2, .int .i64 C2, .int .i64 D2, .bool Q2]] w fun e w' => PostD (if (B2 ++ B).size > 64 then ((⟨I, X⟩, rp 12) : Bk × Rp) else keepK ⟨I, X⟩ ⟨N, F, B2 ++ B, C, U⟩).1 (if (B2 ++ B).size > 64 then ((⟨I, X⟩, rp 12) : Bk × Rp) else keepK ⟨I, X⟩ ⟨N, F, B2 ++ B, C, U⟩).2 lo w e w' := by
  obtain ⟨A0, n0, k0, rfl⟩ := o.slice
  obtain ⟨S, hSx⟩ := hid_ex (B2 ++ B)
  have hSz : S.size ≤ 4194304 := by rw [← hSx.out]; simp [ByteArray.size_append]; omega
  rw [hSx.out]
  replace hSx := hSx.out
  have hSn : B.size + B2.size ≤ 4194304 := by omega
  have hSn2 : B2.size + B.size ≤ 4194304 := by omega
  have hzw0 : w.heap.size ≤ w.heap.size := Nat.le_refl _
  have HS := fun v lo w o h => putTogether_any I X N B F C U S hSz v lo w o h ok hN
  obtain ⟨⟨⟨J, Y⟩, ⟨r1, r2, r3, r4, r5, r6⟩⟩, hR⟩ := hid_ex (if S.size > 64 then ((⟨I, X⟩, rp 12) : Bk × Rp) else keepK ⟨I, X⟩ ⟨N, F, S, C, U⟩)
  unfold PostD at HS ⊢
  rw [hR.out] at HS ⊢
  have HH : Hid _ := HS
  clear HS hR
  dsimp only [csRp] at HH ⊢
  have hzw0 : w.heap.size ≤ w.heap.size := Nat.le_refl _
  go_enter Tryz.func82, Tryz.ntmps82
  have mk1 : Hid True := trivial
  have mk2 : Hid True := trivial
  have mk3 : Hid True := trivial
  have mk4 : Hid True := trivial
  have mk5 : Hid True := trivial
  have mk6 : Hid True := trivial
  have mk7 : Hid True := trivial
  have mk8 : Hid True := trivial
  have mk9 : Hid True := trivial
  have mk10 : Hid True := trivial
  go_wp2_with (first | (clear mk1; refine wpList_box_v rfl 31 _ rfl [.slice A0 n0 k0, .int .i64 X] rfl ?_; intro b3 w1 hb3 hwb3 hB1 c3; have hz1 : w.heap.size ≤ w1.heap.size := hB1.size; replace o := o.grow hB1; have hB := hB1; have hzw := hB.size; obtain ⟨c30, c31⟩ := cells2 c3) | (clear mk2; refine wpList_box_v rfl 56 _ rfl [.string N, .int .i64 F, .string B, .int .i64 C, .int .i64 U] rfl ?_; intro b4 w2 hb4 hwb4 hB2 c4; have hz2 : w1.heap.size ≤ w2.heap.size := hB2.size; replace o := o.grow hB2; replace c3 := vblk_grow c3 hB2; replace hB := hB.trans (hB2.mono (by omega)); replace hzw := hB.size; clear c30 c31; obtain ⟨c30, c31⟩ := cells2 c3; obtain ⟨c40, c41, c42, c43, c44⟩ := cells5 c4) | (clear mk3; refine wpList_box_v rfl 37 _ rfl [.int .i64 V, .string N2, .int .i64 F2, .int .i64 U2, .string B2, .int .i64 C2, .int .i64 D2, .bool Q2] rfl ?_; intro b5 w3 hb5 hwb5 hB3 c5; have hz3 : w2.heap.size ≤ w3.heap.size := hB3.size; replace o := o.grow hB3; replace c3 := vblk_grow c3 hB3; replace c4 := vblk_grow c4 hB3; replace hB := hB.trans (hB3.mono (by omega)); replace hzw := hB.size; clear c30 c31; obtain ⟨c30, c31⟩ := cells2 c3; clear c40 c41 c42 c43 c44; obtain ⟨c40, c41, c42, c43, c44⟩ := cells5 c4; obtain ⟨c50, c51, c52, c53, c54, c55, c56, c57⟩ := cellsCm c5) | (clear mk4; refine wpList_alloc_v rfl 31 rfl _ zeroBk ?_; intro b6 w4 hb6 hwb6 hB4 c6; have hz4 : w3.heap.size ≤ w4.heap.size := hB4.size; replace o := o.grow hB4; replace c3 := vblk_grow c3 hB4; replace c4 := vblk_grow c4 hB4; replace c5 := vblk_grow c5 hB4; replace hB := hB.trans (hB4.mono (by omega)); replace hzw := hB.size; clear c30 c31; obtain ⟨c30, c31⟩ := cells2 c3; clear c40 c41 c42 c43 c44; obtain ⟨c40, c41, c42, c43, c44⟩ := cells5 c4; clear c50 c51 c52 c53 c54 c55 c56 c57; obtain ⟨c50, c51, c52, c53, c54, c55, c56, c57⟩ := cellsCm c5; obtain ⟨c60, c61⟩ := cells2 c6) | (clear mk5; refine wpList_alloc_v rfl 33 rfl _ zeroRp ?_; intro b7 w5 hb7 hwb7 hB5 c7; have hz5 : w4.heap.size ≤ w5.heap.size := hB5.size; replace o := o.grow hB5; replace c3 := vblk_grow c3 hB5; replace c4 := vblk_grow c4 hB5; replace c5 := vblk_grow c5 hB5; replace c6 := vblk_grow c6 hB5; replace hB := hB.trans (hB5.mono (by omega)); replace hzw := hB.size; clear c30 c31; obtain ⟨c30, c31⟩ := cells2 c3; clear c40 c41 c42 c43 c44; obtain ⟨c40, c41, c42, c43, c44⟩ := cells5 c4; clear c50 c51 c52 c53 c54 c55 c56 c57; obtain ⟨c50, c51, c52, c53, c54, c55, c56, c57⟩ := cellsCm c5; clear c60 c61; obtain ⟨c60, c61⟩ := cells2 c6; obtain ⟨c70, c71, c72, c73, c74, c75⟩ := cellsRp c7) | (clear mk6; refine wpList_load_r rfl 31 _ rfl b3 0 [.slice A0 n0 k0, .int .i64 X] rfl _ Tryz.underlying31 rfl sizeBk c3.range ?_) | (clear mk7; refine wpList_load_r rfl 56 _ rfl b4 0 [.string N, .int .i64 F, .string B, .int .i64 C, .int .i64 U] rfl _ Tryz.underlying56 rfl sizeIt c4.range ?_) | (clear mk8; go_at_call 111; refine (HH.out _ lo _ o.top (by omega)).mono ?_; rintro er w6 ⟨v1, rfl, o1, hB6⟩; have hz6 : w5.heap.size ≤ w6.heap.size := hB6.size; replace c3 := vblk_grow c3 hB6; replace c4 := vblk_grow c4 hB6; replace c5 := vblk_grow c5 hB6; replace c6 := vblk_grow c6 hB6; replace c7 := vblk_grow c7 hB6; replace hB := hB.trans (hB6.mono (by omega)); replace hzw := hB.size; clear c30 c31; obtain ⟨c30, c31⟩ := cells2 c3; clear c40 c41 c42 c43 c44; obtain ⟨c40, c41, c42, c43, c44⟩ := cells5 c4; clear c50 c51 c52 c53 c54 c55 c56 c57; obtain ⟨c50, c51, c52, c53, c54, c55, c56, c57⟩ := cellsCm c5; clear c60 c61; obtain ⟨c60, c61⟩ := cells2 c6; clear c70 c71 c72 c73 c74 c75; obtain ⟨c70, c71, c72, c73, c74, c75⟩ := cellsRp c7; obtain ⟨A1, n1, k1, rfl⟩ := o1.slice) | (clear mk9; refine wpList_store_v rfl 31 _ _ rfl b6 [.slice A1 n1 k1, .int .i64 Y] rfl rfl sizeBk c6 rfl (oneBk _ _ _ _) ?_; intro w7 hO7 c6x; clear c60 c61; have hz7 : w6.heap.size ≤ w7.heap.size := (Nat.le_of_eq hO7.1.symm); have hy7 : w7.heap.size ≤ w6.heap.size := (Nat.le_of_eq hO7.1); replace o1 := o1.only hO7 c6 (by decide); replace c3 := vblk_only c3 hO7 (by omega); replace c4 := vblk_only c4 hO7 (by omega); replace c5 := vblk_only c5 hO7 (by omega); replace c7 := vblk_only c7 hO7 (by omega); replace hB := hB.trans (hO7.2.2 _ (by omega)); replace hzw := hB.size; clear c30 c31; obtain ⟨c30, c31⟩ := cells2 c3; clear c40 c41 c42 c43 c44; obtain ⟨c40, c41, c42, c43, c44⟩ := cells5 c4; clear c50 c51 c52 c53 c54 c55 c56 c57; obtain ⟨c50, c51, c52, c53, c54, c55, c56, c57⟩ := cellsCm c5; clear c70 c71 c72 c73 c74 c75; obtain ⟨c70, c71, c72, c73, c74, c75⟩ := cellsRp c7; clear c6; have c6 := c6x; clear c6x; obtain ⟨c60, c61⟩ := cells2 c6) | (clear mk10; refine wpList_store_v rfl 33 _ _ rfl b7 [.int .i64 r1, .string r2, .int .i64 r3, .string r4, .int .i64 r5, .int .i64 r6] rfl rfl sizeRp c7 rfl (oneRp ⟨r1, r2, r3, r4, r5, r6⟩) ?_; intro w8 hO8 c7x; clear c70 c71 c72 c73 c74 c75; have hz8 : w7.heap.size ≤ w8.heap.size := (Nat.le_of_eq hO8.1.symm); have hy8 : w8.heap.size ≤ w7.heap.size := (Nat.le_of_eq hO8.1); replace o1 := o1.only hO8 c7 (by decide); replace c3 := vblk_only c3 hO8 (by omega); replace c4 := vblk_only c4 hO8 (by omega); replace c5 := vblk_only c5 hO8 (by omega); replace c6 := vblk_only c6 hO8 (by omega); replace hB := hB.trans (hO8.2.2 _ (by omega)); replace hzw := hB.size; clear c30 c31; obtain ⟨c30, c31⟩ := cells2 c3; clear c40 c41 c42 c43 c44; obtain ⟨c40, c41, c42, c43, c44⟩ := cells5 c4; clear c50 c51 c52 c53 c54 c55 c56 c57; obtain ⟨c50, c51, c52, c53, c54, c55, c56, c57⟩ := cellsCm c5; clear c60 c61; obtain ⟨c60, c61⟩ := cells2 c6; clear c7; have c7 := c7x; clear c7x; obtain ⟨c70, c71, c72, c73, c74, c75⟩ := cellsRp c7) | (fail))
  exact row_cc rfl rfl rfl c6 c7 Tryz.underlying31 Tryz.underlying33 sizeBk sizeRp rfl ⟨_, rfl, (o1.wide (Nat.le_refl _) (by omega)).top, hB⟩

end Go.Proofs.YtjkkjpgebcnhgaaGreatDoor.rg
