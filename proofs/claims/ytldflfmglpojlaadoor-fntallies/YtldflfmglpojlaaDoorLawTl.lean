/- FnTallies' walk. -/
import Derived.Test.YtldflfmglpojlaaDoorMg11
import Derived.Test.YtldflfmglpojlaaDoorTl3
import Derived.Test.YtldflfmglpojlaaDoorMg17
import Derived.Lib.SmallJoins
import Derived.Deep.Slices
import Derived.Deep.RegionHeld3
import Derived.BigQuiet
import Derived.Deep.DeepCutAuto
namespace Go.Proofs.YtldflfmglpojlaaDoor.lawTl
open Go.ChangeShapes Go.WideShapes Go.ChangeAt Go.RowKit
open Go.Deep Go.Joins
open Go.Proofs.YtldflfmglpojlaaDoor.ce Go.Proofs.YtldflfmglpojlaaDoor.ro Go.Proofs.YtldflfmglpojlaaDoor.rg Go.Proofs.YtldflfmglpojlaaDoor.draw Go.Proofs.YtldflfmglpojlaaDoor.cm
set_option linter.unusedVariables false

set_option maxRecDepth 100000 in
set_option maxHeartbeats 16000000 in
theorem walk (a0 : Option Addr) (len cap : Nat) (w : World) (en : EnvT w) (hlen : len ≤ 4096) (hcode0 : CodeAt w a0 len) :
    Calls Tryd.prog 3 #[.slice a0 len cap] w fun e w' => e = .returned (.bool true) ∧ Below w.heap.size w w' := by
  have HC : Hid (CodeAt w a0 len) := hcode0
  clear hcode0
  have EN : Hid (EnvT w) := en
  clear en
  have hl' : ¬ (4096 : Int) < (len : Int) := by omega
  have hB : Below w.heap.size w w := Below.refl _ _
  have hzw := hB.size
  go_enter Tryd.func3, Tryd.ntmps3
  have mk1 : Hid True := trivial
  have mk2 : Hid True := trivial
  have mk3 : Hid True := trivial
  have mk4 : Hid True := trivial
  have mk5 : Hid True := trivial
  have mk6 : Hid True := trivial
  have mk7 : Hid True := trivial
  have mk8 : Hid True := trivial
  have mk9 : Hid True := trivial
  have mk10 : Hid True := trivial
  have mk11 : Hid True := trivial
  have mk12 : Hid True := trivial
  have mk13 : Hid True := trivial
  have mk14 : Hid True := trivial
  have mk15 : Hid True := trivial
  go_upto_region 6 with (first | (clear mk1; go_at_call 4; go_in) | (clear mk2; go_at_call 5; refine (drawCounted_any _ _ _ _ HC.out).mono ?_; rintro er w1 ⟨A1, H1, P1, D1, O1, V, N, F, U, B, C, D, Q, K, N2, F2, B2, C2, M, rfl, hB1⟩; have hz1 : w.heap.size ≤ w1.heap.size := hB1.size; replace hB := hB.trans (hB1.mono (by omega)); replace hzw := hB.size; obtain ⟨⟨xa, xh, xs, xd, xo⟩, hX⟩ := hid_ex (coT ⟨A1, H1, P1, D1, O1⟩ ⟨V, N, F, U, B, C, D, Q⟩ ⟨K, N2, F2, B2, C2, M⟩); obtain ⟨z, hz⟩ := hid_ex (tallyB ⟨A1, H1, P1, D1, O1⟩); have kI := implCounted_any ⟨A1, H1, P1, D1, O1⟩ ⟨V, N, F, U, B, C, D, Q⟩ ⟨K, N2, F2, B2, C2, M⟩; have kS := specCounted_any ⟨A1, H1, P1, D1, O1⟩ ⟨V, N, F, U, B, C, D, Q⟩ ⟨K, N2, F2, B2, C2, M⟩; rw [hX.out] at kI kS; dsimp only [csTl, csCm, csRp] at kI kS; have KI : Hid _ := kI; have KS : Hid _ := kS; clear kI kS) | (clear mk3; refine wpList_alloc_v rfl 25 rfl _ zeroTl ?_; intro b3 w2 hb3 hwb3 hB2 c3; have hz2 : w1.heap.size ≤ w2.heap.size := hB2.size; replace hB := hB.trans (hB2.mono (by omega)); replace hzw := hB.size) | (clear mk4; refine wpList_alloc_v rfl 27 rfl _ zeroCm ?_; intro b4 w3 hb4 hwb4 hB3 c4; have hz3 : w2.heap.size ≤ w3.heap.size := hB3.size; replace c3 := vblk_grow c3 hB3; replace hB := hB.trans (hB3.mono (by omega)); replace hzw := hB.size) | (clear mk5; refine wpList_alloc_v rfl 29 rfl _ zeroRp ?_; intro b5 w4 hb5 hwb5 hB4 c5; have hz4 : w3.heap.size ≤ w4.heap.size := hB4.size; replace c3 := vblk_grow c3 hB4; replace c4 := vblk_grow c4 hB4; replace hB := hB.trans (hB4.mono (by omega)); replace hzw := hB.size) | (clear mk6; refine wpList_store_v rfl 25 _ _ rfl b3 [.int .i64 A1, .int .i64 H1, .int .i64 P1, .int .i64 D1, .int .i64 O1] rfl rfl sizeTl c3 rfl (by simp [Value.oneCell']) ?_; intro w5 hO5 c3x; have hz5 : w4.heap.size ≤ w5.heap.size := (Nat.le_of_eq hO5.1.symm); have hy5 : w5.heap.size ≤ w4.heap.size := (Nat.le_of_eq hO5.1); replace c4 := vblk_only c4 hO5 (by omega); replace c5 := vblk_only c5 hO5 (by omega); replace hB := hB.trans (hO5.2.2 _ (by omega)); replace hzw := hB.size; clear c3; have c3 := c3x; clear c3x; obtain ⟨c30, c31, c32, c33, c34⟩ := cells5 c3) | (clear mk7; refine wpList_store_v rfl 27 _ _ rfl b4 [.int .i64 V, .string N, .int .i64 F, .int .i64 U, .string B, .int .i64 C, .int .i64 D, .bool Q] rfl rfl sizeCm c4 rfl (by simp [Value.oneCell']) ?_; intro w6 hO6 c4x; have hz6 : w5.heap.size ≤ w6.heap.size := (Nat.le_of_eq hO6.1.symm); have hy6 : w6.heap.size ≤ w5.heap.size := (Nat.le_of_eq hO6.1); replace c5 := vblk_only c5 hO6 (by omega); replace c3 := vblk_only c3 hO6 (by omega); replace hB := hB.trans (hO6.2.2 _ (by omega)); replace hzw := hB.size; clear c30 c31 c32 c33 c34; obtain ⟨c30, c31, c32, c33, c34⟩ := cells5 c3; clear c4; have c4 := c4x; clear c4x; obtain ⟨c40, c41, c42, c43, c44, c45, c46, c47⟩ := cellsCm c4) | (clear mk8; refine wpList_store_v rfl 29 _ _ rfl b5 [.int .i64 K, .string N2, .int .i64 F2, .string B2, .int .i64 C2, .int .i64 M] rfl rfl sizeRp c5 rfl (by simp [Value.oneCell']) ?_; intro w7 hO7 c5x; have hz7 : w6.heap.size ≤ w7.heap.size := (Nat.le_of_eq hO7.1.symm); have hy7 : w7.heap.size ≤ w6.heap.size := (Nat.le_of_eq hO7.1); replace c3 := vblk_only c3 hO7 (by omega); replace c4 := vblk_only c4 hO7 (by omega); replace hB := hB.trans (hO7.2.2 _ (by omega)); replace hzw := hB.size; clear c30 c31 c32 c33 c34; obtain ⟨c30, c31, c32, c33, c34⟩ := cells5 c3; clear c40 c41 c42 c43 c44 c45 c46 c47; obtain ⟨c40, c41, c42, c43, c44, c45, c46, c47⟩ := cellsCm c4; clear c5; have c5 := c5x; clear c5x; obtain ⟨c50, c51, c52, c53, c54, c55⟩ := cellsRp c5) | (clear mk9; refine wpList_load_r rfl 27 _ rfl b4 0 [.int .i64 V, .string N, .int .i64 F, .int .i64 U, .string B, .int .i64 C, .int .i64 D, .bool Q] rfl _ Tryd.underlying27 rfl sizeCm c4.range ?_) | (clear mk10; go_at_call 6; refine (KI.out _).mono ?_; rintro er w8 ⟨rfl, hB8⟩; have hz8 : w7.heap.size ≤ w8.heap.size := hB8.size; replace c3 := vblk_grow c3 hB8; replace c4 := vblk_grow c4 hB8; replace c5 := vblk_grow c5 hB8; replace hB := hB.trans (hB8.mono (by omega)); replace hzw := hB.size; clear c30 c31 c32 c33 c34; obtain ⟨c30, c31, c32, c33, c34⟩ := cells5 c3; clear c40 c41 c42 c43 c44 c45 c46 c47; obtain ⟨c40, c41, c42, c43, c44, c45, c46, c47⟩ := cellsCm c4; clear c50 c51 c52 c53 c54 c55; obtain ⟨c50, c51, c52, c53, c54, c55⟩ := cellsRp c5) | (clear mk11; refine wpList_alloc_v rfl 25 rfl _ zeroTl ?_; intro b6 w9 hb6 hwb6 hB9 c6; have hz9 : w8.heap.size ≤ w9.heap.size := hB9.size; replace c3 := vblk_grow c3 hB9; replace c4 := vblk_grow c4 hB9; replace c5 := vblk_grow c5 hB9; replace hB := hB.trans (hB9.mono (by omega)); replace hzw := hB.size; clear c30 c31 c32 c33 c34; obtain ⟨c30, c31, c32, c33, c34⟩ := cells5 c3; clear c40 c41 c42 c43 c44 c45 c46 c47; obtain ⟨c40, c41, c42, c43, c44, c45, c46, c47⟩ := cellsCm c4; clear c50 c51 c52 c53 c54 c55; obtain ⟨c50, c51, c52, c53, c54, c55⟩ := cellsRp c5) | (clear mk12; refine wpList_store_v rfl 25 _ _ rfl b6 [.int .i64 xa, .int .i64 xh, .int .i64 xs, .int .i64 xd, .int .i64 xo] rfl rfl sizeTl c6 rfl (by simp [Value.oneCell']) ?_; intro w10 hO10 c6x; have hz10 : w9.heap.size ≤ w10.heap.size := (Nat.le_of_eq hO10.1.symm); have hy10 : w10.heap.size ≤ w9.heap.size := (Nat.le_of_eq hO10.1); replace c3 := vblk_only c3 hO10 (by omega); replace c4 := vblk_only c4 hO10 (by omega); replace c5 := vblk_only c5 hO10 (by omega); replace hB := hB.trans (hO10.2.2 _ (by omega)); replace hzw := hB.size; clear c30 c31 c32 c33 c34; obtain ⟨c30, c31, c32, c33, c34⟩ := cells5 c3; clear c40 c41 c42 c43 c44 c45 c46 c47; obtain ⟨c40, c41, c42, c43, c44, c45, c46, c47⟩ := cellsCm c4; clear c50 c51 c52 c53 c54 c55; obtain ⟨c50, c51, c52, c53, c54, c55⟩ := cellsRp c5; clear c6; have c6 := c6x; clear c6x; obtain ⟨c60, c61, c62, c63, c64⟩ := cells5 c6) | (clear mk13; go_at_call 7; refine (drawShowTally_any _ _ _ _ (codet_below HC.out hB)).mono ?_; rintro er w11 ⟨A2, H2, P2, D2, O2, rfl, hB11⟩; have hz11 : w10.heap.size ≤ w11.heap.size := hB11.size; replace c3 := vblk_grow c3 hB11; replace c4 := vblk_grow c4 hB11; replace c5 := vblk_grow c5 hB11; replace c6 := vblk_grow c6 hB11; replace hB := hB.trans (hB11.mono (by omega)); replace hzw := hB.size; clear c30 c31 c32 c33 c34; obtain ⟨c30, c31, c32, c33, c34⟩ := cells5 c3; clear c40 c41 c42 c43 c44 c45 c46 c47; obtain ⟨c40, c41, c42, c43, c44, c45, c46, c47⟩ := cellsCm c4; clear c50 c51 c52 c53 c54 c55; obtain ⟨c50, c51, c52, c53, c54, c55⟩ := cellsRp c5; clear c60 c61 c62 c63 c64; obtain ⟨c60, c61, c62, c63, c64⟩ := cells5 c6; obtain ⟨T, hT⟩ := hid_ex (shTx ⟨A2, H2, P2, D2, O2⟩)) | (clear mk14; refine wpList_alloc_v rfl 25 rfl _ zeroTl ?_; intro b7 w12 hb7 hwb7 hB12 c7; have hz12 : w11.heap.size ≤ w12.heap.size := hB12.size; replace c3 := vblk_grow c3 hB12; replace c4 := vblk_grow c4 hB12; replace c5 := vblk_grow c5 hB12; replace c6 := vblk_grow c6 hB12; replace hB := hB.trans (hB12.mono (by omega)); replace hzw := hB.size; clear c30 c31 c32 c33 c34; obtain ⟨c30, c31, c32, c33, c34⟩ := cells5 c3; clear c40 c41 c42 c43 c44 c45 c46 c47; obtain ⟨c40, c41, c42, c43, c44, c45, c46, c47⟩ := cellsCm c4; clear c50 c51 c52 c53 c54 c55; obtain ⟨c50, c51, c52, c53, c54, c55⟩ := cellsRp c5; clear c60 c61 c62 c63 c64; obtain ⟨c60, c61, c62, c63, c64⟩ := cells5 c6) | (clear mk15; refine wpList_store_v rfl 25 _ _ rfl b7 [.int .i64 A2, .int .i64 H2, .int .i64 P2, .int .i64 D2, .int .i64 O2] rfl rfl sizeTl c7 rfl (by simp [Value.oneCell']) ?_; intro w13 hO13 c7x; have hz13 : w12.heap.size ≤ w13.heap.size := (Nat.le_of_eq hO13.1.symm); have hy13 : w13.heap.size ≤ w12.heap.size := (Nat.le_of_eq hO13.1); replace c3 := vblk_only c3 hO13 (by omega); replace c4 := vblk_only c4 hO13 (by omega); replace c5 := vblk_only c5 hO13 (by omega); replace c6 := vblk_only c6 hO13 (by omega); replace hB := hB.trans (hO13.2.2 _ (by omega)); replace hzw := hB.size; clear c30 c31 c32 c33 c34; obtain ⟨c30, c31, c32, c33, c34⟩ := cells5 c3; clear c40 c41 c42 c43 c44 c45 c46 c47; obtain ⟨c40, c41, c42, c43, c44, c45, c46, c47⟩ := cellsCm c4; clear c50 c51 c52 c53 c54 c55; obtain ⟨c50, c51, c52, c53, c54, c55⟩ := cellsRp c5; clear c60 c61 c62 c63 c64; obtain ⟨c60, c61, c62, c63, c64⟩ := cells5 c6; clear c7; have c7 := c7x; clear c7x; obtain ⟨c70, c71, c72, c73, c74⟩ := cells5 c7) | (fail))
  have eT : (T.toList != T.toList) = false := by simp
  have eT2 : (T.toList == T.toList) = true := by simp
  have f7 : ∀ z : Bool, (z != z) = false := fun z => by cases z <;> rfl
  have exa : (xa == xa) = true := by simp
  have exh : (xh == xh) = true := by simp
  have exs : (xs == xs) = true := by simp
  have exd : (xd == xd) = true := by simp
  have exo : (xo == xo) = true := by simp
  have hBd : Below w13.heap.size w13 w13.drew := (Below.refl _ _).drew
  have hzd : w13.drew.heap.size ≤ w13.heap.size := Nat.le_refl _
  have hzd2 : w13.heap.size ≤ w13.drew.heap.size := Nat.le_refl _
  replace c3 := vblk_grow c3 hBd
  clear c30 c31 c32 c33 c34
  obtain ⟨c30, c31, c32, c33, c34⟩ := cells5 c3
  replace c4 := vblk_grow c4 hBd
  clear c40 c41 c42 c43 c44 c45 c46 c47
  obtain ⟨c40, c41, c42, c43, c44, c45, c46, c47⟩ := cellsCm c4
  replace c5 := vblk_grow c5 hBd
  clear c50 c51 c52 c53 c54 c55
  obtain ⟨c50, c51, c52, c53, c54, c55⟩ := cellsRp c5
  replace c6 := vblk_grow c6 hBd
  clear c60 c61 c62 c63 c64
  obtain ⟨c60, c61, c62, c63, c64⟩ := cells5 c6
  replace c7 := vblk_grow c7 hBd
  clear c70 c71 c72 c73 c74
  obtain ⟨c70, c71, c72, c73, c74⟩ := cells5 c7
  replace hB := hB.trans (hBd.mono (by omega))
  replace hzw := hB.size
  have S1 : w13.drew.cell? ⟨b6, 0, none⟩ = some (.int .i64 xa) ∧ w13.drew.cell? ⟨b6, 1, none⟩ = some (.int .i64 xh) ∧ w13.drew.cell? ⟨b6, 2, none⟩ = some (.int .i64 xs) ∧ w13.drew.cell? ⟨b6, 3, none⟩ = some (.int .i64 xd) ∧ w13.drew.cell? ⟨b6, 4, none⟩ = some (.int .i64 xo) ∧ w13.drew.cell? ⟨b3, 0, none⟩ = some (.int .i64 A1) ∧ w13.drew.cell? ⟨b3, 1, none⟩ = some (.int .i64 H1) ∧ w13.drew.cell? ⟨b3, 2, none⟩ = some (.int .i64 P1) ∧ w13.drew.cell? ⟨b3, 3, none⟩ = some (.int .i64 D1) ∧ w13.drew.cell? ⟨b3, 4, none⟩ = some (.int .i64 O1) ∧ w13.drew.cell? ⟨b4, 0, none⟩ = some (.int .i64 V) ∧ w13.drew.cell? ⟨b4, 1, none⟩ = some (.string N) ∧ w13.drew.cell? ⟨b4, 2, none⟩ = some (.int .i64 F) ∧ w13.drew.cell? ⟨b4, 3, none⟩ = some (.int .i64 U) ∧ w13.drew.cell? ⟨b4, 4, none⟩ = some (.string B) ∧ w13.drew.cell? ⟨b4, 5, none⟩ = some (.int .i64 C) ∧ w13.drew.cell? ⟨b4, 6, none⟩ = some (.int .i64 D) ∧ w13.drew.cell? ⟨b4, 7, none⟩ = some (.bool Q) ∧ w13.drew.cell? ⟨b5, 0, none⟩ = some (.int .i64 K) ∧ w13.drew.cell? ⟨b5, 1, none⟩ = some (.string N2) ∧ w13.drew.cell? ⟨b5, 2, none⟩ = some (.int .i64 F2) ∧ w13.drew.cell? ⟨b5, 3, none⟩ = some (.string B2) ∧ w13.drew.cell? ⟨b5, 4, none⟩ = some (.int .i64 C2) ∧ w13.drew.cell? ⟨b5, 5, none⟩ = some (.int .i64 M) ∧ w13.drew.cell? ⟨b7, 0, none⟩ = some (.int .i64 A2) ∧ w13.drew.cell? ⟨b7, 1, none⟩ = some (.int .i64 H2) ∧ w13.drew.cell? ⟨b7, 2, none⟩ = some (.int .i64 P2) ∧ w13.drew.cell? ⟨b7, 3, none⟩ = some (.int .i64 D2) ∧ w13.drew.cell? ⟨b7, 4, none⟩ = some (.int .i64 O2) := ⟨c60, c61, c62, c63, c64, c30, c31, c32, c33, c34, c40, c41, c42, c43, c44, c45, c46, c47, c50, c51, c52, c53, c54, c55, c70, c71, c72, c73, c74⟩
  have mk16 : Hid True := trivial
  have mk17 : Hid True := trivial
  have mk18 : Hid True := trivial
  have mk19 : Hid True := trivial
  have mk20 : Hid True := trivial
  go_region_held3 (fun w' => w'.cell? ⟨b6, 0, none⟩ = some (.int .i64 xa) ∧ w'.cell? ⟨b6, 1, none⟩ = some (.int .i64 xh) ∧ w'.cell? ⟨b6, 2, none⟩ = some (.int .i64 xs) ∧ w'.cell? ⟨b6, 3, none⟩ = some (.int .i64 xd) ∧ w'.cell? ⟨b6, 4, none⟩ = some (.int .i64 xo) ∧ w'.cell? ⟨b3, 0, none⟩ = some (.int .i64 A1) ∧ w'.cell? ⟨b3, 1, none⟩ = some (.int .i64 H1) ∧ w'.cell? ⟨b3, 2, none⟩ = some (.int .i64 P1) ∧ w'.cell? ⟨b3, 3, none⟩ = some (.int .i64 D1) ∧ w'.cell? ⟨b3, 4, none⟩ = some (.int .i64 O1) ∧ w'.cell? ⟨b4, 0, none⟩ = some (.int .i64 V) ∧ w'.cell? ⟨b4, 1, none⟩ = some (.string N) ∧ w'.cell? ⟨b4, 2, none⟩ = some (.int .i64 F) ∧ w'.cell? ⟨b4, 3, none⟩ = some (.int .i64 U) ∧ w'.cell? ⟨b4, 4, none⟩ = some (.string B) ∧ w'.cell? ⟨b4, 5, none⟩ = some (.int .i64 C) ∧ w'.cell? ⟨b4, 6, none⟩ = some (.int .i64 D) ∧ w'.cell? ⟨b4, 7, none⟩ = some (.bool Q) ∧ w'.cell? ⟨b5, 0, none⟩ = some (.int .i64 K) ∧ w'.cell? ⟨b5, 1, none⟩ = some (.string N2) ∧ w'.cell? ⟨b5, 2, none⟩ = some (.int .i64 F2) ∧ w'.cell? ⟨b5, 3, none⟩ = some (.string B2) ∧ w'.cell? ⟨b5, 4, none⟩ = some (.int .i64 C2) ∧ w'.cell? ⟨b5, 5, none⟩ = some (.int .i64 M) ∧ w'.cell? ⟨b7, 0, none⟩ = some (.int .i64 A2) ∧ w'.cell? ⟨b7, 1, none⟩ = some (.int .i64 H2) ∧ w'.cell? ⟨b7, 2, none⟩ = some (.int .i64 P2) ∧ w'.cell? ⟨b7, 3, none⟩ = some (.int .i64 D2) ∧ w'.cell? ⟨b7, 4, none⟩ = some (.int .i64 O2)) (first | with_reducible assumption | with_reducible exact S1 | (fail)) (first | (clear mk16; go_at_call 8; refine (KS.out _).mono ?_; rintro er w14 ⟨rfl, hB14⟩; have hz14 : w13.drew.heap.size ≤ w14.heap.size := hB14.size; replace c3 := vblk_grow c3 hB14; replace c4 := vblk_grow c4 hB14; replace c5 := vblk_grow c5 hB14; replace c6 := vblk_grow c6 hB14; replace c7 := vblk_grow c7 hB14; replace hB := hB.trans (hB14.mono (by omega)); replace hzw := hB.size; clear c30 c31 c32 c33 c34; obtain ⟨c30, c31, c32, c33, c34⟩ := cells5 c3; clear c40 c41 c42 c43 c44 c45 c46 c47; obtain ⟨c40, c41, c42, c43, c44, c45, c46, c47⟩ := cellsCm c4; clear c50 c51 c52 c53 c54 c55; obtain ⟨c50, c51, c52, c53, c54, c55⟩ := cellsRp c5; clear c60 c61 c62 c63 c64; obtain ⟨c60, c61, c62, c63, c64⟩ := cells5 c6; clear c70 c71 c72 c73 c74; obtain ⟨c70, c71, c72, c73, c74⟩ := cells5 c7; have S2 : w14.cell? ⟨b6, 0, none⟩ = some (.int .i64 xa) ∧ w14.cell? ⟨b6, 1, none⟩ = some (.int .i64 xh) ∧ w14.cell? ⟨b6, 2, none⟩ = some (.int .i64 xs) ∧ w14.cell? ⟨b6, 3, none⟩ = some (.int .i64 xd) ∧ w14.cell? ⟨b6, 4, none⟩ = some (.int .i64 xo) ∧ w14.cell? ⟨b3, 0, none⟩ = some (.int .i64 A1) ∧ w14.cell? ⟨b3, 1, none⟩ = some (.int .i64 H1) ∧ w14.cell? ⟨b3, 2, none⟩ = some (.int .i64 P1) ∧ w14.cell? ⟨b3, 3, none⟩ = some (.int .i64 D1) ∧ w14.cell? ⟨b3, 4, none⟩ = some (.int .i64 O1) ∧ w14.cell? ⟨b4, 0, none⟩ = some (.int .i64 V) ∧ w14.cell? ⟨b4, 1, none⟩ = some (.string N) ∧ w14.cell? ⟨b4, 2, none⟩ = some (.int .i64 F) ∧ w14.cell? ⟨b4, 3, none⟩ = some (.int .i64 U) ∧ w14.cell? ⟨b4, 4, none⟩ = some (.string B) ∧ w14.cell? ⟨b4, 5, none⟩ = some (.int .i64 C) ∧ w14.cell? ⟨b4, 6, none⟩ = some (.int .i64 D) ∧ w14.cell? ⟨b4, 7, none⟩ = some (.bool Q) ∧ w14.cell? ⟨b5, 0, none⟩ = some (.int .i64 K) ∧ w14.cell? ⟨b5, 1, none⟩ = some (.string N2) ∧ w14.cell? ⟨b5, 2, none⟩ = some (.int .i64 F2) ∧ w14.cell? ⟨b5, 3, none⟩ = some (.string B2) ∧ w14.cell? ⟨b5, 4, none⟩ = some (.int .i64 C2) ∧ w14.cell? ⟨b5, 5, none⟩ = some (.int .i64 M) ∧ w14.cell? ⟨b7, 0, none⟩ = some (.int .i64 A2) ∧ w14.cell? ⟨b7, 1, none⟩ = some (.int .i64 H2) ∧ w14.cell? ⟨b7, 2, none⟩ = some (.int .i64 P2) ∧ w14.cell? ⟨b7, 3, none⟩ = some (.int .i64 D2) ∧ w14.cell? ⟨b7, 4, none⟩ = some (.int .i64 O2) := ⟨c60, c61, c62, c63, c64, c30, c31, c32, c33, c34, c40, c41, c42, c43, c44, c45, c46, c47, c50, c51, c52, c53, c54, c55, c70, c71, c72, c73, c74⟩) | (clear mk17; go_at_call 9; refine (implTallyOk_any A1 H1 P1 D1 O1 z hz _).mono ?_; rintro er w15 ⟨rfl, hB15⟩; have hz15 : w14.heap.size ≤ w15.heap.size := hB15.size; replace c3 := vblk_grow c3 hB15; replace c4 := vblk_grow c4 hB15; replace c5 := vblk_grow c5 hB15; replace c6 := vblk_grow c6 hB15; replace c7 := vblk_grow c7 hB15; replace hB := hB.trans (hB15.mono (by omega)); replace hzw := hB.size; clear c30 c31 c32 c33 c34; obtain ⟨c30, c31, c32, c33, c34⟩ := cells5 c3; clear c40 c41 c42 c43 c44 c45 c46 c47; obtain ⟨c40, c41, c42, c43, c44, c45, c46, c47⟩ := cellsCm c4; clear c50 c51 c52 c53 c54 c55; obtain ⟨c50, c51, c52, c53, c54, c55⟩ := cellsRp c5; clear c60 c61 c62 c63 c64; obtain ⟨c60, c61, c62, c63, c64⟩ := cells5 c6; clear c70 c71 c72 c73 c74; obtain ⟨c70, c71, c72, c73, c74⟩ := cells5 c7; have S3 : w15.cell? ⟨b6, 0, none⟩ = some (.int .i64 xa) ∧ w15.cell? ⟨b6, 1, none⟩ = some (.int .i64 xh) ∧ w15.cell? ⟨b6, 2, none⟩ = some (.int .i64 xs) ∧ w15.cell? ⟨b6, 3, none⟩ = some (.int .i64 xd) ∧ w15.cell? ⟨b6, 4, none⟩ = some (.int .i64 xo) ∧ w15.cell? ⟨b3, 0, none⟩ = some (.int .i64 A1) ∧ w15.cell? ⟨b3, 1, none⟩ = some (.int .i64 H1) ∧ w15.cell? ⟨b3, 2, none⟩ = some (.int .i64 P1) ∧ w15.cell? ⟨b3, 3, none⟩ = some (.int .i64 D1) ∧ w15.cell? ⟨b3, 4, none⟩ = some (.int .i64 O1) ∧ w15.cell? ⟨b4, 0, none⟩ = some (.int .i64 V) ∧ w15.cell? ⟨b4, 1, none⟩ = some (.string N) ∧ w15.cell? ⟨b4, 2, none⟩ = some (.int .i64 F) ∧ w15.cell? ⟨b4, 3, none⟩ = some (.int .i64 U) ∧ w15.cell? ⟨b4, 4, none⟩ = some (.string B) ∧ w15.cell? ⟨b4, 5, none⟩ = some (.int .i64 C) ∧ w15.cell? ⟨b4, 6, none⟩ = some (.int .i64 D) ∧ w15.cell? ⟨b4, 7, none⟩ = some (.bool Q) ∧ w15.cell? ⟨b5, 0, none⟩ = some (.int .i64 K) ∧ w15.cell? ⟨b5, 1, none⟩ = some (.string N2) ∧ w15.cell? ⟨b5, 2, none⟩ = some (.int .i64 F2) ∧ w15.cell? ⟨b5, 3, none⟩ = some (.string B2) ∧ w15.cell? ⟨b5, 4, none⟩ = some (.int .i64 C2) ∧ w15.cell? ⟨b5, 5, none⟩ = some (.int .i64 M) ∧ w15.cell? ⟨b7, 0, none⟩ = some (.int .i64 A2) ∧ w15.cell? ⟨b7, 1, none⟩ = some (.int .i64 H2) ∧ w15.cell? ⟨b7, 2, none⟩ = some (.int .i64 P2) ∧ w15.cell? ⟨b7, 3, none⟩ = some (.int .i64 D2) ∧ w15.cell? ⟨b7, 4, none⟩ = some (.int .i64 O2) := ⟨c60, c61, c62, c63, c64, c30, c31, c32, c33, c34, c40, c41, c42, c43, c44, c45, c46, c47, c50, c51, c52, c53, c54, c55, c70, c71, c72, c73, c74⟩) | (clear mk18; go_at_call 10; refine (specTallyOk_any A1 H1 P1 D1 O1 z hz _).mono ?_; rintro er w16 ⟨rfl, hB16⟩; have hz16 : w15.heap.size ≤ w16.heap.size := hB16.size; replace c3 := vblk_grow c3 hB16; replace c4 := vblk_grow c4 hB16; replace c5 := vblk_grow c5 hB16; replace c6 := vblk_grow c6 hB16; replace c7 := vblk_grow c7 hB16; replace hB := hB.trans (hB16.mono (by omega)); replace hzw := hB.size; clear c30 c31 c32 c33 c34; obtain ⟨c30, c31, c32, c33, c34⟩ := cells5 c3; clear c40 c41 c42 c43 c44 c45 c46 c47; obtain ⟨c40, c41, c42, c43, c44, c45, c46, c47⟩ := cellsCm c4; clear c50 c51 c52 c53 c54 c55; obtain ⟨c50, c51, c52, c53, c54, c55⟩ := cellsRp c5; clear c60 c61 c62 c63 c64; obtain ⟨c60, c61, c62, c63, c64⟩ := cells5 c6; clear c70 c71 c72 c73 c74; obtain ⟨c70, c71, c72, c73, c74⟩ := cells5 c7; have S4 : w16.cell? ⟨b6, 0, none⟩ = some (.int .i64 xa) ∧ w16.cell? ⟨b6, 1, none⟩ = some (.int .i64 xh) ∧ w16.cell? ⟨b6, 2, none⟩ = some (.int .i64 xs) ∧ w16.cell? ⟨b6, 3, none⟩ = some (.int .i64 xd) ∧ w16.cell? ⟨b6, 4, none⟩ = some (.int .i64 xo) ∧ w16.cell? ⟨b3, 0, none⟩ = some (.int .i64 A1) ∧ w16.cell? ⟨b3, 1, none⟩ = some (.int .i64 H1) ∧ w16.cell? ⟨b3, 2, none⟩ = some (.int .i64 P1) ∧ w16.cell? ⟨b3, 3, none⟩ = some (.int .i64 D1) ∧ w16.cell? ⟨b3, 4, none⟩ = some (.int .i64 O1) ∧ w16.cell? ⟨b4, 0, none⟩ = some (.int .i64 V) ∧ w16.cell? ⟨b4, 1, none⟩ = some (.string N) ∧ w16.cell? ⟨b4, 2, none⟩ = some (.int .i64 F) ∧ w16.cell? ⟨b4, 3, none⟩ = some (.int .i64 U) ∧ w16.cell? ⟨b4, 4, none⟩ = some (.string B) ∧ w16.cell? ⟨b4, 5, none⟩ = some (.int .i64 C) ∧ w16.cell? ⟨b4, 6, none⟩ = some (.int .i64 D) ∧ w16.cell? ⟨b4, 7, none⟩ = some (.bool Q) ∧ w16.cell? ⟨b5, 0, none⟩ = some (.int .i64 K) ∧ w16.cell? ⟨b5, 1, none⟩ = some (.string N2) ∧ w16.cell? ⟨b5, 2, none⟩ = some (.int .i64 F2) ∧ w16.cell? ⟨b5, 3, none⟩ = some (.string B2) ∧ w16.cell? ⟨b5, 4, none⟩ = some (.int .i64 C2) ∧ w16.cell? ⟨b5, 5, none⟩ = some (.int .i64 M) ∧ w16.cell? ⟨b7, 0, none⟩ = some (.int .i64 A2) ∧ w16.cell? ⟨b7, 1, none⟩ = some (.int .i64 H2) ∧ w16.cell? ⟨b7, 2, none⟩ = some (.int .i64 P2) ∧ w16.cell? ⟨b7, 3, none⟩ = some (.int .i64 D2) ∧ w16.cell? ⟨b7, 4, none⟩ = some (.int .i64 O2) := ⟨c60, c61, c62, c63, c64, c30, c31, c32, c33, c34, c40, c41, c42, c43, c44, c45, c46, c47, c50, c51, c52, c53, c54, c55, c70, c71, c72, c73, c74⟩) | (clear mk19; go_at_call 11; refine (implShowTally_any A2 H2 P2 D2 O2 T hT _ (EN.out.grow hB)).mono ?_; rintro er w17 ⟨rfl, hB17⟩; have hz17 : w16.heap.size ≤ w17.heap.size := hB17.size; replace c3 := vblk_grow c3 hB17; replace c4 := vblk_grow c4 hB17; replace c5 := vblk_grow c5 hB17; replace c6 := vblk_grow c6 hB17; replace c7 := vblk_grow c7 hB17; replace hB := hB.trans (hB17.mono (by omega)); replace hzw := hB.size; clear c30 c31 c32 c33 c34; obtain ⟨c30, c31, c32, c33, c34⟩ := cells5 c3; clear c40 c41 c42 c43 c44 c45 c46 c47; obtain ⟨c40, c41, c42, c43, c44, c45, c46, c47⟩ := cellsCm c4; clear c50 c51 c52 c53 c54 c55; obtain ⟨c50, c51, c52, c53, c54, c55⟩ := cellsRp c5; clear c60 c61 c62 c63 c64; obtain ⟨c60, c61, c62, c63, c64⟩ := cells5 c6; clear c70 c71 c72 c73 c74; obtain ⟨c70, c71, c72, c73, c74⟩ := cells5 c7; have S5 : w17.cell? ⟨b6, 0, none⟩ = some (.int .i64 xa) ∧ w17.cell? ⟨b6, 1, none⟩ = some (.int .i64 xh) ∧ w17.cell? ⟨b6, 2, none⟩ = some (.int .i64 xs) ∧ w17.cell? ⟨b6, 3, none⟩ = some (.int .i64 xd) ∧ w17.cell? ⟨b6, 4, none⟩ = some (.int .i64 xo) ∧ w17.cell? ⟨b3, 0, none⟩ = some (.int .i64 A1) ∧ w17.cell? ⟨b3, 1, none⟩ = some (.int .i64 H1) ∧ w17.cell? ⟨b3, 2, none⟩ = some (.int .i64 P1) ∧ w17.cell? ⟨b3, 3, none⟩ = some (.int .i64 D1) ∧ w17.cell? ⟨b3, 4, none⟩ = some (.int .i64 O1) ∧ w17.cell? ⟨b4, 0, none⟩ = some (.int .i64 V) ∧ w17.cell? ⟨b4, 1, none⟩ = some (.string N) ∧ w17.cell? ⟨b4, 2, none⟩ = some (.int .i64 F) ∧ w17.cell? ⟨b4, 3, none⟩ = some (.int .i64 U) ∧ w17.cell? ⟨b4, 4, none⟩ = some (.string B) ∧ w17.cell? ⟨b4, 5, none⟩ = some (.int .i64 C) ∧ w17.cell? ⟨b4, 6, none⟩ = some (.int .i64 D) ∧ w17.cell? ⟨b4, 7, none⟩ = some (.bool Q) ∧ w17.cell? ⟨b5, 0, none⟩ = some (.int .i64 K) ∧ w17.cell? ⟨b5, 1, none⟩ = some (.string N2) ∧ w17.cell? ⟨b5, 2, none⟩ = some (.int .i64 F2) ∧ w17.cell? ⟨b5, 3, none⟩ = some (.string B2) ∧ w17.cell? ⟨b5, 4, none⟩ = some (.int .i64 C2) ∧ w17.cell? ⟨b5, 5, none⟩ = some (.int .i64 M) ∧ w17.cell? ⟨b7, 0, none⟩ = some (.int .i64 A2) ∧ w17.cell? ⟨b7, 1, none⟩ = some (.int .i64 H2) ∧ w17.cell? ⟨b7, 2, none⟩ = some (.int .i64 P2) ∧ w17.cell? ⟨b7, 3, none⟩ = some (.int .i64 D2) ∧ w17.cell? ⟨b7, 4, none⟩ = some (.int .i64 O2) := ⟨c60, c61, c62, c63, c64, c30, c31, c32, c33, c34, c40, c41, c42, c43, c44, c45, c46, c47, c50, c51, c52, c53, c54, c55, c70, c71, c72, c73, c74⟩) | (clear mk20; go_at_call 12; refine (specShowTally_any A2 H2 P2 D2 O2 T hT _).mono ?_; rintro er w18 ⟨rfl, hB18⟩; have hz18 : w17.heap.size ≤ w18.heap.size := hB18.size; replace c3 := vblk_grow c3 hB18; replace c4 := vblk_grow c4 hB18; replace c5 := vblk_grow c5 hB18; replace c6 := vblk_grow c6 hB18; replace c7 := vblk_grow c7 hB18; replace hB := hB.trans (hB18.mono (by omega)); replace hzw := hB.size; clear c30 c31 c32 c33 c34; obtain ⟨c30, c31, c32, c33, c34⟩ := cells5 c3; clear c40 c41 c42 c43 c44 c45 c46 c47; obtain ⟨c40, c41, c42, c43, c44, c45, c46, c47⟩ := cellsCm c4; clear c50 c51 c52 c53 c54 c55; obtain ⟨c50, c51, c52, c53, c54, c55⟩ := cellsRp c5; clear c60 c61 c62 c63 c64; obtain ⟨c60, c61, c62, c63, c64⟩ := cells5 c6; clear c70 c71 c72 c73 c74; obtain ⟨c70, c71, c72, c73, c74⟩ := cells5 c7; have S6 : w18.cell? ⟨b6, 0, none⟩ = some (.int .i64 xa) ∧ w18.cell? ⟨b6, 1, none⟩ = some (.int .i64 xh) ∧ w18.cell? ⟨b6, 2, none⟩ = some (.int .i64 xs) ∧ w18.cell? ⟨b6, 3, none⟩ = some (.int .i64 xd) ∧ w18.cell? ⟨b6, 4, none⟩ = some (.int .i64 xo) ∧ w18.cell? ⟨b3, 0, none⟩ = some (.int .i64 A1) ∧ w18.cell? ⟨b3, 1, none⟩ = some (.int .i64 H1) ∧ w18.cell? ⟨b3, 2, none⟩ = some (.int .i64 P1) ∧ w18.cell? ⟨b3, 3, none⟩ = some (.int .i64 D1) ∧ w18.cell? ⟨b3, 4, none⟩ = some (.int .i64 O1) ∧ w18.cell? ⟨b4, 0, none⟩ = some (.int .i64 V) ∧ w18.cell? ⟨b4, 1, none⟩ = some (.string N) ∧ w18.cell? ⟨b4, 2, none⟩ = some (.int .i64 F) ∧ w18.cell? ⟨b4, 3, none⟩ = some (.int .i64 U) ∧ w18.cell? ⟨b4, 4, none⟩ = some (.string B) ∧ w18.cell? ⟨b4, 5, none⟩ = some (.int .i64 C) ∧ w18.cell? ⟨b4, 6, none⟩ = some (.int .i64 D) ∧ w18.cell? ⟨b4, 7, none⟩ = some (.bool Q) ∧ w18.cell? ⟨b5, 0, none⟩ = some (.int .i64 K) ∧ w18.cell? ⟨b5, 1, none⟩ = some (.string N2) ∧ w18.cell? ⟨b5, 2, none⟩ = some (.int .i64 F2) ∧ w18.cell? ⟨b5, 3, none⟩ = some (.string B2) ∧ w18.cell? ⟨b5, 4, none⟩ = some (.int .i64 C2) ∧ w18.cell? ⟨b5, 5, none⟩ = some (.int .i64 M) ∧ w18.cell? ⟨b7, 0, none⟩ = some (.int .i64 A2) ∧ w18.cell? ⟨b7, 1, none⟩ = some (.int .i64 H2) ∧ w18.cell? ⟨b7, 2, none⟩ = some (.int .i64 P2) ∧ w18.cell? ⟨b7, 3, none⟩ = some (.int .i64 D2) ∧ w18.cell? ⟨b7, 4, none⟩ = some (.int .i64 O2) := ⟨c60, c61, c62, c63, c64, c30, c31, c32, c33, c34, c40, c41, c42, c43, c44, c45, c46, c47, c50, c51, c52, c53, c54, c55, c70, c71, c72, c73, c74⟩) | (fail))
  clear S1 hBd
  clear c7 c70 c71 c72 c73 c74 KI KS
  cases z with
  | false =>
    have e0 : coT ⟨A1, H1, P1, D1, O1⟩ ⟨V, N, F, U, B, C, D, Q⟩ ⟨K, N2, F2, B2, C2, M⟩ = Tl.zero := by unfold coT; rw [if_neg (by rw [hz.out]; decide)]
    rw [hX.out] at e0
    obtain ⟨rfl, rfl, rfl, rfl, rfl⟩ : xa = 0 ∧ xh = 0 ∧ xs = 0 ∧ xd = 0 ∧ xo = 0 := by cases e0; exact ⟨rfl, rfl, rfl, rfl, rfl⟩
    clear e0
    have mk21 : Hid True := trivial
    go_wp2_with (first | (clear mk21; go_at_call 10; refine (specTallyOk_any A1 H1 P1 D1 O1 false hz _).mono ?_; rintro er w19 ⟨rfl, hB19⟩; have hz19 : w18.heap.size ≤ w19.heap.size := hB19.size; replace c3 := vblk_grow c3 hB19; replace c4 := vblk_grow c4 hB19; replace c5 := vblk_grow c5 hB19; replace c6 := vblk_grow c6 hB19; replace hB := hB.trans (hB19.mono (by omega)); replace hzw := hB.size; clear c30 c31 c32 c33 c34; obtain ⟨c30, c31, c32, c33, c34⟩ := cells5 c3; clear c40 c41 c42 c43 c44 c45 c46 c47; obtain ⟨c40, c41, c42, c43, c44, c45, c46, c47⟩ := cellsCm c4; clear c50 c51 c52 c53 c54 c55; obtain ⟨c50, c51, c52, c53, c54, c55⟩ := cellsRp c5; clear c60 c61 c62 c63 c64; obtain ⟨c60, c61, c62, c63, c64⟩ := cells5 c6) | (fail))
    go_ret
    exact ⟨rfl, hB⟩
  | true =>
    have okT := tallyB_iff.1 hz.out
    have e0 : coT ⟨A1, H1, P1, D1, O1⟩ ⟨V, N, F, U, B, C, D, Q⟩ ⟨K, N2, F2, B2, C2, M⟩ = cntT ⟨A1, H1, P1, D1, O1⟩ ⟨V, N, F, U, B, C, D, Q⟩ ⟨K, N2, F2, B2, C2, M⟩ := by unfold coT; rw [if_pos hz.out]
    rw [hX.out] at e0
    obtain ⟨ga, hga⟩ := hid_ex (getV ⟨V, N, F, U, B, C, D, Q⟩)
    obtain ⟨gs, hgs⟩ := hid_ex (keptK ⟨K, N2, F2, B2, C2, M⟩)
    obtain ⟨gh, hgh⟩ := hid_ex (decide (K = 5))
    have ok2 := cnt_ok okT ⟨V, N, F, U, B, C, D, Q⟩ ⟨K, N2, F2, B2, C2, M⟩
    obtain ⟨sa, sh, ss⟩ := cnt_says okT ⟨V, N, F, U, B, C, D, Q⟩ ⟨K, N2, F2, B2, C2, M⟩
    rw [← e0] at ok2 sa sh ss
    have hxT : Hid (tallyB ⟨xa, xh, xs, xd, xo⟩ = true) := tallyB_iff.2 ok2
    obtain ⟨rfl, rfl⟩ : xd = D1 ∧ xo = O1 := by
      have h := e0
      unfold cntT at h
      simp only [Tl.mk.injEq] at h
      exact ⟨h.2.2.2.1, h.2.2.2.2⟩
    dsimp only at sa sh ss
    rw [hga.out] at sa
    rw [hgs.out] at ss
    have sh' : H1 < xh ↔ gh = true ∧ H1 < 1000000000 := by rw [← hgh.out, decide_eq_true_iff]; exact sh
    have way : ∀ (gg : Bool) (t x : Int), (t < x ↔ gg = true ∧ t < 1000000000) → ∃ q : Bool, decide (t < x) = q ∧ (gg = true → decide (t < 1000000000) = q) ∧ (gg = false → q = false) := fun gg t x h => by
      refine ⟨decide (t < x), rfl, fun hg => ?_, fun hg => ?_⟩
      · exact decide_eq_decide.2 ⟨fun q => h.2 ⟨hg, q⟩, fun q => (h.1 q).2⟩
      · exact decide_eq_false fun q => by have := (h.1 q).1; rw [hg] at this; cases this
    obtain ⟨qa, ha1, ha2, ha3⟩ := way ga A1 xa sa
    obtain ⟨qh, hh1, hh2, hh3⟩ := way gh H1 xh sh'
    obtain ⟨qs, hs1, hs2, hs3⟩ := way gs P1 xs ss
    have Fa : Hid (decide (A1 < xa) = qa ∧ (ga = true → decide (A1 < 1000000000) = qa) ∧ (ga = false → qa = false)) := ⟨ha1, ha2, ha3⟩
    have Fh : Hid (decide (H1 < xh) = qh ∧ (gh = true → decide (H1 < 1000000000) = qh) ∧ (gh = false → qh = false)) := ⟨hh1, hh2, hh3⟩
    have Fs : Hid (decide (P1 < xs) = qs ∧ (gs = true → decide (P1 < 1000000000) = qs) ∧ (gs = false → qs = false)) := ⟨hs1, hs2, hs3⟩
    have hga2 : Hid (ga = (decide (V = 1) || decide (V = 2))) := by unfold Hid; rw [← hga.out]; rfl
    have hgs2 : Hid (gs = (decide (K = 1) || decide (K = 6))) := by unfold Hid; rw [← hgs.out]; rfl
    have hgh2 : Hid (gh = decide (K = 5)) := hgh.out.symm
    clear ha1 ha2 ha3 hh1 hh2 hh3 hs1 hs2 hs3 way sa sh ss sh' ok2 e0 okT hga hgs hgh hX
    have mk22 : Hid True := trivial
    go_upto_region 10 with (first | (clear mk22; go_at_call 10; refine (specTallyOk_any A1 H1 P1 xd xo true hz _).mono ?_; rintro er w19 ⟨rfl, hB19⟩; have hz19 : w18.heap.size ≤ w19.heap.size := hB19.size; replace c3 := vblk_grow c3 hB19; replace c4 := vblk_grow c4 hB19; replace c5 := vblk_grow c5 hB19; replace c6 := vblk_grow c6 hB19; replace hB := hB.trans (hB19.mono (by omega)); replace hzw := hB.size; clear c30 c31 c32 c33 c34; obtain ⟨c30, c31, c32, c33, c34⟩ := cells5 c3; clear c40 c41 c42 c43 c44 c45 c46 c47; obtain ⟨c40, c41, c42, c43, c44, c45, c46, c47⟩ := cellsCm c4; clear c50 c51 c52 c53 c54 c55; obtain ⟨c50, c51, c52, c53, c54, c55⟩ := cellsRp c5; clear c60 c61 c62 c63 c64; obtain ⟨c60, c61, c62, c63, c64⟩ := cells5 c6) | (fail))
    (try simp only [Act.put])
    (try simp only [List.setIfInBounds_toArray, List.set_cons_zero, List.set_cons_succ])
    go_cut [8] from 8 to 57 (fun s8 wc => s8 = .bool ga ∧ w19 = wc)
    case first =>
      by_cases v1 : V = 1
      · obtain rfl : ga = true := by rw [hga2.out, v1]; rfl
        have u1 : (V == 1) = true := by rw [v1]; rfl
        clear v1 hga2
        go_wp2
        go_meet
        case rel => exact ⟨rfl, rfl⟩
      · have u1 : (V == 1) = false := by simpa using v1
        by_cases v2 : V = 2
        · obtain rfl : ga = true := by rw [hga2.out, v2]; rfl
          have u2 : (V == 2) = true := by rw [v2]; rfl
          clear v2 v1 hga2
          go_wp2
          go_meet
          case rel => exact ⟨rfl, rfl⟩
        · obtain rfl : ga = false := by rw [hga2.out, decide_eq_false v1, decide_eq_false v2]; rfl
          have u2 : (V == 2) = false := by simpa using v2
          clear v2 v1 hga2
          go_wp2
          go_meet
          case rel => exact ⟨rfl, rfl⟩
    case rest =>
    obtain ⟨rfl, hWc⟩ := hcut
    subst hWc
    go_upto_region 11 with (fail)
    go_cut [9] from 9 to 65 (fun s9 wc => s9 = .bool gs ∧ w19 = wc)
    case first =>
      by_cases v1 : K = 1
      · obtain rfl : gs = true := by rw [hgs2.out, v1]; rfl
        have u1 : (K == 1) = true := by rw [v1]; rfl
        clear v1 hgs2 hgh2
        go_wp2
        go_meet
        case rel => exact ⟨rfl, rfl⟩
      · have u1 : (K == 1) = false := by simpa using v1
        by_cases v2 : K = 6
        · obtain rfl : gs = true := by rw [hgs2.out, v2]; rfl
          have u2 : (K == 6) = true := by rw [v2]; rfl
          clear v2 v1 hgs2 hgh2
          go_wp2
          go_meet
          case rel => exact ⟨rfl, rfl⟩
        · obtain rfl : gs = false := by rw [hgs2.out, decide_eq_false v1, decide_eq_false v2]; rfl
          have u2 : (K == 6) = false := by simpa using v2
          clear v2 v1 hgs2 hgh2
          go_wp2
          go_meet
          case rel => exact ⟨rfl, rfl⟩
    case rest =>
    obtain ⟨rfl, hWc⟩ := hcut
    subst hWc
    clear hga2 hgs2
    have hK5 : Hid ((K == 5) = gh) := by unfold Hid; rw [hgh2.out]; rfl
    clear hgh2
    have eD : (xd == xd) = true := by simp
    have eO : (xo == xo) = true := by simp
    have bb : ∀ b : Bool, (b == b) = true := fun b => by cases b <;> rfl
    cases ga <;> cases gh <;> cases gs
    · have da1 : decide (A1 < xa) = false := Fa.out.1.trans (Fa.out.2.2 rfl)
      have dh1 : decide (H1 < xh) = false := Fh.out.1.trans (Fh.out.2.2 rfl)
      have ds1 : decide (P1 < xs) = false := Fs.out.1.trans (Fs.out.2.2 rfl)
      have k5 : (K == 5) = false := hK5.out
      clear Fa Fh Fs hK5
      have mk23 : Hid True := trivial
      go_wp2_with (first | (clear mk23; go_at_call 9; refine (implTallyOk_any xa xh xs xd xo true hxT _).mono ?_; rintro er w20 ⟨rfl, hB20⟩; have hz20 : w19.heap.size ≤ w20.heap.size := hB20.size; replace c3 := vblk_grow c3 hB20; replace c4 := vblk_grow c4 hB20; replace c5 := vblk_grow c5 hB20; replace c6 := vblk_grow c6 hB20; replace hB := hB.trans (hB20.mono (by omega)); replace hzw := hB.size; clear c30 c31 c32 c33 c34; obtain ⟨c30, c31, c32, c33, c34⟩ := cells5 c3; clear c40 c41 c42 c43 c44 c45 c46 c47; obtain ⟨c40, c41, c42, c43, c44, c45, c46, c47⟩ := cellsCm c4; clear c50 c51 c52 c53 c54 c55; obtain ⟨c50, c51, c52, c53, c54, c55⟩ := cellsRp c5; clear c60 c61 c62 c63 c64; obtain ⟨c60, c61, c62, c63, c64⟩ := cells5 c6) | (fail))
      go_ret
      exact ⟨rfl, hB⟩
    · have da1 : decide (A1 < xa) = false := Fa.out.1.trans (Fa.out.2.2 rfl)
      have dh1 : decide (H1 < xh) = false := Fh.out.1.trans (Fh.out.2.2 rfl)
      have ds1 : decide (P1 < xs) = qs := Fs.out.1
      have ds2 : decide (P1 < 1000000000) = qs := Fs.out.2.1 rfl
      have k5 : (K == 5) = false := hK5.out
      clear Fa Fh Fs hK5
      have mk24 : Hid True := trivial
      go_wp2_with (first | (clear mk24; go_at_call 9; refine (implTallyOk_any xa xh xs xd xo true hxT _).mono ?_; rintro er w20 ⟨rfl, hB20⟩; have hz20 : w19.heap.size ≤ w20.heap.size := hB20.size; replace c3 := vblk_grow c3 hB20; replace c4 := vblk_grow c4 hB20; replace c5 := vblk_grow c5 hB20; replace c6 := vblk_grow c6 hB20; replace hB := hB.trans (hB20.mono (by omega)); replace hzw := hB.size; clear c30 c31 c32 c33 c34; obtain ⟨c30, c31, c32, c33, c34⟩ := cells5 c3; clear c40 c41 c42 c43 c44 c45 c46 c47; obtain ⟨c40, c41, c42, c43, c44, c45, c46, c47⟩ := cellsCm c4; clear c50 c51 c52 c53 c54 c55; obtain ⟨c50, c51, c52, c53, c54, c55⟩ := cellsRp c5; clear c60 c61 c62 c63 c64; obtain ⟨c60, c61, c62, c63, c64⟩ := cells5 c6) | (fail))
      go_ret
      exact ⟨rfl, hB⟩
    · have da1 : decide (A1 < xa) = false := Fa.out.1.trans (Fa.out.2.2 rfl)
      have dh1 : decide (H1 < xh) = qh := Fh.out.1
      have dh2 : decide (H1 < 1000000000) = qh := Fh.out.2.1 rfl
      have ds1 : decide (P1 < xs) = false := Fs.out.1.trans (Fs.out.2.2 rfl)
      have k5 : (K == 5) = true := hK5.out
      clear Fa Fh Fs hK5
      have mk25 : Hid True := trivial
      go_wp2_with (first | (clear mk25; go_at_call 9; refine (implTallyOk_any xa xh xs xd xo true hxT _).mono ?_; rintro er w20 ⟨rfl, hB20⟩; have hz20 : w19.heap.size ≤ w20.heap.size := hB20.size; replace c3 := vblk_grow c3 hB20; replace c4 := vblk_grow c4 hB20; replace c5 := vblk_grow c5 hB20; replace c6 := vblk_grow c6 hB20; replace hB := hB.trans (hB20.mono (by omega)); replace hzw := hB.size; clear c30 c31 c32 c33 c34; obtain ⟨c30, c31, c32, c33, c34⟩ := cells5 c3; clear c40 c41 c42 c43 c44 c45 c46 c47; obtain ⟨c40, c41, c42, c43, c44, c45, c46, c47⟩ := cellsCm c4; clear c50 c51 c52 c53 c54 c55; obtain ⟨c50, c51, c52, c53, c54, c55⟩ := cellsRp c5; clear c60 c61 c62 c63 c64; obtain ⟨c60, c61, c62, c63, c64⟩ := cells5 c6) | (fail))
      go_ret
      exact ⟨rfl, hB⟩
    · have da1 : decide (A1 < xa) = false := Fa.out.1.trans (Fa.out.2.2 rfl)
      have dh1 : decide (H1 < xh) = qh := Fh.out.1
      have dh2 : decide (H1 < 1000000000) = qh := Fh.out.2.1 rfl
      have ds1 : decide (P1 < xs) = qs := Fs.out.1
      have ds2 : decide (P1 < 1000000000) = qs := Fs.out.2.1 rfl
      have k5 : (K == 5) = true := hK5.out
      clear Fa Fh Fs hK5
      have mk26 : Hid True := trivial
      go_wp2_with (first | (clear mk26; go_at_call 9; refine (implTallyOk_any xa xh xs xd xo true hxT _).mono ?_; rintro er w20 ⟨rfl, hB20⟩; have hz20 : w19.heap.size ≤ w20.heap.size := hB20.size; replace c3 := vblk_grow c3 hB20; replace c4 := vblk_grow c4 hB20; replace c5 := vblk_grow c5 hB20; replace c6 := vblk_grow c6 hB20; replace hB := hB.trans (hB20.mono (by omega)); replace hzw := hB.size; clear c30 c31 c32 c33 c34; obtain ⟨c30, c31, c32, c33, c34⟩ := cells5 c3; clear c40 c41 c42 c43 c44 c45 c46 c47; obtain ⟨c40, c41, c42, c43, c44, c45, c46, c47⟩ := cellsCm c4; clear c50 c51 c52 c53 c54 c55; obtain ⟨c50, c51, c52, c53, c54, c55⟩ := cellsRp c5; clear c60 c61 c62 c63 c64; obtain ⟨c60, c61, c62, c63, c64⟩ := cells5 c6) | (fail))
      go_ret
      exact ⟨rfl, hB⟩
    · have da1 : decide (A1 < xa) = qa := Fa.out.1
      have da2 : decide (A1 < 1000000000) = qa := Fa.out.2.1 rfl
      have dh1 : decide (H1 < xh) = false := Fh.out.1.trans (Fh.out.2.2 rfl)
      have ds1 : decide (P1 < xs) = false := Fs.out.1.trans (Fs.out.2.2 rfl)
      have k5 : (K == 5) = false := hK5.out
      clear Fa Fh Fs hK5
      have mk27 : Hid True := trivial
      go_wp2_with (first | (clear mk27; go_at_call 9; refine (implTallyOk_any xa xh xs xd xo true hxT _).mono ?_; rintro er w20 ⟨rfl, hB20⟩; have hz20 : w19.heap.size ≤ w20.heap.size := hB20.size; replace c3 := vblk_grow c3 hB20; replace c4 := vblk_grow c4 hB20; replace c5 := vblk_grow c5 hB20; replace c6 := vblk_grow c6 hB20; replace hB := hB.trans (hB20.mono (by omega)); replace hzw := hB.size; clear c30 c31 c32 c33 c34; obtain ⟨c30, c31, c32, c33, c34⟩ := cells5 c3; clear c40 c41 c42 c43 c44 c45 c46 c47; obtain ⟨c40, c41, c42, c43, c44, c45, c46, c47⟩ := cellsCm c4; clear c50 c51 c52 c53 c54 c55; obtain ⟨c50, c51, c52, c53, c54, c55⟩ := cellsRp c5; clear c60 c61 c62 c63 c64; obtain ⟨c60, c61, c62, c63, c64⟩ := cells5 c6) | (fail))
      go_ret
      exact ⟨rfl, hB⟩
    · have da1 : decide (A1 < xa) = qa := Fa.out.1
      have da2 : decide (A1 < 1000000000) = qa := Fa.out.2.1 rfl
      have dh1 : decide (H1 < xh) = false := Fh.out.1.trans (Fh.out.2.2 rfl)
      have ds1 : decide (P1 < xs) = qs := Fs.out.1
      have ds2 : decide (P1 < 1000000000) = qs := Fs.out.2.1 rfl
      have k5 : (K == 5) = false := hK5.out
      clear Fa Fh Fs hK5
      have mk28 : Hid True := trivial
      go_wp2_with (first | (clear mk28; go_at_call 9; refine (implTallyOk_any xa xh xs xd xo true hxT _).mono ?_; rintro er w20 ⟨rfl, hB20⟩; have hz20 : w19.heap.size ≤ w20.heap.size := hB20.size; replace c3 := vblk_grow c3 hB20; replace c4 := vblk_grow c4 hB20; replace c5 := vblk_grow c5 hB20; replace c6 := vblk_grow c6 hB20; replace hB := hB.trans (hB20.mono (by omega)); replace hzw := hB.size; clear c30 c31 c32 c33 c34; obtain ⟨c30, c31, c32, c33, c34⟩ := cells5 c3; clear c40 c41 c42 c43 c44 c45 c46 c47; obtain ⟨c40, c41, c42, c43, c44, c45, c46, c47⟩ := cellsCm c4; clear c50 c51 c52 c53 c54 c55; obtain ⟨c50, c51, c52, c53, c54, c55⟩ := cellsRp c5; clear c60 c61 c62 c63 c64; obtain ⟨c60, c61, c62, c63, c64⟩ := cells5 c6) | (fail))
      go_ret
      exact ⟨rfl, hB⟩
    · have da1 : decide (A1 < xa) = qa := Fa.out.1
      have da2 : decide (A1 < 1000000000) = qa := Fa.out.2.1 rfl
      have dh1 : decide (H1 < xh) = qh := Fh.out.1
      have dh2 : decide (H1 < 1000000000) = qh := Fh.out.2.1 rfl
      have ds1 : decide (P1 < xs) = false := Fs.out.1.trans (Fs.out.2.2 rfl)
      have k5 : (K == 5) = true := hK5.out
      clear Fa Fh Fs hK5
      have mk29 : Hid True := trivial
      go_wp2_with (first | (clear mk29; go_at_call 9; refine (implTallyOk_any xa xh xs xd xo true hxT _).mono ?_; rintro er w20 ⟨rfl, hB20⟩; have hz20 : w19.heap.size ≤ w20.heap.size := hB20.size; replace c3 := vblk_grow c3 hB20; replace c4 := vblk_grow c4 hB20; replace c5 := vblk_grow c5 hB20; replace c6 := vblk_grow c6 hB20; replace hB := hB.trans (hB20.mono (by omega)); replace hzw := hB.size; clear c30 c31 c32 c33 c34; obtain ⟨c30, c31, c32, c33, c34⟩ := cells5 c3; clear c40 c41 c42 c43 c44 c45 c46 c47; obtain ⟨c40, c41, c42, c43, c44, c45, c46, c47⟩ := cellsCm c4; clear c50 c51 c52 c53 c54 c55; obtain ⟨c50, c51, c52, c53, c54, c55⟩ := cellsRp c5; clear c60 c61 c62 c63 c64; obtain ⟨c60, c61, c62, c63, c64⟩ := cells5 c6) | (fail))
      go_ret
      exact ⟨rfl, hB⟩
    · have da1 : decide (A1 < xa) = qa := Fa.out.1
      have da2 : decide (A1 < 1000000000) = qa := Fa.out.2.1 rfl
      have dh1 : decide (H1 < xh) = qh := Fh.out.1
      have dh2 : decide (H1 < 1000000000) = qh := Fh.out.2.1 rfl
      have ds1 : decide (P1 < xs) = qs := Fs.out.1
      have ds2 : decide (P1 < 1000000000) = qs := Fs.out.2.1 rfl
      have k5 : (K == 5) = true := hK5.out
      clear Fa Fh Fs hK5
      have mk30 : Hid True := trivial
      go_wp2_with (first | (clear mk30; go_at_call 9; refine (implTallyOk_any xa xh xs xd xo true hxT _).mono ?_; rintro er w20 ⟨rfl, hB20⟩; have hz20 : w19.heap.size ≤ w20.heap.size := hB20.size; replace c3 := vblk_grow c3 hB20; replace c4 := vblk_grow c4 hB20; replace c5 := vblk_grow c5 hB20; replace c6 := vblk_grow c6 hB20; replace hB := hB.trans (hB20.mono (by omega)); replace hzw := hB.size; clear c30 c31 c32 c33 c34; obtain ⟨c30, c31, c32, c33, c34⟩ := cells5 c3; clear c40 c41 c42 c43 c44 c45 c46 c47; obtain ⟨c40, c41, c42, c43, c44, c45, c46, c47⟩ := cellsCm c4; clear c50 c51 c52 c53 c54 c55; obtain ⟨c50, c51, c52, c53, c54, c55⟩ := cellsRp c5; clear c60 c61 c62 c63 c64; obtain ⟨c60, c61, c62, c63, c64⟩ := cells5 c6) | (fail))
      go_ret
      exact ⟨rfl, hB⟩

end Go.Proofs.YtldflfmglpojlaaDoor.lawTl
