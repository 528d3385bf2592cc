/- Texts laid together: Ds53 Ds54 Ds55 Ds56 Ds5 Ds6. -/
import Derived.Test.YtjkkjpgebcnhgaaGreatDoorMg27
import Derived.Test.YtjkkjpgebcnhgaaGreatDoorMg21
import Derived.Test.YtjkkjpgebcnhgaaGreatDoorMg10
import Derived.Test.YtjkkjpgebcnhgaaGreatDoorMg26
import Derived.Test.YtjkkjpgebcnhgaaGreatDoorMg23
import Derived.Test.YtjkkjpgebcnhgaaGreatDoorMg13
import Derived.Deep.DeepCutAuto
import Derived.Deep.RegionHeld3
import Derived.BigQuiet
import Derived.Lib.SmallJoins
/- The model's l13Do, where the thing is there. -/
namespace Go.Proofs.YtjkkjpgebcnhgaaGreatDoor.rg
open Go.ChangeShapes Go.WideShapes Go.ChangeAt Go.RowKit
open Go.Deep Go.Joins
open Go.Proofs.YtjkkjpgebcnhgaaGreatDoor.ce Go.Proofs.YtjkkjpgebcnhgaaGreatDoor.ro Go.Proofs.YtjkkjpgebcnhgaaGreatDoor.cm
set_option linter.unusedVariables false

set_option maxRecDepth 100000 in
set_option maxHeartbeats 8000000 in
theorem l13Do_s3 (I : List It) (X : Int) (N B : ByteArray) (F C U : Int) (V : Int) (N2 : ByteArray) (F2 U2 : Int) (B2 : ByteArray) (C2 D2 : Int) (Q2 : Bool) (b0 lo n0 k0 : Nat) (A0 : Option Addr) (w : World) (c0 : VBlk w b0 31 [.slice A0 n0 k0, .int .i64 X]) (hlo : lo ≤ b0) (o : Own encIt w lo w.heap.size (.slice A0 n0 k0) I) (ok : StOk ⟨I, X⟩) (hc : COk ⟨V, N2, F2, U2, B2, C2, D2, Q2⟩) (hlk : lookI I N2 = some ⟨N, F, B, C, U⟩) (hV : V = 9) :
    Calls Tryz.prog 35 #[.pointer (some ⟨b0, 0, none⟩), .agg #[.int .i64 V, .string N2, .int .i64 F2, .int .i64 U2, .string B2, .int .i64 C2, .int .i64 D2, .bool Q2]] w fun e w' => PostM (doK ⟨I, X⟩ ⟨V, N2, F2, U2, B2, C2, D2, Q2⟩).1 (doK ⟨I, X⟩ ⟨V, N2, F2, U2, B2, C2, D2, Q2⟩).2 b0 lo w e w' := by
  have hv0 := hc.v0
  have hv1 := hc.v1
  have hd1 := hc.d1
  have hb1 := hc.b1
  have hnm := hc.nm
  dsimp only at hv0 hv1 hd1 hb1 hnm
  have hl20 := len_of ok
  have hK := Onk.refl b0 lo w
  have hlt0 := c0.lt
  have hzw0 : w.heap.size ≤ w.heap.size := Nat.le_refl _
  have szB2 : B2.size ≤ 1048576 := by omega
  have OK : Hid _ := ok
  have HNM : Hid _ := hnm
  have hlk' := hlk
  obtain ⟨hmem, hnn, k, hk, hk2, hk3⟩ := look_some hlk
  have hit := itemB_iff.1 (ok.bk.1 _ hmem)
  dsimp only at hnn
  have hN : N.size ≤ 1048576 := by have := nm_small hit.nm; dsimp only at this; omega
  have hBs : B.size ≤ 1048576 := by have := hit.b1; dsimp only at this; omega
  have hN2 : N2.size ≤ 1048576 := by rw [← hnn]; exact hN
  have hf : Hid (findI I N2 = k) := hk2
  have HX : Hid (I[k] = ⟨N, F, B, C, U⟩) := hk3
  have HLK : Hid _ := hlk
  have HNN : Hid (N = N2) := hnn
  obtain ⟨g, cap, eg, hg1, hg2, hg3⟩ := o.form (by omega)
  obtain ⟨rfl, rfl, rfl⟩ : A0 = some ⟨g, 0, none⟩ ∧ n0 = I.length ∧ k0 = cap := by simpa using eg
  have hk0' : (0 : Int) ≤ (k : Int) := by omega
  have hkn : (k : Int) < (I.length : Int) := by omega
  have hge : decide (((k : Nat) : Int) ≥ 0) = true := decide_eq_true (by omega)
  have hgl : decide (((k : Nat) : Int) < 0) = false := decide_eq_false (by omega)
  clear hlk hlk' hmem hnn hk2 hk3 eg hit ok hc hnm
  obtain ⟨⟨Bz, Rz⟩, hDK⟩ := hid_ex (doK ⟨I, X⟩ ⟨V, N2, F2, U2, B2, C2, D2, Q2⟩)
  rw [hDK.out]
  unfold PostM
  dsimp only
  go_enter Tryz.func35, Tryz.ntmps35
  obtain ⟨c00, c01⟩ := cells2 c0
  have mk1 : Hid True := trivial
  have mk2 : Hid True := trivial
  go_upto_region 1 with (first | (clear mk1; refine wpList_box_v rfl 37 _ rfl [.int .i64 V, .string N2, .int .i64 F2, .int .i64 U2, .string B2, .int .i64 C2, .int .i64 D2, .bool Q2] rfl ?_; intro b3 w1 hb3 hwb3 hB1 c3; have hz1 : w.heap.size ≤ w1.heap.size := hB1.size; replace o := o.grow hB1; replace c0 := vblk_grow c0 hB1; replace hK := hK.trans (Onk.of_below hB1); clear c00 c01; obtain ⟨c00, c01⟩ := cells2 c0; obtain ⟨c30, c31, c32, c33, c34, c35, c36, c37⟩ := cellsCm c3) | (clear mk2; refine wpList_alloc_v rfl 33 rfl _ zeroRp ?_; intro b4 w2 hb4 hwb4 hB2 c4; have hz2 : w1.heap.size ≤ w2.heap.size := hB2.size; replace o := o.grow hB2; replace c0 := vblk_grow c0 hB2; replace c3 := vblk_grow c3 hB2; replace hK := hK.trans (Onk.of_below hB2); clear c00 c01; obtain ⟨c00, c01⟩ := cells2 c0; clear c30 c31 c32 c33 c34 c35 c36 c37; obtain ⟨c30, c31, c32, c33, c34, c35, c36, c37⟩ := cellsCm c3; obtain ⟨c40, c41, c42, c43, c44, c45⟩ := cellsRp c4) | (fail))
  have hKd : Below w2.heap.size w2 w2.drew := (Below.refl _ _).drew
  have hzd : w2.drew.heap.size ≤ w2.heap.size := Nat.le_refl _
  have hzd2 : w2.heap.size ≤ w2.drew.heap.size := Nat.le_refl _
  replace hK := hK.trans (Onk.of_below hKd)
  replace o := o.grow hKd
  replace c0 := vblk_grow c0 hKd
  clear c00 c01
  obtain ⟨c00, c01⟩ := cells2 c0
  replace c3 := vblk_grow c3 hKd
  clear c30 c31 c32 c33 c34 c35 c36 c37
  obtain ⟨c30, c31, c32, c33, c34, c35, c36, c37⟩ := cellsCm c3
  replace c4 := vblk_grow c4 hKd
  clear c40 c41 c42 c43 c44 c45
  obtain ⟨c40, c41, c42, c43, c44, c45⟩ := cellsRp c4
  have S1 : w2.drew.cell? ⟨b0, 0, none⟩ = some (.slice (some ⟨g, 0, none⟩) I.length k0) ∧ w2.drew.cell? ⟨b3, 1, none⟩ = some (.string N2) := ⟨c00, c31⟩
  go_region_held3 (fun w' => w'.cell? ⟨b0, 0, none⟩ = some (.slice (some ⟨g, 0, none⟩) I.length k0) ∧ w'.cell? ⟨b3, 1, none⟩ = some (.string N2)) (first | with_reducible assumption | with_reducible exact S1 | (fail)) (first | (go_at_call 26; refine (specFindItem_any I N2 _ _ o.rd).mono ?_; rintro er wq ⟨rfl, hq⟩; subst wq; rw [hf.out]; have S2 := S1) | (fail))
  clear S1 S2 hKd
  have mk3 : Hid True := trivial
  have mk4 : Hid True := trivial
  have mk5 : Hid True := trivial
  have mk6 : Hid True := trivial
  have mk7 : Hid True := trivial
  have mk8 : Hid True := trivial
  go_upto_region 7 with (first | (clear mk3; refine wpList_alloc_v rfl 56 rfl _ zeroIt ?_; intro b6 w3 hb6 hwb6 hB3 c6; have hz3 : w2.drew.heap.size ≤ w3.heap.size := hB3.size; replace o := o.grow hB3; replace c0 := vblk_grow c0 hB3; replace c3 := vblk_grow c3 hB3; replace c4 := vblk_grow c4 hB3; replace hK := hK.trans (Onk.of_below hB3); clear c00 c01; obtain ⟨c00, c01⟩ := cells2 c0; clear c30 c31 c32 c33 c34 c35 c36 c37; obtain ⟨c30, c31, c32, c33, c34, c35, c36, c37⟩ := cellsCm c3; clear c40 c41 c42 c43 c44 c45; obtain ⟨c40, c41, c42, c43, c44, c45⟩ := cellsRp c4; obtain ⟨c60, c61, c62, c63, c64⟩ := cells5 c6) | (clear mk4; refine wpList_store_v rfl 56 _ _ rfl b6 [.string ⟨#[]⟩, .int .i64 0, .string ⟨#[]⟩, .int .i64 0, .int .i64 0] rfl rfl sizeIt c6 rfl (ic_one ZIt) ?_; intro w4 hO4 c6x; clear c60 c61 c62 c63 c64; have hz4 : w3.heap.size ≤ w4.heap.size := (Nat.le_of_eq hO4.1.symm); have hy4 : w4.heap.size ≤ w3.heap.size := (Nat.le_of_eq hO4.1); replace o := o.below (hO4.2.2 b6 (Nat.le_refl _)) (by omega); replace c0 := vblk_only c0 hO4 (by omega); replace c3 := vblk_only c3 hO4 (by omega); replace c4 := vblk_only c4 hO4 (by omega); replace hK := hK.new hO4 (by omega); clear c00 c01; obtain ⟨c00, c01⟩ := cells2 c0; clear c30 c31 c32 c33 c34 c35 c36 c37; obtain ⟨c30, c31, c32, c33, c34, c35, c36, c37⟩ := cellsCm c3; clear c40 c41 c42 c43 c44 c45; obtain ⟨c40, c41, c42, c43, c44, c45⟩ := cellsRp c4; clear c6; have c6 := c6x; clear c6x; obtain ⟨c60, c61, c62, c63, c64⟩ := cells5 c6) | (clear mk5; refine wpList_load_r rfl 56 _ rfl g (k * 5) [.string N, .int .i64 F, .string B, .int .i64 C, .int .i64 U] rfl _ Tryz.underlying56 rfl sizeIt (own_at5 o hk HX.out) ?_) | (clear mk6; refine wpList_store_v rfl 56 _ _ rfl b6 [.string N, .int .i64 F, .string B, .int .i64 C, .int .i64 U] rfl rfl sizeIt c6 rfl (ic_one ⟨N, F, B, C, U⟩) ?_; intro w5 hO5 c6x; clear c60 c61 c62 c63 c64; have hz5 : w4.heap.size ≤ w5.heap.size := (Nat.le_of_eq hO5.1.symm); have hy5 : w5.heap.size ≤ w4.heap.size := (Nat.le_of_eq hO5.1); replace o := o.below (hO5.2.2 b6 (Nat.le_refl _)) (by omega); replace c0 := vblk_only c0 hO5 (by omega); replace c3 := vblk_only c3 hO5 (by omega); replace c4 := vblk_only c4 hO5 (by omega); replace hK := hK.new hO5 (by omega); clear c00 c01; obtain ⟨c00, c01⟩ := cells2 c0; clear c30 c31 c32 c33 c34 c35 c36 c37; obtain ⟨c30, c31, c32, c33, c34, c35, c36, c37⟩ := cellsCm c3; clear c40 c41 c42 c43 c44 c45; obtain ⟨c40, c41, c42, c43, c44, c45⟩ := cellsRp c4; clear c6; have c6 := c6x; clear c6x; obtain ⟨c60, c61, c62, c63, c64⟩ := cells5 c6) | (clear mk7; refine wpList_alloc_v rfl 56 rfl _ zeroIt ?_; intro b7 w6 hb7 hwb7 hB6 c7; have hz6 : w5.heap.size ≤ w6.heap.size := hB6.size; replace o := o.grow hB6; replace c0 := vblk_grow c0 hB6; replace c3 := vblk_grow c3 hB6; replace c4 := vblk_grow c4 hB6; replace c6 := vblk_grow c6 hB6; replace hK := hK.trans (Onk.of_below hB6); clear c00 c01; obtain ⟨c00, c01⟩ := cells2 c0; clear c30 c31 c32 c33 c34 c35 c36 c37; obtain ⟨c30, c31, c32, c33, c34, c35, c36, c37⟩ := cellsCm c3; clear c40 c41 c42 c43 c44 c45; obtain ⟨c40, c41, c42, c43, c44, c45⟩ := cellsRp c4; clear c60 c61 c62 c63 c64; obtain ⟨c60, c61, c62, c63, c64⟩ := cells5 c6; obtain ⟨c70, c71, c72, c73, c74⟩ := cells5 c7) | (clear mk8; refine wpList_store_v rfl 56 _ _ rfl b7 [.string N2, .int .i64 F2, .string B2, .int .i64 0, .int .i64 U2] rfl rfl sizeIt c7 rfl (ic_one ⟨N2, F2, B2, 0, U2⟩) ?_; intro w7 hO7 c7x; clear c70 c71 c72 c73 c74; have hz7 : w6.heap.size ≤ w7.heap.size := (Nat.le_of_eq hO7.1.symm); have hy7 : w7.heap.size ≤ w6.heap.size := (Nat.le_of_eq hO7.1); replace o := o.below (hO7.2.2 b7 (Nat.le_refl _)) (by omega); replace c0 := vblk_only c0 hO7 (by omega); replace c3 := vblk_only c3 hO7 (by omega); replace c4 := vblk_only c4 hO7 (by omega); replace c6 := vblk_only c6 hO7 (by omega); replace hK := hK.new hO7 (by omega); clear c00 c01; obtain ⟨c00, c01⟩ := cells2 c0; clear c30 c31 c32 c33 c34 c35 c36 c37; obtain ⟨c30, c31, c32, c33, c34, c35, c36, c37⟩ := cellsCm c3; clear c40 c41 c42 c43 c44 c45; obtain ⟨c40, c41, c42, c43, c44, c45⟩ := cellsRp c4; clear c60 c61 c62 c63 c64; obtain ⟨c60, c61, c62, c63, c64⟩ := cells5 c6; clear c7; have c7 := c7x; clear c7x; obtain ⟨c70, c71, c72, c73, c74⟩ := cells5 c7) | (fail))
  by_cases v9 : V = 9
  · subst v9
    obtain ⟨⟨a, b⟩, hr⟩ := hid_ex (rdF (bs B))
    cases b with
    | false =>
      have HAB : Hid (false = false ∨ a < 0) := .inl rfl
      have e : doK ⟨I, X⟩ ⟨9, N2, F2, U2, B2, C2, D2, Q2⟩ = (⟨I, X⟩, rp 11) := by
        have hn : numB B = none := num_out hr.out HAB.out
        simp [doK, HLK.out, hn]
      have eZ := hDK.out.symm.trans e
      clear e hDK
      obtain ⟨rfl, rfl⟩ := Prod.mk.inj eZ
      have mk9 : Hid True := trivial
      have mk10 : Hid True := trivial
      go_wp2_with (first | (clear mk9; go_at_call 67; refine (l1Read_is B hBs _ a false hr).mono ?_; rintro er wq ⟨rfl, hq⟩; subst wq) | (clear mk10; refine wpList_store_v rfl 33 _ _ rfl b4 [.int .i64 11, .string ⟨#[]⟩, .int .i64 0, .string ⟨#[]⟩, .int .i64 0, .int .i64 0] rfl rfl sizeRp c4 rfl (oneRp (rp 11)) ?_; intro w8 hO8 c4x; clear c40 c41 c42 c43 c44 c45; have hz8 : w7.heap.size ≤ w8.heap.size := (Nat.le_of_eq hO8.1.symm); have hy8 : w8.heap.size ≤ w7.heap.size := (Nat.le_of_eq hO8.1); replace o := o.only hO8 c4 (by decide); replace c0 := vblk_only c0 hO8 (by omega); replace c3 := vblk_only c3 hO8 (by omega); replace c6 := vblk_only c6 hO8 (by omega); replace c7 := vblk_only c7 hO8 (by omega); replace hK := hK.new hO8 (by omega); clear c00 c01; obtain ⟨c00, c01⟩ := cells2 c0; clear c30 c31 c32 c33 c34 c35 c36 c37; obtain ⟨c30, c31, c32, c33, c34, c35, c36, c37⟩ := cellsCm c3; clear c60 c61 c62 c63 c64; obtain ⟨c60, c61, c62, c63, c64⟩ := cells5 c6; clear c70 c71 c72 c73 c74; obtain ⟨c70, c71, c72, c73, c74⟩ := cells5 c7; clear c4; have c4 := c4x; clear c4x; obtain ⟨c40, c41, c42, c43, c44, c45⟩ := cellsRp c4) | (fail))
      exact row_retv rfl rfl c4 Tryz.underlying33 sizeRp rfl ⟨rfl, _, _, _, c0, (o.wide (Nat.le_refl _) (by omega)).top, hK⟩
    | true =>
      by_cases ha : a < 0
      · have HAB : Hid (true = false ∨ a < 0) := .inr ha
        have hal : decide (a < 0) = true := decide_eq_true ha
        clear ha
        have e : doK ⟨I, X⟩ ⟨9, N2, F2, U2, B2, C2, D2, Q2⟩ = (⟨I, X⟩, rp 11) := by
          have hn : numB B = none := num_out hr.out HAB.out
          simp [doK, HLK.out, hn]
        have eZ := hDK.out.symm.trans e
        clear e hDK
        obtain ⟨rfl, rfl⟩ := Prod.mk.inj eZ
        have mk9 : Hid True := trivial
        have mk10 : Hid True := trivial
        go_wp2_with (first | (clear mk9; go_at_call 67; refine (l1Read_is B hBs _ a true hr).mono ?_; rintro er wq ⟨rfl, hq⟩; subst wq) | (clear mk10; refine wpList_store_v rfl 33 _ _ rfl b4 [.int .i64 11, .string ⟨#[]⟩, .int .i64 0, .string ⟨#[]⟩, .int .i64 0, .int .i64 0] rfl rfl sizeRp c4 rfl (oneRp (rp 11)) ?_; intro w8 hO8 c4x; clear c40 c41 c42 c43 c44 c45; have hz8 : w7.heap.size ≤ w8.heap.size := (Nat.le_of_eq hO8.1.symm); have hy8 : w8.heap.size ≤ w7.heap.size := (Nat.le_of_eq hO8.1); replace o := o.only hO8 c4 (by decide); replace c0 := vblk_only c0 hO8 (by omega); replace c3 := vblk_only c3 hO8 (by omega); replace c6 := vblk_only c6 hO8 (by omega); replace c7 := vblk_only c7 hO8 (by omega); replace hK := hK.new hO8 (by omega); clear c00 c01; obtain ⟨c00, c01⟩ := cells2 c0; clear c30 c31 c32 c33 c34 c35 c36 c37; obtain ⟨c30, c31, c32, c33, c34, c35, c36, c37⟩ := cellsCm c3; clear c60 c61 c62 c63 c64; obtain ⟨c60, c61, c62, c63, c64⟩ := cells5 c6; clear c70 c71 c72 c73 c74; obtain ⟨c70, c71, c72, c73, c74⟩ := cells5 c7; clear c4; have c4 := c4x; clear c4x; obtain ⟨c40, c41, c42, c43, c44, c45⟩ := cellsRp c4) | (fail))
        exact row_retv rfl rfl c4 Tryz.underlying33 sizeRp rfl ⟨rfl, _, _, _, c0, (o.wide (Nat.le_refl _) (by omega)).top, hK⟩
      obtain ⟨n, rfl, hnum⟩ := num_in hr.out (show (0 : Int) ≤ a by omega)
      have hn9 := (numB_some hnum).2.2
      have hst0 := up_stamp OK.out HLK.out (m := upN ⟨9, N2, F2, U2, B2, C2, D2, Q2⟩ n) (up_lt hn9)
      have hm9 := up_lt (c := ⟨9, N2, F2, U2, B2, C2, D2, Q2⟩) hn9
      have hun : upN ⟨9, N2, F2, U2, B2, C2, D2, Q2⟩ n = (n + D2.toNat) % 1000000000 := rfl
      obtain ⟨m, hm⟩ := hid_ex (upN ⟨9, N2, F2, U2, B2, C2, D2, Q2⟩ n)
      rw [hm.out] at hst0 hm9 hun
      obtain ⟨S, hS⟩ := hid_ex (tx (digs m))
      have hwb : withB ⟨N, F, B, C, U⟩ (digs m) = ⟨N, F, S, C, U⟩ := by unfold withB; rw [hS.out]
      rw [hwb] at hst0
      have hst : Hid (stampOk ⟨I, X⟩ ⟨N, F, S, C, U⟩ = true) := hst0
      have hSs : S.size ≤ 1048576 := by rw [← hS.out, tx_size]; have := digs_len 8 m (by omega); omega
      have e : doK ⟨I, X⟩ ⟨9, N2, F2, U2, B2, C2, D2, Q2⟩ = (⟨putL I ⟨N, F, S, X, U⟩, nextX X⟩, ⟨6, emp, 0, emp, 0, (m : Int)⟩) := by
        have hst1 := hst.out
        simp [doK, HLK.out, hnum, hm.out, hwb, hst1, stampR, stampI]
      have eZ := hDK.out.symm.trans e
      clear e hDK
      obtain ⟨rfl, rfl⟩ := Prod.mk.inj eZ
      have hw1 : IntKind.i64.wrap ((n : Int) + D2) = (n : Int) + D2 := by rw [IntKind.wrap_i64]; omega
      have hw2 : ((n : Int) + D2).tmod 1000000000 = (m : Int) := by
        rw [Int.tmod_eq_emod_of_nonneg (by omega), hun]
        simp only [Int.natCast_emod, Int.natCast_add]
        rw [Int.toNat_of_nonneg hd1.1]
        rfl
      have hx0 := OK.out.x0
      have hx1 := OK.out.x1
      dsimp only at hx0 hx1
      have hnl : decide ((n : Int) < 0) = false := decide_eq_false (by omega)
      clear hst0 hwb hnum hm ha hun
      have mk9 : Hid True := trivial
      have mk10 : Hid True := trivial
      have mk11 : Hid True := trivial
      have mk12 : Hid True := trivial
      have mk13 : Hid True := trivial
      have mk14 : Hid True := trivial
      go_wp2_with (first | (clear mk9; go_at_call 67; refine (l1Read_is B hBs _ n true hr).mono ?_; rintro er wq ⟨rfl, hq⟩; subst wq) | (clear mk10; go_at_call 69; refine (l1Int_is m (by omega) _).mono ?_; rintro er w8 ⟨rfl, hB8⟩; have hz8 : w7.heap.size ≤ w8.heap.size := hB8.size; replace o := o.grow hB8; replace c0 := vblk_grow c0 hB8; replace c3 := vblk_grow c3 hB8; replace c4 := vblk_grow c4 hB8; replace c6 := vblk_grow c6 hB8; replace c7 := vblk_grow c7 hB8; replace hK := hK.trans (Onk.of_below hB8); clear c00 c01; obtain ⟨c00, c01⟩ := cells2 c0; clear c30 c31 c32 c33 c34 c35 c36 c37; obtain ⟨c30, c31, c32, c33, c34, c35, c36, c37⟩ := cellsCm c3; clear c40 c41 c42 c43 c44 c45; obtain ⟨c40, c41, c42, c43, c44, c45⟩ := cellsRp c4; clear c60 c61 c62 c63 c64; obtain ⟨c60, c61, c62, c63, c64⟩ := cells5 c6; clear c70 c71 c72 c73 c74; obtain ⟨c70, c71, c72, c73, c74⟩ := cells5 c7; rw [hS.out]) | (clear mk11; refine wpList_store_cell rfl 9 _ _ rfl b6 2 (.string S) rfl rfl rfl szSt1 c6 (by simp) ?_; intro w9 hO9 c6x; clear c60 c61 c62 c63 c64; have hz9 : w8.heap.size ≤ w9.heap.size := (Nat.le_of_eq hO9.1.symm); have hy9 : w9.heap.size ≤ w8.heap.size := (Nat.le_of_eq hO9.1); replace o := o.below (hO9.2.2 b6 (Nat.le_refl _)) (by omega); replace c0 := vblk_only c0 hO9 (by omega); replace c3 := vblk_only c3 hO9 (by omega); replace c4 := vblk_only c4 hO9 (by omega); replace c7 := vblk_only c7 hO9 (by omega); replace hK := hK.new hO9 (by omega); clear c00 c01; obtain ⟨c00, c01⟩ := cells2 c0; clear c30 c31 c32 c33 c34 c35 c36 c37; obtain ⟨c30, c31, c32, c33, c34, c35, c36, c37⟩ := cellsCm c3; clear c40 c41 c42 c43 c44 c45; obtain ⟨c40, c41, c42, c43, c44, c45⟩ := cellsRp c4; clear c70 c71 c72 c73 c74; obtain ⟨c70, c71, c72, c73, c74⟩ := cells5 c7; clear c6; have c6 : VBlk w9 b6 56 [.string N, .int .i64 F, .string S, .int .i64 C, .int .i64 U] := c6x; clear c6x; obtain ⟨c60, c61, c62, c63, c64⟩ := cells5 c6) | (clear mk12; refine wpList_load_r rfl 56 _ rfl b6 0 [.string N, .int .i64 F, .string S, .int .i64 C, .int .i64 U] rfl _ Tryz.underlying56 rfl sizeIt c6.range ?_) | (clear mk13; go_at_call 63; refine (l13Stamp_on I X N S F C U b0 lo I.length k0 (some ⟨g, 0, none⟩) true hst _ c0 hlo (o.wide (Nat.le_refl _) (by omega)) (by omega) hx0 hx1 hN hSs).mono ?_; rintro er w10 ⟨rfl, A1, n1, k1, c0n, o1, hQ10⟩; have hM10 : Onk b0 lo _ _ := Onk.of_onb hQ10; have hz10 : w9.heap.size ≤ w10.heap.size := hM10.size; replace c3 := hM10.vblk c3 (by omega) (by decide); replace c4 := hM10.vblk c4 (by omega) (by decide); replace hK := hK.trans hM10; clear c0 c00 c01 c70 c71 c72 c73 c74 c60 c61 c62 c63 c64 c7 c6; have c0 := c0n; clear c0n; clear c30 c31 c32 c33 c34 c35 c36 c37; obtain ⟨c30, c31, c32, c33, c34, c35, c36, c37⟩ := cellsCm c3; clear c40 c41 c42 c43 c44 c45; obtain ⟨c40, c41, c42, c43, c44, c45⟩ := cellsRp c4) | (clear mk14; refine wpList_store_v rfl 33 _ _ rfl b4 [.int .i64 6, .string ⟨#[]⟩, .int .i64 0, .string ⟨#[]⟩, .int .i64 0, .int .i64 m] rfl rfl sizeRp c4 rfl (oneRp ⟨6, emp, 0, emp, 0, (m : Int)⟩) ?_; intro w11 hO11 c4x; clear c40 c41 c42 c43 c44 c45; have hz11 : w10.heap.size ≤ w11.heap.size := (Nat.le_of_eq hO11.1.symm); have hy11 : w11.heap.size ≤ w10.heap.size := (Nat.le_of_eq hO11.1); replace o1 := o1.only hO11 c4 (by decide); replace c0 := vblk_only c0 hO11 (by omega); replace c3 := vblk_only c3 hO11 (by omega); replace hK := hK.new hO11 (by omega); clear c30 c31 c32 c33 c34 c35 c36 c37; obtain ⟨c30, c31, c32, c33, c34, c35, c36, c37⟩ := cellsCm c3; clear c4; have c4 := c4x; clear c4x; obtain ⟨c40, c41, c42, c43, c44, c45⟩ := cellsRp c4) | (fail))
      exact row_retv rfl rfl c4 Tryz.underlying33 sizeRp rfl ⟨rfl, A1, n1, k1, c0, (o1.wide (Nat.le_refl _) (by omega)).top, hK⟩
  omega
end Go.Proofs.YtjkkjpgebcnhgaaGreatDoor.rg
/- The model's l13Do, where the thing is there. -/
namespace Go.Proofs.YtjkkjpgebcnhgaaGreatDoor.rg
open Go.ChangeShapes Go.WideShapes Go.ChangeAt Go.RowKit
open Go.Deep Go.Joins
open Go.Proofs.YtjkkjpgebcnhgaaGreatDoor.ce Go.Proofs.YtjkkjpgebcnhgaaGreatDoor.ro Go.Proofs.YtjkkjpgebcnhgaaGreatDoor.cm
set_option linter.unusedVariables false

set_option maxRecDepth 100000 in
set_option maxHeartbeats 8000000 in
theorem l13Do_s4 (I : List It) (X : Int) (N B : ByteArray) (F C U : Int) (V : Int) (N2 : ByteArray) (F2 U2 : Int) (B2 : ByteArray) (C2 D2 : Int) (Q2 : Bool) (b0 lo n0 k0 : Nat) (A0 : Option Addr) (w : World) (c0 : VBlk w b0 31 [.slice A0 n0 k0, .int .i64 X]) (hlo : lo ≤ b0) (o : Own encIt w lo w.heap.size (.slice A0 n0 k0) I) (ok : StOk ⟨I, X⟩) (hc : COk ⟨V, N2, F2, U2, B2, C2, D2, Q2⟩) (hlk : lookI I N2 = some ⟨N, F, B, C, U⟩) (hV : V = 10) :
    Calls Tryz.prog 35 #[.pointer (some ⟨b0, 0, none⟩), .agg #[.int .i64 V, .string N2, .int .i64 F2, .int .i64 U2, .string B2, .int .i64 C2, .int .i64 D2, .bool Q2]] w fun e w' => PostM (doK ⟨I, X⟩ ⟨V, N2, F2, U2, B2, C2, D2, Q2⟩).1 (doK ⟨I, X⟩ ⟨V, N2, F2, U2, B2, C2, D2, Q2⟩).2 b0 lo w e w' := by
  have hv0 := hc.v0
  have hv1 := hc.v1
  have hd1 := hc.d1
  have hb1 := hc.b1
  have hnm := hc.nm
  dsimp only at hv0 hv1 hd1 hb1 hnm
  have hl20 := len_of ok
  have hK := Onk.refl b0 lo w
  have hlt0 := c0.lt
  have hzw0 : w.heap.size ≤ w.heap.size := Nat.le_refl _
  have szB2 : B2.size ≤ 1048576 := by omega
  have OK : Hid _ := ok
  have HNM : Hid _ := hnm
  have hlk' := hlk
  obtain ⟨hmem, hnn, k, hk, hk2, hk3⟩ := look_some hlk
  have hit := itemB_iff.1 (ok.bk.1 _ hmem)
  dsimp only at hnn
  have hN : N.size ≤ 1048576 := by have := nm_small hit.nm; dsimp only at this; omega
  have hBs : B.size ≤ 1048576 := by have := hit.b1; dsimp only at this; omega
  have hN2 : N2.size ≤ 1048576 := by rw [← hnn]; exact hN
  have hf : Hid (findI I N2 = k) := hk2
  have HX : Hid (I[k] = ⟨N, F, B, C, U⟩) := hk3
  have HLK : Hid _ := hlk
  have HNN : Hid (N = N2) := hnn
  obtain ⟨g, cap, eg, hg1, hg2, hg3⟩ := o.form (by omega)
  obtain ⟨rfl, rfl, rfl⟩ : A0 = some ⟨g, 0, none⟩ ∧ n0 = I.length ∧ k0 = cap := by simpa using eg
  have hk0' : (0 : Int) ≤ (k : Int) := by omega
  have hkn : (k : Int) < (I.length : Int) := by omega
  have hge : decide (((k : Nat) : Int) ≥ 0) = true := decide_eq_true (by omega)
  have hgl : decide (((k : Nat) : Int) < 0) = false := decide_eq_false (by omega)
  clear hlk hlk' hmem hnn hk2 hk3 eg hit ok hc hnm
  obtain ⟨⟨Bz, Rz⟩, hDK⟩ := hid_ex (doK ⟨I, X⟩ ⟨V, N2, F2, U2, B2, C2, D2, Q2⟩)
  rw [hDK.out]
  unfold PostM
  dsimp only
  go_enter Tryz.func35, Tryz.ntmps35
  obtain ⟨c00, c01⟩ := cells2 c0
  have mk1 : Hid True := trivial
  have mk2 : Hid True := trivial
  go_upto_region 1 with (first | (clear mk1; refine wpList_box_v rfl 37 _ rfl [.int .i64 V, .string N2, .int .i64 F2, .int .i64 U2, .string B2, .int .i64 C2, .int .i64 D2, .bool Q2] rfl ?_; intro b3 w1 hb3 hwb3 hB1 c3; have hz1 : w.heap.size ≤ w1.heap.size := hB1.size; replace o := o.grow hB1; replace c0 := vblk_grow c0 hB1; replace hK := hK.trans (Onk.of_below hB1); clear c00 c01; obtain ⟨c00, c01⟩ := cells2 c0; obtain ⟨c30, c31, c32, c33, c34, c35, c36, c37⟩ := cellsCm c3) | (clear mk2; refine wpList_alloc_v rfl 33 rfl _ zeroRp ?_; intro b4 w2 hb4 hwb4 hB2 c4; have hz2 : w1.heap.size ≤ w2.heap.size := hB2.size; replace o := o.grow hB2; replace c0 := vblk_grow c0 hB2; replace c3 := vblk_grow c3 hB2; replace hK := hK.trans (Onk.of_below hB2); clear c00 c01; obtain ⟨c00, c01⟩ := cells2 c0; clear c30 c31 c32 c33 c34 c35 c36 c37; obtain ⟨c30, c31, c32, c33, c34, c35, c36, c37⟩ := cellsCm c3; obtain ⟨c40, c41, c42, c43, c44, c45⟩ := cellsRp c4) | (fail))
  have hKd : Below w2.heap.size w2 w2.drew := (Below.refl _ _).drew
  have hzd : w2.drew.heap.size ≤ w2.heap.size := Nat.le_refl _
  have hzd2 : w2.heap.size ≤ w2.drew.heap.size := Nat.le_refl _
  replace hK := hK.trans (Onk.of_below hKd)
  replace o := o.grow hKd
  replace c0 := vblk_grow c0 hKd
  clear c00 c01
  obtain ⟨c00, c01⟩ := cells2 c0
  replace c3 := vblk_grow c3 hKd
  clear c30 c31 c32 c33 c34 c35 c36 c37
  obtain ⟨c30, c31, c32, c33, c34, c35, c36, c37⟩ := cellsCm c3
  replace c4 := vblk_grow c4 hKd
  clear c40 c41 c42 c43 c44 c45
  obtain ⟨c40, c41, c42, c43, c44, c45⟩ := cellsRp c4
  have S1 : w2.drew.cell? ⟨b0, 0, none⟩ = some (.slice (some ⟨g, 0, none⟩) I.length k0) ∧ w2.drew.cell? ⟨b3, 1, none⟩ = some (.string N2) := ⟨c00, c31⟩
  go_region_held3 (fun w' => w'.cell? ⟨b0, 0, none⟩ = some (.slice (some ⟨g, 0, none⟩) I.length k0) ∧ w'.cell? ⟨b3, 1, none⟩ = some (.string N2)) (first | with_reducible assumption | with_reducible exact S1 | (fail)) (first | (go_at_call 26; refine (specFindItem_any I N2 _ _ o.rd).mono ?_; rintro er wq ⟨rfl, hq⟩; subst wq; rw [hf.out]; have S2 := S1) | (fail))
  clear S1 S2 hKd
  have mk3 : Hid True := trivial
  have mk4 : Hid True := trivial
  have mk5 : Hid True := trivial
  have mk6 : Hid True := trivial
  have mk7 : Hid True := trivial
  have mk8 : Hid True := trivial
  go_upto_region 7 with (first | (clear mk3; refine wpList_alloc_v rfl 56 rfl _ zeroIt ?_; intro b6 w3 hb6 hwb6 hB3 c6; have hz3 : w2.drew.heap.size ≤ w3.heap.size := hB3.size; replace o := o.grow hB3; replace c0 := vblk_grow c0 hB3; replace c3 := vblk_grow c3 hB3; replace c4 := vblk_grow c4 hB3; replace hK := hK.trans (Onk.of_below hB3); clear c00 c01; obtain ⟨c00, c01⟩ := cells2 c0; clear c30 c31 c32 c33 c34 c35 c36 c37; obtain ⟨c30, c31, c32, c33, c34, c35, c36, c37⟩ := cellsCm c3; clear c40 c41 c42 c43 c44 c45; obtain ⟨c40, c41, c42, c43, c44, c45⟩ := cellsRp c4; obtain ⟨c60, c61, c62, c63, c64⟩ := cells5 c6) | (clear mk4; refine wpList_store_v rfl 56 _ _ rfl b6 [.string ⟨#[]⟩, .int .i64 0, .string ⟨#[]⟩, .int .i64 0, .int .i64 0] rfl rfl sizeIt c6 rfl (ic_one ZIt) ?_; intro w4 hO4 c6x; clear c60 c61 c62 c63 c64; have hz4 : w3.heap.size ≤ w4.heap.size := (Nat.le_of_eq hO4.1.symm); have hy4 : w4.heap.size ≤ w3.heap.size := (Nat.le_of_eq hO4.1); replace o := o.below (hO4.2.2 b6 (Nat.le_refl _)) (by omega); replace c0 := vblk_only c0 hO4 (by omega); replace c3 := vblk_only c3 hO4 (by omega); replace c4 := vblk_only c4 hO4 (by omega); replace hK := hK.new hO4 (by omega); clear c00 c01; obtain ⟨c00, c01⟩ := cells2 c0; clear c30 c31 c32 c33 c34 c35 c36 c37; obtain ⟨c30, c31, c32, c33, c34, c35, c36, c37⟩ := cellsCm c3; clear c40 c41 c42 c43 c44 c45; obtain ⟨c40, c41, c42, c43, c44, c45⟩ := cellsRp c4; clear c6; have c6 := c6x; clear c6x; obtain ⟨c60, c61, c62, c63, c64⟩ := cells5 c6) | (clear mk5; refine wpList_load_r rfl 56 _ rfl g (k * 5) [.string N, .int .i64 F, .string B, .int .i64 C, .int .i64 U] rfl _ Tryz.underlying56 rfl sizeIt (own_at5 o hk HX.out) ?_) | (clear mk6; refine wpList_store_v rfl 56 _ _ rfl b6 [.string N, .int .i64 F, .string B, .int .i64 C, .int .i64 U] rfl rfl sizeIt c6 rfl (ic_one ⟨N, F, B, C, U⟩) ?_; intro w5 hO5 c6x; clear c60 c61 c62 c63 c64; have hz5 : w4.heap.size ≤ w5.heap.size := (Nat.le_of_eq hO5.1.symm); have hy5 : w5.heap.size ≤ w4.heap.size := (Nat.le_of_eq hO5.1); replace o := o.below (hO5.2.2 b6 (Nat.le_refl _)) (by omega); replace c0 := vblk_only c0 hO5 (by omega); replace c3 := vblk_only c3 hO5 (by omega); replace c4 := vblk_only c4 hO5 (by omega); replace hK := hK.new hO5 (by omega); clear c00 c01; obtain ⟨c00, c01⟩ := cells2 c0; clear c30 c31 c32 c33 c34 c35 c36 c37; obtain ⟨c30, c31, c32, c33, c34, c35, c36, c37⟩ := cellsCm c3; clear c40 c41 c42 c43 c44 c45; obtain ⟨c40, c41, c42, c43, c44, c45⟩ := cellsRp c4; clear c6; have c6 := c6x; clear c6x; obtain ⟨c60, c61, c62, c63, c64⟩ := cells5 c6) | (clear mk7; refine wpList_alloc_v rfl 56 rfl _ zeroIt ?_; intro b7 w6 hb7 hwb7 hB6 c7; have hz6 : w5.heap.size ≤ w6.heap.size := hB6.size; replace o := o.grow hB6; replace c0 := vblk_grow c0 hB6; replace c3 := vblk_grow c3 hB6; replace c4 := vblk_grow c4 hB6; replace c6 := vblk_grow c6 hB6; replace hK := hK.trans (Onk.of_below hB6); clear c00 c01; obtain ⟨c00, c01⟩ := cells2 c0; clear c30 c31 c32 c33 c34 c35 c36 c37; obtain ⟨c30, c31, c32, c33, c34, c35, c36, c37⟩ := cellsCm c3; clear c40 c41 c42 c43 c44 c45; obtain ⟨c40, c41, c42, c43, c44, c45⟩ := cellsRp c4; clear c60 c61 c62 c63 c64; obtain ⟨c60, c61, c62, c63, c64⟩ := cells5 c6; obtain ⟨c70, c71, c72, c73, c74⟩ := cells5 c7) | (clear mk8; refine wpList_store_v rfl 56 _ _ rfl b7 [.string N2, .int .i64 F2, .string B2, .int .i64 0, .int .i64 U2] rfl rfl sizeIt c7 rfl (ic_one ⟨N2, F2, B2, 0, U2⟩) ?_; intro w7 hO7 c7x; clear c70 c71 c72 c73 c74; have hz7 : w6.heap.size ≤ w7.heap.size := (Nat.le_of_eq hO7.1.symm); have hy7 : w7.heap.size ≤ w6.heap.size := (Nat.le_of_eq hO7.1); replace o := o.below (hO7.2.2 b7 (Nat.le_refl _)) (by omega); replace c0 := vblk_only c0 hO7 (by omega); replace c3 := vblk_only c3 hO7 (by omega); replace c4 := vblk_only c4 hO7 (by omega); replace c6 := vblk_only c6 hO7 (by omega); replace hK := hK.new hO7 (by omega); clear c00 c01; obtain ⟨c00, c01⟩ := cells2 c0; clear c30 c31 c32 c33 c34 c35 c36 c37; obtain ⟨c30, c31, c32, c33, c34, c35, c36, c37⟩ := cellsCm c3; clear c40 c41 c42 c43 c44 c45; obtain ⟨c40, c41, c42, c43, c44, c45⟩ := cellsRp c4; clear c60 c61 c62 c63 c64; obtain ⟨c60, c61, c62, c63, c64⟩ := cells5 c6; clear c7; have c7 := c7x; clear c7x; obtain ⟨c70, c71, c72, c73, c74⟩ := cells5 c7) | (fail))
  by_cases v10 : V = 10
  · subst v10
    obtain ⟨⟨a, b⟩, hr⟩ := hid_ex (rdF (bs B))
    cases b with
    | false =>
      have HAB : Hid (false = false ∨ a < 0) := .inl rfl
      have e : doK ⟨I, X⟩ ⟨10, N2, F2, U2, B2, C2, D2, Q2⟩ = (⟨I, X⟩, rp 11) := by
        have hn : numB B = none := num_out hr.out HAB.out
        simp [doK, HLK.out, hn]
      have eZ := hDK.out.symm.trans e
      clear e hDK
      obtain ⟨rfl, rfl⟩ := Prod.mk.inj eZ
      have mk9 : Hid True := trivial
      have mk10 : Hid True := trivial
      go_wp2_with (first | (clear mk9; go_at_call 67; refine (l1Read_is B hBs _ a false hr).mono ?_; rintro er wq ⟨rfl, hq⟩; subst wq) | (clear mk10; refine wpList_store_v rfl 33 _ _ rfl b4 [.int .i64 11, .string ⟨#[]⟩, .int .i64 0, .string ⟨#[]⟩, .int .i64 0, .int .i64 0] rfl rfl sizeRp c4 rfl (oneRp (rp 11)) ?_; intro w8 hO8 c4x; clear c40 c41 c42 c43 c44 c45; have hz8 : w7.heap.size ≤ w8.heap.size := (Nat.le_of_eq hO8.1.symm); have hy8 : w8.heap.size ≤ w7.heap.size := (Nat.le_of_eq hO8.1); replace o := o.only hO8 c4 (by decide); replace c0 := vblk_only c0 hO8 (by omega); replace c3 := vblk_only c3 hO8 (by omega); replace c6 := vblk_only c6 hO8 (by omega); replace c7 := vblk_only c7 hO8 (by omega); replace hK := hK.new hO8 (by omega); clear c00 c01; obtain ⟨c00, c01⟩ := cells2 c0; clear c30 c31 c32 c33 c34 c35 c36 c37; obtain ⟨c30, c31, c32, c33, c34, c35, c36, c37⟩ := cellsCm c3; clear c60 c61 c62 c63 c64; obtain ⟨c60, c61, c62, c63, c64⟩ := cells5 c6; clear c70 c71 c72 c73 c74; obtain ⟨c70, c71, c72, c73, c74⟩ := cells5 c7; clear c4; have c4 := c4x; clear c4x; obtain ⟨c40, c41, c42, c43, c44, c45⟩ := cellsRp c4) | (fail))
      exact row_retv rfl rfl c4 Tryz.underlying33 sizeRp rfl ⟨rfl, _, _, _, c0, (o.wide (Nat.le_refl _) (by omega)).top, hK⟩
    | true =>
      by_cases ha : a < 0
      · have HAB : Hid (true = false ∨ a < 0) := .inr ha
        have hal : decide (a < 0) = true := decide_eq_true ha
        clear ha
        have e : doK ⟨I, X⟩ ⟨10, N2, F2, U2, B2, C2, D2, Q2⟩ = (⟨I, X⟩, rp 11) := by
          have hn : numB B = none := num_out hr.out HAB.out
          simp [doK, HLK.out, hn]
        have eZ := hDK.out.symm.trans e
        clear e hDK
        obtain ⟨rfl, rfl⟩ := Prod.mk.inj eZ
        have mk9 : Hid True := trivial
        have mk10 : Hid True := trivial
        go_wp2_with (first | (clear mk9; go_at_call 67; refine (l1Read_is B hBs _ a true hr).mono ?_; rintro er wq ⟨rfl, hq⟩; subst wq) | (clear mk10; refine wpList_store_v rfl 33 _ _ rfl b4 [.int .i64 11, .string ⟨#[]⟩, .int .i64 0, .string ⟨#[]⟩, .int .i64 0, .int .i64 0] rfl rfl sizeRp c4 rfl (oneRp (rp 11)) ?_; intro w8 hO8 c4x; clear c40 c41 c42 c43 c44 c45; have hz8 : w7.heap.size ≤ w8.heap.size := (Nat.le_of_eq hO8.1.symm); have hy8 : w8.heap.size ≤ w7.heap.size := (Nat.le_of_eq hO8.1); replace o := o.only hO8 c4 (by decide); replace c0 := vblk_only c0 hO8 (by omega); replace c3 := vblk_only c3 hO8 (by omega); replace c6 := vblk_only c6 hO8 (by omega); replace c7 := vblk_only c7 hO8 (by omega); replace hK := hK.new hO8 (by omega); clear c00 c01; obtain ⟨c00, c01⟩ := cells2 c0; clear c30 c31 c32 c33 c34 c35 c36 c37; obtain ⟨c30, c31, c32, c33, c34, c35, c36, c37⟩ := cellsCm c3; clear c60 c61 c62 c63 c64; obtain ⟨c60, c61, c62, c63, c64⟩ := cells5 c6; clear c70 c71 c72 c73 c74; obtain ⟨c70, c71, c72, c73, c74⟩ := cells5 c7; clear c4; have c4 := c4x; clear c4x; obtain ⟨c40, c41, c42, c43, c44, c45⟩ := cellsRp c4) | (fail))
        exact row_retv rfl rfl c4 Tryz.underlying33 sizeRp rfl ⟨rfl, _, _, _, c0, (o.wide (Nat.le_refl _) (by omega)).top, hK⟩
      obtain ⟨n, rfl, hnum⟩ := num_in hr.out (show (0 : Int) ≤ a by omega)
      have hn9 := (numB_some hnum).2.2
      have hst0 := up_stamp OK.out HLK.out (m := upN ⟨10, N2, F2, U2, B2, C2, D2, Q2⟩ n) (up_lt hn9)
      have hm9 := up_lt (c := ⟨10, N2, F2, U2, B2, C2, D2, Q2⟩) hn9
      have hun : upN ⟨10, N2, F2, U2, B2, C2, D2, Q2⟩ n = n - D2.toNat := rfl
      obtain ⟨m, hm⟩ := hid_ex (upN ⟨10, N2, F2, U2, B2, C2, D2, Q2⟩ n)
      rw [hm.out] at hst0 hm9 hun
      obtain ⟨S, hS⟩ := hid_ex (tx (digs m))
      have hwb : withB ⟨N, F, B, C, U⟩ (digs m) = ⟨N, F, S, C, U⟩ := by unfold withB; rw [hS.out]
      rw [hwb] at hst0
      have hst : Hid (stampOk ⟨I, X⟩ ⟨N, F, S, C, U⟩ = true) := hst0
      have hSs : S.size ≤ 1048576 := by rw [← hS.out, tx_size]; have := digs_len 8 m (by omega); omega
      have e : doK ⟨I, X⟩ ⟨10, N2, F2, U2, B2, C2, D2, Q2⟩ = (⟨putL I ⟨N, F, S, X, U⟩, nextX X⟩, ⟨6, emp, 0, emp, 0, (m : Int)⟩) := by
        have hst1 := hst.out
        simp [doK, HLK.out, hnum, hm.out, hwb, hst1, stampR, stampI]
      have eZ := hDK.out.symm.trans e
      clear e hDK
      obtain ⟨rfl, rfl⟩ := Prod.mk.inj eZ
      have hw1 : IntKind.i64.wrap ((n : Int) - D2) = (n : Int) - D2 := by rw [IntKind.wrap_i64]; omega
      have hw2 : Hid ((if (0 : Int) > (n : Int) - D2 then 0 else (n : Int) - D2) = (m : Int)) := by unfold Hid; split <;> omega
      have hx0 := OK.out.x0
      have hx1 := OK.out.x1
      dsimp only at hx0 hx1
      have hnl : decide ((n : Int) < 0) = false := decide_eq_false (by omega)
      clear hst0 hwb hnum hm ha hun
      have mk9 : Hid True := trivial
      have mk10 : Hid True := trivial
      have mk11 : Hid True := trivial
      have mk12 : Hid True := trivial
      have mk13 : Hid True := trivial
      have mk14 : Hid True := trivial
      have mk15 : Hid True := trivial
      go_wp2_with (first | (clear mk9; go_at_call 67; refine (l1Read_is B hBs _ n true hr).mono ?_; rintro er wq ⟨rfl, hq⟩; subst wq) | (clear mk10; go_at_call 68; refine (l1MaxI_any _ _ _).mono ?_; rintro er wq ⟨rfl, hq⟩; subst wq; rw [hw2.out]) | (clear mk11; go_at_call 69; refine (l1Int_is m (by omega) _).mono ?_; rintro er w8 ⟨rfl, hB8⟩; have hz8 : w7.heap.size ≤ w8.heap.size := hB8.size; replace o := o.grow hB8; replace c0 := vblk_grow c0 hB8; replace c3 := vblk_grow c3 hB8; replace c4 := vblk_grow c4 hB8; replace c6 := vblk_grow c6 hB8; replace c7 := vblk_grow c7 hB8; replace hK := hK.trans (Onk.of_below hB8); clear c00 c01; obtain ⟨c00, c01⟩ := cells2 c0; clear c30 c31 c32 c33 c34 c35 c36 c37; obtain ⟨c30, c31, c32, c33, c34, c35, c36, c37⟩ := cellsCm c3; clear c40 c41 c42 c43 c44 c45; obtain ⟨c40, c41, c42, c43, c44, c45⟩ := cellsRp c4; clear c60 c61 c62 c63 c64; obtain ⟨c60, c61, c62, c63, c64⟩ := cells5 c6; clear c70 c71 c72 c73 c74; obtain ⟨c70, c71, c72, c73, c74⟩ := cells5 c7; rw [hS.out]) | (clear mk12; refine wpList_store_cell rfl 9 _ _ rfl b6 2 (.string S) rfl rfl rfl szSt1 c6 (by simp) ?_; intro w9 hO9 c6x; clear c60 c61 c62 c63 c64; have hz9 : w8.heap.size ≤ w9.heap.size := (Nat.le_of_eq hO9.1.symm); have hy9 : w9.heap.size ≤ w8.heap.size := (Nat.le_of_eq hO9.1); replace o := o.below (hO9.2.2 b6 (Nat.le_refl _)) (by omega); replace c0 := vblk_only c0 hO9 (by omega); replace c3 := vblk_only c3 hO9 (by omega); replace c4 := vblk_only c4 hO9 (by omega); replace c7 := vblk_only c7 hO9 (by omega); replace hK := hK.new hO9 (by omega); clear c00 c01; obtain ⟨c00, c01⟩ := cells2 c0; clear c30 c31 c32 c33 c34 c35 c36 c37; obtain ⟨c30, c31, c32, c33, c34, c35, c36, c37⟩ := cellsCm c3; clear c40 c41 c42 c43 c44 c45; obtain ⟨c40, c41, c42, c43, c44, c45⟩ := cellsRp c4; clear c70 c71 c72 c73 c74; obtain ⟨c70, c71, c72, c73, c74⟩ := cells5 c7; clear c6; have c6 : VBlk w9 b6 56 [.string N, .int .i64 F, .string S, .int .i64 C, .int .i64 U] := c6x; clear c6x; obtain ⟨c60, c61, c62, c63, c64⟩ := cells5 c6) | (clear mk13; refine wpList_load_r rfl 56 _ rfl b6 0 [.string N, .int .i64 F, .string S, .int .i64 C, .int .i64 U] rfl _ Tryz.underlying56 rfl sizeIt c6.range ?_) | (clear mk14; go_at_call 63; refine (l13Stamp_on I X N S F C U b0 lo I.length k0 (some ⟨g, 0, none⟩) true hst _ c0 hlo (o.wide (Nat.le_refl _) (by omega)) (by omega) hx0 hx1 hN hSs).mono ?_; rintro er w10 ⟨rfl, A1, n1, k1, c0n, o1, hQ10⟩; have hM10 : Onk b0 lo _ _ := Onk.of_onb hQ10; have hz10 : w9.heap.size ≤ w10.heap.size := hM10.size; replace c3 := hM10.vblk c3 (by omega) (by decide); replace c4 := hM10.vblk c4 (by omega) (by decide); replace hK := hK.trans hM10; clear c0 c00 c01 c70 c71 c72 c73 c74 c60 c61 c62 c63 c64 c7 c6; have c0 := c0n; clear c0n; clear c30 c31 c32 c33 c34 c35 c36 c37; obtain ⟨c30, c31, c32, c33, c34, c35, c36, c37⟩ := cellsCm c3; clear c40 c41 c42 c43 c44 c45; obtain ⟨c40, c41, c42, c43, c44, c45⟩ := cellsRp c4) | (clear mk15; refine wpList_store_v rfl 33 _ _ rfl b4 [.int .i64 6, .string ⟨#[]⟩, .int .i64 0, .string ⟨#[]⟩, .int .i64 0, .int .i64 m] rfl rfl sizeRp c4 rfl (oneRp ⟨6, emp, 0, emp, 0, (m : Int)⟩) ?_; intro w11 hO11 c4x; clear c40 c41 c42 c43 c44 c45; have hz11 : w10.heap.size ≤ w11.heap.size := (Nat.le_of_eq hO11.1.symm); have hy11 : w11.heap.size ≤ w10.heap.size := (Nat.le_of_eq hO11.1); replace o1 := o1.only hO11 c4 (by decide); replace c0 := vblk_only c0 hO11 (by omega); replace c3 := vblk_only c3 hO11 (by omega); replace hK := hK.new hO11 (by omega); clear c30 c31 c32 c33 c34 c35 c36 c37; obtain ⟨c30, c31, c32, c33, c34, c35, c36, c37⟩ := cellsCm c3; clear c4; have c4 := c4x; clear c4x; obtain ⟨c40, c41, c42, c43, c44, c45⟩ := cellsRp c4) | (fail))
      exact row_retv rfl rfl c4 Tryz.underlying33 sizeRp rfl ⟨rfl, A1, n1, k1, c0, (o1.wide (Nat.le_refl _) (by omega)).top, hK⟩
  omega
end Go.Proofs.YtjkkjpgebcnhgaaGreatDoor.rg
/- The model's l13Do, where the thing is there. -/
namespace Go.Proofs.YtjkkjpgebcnhgaaGreatDoor.rg
open Go.ChangeShapes Go.WideShapes Go.ChangeAt Go.RowKit
open Go.Deep Go.Joins
open Go.Proofs.YtjkkjpgebcnhgaaGreatDoor.ce Go.Proofs.YtjkkjpgebcnhgaaGreatDoor.ro Go.Proofs.YtjkkjpgebcnhgaaGreatDoor.cm
set_option linter.unusedVariables false

set_option maxRecDepth 100000 in
set_option maxHeartbeats 8000000 in
theorem l13Do_s5 (I : List It) (X : Int) (N B : ByteArray) (F C U : Int) (V : Int) (N2 : ByteArray) (F2 U2 : Int) (B2 : ByteArray) (C2 D2 : Int) (Q2 : Bool) (b0 lo n0 k0 : Nat) (A0 : Option Addr) (w : World) (c0 : VBlk w b0 31 [.slice A0 n0 k0, .int .i64 X]) (hlo : lo ≤ b0) (o : Own encIt w lo w.heap.size (.slice A0 n0 k0) I) (ok : StOk ⟨I, X⟩) (hc : COk ⟨V, N2, F2, U2, B2, C2, D2, Q2⟩) (hlk : lookI I N2 = some ⟨N, F, B, C, U⟩) (hV : V = 12 ∨ V = 13) :
    Calls Tryz.prog 35 #[.pointer (some ⟨b0, 0, none⟩), .agg #[.int .i64 V, .string N2, .int .i64 F2, .int .i64 U2, .string B2, .int .i64 C2, .int .i64 D2, .bool Q2]] w fun e w' => PostM (doK ⟨I, X⟩ ⟨V, N2, F2, U2, B2, C2, D2, Q2⟩).1 (doK ⟨I, X⟩ ⟨V, N2, F2, U2, B2, C2, D2, Q2⟩).2 b0 lo w e w' := by
  have hv0 := hc.v0
  have hv1 := hc.v1
  have hd1 := hc.d1
  have hb1 := hc.b1
  have hnm := hc.nm
  dsimp only at hv0 hv1 hd1 hb1 hnm
  have hl20 := len_of ok
  have hK := Onk.refl b0 lo w
  have hlt0 := c0.lt
  have hzw0 : w.heap.size ≤ w.heap.size := Nat.le_refl _
  have szB2 : B2.size ≤ 1048576 := by omega
  have OK : Hid _ := ok
  have HNM : Hid _ := hnm
  have hlk' := hlk
  obtain ⟨hmem, hnn, k, hk, hk2, hk3⟩ := look_some hlk
  have hit := itemB_iff.1 (ok.bk.1 _ hmem)
  dsimp only at hnn
  have hN : N.size ≤ 1048576 := by have := nm_small hit.nm; dsimp only at this; omega
  have hBs : B.size ≤ 1048576 := by have := hit.b1; dsimp only at this; omega
  have hN2 : N2.size ≤ 1048576 := by rw [← hnn]; exact hN
  have hf : Hid (findI I N2 = k) := hk2
  have HX : Hid (I[k] = ⟨N, F, B, C, U⟩) := hk3
  have HLK : Hid _ := hlk
  have HNN : Hid (N = N2) := hnn
  obtain ⟨g, cap, eg, hg1, hg2, hg3⟩ := o.form (by omega)
  obtain ⟨rfl, rfl, rfl⟩ : A0 = some ⟨g, 0, none⟩ ∧ n0 = I.length ∧ k0 = cap := by simpa using eg
  have hk0' : (0 : Int) ≤ (k : Int) := by omega
  have hkn : (k : Int) < (I.length : Int) := by omega
  have hge : decide (((k : Nat) : Int) ≥ 0) = true := decide_eq_true (by omega)
  have hgl : decide (((k : Nat) : Int) < 0) = false := decide_eq_false (by omega)
  clear hlk hlk' hmem hnn hk2 hk3 eg hit ok hc hnm
  obtain ⟨⟨Bz, Rz⟩, hDK⟩ := hid_ex (doK ⟨I, X⟩ ⟨V, N2, F2, U2, B2, C2, D2, Q2⟩)
  rw [hDK.out]
  unfold PostM
  dsimp only
  go_enter Tryz.func35, Tryz.ntmps35
  obtain ⟨c00, c01⟩ := cells2 c0
  have mk1 : Hid True := trivial
  have mk2 : Hid True := trivial
  go_upto_region 1 with (first | (clear mk1; refine wpList_box_v rfl 37 _ rfl [.int .i64 V, .string N2, .int .i64 F2, .int .i64 U2, .string B2, .int .i64 C2, .int .i64 D2, .bool Q2] rfl ?_; intro b3 w1 hb3 hwb3 hB1 c3; have hz1 : w.heap.size ≤ w1.heap.size := hB1.size; replace o := o.grow hB1; replace c0 := vblk_grow c0 hB1; replace hK := hK.trans (Onk.of_below hB1); clear c00 c01; obtain ⟨c00, c01⟩ := cells2 c0; obtain ⟨c30, c31, c32, c33, c34, c35, c36, c37⟩ := cellsCm c3) | (clear mk2; refine wpList_alloc_v rfl 33 rfl _ zeroRp ?_; intro b4 w2 hb4 hwb4 hB2 c4; have hz2 : w1.heap.size ≤ w2.heap.size := hB2.size; replace o := o.grow hB2; replace c0 := vblk_grow c0 hB2; replace c3 := vblk_grow c3 hB2; replace hK := hK.trans (Onk.of_below hB2); clear c00 c01; obtain ⟨c00, c01⟩ := cells2 c0; clear c30 c31 c32 c33 c34 c35 c36 c37; obtain ⟨c30, c31, c32, c33, c34, c35, c36, c37⟩ := cellsCm c3; obtain ⟨c40, c41, c42, c43, c44, c45⟩ := cellsRp c4) | (fail))
  have hKd : Below w2.heap.size w2 w2.drew := (Below.refl _ _).drew
  have hzd : w2.drew.heap.size ≤ w2.heap.size := Nat.le_refl _
  have hzd2 : w2.heap.size ≤ w2.drew.heap.size := Nat.le_refl _
  replace hK := hK.trans (Onk.of_below hKd)
  replace o := o.grow hKd
  replace c0 := vblk_grow c0 hKd
  clear c00 c01
  obtain ⟨c00, c01⟩ := cells2 c0
  replace c3 := vblk_grow c3 hKd
  clear c30 c31 c32 c33 c34 c35 c36 c37
  obtain ⟨c30, c31, c32, c33, c34, c35, c36, c37⟩ := cellsCm c3
  replace c4 := vblk_grow c4 hKd
  clear c40 c41 c42 c43 c44 c45
  obtain ⟨c40, c41, c42, c43, c44, c45⟩ := cellsRp c4
  have S1 : w2.drew.cell? ⟨b0, 0, none⟩ = some (.slice (some ⟨g, 0, none⟩) I.length k0) ∧ w2.drew.cell? ⟨b3, 1, none⟩ = some (.string N2) := ⟨c00, c31⟩
  go_region_held3 (fun w' => w'.cell? ⟨b0, 0, none⟩ = some (.slice (some ⟨g, 0, none⟩) I.length k0) ∧ w'.cell? ⟨b3, 1, none⟩ = some (.string N2)) (first | with_reducible assumption | with_reducible exact S1 | (fail)) (first | (go_at_call 26; refine (specFindItem_any I N2 _ _ o.rd).mono ?_; rintro er wq ⟨rfl, hq⟩; subst wq; rw [hf.out]; have S2 := S1) | (fail))
  clear S1 S2 hKd
  have mk3 : Hid True := trivial
  have mk4 : Hid True := trivial
  have mk5 : Hid True := trivial
  have mk6 : Hid True := trivial
  have mk7 : Hid True := trivial
  have mk8 : Hid True := trivial
  go_upto_region 7 with (first | (clear mk3; refine wpList_alloc_v rfl 56 rfl _ zeroIt ?_; intro b6 w3 hb6 hwb6 hB3 c6; have hz3 : w2.drew.heap.size ≤ w3.heap.size := hB3.size; replace o := o.grow hB3; replace c0 := vblk_grow c0 hB3; replace c3 := vblk_grow c3 hB3; replace c4 := vblk_grow c4 hB3; replace hK := hK.trans (Onk.of_below hB3); clear c00 c01; obtain ⟨c00, c01⟩ := cells2 c0; clear c30 c31 c32 c33 c34 c35 c36 c37; obtain ⟨c30, c31, c32, c33, c34, c35, c36, c37⟩ := cellsCm c3; clear c40 c41 c42 c43 c44 c45; obtain ⟨c40, c41, c42, c43, c44, c45⟩ := cellsRp c4; obtain ⟨c60, c61, c62, c63, c64⟩ := cells5 c6) | (clear mk4; refine wpList_store_v rfl 56 _ _ rfl b6 [.string ⟨#[]⟩, .int .i64 0, .string ⟨#[]⟩, .int .i64 0, .int .i64 0] rfl rfl sizeIt c6 rfl (ic_one ZIt) ?_; intro w4 hO4 c6x; clear c60 c61 c62 c63 c64; have hz4 : w3.heap.size ≤ w4.heap.size := (Nat.le_of_eq hO4.1.symm); have hy4 : w4.heap.size ≤ w3.heap.size := (Nat.le_of_eq hO4.1); replace o := o.below (hO4.2.2 b6 (Nat.le_refl _)) (by omega); replace c0 := vblk_only c0 hO4 (by omega); replace c3 := vblk_only c3 hO4 (by omega); replace c4 := vblk_only c4 hO4 (by omega); replace hK := hK.new hO4 (by omega); clear c00 c01; obtain ⟨c00, c01⟩ := cells2 c0; clear c30 c31 c32 c33 c34 c35 c36 c37; obtain ⟨c30, c31, c32, c33, c34, c35, c36, c37⟩ := cellsCm c3; clear c40 c41 c42 c43 c44 c45; obtain ⟨c40, c41, c42, c43, c44, c45⟩ := cellsRp c4; clear c6; have c6 := c6x; clear c6x; obtain ⟨c60, c61, c62, c63, c64⟩ := cells5 c6) | (clear mk5; refine wpList_load_r rfl 56 _ rfl g (k * 5) [.string N, .int .i64 F, .string B, .int .i64 C, .int .i64 U] rfl _ Tryz.underlying56 rfl sizeIt (own_at5 o hk HX.out) ?_) | (clear mk6; refine wpList_store_v rfl 56 _ _ rfl b6 [.string N, .int .i64 F, .string B, .int .i64 C, .int .i64 U] rfl rfl sizeIt c6 rfl (ic_one ⟨N, F, B, C, U⟩) ?_; intro w5 hO5 c6x; clear c60 c61 c62 c63 c64; have hz5 : w4.heap.size ≤ w5.heap.size := (Nat.le_of_eq hO5.1.symm); have hy5 : w5.heap.size ≤ w4.heap.size := (Nat.le_of_eq hO5.1); replace o := o.below (hO5.2.2 b6 (Nat.le_refl _)) (by omega); replace c0 := vblk_only c0 hO5 (by omega); replace c3 := vblk_only c3 hO5 (by omega); replace c4 := vblk_only c4 hO5 (by omega); replace hK := hK.new hO5 (by omega); clear c00 c01; obtain ⟨c00, c01⟩ := cells2 c0; clear c30 c31 c32 c33 c34 c35 c36 c37; obtain ⟨c30, c31, c32, c33, c34, c35, c36, c37⟩ := cellsCm c3; clear c40 c41 c42 c43 c44 c45; obtain ⟨c40, c41, c42, c43, c44, c45⟩ := cellsRp c4; clear c6; have c6 := c6x; clear c6x; obtain ⟨c60, c61, c62, c63, c64⟩ := cells5 c6) | (clear mk7; refine wpList_alloc_v rfl 56 rfl _ zeroIt ?_; intro b7 w6 hb7 hwb7 hB6 c7; have hz6 : w5.heap.size ≤ w6.heap.size := hB6.size; replace o := o.grow hB6; replace c0 := vblk_grow c0 hB6; replace c3 := vblk_grow c3 hB6; replace c4 := vblk_grow c4 hB6; replace c6 := vblk_grow c6 hB6; replace hK := hK.trans (Onk.of_below hB6); clear c00 c01; obtain ⟨c00, c01⟩ := cells2 c0; clear c30 c31 c32 c33 c34 c35 c36 c37; obtain ⟨c30, c31, c32, c33, c34, c35, c36, c37⟩ := cellsCm c3; clear c40 c41 c42 c43 c44 c45; obtain ⟨c40, c41, c42, c43, c44, c45⟩ := cellsRp c4; clear c60 c61 c62 c63 c64; obtain ⟨c60, c61, c62, c63, c64⟩ := cells5 c6; obtain ⟨c70, c71, c72, c73, c74⟩ := cells5 c7) | (clear mk8; refine wpList_store_v rfl 56 _ _ rfl b7 [.string N2, .int .i64 F2, .string B2, .int .i64 0, .int .i64 U2] rfl rfl sizeIt c7 rfl (ic_one ⟨N2, F2, B2, 0, U2⟩) ?_; intro w7 hO7 c7x; clear c70 c71 c72 c73 c74; have hz7 : w6.heap.size ≤ w7.heap.size := (Nat.le_of_eq hO7.1.symm); have hy7 : w7.heap.size ≤ w6.heap.size := (Nat.le_of_eq hO7.1); replace o := o.below (hO7.2.2 b7 (Nat.le_refl _)) (by omega); replace c0 := vblk_only c0 hO7 (by omega); replace c3 := vblk_only c3 hO7 (by omega); replace c4 := vblk_only c4 hO7 (by omega); replace c6 := vblk_only c6 hO7 (by omega); replace hK := hK.new hO7 (by omega); clear c00 c01; obtain ⟨c00, c01⟩ := cells2 c0; clear c30 c31 c32 c33 c34 c35 c36 c37; obtain ⟨c30, c31, c32, c33, c34, c35, c36, c37⟩ := cellsCm c3; clear c40 c41 c42 c43 c44 c45; obtain ⟨c40, c41, c42, c43, c44, c45⟩ := cellsRp c4; clear c60 c61 c62 c63 c64; obtain ⟨c60, c61, c62, c63, c64⟩ := cells5 c6; clear c7; have c7 := c7x; clear c7x; obtain ⟨c70, c71, c72, c73, c74⟩ := cells5 c7) | (fail))
  by_cases v12 : V = 12
  · subst v12
    have e : doK ⟨I, X⟩ ⟨12, N2, F2, U2, B2, C2, D2, Q2⟩ = (⟨dropL I N2, X⟩, rp 8) := by
      simp [doK, HLK.out]
    have eZ := hDK.out.symm.trans e
    clear e hDK
    obtain ⟨rfl, rfl⟩ := Prod.mk.inj eZ
    have mk9 : Hid True := trivial
    have mk10 : Hid True := trivial
    go_wp2_with (first | (clear mk9; go_at_call 66; refine (l13Drop_any I X N2 _ b0 lo I.length k0 (some ⟨g, 0, none⟩) _ c0 hlo (o.wide (Nat.le_refl _) (by omega)) OK.out.bk.srt (by omega) HLK.out).mono ?_; rintro er w8 ⟨rfl, A1, n1, k1, c0n, o1, hQ8⟩; have hM8 : Onk b0 lo _ _ := Onk.of_onb hQ8; have hz8 : w7.heap.size ≤ w8.heap.size := hM8.size; replace c3 := hM8.vblk c3 (by omega) (by decide); replace c4 := hM8.vblk c4 (by omega) (by decide); replace hK := hK.trans hM8; clear c0 c00 c01 c60 c61 c62 c63 c64 c70 c71 c72 c73 c74 c6 c7; have c0 := c0n; clear c0n; clear c30 c31 c32 c33 c34 c35 c36 c37; obtain ⟨c30, c31, c32, c33, c34, c35, c36, c37⟩ := cellsCm c3; clear c40 c41 c42 c43 c44 c45; obtain ⟨c40, c41, c42, c43, c44, c45⟩ := cellsRp c4) | (clear mk10; refine wpList_store_v rfl 33 _ _ rfl b4 [.int .i64 8, .string ⟨#[]⟩, .int .i64 0, .string ⟨#[]⟩, .int .i64 0, .int .i64 0] rfl rfl sizeRp c4 rfl (oneRp (rp 8)) ?_; intro w9 hO9 c4x; clear c40 c41 c42 c43 c44 c45; have hz9 : w8.heap.size ≤ w9.heap.size := (Nat.le_of_eq hO9.1.symm); have hy9 : w9.heap.size ≤ w8.heap.size := (Nat.le_of_eq hO9.1); replace o1 := o1.only hO9 c4 (by decide); replace c0 := vblk_only c0 hO9 (by omega); replace c3 := vblk_only c3 hO9 (by omega); replace hK := hK.new hO9 (by omega); clear c30 c31 c32 c33 c34 c35 c36 c37; obtain ⟨c30, c31, c32, c33, c34, c35, c36, c37⟩ := cellsCm c3; clear c4; have c4 := c4x; clear c4x; obtain ⟨c40, c41, c42, c43, c44, c45⟩ := cellsRp c4) | (fail))
    exact row_retv rfl rfl c4 Tryz.underlying33 sizeRp rfl ⟨rfl, A1, n1, k1, c0, (o1.wide (Nat.le_refl _) (by omega)).top, hK⟩
  by_cases v13 : V = 13
  · subst v13
    have e : doK ⟨I, X⟩ ⟨13, N2, F2, U2, B2, C2, D2, Q2⟩ = (⟨[], X⟩, rp 9) := by
      simp [doK]
    have eZ := hDK.out.symm.trans e
    clear e hDK
    obtain ⟨rfl, rfl⟩ := Prod.mk.inj eZ
    obtain ⟨iT, hiT⟩ := infoItE
    have mk9 : Hid True := trivial
    have mk10 : Hid True := trivial
    have mk11 : Hid True := trivial
    go_wp2_with (first | (clear mk9; refine wpList_build0 rfl 29 _ iT rfl Tryz.underlying29 hiT ?_; intro bE w8 hB8; have hz8 : w7.heap.size ≤ w8.heap.size := hB8.size; replace o := o.grow hB8; replace c0 := vblk_grow c0 hB8; replace c3 := vblk_grow c3 hB8; replace c4 := vblk_grow c4 hB8; replace c6 := vblk_grow c6 hB8; replace c7 := vblk_grow c7 hB8; replace hK := hK.trans (Onk.of_below hB8); clear c00 c01; obtain ⟨c00, c01⟩ := cells2 c0; clear c30 c31 c32 c33 c34 c35 c36 c37; obtain ⟨c30, c31, c32, c33, c34, c35, c36, c37⟩ := cellsCm c3; clear c40 c41 c42 c43 c44 c45; obtain ⟨c40, c41, c42, c43, c44, c45⟩ := cellsRp c4; clear c60 c61 c62 c63 c64; obtain ⟨c60, c61, c62, c63, c64⟩ := cells5 c6; clear c70 c71 c72 c73 c74; obtain ⟨c70, c71, c72, c73, c74⟩ := cells5 c7) | (clear mk10; refine wpList_store_cell rfl 29 _ _ rfl b0 0 (.slice (some ⟨bE, 0, none⟩) 0 0) rfl rfl rfl szL1 c0 (by simp) ?_; intro w9 hO9 c0x; clear c00 c01; have hz9 : w8.heap.size ≤ w9.heap.size := (Nat.le_of_eq hO9.1.symm); have hy9 : w9.heap.size ≤ w8.heap.size := (Nat.le_of_eq hO9.1); replace o := o.only hO9 c0 (by decide); replace c3 := vblk_only c3 hO9 (by omega); replace c4 := vblk_only c4 hO9 (by omega); replace c6 := vblk_only c6 hO9 (by omega); replace c7 := vblk_only c7 hO9 (by omega); replace hK := hK.trans (Onk.only hO9); clear c30 c31 c32 c33 c34 c35 c36 c37; obtain ⟨c30, c31, c32, c33, c34, c35, c36, c37⟩ := cellsCm c3; clear c40 c41 c42 c43 c44 c45; obtain ⟨c40, c41, c42, c43, c44, c45⟩ := cellsRp c4; clear c60 c61 c62 c63 c64; obtain ⟨c60, c61, c62, c63, c64⟩ := cells5 c6; clear c70 c71 c72 c73 c74; obtain ⟨c70, c71, c72, c73, c74⟩ := cells5 c7; clear c0; have c0 : VBlk w9 b0 31 [.slice (some ⟨bE, 0, none⟩) 0 0, .int .i64 X] := c0x; clear c0x) | (clear mk11; refine wpList_store_v rfl 33 _ _ rfl b4 [.int .i64 9, .string ⟨#[]⟩, .int .i64 0, .string ⟨#[]⟩, .int .i64 0, .int .i64 0] rfl rfl sizeRp c4 rfl (oneRp (rp 9)) ?_; intro w10 hO10 c4x; clear c40 c41 c42 c43 c44 c45; have hz10 : w9.heap.size ≤ w10.heap.size := (Nat.le_of_eq hO10.1.symm); have hy10 : w10.heap.size ≤ w9.heap.size := (Nat.le_of_eq hO10.1); replace o := o.only hO10 c4 (by decide); replace c3 := vblk_only c3 hO10 (by omega); replace c6 := vblk_only c6 hO10 (by omega); replace c7 := vblk_only c7 hO10 (by omega); replace c0 := vblk_only c0 hO10 (by omega); replace hK := hK.new hO10 (by omega); clear c30 c31 c32 c33 c34 c35 c36 c37; obtain ⟨c30, c31, c32, c33, c34, c35, c36, c37⟩ := cellsCm c3; clear c60 c61 c62 c63 c64; obtain ⟨c60, c61, c62, c63, c64⟩ := cells5 c6; clear c70 c71 c72 c73 c74; obtain ⟨c70, c71, c72, c73, c74⟩ := cells5 c7; clear c4; have c4 := c4x; clear c4x; obtain ⟨c40, c41, c42, c43, c44, c45⟩ := cellsRp c4) | (fail))
    exact row_retv rfl rfl c4 Tryz.underlying33 sizeRp rfl ⟨rfl, _, _, _, c0, own_zero _ _ _ _ _, hK⟩
  omega
end Go.Proofs.YtjkkjpgebcnhgaaGreatDoor.rg
/- The model's l13Do, where the thing is there. -/
namespace Go.Proofs.YtjkkjpgebcnhgaaGreatDoor.rg
open Go.ChangeShapes Go.WideShapes Go.ChangeAt Go.RowKit
open Go.Deep Go.Joins
open Go.Proofs.YtjkkjpgebcnhgaaGreatDoor.ce Go.Proofs.YtjkkjpgebcnhgaaGreatDoor.ro Go.Proofs.YtjkkjpgebcnhgaaGreatDoor.cm
set_option linter.unusedVariables false

set_option maxRecDepth 100000 in
set_option maxHeartbeats 8000000 in
theorem l13Do_s6 (I : List It) (X : Int) (N B : ByteArray) (F C U : Int) (V : Int) (N2 : ByteArray) (F2 U2 : Int) (B2 : ByteArray) (C2 D2 : Int) (Q2 : Bool) (b0 lo n0 k0 : Nat) (A0 : Option Addr) (w : World) (c0 : VBlk w b0 31 [.slice A0 n0 k0, .int .i64 X]) (hlo : lo ≤ b0) (o : Own encIt w lo w.heap.size (.slice A0 n0 k0) I) (ok : StOk ⟨I, X⟩) (hc : COk ⟨V, N2, F2, U2, B2, C2, D2, Q2⟩) (hlk : lookI I N2 = some ⟨N, F, B, C, U⟩) (hV : V = 11) :
    Calls Tryz.prog 35 #[.pointer (some ⟨b0, 0, none⟩), .agg #[.int .i64 V, .string N2, .int .i64 F2, .int .i64 U2, .string B2, .int .i64 C2, .int .i64 D2, .bool Q2]] w fun e w' => PostM (doK ⟨I, X⟩ ⟨V, N2, F2, U2, B2, C2, D2, Q2⟩).1 (doK ⟨I, X⟩ ⟨V, N2, F2, U2, B2, C2, D2, Q2⟩).2 b0 lo w e w' := by
  have hv0 := hc.v0
  have hv1 := hc.v1
  have hd1 := hc.d1
  have hb1 := hc.b1
  have hnm := hc.nm
  dsimp only at hv0 hv1 hd1 hb1 hnm
  have hl20 := len_of ok
  have hK := Onk.refl b0 lo w
  have hlt0 := c0.lt
  have hzw0 : w.heap.size ≤ w.heap.size := Nat.le_refl _
  have szB2 : B2.size ≤ 1048576 := by omega
  have OK : Hid _ := ok
  have HNM : Hid _ := hnm
  have hlk' := hlk
  obtain ⟨hmem, hnn, k, hk, hk2, hk3⟩ := look_some hlk
  have hit := itemB_iff.1 (ok.bk.1 _ hmem)
  dsimp only at hnn
  have hN : N.size ≤ 1048576 := by have := nm_small hit.nm; dsimp only at this; omega
  have hBs : B.size ≤ 1048576 := by have := hit.b1; dsimp only at this; omega
  have hN2 : N2.size ≤ 1048576 := by rw [← hnn]; exact hN
  have hf : Hid (findI I N2 = k) := hk2
  have HX : Hid (I[k] = ⟨N, F, B, C, U⟩) := hk3
  have HLK : Hid _ := hlk
  have HNN : Hid (N = N2) := hnn
  obtain ⟨g, cap, eg, hg1, hg2, hg3⟩ := o.form (by omega)
  obtain ⟨rfl, rfl, rfl⟩ : A0 = some ⟨g, 0, none⟩ ∧ n0 = I.length ∧ k0 = cap := by simpa using eg
  have hk0' : (0 : Int) ≤ (k : Int) := by omega
  have hkn : (k : Int) < (I.length : Int) := by omega
  have hge : decide (((k : Nat) : Int) ≥ 0) = true := decide_eq_true (by omega)
  have hgl : decide (((k : Nat) : Int) < 0) = false := decide_eq_false (by omega)
  clear hlk hlk' hmem hnn hk2 hk3 eg hit ok hc hnm
  obtain ⟨⟨Bz, Rz⟩, hDK⟩ := hid_ex (doK ⟨I, X⟩ ⟨V, N2, F2, U2, B2, C2, D2, Q2⟩)
  rw [hDK.out]
  unfold PostM
  dsimp only
  go_enter Tryz.func35, Tryz.ntmps35
  obtain ⟨c00, c01⟩ := cells2 c0
  have mk1 : Hid True := trivial
  have mk2 : Hid True := trivial
  go_upto_region 1 with (first | (clear mk1; refine wpList_box_v rfl 37 _ rfl [.int .i64 V, .string N2, .int .i64 F2, .int .i64 U2, .string B2, .int .i64 C2, .int .i64 D2, .bool Q2] rfl ?_; intro b3 w1 hb3 hwb3 hB1 c3; have hz1 : w.heap.size ≤ w1.heap.size := hB1.size; replace o := o.grow hB1; replace c0 := vblk_grow c0 hB1; replace hK := hK.trans (Onk.of_below hB1); clear c00 c01; obtain ⟨c00, c01⟩ := cells2 c0; obtain ⟨c30, c31, c32, c33, c34, c35, c36, c37⟩ := cellsCm c3) | (clear mk2; refine wpList_alloc_v rfl 33 rfl _ zeroRp ?_; intro b4 w2 hb4 hwb4 hB2 c4; have hz2 : w1.heap.size ≤ w2.heap.size := hB2.size; replace o := o.grow hB2; replace c0 := vblk_grow c0 hB2; replace c3 := vblk_grow c3 hB2; replace hK := hK.trans (Onk.of_below hB2); clear c00 c01; obtain ⟨c00, c01⟩ := cells2 c0; clear c30 c31 c32 c33 c34 c35 c36 c37; obtain ⟨c30, c31, c32, c33, c34, c35, c36, c37⟩ := cellsCm c3; obtain ⟨c40, c41, c42, c43, c44, c45⟩ := cellsRp c4) | (fail))
  have hKd : Below w2.heap.size w2 w2.drew := (Below.refl _ _).drew
  have hzd : w2.drew.heap.size ≤ w2.heap.size := Nat.le_refl _
  have hzd2 : w2.heap.size ≤ w2.drew.heap.size := Nat.le_refl _
  replace hK := hK.trans (Onk.of_below hKd)
  replace o := o.grow hKd
  replace c0 := vblk_grow c0 hKd
  clear c00 c01
  obtain ⟨c00, c01⟩ := cells2 c0
  replace c3 := vblk_grow c3 hKd
  clear c30 c31 c32 c33 c34 c35 c36 c37
  obtain ⟨c30, c31, c32, c33, c34, c35, c36, c37⟩ := cellsCm c3
  replace c4 := vblk_grow c4 hKd
  clear c40 c41 c42 c43 c44 c45
  obtain ⟨c40, c41, c42, c43, c44, c45⟩ := cellsRp c4
  have S1 : w2.drew.cell? ⟨b0, 0, none⟩ = some (.slice (some ⟨g, 0, none⟩) I.length k0) ∧ w2.drew.cell? ⟨b3, 1, none⟩ = some (.string N2) := ⟨c00, c31⟩
  go_region_held3 (fun w' => w'.cell? ⟨b0, 0, none⟩ = some (.slice (some ⟨g, 0, none⟩) I.length k0) ∧ w'.cell? ⟨b3, 1, none⟩ = some (.string N2)) (first | with_reducible assumption | with_reducible exact S1 | (fail)) (first | (go_at_call 26; refine (specFindItem_any I N2 _ _ o.rd).mono ?_; rintro er wq ⟨rfl, hq⟩; subst wq; rw [hf.out]; have S2 := S1) | (fail))
  clear S1 S2 hKd
  have mk3 : Hid True := trivial
  have mk4 : Hid True := trivial
  have mk5 : Hid True := trivial
  have mk6 : Hid True := trivial
  have mk7 : Hid True := trivial
  have mk8 : Hid True := trivial
  go_upto_region 7 with (first | (clear mk3; refine wpList_alloc_v rfl 56 rfl _ zeroIt ?_; intro b6 w3 hb6 hwb6 hB3 c6; have hz3 : w2.drew.heap.size ≤ w3.heap.size := hB3.size; replace o := o.grow hB3; replace c0 := vblk_grow c0 hB3; replace c3 := vblk_grow c3 hB3; replace c4 := vblk_grow c4 hB3; replace hK := hK.trans (Onk.of_below hB3); clear c00 c01; obtain ⟨c00, c01⟩ := cells2 c0; clear c30 c31 c32 c33 c34 c35 c36 c37; obtain ⟨c30, c31, c32, c33, c34, c35, c36, c37⟩ := cellsCm c3; clear c40 c41 c42 c43 c44 c45; obtain ⟨c40, c41, c42, c43, c44, c45⟩ := cellsRp c4; obtain ⟨c60, c61, c62, c63, c64⟩ := cells5 c6) | (clear mk4; refine wpList_store_v rfl 56 _ _ rfl b6 [.string ⟨#[]⟩, .int .i64 0, .string ⟨#[]⟩, .int .i64 0, .int .i64 0] rfl rfl sizeIt c6 rfl (ic_one ZIt) ?_; intro w4 hO4 c6x; clear c60 c61 c62 c63 c64; have hz4 : w3.heap.size ≤ w4.heap.size := (Nat.le_of_eq hO4.1.symm); have hy4 : w4.heap.size ≤ w3.heap.size := (Nat.le_of_eq hO4.1); replace o := o.below (hO4.2.2 b6 (Nat.le_refl _)) (by omega); replace c0 := vblk_only c0 hO4 (by omega); replace c3 := vblk_only c3 hO4 (by omega); replace c4 := vblk_only c4 hO4 (by omega); replace hK := hK.new hO4 (by omega); clear c00 c01; obtain ⟨c00, c01⟩ := cells2 c0; clear c30 c31 c32 c33 c34 c35 c36 c37; obtain ⟨c30, c31, c32, c33, c34, c35, c36, c37⟩ := cellsCm c3; clear c40 c41 c42 c43 c44 c45; obtain ⟨c40, c41, c42, c43, c44, c45⟩ := cellsRp c4; clear c6; have c6 := c6x; clear c6x; obtain ⟨c60, c61, c62, c63, c64⟩ := cells5 c6) | (clear mk5; refine wpList_load_r rfl 56 _ rfl g (k * 5) [.string N, .int .i64 F, .string B, .int .i64 C, .int .i64 U] rfl _ Tryz.underlying56 rfl sizeIt (own_at5 o hk HX.out) ?_) | (clear mk6; refine wpList_store_v rfl 56 _ _ rfl b6 [.string N, .int .i64 F, .string B, .int .i64 C, .int .i64 U] rfl rfl sizeIt c6 rfl (ic_one ⟨N, F, B, C, U⟩) ?_; intro w5 hO5 c6x; clear c60 c61 c62 c63 c64; have hz5 : w4.heap.size ≤ w5.heap.size := (Nat.le_of_eq hO5.1.symm); have hy5 : w5.heap.size ≤ w4.heap.size := (Nat.le_of_eq hO5.1); replace o := o.below (hO5.2.2 b6 (Nat.le_refl _)) (by omega); replace c0 := vblk_only c0 hO5 (by omega); replace c3 := vblk_only c3 hO5 (by omega); replace c4 := vblk_only c4 hO5 (by omega); replace hK := hK.new hO5 (by omega); clear c00 c01; obtain ⟨c00, c01⟩ := cells2 c0; clear c30 c31 c32 c33 c34 c35 c36 c37; obtain ⟨c30, c31, c32, c33, c34, c35, c36, c37⟩ := cellsCm c3; clear c40 c41 c42 c43 c44 c45; obtain ⟨c40, c41, c42, c43, c44, c45⟩ := cellsRp c4; clear c6; have c6 := c6x; clear c6x; obtain ⟨c60, c61, c62, c63, c64⟩ := cells5 c6) | (clear mk7; refine wpList_alloc_v rfl 56 rfl _ zeroIt ?_; intro b7 w6 hb7 hwb7 hB6 c7; have hz6 : w5.heap.size ≤ w6.heap.size := hB6.size; replace o := o.grow hB6; replace c0 := vblk_grow c0 hB6; replace c3 := vblk_grow c3 hB6; replace c4 := vblk_grow c4 hB6; replace c6 := vblk_grow c6 hB6; replace hK := hK.trans (Onk.of_below hB6); clear c00 c01; obtain ⟨c00, c01⟩ := cells2 c0; clear c30 c31 c32 c33 c34 c35 c36 c37; obtain ⟨c30, c31, c32, c33, c34, c35, c36, c37⟩ := cellsCm c3; clear c40 c41 c42 c43 c44 c45; obtain ⟨c40, c41, c42, c43, c44, c45⟩ := cellsRp c4; clear c60 c61 c62 c63 c64; obtain ⟨c60, c61, c62, c63, c64⟩ := cells5 c6; obtain ⟨c70, c71, c72, c73, c74⟩ := cells5 c7) | (clear mk8; refine wpList_store_v rfl 56 _ _ rfl b7 [.string N2, .int .i64 F2, .string B2, .int .i64 0, .int .i64 U2] rfl rfl sizeIt c7 rfl (ic_one ⟨N2, F2, B2, 0, U2⟩) ?_; intro w7 hO7 c7x; clear c70 c71 c72 c73 c74; have hz7 : w6.heap.size ≤ w7.heap.size := (Nat.le_of_eq hO7.1.symm); have hy7 : w7.heap.size ≤ w6.heap.size := (Nat.le_of_eq hO7.1); replace o := o.below (hO7.2.2 b7 (Nat.le_refl _)) (by omega); replace c0 := vblk_only c0 hO7 (by omega); replace c3 := vblk_only c3 hO7 (by omega); replace c4 := vblk_only c4 hO7 (by omega); replace c6 := vblk_only c6 hO7 (by omega); replace hK := hK.new hO7 (by omega); clear c00 c01; obtain ⟨c00, c01⟩ := cells2 c0; clear c30 c31 c32 c33 c34 c35 c36 c37; obtain ⟨c30, c31, c32, c33, c34, c35, c36, c37⟩ := cellsCm c3; clear c40 c41 c42 c43 c44 c45; obtain ⟨c40, c41, c42, c43, c44, c45⟩ := cellsRp c4; clear c60 c61 c62 c63 c64; obtain ⟨c60, c61, c62, c63, c64⟩ := cells5 c6; clear c7; have c7 := c7x; clear c7x; obtain ⟨c70, c71, c72, c73, c74⟩ := cells5 c7) | (fail))
  by_cases v11 : V = 11
  · subst v11
    have ht := touch_at OK.out.bk.srt hk U2
    rw [HX.out] at ht
    dsimp only at ht
    rw [HNN.out] at ht
    have e : doK ⟨I, X⟩ ⟨11, N2, F2, U2, B2, C2, D2, Q2⟩ = (⟨I.set k ⟨N2, F, B, C, U2⟩, X⟩, rp 7) := by
      rw [← HNN.out] at ht ⊢
      have hl2 := HLK.out
      rw [← HNN.out] at hl2
      simp [doK, hl2, ht, touchI]
    have eZ := hDK.out.symm.trans e
    clear e hDK
    clear ht
    obtain ⟨rfl, rfl⟩ := Prod.mk.inj eZ
    go_upto_region 45 with (fail)
    (try simp only [Act.put])
    (try simp only [List.setIfInBounds_toArray, List.set_cons_zero, List.set_cons_succ])
    have hKd : Below w7.heap.size w7 w7.drew := (Below.refl _ _).drew
    have hzd3 : w7.heap.size ≤ w7.drew.heap.size := Nat.le_refl _
    have hzd4 : w7.drew.heap.size ≤ w7.heap.size := Nat.le_refl _
    replace hK := hK.trans (Onk.of_below hKd)
    replace o := o.grow hKd
    replace c0 := vblk_grow c0 hKd
    clear c00 c01
    replace c3 := vblk_grow c3 hKd
    clear c30 c31 c32 c33 c34 c35 c36 c37
    replace c4 := vblk_grow c4 hKd
    clear c40 c41 c42 c43 c44 c45
    replace c6 := vblk_grow c6 hKd
    clear c60 c61 c62 c63 c64
    replace c7 := vblk_grow c7 hKd
    clear c70 c71 c72 c73 c74
    refine wp_region_held_drew (S := fun w' => w'.cell? ⟨b0, 0, none⟩ = some (.slice (some ⟨g, 0, none⟩) I.length k0) ∧ w'.cell? ⟨b3, 3, none⟩ = some (.int .i64 U2)) (by kernel_rfl) (⟨(cells2 c0).1, (cellsCm c3).2.2.2.1⟩) (fun hHeld => ?_)
    refine wpAnyH_take (i := 0) (oi := { dst := some 129, op := Op.move (Operand.tmp 0), type := 66, pos := "l13_store.go:128", after := #[], guard := none }) (v := ?_) rfl (by kernel_rfl) (by kernel_rfl) (by kernel_rfl) (fun _ _ _ h => h) (Or.inl ⟨by rfl, ?_⟩) (by assumption) ?_
    rotate_left 1
    · intro w' hSw; (try dsimp only at hSw); go_simp; (try with_reducible rfl)
    (try simp only [Act.put, List.setIfInBounds_toArray, List.set_cons_zero, List.set_cons_succ])
    refine wpAnyH_take (i := 1) (oi := { dst := some 130, op := Op.nilCheck (Operand.tmp 129), type := 0, pos := "l13_store.go:128", after := #[{ on := 0, ground := Ground.data }], guard := none }) (v := ?_) rfl (by kernel_rfl) (by kernel_rfl) (by kernel_rfl) (fun _ _ _ h => h) (Or.inl ⟨by rfl, ?_⟩) (by assumption) ?_
    rotate_left 1
    · intro w' hSw; (try dsimp only at hSw); go_simp; (try with_reducible rfl)
    (try simp only [Act.put, List.setIfInBounds_toArray, List.set_cons_zero, List.set_cons_succ])
    refine wpAnyH_take (i := 2) (oi := { dst := some 131, op := Op.fieldAddr 31 (Operand.tmp 130) 0, type := 0, pos := "l13_store.go:128", after := #[{ on := 1, ground := Ground.data }], guard := none }) (v := ?_) rfl (by kernel_rfl) (by kernel_rfl) (by kernel_rfl) (fun _ _ _ h => h) (Or.inl ⟨by rfl, ?_⟩) (by assumption) ?_
    rotate_left 1
    · intro w' hSw; (try dsimp only at hSw); go_simp; (try with_reducible rfl)
    (try simp only [Act.put, List.setIfInBounds_toArray, List.set_cons_zero, List.set_cons_succ])
    refine wpAnyH_take (i := 3) (oi := { dst := some 132, op := Op.load 29 (Operand.tmp 131), type := 29, pos := "l13_store.go:128", after := #[{ on := 2, ground := Ground.data }], guard := none }) (v := ?_) rfl (by kernel_rfl) (by kernel_rfl) (by kernel_rfl) (fun _ _ _ h => h) (Or.inl ⟨by rfl, ?_⟩) (by assumption) ?_
    rotate_left 1
    · intro w' hSw; (try dsimp only at hSw); go_simp; (try with_reducible rfl)
    (try simp only [Act.put, List.setIfInBounds_toArray, List.set_cons_zero, List.set_cons_succ])
    refine wpAnyH_take (i := 4) (oi := { dst := some 133, op := Op.move (Operand.tmp 5), type := 2, pos := "l13_store.go:128", after := #[], guard := none }) (v := ?_) rfl (by kernel_rfl) (by kernel_rfl) (by kernel_rfl) (fun _ _ _ h => h) (Or.inl ⟨by rfl, ?_⟩) (by assumption) ?_
    rotate_left 1
    · intro w' hSw; (try dsimp only at hSw); go_simp; (try with_reducible rfl)
    (try simp only [Act.put, List.setIfInBounds_toArray, List.set_cons_zero, List.set_cons_succ])
    refine wpAnyH_take (i := 5) (oi := { dst := some 134, op := Op.fieldAddr 37 (Operand.tmp 3) 3, type := 0, pos := "l13_store.go:128", after := #[], guard := none }) (v := ?_) rfl (by kernel_rfl) (by kernel_rfl) (by kernel_rfl) (fun _ _ _ h => h) (Or.inl ⟨by rfl, ?_⟩) (by assumption) ?_
    rotate_left 1
    · intro w' hSw; (try dsimp only at hSw); go_simp; (try with_reducible rfl)
    (try simp only [Act.put, List.setIfInBounds_toArray, List.set_cons_zero, List.set_cons_succ])
    refine wpAnyH_take (i := 6) (oi := { dst := some 135, op := Op.load 2 (Operand.tmp 134), type := 2, pos := "l13_store.go:128", after := #[{ on := 5, ground := Ground.data }], guard := none }) (v := ?_) rfl (by kernel_rfl) (by kernel_rfl) (by kernel_rfl) (fun _ _ _ h => h) (Or.inl ⟨by rfl, ?_⟩) (by assumption) ?_
    rotate_left 1
    · intro w' hSw; (try dsimp only at hSw); go_simp; (try with_reducible rfl)
    (try simp only [Act.put, List.setIfInBounds_toArray, List.set_cons_zero, List.set_cons_succ])
    refine wpAnyH_take (i := 7) (oi := { dst := some 136, op := Op.indexAddr 29 (Operand.tmp 132) (Operand.tmp 133), type := 0, pos := "l13_store.go:128", after := #[{ on := 3, ground := Ground.data }, { on := 4, ground := Ground.data }, { on := 0, ground := Ground.phase }, { on := 1, ground := Ground.phase }, { on := 2, ground := Ground.phase }, { on := 3, ground := Ground.phase }, { on := 4, ground := Ground.phase }, { on := 5, ground := Ground.phase }, { on := 6, ground := Ground.phase }], guard := none }) (v := ?_) rfl (by kernel_rfl) (by kernel_rfl) (by kernel_rfl) (fun _ _ _ h => h) (Or.inl ⟨by rfl, ?_⟩) (by assumption) ?_
    rotate_left 1
    · intro w' hSw; (try dsimp only at hSw); go_simp; (try with_reducible rfl)
    (try simp only [Act.put, List.setIfInBounds_toArray, List.set_cons_zero, List.set_cons_succ])
    refine wpAnyH_take (i := 8) (oi := { dst := some 137, op := Op.fieldAddr 56 (Operand.tmp 136) 4, type := 0, pos := "l13_store.go:128", after := #[{ on := 7, ground := Ground.data }, { on := 0, ground := Ground.phase }, { on := 1, ground := Ground.phase }, { on := 2, ground := Ground.phase }, { on := 3, ground := Ground.phase }, { on := 4, ground := Ground.phase }, { on := 5, ground := Ground.phase }, { on := 6, ground := Ground.phase }], guard := none }) (v := ?_) rfl (by kernel_rfl) (by kernel_rfl) (by kernel_rfl) (fun _ _ _ h => h) (Or.inl ⟨by rfl, ?_⟩) (by assumption) ?_
    rotate_left 1
    · intro w' hSw; (try dsimp only at hSw); go_simp; (try with_reducible rfl)
    (try simp only [Act.put, List.setIfInBounds_toArray, List.set_cons_zero, List.set_cons_succ])
    refine wpAnyH_ready (rs := [9]) (by kernel_rfl) (by simp) ?_
    refine AllReadyH.cons (o := { dst := none, op := Op.store 2 (Operand.tmp 137) (Operand.tmp 135), type := 0, pos := "l13_store.go:128", after := #[{ on := 8, ground := Ground.data }, { on := 6, ground := Ground.data }, { on := 0, ground := Ground.phase }, { on := 1, ground := Ground.phase }, { on := 2, ground := Ground.phase }, { on := 3, ground := Ground.phase }, { on := 4, ground := Ground.phase }, { on := 5, ground := Ground.phase }, { on := 6, ground := Ground.phase }], guard := none }) rfl (fun KC hKC => ?_) AllReadyH.nil
    obtain ⟨cur, hcur⟩ := own_blk o (by omega)
    have hne0 := vblk_ne c0 hcur (by decide)
    have hne3 := vblk_ne c3 hcur (by decide)
    have hne4 := vblk_ne c4 hcur (by decide)
    refine step_store_own (E := encIt) rfl 2 _ _ rfl g _ k 4 (.int .i64 U2) ⟨N2, F, B, C, U2⟩ rfl rfl rfl rfl szI1 o hk (by decide) (by rw [HX.out, HNN.out]; rfl) ?_
    intro wr9 hO9r o9
    have hz9r := hO9r.1
    replace c0 := vblk_only c0 hO9r hne0
    replace c3 := vblk_only c3 hO9r hne3
    replace c4 := vblk_only c4 hO9r hne4
    replace hK := hK.trans (Onk.row hO9r hg1 hcur)
    clear c6 c7 o
    have o := o9
    clear o9
    refine hKC.out _ _ (⟨(cells2 c0).1, (cellsCm c3).2.2.2.1⟩) (fun hHeld2 => ?_)
    clear hKC KC hHeld
    have hHeld := hHeld2
    clear hHeld2
    (try simp only [Act.put])
    refine wpAnyH_done (by kernel_rfl) ?_ _
    have mk9 : Hid True := trivial
    go_wp2_with (first | (clear mk9; refine wpList_store_v rfl 33 _ _ rfl b4 [.int .i64 7, .string ⟨#[]⟩, .int .i64 0, .string ⟨#[]⟩, .int .i64 0, .int .i64 0] rfl rfl sizeRp c4 rfl (oneRp (rp 7)) ?_; intro w8 hO8 c4x;  have hz8 : wr9.heap.size ≤ w8.heap.size := (Nat.le_of_eq hO8.1.symm); have hy8 : w8.heap.size ≤ wr9.heap.size := (Nat.le_of_eq hO8.1); replace o := o.only hO8 c4 (by decide); replace c0 := vblk_only c0 hO8 (by omega); replace c3 := vblk_only c3 hO8 (by omega); replace hK := hK.new hO8 (by omega); clear c4; have c4 := c4x; clear c4x) | (fail))
    exact row_retv rfl rfl c4 Tryz.underlying33 sizeRp rfl ⟨rfl, _, _, _, c0, (o.wide (Nat.le_refl _) (by omega)).top, hK⟩
  omega
end Go.Proofs.YtjkkjpgebcnhgaaGreatDoor.rg
/- The model's l13Do, where the thing is there. -/
namespace Go.Proofs.YtjkkjpgebcnhgaaGreatDoor.rg
open Go.ChangeShapes Go.WideShapes Go.ChangeAt Go.RowKit
open Go.Deep Go.Joins
open Go.Proofs.YtjkkjpgebcnhgaaGreatDoor.ce Go.Proofs.YtjkkjpgebcnhgaaGreatDoor.ro Go.Proofs.YtjkkjpgebcnhgaaGreatDoor.cm
set_option linter.unusedVariables false

theorem l13Do_some (I : List It) (X : Int) (N B : ByteArray) (F C U : Int) (V : Int) (N2 : ByteArray) (F2 U2 : Int) (B2 : ByteArray) (C2 D2 : Int) (Q2 : Bool) (b0 lo n0 k0 : Nat) (A0 : Option Addr) (w : World) (c0 : VBlk w b0 31 [.slice A0 n0 k0, .int .i64 X]) (hlo : lo ≤ b0) (o : Own encIt w lo w.heap.size (.slice A0 n0 k0) I) (ok : StOk ⟨I, X⟩) (hc : COk ⟨V, N2, F2, U2, B2, C2, D2, Q2⟩) (hlk : lookI I N2 = some ⟨N, F, B, C, U⟩) :
    Calls Tryz.prog 35 #[.pointer (some ⟨b0, 0, none⟩), .agg #[.int .i64 V, .string N2, .int .i64 F2, .int .i64 U2, .string B2, .int .i64 C2, .int .i64 D2, .bool Q2]] w fun e w' => PostM (doK ⟨I, X⟩ ⟨V, N2, F2, U2, B2, C2, D2, Q2⟩).1 (doK ⟨I, X⟩ ⟨V, N2, F2, U2, B2, C2, D2, Q2⟩).2 b0 lo w e w' := by
  have hv0 := hc.v0
  have hv1 := hc.v1
  dsimp only at hv0 hv1
  by_cases h0 : V = 1 ∨ V = 2 ∨ V = 3
  · exact l13Do_s0 I X N B F C U V N2 F2 U2 B2 C2 D2 Q2 b0 lo n0 k0 A0 w c0 hlo o ok hc hlk h0
  by_cases h1 : V = 4 ∨ V = 5 ∨ V = 6
  · exact l13Do_s1 I X N B F C U V N2 F2 U2 B2 C2 D2 Q2 b0 lo n0 k0 A0 w c0 hlo o ok hc hlk h1
  by_cases h2 : V = 7 ∨ V = 8
  · exact l13Do_s2 I X N B F C U V N2 F2 U2 B2 C2 D2 Q2 b0 lo n0 k0 A0 w c0 hlo o ok hc hlk h2
  by_cases h3 : V = 9
  · exact l13Do_s3 I X N B F C U V N2 F2 U2 B2 C2 D2 Q2 b0 lo n0 k0 A0 w c0 hlo o ok hc hlk h3
  by_cases h4 : V = 10
  · exact l13Do_s4 I X N B F C U V N2 F2 U2 B2 C2 D2 Q2 b0 lo n0 k0 A0 w c0 hlo o ok hc hlk h4
  by_cases h5 : V = 12 ∨ V = 13
  · exact l13Do_s5 I X N B F C U V N2 F2 U2 B2 C2 D2 Q2 b0 lo n0 k0 A0 w c0 hlo o ok hc hlk h5
  by_cases h6 : V = 11
  · exact l13Do_s6 I X N B F C U V N2 F2 U2 B2 C2 D2 Q2 b0 lo n0 k0 A0 w c0 hlo o ok hc hlk h6
  omega
end Go.Proofs.YtjkkjpgebcnhgaaGreatDoor.rg
/- Contract: the model's DidBook. -/
namespace Go.Proofs.YtjkkjpgebcnhgaaGreatDoor.rg
open Go.ChangeShapes Go.WideShapes Go.ChangeAt Go.RowKit
open Go.Deep Go.Joins
open Go.Proofs.YtjkkjpgebcnhgaaGreatDoor.ce Go.Proofs.YtjkkjpgebcnhgaaGreatDoor.ro Go.Proofs.YtjkkjpgebcnhgaaGreatDoor.cm
set_option linter.unusedVariables false

theorem l13Time_any (n : Int) (y : Bool) (hy : Hid (timeB n = y)) (w : World) : Calls Tryz.prog 32 #[.int .i64 n] w fun e w' => e = .returned (.bool y) ∧ w' = w := by
  go_enter Tryz.func32, Tryz.ntmps32
  go_wp2_with (first | (go_at_call 54; refine (in_is n 0 1000000 y hy.out _).mono ?_; rintro e wq ⟨rfl, hq⟩; subst wq) | (fail))
  go_ret
  exact ⟨rfl, rfl⟩
set_option maxRecDepth 100000 in
set_option maxHeartbeats 4000000 in
theorem specDidBook_any (I : List It) (X : Int) (V : Int) (N2 : ByteArray) (F2 U2 : Int) (B2 : ByteArray) (C2 D2 : Int) (Q2 : Bool) (now : Int) (v : Value) (w : World) (r : Rd encIt w v I) (hs : SmK I) (hl : I.length ≤ 1048576) (hN2 : N2.size ≤ 1048576) (hB2 : B2.size ≤ 1048576) :
    Calls Tryz.prog 8 #[.agg #[v, .int .i64 X], .agg #[.int .i64 V, .string N2, .int .i64 F2, .int .i64 U2, .string B2, .int .i64 C2, .int .i64 D2, .bool Q2], .int .i64 now] w fun e w' => PostD (diR ⟨I, X⟩ ⟨V, N2, F2, U2, B2, C2, D2, Q2⟩ now).1 (diR ⟨I, X⟩ ⟨V, N2, F2, U2, B2, C2, D2, Q2⟩ now).2 w.heap.size w e w' := by
  obtain ⟨A0, k0, rfl⟩ := r.form
  have R : Hid (Rd encIt w (.slice A0 I.length k0) I) := r
  have HS : Hid (SmK I) := hs
  clear r hs
  obtain ⟨zs, hZS⟩ := hid_ex (storeB ⟨I, X⟩)
  obtain ⟨zt, hZT⟩ := hid_ex (timeB now)
  obtain ⟨zc, hZC⟩ := hid_ex (cmdB ⟨V, N2, F2, U2, B2, C2, D2, Q2⟩)
  cases zs with
  | false =>
    have e : (diR ⟨I, X⟩ ⟨V, N2, F2, U2, B2, C2, D2, Q2⟩ now) = (Bk.zero, rp 10) := di_no _ _ _ (by rw [hZS.out, hZT.out]; rfl)
    rw [e]
    clear e
    have hzw0 : w.heap.size ≤ w.heap.size := Nat.le_refl _
    go_enter Tryz.func8, Tryz.ntmps8
    have mk1 : Hid True := trivial
    have mk2 : Hid True := trivial
    have mk3 : Hid True := trivial
    have mk4 : Hid True := trivial
    have mk5 : Hid True := trivial
    have mk6 : Hid True := trivial
    have mk7 : Hid True := trivial
    have mk8 : Hid True := trivial
    go_wp2_with (first | (clear mk1; refine wpList_box_v rfl 31 _ rfl [.slice A0 I.length k0, .int .i64 X] rfl ?_; intro b3 w1 hb3 hwb3 hB1 c3; have hz1 : w.heap.size ≤ w1.heap.size := hB1.size; have hB := hB1; have hzw := hB.size; obtain ⟨c30, c31⟩ := cells2 c3) | (clear mk2; refine wpList_box_v rfl 37 _ rfl [.int .i64 V, .string N2, .int .i64 F2, .int .i64 U2, .string B2, .int .i64 C2, .int .i64 D2, .bool Q2] rfl ?_; intro b4 w2 hb4 hwb4 hB2 c4; have hz2 : w1.heap.size ≤ w2.heap.size := hB2.size; replace c3 := vblk_grow c3 hB2; replace hB := hB.trans (hB2.mono (by omega)); replace hzw := hB.size; clear c30 c31; obtain ⟨c30, c31⟩ := cells2 c3; obtain ⟨c40, c41, c42, c43, c44, c45, c46, c47⟩ := cellsCm c4) | (clear mk3; refine wpList_alloc_v rfl 31 rfl _ zeroBk ?_; intro b6 w3 hb6 hwb6 hB3 c6; have hz3 : w2.heap.size ≤ w3.heap.size := hB3.size; replace c3 := vblk_grow c3 hB3; replace c4 := vblk_grow c4 hB3; replace hB := hB.trans (hB3.mono (by omega)); replace hzw := hB.size; clear c30 c31; obtain ⟨c30, c31⟩ := cells2 c3; clear c40 c41 c42 c43 c44 c45 c46 c47; obtain ⟨c40, c41, c42, c43, c44, c45, c46, c47⟩ := cellsCm c4; obtain ⟨c60, c61⟩ := cells2 c6) | (clear mk4; refine wpList_alloc_v rfl 33 rfl _ zeroRp ?_; intro b7 w4 hb7 hwb7 hB4 c7; have hz4 : w3.heap.size ≤ w4.heap.size := hB4.size; replace c3 := vblk_grow c3 hB4; replace c4 := vblk_grow c4 hB4; replace c6 := vblk_grow c6 hB4; replace hB := hB.trans (hB4.mono (by omega)); replace hzw := hB.size; clear c30 c31; obtain ⟨c30, c31⟩ := cells2 c3; clear c40 c41 c42 c43 c44 c45 c46 c47; obtain ⟨c40, c41, c42, c43, c44, c45, c46, c47⟩ := cellsCm c4; clear c60 c61; obtain ⟨c60, c61⟩ := cells2 c6; obtain ⟨c70, c71, c72, c73, c74, c75⟩ := cellsRp c7) | (clear mk5; refine wpList_load_r rfl 31 _ rfl b3 0 [.slice A0 I.length k0, .int .i64 X] rfl _ Tryz.underlying31 rfl sizeBk c3.range ?_) | (clear mk6; go_at_call 20; refine (specStoreOk_any I X _ false hZS _ (R.out.grow hB) HS.out).mono ?_; rintro er w5 ⟨rfl, hB5⟩; have hz5 : w4.heap.size ≤ w5.heap.size := hB5.size; replace c3 := vblk_grow c3 hB5; replace c4 := vblk_grow c4 hB5; replace c6 := vblk_grow c6 hB5; replace c7 := vblk_grow c7 hB5; replace hB := hB.trans (hB5.mono (by omega)); replace hzw := hB.size; clear c30 c31; obtain ⟨c30, c31⟩ := cells2 c3; clear c40 c41 c42 c43 c44 c45 c46 c47; obtain ⟨c40, c41, c42, c43, c44, c45, c46, c47⟩ := cellsCm c4; clear c60 c61; obtain ⟨c60, c61⟩ := cells2 c6; clear c70 c71 c72 c73 c74 c75; obtain ⟨c70, c71, c72, c73, c74, c75⟩ := cellsRp c7) | (clear mk7; refine wpList_store_v rfl 31 _ _ rfl b6 [.slice none 0 0, .int .i64 0] rfl rfl sizeBk c6 rfl (oneBk _ _ _ _) ?_; intro w6 hO6 c6x; clear c60 c61; have hz6 : w5.heap.size ≤ w6.heap.size := (Nat.le_of_eq hO6.1.symm); have hy6 : w6.heap.size ≤ w5.heap.size := (Nat.le_of_eq hO6.1); replace c3 := vblk_only c3 hO6 (by omega); replace c4 := vblk_only c4 hO6 (by omega); replace c7 := vblk_only c7 hO6 (by omega); replace hB := hB.trans (hO6.2.2 _ (by omega)); replace hzw := hB.size; clear c30 c31; obtain ⟨c30, c31⟩ := cells2 c3; clear c40 c41 c42 c43 c44 c45 c46 c47; obtain ⟨c40, c41, c42, c43, c44, c45, c46, c47⟩ := cellsCm c4; clear c70 c71 c72 c73 c74 c75; obtain ⟨c70, c71, c72, c73, c74, c75⟩ := cellsRp c7; clear c6; have c6 := c6x; clear c6x; obtain ⟨c60, c61⟩ := cells2 c6) | (clear mk8; refine wpList_store_v rfl 33 _ _ rfl b7 [.int .i64 10, .string ⟨#[]⟩, .int .i64 0, .string ⟨#[]⟩, .int .i64 0, .int .i64 0] rfl rfl sizeRp c7 rfl (oneRp (rp 10)) ?_; intro w7 hO7 c7x; clear c70 c71 c72 c73 c74 c75; have hz7 : w6.heap.size ≤ w7.heap.size := (Nat.le_of_eq hO7.1.symm); have hy7 : w7.heap.size ≤ w6.heap.size := (Nat.le_of_eq hO7.1); replace c3 := vblk_only c3 hO7 (by omega); replace c4 := vblk_only c4 hO7 (by omega); replace c6 := vblk_only c6 hO7 (by omega); replace hB := hB.trans (hO7.2.2 _ (by omega)); replace hzw := hB.size; clear c30 c31; obtain ⟨c30, c31⟩ := cells2 c3; clear c40 c41 c42 c43 c44 c45 c46 c47; obtain ⟨c40, c41, c42, c43, c44, c45, c46, c47⟩ := cellsCm c4; clear c60 c61; obtain ⟨c60, c61⟩ := cells2 c6; clear c7; have c7 := c7x; clear c7x; obtain ⟨c70, c71, c72, c73, c74, c75⟩ := cellsRp c7) | (fail))
    exact row_cc rfl rfl rfl c6 c7 Tryz.underlying31 Tryz.underlying33 sizeBk sizeRp rfl ⟨_, rfl, own_zero _ _ _ _ _, hB⟩
  | true =>
  cases zt with
  | false =>
    have e : (diR ⟨I, X⟩ ⟨V, N2, F2, U2, B2, C2, D2, Q2⟩ now) = (Bk.zero, rp 10) := di_no _ _ _ (by rw [hZS.out, hZT.out]; rfl)
    rw [e]
    clear e
    have hzw0 : w.heap.size ≤ w.heap.size := Nat.le_refl _
    go_enter Tryz.func8, Tryz.ntmps8
    have mk1 : Hid True := trivial
    have mk2 : Hid True := trivial
    have mk3 : Hid True := trivial
    have mk4 : Hid True := trivial
    have mk5 : Hid True := trivial
    have mk6 : Hid True := trivial
    have mk7 : Hid True := trivial
    have mk8 : Hid True := trivial
    have mk9 : Hid True := trivial
    go_wp2_with (first | (clear mk1; refine wpList_box_v rfl 31 _ rfl [.slice A0 I.length k0, .int .i64 X] rfl ?_; intro b3 w1 hb3 hwb3 hB1 c3; have hz1 : w.heap.size ≤ w1.heap.size := hB1.size; have hB := hB1; have hzw := hB.size; obtain ⟨c30, c31⟩ := cells2 c3) | (clear mk2; refine wpList_box_v rfl 37 _ rfl [.int .i64 V, .string N2, .int .i64 F2, .int .i64 U2, .string B2, .int .i64 C2, .int .i64 D2, .bool Q2] rfl ?_; intro b4 w2 hb4 hwb4 hB2 c4; have hz2 : w1.heap.size ≤ w2.heap.size := hB2.size; replace c3 := vblk_grow c3 hB2; replace hB := hB.trans (hB2.mono (by omega)); replace hzw := hB.size; clear c30 c31; obtain ⟨c30, c31⟩ := cells2 c3; obtain ⟨c40, c41, c42, c43, c44, c45, c46, c47⟩ := cellsCm c4) | (clear mk3; refine wpList_alloc_v rfl 31 rfl _ zeroBk ?_; intro b6 w3 hb6 hwb6 hB3 c6; have hz3 : w2.heap.size ≤ w3.heap.size := hB3.size; replace c3 := vblk_grow c3 hB3; replace c4 := vblk_grow c4 hB3; replace hB := hB.trans (hB3.mono (by omega)); replace hzw := hB.size; clear c30 c31; obtain ⟨c30, c31⟩ := cells2 c3; clear c40 c41 c42 c43 c44 c45 c46 c47; obtain ⟨c40, c41, c42, c43, c44, c45, c46, c47⟩ := cellsCm c4; obtain ⟨c60, c61⟩ := cells2 c6) | (clear mk4; refine wpList_alloc_v rfl 33 rfl _ zeroRp ?_; intro b7 w4 hb7 hwb7 hB4 c7; have hz4 : w3.heap.size ≤ w4.heap.size := hB4.size; replace c3 := vblk_grow c3 hB4; replace c4 := vblk_grow c4 hB4; replace c6 := vblk_grow c6 hB4; replace hB := hB.trans (hB4.mono (by omega)); replace hzw := hB.size; clear c30 c31; obtain ⟨c30, c31⟩ := cells2 c3; clear c40 c41 c42 c43 c44 c45 c46 c47; obtain ⟨c40, c41, c42, c43, c44, c45, c46, c47⟩ := cellsCm c4; clear c60 c61; obtain ⟨c60, c61⟩ := cells2 c6; obtain ⟨c70, c71, c72, c73, c74, c75⟩ := cellsRp c7) | (clear mk5; refine wpList_load_r rfl 31 _ rfl b3 0 [.slice A0 I.length k0, .int .i64 X] rfl _ Tryz.underlying31 rfl sizeBk c3.range ?_) | (clear mk6; go_at_call 20; refine (specStoreOk_any I X _ true hZS _ (R.out.grow hB) HS.out).mono ?_; rintro er w5 ⟨rfl, hB5⟩; have hz5 : w4.heap.size ≤ w5.heap.size := hB5.size; replace c3 := vblk_grow c3 hB5; replace c4 := vblk_grow c4 hB5; replace c6 := vblk_grow c6 hB5; replace c7 := vblk_grow c7 hB5; replace hB := hB.trans (hB5.mono (by omega)); replace hzw := hB.size; clear c30 c31; obtain ⟨c30, c31⟩ := cells2 c3; clear c40 c41 c42 c43 c44 c45 c46 c47; obtain ⟨c40, c41, c42, c43, c44, c45, c46, c47⟩ := cellsCm c4; clear c60 c61; obtain ⟨c60, c61⟩ := cells2 c6; clear c70 c71 c72 c73 c74 c75; obtain ⟨c70, c71, c72, c73, c74, c75⟩ := cellsRp c7) | (clear mk7; go_at_call 32; refine (l13Time_any now false hZT _).mono ?_; rintro er wq ⟨rfl, hq⟩; subst wq) | (clear mk8; refine wpList_store_v rfl 31 _ _ rfl b6 [.slice none 0 0, .int .i64 0] rfl rfl sizeBk c6 rfl (oneBk _ _ _ _) ?_; intro w6 hO6 c6x; clear c60 c61; have hz6 : w5.heap.size ≤ w6.heap.size := (Nat.le_of_eq hO6.1.symm); have hy6 : w6.heap.size ≤ w5.heap.size := (Nat.le_of_eq hO6.1); replace c3 := vblk_only c3 hO6 (by omega); replace c4 := vblk_only c4 hO6 (by omega); replace c7 := vblk_only c7 hO6 (by omega); replace hB := hB.trans (hO6.2.2 _ (by omega)); replace hzw := hB.size; clear c30 c31; obtain ⟨c30, c31⟩ := cells2 c3; clear c40 c41 c42 c43 c44 c45 c46 c47; obtain ⟨c40, c41, c42, c43, c44, c45, c46, c47⟩ := cellsCm c4; clear c70 c71 c72 c73 c74 c75; obtain ⟨c70, c71, c72, c73, c74, c75⟩ := cellsRp c7; clear c6; have c6 := c6x; clear c6x; obtain ⟨c60, c61⟩ := cells2 c6) | (clear mk9; refine wpList_store_v rfl 33 _ _ rfl b7 [.int .i64 10, .string ⟨#[]⟩, .int .i64 0, .string ⟨#[]⟩, .int .i64 0, .int .i64 0] rfl rfl sizeRp c7 rfl (oneRp (rp 10)) ?_; intro w7 hO7 c7x; clear c70 c71 c72 c73 c74 c75; have hz7 : w6.heap.size ≤ w7.heap.size := (Nat.le_of_eq hO7.1.symm); have hy7 : w7.heap.size ≤ w6.heap.size := (Nat.le_of_eq hO7.1); replace c3 := vblk_only c3 hO7 (by omega); replace c4 := vblk_only c4 hO7 (by omega); replace c6 := vblk_only c6 hO7 (by omega); replace hB := hB.trans (hO7.2.2 _ (by omega)); replace hzw := hB.size; clear c30 c31; obtain ⟨c30, c31⟩ := cells2 c3; clear c40 c41 c42 c43 c44 c45 c46 c47; obtain ⟨c40, c41, c42, c43, c44, c45, c46, c47⟩ := cellsCm c4; clear c60 c61; obtain ⟨c60, c61⟩ := cells2 c6; clear c7; have c7 := c7x; clear c7x; obtain ⟨c70, c71, c72, c73, c74, c75⟩ := cellsRp c7) | (fail))
    exact row_cc rfl rfl rfl c6 c7 Tryz.underlying31 Tryz.underlying33 sizeBk sizeRp rfl ⟨_, rfl, own_zero _ _ _ _ _, hB⟩
  | true =>
  have hst : (storeB ⟨I, X⟩ && timeB now) = true := by rw [hZS.out, hZT.out]; rfl
  cases zc with
  | false =>
    have e : (diR ⟨I, X⟩ ⟨V, N2, F2, U2, B2, C2, D2, Q2⟩ now) = (⟨I, X⟩, rp 10) := di_bad _ _ _ hst hZC.out
    rw [e]
    clear e hst
    have hzw0 : w.heap.size ≤ w.heap.size := Nat.le_refl _
    go_enter Tryz.func8, Tryz.ntmps8
    have mk1 : Hid True := trivial
    have mk2 : Hid True := trivial
    have mk3 : Hid True := trivial
    have mk4 : Hid True := trivial
    have mk5 : Hid True := trivial
    have mk6 : Hid True := trivial
    have mk7 : Hid True := trivial
    have mk8 : Hid True := trivial
    have mk9 : Hid True := trivial
    have mk10 : Hid True := trivial
    have mk11 : Hid True := trivial
    have mk12 : Hid True := trivial
    have mk13 : Hid True := trivial
    have mk14 : Hid True := trivial
    have mk15 : Hid True := trivial
    have mk16 : Hid True := trivial
    go_wp2_with (first | (clear mk1; refine wpList_box_v rfl 31 _ rfl [.slice A0 I.length k0, .int .i64 X] rfl ?_; intro b3 w1 hb3 hwb3 hB1 c3; have hz1 : w.heap.size ≤ w1.heap.size := hB1.size; have hB := hB1; have hzw := hB.size; obtain ⟨c30, c31⟩ := cells2 c3) | (clear mk2; refine wpList_box_v rfl 37 _ rfl [.int .i64 V, .string N2, .int .i64 F2, .int .i64 U2, .string B2, .int .i64 C2, .int .i64 D2, .bool Q2] rfl ?_; intro b4 w2 hb4 hwb4 hB2 c4; have hz2 : w1.heap.size ≤ w2.heap.size := hB2.size; replace c3 := vblk_grow c3 hB2; replace hB := hB.trans (hB2.mono (by omega)); replace hzw := hB.size; clear c30 c31; obtain ⟨c30, c31⟩ := cells2 c3; obtain ⟨c40, c41, c42, c43, c44, c45, c46, c47⟩ := cellsCm c4) | (clear mk3; refine wpList_alloc_v rfl 31 rfl _ zeroBk ?_; intro b6 w3 hb6 hwb6 hB3 c6; have hz3 : w2.heap.size ≤ w3.heap.size := hB3.size; replace c3 := vblk_grow c3 hB3; replace c4 := vblk_grow c4 hB3; replace hB := hB.trans (hB3.mono (by omega)); replace hzw := hB.size; clear c30 c31; obtain ⟨c30, c31⟩ := cells2 c3; clear c40 c41 c42 c43 c44 c45 c46 c47; obtain ⟨c40, c41, c42, c43, c44, c45, c46, c47⟩ := cellsCm c4; obtain ⟨c60, c61⟩ := cells2 c6) | (clear mk4; refine wpList_alloc_v rfl 33 rfl _ zeroRp ?_; intro b7 w4 hb7 hwb7 hB4 c7; have hz4 : w3.heap.size ≤ w4.heap.size := hB4.size; replace c3 := vblk_grow c3 hB4; replace c4 := vblk_grow c4 hB4; replace c6 := vblk_grow c6 hB4; replace hB := hB.trans (hB4.mono (by omega)); replace hzw := hB.size; clear c30 c31; obtain ⟨c30, c31⟩ := cells2 c3; clear c40 c41 c42 c43 c44 c45 c46 c47; obtain ⟨c40, c41, c42, c43, c44, c45, c46, c47⟩ := cellsCm c4; clear c60 c61; obtain ⟨c60, c61⟩ := cells2 c6; obtain ⟨c70, c71, c72, c73, c74, c75⟩ := cellsRp c7) | (clear mk5; refine wpList_load_r rfl 31 _ rfl b3 0 [.slice A0 I.length k0, .int .i64 X] rfl _ Tryz.underlying31 rfl sizeBk c3.range ?_) | (clear mk6; go_at_call 20; refine (specStoreOk_any I X _ true hZS _ (R.out.grow hB) HS.out).mono ?_; rintro er w5 ⟨rfl, hB5⟩; have hz5 : w4.heap.size ≤ w5.heap.size := hB5.size; replace c3 := vblk_grow c3 hB5; replace c4 := vblk_grow c4 hB5; replace c6 := vblk_grow c6 hB5; replace c7 := vblk_grow c7 hB5; replace hB := hB.trans (hB5.mono (by omega)); replace hzw := hB.size; clear c30 c31; obtain ⟨c30, c31⟩ := cells2 c3; clear c40 c41 c42 c43 c44 c45 c46 c47; obtain ⟨c40, c41, c42, c43, c44, c45, c46, c47⟩ := cellsCm c4; clear c60 c61; obtain ⟨c60, c61⟩ := cells2 c6; clear c70 c71 c72 c73 c74 c75; obtain ⟨c70, c71, c72, c73, c74, c75⟩ := cellsRp c7) | (clear mk7; go_at_call 32; refine (l13Time_any now true hZT _).mono ?_; rintro er wq ⟨rfl, hq⟩; subst wq) | (clear mk8; refine wpList_load_r rfl 31 _ rfl b3 0 [.slice A0 I.length k0, .int .i64 X] rfl _ Tryz.underlying31 rfl sizeBk c3.range ?_) | (clear mk9; go_at_call 33; refine (l13Copy_any I X _ _ (R.out.grow hB) hl).mono ?_; rintro er w6 ⟨v1, rfl, o, hB6⟩; have hz6 : w5.heap.size ≤ w6.heap.size := hB6.size; replace c3 := vblk_grow c3 hB6; replace c4 := vblk_grow c4 hB6; replace c6 := vblk_grow c6 hB6; replace c7 := vblk_grow c7 hB6; replace hB := hB.trans (hB6.mono (by omega)); replace hzw := hB.size; clear c30 c31; obtain ⟨c30, c31⟩ := cells2 c3; clear c40 c41 c42 c43 c44 c45 c46 c47; obtain ⟨c40, c41, c42, c43, c44, c45, c46, c47⟩ := cellsCm c4; clear c60 c61; obtain ⟨c60, c61⟩ := cells2 c6; clear c70 c71 c72 c73 c74 c75; obtain ⟨c70, c71, c72, c73, c74, c75⟩ := cellsRp c7; obtain ⟨A1, n1, k1, rfl⟩ := o.slice) | (clear mk10; refine wpList_alloc_v rfl 31 rfl _ zeroBk ?_; intro b8 w7 hb8 hwb8 hB7 c8; have hz7 : w6.heap.size ≤ w7.heap.size := hB7.size; replace o := o.grow hB7; replace c3 := vblk_grow c3 hB7; replace c4 := vblk_grow c4 hB7; replace c6 := vblk_grow c6 hB7; replace c7 := vblk_grow c7 hB7; replace hB := hB.trans (hB7.mono (by omega)); replace hzw := hB.size; clear c30 c31; obtain ⟨c30, c31⟩ := cells2 c3; clear c40 c41 c42 c43 c44 c45 c46 c47; obtain ⟨c40, c41, c42, c43, c44, c45, c46, c47⟩ := cellsCm c4; clear c60 c61; obtain ⟨c60, c61⟩ := cells2 c6; clear c70 c71 c72 c73 c74 c75; obtain ⟨c70, c71, c72, c73, c74, c75⟩ := cellsRp c7; obtain ⟨c80, c81⟩ := cells2 c8) | (clear mk11; refine wpList_store_v rfl 31 _ _ rfl b8 [.slice A1 n1 k1, .int .i64 X] rfl rfl sizeBk c8 rfl (oneBk _ _ _ _) ?_; intro w8 hO8 c8x; clear c80 c81; have hz8 : w7.heap.size ≤ w8.heap.size := (Nat.le_of_eq hO8.1.symm); have hy8 : w8.heap.size ≤ w7.heap.size := (Nat.le_of_eq hO8.1); replace o := o.only hO8 c8 (by decide); replace c3 := vblk_only c3 hO8 (by omega); replace c4 := vblk_only c4 hO8 (by omega); replace c6 := vblk_only c6 hO8 (by omega); replace c7 := vblk_only c7 hO8 (by omega); replace hB := hB.trans (hO8.2.2 _ (by omega)); replace hzw := hB.size; clear c30 c31; obtain ⟨c30, c31⟩ := cells2 c3; clear c40 c41 c42 c43 c44 c45 c46 c47; obtain ⟨c40, c41, c42, c43, c44, c45, c46, c47⟩ := cellsCm c4; clear c60 c61; obtain ⟨c60, c61⟩ := cells2 c6; clear c70 c71 c72 c73 c74 c75; obtain ⟨c70, c71, c72, c73, c74, c75⟩ := cellsRp c7; clear c8; have c8 := c8x; clear c8x; obtain ⟨c80, c81⟩ := cells2 c8) | (clear mk12; refine wpList_load_r rfl 37 _ rfl b4 0 [.int .i64 V, .string N2, .int .i64 F2, .int .i64 U2, .string B2, .int .i64 C2, .int .i64 D2, .bool Q2] rfl _ Tryz.underlying37 rfl sizeCm c4.range ?_) | (clear mk13; go_at_call 23; refine (specCmdOk_any V N2 B2 F2 U2 C2 D2 Q2 false hZC (by omega) (by omega) _).mono ?_; rintro er w9 ⟨rfl, hB9⟩; have hz9 : w8.heap.size ≤ w9.heap.size := hB9.size; replace o := o.grow hB9; replace c3 := vblk_grow c3 hB9; replace c4 := vblk_grow c4 hB9; replace c6 := vblk_grow c6 hB9; replace c7 := vblk_grow c7 hB9; replace c8 := vblk_grow c8 hB9; replace hB := hB.trans (hB9.mono (by omega)); replace hzw := hB.size; clear c30 c31; obtain ⟨c30, c31⟩ := cells2 c3; clear c40 c41 c42 c43 c44 c45 c46 c47; obtain ⟨c40, c41, c42, c43, c44, c45, c46, c47⟩ := cellsCm c4; clear c60 c61; obtain ⟨c60, c61⟩ := cells2 c6; clear c70 c71 c72 c73 c74 c75; obtain ⟨c70, c71, c72, c73, c74, c75⟩ := cellsRp c7; clear c80 c81; obtain ⟨c80, c81⟩ := cells2 c8) | (clear mk14; refine wpList_load_r rfl 31 _ rfl b8 0 [.slice A1 n1 k1, .int .i64 X] rfl _ Tryz.underlying31 rfl sizeBk c8.range ?_) | (clear mk15; refine wpList_store_v rfl 31 _ _ rfl b6 [.slice A1 n1 k1, .int .i64 X] rfl rfl sizeBk c6 rfl (oneBk _ _ _ _) ?_; intro w10 hO10 c6x; clear c60 c61; have hz10 : w9.heap.size ≤ w10.heap.size := (Nat.le_of_eq hO10.1.symm); have hy10 : w10.heap.size ≤ w9.heap.size := (Nat.le_of_eq hO10.1); replace o := o.only hO10 c6 (by decide); replace c3 := vblk_only c3 hO10 (by omega); replace c4 := vblk_only c4 hO10 (by omega); replace c7 := vblk_only c7 hO10 (by omega); replace c8 := vblk_only c8 hO10 (by omega); replace hB := hB.trans (hO10.2.2 _ (by omega)); replace hzw := hB.size; clear c30 c31; obtain ⟨c30, c31⟩ := cells2 c3; clear c40 c41 c42 c43 c44 c45 c46 c47; obtain ⟨c40, c41, c42, c43, c44, c45, c46, c47⟩ := cellsCm c4; clear c70 c71 c72 c73 c74 c75; obtain ⟨c70, c71, c72, c73, c74, c75⟩ := cellsRp c7; clear c80 c81; obtain ⟨c80, c81⟩ := cells2 c8; clear c6; have c6 := c6x; clear c6x; obtain ⟨c60, c61⟩ := cells2 c6) | (clear mk16; refine wpList_store_v rfl 33 _ _ rfl b7 [.int .i64 10, .string ⟨#[]⟩, .int .i64 0, .string ⟨#[]⟩, .int .i64 0, .int .i64 0] rfl rfl sizeRp c7 rfl (oneRp (rp 10)) ?_; intro w11 hO11 c7x; clear c70 c71 c72 c73 c74 c75; have hz11 : w10.heap.size ≤ w11.heap.size := (Nat.le_of_eq hO11.1.symm); have hy11 : w11.heap.size ≤ w10.heap.size := (Nat.le_of_eq hO11.1); replace o := o.only hO11 c7 (by decide); replace c3 := vblk_only c3 hO11 (by omega); replace c4 := vblk_only c4 hO11 (by omega); replace c8 := vblk_only c8 hO11 (by omega); replace c6 := vblk_only c6 hO11 (by omega); replace hB := hB.trans (hO11.2.2 _ (by omega)); replace hzw := hB.size; clear c30 c31; obtain ⟨c30, c31⟩ := cells2 c3; clear c40 c41 c42 c43 c44 c45 c46 c47; obtain ⟨c40, c41, c42, c43, c44, c45, c46, c47⟩ := cellsCm c4; clear c80 c81; obtain ⟨c80, c81⟩ := cells2 c8; clear c60 c61; obtain ⟨c60, c61⟩ := cells2 c6; clear c7; have c7 := c7x; clear c7x; obtain ⟨c70, c71, c72, c73, c74, c75⟩ := cellsRp c7) | (fail))
    exact row_cc rfl rfl rfl c6 c7 Tryz.underlying31 Tryz.underlying33 sizeBk sizeRp rfl ⟨_, rfl, (o.wide (by omega) (by omega)).top, hB⟩
  | true =>
    have e : (diR ⟨I, X⟩ ⟨V, N2, F2, U2, B2, C2, D2, Q2⟩ now) = doK ⟨ageL I now, X⟩ ⟨V, N2, F2, U2, B2, C2, D2, Q2⟩ := di_yes _ _ _ hst hZC.out
    have ok : StOk ⟨ageL I now, X⟩ := ⟨age_ok (storeB_iff.1 hZS.out).bk now, (storeB_iff.1 hZS.out).x0, (storeB_iff.1 hZS.out).x1⟩
    have hc : COk ⟨V, N2, F2, U2, B2, C2, D2, Q2⟩ := cmdB_iff.1 hZC.out
    rw [e]
    clear e hst
    obtain ⟨A, hA⟩ := hid_ex (ageL I now)
    rw [hA.out] at ok ⊢
    obtain ⟨⟨⟨J, Y⟩, ⟨r1, r2, r3, r4, r5, r6⟩⟩, hR⟩ := hid_ex (doK ⟨A, X⟩ ⟨V, N2, F2, U2, B2, C2, D2, Q2⟩)
    have HD : Hid (∀ (b0 n0 k0 : Nat) (A0 : Option Addr) (w' : World), VBlk w' b0 31 [.slice A0 n0 k0, .int .i64 X] → w.heap.size ≤ b0 → Own encIt w' w.heap.size w'.heap.size (.slice A0 n0 k0) A → Calls Tryz.prog 35 #[.pointer (some ⟨b0, 0, none⟩), .agg #[.int .i64 V, .string N2, .int .i64 F2, .int .i64 U2, .string B2, .int .i64 C2, .int .i64 D2, .bool Q2]] w' fun e w'' => PostM ⟨J, Y⟩ ⟨r1, r2, r3, r4, r5, r6⟩ b0 w.heap.size w' e w'') := by
      intro b0 n0 k0 A0 w' c hlo o
      cases hlk : lookI A N2 with
      | none =>
        have := l13Do_none A X V N2 F2 U2 B2 C2 D2 Q2 b0 w.heap.size n0 k0 A0 w' c hlo o ok hc hlk
        rw [hR.out] at this
        exact this
      | some x =>
        obtain ⟨N, F, B, C, U⟩ := x
        have := l13Do_some A X N B F C U V N2 F2 U2 B2 C2 D2 Q2 b0 w.heap.size n0 k0 A0 w' c hlo o ok hc hlk
        rw [hR.out] at this
        exact this
    unfold PostD
    rw [hR.out]
    have HD2 : Hid _ := HD.out
    unfold PostM at HD2
    dsimp only [csRp] at HD2 ⊢
    clear HD ok hc hR
    have hzw0 : w.heap.size ≤ w.heap.size := Nat.le_refl _
    go_enter Tryz.func8, Tryz.ntmps8
    have mk1 : Hid True := trivial
    have mk2 : Hid True := trivial
    have mk3 : Hid True := trivial
    have mk4 : Hid True := trivial
    have mk5 : Hid True := trivial
    have mk6 : Hid True := trivial
    have mk7 : Hid True := trivial
    have mk8 : Hid True := trivial
    have mk9 : Hid True := trivial
    have mk10 : Hid True := trivial
    have mk11 : Hid True := trivial
    have mk12 : Hid True := trivial
    have mk13 : Hid True := trivial
    have mk14 : Hid True := trivial
    have mk15 : Hid True := trivial
    have mk16 : Hid True := trivial
    have mk17 : Hid True := trivial
    have mk18 : Hid True := trivial
    go_upto_region 8 with (first | (clear mk1; refine wpList_box_v rfl 31 _ rfl [.slice A0 I.length k0, .int .i64 X] rfl ?_; intro b3 w1 hb3 hwb3 hB1 c3; have hz1 : w.heap.size ≤ w1.heap.size := hB1.size; have hB := hB1; have hzw := hB.size; obtain ⟨c30, c31⟩ := cells2 c3) | (clear mk2; refine wpList_box_v rfl 37 _ rfl [.int .i64 V, .string N2, .int .i64 F2, .int .i64 U2, .string B2, .int .i64 C2, .int .i64 D2, .bool Q2] rfl ?_; intro b4 w2 hb4 hwb4 hB2 c4; have hz2 : w1.heap.size ≤ w2.heap.size := hB2.size; replace c3 := vblk_grow c3 hB2; replace hB := hB.trans (hB2.mono (by omega)); replace hzw := hB.size; clear c30 c31; obtain ⟨c30, c31⟩ := cells2 c3; obtain ⟨c40, c41, c42, c43, c44, c45, c46, c47⟩ := cellsCm c4) | (clear mk3; refine wpList_alloc_v rfl 31 rfl _ zeroBk ?_; intro b6 w3 hb6 hwb6 hB3 c6; have hz3 : w2.heap.size ≤ w3.heap.size := hB3.size; replace c3 := vblk_grow c3 hB3; replace c4 := vblk_grow c4 hB3; replace hB := hB.trans (hB3.mono (by omega)); replace hzw := hB.size; clear c30 c31; obtain ⟨c30, c31⟩ := cells2 c3; clear c40 c41 c42 c43 c44 c45 c46 c47; obtain ⟨c40, c41, c42, c43, c44, c45, c46, c47⟩ := cellsCm c4; obtain ⟨c60, c61⟩ := cells2 c6) | (clear mk4; refine wpList_alloc_v rfl 33 rfl _ zeroRp ?_; intro b7 w4 hb7 hwb7 hB4 c7; have hz4 : w3.heap.size ≤ w4.heap.size := hB4.size; replace c3 := vblk_grow c3 hB4; replace c4 := vblk_grow c4 hB4; replace c6 := vblk_grow c6 hB4; replace hB := hB.trans (hB4.mono (by omega)); replace hzw := hB.size; clear c30 c31; obtain ⟨c30, c31⟩ := cells2 c3; clear c40 c41 c42 c43 c44 c45 c46 c47; obtain ⟨c40, c41, c42, c43, c44, c45, c46, c47⟩ := cellsCm c4; clear c60 c61; obtain ⟨c60, c61⟩ := cells2 c6; obtain ⟨c70, c71, c72, c73, c74, c75⟩ := cellsRp c7) | (clear mk5; refine wpList_load_r rfl 31 _ rfl b3 0 [.slice A0 I.length k0, .int .i64 X] rfl _ Tryz.underlying31 rfl sizeBk c3.range ?_) | (clear mk6; go_at_call 20; refine (specStoreOk_any I X _ true hZS _ (R.out.grow hB) HS.out).mono ?_; rintro er w5 ⟨rfl, hB5⟩; have hz5 : w4.heap.size ≤ w5.heap.size := hB5.size; replace c3 := vblk_grow c3 hB5; replace c4 := vblk_grow c4 hB5; replace c6 := vblk_grow c6 hB5; replace c7 := vblk_grow c7 hB5; replace hB := hB.trans (hB5.mono (by omega)); replace hzw := hB.size; clear c30 c31; obtain ⟨c30, c31⟩ := cells2 c3; clear c40 c41 c42 c43 c44 c45 c46 c47; obtain ⟨c40, c41, c42, c43, c44, c45, c46, c47⟩ := cellsCm c4; clear c60 c61; obtain ⟨c60, c61⟩ := cells2 c6; clear c70 c71 c72 c73 c74 c75; obtain ⟨c70, c71, c72, c73, c74, c75⟩ := cellsRp c7) | (clear mk7; go_at_call 32; refine (l13Time_any now true hZT _).mono ?_; rintro er wq ⟨rfl, hq⟩; subst wq) | (clear mk8; refine wpList_load_r rfl 31 _ rfl b3 0 [.slice A0 I.length k0, .int .i64 X] rfl _ Tryz.underlying31 rfl sizeBk c3.range ?_) | (clear mk9; go_at_call 33; refine (l13Copy_any I X _ _ (R.out.grow hB) hl).mono ?_; rintro er w6 ⟨v1, rfl, o, hB6⟩; have hz6 : w5.heap.size ≤ w6.heap.size := hB6.size; replace c3 := vblk_grow c3 hB6; replace c4 := vblk_grow c4 hB6; replace c6 := vblk_grow c6 hB6; replace c7 := vblk_grow c7 hB6; replace hB := hB.trans (hB6.mono (by omega)); replace hzw := hB.size; clear c30 c31; obtain ⟨c30, c31⟩ := cells2 c3; clear c40 c41 c42 c43 c44 c45 c46 c47; obtain ⟨c40, c41, c42, c43, c44, c45, c46, c47⟩ := cellsCm c4; clear c60 c61; obtain ⟨c60, c61⟩ := cells2 c6; clear c70 c71 c72 c73 c74 c75; obtain ⟨c70, c71, c72, c73, c74, c75⟩ := cellsRp c7; obtain ⟨A1, n1, k1, rfl⟩ := o.slice) | (clear mk10; refine wpList_alloc_v rfl 31 rfl _ zeroBk ?_; intro b8 w7 hb8 hwb8 hB7 c8; have hz7 : w6.heap.size ≤ w7.heap.size := hB7.size; replace o := o.grow hB7; replace c3 := vblk_grow c3 hB7; replace c4 := vblk_grow c4 hB7; replace c6 := vblk_grow c6 hB7; replace c7 := vblk_grow c7 hB7; replace hB := hB.trans (hB7.mono (by omega)); replace hzw := hB.size; clear c30 c31; obtain ⟨c30, c31⟩ := cells2 c3; clear c40 c41 c42 c43 c44 c45 c46 c47; obtain ⟨c40, c41, c42, c43, c44, c45, c46, c47⟩ := cellsCm c4; clear c60 c61; obtain ⟨c60, c61⟩ := cells2 c6; clear c70 c71 c72 c73 c74 c75; obtain ⟨c70, c71, c72, c73, c74, c75⟩ := cellsRp c7; obtain ⟨c80, c81⟩ := cells2 c8) | (clear mk11; refine wpList_store_v rfl 31 _ _ rfl b8 [.slice A1 n1 k1, .int .i64 X] rfl rfl sizeBk c8 rfl (oneBk _ _ _ _) ?_; intro w8 hO8 c8x; clear c80 c81; have hz8 : w7.heap.size ≤ w8.heap.size := (Nat.le_of_eq hO8.1.symm); have hy8 : w8.heap.size ≤ w7.heap.size := (Nat.le_of_eq hO8.1); replace o := o.only hO8 c8 (by decide); replace c3 := vblk_only c3 hO8 (by omega); replace c4 := vblk_only c4 hO8 (by omega); replace c6 := vblk_only c6 hO8 (by omega); replace c7 := vblk_only c7 hO8 (by omega); replace hB := hB.trans (hO8.2.2 _ (by omega)); replace hzw := hB.size; clear c30 c31; obtain ⟨c30, c31⟩ := cells2 c3; clear c40 c41 c42 c43 c44 c45 c46 c47; obtain ⟨c40, c41, c42, c43, c44, c45, c46, c47⟩ := cellsCm c4; clear c60 c61; obtain ⟨c60, c61⟩ := cells2 c6; clear c70 c71 c72 c73 c74 c75; obtain ⟨c70, c71, c72, c73, c74, c75⟩ := cellsRp c7; clear c8; have c8 := c8x; clear c8x; obtain ⟨c80, c81⟩ := cells2 c8) | (clear mk12; refine wpList_load_r rfl 37 _ rfl b4 0 [.int .i64 V, .string N2, .int .i64 F2, .int .i64 U2, .string B2, .int .i64 C2, .int .i64 D2, .bool Q2] rfl _ Tryz.underlying37 rfl sizeCm c4.range ?_) | (clear mk13; go_at_call 23; refine (specCmdOk_any V N2 B2 F2 U2 C2 D2 Q2 true hZC (by omega) (by omega) _).mono ?_; rintro er w9 ⟨rfl, hB9⟩; have hz9 : w8.heap.size ≤ w9.heap.size := hB9.size; replace o := o.grow hB9; replace c3 := vblk_grow c3 hB9; replace c4 := vblk_grow c4 hB9; replace c6 := vblk_grow c6 hB9; replace c7 := vblk_grow c7 hB9; replace c8 := vblk_grow c8 hB9; replace hB := hB.trans (hB9.mono (by omega)); replace hzw := hB.size; clear c30 c31; obtain ⟨c30, c31⟩ := cells2 c3; clear c40 c41 c42 c43 c44 c45 c46 c47; obtain ⟨c40, c41, c42, c43, c44, c45, c46, c47⟩ := cellsCm c4; clear c60 c61; obtain ⟨c60, c61⟩ := cells2 c6; clear c70 c71 c72 c73 c74 c75; obtain ⟨c70, c71, c72, c73, c74, c75⟩ := cellsRp c7; clear c80 c81; obtain ⟨c80, c81⟩ := cells2 c8) | (clear mk14; go_at_call 34; refine (l13Age_any b8 I X now _ _ c8 o.rd hl).mono ?_; rintro er w10 ⟨vg, rfl, v2, c8n, o2, -, hQ10⟩; rw [hA.out] at o2; obtain ⟨A2, n2, k2, rfl⟩ := o2.slice; have hz10 : w9.heap.size ≤ w10.heap.size := hQ10.size; replace c3 := hQ10.vblk c3 (by omega); replace c4 := hQ10.vblk c4 (by omega); replace c6 := hQ10.vblk c6 (by omega); replace c7 := hQ10.vblk c7 (by omega); replace hB := hB.trans (hQ10.low _ (by omega) (by omega)); clear c8 c80 c81; have c8 := c8n; clear c8n; clear c30 c31; obtain ⟨c30, c31⟩ := cells2 c3; clear c40 c41 c42 c43 c44 c45 c46 c47; obtain ⟨c40, c41, c42, c43, c44, c45, c46, c47⟩ := cellsCm c4; clear c60 c61; obtain ⟨c60, c61⟩ := cells2 c6; clear c70 c71 c72 c73 c74 c75; obtain ⟨c70, c71, c72, c73, c74, c75⟩ := cellsRp c7; obtain ⟨c80, c81⟩ := cells2 c8; clear o) | (clear mk15; refine wpList_load_r rfl 37 _ rfl b4 0 [.int .i64 V, .string N2, .int .i64 F2, .int .i64 U2, .string B2, .int .i64 C2, .int .i64 D2, .bool Q2] rfl _ Tryz.underlying37 rfl sizeCm c4.range ?_) | (clear mk16; go_at_call 35; refine (HD2.out b8 n2 k2 A2 _ c8 (by omega) (o2.wide (by omega) (by omega))).mono ?_; rintro er w11 ⟨rfl, A3, n3, k3, c8n, o3, hQ11⟩; have hz11 : w10.heap.size ≤ w11.heap.size := hQ11.size; replace c3 := hQ11.vblk c3 (by omega) (by decide); replace c4 := hQ11.vblk c4 (by omega) (by decide); replace c6 := hQ11.vblk c6 (by omega) (by decide); replace c7 := hQ11.vblk c7 (by omega) (by decide); replace hB := hB.trans (hQ11.low _ (by omega) (Nat.le_refl _) (by omega)); clear c8 c80 c81; have c8 := c8n; clear c8n; clear c30 c31; obtain ⟨c30, c31⟩ := cells2 c3; clear c40 c41 c42 c43 c44 c45 c46 c47; obtain ⟨c40, c41, c42, c43, c44, c45, c46, c47⟩ := cellsCm c4; clear c60 c61; obtain ⟨c60, c61⟩ := cells2 c6; clear c70 c71 c72 c73 c74 c75; obtain ⟨c70, c71, c72, c73, c74, c75⟩ := cellsRp c7; obtain ⟨c80, c81⟩ := cells2 c8; clear o2) | (clear mk17; refine wpList_alloc_v rfl 33 rfl _ zeroRp ?_; intro b9 w12 hb9 hwb9 hB12 c9; have hz12 : w11.heap.size ≤ w12.heap.size := hB12.size; replace o3 := o3.grow hB12; replace c3 := vblk_grow c3 hB12; replace c4 := vblk_grow c4 hB12; replace c6 := vblk_grow c6 hB12; replace c7 := vblk_grow c7 hB12; replace c8 := vblk_grow c8 hB12; replace hB := hB.trans (hB12.mono (by omega)); replace hzw := hB.size; clear c30 c31; obtain ⟨c30, c31⟩ := cells2 c3; clear c40 c41 c42 c43 c44 c45 c46 c47; obtain ⟨c40, c41, c42, c43, c44, c45, c46, c47⟩ := cellsCm c4; clear c60 c61; obtain ⟨c60, c61⟩ := cells2 c6; clear c70 c71 c72 c73 c74 c75; obtain ⟨c70, c71, c72, c73, c74, c75⟩ := cellsRp c7; clear c80 c81; obtain ⟨c80, c81⟩ := cells2 c8; obtain ⟨c90, c91, c92, c93, c94, c95⟩ := cellsRp c9) | (clear mk18; refine wpList_store_v rfl 33 _ _ rfl b9 [.int .i64 r1, .string r2, .int .i64 r3, .string r4, .int .i64 r5, .int .i64 r6] rfl rfl sizeRp c9 rfl (oneRp ⟨r1, r2, r3, r4, r5, r6⟩) ?_; intro w13 hO13 c9x; clear c90 c91 c92 c93 c94 c95; have hz13 : w12.heap.size ≤ w13.heap.size := (Nat.le_of_eq hO13.1.symm); have hy13 : w13.heap.size ≤ w12.heap.size := (Nat.le_of_eq hO13.1); replace o3 := o3.only hO13 c9 (by decide); replace c3 := vblk_only c3 hO13 (by omega); replace c4 := vblk_only c4 hO13 (by omega); replace c6 := vblk_only c6 hO13 (by omega); replace c7 := vblk_only c7 hO13 (by omega); replace c8 := vblk_only c8 hO13 (by omega); replace hB := hB.trans (hO13.2.2 _ (by omega)); replace hzw := hB.size; clear c30 c31; obtain ⟨c30, c31⟩ := cells2 c3; clear c40 c41 c42 c43 c44 c45 c46 c47; obtain ⟨c40, c41, c42, c43, c44, c45, c46, c47⟩ := cellsCm c4; clear c60 c61; obtain ⟨c60, c61⟩ := cells2 c6; clear c70 c71 c72 c73 c74 c75; obtain ⟨c70, c71, c72, c73, c74, c75⟩ := cellsRp c7; clear c80 c81; obtain ⟨c80, c81⟩ := cells2 c8; clear c9; have c9 := c9x; clear c9x; obtain ⟨c90, c91, c92, c93, c94, c95⟩ := cellsRp c9) | (fail))
    have hBd : Below w13.heap.size w13 w13.drew := (Below.refl _ _).drew
    have hzd : w13.drew.heap.size ≤ w13.heap.size := Nat.le_refl _
    have hzd2 : w13.heap.size ≤ w13.drew.heap.size := Nat.le_refl _
    replace o3 := o3.grow hBd
    replace c3 := vblk_grow c3 hBd
    clear c30 c31
    obtain ⟨c30, c31⟩ := cells2 c3
    replace c4 := vblk_grow c4 hBd
    clear c40 c41 c42 c43 c44 c45 c46 c47
    obtain ⟨c40, c41, c42, c43, c44, c45, c46, c47⟩ := cellsCm c4
    replace c6 := vblk_grow c6 hBd
    clear c60 c61
    obtain ⟨c60, c61⟩ := cells2 c6
    replace c7 := vblk_grow c7 hBd
    clear c70 c71 c72 c73 c74 c75
    obtain ⟨c70, c71, c72, c73, c74, c75⟩ := cellsRp c7
    replace c8 := vblk_grow c8 hBd
    clear c80 c81
    obtain ⟨c80, c81⟩ := cells2 c8
    replace c9 := vblk_grow c9 hBd
    clear c90 c91 c92 c93 c94 c95
    obtain ⟨c90, c91, c92, c93, c94, c95⟩ := cellsRp c9
    replace hB := hB.trans (hBd.mono (by omega))
    replace hzw := hB.size
    (try simp only [Act.put])
    (try simp only [List.setIfInBounds_toArray, List.set_cons_zero, List.set_cons_succ])
    clear c30 c31
    clear c40 c41 c42 c43 c44 c45 c46 c47
    clear c60 c61
    clear c70 c71 c72 c73 c74 c75
    clear c80 c81
    clear c90 c91 c92 c93 c94 c95
    refine wp_region_held_drew (S := fun w' => w'.cell? ⟨b8, 0, none⟩ = some (.slice A3 n3 k3) ∧ w'.cell? ⟨b8, 1, none⟩ = some (.int .i64 Y) ∧ w'.cell? ⟨b9, 0, none⟩ = some (.int .i64 r1) ∧ w'.cell? ⟨b9, 1, none⟩ = some (.string r2) ∧ w'.cell? ⟨b9, 2, none⟩ = some (.int .i64 r3) ∧ w'.cell? ⟨b9, 3, none⟩ = some (.string r4) ∧ w'.cell? ⟨b9, 4, none⟩ = some (.int .i64 r5) ∧ w'.cell? ⟨b9, 5, none⟩ = some (.int .i64 r6)) (by kernel_rfl) (⟨(cells2 c8).1, (cells2 c8).2, cellsRp c9⟩) (fun hHeld => ?_)
    refine wpAnyH_take (i := 0) (oi := { dst := some 31, op := Op.load 31 (Operand.tmp 8), type := 31, pos := "l13_store.go:158", after := #[], guard := none }) (v := ?_) rfl (by kernel_rfl) (by kernel_rfl) (by kernel_rfl) (fun _ _ _ h => h) (Or.inl ⟨by rfl, ?_⟩) (by assumption) ?_
    rotate_left 1
    · intro w' hSw; (try dsimp only at hSw); go_simp; (try with_reducible rfl)
    (try simp only [Act.put, List.setIfInBounds_toArray, List.set_cons_zero, List.set_cons_succ])
    refine wpAnyH_take (i := 1) (oi := { dst := some 32, op := Op.load 33 (Operand.tmp 9), type := 33, pos := "l13_store.go:158", after := #[{ on := 2, ground := Ground.gcOnly Departure.lateStores }], guard := none }) (v := ?_) rfl (by kernel_rfl) (by kernel_rfl) (by kernel_rfl) (fun _ _ _ h => h) (Or.inl ⟨by rfl, ?_⟩) (by assumption) ?_
    rotate_left 1
    · intro w' hSw; (try dsimp only at hSw); go_simp; (try with_reducible rfl)
    (try simp only [Act.put, List.setIfInBounds_toArray, List.set_cons_zero, List.set_cons_succ])
    refine wpAnyH_ready (rs := [2]) (by kernel_rfl) (by simp) ?_
    refine AllReadyH.cons (o := { dst := none, op := Op.store 31 (Operand.tmp 6) (Operand.tmp 31), type := 0, pos := "l13_store.go:158", after := #[{ on := 0, ground := Ground.data }, { on := 0, ground := Ground.phase }, { on := 1, ground := Ground.textOnly Departure.lateStores }], guard := none }) rfl (fun KC hKC => ?_) AllReadyH.nil
    refine step_store_v rfl 31 _ _ rfl b6 [.slice A3 n3 k3, .int .i64 Y] rfl rfl sizeBk c6 rfl (oneBk _ _ _ _) ?_
    intro wr2 hO2r c6x
    have hz2r : w13.drew.heap.size ≤ wr2.heap.size := Nat.le_of_eq hO2r.1.symm
    have hy2r : wr2.heap.size ≤ w13.drew.heap.size := Nat.le_of_eq hO2r.1
    (try replace o3 := o3.only hO2r c6 (by decide))
    replace c3 := vblk_only c3 hO2r (by omega)
    replace c4 := vblk_only c4 hO2r (by omega)
    replace c7 := vblk_only c7 hO2r (by omega)
    replace c8 := vblk_only c8 hO2r (by omega)
    replace c9 := vblk_only c9 hO2r (by omega)
    clear c6
    have c6 := c6x
    clear c6x
    replace hB := hB.trans (hO2r.2.2 _ (by omega))
    replace hzw := hB.size
    refine hKC.out _ _ (⟨(cells2 c8).1, (cells2 c8).2, cellsRp c9⟩) (fun hHeld2 => ?_)
    clear hKC KC hHeld
    have hHeld := hHeld2
    clear hHeld2
    (try simp only [Act.put])
    refine wpAnyH_ready (rs := [3]) (by kernel_rfl) (by simp) ?_
    refine AllReadyH.cons (o := { dst := none, op := Op.store 33 (Operand.tmp 7) (Operand.tmp 32), type := 0, pos := "l13_store.go:158", after := #[{ on := 1, ground := Ground.data }, { on := 2, ground := Ground.chain }, { on := 0, ground := Ground.phase }, { on := 1, ground := Ground.phase }, { on := 2, ground := Ground.phase }], guard := none }) rfl (fun KC hKC => ?_) AllReadyH.nil
    refine step_store_v rfl 33 _ _ rfl b7 [.int .i64 r1, .string r2, .int .i64 r3, .string r4, .int .i64 r5, .int .i64 r6] rfl rfl sizeRp c7 rfl (oneRp ⟨r1, r2, r3, r4, r5, r6⟩) ?_
    intro wr3 hO3r c7x
    have hz3r : wr2.heap.size ≤ wr3.heap.size := Nat.le_of_eq hO3r.1.symm
    have hy3r : wr3.heap.size ≤ wr2.heap.size := Nat.le_of_eq hO3r.1
    (try replace o3 := o3.only hO3r c7 (by decide))
    replace c3 := vblk_only c3 hO3r (by omega)
    replace c4 := vblk_only c4 hO3r (by omega)
    replace c6 := vblk_only c6 hO3r (by omega)
    replace c8 := vblk_only c8 hO3r (by omega)
    replace c9 := vblk_only c9 hO3r (by omega)
    clear c7
    have c7 := c7x
    clear c7x
    replace hB := hB.trans (hO3r.2.2 _ (by omega))
    replace hzw := hB.size
    refine hKC.out _ _ (⟨(cells2 c8).1, (cells2 c8).2, cellsRp c9⟩) (fun hHeld2 => ?_)
    clear hKC KC hHeld
    have hHeld := hHeld2
    clear hHeld2
    (try simp only [Act.put])
    refine wpAnyH_done (by kernel_rfl) ?_ _
    go_wp2
    exact row_cc rfl rfl rfl c6 c7 Tryz.underlying31 Tryz.underlying33 sizeBk sizeRp rfl ⟨_, rfl, (o3.wide (by omega) (by omega)).top, hB⟩
end Go.Proofs.YtjkkjpgebcnhgaaGreatDoor.rg
