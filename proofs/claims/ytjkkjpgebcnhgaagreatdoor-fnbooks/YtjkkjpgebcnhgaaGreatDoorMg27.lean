/- Texts laid together: Ds3 Ds4 Ds50 Ds51 Ds52. -/
import Derived.Test.YtjkkjpgebcnhgaaGreatDoorMg26
import Derived.Test.YtjkkjpgebcnhgaaGreatDoorMg21
import Derived.Test.YtjkkjpgebcnhgaaGreatDoorMg10
import Derived.Deep.DeepCutAuto
import Derived.Deep.RegionHeld3
import Derived.BigQuiet
import Derived.Lib.SmallJoins
/- What the model's l13Do wants besides. -/
namespace Go.Proofs.YtjkkjpgebcnhgaaGreatDoor.rg
open Go.ChangeShapes Go.WideShapes Go.ChangeAt Go.RowKit
open Go.Deep Go.Joins
open Go.Proofs.YtjkkjpgebcnhgaaGreatDoor.ce Go.Proofs.YtjkkjpgebcnhgaaGreatDoor.ro Go.Proofs.YtjkkjpgebcnhgaaGreatDoor.cm
set_option linter.unusedVariables false

theorem l1MaxI_any (x y : Int) (w : World) : Calls Tryz.prog 68 #[.int .i64 x, .int .i64 y] w fun e w' => e = .returned (.int .i64 (if x > y then x else y)) ∧ w' = w := by
  by_cases h : y < x
  · rw [if_pos h]
    go_enter Tryz.func68, Tryz.ntmps68
    go_wp2
    go_ret
    exact ⟨rfl, rfl⟩
  · rw [if_neg h]
    go_enter Tryz.func68, Tryz.ntmps68
    go_wp2
    go_ret
    exact ⟨rfl, rfl⟩
theorem own_at5 {w : World} {lo hi g n cap k : Nat} {I : List It} {N B : ByteArray} {F C U : Int} (o : Own encIt w lo hi (.slice (some ⟨g, 0, none⟩) n cap) I) (hk : k < I.length) (hx : I[k] = ⟨N, F, B, C, U⟩) : w.rangeAt g (k * 5) [.string N, .int .i64 F, .string B, .int .i64 C, .int .i64 U] := by
  obtain ⟨b, off, e, -, rg⟩ := rd_item rfl rfl o.rd k hk
  cases e
  rw [hx, Nat.zero_add] at rg
  exact rg
theorem own_blk {w : World} {lo hi g n cap : Nat} {I : List It} (o : Own encIt w lo hi (.slice (some ⟨g, 0, none⟩) n cap) I) (hn : 1 ≤ I.length) : ∃ cur, w.heap[g]? = some (.cells cur 56 (0, 0)) := by
  rcases o.row with ⟨rfl, -⟩ | ⟨g', cap', cur, e, -, hb, -⟩
  · simp at hn
  · cases e
    exact ⟨cur, hb⟩
theorem vblk_ne {w : World} {b g : Nat} {t : TypeId} {vs : List Value} {cur : Array Value} (h : VBlk w b t vs) (hg : w.heap[g]? = some (.cells cur 56 (0, 0))) (ht : t ≠ 56) : b ≠ g := fun e => by
  subst e
  have := h.symm.trans hg
  simp at this
  exact ht this.2
section laws
variable {ops : Array Oper} {rest : List Oper} {o : Oper} {a : Act} {w : World} {Q : Exit → Act → World → Prop} {K : Act → World → Prop} {X : Prop}
theorem step_store_own {α : Type} {E : Enc α} (hgd : o.guard = none) (t : TypeId) (x y : Operand) (ho : o.op = .store t x y) (g j0 i j : Nat) (u : Value) (c : α) (hx : a.eval x = .pointer (some ⟨g, j0, none⟩)) (hj0 : j0 = i * E.k + j) (hy : a.eval y = u) (h1 : u.oneCell' = true) (hi : (Tryz.prog.info? t).map (·.size) = some 1)
    {lo hi' n cap : Nat} {xs : List α} (own : Own E w lo hi' (.slice (some ⟨g, 0, none⟩) n cap) xs) (hlt : i < xs.length) (hj : j < E.k) (hc : E.put c = (E.put xs[i]).set j u) (h : ∀ w', Only g w w' → Own E w' lo hi' (.slice (some ⟨g, 0, none⟩) n cap) (xs.set i c) → K (a.put o.dst undef) w') : if Region.wanted o (yielded ops a.tmps) = true then Oper.wp Tryz.prog o a w K Q else X := by
  subst hj0
  obtain ⟨g', eg, -, hcell, hfroz⟩ := own.cell i j hlt hj
  cases eg
  have hw : Region.wanted o (yielded ops a.tmps) = true := by simp [Region.wanted, hgd]
  rw [if_pos hw]
  unfold Oper.wp execOp
  obtain ⟨ti, hi1, hi2⟩ := Option.map_eq_some_iff.1 hi
  simp [ho, hx, hy, Instr.storeAt, Instr.sureAddr, storeVar, sizeOf, typeInfo, hi1, hi2, cells_one h1, storeCells, run_store _ _ _ _ _ h1, hcell, hfroz, Addr.add]
  exact h _ (only_set _ _ _ _) (own.set i j hlt hj u c hc)
end laws
end Go.Proofs.YtjkkjpgebcnhgaaGreatDoor.rg
/- The model's l13Do, where the thing is not there. -/
namespace Go.Proofs.YtjkkjpgebcnhgaaGreatDoor.rg
open Go.ChangeShapes Go.WideShapes Go.ChangeAt Go.RowKit
open Go.Deep Go.Joins
open Go.Proofs.YtjkkjpgebcnhgaaGreatDoor.ce Go.Proofs.YtjkkjpgebcnhgaaGreatDoor.ro Go.Proofs.YtjkkjpgebcnhgaaGreatDoor.cm
set_option linter.unusedVariables false

set_option maxRecDepth 100000 in
set_option maxHeartbeats 8000000 in
theorem l13Do_none (I : List It) (X : Int) (V : Int) (N2 : ByteArray) (F2 U2 : Int) (B2 : ByteArray) (C2 D2 : Int) (Q2 : Bool) (b0 lo n0 k0 : Nat) (A0 : Option Addr) (w : World) (c0 : VBlk w b0 31 [.slice A0 n0 k0, .int .i64 X]) (hlo : lo ≤ b0) (o : Own encIt w lo w.heap.size (.slice A0 n0 k0) I) (ok : StOk ⟨I, X⟩) (hc : COk ⟨V, N2, F2, U2, B2, C2, D2, Q2⟩) (hlk : lookI I N2 = none) :
    Calls Tryz.prog 35 #[.pointer (some ⟨b0, 0, none⟩), .agg #[.int .i64 V, .string N2, .int .i64 F2, .int .i64 U2, .string B2, .int .i64 C2, .int .i64 D2, .bool Q2]] w fun e w' => PostM (doK ⟨I, X⟩ ⟨V, N2, F2, U2, B2, C2, D2, Q2⟩).1 (doK ⟨I, X⟩ ⟨V, N2, F2, U2, B2, C2, D2, Q2⟩).2 b0 lo w e w' := by
  have hv0 := hc.v0
  have hv1 := hc.v1
  have hd1 := hc.d1
  have hb1 := hc.b1
  have hnm := hc.nm
  dsimp only at hv0 hv1 hd1 hb1 hnm
  have hl20 := len_of ok
  have hK := Onk.refl b0 lo w
  have hlt0 := c0.lt
  have hzw0 : w.heap.size ≤ w.heap.size := Nat.le_refl _
  have szB2 : B2.size ≤ 1048576 := by omega
  have OK : Hid _ := ok
  have HNM : Hid _ := hnm
  have hf : Hid (findI I N2 = -1) := (look_none hlk).1
  have HLK : Hid _ := hlk
  have hge : decide ((-1 : Int) ≥ 0) = false := by decide
  have hgl : decide ((-1 : Int) < 0) = true := by decide
  clear hlk ok hc hnm
  obtain ⟨⟨Bz, Rz⟩, hDK⟩ := hid_ex (doK ⟨I, X⟩ ⟨V, N2, F2, U2, B2, C2, D2, Q2⟩)
  rw [hDK.out]
  unfold PostM
  dsimp only
  go_enter Tryz.func35, Tryz.ntmps35
  obtain ⟨c00, c01⟩ := cells2 c0
  have mk1 : Hid True := trivial
  have mk2 : Hid True := trivial
  go_upto_region 1 with (first | (clear mk1; refine wpList_box_v rfl 37 _ rfl [.int .i64 V, .string N2, .int .i64 F2, .int .i64 U2, .string B2, .int .i64 C2, .int .i64 D2, .bool Q2] rfl ?_; intro b3 w1 hb3 hwb3 hB1 c3; have hz1 : w.heap.size ≤ w1.heap.size := hB1.size; replace o := o.grow hB1; replace c0 := vblk_grow c0 hB1; replace hK := hK.trans (Onk.of_below hB1); clear c00 c01; obtain ⟨c00, c01⟩ := cells2 c0; obtain ⟨c30, c31, c32, c33, c34, c35, c36, c37⟩ := cellsCm c3) | (clear mk2; refine wpList_alloc_v rfl 33 rfl _ zeroRp ?_; intro b4 w2 hb4 hwb4 hB2 c4; have hz2 : w1.heap.size ≤ w2.heap.size := hB2.size; replace o := o.grow hB2; replace c0 := vblk_grow c0 hB2; replace c3 := vblk_grow c3 hB2; replace hK := hK.trans (Onk.of_below hB2); clear c00 c01; obtain ⟨c00, c01⟩ := cells2 c0; clear c30 c31 c32 c33 c34 c35 c36 c37; obtain ⟨c30, c31, c32, c33, c34, c35, c36, c37⟩ := cellsCm c3; obtain ⟨c40, c41, c42, c43, c44, c45⟩ := cellsRp c4) | (fail))
  have hKd : Below w2.heap.size w2 w2.drew := (Below.refl _ _).drew
  have hzd : w2.drew.heap.size ≤ w2.heap.size := Nat.le_refl _
  have hzd2 : w2.heap.size ≤ w2.drew.heap.size := Nat.le_refl _
  replace hK := hK.trans (Onk.of_below hKd)
  replace o := o.grow hKd
  replace c0 := vblk_grow c0 hKd
  clear c00 c01
  obtain ⟨c00, c01⟩ := cells2 c0
  replace c3 := vblk_grow c3 hKd
  clear c30 c31 c32 c33 c34 c35 c36 c37
  obtain ⟨c30, c31, c32, c33, c34, c35, c36, c37⟩ := cellsCm c3
  replace c4 := vblk_grow c4 hKd
  clear c40 c41 c42 c43 c44 c45
  obtain ⟨c40, c41, c42, c43, c44, c45⟩ := cellsRp c4
  have S1 : w2.drew.cell? ⟨b0, 0, none⟩ = some (.slice A0 n0 k0) ∧ w2.drew.cell? ⟨b3, 1, none⟩ = some (.string N2) := ⟨c00, c31⟩
  go_region_held3 (fun w' => w'.cell? ⟨b0, 0, none⟩ = some (.slice A0 n0 k0) ∧ w'.cell? ⟨b3, 1, none⟩ = some (.string N2)) (first | with_reducible assumption | with_reducible exact S1 | (fail)) (first | (go_at_call 26; refine (specFindItem_any I N2 _ _ o.rd).mono ?_; rintro er wq ⟨rfl, hq⟩; subst wq; rw [hf.out]; have S2 := S1) | (fail))
  clear S1 S2 hKd
  have mk3 : Hid True := trivial
  have mk4 : Hid True := trivial
  have mk5 : Hid True := trivial
  have mk6 : Hid True := trivial
  go_upto_region 7 with (first | (clear mk3; refine wpList_alloc_v rfl 56 rfl _ zeroIt ?_; intro b6 w3 hb6 hwb6 hB3 c6; have hz3 : w2.drew.heap.size ≤ w3.heap.size := hB3.size; replace o := o.grow hB3; replace c0 := vblk_grow c0 hB3; replace c3 := vblk_grow c3 hB3; replace c4 := vblk_grow c4 hB3; replace hK := hK.trans (Onk.of_below hB3); clear c00 c01; obtain ⟨c00, c01⟩ := cells2 c0; clear c30 c31 c32 c33 c34 c35 c36 c37; obtain ⟨c30, c31, c32, c33, c34, c35, c36, c37⟩ := cellsCm c3; clear c40 c41 c42 c43 c44 c45; obtain ⟨c40, c41, c42, c43, c44, c45⟩ := cellsRp c4; obtain ⟨c60, c61, c62, c63, c64⟩ := cells5 c6) | (clear mk4; refine wpList_store_v rfl 56 _ _ rfl b6 [.string ⟨#[]⟩, .int .i64 0, .string ⟨#[]⟩, .int .i64 0, .int .i64 0] rfl rfl sizeIt c6 rfl (ic_one ZIt) ?_; intro w4 hO4 c6x; clear c60 c61 c62 c63 c64; have hz4 : w3.heap.size ≤ w4.heap.size := (Nat.le_of_eq hO4.1.symm); have hy4 : w4.heap.size ≤ w3.heap.size := (Nat.le_of_eq hO4.1); replace o := o.below (hO4.2.2 b6 (Nat.le_refl _)) (by omega); replace c0 := vblk_only c0 hO4 (by omega); replace c3 := vblk_only c3 hO4 (by omega); replace c4 := vblk_only c4 hO4 (by omega); replace hK := hK.new hO4 (by omega); clear c00 c01; obtain ⟨c00, c01⟩ := cells2 c0; clear c30 c31 c32 c33 c34 c35 c36 c37; obtain ⟨c30, c31, c32, c33, c34, c35, c36, c37⟩ := cellsCm c3; clear c40 c41 c42 c43 c44 c45; obtain ⟨c40, c41, c42, c43, c44, c45⟩ := cellsRp c4; clear c6; have c6 := c6x; clear c6x; obtain ⟨c60, c61, c62, c63, c64⟩ := cells5 c6) | (clear mk5; refine wpList_alloc_v rfl 56 rfl _ zeroIt ?_; intro b7 w5 hb7 hwb7 hB5 c7; have hz5 : w4.heap.size ≤ w5.heap.size := hB5.size; replace o := o.grow hB5; replace c0 := vblk_grow c0 hB5; replace c3 := vblk_grow c3 hB5; replace c4 := vblk_grow c4 hB5; replace c6 := vblk_grow c6 hB5; replace hK := hK.trans (Onk.of_below hB5); clear c00 c01; obtain ⟨c00, c01⟩ := cells2 c0; clear c30 c31 c32 c33 c34 c35 c36 c37; obtain ⟨c30, c31, c32, c33, c34, c35, c36, c37⟩ := cellsCm c3; clear c40 c41 c42 c43 c44 c45; obtain ⟨c40, c41, c42, c43, c44, c45⟩ := cellsRp c4; clear c60 c61 c62 c63 c64; obtain ⟨c60, c61, c62, c63, c64⟩ := cells5 c6; obtain ⟨c70, c71, c72, c73, c74⟩ := cells5 c7) | (clear mk6; refine wpList_store_v rfl 56 _ _ rfl b7 [.string N2, .int .i64 F2, .string B2, .int .i64 0, .int .i64 U2] rfl rfl sizeIt c7 rfl (ic_one ⟨N2, F2, B2, 0, U2⟩) ?_; intro w6 hO6 c7x; clear c70 c71 c72 c73 c74; have hz6 : w5.heap.size ≤ w6.heap.size := (Nat.le_of_eq hO6.1.symm); have hy6 : w6.heap.size ≤ w5.heap.size := (Nat.le_of_eq hO6.1); replace o := o.below (hO6.2.2 b7 (Nat.le_refl _)) (by omega); replace c0 := vblk_only c0 hO6 (by omega); replace c3 := vblk_only c3 hO6 (by omega); replace c4 := vblk_only c4 hO6 (by omega); replace c6 := vblk_only c6 hO6 (by omega); replace hK := hK.new hO6 (by omega); clear c00 c01; obtain ⟨c00, c01⟩ := cells2 c0; clear c30 c31 c32 c33 c34 c35 c36 c37; obtain ⟨c30, c31, c32, c33, c34, c35, c36, c37⟩ := cellsCm c3; clear c40 c41 c42 c43 c44 c45; obtain ⟨c40, c41, c42, c43, c44, c45⟩ := cellsRp c4; clear c60 c61 c62 c63 c64; obtain ⟨c60, c61, c62, c63, c64⟩ := cells5 c6; clear c7; have c7 := c7x; clear c7x; obtain ⟨c70, c71, c72, c73, c74⟩ := cells5 c7) | (fail))
  by_cases v1 : V = 1
  · subst v1
    have e : doK ⟨I, X⟩ ⟨1, N2, F2, U2, B2, C2, D2, Q2⟩ = (⟨I, X⟩, rp 4) := by
      simp [doK, HLK.out]
    have eZ := hDK.out.symm.trans e
    clear e hDK
    obtain ⟨rfl, rfl⟩ := Prod.mk.inj eZ
    have mk7 : Hid True := trivial
    go_wp2_with (first | (clear mk7; refine wpList_store_v rfl 33 _ _ rfl b4 [.int .i64 4, .string ⟨#[]⟩, .int .i64 0, .string ⟨#[]⟩, .int .i64 0, .int .i64 0] rfl rfl sizeRp c4 rfl (oneRp (rp 4)) ?_; intro w7 hO7 c4x; clear c40 c41 c42 c43 c44 c45; have hz7 : w6.heap.size ≤ w7.heap.size := (Nat.le_of_eq hO7.1.symm); have hy7 : w7.heap.size ≤ w6.heap.size := (Nat.le_of_eq hO7.1); replace o := o.only hO7 c4 (by decide); replace c0 := vblk_only c0 hO7 (by omega); replace c3 := vblk_only c3 hO7 (by omega); replace c6 := vblk_only c6 hO7 (by omega); replace c7 := vblk_only c7 hO7 (by omega); replace hK := hK.new hO7 (by omega); clear c00 c01; obtain ⟨c00, c01⟩ := cells2 c0; clear c30 c31 c32 c33 c34 c35 c36 c37; obtain ⟨c30, c31, c32, c33, c34, c35, c36, c37⟩ := cellsCm c3; clear c60 c61 c62 c63 c64; obtain ⟨c60, c61, c62, c63, c64⟩ := cells5 c6; clear c70 c71 c72 c73 c74; obtain ⟨c70, c71, c72, c73, c74⟩ := cells5 c7; clear c4; have c4 := c4x; clear c4x; obtain ⟨c40, c41, c42, c43, c44, c45⟩ := cellsRp c4) | (fail))
    exact row_retv rfl rfl c4 Tryz.underlying33 sizeRp rfl ⟨rfl, _, _, _, c0, (o.wide (Nat.le_refl _) (by omega)).top, hK⟩
  by_cases v2 : V = 2
  · subst v2
    have e : doK ⟨I, X⟩ ⟨2, N2, F2, U2, B2, C2, D2, Q2⟩ = (⟨I, X⟩, rp 4) := by
      simp [doK, HLK.out]
    have eZ := hDK.out.symm.trans e
    clear e hDK
    obtain ⟨rfl, rfl⟩ := Prod.mk.inj eZ
    have mk7 : Hid True := trivial
    go_wp2_with (first | (clear mk7; refine wpList_store_v rfl 33 _ _ rfl b4 [.int .i64 4, .string ⟨#[]⟩, .int .i64 0, .string ⟨#[]⟩, .int .i64 0, .int .i64 0] rfl rfl sizeRp c4 rfl (oneRp (rp 4)) ?_; intro w7 hO7 c4x; clear c40 c41 c42 c43 c44 c45; have hz7 : w6.heap.size ≤ w7.heap.size := (Nat.le_of_eq hO7.1.symm); have hy7 : w7.heap.size ≤ w6.heap.size := (Nat.le_of_eq hO7.1); replace o := o.only hO7 c4 (by decide); replace c0 := vblk_only c0 hO7 (by omega); replace c3 := vblk_only c3 hO7 (by omega); replace c6 := vblk_only c6 hO7 (by omega); replace c7 := vblk_only c7 hO7 (by omega); replace hK := hK.new hO7 (by omega); clear c00 c01; obtain ⟨c00, c01⟩ := cells2 c0; clear c30 c31 c32 c33 c34 c35 c36 c37; obtain ⟨c30, c31, c32, c33, c34, c35, c36, c37⟩ := cellsCm c3; clear c60 c61 c62 c63 c64; obtain ⟨c60, c61, c62, c63, c64⟩ := cells5 c6; clear c70 c71 c72 c73 c74; obtain ⟨c70, c71, c72, c73, c74⟩ := cells5 c7; clear c4; have c4 := c4x; clear c4x; obtain ⟨c40, c41, c42, c43, c44, c45⟩ := cellsRp c4) | (fail))
    exact row_retv rfl rfl c4 Tryz.underlying33 sizeRp rfl ⟨rfl, _, _, _, c0, (o.wide (Nat.le_refl _) (by omega)).top, hK⟩
  by_cases v3 : V = 3
  · subst v3
    have e : doK ⟨I, X⟩ ⟨3, N2, F2, U2, B2, C2, D2, Q2⟩ = keepK ⟨I, X⟩ ⟨N2, F2, B2, 0, U2⟩ := by
      simp [doK, fresh]
    have eZ := hDK.out.symm.trans e
    clear e hDK
    have hN2x : N2.size ≤ 1048576 := by have := nm_small (HNM.out (by decide)); omega
    have HS := fun w c0 o => l13Keep_any I X N2 B2 F2 0 U2 b0 lo n0 k0 A0 w c0 hlo o OK.out hN2x szB2
    unfold PostM at HS
    obtain ⟨⟨⟨J, Y⟩, ⟨r1, r2, r3, r4, r5, r6⟩⟩, hR⟩ := hid_ex (keepK ⟨I, X⟩ ⟨N2, F2, B2, 0, U2⟩)
    rw [hR.out] at HS eZ
    obtain ⟨rfl, rfl⟩ := Prod.mk.inj eZ
    have HH : Hid _ := HS
    clear HS hR eZ
    dsimp only [csRp] at HH
    have mk7 : Hid True := trivial
    have mk8 : Hid True := trivial
    have mk9 : Hid True := trivial
    go_wp2_with (first | (clear mk7; refine wpList_load_r rfl 56 _ rfl b7 0 [.string N2, .int .i64 F2, .string B2, .int .i64 0, .int .i64 U2] rfl _ Tryz.underlying56 rfl sizeIt c7.range ?_) | (clear mk8; go_at_call 65; refine (HH.out _ c0 (o.wide (Nat.le_refl _) (by omega))).mono ?_; rintro er w7 ⟨rfl, A1, n1, k1, c0n, o1, hM7⟩; have hz7 : w6.heap.size ≤ w7.heap.size := hM7.size; replace c3 := hM7.vblk c3 (by omega) (by decide); replace c4 := hM7.vblk c4 (by omega) (by decide); replace hK := hK.trans hM7; clear c0 c00 c01 c60 c61 c62 c63 c64 c70 c71 c72 c73 c74 c6 c7; have c0 := c0n; clear c0n; clear c30 c31 c32 c33 c34 c35 c36 c37; obtain ⟨c30, c31, c32, c33, c34, c35, c36, c37⟩ := cellsCm c3; clear c40 c41 c42 c43 c44 c45; obtain ⟨c40, c41, c42, c43, c44, c45⟩ := cellsRp c4) | (clear mk9; refine wpList_store_v rfl 33 _ _ rfl b4 [.int .i64 r1, .string r2, .int .i64 r3, .string r4, .int .i64 r5, .int .i64 r6] rfl rfl sizeRp c4 rfl (oneRp ⟨r1, r2, r3, r4, r5, r6⟩) ?_; intro w8 hO8 c4x; clear c40 c41 c42 c43 c44 c45; have hz8 : w7.heap.size ≤ w8.heap.size := (Nat.le_of_eq hO8.1.symm); have hy8 : w8.heap.size ≤ w7.heap.size := (Nat.le_of_eq hO8.1); replace o1 := o1.only hO8 c4 (by decide); replace c0 := vblk_only c0 hO8 (by omega); replace c3 := vblk_only c3 hO8 (by omega); replace hK := hK.new hO8 (by omega); clear c30 c31 c32 c33 c34 c35 c36 c37; obtain ⟨c30, c31, c32, c33, c34, c35, c36, c37⟩ := cellsCm c3; clear c4; have c4 := c4x; clear c4x; obtain ⟨c40, c41, c42, c43, c44, c45⟩ := cellsRp c4) | (fail))
    exact row_retv rfl rfl c4 Tryz.underlying33 sizeRp rfl ⟨rfl, A1, n1, k1, c0, (o1.wide (Nat.le_refl _) (by omega)).top, hK⟩
  by_cases v4 : V = 4
  · subst v4
    have e : doK ⟨I, X⟩ ⟨4, N2, F2, U2, B2, C2, D2, Q2⟩ = keepK ⟨I, X⟩ ⟨N2, F2, B2, 0, U2⟩ := by
      simp [doK, HLK.out, fresh]
    have eZ := hDK.out.symm.trans e
    clear e hDK
    have hN2x : N2.size ≤ 1048576 := by have := nm_small (HNM.out (by decide)); omega
    have HS := fun w c0 o => l13Keep_any I X N2 B2 F2 0 U2 b0 lo n0 k0 A0 w c0 hlo o OK.out hN2x szB2
    unfold PostM at HS
    obtain ⟨⟨⟨J, Y⟩, ⟨r1, r2, r3, r4, r5, r6⟩⟩, hR⟩ := hid_ex (keepK ⟨I, X⟩ ⟨N2, F2, B2, 0, U2⟩)
    rw [hR.out] at HS eZ
    obtain ⟨rfl, rfl⟩ := Prod.mk.inj eZ
    have HH : Hid _ := HS
    clear HS hR eZ
    dsimp only [csRp] at HH
    have mk7 : Hid True := trivial
    have mk8 : Hid True := trivial
    have mk9 : Hid True := trivial
    go_wp2_with (first | (clear mk7; refine wpList_load_r rfl 56 _ rfl b7 0 [.string N2, .int .i64 F2, .string B2, .int .i64 0, .int .i64 U2] rfl _ Tryz.underlying56 rfl sizeIt c7.range ?_) | (clear mk8; go_at_call 65; refine (HH.out _ c0 (o.wide (Nat.le_refl _) (by omega))).mono ?_; rintro er w7 ⟨rfl, A1, n1, k1, c0n, o1, hM7⟩; have hz7 : w6.heap.size ≤ w7.heap.size := hM7.size; replace c3 := hM7.vblk c3 (by omega) (by decide); replace c4 := hM7.vblk c4 (by omega) (by decide); replace hK := hK.trans hM7; clear c0 c00 c01 c60 c61 c62 c63 c64 c70 c71 c72 c73 c74 c6 c7; have c0 := c0n; clear c0n; clear c30 c31 c32 c33 c34 c35 c36 c37; obtain ⟨c30, c31, c32, c33, c34, c35, c36, c37⟩ := cellsCm c3; clear c40 c41 c42 c43 c44 c45; obtain ⟨c40, c41, c42, c43, c44, c45⟩ := cellsRp c4) | (clear mk9; refine wpList_store_v rfl 33 _ _ rfl b4 [.int .i64 r1, .string r2, .int .i64 r3, .string r4, .int .i64 r5, .int .i64 r6] rfl rfl sizeRp c4 rfl (oneRp ⟨r1, r2, r3, r4, r5, r6⟩) ?_; intro w8 hO8 c4x; clear c40 c41 c42 c43 c44 c45; have hz8 : w7.heap.size ≤ w8.heap.size := (Nat.le_of_eq hO8.1.symm); have hy8 : w8.heap.size ≤ w7.heap.size := (Nat.le_of_eq hO8.1); replace o1 := o1.only hO8 c4 (by decide); replace c0 := vblk_only c0 hO8 (by omega); replace c3 := vblk_only c3 hO8 (by omega); replace hK := hK.new hO8 (by omega); clear c30 c31 c32 c33 c34 c35 c36 c37; obtain ⟨c30, c31, c32, c33, c34, c35, c36, c37⟩ := cellsCm c3; clear c4; have c4 := c4x; clear c4x; obtain ⟨c40, c41, c42, c43, c44, c45⟩ := cellsRp c4) | (fail))
    exact row_retv rfl rfl c4 Tryz.underlying33 sizeRp rfl ⟨rfl, A1, n1, k1, c0, (o1.wide (Nat.le_refl _) (by omega)).top, hK⟩
  by_cases v5 : V = 5
  · subst v5
    have e : doK ⟨I, X⟩ ⟨5, N2, F2, U2, B2, C2, D2, Q2⟩ = (⟨I, X⟩, rp 2) := by
      simp [doK, HLK.out]
    have eZ := hDK.out.symm.trans e
    clear e hDK
    obtain ⟨rfl, rfl⟩ := Prod.mk.inj eZ
    have mk7 : Hid True := trivial
    go_wp2_with (first | (clear mk7; refine wpList_store_v rfl 33 _ _ rfl b4 [.int .i64 2, .string ⟨#[]⟩, .int .i64 0, .string ⟨#[]⟩, .int .i64 0, .int .i64 0] rfl rfl sizeRp c4 rfl (oneRp (rp 2)) ?_; intro w7 hO7 c4x; clear c40 c41 c42 c43 c44 c45; have hz7 : w6.heap.size ≤ w7.heap.size := (Nat.le_of_eq hO7.1.symm); have hy7 : w7.heap.size ≤ w6.heap.size := (Nat.le_of_eq hO7.1); replace o := o.only hO7 c4 (by decide); replace c0 := vblk_only c0 hO7 (by omega); replace c3 := vblk_only c3 hO7 (by omega); replace c6 := vblk_only c6 hO7 (by omega); replace c7 := vblk_only c7 hO7 (by omega); replace hK := hK.new hO7 (by omega); clear c00 c01; obtain ⟨c00, c01⟩ := cells2 c0; clear c30 c31 c32 c33 c34 c35 c36 c37; obtain ⟨c30, c31, c32, c33, c34, c35, c36, c37⟩ := cellsCm c3; clear c60 c61 c62 c63 c64; obtain ⟨c60, c61, c62, c63, c64⟩ := cells5 c6; clear c70 c71 c72 c73 c74; obtain ⟨c70, c71, c72, c73, c74⟩ := cells5 c7; clear c4; have c4 := c4x; clear c4x; obtain ⟨c40, c41, c42, c43, c44, c45⟩ := cellsRp c4) | (fail))
    exact row_retv rfl rfl c4 Tryz.underlying33 sizeRp rfl ⟨rfl, _, _, _, c0, (o.wide (Nat.le_refl _) (by omega)).top, hK⟩
  by_cases v6 : V = 6
  · subst v6
    have e : doK ⟨I, X⟩ ⟨6, N2, F2, U2, B2, C2, D2, Q2⟩ = (⟨I, X⟩, rp 2) := by
      simp [doK, HLK.out]
    have eZ := hDK.out.symm.trans e
    clear e hDK
    obtain ⟨rfl, rfl⟩ := Prod.mk.inj eZ
    have mk7 : Hid True := trivial
    go_wp2_with (first | (clear mk7; refine wpList_store_v rfl 33 _ _ rfl b4 [.int .i64 2, .string ⟨#[]⟩, .int .i64 0, .string ⟨#[]⟩, .int .i64 0, .int .i64 0] rfl rfl sizeRp c4 rfl (oneRp (rp 2)) ?_; intro w7 hO7 c4x; clear c40 c41 c42 c43 c44 c45; have hz7 : w6.heap.size ≤ w7.heap.size := (Nat.le_of_eq hO7.1.symm); have hy7 : w7.heap.size ≤ w6.heap.size := (Nat.le_of_eq hO7.1); replace o := o.only hO7 c4 (by decide); replace c0 := vblk_only c0 hO7 (by omega); replace c3 := vblk_only c3 hO7 (by omega); replace c6 := vblk_only c6 hO7 (by omega); replace c7 := vblk_only c7 hO7 (by omega); replace hK := hK.new hO7 (by omega); clear c00 c01; obtain ⟨c00, c01⟩ := cells2 c0; clear c30 c31 c32 c33 c34 c35 c36 c37; obtain ⟨c30, c31, c32, c33, c34, c35, c36, c37⟩ := cellsCm c3; clear c60 c61 c62 c63 c64; obtain ⟨c60, c61, c62, c63, c64⟩ := cells5 c6; clear c70 c71 c72 c73 c74; obtain ⟨c70, c71, c72, c73, c74⟩ := cells5 c7; clear c4; have c4 := c4x; clear c4x; obtain ⟨c40, c41, c42, c43, c44, c45⟩ := cellsRp c4) | (fail))
    exact row_retv rfl rfl c4 Tryz.underlying33 sizeRp rfl ⟨rfl, _, _, _, c0, (o.wide (Nat.le_refl _) (by omega)).top, hK⟩
  by_cases v7 : V = 7
  · subst v7
    have e : doK ⟨I, X⟩ ⟨7, N2, F2, U2, B2, C2, D2, Q2⟩ = (⟨I, X⟩, rp 2) := by
      simp [doK, HLK.out]
    have eZ := hDK.out.symm.trans e
    clear e hDK
    obtain ⟨rfl, rfl⟩ := Prod.mk.inj eZ
    have mk7 : Hid True := trivial
    go_wp2_with (first | (clear mk7; refine wpList_store_v rfl 33 _ _ rfl b4 [.int .i64 2, .string ⟨#[]⟩, .int .i64 0, .string ⟨#[]⟩, .int .i64 0, .int .i64 0] rfl rfl sizeRp c4 rfl (oneRp (rp 2)) ?_; intro w7 hO7 c4x; clear c40 c41 c42 c43 c44 c45; have hz7 : w6.heap.size ≤ w7.heap.size := (Nat.le_of_eq hO7.1.symm); have hy7 : w7.heap.size ≤ w6.heap.size := (Nat.le_of_eq hO7.1); replace o := o.only hO7 c4 (by decide); replace c0 := vblk_only c0 hO7 (by omega); replace c3 := vblk_only c3 hO7 (by omega); replace c6 := vblk_only c6 hO7 (by omega); replace c7 := vblk_only c7 hO7 (by omega); replace hK := hK.new hO7 (by omega); clear c00 c01; obtain ⟨c00, c01⟩ := cells2 c0; clear c30 c31 c32 c33 c34 c35 c36 c37; obtain ⟨c30, c31, c32, c33, c34, c35, c36, c37⟩ := cellsCm c3; clear c60 c61 c62 c63 c64; obtain ⟨c60, c61, c62, c63, c64⟩ := cells5 c6; clear c70 c71 c72 c73 c74; obtain ⟨c70, c71, c72, c73, c74⟩ := cells5 c7; clear c4; have c4 := c4x; clear c4x; obtain ⟨c40, c41, c42, c43, c44, c45⟩ := cellsRp c4) | (fail))
    exact row_retv rfl rfl c4 Tryz.underlying33 sizeRp rfl ⟨rfl, _, _, _, c0, (o.wide (Nat.le_refl _) (by omega)).top, hK⟩
  by_cases v8 : V = 8
  · subst v8
    have e : doK ⟨I, X⟩ ⟨8, N2, F2, U2, B2, C2, D2, Q2⟩ = (⟨I, X⟩, rp 4) := by
      simp [doK, HLK.out]
    have eZ := hDK.out.symm.trans e
    clear e hDK
    obtain ⟨rfl, rfl⟩ := Prod.mk.inj eZ
    have mk7 : Hid True := trivial
    go_wp2_with (first | (clear mk7; refine wpList_store_v rfl 33 _ _ rfl b4 [.int .i64 4, .string ⟨#[]⟩, .int .i64 0, .string ⟨#[]⟩, .int .i64 0, .int .i64 0] rfl rfl sizeRp c4 rfl (oneRp (rp 4)) ?_; intro w7 hO7 c4x; clear c40 c41 c42 c43 c44 c45; have hz7 : w6.heap.size ≤ w7.heap.size := (Nat.le_of_eq hO7.1.symm); have hy7 : w7.heap.size ≤ w6.heap.size := (Nat.le_of_eq hO7.1); replace o := o.only hO7 c4 (by decide); replace c0 := vblk_only c0 hO7 (by omega); replace c3 := vblk_only c3 hO7 (by omega); replace c6 := vblk_only c6 hO7 (by omega); replace c7 := vblk_only c7 hO7 (by omega); replace hK := hK.new hO7 (by omega); clear c00 c01; obtain ⟨c00, c01⟩ := cells2 c0; clear c30 c31 c32 c33 c34 c35 c36 c37; obtain ⟨c30, c31, c32, c33, c34, c35, c36, c37⟩ := cellsCm c3; clear c60 c61 c62 c63 c64; obtain ⟨c60, c61, c62, c63, c64⟩ := cells5 c6; clear c70 c71 c72 c73 c74; obtain ⟨c70, c71, c72, c73, c74⟩ := cells5 c7; clear c4; have c4 := c4x; clear c4x; obtain ⟨c40, c41, c42, c43, c44, c45⟩ := cellsRp c4) | (fail))
    exact row_retv rfl rfl c4 Tryz.underlying33 sizeRp rfl ⟨rfl, _, _, _, c0, (o.wide (Nat.le_refl _) (by omega)).top, hK⟩
  by_cases v9 : V = 9
  · subst v9
    have e : doK ⟨I, X⟩ ⟨9, N2, F2, U2, B2, C2, D2, Q2⟩ = (⟨I, X⟩, rp 4) := by
      simp [doK, HLK.out]
    have eZ := hDK.out.symm.trans e
    clear e hDK
    obtain ⟨rfl, rfl⟩ := Prod.mk.inj eZ
    have mk7 : Hid True := trivial
    go_wp2_with (first | (clear mk7; refine wpList_store_v rfl 33 _ _ rfl b4 [.int .i64 4, .string ⟨#[]⟩, .int .i64 0, .string ⟨#[]⟩, .int .i64 0, .int .i64 0] rfl rfl sizeRp c4 rfl (oneRp (rp 4)) ?_; intro w7 hO7 c4x; clear c40 c41 c42 c43 c44 c45; have hz7 : w6.heap.size ≤ w7.heap.size := (Nat.le_of_eq hO7.1.symm); have hy7 : w7.heap.size ≤ w6.heap.size := (Nat.le_of_eq hO7.1); replace o := o.only hO7 c4 (by decide); replace c0 := vblk_only c0 hO7 (by omega); replace c3 := vblk_only c3 hO7 (by omega); replace c6 := vblk_only c6 hO7 (by omega); replace c7 := vblk_only c7 hO7 (by omega); replace hK := hK.new hO7 (by omega); clear c00 c01; obtain ⟨c00, c01⟩ := cells2 c0; clear c30 c31 c32 c33 c34 c35 c36 c37; obtain ⟨c30, c31, c32, c33, c34, c35, c36, c37⟩ := cellsCm c3; clear c60 c61 c62 c63 c64; obtain ⟨c60, c61, c62, c63, c64⟩ := cells5 c6; clear c70 c71 c72 c73 c74; obtain ⟨c70, c71, c72, c73, c74⟩ := cells5 c7; clear c4; have c4 := c4x; clear c4x; obtain ⟨c40, c41, c42, c43, c44, c45⟩ := cellsRp c4) | (fail))
    exact row_retv rfl rfl c4 Tryz.underlying33 sizeRp rfl ⟨rfl, _, _, _, c0, (o.wide (Nat.le_refl _) (by omega)).top, hK⟩
  by_cases v10 : V = 10
  · subst v10
    have e : doK ⟨I, X⟩ ⟨10, N2, F2, U2, B2, C2, D2, Q2⟩ = (⟨I, X⟩, rp 4) := by
      simp [doK, HLK.out]
    have eZ := hDK.out.symm.trans e
    clear e hDK
    obtain ⟨rfl, rfl⟩ := Prod.mk.inj eZ
    have mk7 : Hid True := trivial
    go_wp2_with (first | (clear mk7; refine wpList_store_v rfl 33 _ _ rfl b4 [.int .i64 4, .string ⟨#[]⟩, .int .i64 0, .string ⟨#[]⟩, .int .i64 0, .int .i64 0] rfl rfl sizeRp c4 rfl (oneRp (rp 4)) ?_; intro w7 hO7 c4x; clear c40 c41 c42 c43 c44 c45; have hz7 : w6.heap.size ≤ w7.heap.size := (Nat.le_of_eq hO7.1.symm); have hy7 : w7.heap.size ≤ w6.heap.size := (Nat.le_of_eq hO7.1); replace o := o.only hO7 c4 (by decide); replace c0 := vblk_only c0 hO7 (by omega); replace c3 := vblk_only c3 hO7 (by omega); replace c6 := vblk_only c6 hO7 (by omega); replace c7 := vblk_only c7 hO7 (by omega); replace hK := hK.new hO7 (by omega); clear c00 c01; obtain ⟨c00, c01⟩ := cells2 c0; clear c30 c31 c32 c33 c34 c35 c36 c37; obtain ⟨c30, c31, c32, c33, c34, c35, c36, c37⟩ := cellsCm c3; clear c60 c61 c62 c63 c64; obtain ⟨c60, c61, c62, c63, c64⟩ := cells5 c6; clear c70 c71 c72 c73 c74; obtain ⟨c70, c71, c72, c73, c74⟩ := cells5 c7; clear c4; have c4 := c4x; clear c4x; obtain ⟨c40, c41, c42, c43, c44, c45⟩ := cellsRp c4) | (fail))
    exact row_retv rfl rfl c4 Tryz.underlying33 sizeRp rfl ⟨rfl, _, _, _, c0, (o.wide (Nat.le_refl _) (by omega)).top, hK⟩
  by_cases v11 : V = 11
  · subst v11
    have e : doK ⟨I, X⟩ ⟨11, N2, F2, U2, B2, C2, D2, Q2⟩ = (⟨I, X⟩, rp 4) := by
      simp [doK, HLK.out]
    have eZ := hDK.out.symm.trans e
    clear e hDK
    obtain ⟨rfl, rfl⟩ := Prod.mk.inj eZ
    have mk7 : Hid True := trivial
    go_wp2_with (first | (clear mk7; refine wpList_store_v rfl 33 _ _ rfl b4 [.int .i64 4, .string ⟨#[]⟩, .int .i64 0, .string ⟨#[]⟩, .int .i64 0, .int .i64 0] rfl rfl sizeRp c4 rfl (oneRp (rp 4)) ?_; intro w7 hO7 c4x; clear c40 c41 c42 c43 c44 c45; have hz7 : w6.heap.size ≤ w7.heap.size := (Nat.le_of_eq hO7.1.symm); have hy7 : w7.heap.size ≤ w6.heap.size := (Nat.le_of_eq hO7.1); replace o := o.only hO7 c4 (by decide); replace c0 := vblk_only c0 hO7 (by omega); replace c3 := vblk_only c3 hO7 (by omega); replace c6 := vblk_only c6 hO7 (by omega); replace c7 := vblk_only c7 hO7 (by omega); replace hK := hK.new hO7 (by omega); clear c00 c01; obtain ⟨c00, c01⟩ := cells2 c0; clear c30 c31 c32 c33 c34 c35 c36 c37; obtain ⟨c30, c31, c32, c33, c34, c35, c36, c37⟩ := cellsCm c3; clear c60 c61 c62 c63 c64; obtain ⟨c60, c61, c62, c63, c64⟩ := cells5 c6; clear c70 c71 c72 c73 c74; obtain ⟨c70, c71, c72, c73, c74⟩ := cells5 c7; clear c4; have c4 := c4x; clear c4x; obtain ⟨c40, c41, c42, c43, c44, c45⟩ := cellsRp c4) | (fail))
    exact row_retv rfl rfl c4 Tryz.underlying33 sizeRp rfl ⟨rfl, _, _, _, c0, (o.wide (Nat.le_refl _) (by omega)).top, hK⟩
  by_cases v12 : V = 12
  · subst v12
    have e : doK ⟨I, X⟩ ⟨12, N2, F2, U2, B2, C2, D2, Q2⟩ = (⟨I, X⟩, rp 4) := by
      simp [doK, HLK.out]
    have eZ := hDK.out.symm.trans e
    clear e hDK
    obtain ⟨rfl, rfl⟩ := Prod.mk.inj eZ
    have mk7 : Hid True := trivial
    go_wp2_with (first | (clear mk7; refine wpList_store_v rfl 33 _ _ rfl b4 [.int .i64 4, .string ⟨#[]⟩, .int .i64 0, .string ⟨#[]⟩, .int .i64 0, .int .i64 0] rfl rfl sizeRp c4 rfl (oneRp (rp 4)) ?_; intro w7 hO7 c4x; clear c40 c41 c42 c43 c44 c45; have hz7 : w6.heap.size ≤ w7.heap.size := (Nat.le_of_eq hO7.1.symm); have hy7 : w7.heap.size ≤ w6.heap.size := (Nat.le_of_eq hO7.1); replace o := o.only hO7 c4 (by decide); replace c0 := vblk_only c0 hO7 (by omega); replace c3 := vblk_only c3 hO7 (by omega); replace c6 := vblk_only c6 hO7 (by omega); replace c7 := vblk_only c7 hO7 (by omega); replace hK := hK.new hO7 (by omega); clear c00 c01; obtain ⟨c00, c01⟩ := cells2 c0; clear c30 c31 c32 c33 c34 c35 c36 c37; obtain ⟨c30, c31, c32, c33, c34, c35, c36, c37⟩ := cellsCm c3; clear c60 c61 c62 c63 c64; obtain ⟨c60, c61, c62, c63, c64⟩ := cells5 c6; clear c70 c71 c72 c73 c74; obtain ⟨c70, c71, c72, c73, c74⟩ := cells5 c7; clear c4; have c4 := c4x; clear c4x; obtain ⟨c40, c41, c42, c43, c44, c45⟩ := cellsRp c4) | (fail))
    exact row_retv rfl rfl c4 Tryz.underlying33 sizeRp rfl ⟨rfl, _, _, _, c0, (o.wide (Nat.le_refl _) (by omega)).top, hK⟩
  by_cases v13 : V = 13
  · subst v13
    have e : doK ⟨I, X⟩ ⟨13, N2, F2, U2, B2, C2, D2, Q2⟩ = (⟨[], X⟩, rp 9) := by
      simp [doK]
    have eZ := hDK.out.symm.trans e
    clear e hDK
    obtain ⟨rfl, rfl⟩ := Prod.mk.inj eZ
    obtain ⟨iT, hiT⟩ := infoItE
    have mk7 : Hid True := trivial
    have mk8 : Hid True := trivial
    have mk9 : Hid True := trivial
    go_wp2_with (first | (clear mk7; refine wpList_build0 rfl 29 _ iT rfl Tryz.underlying29 hiT ?_; intro bE w7 hB7; have hz7 : w6.heap.size ≤ w7.heap.size := hB7.size; replace o := o.grow hB7; replace c0 := vblk_grow c0 hB7; replace c3 := vblk_grow c3 hB7; replace c4 := vblk_grow c4 hB7; replace c6 := vblk_grow c6 hB7; replace c7 := vblk_grow c7 hB7; replace hK := hK.trans (Onk.of_below hB7); clear c00 c01; obtain ⟨c00, c01⟩ := cells2 c0; clear c30 c31 c32 c33 c34 c35 c36 c37; obtain ⟨c30, c31, c32, c33, c34, c35, c36, c37⟩ := cellsCm c3; clear c40 c41 c42 c43 c44 c45; obtain ⟨c40, c41, c42, c43, c44, c45⟩ := cellsRp c4; clear c60 c61 c62 c63 c64; obtain ⟨c60, c61, c62, c63, c64⟩ := cells5 c6; clear c70 c71 c72 c73 c74; obtain ⟨c70, c71, c72, c73, c74⟩ := cells5 c7) | (clear mk8; refine wpList_store_cell rfl 29 _ _ rfl b0 0 (.slice (some ⟨bE, 0, none⟩) 0 0) rfl rfl rfl szL1 c0 (by simp) ?_; intro w8 hO8 c0x; clear c00 c01; have hz8 : w7.heap.size ≤ w8.heap.size := (Nat.le_of_eq hO8.1.symm); have hy8 : w8.heap.size ≤ w7.heap.size := (Nat.le_of_eq hO8.1); replace o := o.only hO8 c0 (by decide); replace c3 := vblk_only c3 hO8 (by omega); replace c4 := vblk_only c4 hO8 (by omega); replace c6 := vblk_only c6 hO8 (by omega); replace c7 := vblk_only c7 hO8 (by omega); replace hK := hK.trans (Onk.only hO8); clear c30 c31 c32 c33 c34 c35 c36 c37; obtain ⟨c30, c31, c32, c33, c34, c35, c36, c37⟩ := cellsCm c3; clear c40 c41 c42 c43 c44 c45; obtain ⟨c40, c41, c42, c43, c44, c45⟩ := cellsRp c4; clear c60 c61 c62 c63 c64; obtain ⟨c60, c61, c62, c63, c64⟩ := cells5 c6; clear c70 c71 c72 c73 c74; obtain ⟨c70, c71, c72, c73, c74⟩ := cells5 c7; clear c0; have c0 : VBlk w8 b0 31 [.slice (some ⟨bE, 0, none⟩) 0 0, .int .i64 X] := c0x; clear c0x) | (clear mk9; refine wpList_store_v rfl 33 _ _ rfl b4 [.int .i64 9, .string ⟨#[]⟩, .int .i64 0, .string ⟨#[]⟩, .int .i64 0, .int .i64 0] rfl rfl sizeRp c4 rfl (oneRp (rp 9)) ?_; intro w9 hO9 c4x; clear c40 c41 c42 c43 c44 c45; have hz9 : w8.heap.size ≤ w9.heap.size := (Nat.le_of_eq hO9.1.symm); have hy9 : w9.heap.size ≤ w8.heap.size := (Nat.le_of_eq hO9.1); replace o := o.only hO9 c4 (by decide); replace c3 := vblk_only c3 hO9 (by omega); replace c6 := vblk_only c6 hO9 (by omega); replace c7 := vblk_only c7 hO9 (by omega); replace c0 := vblk_only c0 hO9 (by omega); replace hK := hK.new hO9 (by omega); clear c30 c31 c32 c33 c34 c35 c36 c37; obtain ⟨c30, c31, c32, c33, c34, c35, c36, c37⟩ := cellsCm c3; clear c60 c61 c62 c63 c64; obtain ⟨c60, c61, c62, c63, c64⟩ := cells5 c6; clear c70 c71 c72 c73 c74; obtain ⟨c70, c71, c72, c73, c74⟩ := cells5 c7; clear c4; have c4 := c4x; clear c4x; obtain ⟨c40, c41, c42, c43, c44, c45⟩ := cellsRp c4) | (fail))
    exact row_retv rfl rfl c4 Tryz.underlying33 sizeRp rfl ⟨rfl, _, _, _, c0, own_zero _ _ _ _ _, hK⟩
  omega
end Go.Proofs.YtjkkjpgebcnhgaaGreatDoor.rg
/- The model's l13Do, where the thing is there. -/
namespace Go.Proofs.YtjkkjpgebcnhgaaGreatDoor.rg
open Go.ChangeShapes Go.WideShapes Go.ChangeAt Go.RowKit
open Go.Deep Go.Joins
open Go.Proofs.YtjkkjpgebcnhgaaGreatDoor.ce Go.Proofs.YtjkkjpgebcnhgaaGreatDoor.ro Go.Proofs.YtjkkjpgebcnhgaaGreatDoor.cm
set_option linter.unusedVariables false

set_option maxRecDepth 100000 in
set_option maxHeartbeats 8000000 in
theorem l13Do_s0 (I : List It) (X : Int) (N B : ByteArray) (F C U : Int) (V : Int) (N2 : ByteArray) (F2 U2 : Int) (B2 : ByteArray) (C2 D2 : Int) (Q2 : Bool) (b0 lo n0 k0 : Nat) (A0 : Option Addr) (w : World) (c0 : VBlk w b0 31 [.slice A0 n0 k0, .int .i64 X]) (hlo : lo ≤ b0) (o : Own encIt w lo w.heap.size (.slice A0 n0 k0) I) (ok : StOk ⟨I, X⟩) (hc : COk ⟨V, N2, F2, U2, B2, C2, D2, Q2⟩) (hlk : lookI I N2 = some ⟨N, F, B, C, U⟩) (hV : V = 1 ∨ V = 2 ∨ V = 3) :
    Calls Tryz.prog 35 #[.pointer (some ⟨b0, 0, none⟩), .agg #[.int .i64 V, .string N2, .int .i64 F2, .int .i64 U2, .string B2, .int .i64 C2, .int .i64 D2, .bool Q2]] w fun e w' => PostM (doK ⟨I, X⟩ ⟨V, N2, F2, U2, B2, C2, D2, Q2⟩).1 (doK ⟨I, X⟩ ⟨V, N2, F2, U2, B2, C2, D2, Q2⟩).2 b0 lo w e w' := by
  have hv0 := hc.v0
  have hv1 := hc.v1
  have hd1 := hc.d1
  have hb1 := hc.b1
  have hnm := hc.nm
  dsimp only at hv0 hv1 hd1 hb1 hnm
  have hl20 := len_of ok
  have hK := Onk.refl b0 lo w
  have hlt0 := c0.lt
  have hzw0 : w.heap.size ≤ w.heap.size := Nat.le_refl _
  have szB2 : B2.size ≤ 1048576 := by omega
  have OK : Hid _ := ok
  have HNM : Hid _ := hnm
  have hlk' := hlk
  obtain ⟨hmem, hnn, k, hk, hk2, hk3⟩ := look_some hlk
  have hit := itemB_iff.1 (ok.bk.1 _ hmem)
  dsimp only at hnn
  have hN : N.size ≤ 1048576 := by have := nm_small hit.nm; dsimp only at this; omega
  have hBs : B.size ≤ 1048576 := by have := hit.b1; dsimp only at this; omega
  have hN2 : N2.size ≤ 1048576 := by rw [← hnn]; exact hN
  have hf : Hid (findI I N2 = k) := hk2
  have HX : Hid (I[k] = ⟨N, F, B, C, U⟩) := hk3
  have HLK : Hid _ := hlk
  have HNN : Hid (N = N2) := hnn
  obtain ⟨g, cap, eg, hg1, hg2, hg3⟩ := o.form (by omega)
  obtain ⟨rfl, rfl, rfl⟩ : A0 = some ⟨g, 0, none⟩ ∧ n0 = I.length ∧ k0 = cap := by simpa using eg
  have hk0' : (0 : Int) ≤ (k : Int) := by omega
  have hkn : (k : Int) < (I.length : Int) := by omega
  have hge : decide (((k : Nat) : Int) ≥ 0) = true := decide_eq_true (by omega)
  have hgl : decide (((k : Nat) : Int) < 0) = false := decide_eq_false (by omega)
  clear hlk hlk' hmem hnn hk2 hk3 eg hit ok hc hnm
  obtain ⟨⟨Bz, Rz⟩, hDK⟩ := hid_ex (doK ⟨I, X⟩ ⟨V, N2, F2, U2, B2, C2, D2, Q2⟩)
  rw [hDK.out]
  unfold PostM
  dsimp only
  go_enter Tryz.func35, Tryz.ntmps35
  obtain ⟨c00, c01⟩ := cells2 c0
  have mk1 : Hid True := trivial
  have mk2 : Hid True := trivial
  go_upto_region 1 with (first | (clear mk1; refine wpList_box_v rfl 37 _ rfl [.int .i64 V, .string N2, .int .i64 F2, .int .i64 U2, .string B2, .int .i64 C2, .int .i64 D2, .bool Q2] rfl ?_; intro b3 w1 hb3 hwb3 hB1 c3; have hz1 : w.heap.size ≤ w1.heap.size := hB1.size; replace o := o.grow hB1; replace c0 := vblk_grow c0 hB1; replace hK := hK.trans (Onk.of_below hB1); clear c00 c01; obtain ⟨c00, c01⟩ := cells2 c0; obtain ⟨c30, c31, c32, c33, c34, c35, c36, c37⟩ := cellsCm c3) | (clear mk2; refine wpList_alloc_v rfl 33 rfl _ zeroRp ?_; intro b4 w2 hb4 hwb4 hB2 c4; have hz2 : w1.heap.size ≤ w2.heap.size := hB2.size; replace o := o.grow hB2; replace c0 := vblk_grow c0 hB2; replace c3 := vblk_grow c3 hB2; replace hK := hK.trans (Onk.of_below hB2); clear c00 c01; obtain ⟨c00, c01⟩ := cells2 c0; clear c30 c31 c32 c33 c34 c35 c36 c37; obtain ⟨c30, c31, c32, c33, c34, c35, c36, c37⟩ := cellsCm c3; obtain ⟨c40, c41, c42, c43, c44, c45⟩ := cellsRp c4) | (fail))
  have hKd : Below w2.heap.size w2 w2.drew := (Below.refl _ _).drew
  have hzd : w2.drew.heap.size ≤ w2.heap.size := Nat.le_refl _
  have hzd2 : w2.heap.size ≤ w2.drew.heap.size := Nat.le_refl _
  replace hK := hK.trans (Onk.of_below hKd)
  replace o := o.grow hKd
  replace c0 := vblk_grow c0 hKd
  clear c00 c01
  obtain ⟨c00, c01⟩ := cells2 c0
  replace c3 := vblk_grow c3 hKd
  clear c30 c31 c32 c33 c34 c35 c36 c37
  obtain ⟨c30, c31, c32, c33, c34, c35, c36, c37⟩ := cellsCm c3
  replace c4 := vblk_grow c4 hKd
  clear c40 c41 c42 c43 c44 c45
  obtain ⟨c40, c41, c42, c43, c44, c45⟩ := cellsRp c4
  have S1 : w2.drew.cell? ⟨b0, 0, none⟩ = some (.slice (some ⟨g, 0, none⟩) I.length k0) ∧ w2.drew.cell? ⟨b3, 1, none⟩ = some (.string N2) := ⟨c00, c31⟩
  go_region_held3 (fun w' => w'.cell? ⟨b0, 0, none⟩ = some (.slice (some ⟨g, 0, none⟩) I.length k0) ∧ w'.cell? ⟨b3, 1, none⟩ = some (.string N2)) (first | with_reducible assumption | with_reducible exact S1 | (fail)) (first | (go_at_call 26; refine (specFindItem_any I N2 _ _ o.rd).mono ?_; rintro er wq ⟨rfl, hq⟩; subst wq; rw [hf.out]; have S2 := S1) | (fail))
  clear S1 S2 hKd
  have mk3 : Hid True := trivial
  have mk4 : Hid True := trivial
  have mk5 : Hid True := trivial
  have mk6 : Hid True := trivial
  have mk7 : Hid True := trivial
  have mk8 : Hid True := trivial
  go_upto_region 7 with (first | (clear mk3; refine wpList_alloc_v rfl 56 rfl _ zeroIt ?_; intro b6 w3 hb6 hwb6 hB3 c6; have hz3 : w2.drew.heap.size ≤ w3.heap.size := hB3.size; replace o := o.grow hB3; replace c0 := vblk_grow c0 hB3; replace c3 := vblk_grow c3 hB3; replace c4 := vblk_grow c4 hB3; replace hK := hK.trans (Onk.of_below hB3); clear c00 c01; obtain ⟨c00, c01⟩ := cells2 c0; clear c30 c31 c32 c33 c34 c35 c36 c37; obtain ⟨c30, c31, c32, c33, c34, c35, c36, c37⟩ := cellsCm c3; clear c40 c41 c42 c43 c44 c45; obtain ⟨c40, c41, c42, c43, c44, c45⟩ := cellsRp c4; obtain ⟨c60, c61, c62, c63, c64⟩ := cells5 c6) | (clear mk4; refine wpList_store_v rfl 56 _ _ rfl b6 [.string ⟨#[]⟩, .int .i64 0, .string ⟨#[]⟩, .int .i64 0, .int .i64 0] rfl rfl sizeIt c6 rfl (ic_one ZIt) ?_; intro w4 hO4 c6x; clear c60 c61 c62 c63 c64; have hz4 : w3.heap.size ≤ w4.heap.size := (Nat.le_of_eq hO4.1.symm); have hy4 : w4.heap.size ≤ w3.heap.size := (Nat.le_of_eq hO4.1); replace o := o.below (hO4.2.2 b6 (Nat.le_refl _)) (by omega); replace c0 := vblk_only c0 hO4 (by omega); replace c3 := vblk_only c3 hO4 (by omega); replace c4 := vblk_only c4 hO4 (by omega); replace hK := hK.new hO4 (by omega); clear c00 c01; obtain ⟨c00, c01⟩ := cells2 c0; clear c30 c31 c32 c33 c34 c35 c36 c37; obtain ⟨c30, c31, c32, c33, c34, c35, c36, c37⟩ := cellsCm c3; clear c40 c41 c42 c43 c44 c45; obtain ⟨c40, c41, c42, c43, c44, c45⟩ := cellsRp c4; clear c6; have c6 := c6x; clear c6x; obtain ⟨c60, c61, c62, c63, c64⟩ := cells5 c6) | (clear mk5; refine wpList_load_r rfl 56 _ rfl g (k * 5) [.string N, .int .i64 F, .string B, .int .i64 C, .int .i64 U] rfl _ Tryz.underlying56 rfl sizeIt (own_at5 o hk HX.out) ?_) | (clear mk6; refine wpList_store_v rfl 56 _ _ rfl b6 [.string N, .int .i64 F, .string B, .int .i64 C, .int .i64 U] rfl rfl sizeIt c6 rfl (ic_one ⟨N, F, B, C, U⟩) ?_; intro w5 hO5 c6x; clear c60 c61 c62 c63 c64; have hz5 : w4.heap.size ≤ w5.heap.size := (Nat.le_of_eq hO5.1.symm); have hy5 : w5.heap.size ≤ w4.heap.size := (Nat.le_of_eq hO5.1); replace o := o.below (hO5.2.2 b6 (Nat.le_refl _)) (by omega); replace c0 := vblk_only c0 hO5 (by omega); replace c3 := vblk_only c3 hO5 (by omega); replace c4 := vblk_only c4 hO5 (by omega); replace hK := hK.new hO5 (by omega); clear c00 c01; obtain ⟨c00, c01⟩ := cells2 c0; clear c30 c31 c32 c33 c34 c35 c36 c37; obtain ⟨c30, c31, c32, c33, c34, c35, c36, c37⟩ := cellsCm c3; clear c40 c41 c42 c43 c44 c45; obtain ⟨c40, c41, c42, c43, c44, c45⟩ := cellsRp c4; clear c6; have c6 := c6x; clear c6x; obtain ⟨c60, c61, c62, c63, c64⟩ := cells5 c6) | (clear mk7; refine wpList_alloc_v rfl 56 rfl _ zeroIt ?_; intro b7 w6 hb7 hwb7 hB6 c7; have hz6 : w5.heap.size ≤ w6.heap.size := hB6.size; replace o := o.grow hB6; replace c0 := vblk_grow c0 hB6; replace c3 := vblk_grow c3 hB6; replace c4 := vblk_grow c4 hB6; replace c6 := vblk_grow c6 hB6; replace hK := hK.trans (Onk.of_below hB6); clear c00 c01; obtain ⟨c00, c01⟩ := cells2 c0; clear c30 c31 c32 c33 c34 c35 c36 c37; obtain ⟨c30, c31, c32, c33, c34, c35, c36, c37⟩ := cellsCm c3; clear c40 c41 c42 c43 c44 c45; obtain ⟨c40, c41, c42, c43, c44, c45⟩ := cellsRp c4; clear c60 c61 c62 c63 c64; obtain ⟨c60, c61, c62, c63, c64⟩ := cells5 c6; obtain ⟨c70, c71, c72, c73, c74⟩ := cells5 c7) | (clear mk8; refine wpList_store_v rfl 56 _ _ rfl b7 [.string N2, .int .i64 F2, .string B2, .int .i64 0, .int .i64 U2] rfl rfl sizeIt c7 rfl (ic_one ⟨N2, F2, B2, 0, U2⟩) ?_; intro w7 hO7 c7x; clear c70 c71 c72 c73 c74; have hz7 : w6.heap.size ≤ w7.heap.size := (Nat.le_of_eq hO7.1.symm); have hy7 : w7.heap.size ≤ w6.heap.size := (Nat.le_of_eq hO7.1); replace o := o.below (hO7.2.2 b7 (Nat.le_refl _)) (by omega); replace c0 := vblk_only c0 hO7 (by omega); replace c3 := vblk_only c3 hO7 (by omega); replace c4 := vblk_only c4 hO7 (by omega); replace c6 := vblk_only c6 hO7 (by omega); replace hK := hK.new hO7 (by omega); clear c00 c01; obtain ⟨c00, c01⟩ := cells2 c0; clear c30 c31 c32 c33 c34 c35 c36 c37; obtain ⟨c30, c31, c32, c33, c34, c35, c36, c37⟩ := cellsCm c3; clear c40 c41 c42 c43 c44 c45; obtain ⟨c40, c41, c42, c43, c44, c45⟩ := cellsRp c4; clear c60 c61 c62 c63 c64; obtain ⟨c60, c61, c62, c63, c64⟩ := cells5 c6; clear c7; have c7 := c7x; clear c7x; obtain ⟨c70, c71, c72, c73, c74⟩ := cells5 c7) | (fail))
  by_cases v1 : V = 1
  · subst v1
    have e : doK ⟨I, X⟩ ⟨1, N2, F2, U2, B2, C2, D2, Q2⟩ = (⟨I, X⟩, ⟨5, N, F, B, 0, 0⟩) := by
      simp [doK, HLK.out]
    have eZ := hDK.out.symm.trans e
    clear e hDK
    obtain ⟨rfl, rfl⟩ := Prod.mk.inj eZ
    have mk9 : Hid True := trivial
    have mk10 : Hid True := trivial
    have mk11 : Hid True := trivial
    have mk12 : Hid True := trivial
    go_wp2_with (first | (clear mk9; refine wpList_alloc_v rfl 33 rfl _ zeroRp ?_; intro b8 w8 hb8 hwb8 hB8 c8; have hz8 : w7.heap.size ≤ w8.heap.size := hB8.size; replace o := o.grow hB8; replace c0 := vblk_grow c0 hB8; replace c3 := vblk_grow c3 hB8; replace c4 := vblk_grow c4 hB8; replace c6 := vblk_grow c6 hB8; replace c7 := vblk_grow c7 hB8; replace hK := hK.trans (Onk.of_below hB8); clear c00 c01; obtain ⟨c00, c01⟩ := cells2 c0; clear c30 c31 c32 c33 c34 c35 c36 c37; obtain ⟨c30, c31, c32, c33, c34, c35, c36, c37⟩ := cellsCm c3; clear c40 c41 c42 c43 c44 c45; obtain ⟨c40, c41, c42, c43, c44, c45⟩ := cellsRp c4; clear c60 c61 c62 c63 c64; obtain ⟨c60, c61, c62, c63, c64⟩ := cells5 c6; clear c70 c71 c72 c73 c74; obtain ⟨c70, c71, c72, c73, c74⟩ := cells5 c7; obtain ⟨c80, c81, c82, c83, c84, c85⟩ := cellsRp c8) | (clear mk10; refine wpList_store_v rfl 33 _ _ rfl b8 [.int .i64 5, .string N, .int .i64 F, .string B, .int .i64 0, .int .i64 0] rfl rfl sizeRp c8 rfl (oneRp ⟨5, N, F, B, 0, 0⟩) ?_; intro w9 hO9 c8x; clear c80 c81 c82 c83 c84 c85; have hz9 : w8.heap.size ≤ w9.heap.size := (Nat.le_of_eq hO9.1.symm); have hy9 : w9.heap.size ≤ w8.heap.size := (Nat.le_of_eq hO9.1); replace o := o.only hO9 c8 (by decide); replace c0 := vblk_only c0 hO9 (by omega); replace c3 := vblk_only c3 hO9 (by omega); replace c4 := vblk_only c4 hO9 (by omega); replace c6 := vblk_only c6 hO9 (by omega); replace c7 := vblk_only c7 hO9 (by omega); replace hK := hK.new hO9 (by omega); clear c00 c01; obtain ⟨c00, c01⟩ := cells2 c0; clear c30 c31 c32 c33 c34 c35 c36 c37; obtain ⟨c30, c31, c32, c33, c34, c35, c36, c37⟩ := cellsCm c3; clear c40 c41 c42 c43 c44 c45; obtain ⟨c40, c41, c42, c43, c44, c45⟩ := cellsRp c4; clear c60 c61 c62 c63 c64; obtain ⟨c60, c61, c62, c63, c64⟩ := cells5 c6; clear c70 c71 c72 c73 c74; obtain ⟨c70, c71, c72, c73, c74⟩ := cells5 c7; clear c8; have c8 := c8x; clear c8x; obtain ⟨c80, c81, c82, c83, c84, c85⟩ := cellsRp c8) | (clear mk11; refine wpList_load_r rfl 33 _ rfl b8 0 [.int .i64 5, .string N, .int .i64 F, .string B, .int .i64 0, .int .i64 0] rfl _ Tryz.underlying33 rfl sizeRp c8.range ?_) | (clear mk12; refine wpList_store_v rfl 33 _ _ rfl b4 [.int .i64 5, .string N, .int .i64 F, .string B, .int .i64 0, .int .i64 0] rfl rfl sizeRp c4 rfl (oneRp ⟨5, N, F, B, 0, 0⟩) ?_; intro w10 hO10 c4x; clear c40 c41 c42 c43 c44 c45; have hz10 : w9.heap.size ≤ w10.heap.size := (Nat.le_of_eq hO10.1.symm); have hy10 : w10.heap.size ≤ w9.heap.size := (Nat.le_of_eq hO10.1); replace o := o.only hO10 c4 (by decide); replace c0 := vblk_only c0 hO10 (by omega); replace c3 := vblk_only c3 hO10 (by omega); replace c6 := vblk_only c6 hO10 (by omega); replace c7 := vblk_only c7 hO10 (by omega); replace c8 := vblk_only c8 hO10 (by omega); replace hK := hK.new hO10 (by omega); clear c00 c01; obtain ⟨c00, c01⟩ := cells2 c0; clear c30 c31 c32 c33 c34 c35 c36 c37; obtain ⟨c30, c31, c32, c33, c34, c35, c36, c37⟩ := cellsCm c3; clear c60 c61 c62 c63 c64; obtain ⟨c60, c61, c62, c63, c64⟩ := cells5 c6; clear c70 c71 c72 c73 c74; obtain ⟨c70, c71, c72, c73, c74⟩ := cells5 c7; clear c80 c81 c82 c83 c84 c85; obtain ⟨c80, c81, c82, c83, c84, c85⟩ := cellsRp c8; clear c4; have c4 := c4x; clear c4x; obtain ⟨c40, c41, c42, c43, c44, c45⟩ := cellsRp c4) | (fail))
    exact row_retv rfl rfl c4 Tryz.underlying33 sizeRp rfl ⟨rfl, _, _, _, c0, (o.wide (Nat.le_refl _) (by omega)).top, hK⟩
  by_cases v2 : V = 2
  · subst v2
    have e : doK ⟨I, X⟩ ⟨2, N2, F2, U2, B2, C2, D2, Q2⟩ = (⟨I, X⟩, ⟨5, N, F, B, C, 0⟩) := by
      simp [doK, HLK.out]
    have eZ := hDK.out.symm.trans e
    clear e hDK
    obtain ⟨rfl, rfl⟩ := Prod.mk.inj eZ
    have mk9 : Hid True := trivial
    have mk10 : Hid True := trivial
    have mk11 : Hid True := trivial
    have mk12 : Hid True := trivial
    have mk13 : Hid True := trivial
    go_wp2_with (first | (clear mk9; refine wpList_alloc_v rfl 33 rfl _ zeroRp ?_; intro b8 w8 hb8 hwb8 hB8 c8; have hz8 : w7.heap.size ≤ w8.heap.size := hB8.size; replace o := o.grow hB8; replace c0 := vblk_grow c0 hB8; replace c3 := vblk_grow c3 hB8; replace c4 := vblk_grow c4 hB8; replace c6 := vblk_grow c6 hB8; replace c7 := vblk_grow c7 hB8; replace hK := hK.trans (Onk.of_below hB8); clear c00 c01; obtain ⟨c00, c01⟩ := cells2 c0; clear c30 c31 c32 c33 c34 c35 c36 c37; obtain ⟨c30, c31, c32, c33, c34, c35, c36, c37⟩ := cellsCm c3; clear c40 c41 c42 c43 c44 c45; obtain ⟨c40, c41, c42, c43, c44, c45⟩ := cellsRp c4; clear c60 c61 c62 c63 c64; obtain ⟨c60, c61, c62, c63, c64⟩ := cells5 c6; clear c70 c71 c72 c73 c74; obtain ⟨c70, c71, c72, c73, c74⟩ := cells5 c7; obtain ⟨c80, c81, c82, c83, c84, c85⟩ := cellsRp c8) | (clear mk10; refine wpList_store_v rfl 33 _ _ rfl b8 [.int .i64 5, .string N, .int .i64 F, .string B, .int .i64 0, .int .i64 0] rfl rfl sizeRp c8 rfl (oneRp ⟨5, N, F, B, 0, 0⟩) ?_; intro w9 hO9 c8x; clear c80 c81 c82 c83 c84 c85; have hz9 : w8.heap.size ≤ w9.heap.size := (Nat.le_of_eq hO9.1.symm); have hy9 : w9.heap.size ≤ w8.heap.size := (Nat.le_of_eq hO9.1); replace o := o.only hO9 c8 (by decide); replace c0 := vblk_only c0 hO9 (by omega); replace c3 := vblk_only c3 hO9 (by omega); replace c4 := vblk_only c4 hO9 (by omega); replace c6 := vblk_only c6 hO9 (by omega); replace c7 := vblk_only c7 hO9 (by omega); replace hK := hK.new hO9 (by omega); clear c00 c01; obtain ⟨c00, c01⟩ := cells2 c0; clear c30 c31 c32 c33 c34 c35 c36 c37; obtain ⟨c30, c31, c32, c33, c34, c35, c36, c37⟩ := cellsCm c3; clear c40 c41 c42 c43 c44 c45; obtain ⟨c40, c41, c42, c43, c44, c45⟩ := cellsRp c4; clear c60 c61 c62 c63 c64; obtain ⟨c60, c61, c62, c63, c64⟩ := cells5 c6; clear c70 c71 c72 c73 c74; obtain ⟨c70, c71, c72, c73, c74⟩ := cells5 c7; clear c8; have c8 := c8x; clear c8x; obtain ⟨c80, c81, c82, c83, c84, c85⟩ := cellsRp c8) | (clear mk11; refine wpList_store_cell rfl 2 _ _ rfl b8 4 (.int .i64 C) rfl rfl rfl szI1 c8 (by simp) ?_; intro w10 hO10 c8x; clear c80 c81 c82 c83 c84 c85; have hz10 : w9.heap.size ≤ w10.heap.size := (Nat.le_of_eq hO10.1.symm); have hy10 : w10.heap.size ≤ w9.heap.size := (Nat.le_of_eq hO10.1); replace o := o.only hO10 c8 (by decide); replace c0 := vblk_only c0 hO10 (by omega); replace c3 := vblk_only c3 hO10 (by omega); replace c4 := vblk_only c4 hO10 (by omega); replace c6 := vblk_only c6 hO10 (by omega); replace c7 := vblk_only c7 hO10 (by omega); replace hK := hK.new hO10 (by omega); clear c00 c01; obtain ⟨c00, c01⟩ := cells2 c0; clear c30 c31 c32 c33 c34 c35 c36 c37; obtain ⟨c30, c31, c32, c33, c34, c35, c36, c37⟩ := cellsCm c3; clear c40 c41 c42 c43 c44 c45; obtain ⟨c40, c41, c42, c43, c44, c45⟩ := cellsRp c4; clear c60 c61 c62 c63 c64; obtain ⟨c60, c61, c62, c63, c64⟩ := cells5 c6; clear c70 c71 c72 c73 c74; obtain ⟨c70, c71, c72, c73, c74⟩ := cells5 c7; clear c8; have c8 : VBlk w10 b8 33 [.int .i64 5, .string N, .int .i64 F, .string B, .int .i64 C, .int .i64 0] := c8x; clear c8x; obtain ⟨c80, c81, c82, c83, c84, c85⟩ := cellsRp c8) | (clear mk12; refine wpList_load_r rfl 33 _ rfl b8 0 [.int .i64 5, .string N, .int .i64 F, .string B, .int .i64 C, .int .i64 0] rfl _ Tryz.underlying33 rfl sizeRp c8.range ?_) | (clear mk13; refine wpList_store_v rfl 33 _ _ rfl b4 [.int .i64 5, .string N, .int .i64 F, .string B, .int .i64 C, .int .i64 0] rfl rfl sizeRp c4 rfl (oneRp ⟨5, N, F, B, C, 0⟩) ?_; intro w11 hO11 c4x; clear c40 c41 c42 c43 c44 c45; have hz11 : w10.heap.size ≤ w11.heap.size := (Nat.le_of_eq hO11.1.symm); have hy11 : w11.heap.size ≤ w10.heap.size := (Nat.le_of_eq hO11.1); replace o := o.only hO11 c4 (by decide); replace c0 := vblk_only c0 hO11 (by omega); replace c3 := vblk_only c3 hO11 (by omega); replace c6 := vblk_only c6 hO11 (by omega); replace c7 := vblk_only c7 hO11 (by omega); replace c8 := vblk_only c8 hO11 (by omega); replace hK := hK.new hO11 (by omega); clear c00 c01; obtain ⟨c00, c01⟩ := cells2 c0; clear c30 c31 c32 c33 c34 c35 c36 c37; obtain ⟨c30, c31, c32, c33, c34, c35, c36, c37⟩ := cellsCm c3; clear c60 c61 c62 c63 c64; obtain ⟨c60, c61, c62, c63, c64⟩ := cells5 c6; clear c70 c71 c72 c73 c74; obtain ⟨c70, c71, c72, c73, c74⟩ := cells5 c7; clear c80 c81 c82 c83 c84 c85; obtain ⟨c80, c81, c82, c83, c84, c85⟩ := cellsRp c8; clear c4; have c4 := c4x; clear c4x; obtain ⟨c40, c41, c42, c43, c44, c45⟩ := cellsRp c4) | (fail))
    exact row_retv rfl rfl c4 Tryz.underlying33 sizeRp rfl ⟨rfl, _, _, _, c0, (o.wide (Nat.le_refl _) (by omega)).top, hK⟩
  by_cases v3 : V = 3
  · subst v3
    have e : doK ⟨I, X⟩ ⟨3, N2, F2, U2, B2, C2, D2, Q2⟩ = keepK ⟨I, X⟩ ⟨N2, F2, B2, 0, U2⟩ := by
      simp [doK, fresh]
    have eZ := hDK.out.symm.trans e
    clear e hDK
    have hN2x : N2.size ≤ 1048576 := by have := nm_small (HNM.out (by decide)); omega
    have HS := fun w c0 o => l13Keep_any I X N2 B2 F2 0 U2 b0 lo I.length k0 (some ⟨g, 0, none⟩) w c0 hlo o OK.out hN2x szB2
    unfold PostM at HS
    obtain ⟨⟨⟨J, Y⟩, ⟨r1, r2, r3, r4, r5, r6⟩⟩, hR⟩ := hid_ex (keepK ⟨I, X⟩ ⟨N2, F2, B2, 0, U2⟩)
    rw [hR.out] at HS eZ
    obtain ⟨rfl, rfl⟩ := Prod.mk.inj eZ
    have HH : Hid _ := HS
    clear HS hR eZ
    dsimp only [csRp] at HH
    have mk9 : Hid True := trivial
    have mk10 : Hid True := trivial
    have mk11 : Hid True := trivial
    go_wp2_with (first | (clear mk9; refine wpList_load_r rfl 56 _ rfl b7 0 [.string N2, .int .i64 F2, .string B2, .int .i64 0, .int .i64 U2] rfl _ Tryz.underlying56 rfl sizeIt c7.range ?_) | (clear mk10; go_at_call 65; refine (HH.out _ c0 (o.wide (Nat.le_refl _) (by omega))).mono ?_; rintro er w8 ⟨rfl, A1, n1, k1, c0n, o1, hM8⟩; have hz8 : w7.heap.size ≤ w8.heap.size := hM8.size; replace c3 := hM8.vblk c3 (by omega) (by decide); replace c4 := hM8.vblk c4 (by omega) (by decide); replace hK := hK.trans hM8; clear c0 c00 c01 c60 c61 c62 c63 c64 c70 c71 c72 c73 c74 c6 c7; have c0 := c0n; clear c0n; clear c30 c31 c32 c33 c34 c35 c36 c37; obtain ⟨c30, c31, c32, c33, c34, c35, c36, c37⟩ := cellsCm c3; clear c40 c41 c42 c43 c44 c45; obtain ⟨c40, c41, c42, c43, c44, c45⟩ := cellsRp c4) | (clear mk11; refine wpList_store_v rfl 33 _ _ rfl b4 [.int .i64 r1, .string r2, .int .i64 r3, .string r4, .int .i64 r5, .int .i64 r6] rfl rfl sizeRp c4 rfl (oneRp ⟨r1, r2, r3, r4, r5, r6⟩) ?_; intro w9 hO9 c4x; clear c40 c41 c42 c43 c44 c45; have hz9 : w8.heap.size ≤ w9.heap.size := (Nat.le_of_eq hO9.1.symm); have hy9 : w9.heap.size ≤ w8.heap.size := (Nat.le_of_eq hO9.1); replace o1 := o1.only hO9 c4 (by decide); replace c0 := vblk_only c0 hO9 (by omega); replace c3 := vblk_only c3 hO9 (by omega); replace hK := hK.new hO9 (by omega); clear c30 c31 c32 c33 c34 c35 c36 c37; obtain ⟨c30, c31, c32, c33, c34, c35, c36, c37⟩ := cellsCm c3; clear c4; have c4 := c4x; clear c4x; obtain ⟨c40, c41, c42, c43, c44, c45⟩ := cellsRp c4) | (fail))
    exact row_retv rfl rfl c4 Tryz.underlying33 sizeRp rfl ⟨rfl, A1, n1, k1, c0, (o1.wide (Nat.le_refl _) (by omega)).top, hK⟩
  omega
end Go.Proofs.YtjkkjpgebcnhgaaGreatDoor.rg
/- The model's l13Do, where the thing is there. -/
namespace Go.Proofs.YtjkkjpgebcnhgaaGreatDoor.rg
open Go.ChangeShapes Go.WideShapes Go.ChangeAt Go.RowKit
open Go.Deep Go.Joins
open Go.Proofs.YtjkkjpgebcnhgaaGreatDoor.ce Go.Proofs.YtjkkjpgebcnhgaaGreatDoor.ro Go.Proofs.YtjkkjpgebcnhgaaGreatDoor.cm
set_option linter.unusedVariables false

set_option maxRecDepth 100000 in
set_option maxHeartbeats 8000000 in
theorem l13Do_s1 (I : List It) (X : Int) (N B : ByteArray) (F C U : Int) (V : Int) (N2 : ByteArray) (F2 U2 : Int) (B2 : ByteArray) (C2 D2 : Int) (Q2 : Bool) (b0 lo n0 k0 : Nat) (A0 : Option Addr) (w : World) (c0 : VBlk w b0 31 [.slice A0 n0 k0, .int .i64 X]) (hlo : lo ≤ b0) (o : Own encIt w lo w.heap.size (.slice A0 n0 k0) I) (ok : StOk ⟨I, X⟩) (hc : COk ⟨V, N2, F2, U2, B2, C2, D2, Q2⟩) (hlk : lookI I N2 = some ⟨N, F, B, C, U⟩) (hV : V = 4 ∨ V = 5 ∨ V = 6) :
    Calls Tryz.prog 35 #[.pointer (some ⟨b0, 0, none⟩), .agg #[.int .i64 V, .string N2, .int .i64 F2, .int .i64 U2, .string B2, .int .i64 C2, .int .i64 D2, .bool Q2]] w fun e w' => PostM (doK ⟨I, X⟩ ⟨V, N2, F2, U2, B2, C2, D2, Q2⟩).1 (doK ⟨I, X⟩ ⟨V, N2, F2, U2, B2, C2, D2, Q2⟩).2 b0 lo w e w' := by
  have hv0 := hc.v0
  have hv1 := hc.v1
  have hd1 := hc.d1
  have hb1 := hc.b1
  have hnm := hc.nm
  dsimp only at hv0 hv1 hd1 hb1 hnm
  have hl20 := len_of ok
  have hK := Onk.refl b0 lo w
  have hlt0 := c0.lt
  have hzw0 : w.heap.size ≤ w.heap.size := Nat.le_refl _
  have szB2 : B2.size ≤ 1048576 := by omega
  have OK : Hid _ := ok
  have HNM : Hid _ := hnm
  have hlk' := hlk
  obtain ⟨hmem, hnn, k, hk, hk2, hk3⟩ := look_some hlk
  have hit := itemB_iff.1 (ok.bk.1 _ hmem)
  dsimp only at hnn
  have hN : N.size ≤ 1048576 := by have := nm_small hit.nm; dsimp only at this; omega
  have hBs : B.size ≤ 1048576 := by have := hit.b1; dsimp only at this; omega
  have hN2 : N2.size ≤ 1048576 := by rw [← hnn]; exact hN
  have hf : Hid (findI I N2 = k) := hk2
  have HX : Hid (I[k] = ⟨N, F, B, C, U⟩) := hk3
  have HLK : Hid _ := hlk
  have HNN : Hid (N = N2) := hnn
  obtain ⟨g, cap, eg, hg1, hg2, hg3⟩ := o.form (by omega)
  obtain ⟨rfl, rfl, rfl⟩ : A0 = some ⟨g, 0, none⟩ ∧ n0 = I.length ∧ k0 = cap := by simpa using eg
  have hk0' : (0 : Int) ≤ (k : Int) := by omega
  have hkn : (k : Int) < (I.length : Int) := by omega
  have hge : decide (((k : Nat) : Int) ≥ 0) = true := decide_eq_true (by omega)
  have hgl : decide (((k : Nat) : Int) < 0) = false := decide_eq_false (by omega)
  clear hlk hlk' hmem hnn hk2 hk3 eg hit ok hc hnm
  obtain ⟨⟨Bz, Rz⟩, hDK⟩ := hid_ex (doK ⟨I, X⟩ ⟨V, N2, F2, U2, B2, C2, D2, Q2⟩)
  rw [hDK.out]
  unfold PostM
  dsimp only
  go_enter Tryz.func35, Tryz.ntmps35
  obtain ⟨c00, c01⟩ := cells2 c0
  have mk1 : Hid True := trivial
  have mk2 : Hid True := trivial
  go_upto_region 1 with (first | (clear mk1; refine wpList_box_v rfl 37 _ rfl [.int .i64 V, .string N2, .int .i64 F2, .int .i64 U2, .string B2, .int .i64 C2, .int .i64 D2, .bool Q2] rfl ?_; intro b3 w1 hb3 hwb3 hB1 c3; have hz1 : w.heap.size ≤ w1.heap.size := hB1.size; replace o := o.grow hB1; replace c0 := vblk_grow c0 hB1; replace hK := hK.trans (Onk.of_below hB1); clear c00 c01; obtain ⟨c00, c01⟩ := cells2 c0; obtain ⟨c30, c31, c32, c33, c34, c35, c36, c37⟩ := cellsCm c3) | (clear mk2; refine wpList_alloc_v rfl 33 rfl _ zeroRp ?_; intro b4 w2 hb4 hwb4 hB2 c4; have hz2 : w1.heap.size ≤ w2.heap.size := hB2.size; replace o := o.grow hB2; replace c0 := vblk_grow c0 hB2; replace c3 := vblk_grow c3 hB2; replace hK := hK.trans (Onk.of_below hB2); clear c00 c01; obtain ⟨c00, c01⟩ := cells2 c0; clear c30 c31 c32 c33 c34 c35 c36 c37; obtain ⟨c30, c31, c32, c33, c34, c35, c36, c37⟩ := cellsCm c3; obtain ⟨c40, c41, c42, c43, c44, c45⟩ := cellsRp c4) | (fail))
  have hKd : Below w2.heap.size w2 w2.drew := (Below.refl _ _).drew
  have hzd : w2.drew.heap.size ≤ w2.heap.size := Nat.le_refl _
  have hzd2 : w2.heap.size ≤ w2.drew.heap.size := Nat.le_refl _
  replace hK := hK.trans (Onk.of_below hKd)
  replace o := o.grow hKd
  replace c0 := vblk_grow c0 hKd
  clear c00 c01
  obtain ⟨c00, c01⟩ := cells2 c0
  replace c3 := vblk_grow c3 hKd
  clear c30 c31 c32 c33 c34 c35 c36 c37
  obtain ⟨c30, c31, c32, c33, c34, c35, c36, c37⟩ := cellsCm c3
  replace c4 := vblk_grow c4 hKd
  clear c40 c41 c42 c43 c44 c45
  obtain ⟨c40, c41, c42, c43, c44, c45⟩ := cellsRp c4
  have S1 : w2.drew.cell? ⟨b0, 0, none⟩ = some (.slice (some ⟨g, 0, none⟩) I.length k0) ∧ w2.drew.cell? ⟨b3, 1, none⟩ = some (.string N2) := ⟨c00, c31⟩
  go_region_held3 (fun w' => w'.cell? ⟨b0, 0, none⟩ = some (.slice (some ⟨g, 0, none⟩) I.length k0) ∧ w'.cell? ⟨b3, 1, none⟩ = some (.string N2)) (first | with_reducible assumption | with_reducible exact S1 | (fail)) (first | (go_at_call 26; refine (specFindItem_any I N2 _ _ o.rd).mono ?_; rintro er wq ⟨rfl, hq⟩; subst wq; rw [hf.out]; have S2 := S1) | (fail))
  clear S1 S2 hKd
  have mk3 : Hid True := trivial
  have mk4 : Hid True := trivial
  have mk5 : Hid True := trivial
  have mk6 : Hid True := trivial
  have mk7 : Hid True := trivial
  have mk8 : Hid True := trivial
  go_upto_region 7 with (first | (clear mk3; refine wpList_alloc_v rfl 56 rfl _ zeroIt ?_; intro b6 w3 hb6 hwb6 hB3 c6; have hz3 : w2.drew.heap.size ≤ w3.heap.size := hB3.size; replace o := o.grow hB3; replace c0 := vblk_grow c0 hB3; replace c3 := vblk_grow c3 hB3; replace c4 := vblk_grow c4 hB3; replace hK := hK.trans (Onk.of_below hB3); clear c00 c01; obtain ⟨c00, c01⟩ := cells2 c0; clear c30 c31 c32 c33 c34 c35 c36 c37; obtain ⟨c30, c31, c32, c33, c34, c35, c36, c37⟩ := cellsCm c3; clear c40 c41 c42 c43 c44 c45; obtain ⟨c40, c41, c42, c43, c44, c45⟩ := cellsRp c4; obtain ⟨c60, c61, c62, c63, c64⟩ := cells5 c6) | (clear mk4; refine wpList_store_v rfl 56 _ _ rfl b6 [.string ⟨#[]⟩, .int .i64 0, .string ⟨#[]⟩, .int .i64 0, .int .i64 0] rfl rfl sizeIt c6 rfl (ic_one ZIt) ?_; intro w4 hO4 c6x; clear c60 c61 c62 c63 c64; have hz4 : w3.heap.size ≤ w4.heap.size := (Nat.le_of_eq hO4.1.symm); have hy4 : w4.heap.size ≤ w3.heap.size := (Nat.le_of_eq hO4.1); replace o := o.below (hO4.2.2 b6 (Nat.le_refl _)) (by omega); replace c0 := vblk_only c0 hO4 (by omega); replace c3 := vblk_only c3 hO4 (by omega); replace c4 := vblk_only c4 hO4 (by omega); replace hK := hK.new hO4 (by omega); clear c00 c01; obtain ⟨c00, c01⟩ := cells2 c0; clear c30 c31 c32 c33 c34 c35 c36 c37; obtain ⟨c30, c31, c32, c33, c34, c35, c36, c37⟩ := cellsCm c3; clear c40 c41 c42 c43 c44 c45; obtain ⟨c40, c41, c42, c43, c44, c45⟩ := cellsRp c4; clear c6; have c6 := c6x; clear c6x; obtain ⟨c60, c61, c62, c63, c64⟩ := cells5 c6) | (clear mk5; refine wpList_load_r rfl 56 _ rfl g (k * 5) [.string N, .int .i64 F, .string B, .int .i64 C, .int .i64 U] rfl _ Tryz.underlying56 rfl sizeIt (own_at5 o hk HX.out) ?_) | (clear mk6; refine wpList_store_v rfl 56 _ _ rfl b6 [.string N, .int .i64 F, .string B, .int .i64 C, .int .i64 U] rfl rfl sizeIt c6 rfl (ic_one ⟨N, F, B, C, U⟩) ?_; intro w5 hO5 c6x; clear c60 c61 c62 c63 c64; have hz5 : w4.heap.size ≤ w5.heap.size := (Nat.le_of_eq hO5.1.symm); have hy5 : w5.heap.size ≤ w4.heap.size := (Nat.le_of_eq hO5.1); replace o := o.below (hO5.2.2 b6 (Nat.le_refl _)) (by omega); replace c0 := vblk_only c0 hO5 (by omega); replace c3 := vblk_only c3 hO5 (by omega); replace c4 := vblk_only c4 hO5 (by omega); replace hK := hK.new hO5 (by omega); clear c00 c01; obtain ⟨c00, c01⟩ := cells2 c0; clear c30 c31 c32 c33 c34 c35 c36 c37; obtain ⟨c30, c31, c32, c33, c34, c35, c36, c37⟩ := cellsCm c3; clear c40 c41 c42 c43 c44 c45; obtain ⟨c40, c41, c42, c43, c44, c45⟩ := cellsRp c4; clear c6; have c6 := c6x; clear c6x; obtain ⟨c60, c61, c62, c63, c64⟩ := cells5 c6) | (clear mk7; refine wpList_alloc_v rfl 56 rfl _ zeroIt ?_; intro b7 w6 hb7 hwb7 hB6 c7; have hz6 : w5.heap.size ≤ w6.heap.size := hB6.size; replace o := o.grow hB6; replace c0 := vblk_grow c0 hB6; replace c3 := vblk_grow c3 hB6; replace c4 := vblk_grow c4 hB6; replace c6 := vblk_grow c6 hB6; replace hK := hK.trans (Onk.of_below hB6); clear c00 c01; obtain ⟨c00, c01⟩ := cells2 c0; clear c30 c31 c32 c33 c34 c35 c36 c37; obtain ⟨c30, c31, c32, c33, c34, c35, c36, c37⟩ := cellsCm c3; clear c40 c41 c42 c43 c44 c45; obtain ⟨c40, c41, c42, c43, c44, c45⟩ := cellsRp c4; clear c60 c61 c62 c63 c64; obtain ⟨c60, c61, c62, c63, c64⟩ := cells5 c6; obtain ⟨c70, c71, c72, c73, c74⟩ := cells5 c7) | (clear mk8; refine wpList_store_v rfl 56 _ _ rfl b7 [.string N2, .int .i64 F2, .string B2, .int .i64 0, .int .i64 U2] rfl rfl sizeIt c7 rfl (ic_one ⟨N2, F2, B2, 0, U2⟩) ?_; intro w7 hO7 c7x; clear c70 c71 c72 c73 c74; have hz7 : w6.heap.size ≤ w7.heap.size := (Nat.le_of_eq hO7.1.symm); have hy7 : w7.heap.size ≤ w6.heap.size := (Nat.le_of_eq hO7.1); replace o := o.below (hO7.2.2 b7 (Nat.le_refl _)) (by omega); replace c0 := vblk_only c0 hO7 (by omega); replace c3 := vblk_only c3 hO7 (by omega); replace c4 := vblk_only c4 hO7 (by omega); replace c6 := vblk_only c6 hO7 (by omega); replace hK := hK.new hO7 (by omega); clear c00 c01; obtain ⟨c00, c01⟩ := cells2 c0; clear c30 c31 c32 c33 c34 c35 c36 c37; obtain ⟨c30, c31, c32, c33, c34, c35, c36, c37⟩ := cellsCm c3; clear c40 c41 c42 c43 c44 c45; obtain ⟨c40, c41, c42, c43, c44, c45⟩ := cellsRp c4; clear c60 c61 c62 c63 c64; obtain ⟨c60, c61, c62, c63, c64⟩ := cells5 c6; clear c7; have c7 := c7x; clear c7x; obtain ⟨c70, c71, c72, c73, c74⟩ := cells5 c7) | (fail))
  by_cases v4 : V = 4
  · subst v4
    have e : doK ⟨I, X⟩ ⟨4, N2, F2, U2, B2, C2, D2, Q2⟩ = (⟨I, X⟩, rp 2) := by
      simp [doK, HLK.out]
    have eZ := hDK.out.symm.trans e
    clear e hDK
    obtain ⟨rfl, rfl⟩ := Prod.mk.inj eZ
    have mk9 : Hid True := trivial
    go_wp2_with (first | (clear mk9; refine wpList_store_v rfl 33 _ _ rfl b4 [.int .i64 2, .string ⟨#[]⟩, .int .i64 0, .string ⟨#[]⟩, .int .i64 0, .int .i64 0] rfl rfl sizeRp c4 rfl (oneRp (rp 2)) ?_; intro w8 hO8 c4x; clear c40 c41 c42 c43 c44 c45; have hz8 : w7.heap.size ≤ w8.heap.size := (Nat.le_of_eq hO8.1.symm); have hy8 : w8.heap.size ≤ w7.heap.size := (Nat.le_of_eq hO8.1); replace o := o.only hO8 c4 (by decide); replace c0 := vblk_only c0 hO8 (by omega); replace c3 := vblk_only c3 hO8 (by omega); replace c6 := vblk_only c6 hO8 (by omega); replace c7 := vblk_only c7 hO8 (by omega); replace hK := hK.new hO8 (by omega); clear c00 c01; obtain ⟨c00, c01⟩ := cells2 c0; clear c30 c31 c32 c33 c34 c35 c36 c37; obtain ⟨c30, c31, c32, c33, c34, c35, c36, c37⟩ := cellsCm c3; clear c60 c61 c62 c63 c64; obtain ⟨c60, c61, c62, c63, c64⟩ := cells5 c6; clear c70 c71 c72 c73 c74; obtain ⟨c70, c71, c72, c73, c74⟩ := cells5 c7; clear c4; have c4 := c4x; clear c4x; obtain ⟨c40, c41, c42, c43, c44, c45⟩ := cellsRp c4) | (fail))
    exact row_retv rfl rfl c4 Tryz.underlying33 sizeRp rfl ⟨rfl, _, _, _, c0, (o.wide (Nat.le_refl _) (by omega)).top, hK⟩
  by_cases v5 : V = 5
  · subst v5
    have hns : ¬ B2.size > 64 := by omega
    have hss : decide ((64 : Int) < (B2.size : Int)) = false := decide_eq_false (by omega)
    have e : doK ⟨I, X⟩ ⟨5, N2, F2, U2, B2, C2, D2, Q2⟩ = keepK ⟨I, X⟩ ⟨N2, F2, B2, 0, U2⟩ := by
      simp [doK, HLK.out, fresh, keepBig, hns]
    have eZ := hDK.out.symm.trans e
    clear e hDK
    clear hns
    have HS := fun w c0 o => l13Keep_any I X N2 B2 F2 0 U2 b0 lo I.length k0 (some ⟨g, 0, none⟩) w c0 hlo o OK.out hN2 szB2
    unfold PostM at HS
    obtain ⟨⟨⟨J, Y⟩, ⟨r1, r2, r3, r4, r5, r6⟩⟩, hR⟩ := hid_ex (keepK ⟨I, X⟩ ⟨N2, F2, B2, 0, U2⟩)
    rw [hR.out] at HS eZ
    obtain ⟨rfl, rfl⟩ := Prod.mk.inj eZ
    have HH : Hid _ := HS
    clear HS hR eZ
    dsimp only [csRp] at HH
    have mk9 : Hid True := trivial
    have mk10 : Hid True := trivial
    have mk11 : Hid True := trivial
    go_wp2_with (first | (clear mk9; refine wpList_load_r rfl 56 _ rfl b7 0 [.string N2, .int .i64 F2, .string B2, .int .i64 0, .int .i64 U2] rfl _ Tryz.underlying56 rfl sizeIt c7.range ?_) | (clear mk10; go_at_call 65; refine (HH.out _ c0 (o.wide (Nat.le_refl _) (by omega))).mono ?_; rintro er w8 ⟨rfl, A1, n1, k1, c0n, o1, hM8⟩; have hz8 : w7.heap.size ≤ w8.heap.size := hM8.size; replace c3 := hM8.vblk c3 (by omega) (by decide); replace c4 := hM8.vblk c4 (by omega) (by decide); replace hK := hK.trans hM8; clear c0 c00 c01 c60 c61 c62 c63 c64 c70 c71 c72 c73 c74 c6 c7; have c0 := c0n; clear c0n; clear c30 c31 c32 c33 c34 c35 c36 c37; obtain ⟨c30, c31, c32, c33, c34, c35, c36, c37⟩ := cellsCm c3; clear c40 c41 c42 c43 c44 c45; obtain ⟨c40, c41, c42, c43, c44, c45⟩ := cellsRp c4) | (clear mk11; refine wpList_store_v rfl 33 _ _ rfl b4 [.int .i64 r1, .string r2, .int .i64 r3, .string r4, .int .i64 r5, .int .i64 r6] rfl rfl sizeRp c4 rfl (oneRp ⟨r1, r2, r3, r4, r5, r6⟩) ?_; intro w9 hO9 c4x; clear c40 c41 c42 c43 c44 c45; have hz9 : w8.heap.size ≤ w9.heap.size := (Nat.le_of_eq hO9.1.symm); have hy9 : w9.heap.size ≤ w8.heap.size := (Nat.le_of_eq hO9.1); replace o1 := o1.only hO9 c4 (by decide); replace c0 := vblk_only c0 hO9 (by omega); replace c3 := vblk_only c3 hO9 (by omega); replace hK := hK.new hO9 (by omega); clear c30 c31 c32 c33 c34 c35 c36 c37; obtain ⟨c30, c31, c32, c33, c34, c35, c36, c37⟩ := cellsCm c3; clear c4; have c4 := c4x; clear c4x; obtain ⟨c40, c41, c42, c43, c44, c45⟩ := cellsRp c4) | (fail))
    exact row_retv rfl rfl c4 Tryz.underlying33 sizeRp rfl ⟨rfl, A1, n1, k1, c0, (o1.wide (Nat.le_refl _) (by omega)).top, hK⟩
  by_cases v6 : V = 6
  · subst v6
    have e : doK ⟨I, X⟩ ⟨6, N2, F2, U2, B2, C2, D2, Q2⟩ = (if (B ++ B2).size > 64 then ((⟨I, X⟩, rp 12) : Bk × Rp) else keepK ⟨I, X⟩ ⟨N, F, B ++ B2, C, U⟩) := by
      simp [doK, HLK.out, keepBig, withB, ← bs_app, tx_bs]
    have eZ := hDK.out.symm.trans e
    clear e hDK
    obtain ⟨S, hSx⟩ := hid_ex (B ++ B2)
    have hSz : S.size ≤ 4194304 := by rw [← hSx.out]; simp [ByteArray.size_append]; omega
    rw [hSx.out] at eZ
    replace hSx := hSx.out
    have hSn : B.size + B2.size ≤ 4194304 := by omega
    have hSn2 : B2.size + B.size ≤ 4194304 := by omega
    by_cases hs : S.size > 64
    · have hss : decide ((64 : Int) < (S.size : Int)) = true := decide_eq_true (by omega)
      rw [if_pos hs] at eZ
      obtain ⟨rfl, rfl⟩ := Prod.mk.inj eZ
      have mk9 : Hid True := trivial
      have mk10 : Hid True := trivial
      have mk11 : Hid True := trivial
      have mk12 : Hid True := trivial
      go_wp2_with (first | (clear mk9; refine wpList_load_r rfl 56 _ rfl b6 0 [.string N, .int .i64 F, .string B, .int .i64 C, .int .i64 U] rfl _ Tryz.underlying56 rfl sizeIt c6.range ?_) | (clear mk10; refine wpList_store_v rfl 56 _ _ rfl b7 [.string N, .int .i64 F, .string B, .int .i64 C, .int .i64 U] rfl rfl sizeIt c7 rfl (ic_one ⟨N, F, B, C, U⟩) ?_; intro w8 hO8 c7x; clear c70 c71 c72 c73 c74; have hz8 : w7.heap.size ≤ w8.heap.size := (Nat.le_of_eq hO8.1.symm); have hy8 : w8.heap.size ≤ w7.heap.size := (Nat.le_of_eq hO8.1); replace o := o.below (hO8.2.2 b7 (Nat.le_refl _)) (by omega); replace c0 := vblk_only c0 hO8 (by omega); replace c3 := vblk_only c3 hO8 (by omega); replace c4 := vblk_only c4 hO8 (by omega); replace c6 := vblk_only c6 hO8 (by omega); replace hK := hK.new hO8 (by omega); clear c00 c01; obtain ⟨c00, c01⟩ := cells2 c0; clear c30 c31 c32 c33 c34 c35 c36 c37; obtain ⟨c30, c31, c32, c33, c34, c35, c36, c37⟩ := cellsCm c3; clear c40 c41 c42 c43 c44 c45; obtain ⟨c40, c41, c42, c43, c44, c45⟩ := cellsRp c4; clear c60 c61 c62 c63 c64; obtain ⟨c60, c61, c62, c63, c64⟩ := cells5 c6; clear c7; have c7 := c7x; clear c7x; obtain ⟨c70, c71, c72, c73, c74⟩ := cells5 c7) | (clear mk11; refine wpList_store_cell rfl 9 _ _ rfl b7 2 (.string S) rfl rfl rfl szSt1 c7 (by simp) ?_; intro w9 hO9 c7x; clear c70 c71 c72 c73 c74; have hz9 : w8.heap.size ≤ w9.heap.size := (Nat.le_of_eq hO9.1.symm); have hy9 : w9.heap.size ≤ w8.heap.size := (Nat.le_of_eq hO9.1); replace o := o.below (hO9.2.2 b7 (Nat.le_refl _)) (by omega); replace c0 := vblk_only c0 hO9 (by omega); replace c3 := vblk_only c3 hO9 (by omega); replace c4 := vblk_only c4 hO9 (by omega); replace c6 := vblk_only c6 hO9 (by omega); replace hK := hK.new hO9 (by omega); clear c00 c01; obtain ⟨c00, c01⟩ := cells2 c0; clear c30 c31 c32 c33 c34 c35 c36 c37; obtain ⟨c30, c31, c32, c33, c34, c35, c36, c37⟩ := cellsCm c3; clear c40 c41 c42 c43 c44 c45; obtain ⟨c40, c41, c42, c43, c44, c45⟩ := cellsRp c4; clear c60 c61 c62 c63 c64; obtain ⟨c60, c61, c62, c63, c64⟩ := cells5 c6; clear c7; have c7 : VBlk w9 b7 56 [.string N, .int .i64 F, .string S, .int .i64 C, .int .i64 U] := c7x; clear c7x; obtain ⟨c70, c71, c72, c73, c74⟩ := cells5 c7) | (clear mk12; refine wpList_store_v rfl 33 _ _ rfl b4 [.int .i64 12, .string ⟨#[]⟩, .int .i64 0, .string ⟨#[]⟩, .int .i64 0, .int .i64 0] rfl rfl sizeRp c4 rfl (oneRp (rp 12)) ?_; intro w10 hO10 c4x; clear c40 c41 c42 c43 c44 c45; have hz10 : w9.heap.size ≤ w10.heap.size := (Nat.le_of_eq hO10.1.symm); have hy10 : w10.heap.size ≤ w9.heap.size := (Nat.le_of_eq hO10.1); replace o := o.only hO10 c4 (by decide); replace c0 := vblk_only c0 hO10 (by omega); replace c3 := vblk_only c3 hO10 (by omega); replace c6 := vblk_only c6 hO10 (by omega); replace c7 := vblk_only c7 hO10 (by omega); replace hK := hK.new hO10 (by omega); clear c00 c01; obtain ⟨c00, c01⟩ := cells2 c0; clear c30 c31 c32 c33 c34 c35 c36 c37; obtain ⟨c30, c31, c32, c33, c34, c35, c36, c37⟩ := cellsCm c3; clear c60 c61 c62 c63 c64; obtain ⟨c60, c61, c62, c63, c64⟩ := cells5 c6; clear c70 c71 c72 c73 c74; obtain ⟨c70, c71, c72, c73, c74⟩ := cells5 c7; clear c4; have c4 := c4x; clear c4x; obtain ⟨c40, c41, c42, c43, c44, c45⟩ := cellsRp c4) | (fail))
      exact row_retv rfl rfl c4 Tryz.underlying33 sizeRp rfl ⟨rfl, _, _, _, c0, (o.wide (Nat.le_refl _) (by omega)).top, hK⟩
    have hss : decide ((64 : Int) < (S.size : Int)) = false := decide_eq_false (by omega)
    rw [if_neg hs] at eZ
    have HS := fun w c0 o => l13Keep_any I X N S F C U b0 lo I.length k0 (some ⟨g, 0, none⟩) w c0 hlo o OK.out hN (by omega)
    unfold PostM at HS
    obtain ⟨⟨⟨J, Y⟩, ⟨r1, r2, r3, r4, r5, r6⟩⟩, hR⟩ := hid_ex (keepK ⟨I, X⟩ ⟨N, F, S, C, U⟩)
    rw [hR.out] at HS eZ
    obtain ⟨rfl, rfl⟩ := Prod.mk.inj eZ
    have HH : Hid _ := HS
    clear HS hR eZ
    dsimp only [csRp] at HH
    have mk9 : Hid True := trivial
    have mk10 : Hid True := trivial
    have mk11 : Hid True := trivial
    have mk12 : Hid True := trivial
    have mk13 : Hid True := trivial
    have mk14 : Hid True := trivial
    go_wp2_with (first | (clear mk9; refine wpList_load_r rfl 56 _ rfl b6 0 [.string N, .int .i64 F, .string B, .int .i64 C, .int .i64 U] rfl _ Tryz.underlying56 rfl sizeIt c6.range ?_) | (clear mk10; refine wpList_store_v rfl 56 _ _ rfl b7 [.string N, .int .i64 F, .string B, .int .i64 C, .int .i64 U] rfl rfl sizeIt c7 rfl (ic_one ⟨N, F, B, C, U⟩) ?_; intro w8 hO8 c7x; clear c70 c71 c72 c73 c74; have hz8 : w7.heap.size ≤ w8.heap.size := (Nat.le_of_eq hO8.1.symm); have hy8 : w8.heap.size ≤ w7.heap.size := (Nat.le_of_eq hO8.1); replace o := o.below (hO8.2.2 b7 (Nat.le_refl _)) (by omega); replace c0 := vblk_only c0 hO8 (by omega); replace c3 := vblk_only c3 hO8 (by omega); replace c4 := vblk_only c4 hO8 (by omega); replace c6 := vblk_only c6 hO8 (by omega); replace hK := hK.new hO8 (by omega); clear c00 c01; obtain ⟨c00, c01⟩ := cells2 c0; clear c30 c31 c32 c33 c34 c35 c36 c37; obtain ⟨c30, c31, c32, c33, c34, c35, c36, c37⟩ := cellsCm c3; clear c40 c41 c42 c43 c44 c45; obtain ⟨c40, c41, c42, c43, c44, c45⟩ := cellsRp c4; clear c60 c61 c62 c63 c64; obtain ⟨c60, c61, c62, c63, c64⟩ := cells5 c6; clear c7; have c7 := c7x; clear c7x; obtain ⟨c70, c71, c72, c73, c74⟩ := cells5 c7) | (clear mk11; refine wpList_store_cell rfl 9 _ _ rfl b7 2 (.string S) rfl rfl rfl szSt1 c7 (by simp) ?_; intro w9 hO9 c7x; clear c70 c71 c72 c73 c74; have hz9 : w8.heap.size ≤ w9.heap.size := (Nat.le_of_eq hO9.1.symm); have hy9 : w9.heap.size ≤ w8.heap.size := (Nat.le_of_eq hO9.1); replace o := o.below (hO9.2.2 b7 (Nat.le_refl _)) (by omega); replace c0 := vblk_only c0 hO9 (by omega); replace c3 := vblk_only c3 hO9 (by omega); replace c4 := vblk_only c4 hO9 (by omega); replace c6 := vblk_only c6 hO9 (by omega); replace hK := hK.new hO9 (by omega); clear c00 c01; obtain ⟨c00, c01⟩ := cells2 c0; clear c30 c31 c32 c33 c34 c35 c36 c37; obtain ⟨c30, c31, c32, c33, c34, c35, c36, c37⟩ := cellsCm c3; clear c40 c41 c42 c43 c44 c45; obtain ⟨c40, c41, c42, c43, c44, c45⟩ := cellsRp c4; clear c60 c61 c62 c63 c64; obtain ⟨c60, c61, c62, c63, c64⟩ := cells5 c6; clear c7; have c7 : VBlk w9 b7 56 [.string N, .int .i64 F, .string S, .int .i64 C, .int .i64 U] := c7x; clear c7x; obtain ⟨c70, c71, c72, c73, c74⟩ := cells5 c7) | (clear mk12; refine wpList_load_r rfl 56 _ rfl b7 0 [.string N, .int .i64 F, .string S, .int .i64 C, .int .i64 U] rfl _ Tryz.underlying56 rfl sizeIt c7.range ?_) | (clear mk13; go_at_call 65; refine (HH.out _ c0 (o.wide (Nat.le_refl _) (by omega))).mono ?_; rintro er w10 ⟨rfl, A1, n1, k1, c0n, o1, hM10⟩; have hz10 : w9.heap.size ≤ w10.heap.size := hM10.size; replace c3 := hM10.vblk c3 (by omega) (by decide); replace c4 := hM10.vblk c4 (by omega) (by decide); replace hK := hK.trans hM10; clear c0 c00 c01 c60 c61 c62 c63 c64 c70 c71 c72 c73 c74 c6 c7; have c0 := c0n; clear c0n; clear c30 c31 c32 c33 c34 c35 c36 c37; obtain ⟨c30, c31, c32, c33, c34, c35, c36, c37⟩ := cellsCm c3; clear c40 c41 c42 c43 c44 c45; obtain ⟨c40, c41, c42, c43, c44, c45⟩ := cellsRp c4) | (clear mk14; refine wpList_store_v rfl 33 _ _ rfl b4 [.int .i64 r1, .string r2, .int .i64 r3, .string r4, .int .i64 r5, .int .i64 r6] rfl rfl sizeRp c4 rfl (oneRp ⟨r1, r2, r3, r4, r5, r6⟩) ?_; intro w11 hO11 c4x; clear c40 c41 c42 c43 c44 c45; have hz11 : w10.heap.size ≤ w11.heap.size := (Nat.le_of_eq hO11.1.symm); have hy11 : w11.heap.size ≤ w10.heap.size := (Nat.le_of_eq hO11.1); replace o1 := o1.only hO11 c4 (by decide); replace c0 := vblk_only c0 hO11 (by omega); replace c3 := vblk_only c3 hO11 (by omega); replace hK := hK.new hO11 (by omega); clear c30 c31 c32 c33 c34 c35 c36 c37; obtain ⟨c30, c31, c32, c33, c34, c35, c36, c37⟩ := cellsCm c3; clear c4; have c4 := c4x; clear c4x; obtain ⟨c40, c41, c42, c43, c44, c45⟩ := cellsRp c4) | (fail))
    exact row_retv rfl rfl c4 Tryz.underlying33 sizeRp rfl ⟨rfl, A1, n1, k1, c0, (o1.wide (Nat.le_refl _) (by omega)).top, hK⟩
  omega
end Go.Proofs.YtjkkjpgebcnhgaaGreatDoor.rg
/- The model's l13Do, where the thing is there. -/
namespace Go.Proofs.YtjkkjpgebcnhgaaGreatDoor.rg
open Go.ChangeShapes Go.WideShapes Go.ChangeAt Go.RowKit
open Go.Deep Go.Joins
open Go.Proofs.YtjkkjpgebcnhgaaGreatDoor.ce Go.Proofs.YtjkkjpgebcnhgaaGreatDoor.ro Go.Proofs.YtjkkjpgebcnhgaaGreatDoor.cm
set_option linter.unusedVariables false

set_option maxRecDepth 100000 in
set_option maxHeartbeats 8000000 in
theorem l13Do_s2 (I : List It) (X : Int) (N B : ByteArray) (F C U : Int) (V : Int) (N2 : ByteArray) (F2 U2 : Int) (B2 : ByteArray) (C2 D2 : Int) (Q2 : Bool) (b0 lo n0 k0 : Nat) (A0 : Option Addr) (w : World) (c0 : VBlk w b0 31 [.slice A0 n0 k0, .int .i64 X]) (hlo : lo ≤ b0) (o : Own encIt w lo w.heap.size (.slice A0 n0 k0) I) (ok : StOk ⟨I, X⟩) (hc : COk ⟨V, N2, F2, U2, B2, C2, D2, Q2⟩) (hlk : lookI I N2 = some ⟨N, F, B, C, U⟩) (hV : V = 7 ∨ V = 8) :
    Calls Tryz.prog 35 #[.pointer (some ⟨b0, 0, none⟩), .agg #[.int .i64 V, .string N2, .int .i64 F2, .int .i64 U2, .string B2, .int .i64 C2, .int .i64 D2, .bool Q2]] w fun e w' => PostM (doK ⟨I, X⟩ ⟨V, N2, F2, U2, B2, C2, D2, Q2⟩).1 (doK ⟨I, X⟩ ⟨V, N2, F2, U2, B2, C2, D2, Q2⟩).2 b0 lo w e w' := by
  have hv0 := hc.v0
  have hv1 := hc.v1
  have hd1 := hc.d1
  have hb1 := hc.b1
  have hnm := hc.nm
  dsimp only at hv0 hv1 hd1 hb1 hnm
  have hl20 := len_of ok
  have hK := Onk.refl b0 lo w
  have hlt0 := c0.lt
  have hzw0 : w.heap.size ≤ w.heap.size := Nat.le_refl _
  have szB2 : B2.size ≤ 1048576 := by omega
  have OK : Hid _ := ok
  have HNM : Hid _ := hnm
  have hlk' := hlk
  obtain ⟨hmem, hnn, k, hk, hk2, hk3⟩ := look_some hlk
  have hit := itemB_iff.1 (ok.bk.1 _ hmem)
  dsimp only at hnn
  have hN : N.size ≤ 1048576 := by have := nm_small hit.nm; dsimp only at this; omega
  have hBs : B.size ≤ 1048576 := by have := hit.b1; dsimp only at this; omega
  have hN2 : N2.size ≤ 1048576 := by rw [← hnn]; exact hN
  have hf : Hid (findI I N2 = k) := hk2
  have HX : Hid (I[k] = ⟨N, F, B, C, U⟩) := hk3
  have HLK : Hid _ := hlk
  have HNN : Hid (N = N2) := hnn
  obtain ⟨g, cap, eg, hg1, hg2, hg3⟩ := o.form (by omega)
  obtain ⟨rfl, rfl, rfl⟩ : A0 = some ⟨g, 0, none⟩ ∧ n0 = I.length ∧ k0 = cap := by simpa using eg
  have hk0' : (0 : Int) ≤ (k : Int) := by omega
  have hkn : (k : Int) < (I.length : Int) := by omega
  have hge : decide (((k : Nat) : Int) ≥ 0) = true := decide_eq_true (by omega)
  have hgl : decide (((k : Nat) : Int) < 0) = false := decide_eq_false (by omega)
  clear hlk hlk' hmem hnn hk2 hk3 eg hit ok hc hnm
  obtain ⟨⟨Bz, Rz⟩, hDK⟩ := hid_ex (doK ⟨I, X⟩ ⟨V, N2, F2, U2, B2, C2, D2, Q2⟩)
  rw [hDK.out]
  unfold PostM
  dsimp only
  go_enter Tryz.func35, Tryz.ntmps35
  obtain ⟨c00, c01⟩ := cells2 c0
  have mk1 : Hid True := trivial
  have mk2 : Hid True := trivial
  go_upto_region 1 with (first | (clear mk1; refine wpList_box_v rfl 37 _ rfl [.int .i64 V, .string N2, .int .i64 F2, .int .i64 U2, .string B2, .int .i64 C2, .int .i64 D2, .bool Q2] rfl ?_; intro b3 w1 hb3 hwb3 hB1 c3; have hz1 : w.heap.size ≤ w1.heap.size := hB1.size; replace o := o.grow hB1; replace c0 := vblk_grow c0 hB1; replace hK := hK.trans (Onk.of_below hB1); clear c00 c01; obtain ⟨c00, c01⟩ := cells2 c0; obtain ⟨c30, c31, c32, c33, c34, c35, c36, c37⟩ := cellsCm c3) | (clear mk2; refine wpList_alloc_v rfl 33 rfl _ zeroRp ?_; intro b4 w2 hb4 hwb4 hB2 c4; have hz2 : w1.heap.size ≤ w2.heap.size := hB2.size; replace o := o.grow hB2; replace c0 := vblk_grow c0 hB2; replace c3 := vblk_grow c3 hB2; replace hK := hK.trans (Onk.of_below hB2); clear c00 c01; obtain ⟨c00, c01⟩ := cells2 c0; clear c30 c31 c32 c33 c34 c35 c36 c37; obtain ⟨c30, c31, c32, c33, c34, c35, c36, c37⟩ := cellsCm c3; obtain ⟨c40, c41, c42, c43, c44, c45⟩ := cellsRp c4) | (fail))
  have hKd : Below w2.heap.size w2 w2.drew := (Below.refl _ _).drew
  have hzd : w2.drew.heap.size ≤ w2.heap.size := Nat.le_refl _
  have hzd2 : w2.heap.size ≤ w2.drew.heap.size := Nat.le_refl _
  replace hK := hK.trans (Onk.of_below hKd)
  replace o := o.grow hKd
  replace c0 := vblk_grow c0 hKd
  clear c00 c01
  obtain ⟨c00, c01⟩ := cells2 c0
  replace c3 := vblk_grow c3 hKd
  clear c30 c31 c32 c33 c34 c35 c36 c37
  obtain ⟨c30, c31, c32, c33, c34, c35, c36, c37⟩ := cellsCm c3
  replace c4 := vblk_grow c4 hKd
  clear c40 c41 c42 c43 c44 c45
  obtain ⟨c40, c41, c42, c43, c44, c45⟩ := cellsRp c4
  have S1 : w2.drew.cell? ⟨b0, 0, none⟩ = some (.slice (some ⟨g, 0, none⟩) I.length k0) ∧ w2.drew.cell? ⟨b3, 1, none⟩ = some (.string N2) := ⟨c00, c31⟩
  go_region_held3 (fun w' => w'.cell? ⟨b0, 0, none⟩ = some (.slice (some ⟨g, 0, none⟩) I.length k0) ∧ w'.cell? ⟨b3, 1, none⟩ = some (.string N2)) (first | with_reducible assumption | with_reducible exact S1 | (fail)) (first | (go_at_call 26; refine (specFindItem_any I N2 _ _ o.rd).mono ?_; rintro er wq ⟨rfl, hq⟩; subst wq; rw [hf.out]; have S2 := S1) | (fail))
  clear S1 S2 hKd
  have mk3 : Hid True := trivial
  have mk4 : Hid True := trivial
  have mk5 : Hid True := trivial
  have mk6 : Hid True := trivial
  have mk7 : Hid True := trivial
  have mk8 : Hid True := trivial
  go_upto_region 7 with (first | (clear mk3; refine wpList_alloc_v rfl 56 rfl _ zeroIt ?_; intro b6 w3 hb6 hwb6 hB3 c6; have hz3 : w2.drew.heap.size ≤ w3.heap.size := hB3.size; replace o := o.grow hB3; replace c0 := vblk_grow c0 hB3; replace c3 := vblk_grow c3 hB3; replace c4 := vblk_grow c4 hB3; replace hK := hK.trans (Onk.of_below hB3); clear c00 c01; obtain ⟨c00, c01⟩ := cells2 c0; clear c30 c31 c32 c33 c34 c35 c36 c37; obtain ⟨c30, c31, c32, c33, c34, c35, c36, c37⟩ := cellsCm c3; clear c40 c41 c42 c43 c44 c45; obtain ⟨c40, c41, c42, c43, c44, c45⟩ := cellsRp c4; obtain ⟨c60, c61, c62, c63, c64⟩ := cells5 c6) | (clear mk4; refine wpList_store_v rfl 56 _ _ rfl b6 [.string ⟨#[]⟩, .int .i64 0, .string ⟨#[]⟩, .int .i64 0, .int .i64 0] rfl rfl sizeIt c6 rfl (ic_one ZIt) ?_; intro w4 hO4 c6x; clear c60 c61 c62 c63 c64; have hz4 : w3.heap.size ≤ w4.heap.size := (Nat.le_of_eq hO4.1.symm); have hy4 : w4.heap.size ≤ w3.heap.size := (Nat.le_of_eq hO4.1); replace o := o.below (hO4.2.2 b6 (Nat.le_refl _)) (by omega); replace c0 := vblk_only c0 hO4 (by omega); replace c3 := vblk_only c3 hO4 (by omega); replace c4 := vblk_only c4 hO4 (by omega); replace hK := hK.new hO4 (by omega); clear c00 c01; obtain ⟨c00, c01⟩ := cells2 c0; clear c30 c31 c32 c33 c34 c35 c36 c37; obtain ⟨c30, c31, c32, c33, c34, c35, c36, c37⟩ := cellsCm c3; clear c40 c41 c42 c43 c44 c45; obtain ⟨c40, c41, c42, c43, c44, c45⟩ := cellsRp c4; clear c6; have c6 := c6x; clear c6x; obtain ⟨c60, c61, c62, c63, c64⟩ := cells5 c6) | (clear mk5; refine wpList_load_r rfl 56 _ rfl g (k * 5) [.string N, .int .i64 F, .string B, .int .i64 C, .int .i64 U] rfl _ Tryz.underlying56 rfl sizeIt (own_at5 o hk HX.out) ?_) | (clear mk6; refine wpList_store_v rfl 56 _ _ rfl b6 [.string N, .int .i64 F, .string B, .int .i64 C, .int .i64 U] rfl rfl sizeIt c6 rfl (ic_one ⟨N, F, B, C, U⟩) ?_; intro w5 hO5 c6x; clear c60 c61 c62 c63 c64; have hz5 : w4.heap.size ≤ w5.heap.size := (Nat.le_of_eq hO5.1.symm); have hy5 : w5.heap.size ≤ w4.heap.size := (Nat.le_of_eq hO5.1); replace o := o.below (hO5.2.2 b6 (Nat.le_refl _)) (by omega); replace c0 := vblk_only c0 hO5 (by omega); replace c3 := vblk_only c3 hO5 (by omega); replace c4 := vblk_only c4 hO5 (by omega); replace hK := hK.new hO5 (by omega); clear c00 c01; obtain ⟨c00, c01⟩ := cells2 c0; clear c30 c31 c32 c33 c34 c35 c36 c37; obtain ⟨c30, c31, c32, c33, c34, c35, c36, c37⟩ := cellsCm c3; clear c40 c41 c42 c43 c44 c45; obtain ⟨c40, c41, c42, c43, c44, c45⟩ := cellsRp c4; clear c6; have c6 := c6x; clear c6x; obtain ⟨c60, c61, c62, c63, c64⟩ := cells5 c6) | (clear mk7; refine wpList_alloc_v rfl 56 rfl _ zeroIt ?_; intro b7 w6 hb7 hwb7 hB6 c7; have hz6 : w5.heap.size ≤ w6.heap.size := hB6.size; replace o := o.grow hB6; replace c0 := vblk_grow c0 hB6; replace c3 := vblk_grow c3 hB6; replace c4 := vblk_grow c4 hB6; replace c6 := vblk_grow c6 hB6; replace hK := hK.trans (Onk.of_below hB6); clear c00 c01; obtain ⟨c00, c01⟩ := cells2 c0; clear c30 c31 c32 c33 c34 c35 c36 c37; obtain ⟨c30, c31, c32, c33, c34, c35, c36, c37⟩ := cellsCm c3; clear c40 c41 c42 c43 c44 c45; obtain ⟨c40, c41, c42, c43, c44, c45⟩ := cellsRp c4; clear c60 c61 c62 c63 c64; obtain ⟨c60, c61, c62, c63, c64⟩ := cells5 c6; obtain ⟨c70, c71, c72, c73, c74⟩ := cells5 c7) | (clear mk8; refine wpList_store_v rfl 56 _ _ rfl b7 [.string N2, .int .i64 F2, .string B2, .int .i64 0, .int .i64 U2] rfl rfl sizeIt c7 rfl (ic_one ⟨N2, F2, B2, 0, U2⟩) ?_; intro w7 hO7 c7x; clear c70 c71 c72 c73 c74; have hz7 : w6.heap.size ≤ w7.heap.size := (Nat.le_of_eq hO7.1.symm); have hy7 : w7.heap.size ≤ w6.heap.size := (Nat.le_of_eq hO7.1); replace o := o.below (hO7.2.2 b7 (Nat.le_refl _)) (by omega); replace c0 := vblk_only c0 hO7 (by omega); replace c3 := vblk_only c3 hO7 (by omega); replace c4 := vblk_only c4 hO7 (by omega); replace c6 := vblk_only c6 hO7 (by omega); replace hK := hK.new hO7 (by omega); clear c00 c01; obtain ⟨c00, c01⟩ := cells2 c0; clear c30 c31 c32 c33 c34 c35 c36 c37; obtain ⟨c30, c31, c32, c33, c34, c35, c36, c37⟩ := cellsCm c3; clear c40 c41 c42 c43 c44 c45; obtain ⟨c40, c41, c42, c43, c44, c45⟩ := cellsRp c4; clear c60 c61 c62 c63 c64; obtain ⟨c60, c61, c62, c63, c64⟩ := cells5 c6; clear c7; have c7 := c7x; clear c7x; obtain ⟨c70, c71, c72, c73, c74⟩ := cells5 c7) | (fail))
  by_cases v7 : V = 7
  · subst v7
    have e : doK ⟨I, X⟩ ⟨7, N2, F2, U2, B2, C2, D2, Q2⟩ = (if (B2 ++ B).size > 64 then ((⟨I, X⟩, rp 12) : Bk × Rp) else keepK ⟨I, X⟩ ⟨N, F, B2 ++ B, C, U⟩) := by
      simp [doK, HLK.out, keepBig, withB, ← bs_app, tx_bs]
    have eZ := hDK.out.symm.trans e
    clear e hDK
    obtain ⟨S, hSx⟩ := hid_ex (B2 ++ B)
    have hSz : S.size ≤ 4194304 := by rw [← hSx.out]; simp [ByteArray.size_append]; omega
    rw [hSx.out] at eZ
    replace hSx := hSx.out
    have hSn : B.size + B2.size ≤ 4194304 := by omega
    have hSn2 : B2.size + B.size ≤ 4194304 := by omega
    by_cases hs : S.size > 64
    · have hss : decide ((64 : Int) < (S.size : Int)) = true := decide_eq_true (by omega)
      rw [if_pos hs] at eZ
      obtain ⟨rfl, rfl⟩ := Prod.mk.inj eZ
      have mk9 : Hid True := trivial
      have mk10 : Hid True := trivial
      have mk11 : Hid True := trivial
      have mk12 : Hid True := trivial
      go_wp2_with (first | (clear mk9; refine wpList_load_r rfl 56 _ rfl b6 0 [.string N, .int .i64 F, .string B, .int .i64 C, .int .i64 U] rfl _ Tryz.underlying56 rfl sizeIt c6.range ?_) | (clear mk10; refine wpList_store_v rfl 56 _ _ rfl b7 [.string N, .int .i64 F, .string B, .int .i64 C, .int .i64 U] rfl rfl sizeIt c7 rfl (ic_one ⟨N, F, B, C, U⟩) ?_; intro w8 hO8 c7x; clear c70 c71 c72 c73 c74; have hz8 : w7.heap.size ≤ w8.heap.size := (Nat.le_of_eq hO8.1.symm); have hy8 : w8.heap.size ≤ w7.heap.size := (Nat.le_of_eq hO8.1); replace o := o.below (hO8.2.2 b7 (Nat.le_refl _)) (by omega); replace c0 := vblk_only c0 hO8 (by omega); replace c3 := vblk_only c3 hO8 (by omega); replace c4 := vblk_only c4 hO8 (by omega); replace c6 := vblk_only c6 hO8 (by omega); replace hK := hK.new hO8 (by omega); clear c00 c01; obtain ⟨c00, c01⟩ := cells2 c0; clear c30 c31 c32 c33 c34 c35 c36 c37; obtain ⟨c30, c31, c32, c33, c34, c35, c36, c37⟩ := cellsCm c3; clear c40 c41 c42 c43 c44 c45; obtain ⟨c40, c41, c42, c43, c44, c45⟩ := cellsRp c4; clear c60 c61 c62 c63 c64; obtain ⟨c60, c61, c62, c63, c64⟩ := cells5 c6; clear c7; have c7 := c7x; clear c7x; obtain ⟨c70, c71, c72, c73, c74⟩ := cells5 c7) | (clear mk11; refine wpList_store_cell rfl 9 _ _ rfl b7 2 (.string S) rfl rfl rfl szSt1 c7 (by simp) ?_; intro w9 hO9 c7x; clear c70 c71 c72 c73 c74; have hz9 : w8.heap.size ≤ w9.heap.size := (Nat.le_of_eq hO9.1.symm); have hy9 : w9.heap.size ≤ w8.heap.size := (Nat.le_of_eq hO9.1); replace o := o.below (hO9.2.2 b7 (Nat.le_refl _)) (by omega); replace c0 := vblk_only c0 hO9 (by omega); replace c3 := vblk_only c3 hO9 (by omega); replace c4 := vblk_only c4 hO9 (by omega); replace c6 := vblk_only c6 hO9 (by omega); replace hK := hK.new hO9 (by omega); clear c00 c01; obtain ⟨c00, c01⟩ := cells2 c0; clear c30 c31 c32 c33 c34 c35 c36 c37; obtain ⟨c30, c31, c32, c33, c34, c35, c36, c37⟩ := cellsCm c3; clear c40 c41 c42 c43 c44 c45; obtain ⟨c40, c41, c42, c43, c44, c45⟩ := cellsRp c4; clear c60 c61 c62 c63 c64; obtain ⟨c60, c61, c62, c63, c64⟩ := cells5 c6; clear c7; have c7 : VBlk w9 b7 56 [.string N, .int .i64 F, .string S, .int .i64 C, .int .i64 U] := c7x; clear c7x; obtain ⟨c70, c71, c72, c73, c74⟩ := cells5 c7) | (clear mk12; refine wpList_store_v rfl 33 _ _ rfl b4 [.int .i64 12, .string ⟨#[]⟩, .int .i64 0, .string ⟨#[]⟩, .int .i64 0, .int .i64 0] rfl rfl sizeRp c4 rfl (oneRp (rp 12)) ?_; intro w10 hO10 c4x; clear c40 c41 c42 c43 c44 c45; have hz10 : w9.heap.size ≤ w10.heap.size := (Nat.le_of_eq hO10.1.symm); have hy10 : w10.heap.size ≤ w9.heap.size := (Nat.le_of_eq hO10.1); replace o := o.only hO10 c4 (by decide); replace c0 := vblk_only c0 hO10 (by omega); replace c3 := vblk_only c3 hO10 (by omega); replace c6 := vblk_only c6 hO10 (by omega); replace c7 := vblk_only c7 hO10 (by omega); replace hK := hK.new hO10 (by omega); clear c00 c01; obtain ⟨c00, c01⟩ := cells2 c0; clear c30 c31 c32 c33 c34 c35 c36 c37; obtain ⟨c30, c31, c32, c33, c34, c35, c36, c37⟩ := cellsCm c3; clear c60 c61 c62 c63 c64; obtain ⟨c60, c61, c62, c63, c64⟩ := cells5 c6; clear c70 c71 c72 c73 c74; obtain ⟨c70, c71, c72, c73, c74⟩ := cells5 c7; clear c4; have c4 := c4x; clear c4x; obtain ⟨c40, c41, c42, c43, c44, c45⟩ := cellsRp c4) | (fail))
      exact row_retv rfl rfl c4 Tryz.underlying33 sizeRp rfl ⟨rfl, _, _, _, c0, (o.wide (Nat.le_refl _) (by omega)).top, hK⟩
    have hss : decide ((64 : Int) < (S.size : Int)) = false := decide_eq_false (by omega)
    rw [if_neg hs] at eZ
    have HS := fun w c0 o => l13Keep_any I X N S F C U b0 lo I.length k0 (some ⟨g, 0, none⟩) w c0 hlo o OK.out hN (by omega)
    unfold PostM at HS
    obtain ⟨⟨⟨J, Y⟩, ⟨r1, r2, r3, r4, r5, r6⟩⟩, hR⟩ := hid_ex (keepK ⟨I, X⟩ ⟨N, F, S, C, U⟩)
    rw [hR.out] at HS eZ
    obtain ⟨rfl, rfl⟩ := Prod.mk.inj eZ
    have HH : Hid _ := HS
    clear HS hR eZ
    dsimp only [csRp] at HH
    have mk9 : Hid True := trivial
    have mk10 : Hid True := trivial
    have mk11 : Hid True := trivial
    have mk12 : Hid True := trivial
    have mk13 : Hid True := trivial
    have mk14 : Hid True := trivial
    go_wp2_with (first | (clear mk9; refine wpList_load_r rfl 56 _ rfl b6 0 [.string N, .int .i64 F, .string B, .int .i64 C, .int .i64 U] rfl _ Tryz.underlying56 rfl sizeIt c6.range ?_) | (clear mk10; refine wpList_store_v rfl 56 _ _ rfl b7 [.string N, .int .i64 F, .string B, .int .i64 C, .int .i64 U] rfl rfl sizeIt c7 rfl (ic_one ⟨N, F, B, C, U⟩) ?_; intro w8 hO8 c7x; clear c70 c71 c72 c73 c74; have hz8 : w7.heap.size ≤ w8.heap.size := (Nat.le_of_eq hO8.1.symm); have hy8 : w8.heap.size ≤ w7.heap.size := (Nat.le_of_eq hO8.1); replace o := o.below (hO8.2.2 b7 (Nat.le_refl _)) (by omega); replace c0 := vblk_only c0 hO8 (by omega); replace c3 := vblk_only c3 hO8 (by omega); replace c4 := vblk_only c4 hO8 (by omega); replace c6 := vblk_only c6 hO8 (by omega); replace hK := hK.new hO8 (by omega); clear c00 c01; obtain ⟨c00, c01⟩ := cells2 c0; clear c30 c31 c32 c33 c34 c35 c36 c37; obtain ⟨c30, c31, c32, c33, c34, c35, c36, c37⟩ := cellsCm c3; clear c40 c41 c42 c43 c44 c45; obtain ⟨c40, c41, c42, c43, c44, c45⟩ := cellsRp c4; clear c60 c61 c62 c63 c64; obtain ⟨c60, c61, c62, c63, c64⟩ := cells5 c6; clear c7; have c7 := c7x; clear c7x; obtain ⟨c70, c71, c72, c73, c74⟩ := cells5 c7) | (clear mk11; refine wpList_store_cell rfl 9 _ _ rfl b7 2 (.string S) rfl rfl rfl szSt1 c7 (by simp) ?_; intro w9 hO9 c7x; clear c70 c71 c72 c73 c74; have hz9 : w8.heap.size ≤ w9.heap.size := (Nat.le_of_eq hO9.1.symm); have hy9 : w9.heap.size ≤ w8.heap.size := (Nat.le_of_eq hO9.1); replace o := o.below (hO9.2.2 b7 (Nat.le_refl _)) (by omega); replace c0 := vblk_only c0 hO9 (by omega); replace c3 := vblk_only c3 hO9 (by omega); replace c4 := vblk_only c4 hO9 (by omega); replace c6 := vblk_only c6 hO9 (by omega); replace hK := hK.new hO9 (by omega); clear c00 c01; obtain ⟨c00, c01⟩ := cells2 c0; clear c30 c31 c32 c33 c34 c35 c36 c37; obtain ⟨c30, c31, c32, c33, c34, c35, c36, c37⟩ := cellsCm c3; clear c40 c41 c42 c43 c44 c45; obtain ⟨c40, c41, c42, c43, c44, c45⟩ := cellsRp c4; clear c60 c61 c62 c63 c64; obtain ⟨c60, c61, c62, c63, c64⟩ := cells5 c6; clear c7; have c7 : VBlk w9 b7 56 [.string N, .int .i64 F, .string S, .int .i64 C, .int .i64 U] := c7x; clear c7x; obtain ⟨c70, c71, c72, c73, c74⟩ := cells5 c7) | (clear mk12; refine wpList_load_r rfl 56 _ rfl b7 0 [.string N, .int .i64 F, .string S, .int .i64 C, .int .i64 U] rfl _ Tryz.underlying56 rfl sizeIt c7.range ?_) | (clear mk13; go_at_call 65; refine (HH.out _ c0 (o.wide (Nat.le_refl _) (by omega))).mono ?_; rintro er w10 ⟨rfl, A1, n1, k1, c0n, o1, hM10⟩; have hz10 : w9.heap.size ≤ w10.heap.size := hM10.size; replace c3 := hM10.vblk c3 (by omega) (by decide); replace c4 := hM10.vblk c4 (by omega) (by decide); replace hK := hK.trans hM10; clear c0 c00 c01 c60 c61 c62 c63 c64 c70 c71 c72 c73 c74 c6 c7; have c0 := c0n; clear c0n; clear c30 c31 c32 c33 c34 c35 c36 c37; obtain ⟨c30, c31, c32, c33, c34, c35, c36, c37⟩ := cellsCm c3; clear c40 c41 c42 c43 c44 c45; obtain ⟨c40, c41, c42, c43, c44, c45⟩ := cellsRp c4) | (clear mk14; refine wpList_store_v rfl 33 _ _ rfl b4 [.int .i64 r1, .string r2, .int .i64 r3, .string r4, .int .i64 r5, .int .i64 r6] rfl rfl sizeRp c4 rfl (oneRp ⟨r1, r2, r3, r4, r5, r6⟩) ?_; intro w11 hO11 c4x; clear c40 c41 c42 c43 c44 c45; have hz11 : w10.heap.size ≤ w11.heap.size := (Nat.le_of_eq hO11.1.symm); have hy11 : w11.heap.size ≤ w10.heap.size := (Nat.le_of_eq hO11.1); replace o1 := o1.only hO11 c4 (by decide); replace c0 := vblk_only c0 hO11 (by omega); replace c3 := vblk_only c3 hO11 (by omega); replace hK := hK.new hO11 (by omega); clear c30 c31 c32 c33 c34 c35 c36 c37; obtain ⟨c30, c31, c32, c33, c34, c35, c36, c37⟩ := cellsCm c3; clear c4; have c4 := c4x; clear c4x; obtain ⟨c40, c41, c42, c43, c44, c45⟩ := cellsRp c4) | (fail))
    exact row_retv rfl rfl c4 Tryz.underlying33 sizeRp rfl ⟨rfl, A1, n1, k1, c0, (o1.wide (Nat.le_refl _) (by omega)).top, hK⟩
  by_cases v8 : V = 8
  · subst v8
    have e : doK ⟨I, X⟩ ⟨8, N2, F2, U2, B2, C2, D2, Q2⟩ = (if C = C2 then keepK ⟨I, X⟩ ⟨N2, F2, B2, 0, U2⟩ else (⟨I, X⟩, rp 3)) := by
      simp [doK, HLK.out, fresh]
    have eZ := hDK.out.symm.trans e
    clear e hDK
    by_cases hcc : C = C2
    · have hcx : (C != C2) = false := by simpa using hcc
      rw [if_pos hcc] at eZ
      clear hcc
      have HS := fun w c0 o => l13Keep_any I X N2 B2 F2 0 U2 b0 lo I.length k0 (some ⟨g, 0, none⟩) w c0 hlo o OK.out hN2 szB2
      unfold PostM at HS
      obtain ⟨⟨⟨J, Y⟩, ⟨r1, r2, r3, r4, r5, r6⟩⟩, hR⟩ := hid_ex (keepK ⟨I, X⟩ ⟨N2, F2, B2, 0, U2⟩)
      rw [hR.out] at HS eZ
      obtain ⟨rfl, rfl⟩ := Prod.mk.inj eZ
      have HH : Hid _ := HS
      clear HS hR eZ
      dsimp only [csRp] at HH
      have mk9 : Hid True := trivial
      have mk10 : Hid True := trivial
      have mk11 : Hid True := trivial
      go_wp2_with (first | (clear mk9; refine wpList_load_r rfl 56 _ rfl b7 0 [.string N2, .int .i64 F2, .string B2, .int .i64 0, .int .i64 U2] rfl _ Tryz.underlying56 rfl sizeIt c7.range ?_) | (clear mk10; go_at_call 65; refine (HH.out _ c0 (o.wide (Nat.le_refl _) (by omega))).mono ?_; rintro er w8 ⟨rfl, A1, n1, k1, c0n, o1, hM8⟩; have hz8 : w7.heap.size ≤ w8.heap.size := hM8.size; replace c3 := hM8.vblk c3 (by omega) (by decide); replace c4 := hM8.vblk c4 (by omega) (by decide); replace hK := hK.trans hM8; clear c0 c00 c01 c60 c61 c62 c63 c64 c70 c71 c72 c73 c74 c6 c7; have c0 := c0n; clear c0n; clear c30 c31 c32 c33 c34 c35 c36 c37; obtain ⟨c30, c31, c32, c33, c34, c35, c36, c37⟩ := cellsCm c3; clear c40 c41 c42 c43 c44 c45; obtain ⟨c40, c41, c42, c43, c44, c45⟩ := cellsRp c4) | (clear mk11; refine wpList_store_v rfl 33 _ _ rfl b4 [.int .i64 r1, .string r2, .int .i64 r3, .string r4, .int .i64 r5, .int .i64 r6] rfl rfl sizeRp c4 rfl (oneRp ⟨r1, r2, r3, r4, r5, r6⟩) ?_; intro w9 hO9 c4x; clear c40 c41 c42 c43 c44 c45; have hz9 : w8.heap.size ≤ w9.heap.size := (Nat.le_of_eq hO9.1.symm); have hy9 : w9.heap.size ≤ w8.heap.size := (Nat.le_of_eq hO9.1); replace o1 := o1.only hO9 c4 (by decide); replace c0 := vblk_only c0 hO9 (by omega); replace c3 := vblk_only c3 hO9 (by omega); replace hK := hK.new hO9 (by omega); clear c30 c31 c32 c33 c34 c35 c36 c37; obtain ⟨c30, c31, c32, c33, c34, c35, c36, c37⟩ := cellsCm c3; clear c4; have c4 := c4x; clear c4x; obtain ⟨c40, c41, c42, c43, c44, c45⟩ := cellsRp c4) | (fail))
      exact row_retv rfl rfl c4 Tryz.underlying33 sizeRp rfl ⟨rfl, A1, n1, k1, c0, (o1.wide (Nat.le_refl _) (by omega)).top, hK⟩
    have hcx : (C != C2) = true := by simpa using hcc
    rw [if_neg hcc] at eZ
    clear hcc
    obtain ⟨rfl, rfl⟩ := Prod.mk.inj eZ
    have mk9 : Hid True := trivial
    go_wp2_with (first | (clear mk9; refine wpList_store_v rfl 33 _ _ rfl b4 [.int .i64 3, .string ⟨#[]⟩, .int .i64 0, .string ⟨#[]⟩, .int .i64 0, .int .i64 0] rfl rfl sizeRp c4 rfl (oneRp (rp 3)) ?_; intro w8 hO8 c4x; clear c40 c41 c42 c43 c44 c45; have hz8 : w7.heap.size ≤ w8.heap.size := (Nat.le_of_eq hO8.1.symm); have hy8 : w8.heap.size ≤ w7.heap.size := (Nat.le_of_eq hO8.1); replace o := o.only hO8 c4 (by decide); replace c0 := vblk_only c0 hO8 (by omega); replace c3 := vblk_only c3 hO8 (by omega); replace c6 := vblk_only c6 hO8 (by omega); replace c7 := vblk_only c7 hO8 (by omega); replace hK := hK.new hO8 (by omega); clear c00 c01; obtain ⟨c00, c01⟩ := cells2 c0; clear c30 c31 c32 c33 c34 c35 c36 c37; obtain ⟨c30, c31, c32, c33, c34, c35, c36, c37⟩ := cellsCm c3; clear c60 c61 c62 c63 c64; obtain ⟨c60, c61, c62, c63, c64⟩ := cells5 c6; clear c70 c71 c72 c73 c74; obtain ⟨c70, c71, c72, c73, c74⟩ := cells5 c7; clear c4; have c4 := c4x; clear c4x; obtain ⟨c40, c41, c42, c43, c44, c45⟩ := cellsRp c4) | (fail))
    exact row_retv rfl rfl c4 Tryz.underlying33 sizeRp rfl ⟨rfl, _, _, _, c0, (o.wide (Nat.le_refl _) (by omega)).top, hK⟩
  omega
end Go.Proofs.YtjkkjpgebcnhgaaGreatDoor.rg
