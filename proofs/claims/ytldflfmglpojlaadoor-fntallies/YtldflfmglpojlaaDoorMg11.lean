/- Texts laid together: Dr7 Mp1. -/
import Derived.Test.YtldflfmglpojlaaDoorMg09
import Derived.Test.YtldflfmglpojlaaDoorDr1
import Derived.Test.YtldflfmglpojlaaDoorMg10
import Derived.Test.YtldflfmglpojlaaDoorMg03
import Derived.Test.YtldflfmglpojlaaDoorMg00
import Derived.Lib.SmallJoins
import Derived.Deep.Slices
import Derived.Deep.RegionHeld3
import Derived.BigQuiet
import Derived.Deep.DeepCutAuto
import Derived.Deep.CutBlock
import Derived.Maps.OwnSet
/- What the laws of chapter 15 draw: a tally; with a command and a reply. -/
namespace Go.Proofs.YtldflfmglpojlaaDoor.rg
open Go.ChangeShapes Go.WideShapes Go.ChangeAt Go.RowKit
open Go.Deep Go.Joins
open Go.Proofs.YtldflfmglpojlaaDoor.ce Go.Proofs.YtldflfmglpojlaaDoor.ro Go.Proofs.YtldflfmglpojlaaDoor.draw Go.Proofs.YtldflfmglpojlaaDoor.cm
set_option linter.unusedVariables false

theorem szI1t : (Tryd.prog.info? 2).map (·.size) = some 1 := by kernel_rfl
set_option maxRecDepth 100000 in
set_option maxHeartbeats 8000000 in
theorem l15Draw_any (w : World) (p : Nat) (a0 : Option Addr) (len cap : Nat) (hc : Cur w p a0 len cap) :
    Calls Tryd.prog 14 #[.pointer (some ⟨p, 0, none⟩)] w fun e w' => ∃ (A H S D O : Int), e = .returned (.agg #[.int .i64 A, .int .i64 H, .int .i64 S, .int .i64 D, .int .i64 O]) ∧ Gt w p a0 len cap w' := by
  have HC : Hid (Cur w p a0 len cap) := hc
  clear hc
  have m1 : Hid True := trivial
  have m2 : Hid True := trivial
  have m3 : Hid True := trivial
  have m4 : Hid True := trivial
  have m5 : Hid True := trivial
  have m6 : Hid True := trivial
  have m7 : Hid True := trivial
  have m8 : Hid True := trivial
  have m9 : Hid True := trivial
  go_enter Tryd.func14, Tryd.ntmps14
  go_upto_if 16 with (first
    | (clear m1; refine wpList_alloc_v rfl 25 rfl _ zeroTl ?_; intro b2 w2 hb2 hw2 hB2 V2; have E0 : Hid (D0 25 [.int .i64 0, .int .i64 0, .int .i64 0, .int .i64 0, .int .i64 0] w p a0 len cap b2 w2) := d0_new HC.out hB2 hb2 V2)
    | (clear m2; go_at_call 26; refine (below_from w2 w2 p a0 len cap _ (by omega) E0.out.t.cur (World.grownBy.refl _ _)).mono ?_; rintro e w10 ⟨A, rfl, hxA, hyA, hc10, hg10⟩; have E1 : Hid (D0 25 [.int .i64 0, .int .i64 0, .int .i64 0, .int .i64 0, .int .i64 0] w p a0 len cap b2 w10) := E0.out.went hc10 hg10)
    | (clear m3; go_at_call 26; refine (below_from w10 w10 p a0 len cap _ (by omega) E1.out.t.cur (World.grownBy.refl _ _)).mono ?_; rintro e w11 ⟨H, rfl, hxH, hyH, hc11, hg11⟩; have E2 : Hid (D0 25 [.int .i64 0, .int .i64 0, .int .i64 0, .int .i64 0, .int .i64 0] w p a0 len cap b2 w11) := E1.out.went hc11 hg11)
    | (clear m4; go_at_call 26; refine (below_from w11 w11 p a0 len cap _ (by omega) E2.out.t.cur (World.grownBy.refl _ _)).mono ?_; rintro e w12 ⟨S, rfl, hxS, hyS, hc12, hg12⟩; have E3 : Hid (D0 25 [.int .i64 0, .int .i64 0, .int .i64 0, .int .i64 0, .int .i64 0] w p a0 len cap b2 w12) := E2.out.went hc12 hg12)
    | (clear m5; go_at_call 26; refine (below_from w12 w12 p a0 len cap _ (by omega) E3.out.t.cur (World.grownBy.refl _ _)).mono ?_; rintro e w13 ⟨D, rfl, hxD, hyD, hc13, hg13⟩; have E4 : Hid (D0 25 [.int .i64 0, .int .i64 0, .int .i64 0, .int .i64 0, .int .i64 0] w p a0 len cap b2 w13) := E3.out.went hc13 hg13)
    | (clear m6; go_at_call 26; refine (below_from w13 w13 p a0 len cap _ (by omega) E4.out.t.cur (World.grownBy.refl _ _)).mono ?_; rintro e w14 ⟨O, rfl, hxO, hyO, hc14, hg14⟩; have E5 : Hid (D0 25 [.int .i64 0, .int .i64 0, .int .i64 0, .int .i64 0, .int .i64 0] w p a0 len cap b2 w14) := E4.out.went hc14 hg14)
    | (clear m7; refine wpList_alloc_v rfl 25 rfl _ zeroTl ?_; intro b3 w5 hb3 hw3 hB5 V3)
    | (clear m8; refine wpList_store_v rfl 25 _ _ rfl b3 [.int .i64 A, .int .i64 H, .int .i64 S, .int .i64 D, .int .i64 O] rfl rfl sizeTl V3 rfl (oneTl ⟨A, H, S, D, O⟩) ?_; intro w6 hO6 V6; have D6 : Hid (Dv 25 [.int .i64 0, .int .i64 0, .int .i64 0, .int .i64 0, .int .i64 0] w p a0 len cap b2 b3 [.int .i64 A, .int .i64 H, .int .i64 S, .int .i64 D, .int .i64 O] w6) := E5.out.dv2 hb3 hB5 hO6 V6)
    | (go_at_call 27; refine (once_from w6 w6 p a0 len cap _ (by omega) D6.out.gt.cur (World.grownBy.refl _ _)).mono ?_; rintro e w7 ⟨y7, rfl, hc7, hg7⟩; have D7 : Hid (Dv 25 [.int .i64 0, .int .i64 0, .int .i64 0, .int .i64 0, .int .i64 0] w p a0 len cap b2 b3 [.int .i64 A, .int .i64 H, .int .i64 S, .int .i64 D, .int .i64 O] w7) := D6.out.went hc7 hg7)
    | (fail))
  clear E0 E1 E2 E3 E4 E5 D6 hc7 hg7 V2 V3 V6 hO6 hB2 hB5
  go_cut [16] from 16 to 22 (fun u1 wc => ∃ A1 : Int, Hid (Dv 25 [.int .i64 0, .int .i64 0, .int .i64 0, .int .i64 0, .int .i64 0] w p a0 len cap b2 b3 [.int .i64 A1, .int .i64 H, .int .i64 S, .int .i64 D, .int .i64 O] wc))
  case first =>
    cases y7 with
    | false =>
      go_wp2
      go_meet
      case rel => exact ⟨A, D7⟩
    | true =>
      have q21 : Hid True := trivial
      have q22 : Hid True := trivial
      go_wp2_with (first | (clear q21; go_at_call 26; refine (below_lit w7 w7 p a0 len cap [-1, 1000000000, 1000000001] _ 3 (-1) 1000000001 rfl (by omega) (by intro x hx; simp at hx; omega) D7.out.gt.cur (World.grownBy.refl _ _)).mono ?_; rintro e w1021 ⟨z1021, x1021, rfl, hz1021, hzz1021, hcell1021, hx1021, hy1021, hc1021, hg1021⟩; have D1021 : Hid (Dv 25 [.int .i64 0, .int .i64 0, .int .i64 0, .int .i64 0, .int .i64 0] w p a0 len cap b2 b3 [.int .i64 A, .int .i64 H, .int .i64 S, .int .i64 D, .int .i64 O] w1021) := D7.out.went hc1021 hg1021; clear hc1021 hg1021; obtain ⟨j1021, hj1021⟩ : ∃ j : Nat, z1021 = j := ⟨z1021.toNat, by omega⟩; subst hj1021; rw [Int.toNat_natCast] at hcell1021) | (clear q22; refine wpList_store_cell rfl 2 _ _ rfl b3 0 (.int .i64 x1021) rfl rfl rfl szI1t D1021.out.vg (by simp) ?_; intro w1022 hO1022 V1022; have D1022 : Hid (Dv 25 [.int .i64 0, .int .i64 0, .int .i64 0, .int .i64 0, .int .i64 0] w p a0 len cap b2 b3 [.int .i64 x1021, .int .i64 H, .int .i64 S, .int .i64 D, .int .i64 O] w1022) := D1021.out.put hO1022 V1022; clear V1022 hO1022) | (fail))
      go_meet
      case rel => exact ⟨_, D1022⟩
  case rest =>
  obtain ⟨A1, DC⟩ := hcut
  rename World => w8
  have D8 : Hid (Dv 25 [.int .i64 0, .int .i64 0, .int .i64 0, .int .i64 0, .int .i64 0] w p a0 len cap b2 b3 [.int .i64 A1, .int .i64 H, .int .i64 S, .int .i64 D, .int .i64 O] w8) := DC
  clear DC D7
  have q23 : Hid True := trivial
  go_upto_if 24 with (first | (clear q23; go_at_call 27; refine (once_from w8 w8 p a0 len cap _ (by omega) D8.out.gt.cur (World.grownBy.refl _ _)).mono ?_; rintro e w1023 ⟨y1023, rfl, hc1023, hg1023⟩; have D1023 : Hid (Dv 25 [.int .i64 0, .int .i64 0, .int .i64 0, .int .i64 0, .int .i64 0] w p a0 len cap b2 b3 [.int .i64 A1, .int .i64 H, .int .i64 S, .int .i64 D, .int .i64 O] w1023) := D8.out.went hc1023 hg1023; clear hc1023 hg1023) | (fail))
  go_cut [24] from 24 to 25 (fun u1 wc => ∃ S1 : Int, Hid (Dv 25 [.int .i64 0, .int .i64 0, .int .i64 0, .int .i64 0, .int .i64 0] w p a0 len cap b2 b3 [.int .i64 A1, .int .i64 H, .int .i64 S1, .int .i64 D, .int .i64 O] wc))
  case first =>
    cases y1023 with
    | false =>
      go_wp2
      go_meet
      case rel => exact ⟨S, D1023⟩
    | true =>
      have q24 : Hid True := trivial
      go_wp2_with (first | (clear q24; refine wpList_store_cell rfl 2 _ _ rfl b3 2 (.int .i64 1000000000) rfl rfl rfl szI1t D1023.out.vg (by simp) ?_; intro w1024 hO1024 V1024; have D1024 : Hid (Dv 25 [.int .i64 0, .int .i64 0, .int .i64 0, .int .i64 0, .int .i64 0] w p a0 len cap b2 b3 [.int .i64 A1, .int .i64 H, .int .i64 1000000000, .int .i64 D, .int .i64 O] w1024) := D1023.out.put hO1024 V1024; clear V1024 hO1024) | (fail))
      go_meet
      case rel => exact ⟨_, D1024⟩
  case rest =>
  obtain ⟨S1, DC⟩ := hcut
  rename World => w9
  have D9 : Hid (Dv 25 [.int .i64 0, .int .i64 0, .int .i64 0, .int .i64 0, .int .i64 0] w p a0 len cap b2 b3 [.int .i64 A1, .int .i64 H, .int .i64 S1, .int .i64 D, .int .i64 O] w9) := DC
  clear DC D1023
  go_wp2_with (first | (refine wpList_load_r rfl 25 _ rfl b3 0 [.int .i64 A1, .int .i64 H, .int .i64 S1, .int .i64 D, .int .i64 O] rfl _ Tryd.underlying25 rfl sizeTl D9.out.vg.range ?_) | (refine wpList_store_v rfl 25 _ _ rfl b2 [.int .i64 A1, .int .i64 H, .int .i64 S1, .int .i64 D, .int .i64 O] rfl rfl sizeTl D9.out.o.vb rfl (oneTl ⟨A1, H, S1, D, O⟩) ?_; intro wz hOz Vz) | (fail))
  exact row_retv rfl rfl Vz Tryd.underlying25 sizeTl rfl ⟨_, _, _, _, _, rfl, D9.out.got hOz⟩
theorem gbi_low {w w2 w3 : World} {p : Nat} (hB : Below w.heap.size w w2) (hp : w.heap.size ≤ p) (hg : w2.grownBy w3 (some p)) : Below w.heap.size w w3 := hB.grown hg hB.size (fun k hk => by cases hk; exact hp)
theorem gbi_vblk {w2 w3 : World} {p b : Nat} {t : TypeId} {vs : List Value} (hv : VBlk w2 b t vs) (hn : b ≠ p) (hg : w2.grownBy w3 (some p)) : VBlk w3 b t vs := hv.of (hg.block b hv.lt (fun e => by cases e; exact hn rfl))
theorem codet_below {w w' : World} {a0 : Option Addr} {len : Nat} (h : CodeAt w a0 len) (hB : Below w.heap.size w w') : CodeAt w' a0 len := by
  refine ⟨h.1, ?_⟩
  rcases h.2 with h0 | ⟨b, off, e, hl, hc⟩
  · exact .inl h0
  · refine .inr ⟨b, off, e, Nat.lt_of_lt_of_le hl hB.size, fun k hk => ?_⟩
    obtain ⟨c, hcell, h1, h2⟩ := hc k hk
    exact ⟨c, by rw [hB.cell hl]; exact hcell, h1, h2⟩
theorem results_ccc {fn : Func} {p u x : Tmp} {ty ty2 ty3 : TypeId} (h : fn.results = #[.cell p ty, .cell u ty2, .cell x ty3]) (tmps : Array Value) (P : Program) (w : World) :
    (results fn tmps).run P w =
      ((asAddr (tmps.getD p undef)).run P w).andThen fun a w₁ => ((loadVar ty a).run P w₁).andThen fun v w₂ => ((asAddr (tmps.getD u undef)).run P w₂).andThen fun a₂ w₃ => ((loadVar ty2 a₂).run P w₃).andThen fun v₂ w₄ => ((asAddr (tmps.getD x undef)).run P w₄).andThen fun a₃ w₅ => ((loadVar ty3 a₃).run P w₅).andThen fun v₃ w₆ => .ok (.tuple #[v, v₂, v₃]) w₆ := by
  simp only [results, h]
  simp [Sem.run_bind, Result.andThen]
theorem row_ccc {fn : Func} {p u q : Tmp} {ty ty2 ty3 : TypeId} (h : fn.results = #[.cell p ty, .cell u ty2, .cell q ty3]) {R : Ending → World → Prop} {a : Act} {w : World} {b b2 b3 : Nat} {t t2 t3 : TypeId} {vs vs2 vs3 : List Value} {fs fs2 fs3 : Array Field}
    (hp : a.tmps.getD p undef = .pointer (some ⟨b, 0, none⟩)) (hx : a.tmps.getD u undef = .pointer (some ⟨b2, 0, none⟩)) (hz : a.tmps.getD q undef = .pointer (some ⟨b3, 0, none⟩)) (hb : VBlk w b t vs) (hb2 : VBlk w b2 t2 vs2) (hb3 : VBlk w b3 t3 vs3) (hu : Tryd.prog.underlying ty = some (.struct fs)) (hu2 : Tryd.prog.underlying ty2 = some (.struct fs2)) (hu3 : Tryd.prog.underlying ty3 = some (.struct fs3))
    (hi : (Tryd.prog.info? ty).map (·.size) = some vs.length) (hi2 : (Tryd.prog.info? ty2).map (·.size) = some vs2.length) (hi3 : (Tryd.prog.info? ty3).map (·.size) = some vs3.length) (hdf : a.defers = []) (hR : R (.returned (.tuple #[.agg vs.toArray, .agg vs2.toArray, .agg vs3.toArray])) w) : bodyPost Tryd.prog fn R .ret a w := by
  have hl := run_loadVar_row (P := Tryd.prog) w b t ty vs.toArray (0, 0) _ hb hu rfl (by rw [hi]; simp)
  have hl2 := run_loadVar_row (P := Tryd.prog) w b2 t2 ty2 vs2.toArray (0, 0) _ hb2 hu2 rfl (by rw [hi2]; simp)
  have hl3 := run_loadVar_row (P := Tryd.prog) w b3 t3 ty3 vs3.toArray (0, 0) _ hb3 hu3 rfl (by rw [hi3]; simp)
  refine bodyPost_ret ?_ hdf hR
  rw [results_ccc h, hp, hx, hz]
  simp [asAddr, hl, hl2, hl3]
set_option maxRecDepth 100000 in
set_option maxHeartbeats 4000000 in
theorem drawCounted_any (w : World) (a0 : Option Addr) (len cap : Nat) (hcode : CodeAt w a0 len) :
    Calls Tryd.prog 5 #[.slice a0 len cap] w fun e w' => ∃ A1 H1 S1 D1 O1 V N F U B C D Q K N2 F2 B2 C2 M, e = .returned (.tuple #[.agg #[.int .i64 A1, .int .i64 H1, .int .i64 S1, .int .i64 D1, .int .i64 O1], .agg #[.int .i64 V, .string N, .int .i64 F, .int .i64 U, .string B, .int .i64 C, .int .i64 D, .bool Q], .agg #[.int .i64 K, .string N2, .int .i64 F2, .string B2, .int .i64 C2, .int .i64 M]]) ∧ Below w.heap.size w w' := by
  have HC : Hid (CodeAt w a0 len) := hcode
  clear hcode
  have hzw0 : w.heap.size ≤ w.heap.size := Nat.le_refl _
  go_enter Tryd.func5, Tryd.ntmps5
  have mk1 : Hid True := trivial
  have mk2 : Hid True := trivial
  have mk3 : Hid True := trivial
  have mk4 : Hid True := trivial
  have mk5 : Hid True := trivial
  have mk6 : Hid True := trivial
  have mk7 : Hid True := trivial
  have mk8 : Hid True := trivial
  have mk9 : Hid True := trivial
  have mk10 : Hid True := trivial
  go_upto_region 4 with (first | (clear mk1; refine wpList_alloc_v rfl 25 rfl _ zeroTl ?_; intro b2 w1 hb2 hwb2 hB1 c2; have hz1 : w.heap.size ≤ w1.heap.size := hB1.size; have hB := hB1; have hzw := hB.size; obtain ⟨c20, c21, c22, c23, c24⟩ := cells5 c2) | (clear mk2; refine wpList_alloc_v rfl 27 rfl _ zeroCm ?_; intro b3 w2 hb3 hwb3 hB2 c3; have hz2 : w1.heap.size ≤ w2.heap.size := hB2.size; replace c2 := vblk_grow c2 hB2; replace hB := hB.trans (hB2.mono (by omega)); replace hzw := hB.size; clear c20 c21 c22 c23 c24; obtain ⟨c20, c21, c22, c23, c24⟩ := cells5 c2; obtain ⟨c30, c31, c32, c33, c34, c35, c36, c37⟩ := cellsCm c3) | (clear mk3; refine wpList_alloc_v rfl 29 rfl _ zeroRp ?_; intro b4 w3 hb4 hwb4 hB3 c4; have hz3 : w2.heap.size ≤ w3.heap.size := hB3.size; replace c2 := vblk_grow c2 hB3; replace c3 := vblk_grow c3 hB3; replace hB := hB.trans (hB3.mono (by omega)); replace hzw := hB.size; clear c20 c21 c22 c23 c24; obtain ⟨c20, c21, c22, c23, c24⟩ := cells5 c2; clear c30 c31 c32 c33 c34 c35 c36 c37; obtain ⟨c30, c31, c32, c33, c34, c35, c36, c37⟩ := cellsCm c3; obtain ⟨c40, c41, c42, c43, c44, c45⟩ := cellsRp c4) | (clear mk4; go_at_call 13; refine (new_cur w3 _ _ _ (codet_below HC.out hB)).mono ?_; rintro er w4 ⟨p, rfl, hp, hcur, hB4⟩; have hpl := hcur.1; have hz4 : w3.heap.size ≤ w4.heap.size := hB4.size; replace c2 := vblk_grow c2 hB4; replace c3 := vblk_grow c3 hB4; replace c4 := vblk_grow c4 hB4; replace hB := hB.trans (hB4.mono (by omega)); replace hzw := hB.size; clear c20 c21 c22 c23 c24; obtain ⟨c20, c21, c22, c23, c24⟩ := cells5 c2; clear c30 c31 c32 c33 c34 c35 c36 c37; obtain ⟨c30, c31, c32, c33, c34, c35, c36, c37⟩ := cellsCm c3; clear c40 c41 c42 c43 c44 c45; obtain ⟨c40, c41, c42, c43, c44, c45⟩ := cellsRp c4) | (clear mk5; go_at_call 14; refine (l15Draw_any w4 p a0 len cap hcur).mono ?_; rintro er w5 ⟨A1, H1, S1, D1, O1, rfl, G5⟩; have hc5 := G5.cur; have hg5 := G5.gb; clear G5; have hz5 : w4.heap.size ≤ w5.heap.size := hg5.size; replace c2 := gbi_vblk c2 (by omega) hg5; replace c3 := gbi_vblk c3 (by omega) hg5; replace c4 := gbi_vblk c4 (by omega) hg5; replace hB := gbi_low hB (by omega) hg5; replace hzw := hB.size; clear c20 c21 c22 c23 c24; obtain ⟨c20, c21, c22, c23, c24⟩ := cells5 c2; clear c30 c31 c32 c33 c34 c35 c36 c37; obtain ⟨c30, c31, c32, c33, c34, c35, c36, c37⟩ := cellsCm c3; clear c40 c41 c42 c43 c44 c45; obtain ⟨c40, c41, c42, c43, c44, c45⟩ := cellsRp c4; replace hcur := hc5) | (clear mk6; refine wpList_alloc_v rfl 25 rfl _ zeroTl ?_; intro b6 w6 hb6 hwb6 hB6 c6; have hz6 : w5.heap.size ≤ w6.heap.size := hB6.size; replace c2 := vblk_grow c2 hB6; replace c3 := vblk_grow c3 hB6; replace c4 := vblk_grow c4 hB6; replace hB := hB.trans (hB6.mono (by omega)); replace hzw := hB.size; clear c20 c21 c22 c23 c24; obtain ⟨c20, c21, c22, c23, c24⟩ := cells5 c2; clear c30 c31 c32 c33 c34 c35 c36 c37; obtain ⟨c30, c31, c32, c33, c34, c35, c36, c37⟩ := cellsCm c3; clear c40 c41 c42 c43 c44 c45; obtain ⟨c40, c41, c42, c43, c44, c45⟩ := cellsRp c4; replace hcur := cur_below hcur hB6 hcur.1) | (clear mk7; refine wpList_store_v rfl 25 _ _ rfl b6 [.int .i64 A1, .int .i64 H1, .int .i64 S1, .int .i64 D1, .int .i64 O1] rfl rfl sizeTl c6 rfl (by simp [Value.oneCell']) ?_; intro w7 hO7 c6x; have hz7 : w6.heap.size ≤ w7.heap.size := (Nat.le_of_eq hO7.1.symm); have hy7 : w7.heap.size ≤ w6.heap.size := (Nat.le_of_eq hO7.1); replace c2 := vblk_only c2 hO7 (by omega); replace c3 := vblk_only c3 hO7 (by omega); replace c4 := vblk_only c4 hO7 (by omega); replace hB := hB.trans (hO7.2.2 _ (by omega)); replace hzw := hB.size; clear c20 c21 c22 c23 c24; obtain ⟨c20, c21, c22, c23, c24⟩ := cells5 c2; clear c30 c31 c32 c33 c34 c35 c36 c37; obtain ⟨c30, c31, c32, c33, c34, c35, c36, c37⟩ := cellsCm c3; clear c40 c41 c42 c43 c44 c45; obtain ⟨c40, c41, c42, c43, c44, c45⟩ := cellsRp c4; replace hcur := cur_below hcur (hO7.2.2 (p + 1) (by omega)) (by omega); clear c6; have c6 := c6x; clear c6x; obtain ⟨c60, c61, c62, c63, c64⟩ := cells5 c6) | (clear mk8; go_at_call 15; refine (l11DrawAny_any w7 p a0 len cap hcur).mono ?_; rintro er w8 ⟨V, N, F, U, B, C, D, Q, rfl, G8, -, -⟩; have hc8 := G8.cur; have hg8 := G8.gb; clear G8; have hz8 : w7.heap.size ≤ w8.heap.size := hg8.size; replace c2 := gbi_vblk c2 (by omega) hg8; replace c3 := gbi_vblk c3 (by omega) hg8; replace c4 := gbi_vblk c4 (by omega) hg8; replace c6 := gbi_vblk c6 (by omega) hg8; replace hB := gbi_low hB (by omega) hg8; replace hzw := hB.size; clear c20 c21 c22 c23 c24; obtain ⟨c20, c21, c22, c23, c24⟩ := cells5 c2; clear c30 c31 c32 c33 c34 c35 c36 c37; obtain ⟨c30, c31, c32, c33, c34, c35, c36, c37⟩ := cellsCm c3; clear c40 c41 c42 c43 c44 c45; obtain ⟨c40, c41, c42, c43, c44, c45⟩ := cellsRp c4; clear c60 c61 c62 c63 c64; obtain ⟨c60, c61, c62, c63, c64⟩ := cells5 c6; replace hcur := hc8) | (clear mk9; refine wpList_alloc_v rfl 27 rfl _ zeroCm ?_; intro b7 w9 hb7 hwb7 hB9 c7; have hz9 : w8.heap.size ≤ w9.heap.size := hB9.size; replace c2 := vblk_grow c2 hB9; replace c3 := vblk_grow c3 hB9; replace c4 := vblk_grow c4 hB9; replace c6 := vblk_grow c6 hB9; replace hB := hB.trans (hB9.mono (by omega)); replace hzw := hB.size; clear c20 c21 c22 c23 c24; obtain ⟨c20, c21, c22, c23, c24⟩ := cells5 c2; clear c30 c31 c32 c33 c34 c35 c36 c37; obtain ⟨c30, c31, c32, c33, c34, c35, c36, c37⟩ := cellsCm c3; clear c40 c41 c42 c43 c44 c45; obtain ⟨c40, c41, c42, c43, c44, c45⟩ := cellsRp c4; clear c60 c61 c62 c63 c64; obtain ⟨c60, c61, c62, c63, c64⟩ := cells5 c6; replace hcur := cur_below hcur hB9 hcur.1) | (clear mk10; refine wpList_store_v rfl 27 _ _ rfl b7 [.int .i64 V, .string N, .int .i64 F, .int .i64 U, .string B, .int .i64 C, .int .i64 D, .bool Q] rfl rfl sizeCm c7 rfl (by simp [Value.oneCell']) ?_; intro w10 hO10 c7x; have hz10 : w9.heap.size ≤ w10.heap.size := (Nat.le_of_eq hO10.1.symm); have hy10 : w10.heap.size ≤ w9.heap.size := (Nat.le_of_eq hO10.1); replace c2 := vblk_only c2 hO10 (by omega); replace c3 := vblk_only c3 hO10 (by omega); replace c4 := vblk_only c4 hO10 (by omega); replace c6 := vblk_only c6 hO10 (by omega); replace hB := hB.trans (hO10.2.2 _ (by omega)); replace hzw := hB.size; clear c20 c21 c22 c23 c24; obtain ⟨c20, c21, c22, c23, c24⟩ := cells5 c2; clear c30 c31 c32 c33 c34 c35 c36 c37; obtain ⟨c30, c31, c32, c33, c34, c35, c36, c37⟩ := cellsCm c3; clear c40 c41 c42 c43 c44 c45; obtain ⟨c40, c41, c42, c43, c44, c45⟩ := cellsRp c4; clear c60 c61 c62 c63 c64; obtain ⟨c60, c61, c62, c63, c64⟩ := cells5 c6; replace hcur := cur_below hcur (hO10.2.2 (p + 1) (by omega)) (by omega); clear c7; have c7 := c7x; clear c7x; obtain ⟨c70, c71, c72, c73, c74, c75, c76, c77⟩ := cellsCm c7) | (fail))
  have hBd : Below w10.heap.size w10 w10.drew := (Below.refl _ _).drew
  have hzd : w10.drew.heap.size ≤ w10.heap.size := Nat.le_refl _
  have hzd2 : w10.heap.size ≤ w10.drew.heap.size := Nat.le_refl _
  replace c2 := vblk_grow c2 hBd
  clear c20 c21 c22 c23 c24
  obtain ⟨c20, c21, c22, c23, c24⟩ := cells5 c2
  replace c3 := vblk_grow c3 hBd
  clear c30 c31 c32 c33 c34 c35 c36 c37
  obtain ⟨c30, c31, c32, c33, c34, c35, c36, c37⟩ := cellsCm c3
  replace c4 := vblk_grow c4 hBd
  clear c40 c41 c42 c43 c44 c45
  obtain ⟨c40, c41, c42, c43, c44, c45⟩ := cellsRp c4
  replace c6 := vblk_grow c6 hBd
  clear c60 c61 c62 c63 c64
  obtain ⟨c60, c61, c62, c63, c64⟩ := cells5 c6
  replace c7 := vblk_grow c7 hBd
  clear c70 c71 c72 c73 c74 c75 c76 c77
  obtain ⟨c70, c71, c72, c73, c74, c75, c76, c77⟩ := cellsCm c7
  replace hB := hB.trans (hBd.mono (by omega))
  replace hzw := hB.size
  replace hcur := cur_below hcur hBd hcur.1
  (try simp only [Act.put])
  (try simp only [List.setIfInBounds_toArray, List.set_cons_zero, List.set_cons_succ])
  clear c20 c21 c22 c23 c24
  clear c30 c31 c32 c33 c34 c35 c36 c37
  clear c40 c41 c42 c43 c44 c45
  clear c60 c61 c62 c63 c64
  clear c70 c71 c72 c73 c74 c75 c76 c77
  refine wp_region_held_drew (S := fun w' => VBlk w' b7 27 [.int .i64 V, .string N, .int .i64 F, .int .i64 U, .string B, .int .i64 C, .int .i64 D, .bool Q] ∧ w'.cell? ⟨b6, 0, none⟩ = some (.int .i64 A1) ∧ w'.cell? ⟨b6, 1, none⟩ = some (.int .i64 H1) ∧ w'.cell? ⟨b6, 2, none⟩ = some (.int .i64 S1) ∧ w'.cell? ⟨b6, 3, none⟩ = some (.int .i64 D1) ∧ w'.cell? ⟨b6, 4, none⟩ = some (.int .i64 O1)) (by kernel_rfl) (⟨c7, cells5 c6⟩) (fun hHeld => ?_)
  refine wpAnyH_take (i := 0) (oi := { dst := some 14, op := Op.load 25 (Operand.tmp 6), type := 25, pos := "l15_tally.go:64", after := #[], guard := none }) (v := ?_) rfl (by kernel_rfl) (by kernel_rfl) (by kernel_rfl) (fun _ _ _ h => h) (Or.inl ⟨by rfl, ?_⟩) (by assumption) ?_
  rotate_left 1
  · intro w' hSw; (try dsimp only at hSw); go_simp; (try with_reducible rfl)
  (try simp only [Act.put, List.setIfInBounds_toArray, List.set_cons_zero, List.set_cons_succ])
  refine wpAnyH_take (i := 1) (oi := { dst := some 15, op := Op.load 27 (Operand.tmp 7), type := 27, pos := "l15_tally.go:64", after := #[{ on := 4, ground := Ground.gcOnly Departure.lateStores }], guard := none }) (v := .agg [Value.int .i64 V, .string N, .int .i64 F, .int .i64 U, .string B, .int .i64 C, .int .i64 D, .bool Q].toArray) rfl (by kernel_rfl) (by kernel_rfl) (by kernel_rfl) (fun _ _ _ h => h) (yieldsIf_load_mid (by rfl) 27 _ rfl b7 0 rfl [Value.int .i64 V, .string N, .int .i64 F, .int .i64 U, .string B, .int .i64 C, .int .i64 D, .bool Q] _ (fun w' hw' => hw'.1.range) Tryd.underlying27 rfl sizeCm) (by assumption) ?_
  (try simp only [Act.put, List.setIfInBounds_toArray, List.set_cons_zero, List.set_cons_succ])
  refine wpAnyH_take (i := 2) (oi := { dst := some 16, op := Op.move (Operand.tmp 5), type := 36, pos := "l15_tally.go:64", after := #[], guard := none }) (v := ?_) rfl (by kernel_rfl) (by kernel_rfl) (by kernel_rfl) (fun _ _ _ h => h) (Or.inl ⟨by rfl, ?_⟩) (by assumption) ?_
  rotate_left 1
  · intro w' hSw; (try dsimp only at hSw); go_simp; (try with_reducible rfl)
  (try simp only [Act.put, List.setIfInBounds_toArray, List.set_cons_zero, List.set_cons_succ])
  refine wpAnyH_ready (rs := [3]) (by kernel_rfl) (by simp) ?_
  refine AllReadyH.cons (o := { dst := some 17, op := Op.call { callee := Callee.value (Operand.func 16), args := #[Operand.tmp 16], argTypes := #[36] }, type := 29, pos := "l15_tally.go:64", after := #[{ on := 2, ground := Ground.data }], guard := none }) rfl (fun KC hKC => ?_) AllReadyH.nil
  go_simp
  go_at_call 16
  refine (l12Draw_any w10.drew p a0 len cap hcur).mono ?_
  rintro er wr3 ⟨K, N2, F2, B2, C2, M, rfl, G, -, -⟩
  have hcr3 := G.cur
  have hgr3 := G.gb
  clear G
  have hzr3 : w10.drew.heap.size ≤ wr3.heap.size := hgr3.size
  replace c2 := gbi_vblk c2 (by omega) hgr3
  replace c3 := gbi_vblk c3 (by omega) hgr3
  replace c4 := gbi_vblk c4 (by omega) hgr3
  replace c6 := gbi_vblk c6 (by omega) hgr3
  replace c7 := gbi_vblk c7 (by omega) hgr3
  replace hB := gbi_low hB (by omega) hgr3
  replace hzw := hB.size
  replace hcur := hcr3
  refine hKC.out _ _ (⟨c7, cells5 c6⟩) (fun hHeld2 => ?_)
  clear hKC KC hHeld
  have hHeld := hHeld2
  clear hHeld2
  (try simp only [Act.put, List.setIfInBounds_toArray, List.set_cons_zero, List.set_cons_succ])
  refine wpAnyH_ready (rs := [4]) (by kernel_rfl) (by simp) ?_
  refine AllReadyH.cons (o := { dst := none, op := Op.store 25 (Operand.tmp 2) (Operand.tmp 14), type := 0, pos := "l15_tally.go:64", after := #[{ on := 0, ground := Ground.data }, { on := 3, ground := Ground.chain }, { on := 0, ground := Ground.phase }, { on := 1, ground := Ground.textOnly Departure.lateStores }, { on := 2, ground := Ground.textOnly Departure.lateStores }, { on := 3, ground := Ground.textOnly Departure.lateStoresUnsure }], guard := none }) rfl (fun KC hKC => ?_) AllReadyH.nil
  refine step_store_v rfl 25 _ _ rfl b2 [.int .i64 A1, .int .i64 H1, .int .i64 S1, .int .i64 D1, .int .i64 O1] rfl rfl sizeTl c2 rfl (by simp [Value.oneCell']) ?_
  intro wr4 hOr4 c2x
  have hzr4 : wr3.heap.size ≤ wr4.heap.size := Nat.le_of_eq hOr4.1.symm
  have hyr4 : wr4.heap.size ≤ wr3.heap.size := Nat.le_of_eq hOr4.1
  replace c3 := vblk_only c3 hOr4 (by omega)
  replace c4 := vblk_only c4 hOr4 (by omega)
  replace c6 := vblk_only c6 hOr4 (by omega)
  replace c7 := vblk_only c7 hOr4 (by omega)
  clear c2
  have c2 := c2x
  clear c2x
  replace hB := hB.trans (hOr4.2.2 _ (by omega))
  replace hzw := hB.size
  (try replace hcur := cur_below hcur (hOr4.2.2 (p + 1) (by omega)) (by omega))
  refine hKC.out _ _ (⟨c7, cells5 c6⟩) (fun hHeld2 => ?_)
  clear hKC KC hHeld
  have hHeld := hHeld2
  clear hHeld2
  (try simp only [Act.put])
  refine wpAnyH_ready (rs := [5]) (by kernel_rfl) (by simp) ?_
  refine AllReadyH.cons (o := { dst := none, op := Op.store 27 (Operand.tmp 3) (Operand.tmp 15), type := 0, pos := "l15_tally.go:64", after := #[{ on := 1, ground := Ground.data }, { on := 4, ground := Ground.chain }, { on := 0, ground := Ground.phase }, { on := 1, ground := Ground.phase }, { on := 2, ground := Ground.textOnly Departure.lateStores }, { on := 3, ground := Ground.textOnly Departure.lateStoresUnsure }, { on := 4, ground := Ground.phase }], guard := none }) rfl (fun KC hKC => ?_) AllReadyH.nil
  refine step_store_v rfl 27 _ _ rfl b3 [.int .i64 V, .string N, .int .i64 F, .int .i64 U, .string B, .int .i64 C, .int .i64 D, .bool Q] rfl rfl sizeCm c3 rfl (by simp [Value.oneCell']) ?_
  intro wr5 hOr5 c3x
  have hzr5 : wr4.heap.size ≤ wr5.heap.size := Nat.le_of_eq hOr5.1.symm
  have hyr5 : wr5.heap.size ≤ wr4.heap.size := Nat.le_of_eq hOr5.1
  replace c2 := vblk_only c2 hOr5 (by omega)
  replace c4 := vblk_only c4 hOr5 (by omega)
  replace c6 := vblk_only c6 hOr5 (by omega)
  replace c7 := vblk_only c7 hOr5 (by omega)
  clear c3
  have c3 := c3x
  clear c3x
  replace hB := hB.trans (hOr5.2.2 _ (by omega))
  replace hzw := hB.size
  (try replace hcur := cur_below hcur (hOr5.2.2 (p + 1) (by omega)) (by omega))
  refine hKC.out _ _ (⟨c7, cells5 c6⟩) (fun hHeld2 => ?_)
  clear hKC KC hHeld
  have hHeld := hHeld2
  clear hHeld2
  (try simp only [Act.put])
  refine wpAnyH_ready (rs := [6]) (by kernel_rfl) (by simp) ?_
  refine AllReadyH.cons (o := { dst := none, op := Op.store 29 (Operand.tmp 4) (Operand.tmp 17), type := 0, pos := "l15_tally.go:64", after := #[{ on := 3, ground := Ground.data }, { on := 5, ground := Ground.chain }, { on := 0, ground := Ground.phase }, { on := 1, ground := Ground.phase }, { on := 2, ground := Ground.phase }, { on := 3, ground := Ground.phase }, { on := 4, ground := Ground.phase }, { on := 5, ground := Ground.phase }], guard := none }) rfl (fun KC hKC => ?_) AllReadyH.nil
  refine step_store_v rfl 29 _ _ rfl b4 [.int .i64 K, .string N2, .int .i64 F2, .string B2, .int .i64 C2, .int .i64 M] rfl rfl sizeRp c4 rfl (by simp [Value.oneCell']) ?_
  intro wr6 hOr6 c4x
  have hzr6 : wr5.heap.size ≤ wr6.heap.size := Nat.le_of_eq hOr6.1.symm
  have hyr6 : wr6.heap.size ≤ wr5.heap.size := Nat.le_of_eq hOr6.1
  replace c2 := vblk_only c2 hOr6 (by omega)
  replace c3 := vblk_only c3 hOr6 (by omega)
  replace c6 := vblk_only c6 hOr6 (by omega)
  replace c7 := vblk_only c7 hOr6 (by omega)
  clear c4
  have c4 := c4x
  clear c4x
  replace hB := hB.trans (hOr6.2.2 _ (by omega))
  replace hzw := hB.size
  (try replace hcur := cur_below hcur (hOr6.2.2 (p + 1) (by omega)) (by omega))
  refine hKC.out _ _ (⟨c7, cells5 c6⟩) (fun hHeld2 => ?_)
  clear hKC KC hHeld
  have hHeld := hHeld2
  clear hHeld2
  (try simp only [Act.put])
  refine wpAnyH_done (by kernel_rfl) ?_ _
  go_wp2
  exact row_ccc rfl rfl rfl rfl c2 c3 c4 Tryd.underlying25 Tryd.underlying27 Tryd.underlying29 sizeTl sizeCm sizeRp rfl ⟨_, _, _, _, _, V, N, F, U, B, C, D, Q, K, N2, F2, B2, C2, M, rfl, hB⟩
set_option maxHeartbeats 2000000 in
theorem drawTallyOk_any (w : World) (a0 : Option Addr) (len cap : Nat) (hcode : CodeAt w a0 len) :
    Calls Tryd.prog 21 #[.slice a0 len cap] w fun e w' => ∃ A H S D O, e = .returned (.agg #[.int .i64 A, .int .i64 H, .int .i64 S, .int .i64 D, .int .i64 O]) ∧ Below w.heap.size w w' := by
  have HC : Hid (CodeAt w a0 len) := hcode
  clear hcode
  go_enter Tryd.func21, Tryd.ntmps21
  go_wp2_with (first | (refine wpList_alloc_v rfl 25 rfl _ zeroTl ?_; intro b1 w1 hb1 hw1 hB1 V1; have hz1 := hB1.size) | (go_at_call 13; refine (new_cur w1 _ _ _ (codet_below HC.out hB1)).mono ?_; rintro e w2 ⟨p, rfl, hp, hcur, hB2⟩; have hpl := hcur.1; have V2 := vblk_grow V1 hB2; have hB12 := hB1.trans (hB2.mono hz1); have hz2 := hB12.size) | (go_at_call 14; refine (l15Draw_any w2 p a0 len cap hcur).mono ?_; rintro e w3 ⟨A, H, S, D, O, rfl, G3⟩; have hB3 := gbi_low hB12 (by omega) G3.gb; have V3 := gbi_vblk V2 (by omega) G3.gb) | (refine wpList_store_v rfl 25 _ _ rfl b1 [.int .i64 A, .int .i64 H, .int .i64 S, .int .i64 D, .int .i64 O] rfl rfl sizeTl V3 rfl (oneTl ⟨A, H, S, D, O⟩) ?_; intro w4 hO4 V4) | (fail))
  exact row_retv rfl rfl V4 Tryd.underlying25 sizeTl rfl ⟨A, H, S, D, O, rfl, hB3.trans (hO4.2.2 _ hb1)⟩
set_option maxHeartbeats 2000000 in
theorem drawShowTally_any (w : World) (a0 : Option Addr) (len cap : Nat) (hcode : CodeAt w a0 len) :
    Calls Tryd.prog 7 #[.slice a0 len cap] w fun e w' => ∃ A H S D O, e = .returned (.agg #[.int .i64 A, .int .i64 H, .int .i64 S, .int .i64 D, .int .i64 O]) ∧ Below w.heap.size w w' := by
  have HC : Hid (CodeAt w a0 len) := hcode
  clear hcode
  go_enter Tryd.func7, Tryd.ntmps7
  go_wp2_with (first | (refine wpList_alloc_v rfl 25 rfl _ zeroTl ?_; intro b1 w1 hb1 hw1 hB1 V1; have hz1 := hB1.size) | (go_at_call 21; refine (drawTallyOk_any w1 a0 len cap (codet_below HC.out hB1)).mono ?_; rintro e w3 ⟨A, H, S, D, O, rfl, hB3⟩; have V3 := vblk_grow V1 hB3) | (refine wpList_store_v rfl 25 _ _ rfl b1 [.int .i64 A, .int .i64 H, .int .i64 S, .int .i64 D, .int .i64 O] rfl rfl sizeTl V3 rfl (oneTl ⟨A, H, S, D, O⟩) ?_; intro w4 hO4 V4) | (fail))
  exact row_retv rfl rfl V4 Tryd.underlying25 sizeTl rfl ⟨A, H, S, D, O, rfl, (hB1.trans (hB3.mono hz1)).trans (hO4.2.2 _ hb1)⟩
end Go.Proofs.YtldflfmglpojlaaDoor.rg
/- Maps of integers by integers in memory: what is made, looked up, set, cleared, counted; each with a new letter for the world. -/
namespace Go.Proofs.YtldflfmglpojlaaDoor.rg
open Go.ChangeShapes Go.WideShapes Go.ChangeAt Go.RowKit
open Go.ChangeMaps (setBlock heap_setBlock_same heap_setBlock_other)
open Go.Proofs.YtldflfmglpojlaaDoor.ce Go.Proofs.YtldflfmglpojlaaDoor.ro
set_option linter.unusedVariables false

/-- keys and values in the order in which the keys came -/
def kv (p : Int × Int) : Value × Value := (.int .i64 p.1, .int .i64 p.2)
def kvE (e : MapEntry) : Value × Value := (e.key, e.val)
def MapL (w : World) (b : Nat) (l : List (Int × Int)) : Prop := ∃ es clock, w.heap[b]? = some (.map es clock) ∧ es.toList.map kvE = l.map kv
def mget : List (Int × Int) → Int → Option Int
  | [], _ => none
  | (k, v) :: r, x => if x = k then some v else mget r x
def mset : List (Int × Int) → Int → Int → List (Int × Int)
  | [], x, y => [(x, y)]
  | (k, v) :: r, x, y => if x = k then (k, y) :: r else (k, v) :: mset r x y
theorem MapL.lt {w : World} {b : Nat} {l : List (Int × Int)} (h : MapL w b l) : b < w.heap.size := by
  obtain ⟨es, c, hb, -⟩ := h
  exact (Array.getElem?_eq_some_iff.1 hb).1
theorem MapL.of {w w' : World} {b : Nat} {l : List (Int × Int)} (h : MapL w b l) (e : w'.heap[b]? = w.heap[b]?) : MapL w' b l := by
  obtain ⟨es, c, hb, hl⟩ := h
  exact ⟨es, c, by rw [e]; exact hb, hl⟩
theorem MapL.grow {w w' : World} {b : Nat} {l : List (Int × Int)} (h : MapL w b l) (hB : Below w.heap.size w w') : MapL w' b l := h.of (hB.block b h.lt)
theorem MapL.below {w w' : World} {b B : Nat} {l : List (Int × Int)} (h : MapL w b l) (hB : Below B w w') (hb : b < B) : MapL w' b l := h.of (hB.block b hb)
theorem MapL.only {w w' : World} {b b' : Nat} {l : List (Int × Int)} (h : MapL w b l) (hO : Only b' w w') (hn : b ≠ b') : MapL w' b l := h.of (hO.2.1 b hn)
theorem MapL.drew {w : World} {b : Nat} {l : List (Int × Int)} (h : MapL w b l) : MapL w.drew b l := h
/-- a block of cells is no map -/
theorem MapL.apart {w : World} {b b' : Nat} {l : List (Int × Int)} {t : TypeId} {vs : List Value} (h : MapL w b l) (k : VBlk w b' t vs) : b ≠ b' := fun e => by
  obtain ⟨es, c, hb, -⟩ := h
  rw [e] at hb
  have := hb.symm.trans k
  simp at this
theorem MapL.rows {α : Type} {E : Enc α} {w w' : World} {b lo hi : Nat} {l : List (Int × Int)} {v : Value} {xs : List α} (h : MapL w b l) (o : Own E w lo hi v xs) (hO : Only b w w') : Own E w' lo hi v xs := o.keepT fun g cur hg _ _ => hO.2.1 g fun e => by
  obtain ⟨es, c, hb, -⟩ := h
  rw [e] at hg
  have := hg.symm.trans hb
  simp at this
theorem MapL.ty {w w' : World} {b lo : Nat} {l : List (Int × Int)} {t : TypeId} (h : MapL w b l) (hT : Ty lo t w w') : b < lo → MapL w' b l := fun hb => h.of (hT.low.block b hb)

theorem find_none (q : IntKind) (x : Int) : ∀ (es : List MapEntry) (l : List (Int × Int)) (i : Nat), es.map kvE = l.map kv → mget l x = none → Instr.findNow (.int q) (.int .i64 x) es i = some none
  | [], l, i, _, _ => rfl
  | e :: es, [], i, h, _ => by simp at h
  | e :: es, (k, v) :: l, i, h, hm => by
    simp only [List.map_cons, List.cons.injEq] at h
    obtain ⟨h1, h2⟩ := h
    simp only [kvE, kv, Prod.mk.injEq] at h1
    by_cases hx : x = k
    · simp [mget, hx] at hm
    · rw [mget, if_neg hx] at hm
      have hb : (x == k) = false := by simpa using hx
      simp only [Instr.findNow, h1.1, Instr.sameNow, hb]
      exact find_none q x es l (i + 1) h2 hm
theorem find_some (q : IntKind) (x : Int) : ∀ (es : List MapEntry) (l : List (Int × Int)) (i : Nat) (y : Int), es.map kvE = l.map kv → mget l x = some y →
    ∃ j, Instr.findNow (.int q) (.int .i64 x) es i = some (some (i + j, .int .i64 y)) ∧ (∃ e, es[j]? = some e ∧ e.key = .int .i64 x) ∧ ∀ z, (es.modify j fun e => { e with key := .int .i64 x, val := .int .i64 z }).map kvE = (mset l x z).map kv
  | [], l, i, y, h, hm => by
    cases l with
    | nil => simp [mget] at hm
    | cons a l => simp at h
  | e :: es, [], i, y, h, _ => by simp at h
  | e :: es, (k, v) :: l, i, y, h, hm => by
    simp only [List.map_cons, List.cons.injEq] at h
    obtain ⟨h1, h2⟩ := h
    simp only [kvE, kv, Prod.mk.injEq] at h1
    by_cases hx : x = k
    · subst hx
      simp [mget] at hm
      subst hm
      refine ⟨0, ?_, ⟨e, rfl, h1.1⟩, fun z => ?_⟩
      · simp [Instr.findNow, h1.1, h1.2, Instr.sameNow]
      · simp [mset, kvE, kv, h2]
    · rw [mget, if_neg hx] at hm
      have hb : (x == k) = false := by simpa using hx
      obtain ⟨j, g1, ⟨e', g2, g3⟩, g4⟩ := find_some q x es l (i + 1) y h2 hm
      refine ⟨j + 1, ?_, ⟨e', by simpa using g2, g3⟩, fun z => ?_⟩
      · simp only [Instr.findNow, h1.1, Instr.sameNow, hb]
        rw [g1]
        simp [Nat.add_assoc, Nat.add_comm 1 j]
      · rw [mset, if_neg hx]
        simp only [List.modify_succ_cons, List.map_cons, g4 z]
        rw [show kvE e = kv (k, v) by simp [kvE, kv, h1]]
theorem mset_new : ∀ (l : List (Int × Int)) (x y : Int), mget l x = none → mset l x y = l ++ [(x, y)]
  | [], x, y, _ => rfl
  | (k, v) :: l, x, y, h => by
    by_cases hx : x = k
    · simp [mget, hx] at h
    · rw [mget, if_neg hx] at h
      rw [mset, if_neg hx, mset_new l x y h]
      rfl
theorem only_block {w : World} {b : Nat} {es : Array MapEntry} {c : Nat} (hb : w.heap[b]? = some (.map es c)) (o : Obj) : Only b w (setBlock w b o) :=
  ⟨by simp [setBlock], fun j hj => heap_setBlock_other hb o hj, fun B hB => ⟨rfl, rfl, rfl, by simp [setBlock], fun k hk => heap_setBlock_other hb o (by omega)⟩⟩
theorem check_int {P : Program} (w : World) {k : TypeId} {q : IntKind} (hk : P.underlying k = some (.int q)) (e : Bool) (n : Nat) (x : Int) : (Instr.checkKey e (n + 1) k (.int .i64 x)).run P w = .ok () w := by
  unfold Instr.checkKey
  simp [run_underlying hk, Result.andThen]

section
variable {P : Program} {t k e : TypeId} {q q2 : IntKind} {w : World} {b : Nat} {l : List (Int × Int)}
theorem MapL.look (h : MapL w b l) (ht : P.underlying t = some (.map k e)) (hk : P.underlying k = some (.int q)) (hz : (zeroValue e).run P w = .ok (.int .i64 0) w) (x : Int) (ok : Bool) :
    (Instr.lookup t (.map (some b)) (.int .i64 x) ok).run P w = .ok (if ok then .tuple #[.int .i64 ((mget l x).getD 0), .bool (mget l x).isSome] else .int .i64 ((mget l x).getD 0)) w := by
  obtain ⟨es, c, hb, hl⟩ := h
  cases hm : mget l x with
  | none =>
    have := find_none q x es.toList l 0 hl hm
    cases ok <;> simp [Instr.lookup, run_underlying ht, MapKept.run_getObj_map hb, check_int w hk, Instr.findKey, run_underlying hk, this, hz, Result.andThen]
  | some y =>
    obtain ⟨j, h1, -, -⟩ := find_some q x es.toList l 0 y hl hm
    cases ok <;> simp [Instr.lookup, run_underlying ht, MapKept.run_getObj_map hb, check_int w hk, Instr.findKey, run_underlying hk, h1, Result.andThen]
theorem MapL.put (h : MapL w b l) (ht : P.underlying t = some (.map k e)) (hk : P.underlying k = some (.int q)) (x y : Int) :
    ∃ w', (Instr.mapUpdate t (.map (some b)) (.int .i64 x) (.int .i64 y)).run P w = .ok () w' ∧ MapL w' b (mset l x y) ∧ Only b w w' := by
  obtain ⟨es, c, hb, hl⟩ := h
  cases hm : mget l x with
  | none =>
    have := find_none q x es.toList l 0 hl hm
    refine ⟨setBlock w b (.map (es.push ⟨.int .i64 x, .int .i64 y, c⟩) (c + 1)), ?_, ⟨_, _, heap_setBlock_same hb _, ?_⟩, only_block hb _⟩
    · simp [Instr.mapUpdate, run_underlying ht, MapKept.run_getObj_map hb, check_int w hk, Instr.findKey, run_underlying hk, this, MapKept.run_setObj_map _ hb, Result.andThen, setBlock]
    · rw [mset_new l x y hm, Array.toList_push, List.map_append, List.map_append, hl]
      rfl
  | some v =>
    obtain ⟨j, h1, ⟨e0, h2, h3⟩, h4⟩ := find_some q x es.toList l 0 v hl hm
    have h2' : es[j]? = some e0 := by simpa using h2
    refine ⟨setBlock w b (.map (es.modify j fun e => { e with key := .int .i64 x, val := .int .i64 y }) c), ?_, ⟨_, _, heap_setBlock_same hb _, ?_⟩, only_block hb _⟩
    · rw [Nat.zero_add] at h1
      simp [Instr.mapUpdate, run_underlying ht, MapKept.run_getObj_map hb, check_int w hk, Instr.findKey, run_underlying hk, h1, h2', h3, Instr.keyThatStays, Instr.sameBits, MapKept.run_setObj_map _ hb, Result.andThen, setBlock]
    · rw [Array.toList_modify]
      exact h4 y
theorem MapL.clear (h : MapL w b l) (ht : P.underlying t = some (.map k e)) (ty : TypeId) : ∃ w', (Builtin.clear_ #[t] ty #[.map (some b)]).run P w = .ok (.tuple #[]) w' ∧ MapL w' b [] ∧ Only b w w' := by
  obtain ⟨es, c, hb, hl⟩ := h
  refine ⟨setBlock w b (.map #[] c), ?_, ⟨_, _, heap_setBlock_same hb _, rfl⟩, only_block hb _⟩
  simp [Builtin.clear_, run_underlying ht, MapKept.run_getObj_map hb, MapKept.run_setObj_map _ hb, Result.andThen, setBlock]
theorem MapL.len (h : MapL w b l) (ht : P.underlying t = some (.map k e)) (ty : TypeId) : (Builtin.len_ #[t] ty #[.map (some b)]).run P w = .ok (.int .i64 (l.length : Int)) w := by
  obtain ⟨es, c, hb, hl⟩ := h
  have : es.size = l.length := by have := congrArg List.length hl; simpa using this
  simp [Builtin.len_, run_underlying ht, MapKept.run_getObj_map hb, goInt, Result.andThen, this]
end

section laws
variable {ops : Array Oper} {rest : List Oper} {o : Oper} {a : Act} {w : World} {Q : Exit → Act → World → Prop}
theorem wpList_make_m (hgd : o.guard = none) (t : TypeId) (ho : o.op = .makeMap t none) (h : ∀ (b : Nat) (w' : World), w.heap.size ≤ b → b < w'.heap.size → Below w.heap.size w w' → MapL w' b [] → wpList Tryd.prog ops Q rest (a.put o.dst (.map (some b))) w') :
    wpList Tryd.prog ops Q (o :: rest) a w := by
  refine wpList_val hgd (v := .map (some w.heap.size)) (w' := w.alloc (.map #[] 0)) ?_ (h _ _ (Nat.le_refl _) (by simp) ((Below.refl _ _).alloc (Nat.le_refl _) _) ⟨#[], 0, heap_alloc_new _ _, rfl⟩)
  unfold execOp
  simp only [ho]
  rfl
theorem wpList_look_m (hgd : o.guard = none) (m x : Operand) (t : TypeId) (ok : Bool) (ho : o.op = .lookup t m x ok) {k e : TypeId} {q : IntKind} (ht : Tryd.prog.underlying t = some (.map k e)) (hk : Tryd.prog.underlying k = some (.int q)) (hz : ∀ w, (zeroValue e).run Tryd.prog w = .ok (.int .i64 0) w)
    (b : Nat) (l : List (Int × Int)) (hm : a.eval m = .map (some b)) (M : MapL w b l) (y : Int) (hx : a.eval x = .int .i64 y)
    (h : wpList Tryd.prog ops Q rest (a.put o.dst (if ok then .tuple #[.int .i64 ((mget l y).getD 0), .bool (mget l y).isSome] else .int .i64 ((mget l y).getD 0))) w) : wpList Tryd.prog ops Q (o :: rest) a w := by
  refine wpList_val hgd (w' := w) ?_ h
  simp [execOp, ho, hm, hx, M.look ht hk (hz w) y ok, Result.andThen]
theorem wpList_set_m (hgd : o.guard = none) (m x v : Operand) (t : TypeId) (ho : o.op = .mapUpdate t m x v ∨ o.op = .insert t m x v) {k e : TypeId} {q : IntKind} (ht : Tryd.prog.underlying t = some (.map k e)) (hk : Tryd.prog.underlying k = some (.int q))
    (b : Nat) (l : List (Int × Int)) (hm : a.eval m = .map (some b)) (M : MapL w b l) (y z : Int) (hx : a.eval x = .int .i64 y) (hv : a.eval v = .int .i64 z)
    (h : ∀ w', MapL w' b (mset l y z) → Only b w w' → wpList Tryd.prog ops Q rest (a.put o.dst undef) w') : wpList Tryd.prog ops Q (o :: rest) a w := by
  obtain ⟨w', h1, h2, h3⟩ := M.put ht hk y z
  refine wpList_plain hgd fun K hK => ?_
  unfold Oper.wp
  rcases ho with ho | ho <;> simp [execOp, ho, hm, hx, hv, h1, Result.andThen] <;> exact hK _ _ (h w' h2 h3)
theorem wpList_clear_m (hgd : o.guard = none) (m : Operand) (t : TypeId) (ho : o.op = .call { callee := .builtin .clear, args := #[m], argTypes := #[t] }) {k e : TypeId} (ht : Tryd.prog.underlying t = some (.map k e))
    (b : Nat) (l : List (Int × Int)) (hm : a.eval m = .map (some b)) (M : MapL w b l)
    (h : ∀ w', MapL w' b [] → Only b w w' → wpList Tryd.prog ops Q rest (a.put o.dst (.tuple #[])) w') : wpList Tryd.prog ops Q (o :: rest) a w := by
  obtain ⟨w', h1, h2, h3⟩ := M.clear ht o.type
  refine wpList_val hgd (w' := w') ?_ (h w' h2 h3)
  simp [execOp, ho, resolve, invoke, builtin, hm, h1, Result.andThen]
theorem wpList_len_m (hgd : o.guard = none) (m : Operand) (t : TypeId) (ho : o.op = .call { callee := .builtin .len, args := #[m], argTypes := #[t] }) {k e : TypeId} (ht : Tryd.prog.underlying t = some (.map k e))
    (b : Nat) (l : List (Int × Int)) (hm : a.eval m = .map (some b)) (M : MapL w b l) (h : wpList Tryd.prog ops Q rest (a.put o.dst (.int .i64 (l.length : Int))) w) : wpList Tryd.prog ops Q (o :: rest) a w := by
  refine wpList_val hgd (w' := w) ?_ h
  simp [execOp, ho, resolve, invoke, builtin, hm, M.len ht o.type, Result.andThen]
end laws
end Go.Proofs.YtldflfmglpojlaaDoor.rg
