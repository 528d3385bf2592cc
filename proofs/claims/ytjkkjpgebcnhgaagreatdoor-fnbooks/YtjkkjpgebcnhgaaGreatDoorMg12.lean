/- Texts laid together: Dr5 Rg1 Rg2 Sn5. -/
import Derived.Test.YtjkkjpgebcnhgaaGreatDoorDr4
import Derived.Test.YtjkkjpgebcnhgaaGreatDoorDe2
import Derived.Test.YtjkkjpgebcnhgaaGreatDoorRows
import Derived.Test.YtjkkjpgebcnhgaaGreatDoorMg00
import Derived.Lib.SmallJoins
import Derived.Deep.Slices
import Derived.Deep.RegionHeld3
import Derived.BigQuiet
import Derived.Deep.DeepCutAuto
import Derived.Deep.CutBlock
import Derived.Maps.RangeWalk
/- What the laws of chapter 11 draw: a command, or what is none. -/
namespace Go.Proofs.YtjkkjpgebcnhgaaGreatDoor.rg
open Go.ChangeShapes Go.WideShapes Go.ChangeAt Go.RowKit
open Go.Deep Go.Joins
open Go.Proofs.YtjkkjpgebcnhgaaGreatDoor.ce Go.Proofs.YtjkkjpgebcnhgaaGreatDoor.ro Go.Proofs.YtjkkjpgebcnhgaaGreatDoor.draw Go.Proofs.YtjkkjpgebcnhgaaGreatDoor.cm
set_option linter.unusedVariables false

set_option maxRecDepth 100000 in
set_option maxHeartbeats 16000000 in
theorem l11DrawAny_any (w : World) (p : Nat) (a0 : Option Addr) (len cap : Nat) (hc : Cur w p a0 len cap) :
    Calls Tryz.prog 48 #[.pointer (some ⟨p, 0, none⟩)] w fun e w' => ∃ (V : Int) (N : ByteArray) (F U : Int) (B : ByteArray) (C D : Int) (Q : Bool), e = .returned (.agg #[.int .i64 V, .string N, .int .i64 F, .int .i64 U, .string B, .int .i64 C, .int .i64 D, .bool Q]) ∧ Gt w p a0 len cap w' ∧ N.size ≤ 4000 ∧ B.size ≤ 4000 := by
  have HC : Hid (Cur w p a0 len cap) := hc
  clear hc
  have m1 : Hid True := trivial
  have m2 : Hid True := trivial
  have m3 : Hid True := trivial
  go_enter Tryz.func48, Tryz.ntmps48
  go_upto_if 7 with (first
    | (clear m1; refine wpList_alloc_v rfl 37 rfl _ zeroCm ?_; intro b2 w2 hb2 hw2 hB2 V2; have D2 : Hid (D0 37 [.int .i64 0, .string ⟨#[]⟩, .int .i64 0, .int .i64 0, .string ⟨#[]⟩, .int .i64 0, .int .i64 0, .bool false] w p a0 len cap b2 w2) := d0_new HC.out hB2 hb2 V2)
    | (go_at_call 93; refine (l11Draw_any w2 p a0 len cap D2.out.t.cur).mono ?_; rintro e w4 ⟨V, N, F, U, B, C, D, Q, rfl, G4, hsm⟩; have D4 : Hid (D0 37 [.int .i64 0, .string ⟨#[]⟩, .int .i64 0, .int .i64 0, .string ⟨#[]⟩, .int .i64 0, .int .i64 0, .bool false] w p a0 len cap b2 w4) := D2.out.then G4; have hN : N.size ≤ 4000 := (by have := hsm.n; dsimp only at this; omega); have hBs : B.size ≤ 4000 := (by have := hsm.b; dsimp only at this; omega); clear hsm)
    | (clear m2; refine wpList_alloc_v rfl 37 rfl _ zeroCm ?_; intro b3 w5 hb3 hw3 hB5 V3)
    | (refine wpList_store_v rfl 37 _ _ rfl b3 [.int .i64 V, .string N, .int .i64 F, .int .i64 U, .string B, .int .i64 C, .int .i64 D, .bool Q] rfl rfl sizeCm V3 rfl (oneCm ⟨V, N, F, U, B, C, D, Q⟩) ?_; intro w6 hO6 V6; have D6 : Hid (Dv 37 [.int .i64 0, .string ⟨#[]⟩, .int .i64 0, .int .i64 0, .string ⟨#[]⟩, .int .i64 0, .int .i64 0, .bool false] w p a0 len cap b2 b3 [.int .i64 V, .string N, .int .i64 F, .int .i64 U, .string B, .int .i64 C, .int .i64 D, .bool Q] w6) := D4.out.dv2 hb3 hB5 hO6 V6)
    | (go_at_call 49; refine (once_from w6 w6 p a0 len cap _ (by omega) D6.out.gt.cur (World.grownBy.refl _ _)).mono ?_; rintro e w7 ⟨y7, rfl, hc7, hg7⟩; have D7 : Hid (Dv 37 [.int .i64 0, .string ⟨#[]⟩, .int .i64 0, .int .i64 0, .string ⟨#[]⟩, .int .i64 0, .int .i64 0, .bool false] w p a0 len cap b2 b3 [.int .i64 V, .string N, .int .i64 F, .int .i64 U, .string B, .int .i64 C, .int .i64 D, .bool Q] w7) := D6.out.went hc7 hg7)
    | (fail))
  clear D2 D4 D6 hc7 hg7 V2 V3 V6 hO6 hB2 hB5
  go_cut [7] from 6 to 57 (fun u7 wc => ∃ (V : Int) (N : ByteArray) (F : Int) (U : Int) (B : ByteArray) (C : Int) (D : Int) (Q : Bool), Hid (Dv 37 [.int .i64 0, .string ⟨#[]⟩, .int .i64 0, .int .i64 0, .string ⟨#[]⟩, .int .i64 0, .int .i64 0, .bool false] w p a0 len cap b2 b3 [.int .i64 V, .string N, .int .i64 F, .int .i64 U, .string B, .int .i64 C, .int .i64 D, .bool Q] wc) ∧ N.size ≤ 4000 ∧ B.size ≤ 4000)
  case first =>
    cases y7 with
    | false =>
      go_wp2
      go_meet
      case rel => exact ⟨V, N, F, U, B, C, D, Q, D7, hN, hBs⟩
    | true =>
      have q49 : Hid True := trivial
      go_upto_block 0 with (first | (clear q49; go_at_call 50; refine (below_from w7 w7 p a0 len cap _ (by omega) D7.out.gt.cur (World.grownBy.refl _ _)).mono ?_; rintro e w1049 ⟨x1049, rfl, hx1049, hy1049, hc1049, hg1049⟩; have D1049 : Hid (Dv 37 [.int .i64 0, .string ⟨#[]⟩, .int .i64 0, .int .i64 0, .string ⟨#[]⟩, .int .i64 0, .int .i64 0, .bool false] w p a0 len cap b2 b3 [.int .i64 V, .string N, .int .i64 F, .int .i64 U, .string B, .int .i64 C, .int .i64 D, .bool Q] w1049) := D7.out.went hc1049 hg1049; clear hc1049 hg1049) | (fail))
      by_cases k0x : x1049 = 0
      · rw [k0x]
        clear k0x
        have q50 : Hid True := trivial
        have q51 : Hid True := trivial
        go_wp2_with (first | (clear q50; go_at_call 50; refine (below_lit w1049 w1049 p a0 len cap [0, 14, -1, 13] _ 4 (-1) 14 rfl (by omega) (by intro x hx; simp at hx; omega) D1049.out.gt.cur (World.grownBy.refl _ _)).mono ?_; rintro e w1050 ⟨z1050, x1050, rfl, hz1050, hzz1050, hcell1050, hx1050, hy1050, hc1050, hg1050⟩; have D1050 : Hid (Dv 37 [.int .i64 0, .string ⟨#[]⟩, .int .i64 0, .int .i64 0, .string ⟨#[]⟩, .int .i64 0, .int .i64 0, .bool false] w p a0 len cap b2 b3 [.int .i64 V, .string N, .int .i64 F, .int .i64 U, .string B, .int .i64 C, .int .i64 D, .bool Q] w1050) := D1049.out.went hc1050 hg1050; clear hc1050 hg1050; obtain ⟨j1050, hj1050⟩ : ∃ j : Nat, z1050 = j := ⟨z1050.toNat, by omega⟩; subst hj1050; rw [Int.toNat_natCast] at hcell1050) | (clear q51; refine wpList_store_cell rfl 2 _ _ rfl b3 0 (.int .i64 x1050) rfl rfl rfl szI1 D1050.out.vg (by simp) ?_; intro w1051 hO1051 V1051; have D1051 : Hid (Dv 37 [.int .i64 0, .string ⟨#[]⟩, .int .i64 0, .int .i64 0, .string ⟨#[]⟩, .int .i64 0, .int .i64 0, .bool false] w p a0 len cap b2 b3 [.int .i64 x1050, .string N, .int .i64 F, .int .i64 U, .string B, .int .i64 C, .int .i64 D, .bool Q] w1051) := D1050.out.put hO1051 V1051; clear V1051 hO1051) | (fail))
        go_meet
        case rel => exact ⟨_, _, _, _, _, _, _, _, D1051, hN, hBs⟩
      · have e0x : (x1049 == 0) = false := by simpa using k0x
        by_cases k1x : x1049 = 1
        · rw [k1x]
          clear k1x
          have q52 : Hid True := trivial
          have q53 : Hid True := trivial
          go_wp2_with (first | (clear q52; go_at_call 94; refine (l8DrawName_any w1049 w1049 p a0 len cap D1049.out.gt.cur (World.grownBy.refl _ _)).mono ?_; rintro e w1052 ⟨s1052, rfl, hs1052, hc1052, hg1052⟩; have D1052 : Hid (Dv 37 [.int .i64 0, .string ⟨#[]⟩, .int .i64 0, .int .i64 0, .string ⟨#[]⟩, .int .i64 0, .int .i64 0, .bool false] w p a0 len cap b2 b3 [.int .i64 V, .string N, .int .i64 F, .int .i64 U, .string B, .int .i64 C, .int .i64 D, .bool Q] w1052) := D1049.out.went hc1052 hg1052; clear hc1052 hg1052) | (clear q53; refine wpList_store_cell rfl 9 _ _ rfl b3 1 (.string s1052) rfl rfl rfl szS1 D1052.out.vg (by simp) ?_; intro w1053 hO1053 V1053; have D1053 : Hid (Dv 37 [.int .i64 0, .string ⟨#[]⟩, .int .i64 0, .int .i64 0, .string ⟨#[]⟩, .int .i64 0, .int .i64 0, .bool false] w p a0 len cap b2 b3 [.int .i64 V, .string s1052, .int .i64 F, .int .i64 U, .string B, .int .i64 C, .int .i64 D, .bool Q] w1053) := D1052.out.put hO1053 V1053; clear V1053 hO1053) | (fail))
          go_meet
          case rel => exact ⟨_, _, _, _, _, _, _, _, D1053, (by omega), hBs⟩
        · have e1x : (x1049 == 1) = false := by simpa using k1x
          by_cases k2x : x1049 = 2
          · rw [k2x]
            clear k2x
            have q54 : Hid True := trivial
            have q55 : Hid True := trivial
            go_wp2_with (first | (clear q54; go_at_call 50; refine (below_lit w1049 w1049 p a0 len cap [-1, 1, 65535, 65536] _ 4 (-1) 65536 rfl (by omega) (by intro x hx; simp at hx; omega) D1049.out.gt.cur (World.grownBy.refl _ _)).mono ?_; rintro e w1054 ⟨z1054, x1054, rfl, hz1054, hzz1054, hcell1054, hx1054, hy1054, hc1054, hg1054⟩; have D1054 : Hid (Dv 37 [.int .i64 0, .string ⟨#[]⟩, .int .i64 0, .int .i64 0, .string ⟨#[]⟩, .int .i64 0, .int .i64 0, .bool false] w p a0 len cap b2 b3 [.int .i64 V, .string N, .int .i64 F, .int .i64 U, .string B, .int .i64 C, .int .i64 D, .bool Q] w1054) := D1049.out.went hc1054 hg1054; clear hc1054 hg1054; obtain ⟨j1054, hj1054⟩ : ∃ j : Nat, z1054 = j := ⟨z1054.toNat, by omega⟩; subst hj1054; rw [Int.toNat_natCast] at hcell1054) | (clear q55; refine wpList_store_cell rfl 2 _ _ rfl b3 2 (.int .i64 x1054) rfl rfl rfl szI1 D1054.out.vg (by simp) ?_; intro w1055 hO1055 V1055; have D1055 : Hid (Dv 37 [.int .i64 0, .string ⟨#[]⟩, .int .i64 0, .int .i64 0, .string ⟨#[]⟩, .int .i64 0, .int .i64 0, .bool false] w p a0 len cap b2 b3 [.int .i64 V, .string N, .int .i64 x1054, .int .i64 U, .string B, .int .i64 C, .int .i64 D, .bool Q] w1055) := D1054.out.put hO1055 V1055; clear V1055 hO1055) | (fail))
            go_meet
            case rel => exact ⟨_, _, _, _, _, _, _, _, D1055, hN, hBs⟩
          · have e2x : (x1049 == 2) = false := by simpa using k2x
            by_cases k3x : x1049 = 3
            · rw [k3x]
              clear k3x
              have q56 : Hid True := trivial
              have q57 : Hid True := trivial
              go_wp2_with (first | (clear q56; go_at_call 50; refine (below_lit w1049 w1049 p a0 len cap [-1, 1, 1000000, 1000001] _ 4 (-1) 1000001 rfl (by omega) (by intro x hx; simp at hx; omega) D1049.out.gt.cur (World.grownBy.refl _ _)).mono ?_; rintro e w1056 ⟨z1056, x1056, rfl, hz1056, hzz1056, hcell1056, hx1056, hy1056, hc1056, hg1056⟩; have D1056 : Hid (Dv 37 [.int .i64 0, .string ⟨#[]⟩, .int .i64 0, .int .i64 0, .string ⟨#[]⟩, .int .i64 0, .int .i64 0, .bool false] w p a0 len cap b2 b3 [.int .i64 V, .string N, .int .i64 F, .int .i64 U, .string B, .int .i64 C, .int .i64 D, .bool Q] w1056) := D1049.out.went hc1056 hg1056; clear hc1056 hg1056; obtain ⟨j1056, hj1056⟩ : ∃ j : Nat, z1056 = j := ⟨z1056.toNat, by omega⟩; subst hj1056; rw [Int.toNat_natCast] at hcell1056) | (clear q57; refine wpList_store_cell rfl 2 _ _ rfl b3 3 (.int .i64 x1056) rfl rfl rfl szI1 D1056.out.vg (by simp) ?_; intro w1057 hO1057 V1057; have D1057 : Hid (Dv 37 [.int .i64 0, .string ⟨#[]⟩, .int .i64 0, .int .i64 0, .string ⟨#[]⟩, .int .i64 0, .int .i64 0, .bool false] w p a0 len cap b2 b3 [.int .i64 V, .string N, .int .i64 F, .int .i64 x1056, .string B, .int .i64 C, .int .i64 D, .bool Q] w1057) := D1056.out.put hO1057 V1057; clear V1057 hO1057) | (fail))
              go_meet
              case rel => exact ⟨_, _, _, _, _, _, _, _, D1057, hN, hBs⟩
            · have e3x : (x1049 == 3) = false := by simpa using k3x
              by_cases k4x : x1049 = 4
              · rw [k4x]
                clear k4x
                have q58 : Hid True := trivial
                have q59 : Hid True := trivial
                have q60 : Hid True := trivial
                go_wp2_with (first | (clear q58; go_at_call 50; refine (below_from w1049 w1049 p a0 len cap _ (by omega) D1049.out.gt.cur (World.grownBy.refl _ _)).mono ?_; rintro e w1058 ⟨x1058, rfl, hx1058, hy1058, hc1058, hg1058⟩; have D1058 : Hid (Dv 37 [.int .i64 0, .string ⟨#[]⟩, .int .i64 0, .int .i64 0, .string ⟨#[]⟩, .int .i64 0, .int .i64 0, .bool false] w p a0 len cap b2 b3 [.int .i64 V, .string N, .int .i64 F, .int .i64 U, .string B, .int .i64 C, .int .i64 D, .bool Q] w1058) := D1049.out.went hc1058 hg1058; clear hc1058 hg1058; obtain ⟨n1058, hn1058⟩ : ∃ n : Nat, Hid ((63 : Int) + x1058 = n) := ⟨(63 + x1058).toNat, by unfold Hid; omega⟩; have hnw : IntKind.i64.wrap (63 + x1058) = (n1058 : Int) := (by rw [← hn1058.out, IntKind.wrap_i64]; omega); have hnl : n1058 ≤ 65 := (by have := hn1058.out; omega)) | (clear q59; refine wpList_make_zeros rfl _ _ 43 rfl Tryz.underlying43 n1058 (by omega) rfl rfl ?_; intro bz w1059 hB1059 hcv; have D1059 : Hid (Dv 37 [.int .i64 0, .string ⟨#[]⟩, .int .i64 0, .int .i64 0, .string ⟨#[]⟩, .int .i64 0, .int .i64 0, .bool false] w p a0 len cap b2 b3 [.int .i64 V, .string N, .int .i64 F, .int .i64 U, .string B, .int .i64 C, .int .i64 D, .bool Q] w1059) := D1058.out.grow hB1059; have hzs := zeros_size n1058; obtain ⟨s1059, hsz⟩ := hid_ex (zeros n1058); rw [hsz.out] at hcv hzs; have hs1059 : s1059.size ≤ 65 := (by omega); clear hzs) | (clear q60; refine wpList_store_cell rfl 9 _ _ rfl b3 4 (.string s1059) rfl rfl rfl szS1 D1059.out.vg (by simp) ?_; intro w1060 hO1060 V1060; have D1060 : Hid (Dv 37 [.int .i64 0, .string ⟨#[]⟩, .int .i64 0, .int .i64 0, .string ⟨#[]⟩, .int .i64 0, .int .i64 0, .bool false] w p a0 len cap b2 b3 [.int .i64 V, .string N, .int .i64 F, .int .i64 U, .string s1059, .int .i64 C, .int .i64 D, .bool Q] w1060) := D1059.out.put hO1060 V1060; clear V1060 hO1060) | (fail))
                go_meet
                case rel => exact ⟨_, _, _, _, _, _, _, _, D1060, hN, (by omega)⟩
              · have e4x : (x1049 == 4) = false := by simpa using k4x
                by_cases k5x : x1049 = 5
                · rw [k5x]
                  clear k5x
                  have q61 : Hid True := trivial
                  have q62 : Hid True := trivial
                  go_wp2_with (first | (clear q61; go_at_call 50; refine (below_lit w1049 w1049 p a0 len cap [0, 1, 1000000, 1000001] _ 4 (0) 1000001 rfl (by omega) (by intro x hx; simp at hx; omega) D1049.out.gt.cur (World.grownBy.refl _ _)).mono ?_; rintro e w1061 ⟨z1061, x1061, rfl, hz1061, hzz1061, hcell1061, hx1061, hy1061, hc1061, hg1061⟩; have D1061 : Hid (Dv 37 [.int .i64 0, .string ⟨#[]⟩, .int .i64 0, .int .i64 0, .string ⟨#[]⟩, .int .i64 0, .int .i64 0, .bool false] w p a0 len cap b2 b3 [.int .i64 V, .string N, .int .i64 F, .int .i64 U, .string B, .int .i64 C, .int .i64 D, .bool Q] w1061) := D1049.out.went hc1061 hg1061; clear hc1061 hg1061; obtain ⟨j1061, hj1061⟩ : ∃ j : Nat, z1061 = j := ⟨z1061.toNat, by omega⟩; subst hj1061; rw [Int.toNat_natCast] at hcell1061) | (clear q62; refine wpList_store_cell rfl 2 _ _ rfl b3 5 (.int .i64 x1061) rfl rfl rfl szI1 D1061.out.vg (by simp) ?_; intro w1062 hO1062 V1062; have D1062 : Hid (Dv 37 [.int .i64 0, .string ⟨#[]⟩, .int .i64 0, .int .i64 0, .string ⟨#[]⟩, .int .i64 0, .int .i64 0, .bool false] w p a0 len cap b2 b3 [.int .i64 V, .string N, .int .i64 F, .int .i64 U, .string B, .int .i64 x1061, .int .i64 D, .bool Q] w1062) := D1061.out.put hO1062 V1062; clear V1062 hO1062) | (fail))
                  go_meet
                  case rel => exact ⟨_, _, _, _, _, _, _, _, D1062, hN, hBs⟩
                · have e5x : (x1049 == 5) = false := by simpa using k5x
                  have e6x : x1049 = 6 := by omega
                  rw [e6x]
                  clear e6x
                  have q63 : Hid True := trivial
                  go_wp2_with (first | (clear q63; refine wpList_store_cell rfl 4 _ _ rfl b3 7 (.bool true) rfl rfl rfl szB1 D1049.out.vg (by simp) ?_; intro w1063 hO1063 V1063; have D1063 : Hid (Dv 37 [.int .i64 0, .string ⟨#[]⟩, .int .i64 0, .int .i64 0, .string ⟨#[]⟩, .int .i64 0, .int .i64 0, .bool false] w p a0 len cap b2 b3 [.int .i64 V, .string N, .int .i64 F, .int .i64 U, .string B, .int .i64 C, .int .i64 D, .bool true] w1063) := D1049.out.put hO1063 V1063; clear V1063 hO1063) | (fail))
                  go_meet
                  case rel => first | exact ⟨_, _, _, _, _, _, _, _, D1063, hN, hBs⟩ | exact ⟨_, _, _, _, _, _, _, Or.inr ⟨D1063, hN, hBs⟩⟩
  case rest =>
    obtain ⟨V2, N2, F2, U2, B2, C2, D2, Q2, DZ, hN2, hB2⟩ := hcut
    clear D7
    go_wp2_with (first | (refine wpList_load_r rfl 37 _ rfl b3 0 [.int .i64 V2, .string N2, .int .i64 F2, .int .i64 U2, .string B2, .int .i64 C2, .int .i64 D2, .bool Q2] rfl _ Tryz.underlying37 rfl sizeCm DZ.out.vg.range ?_) | (refine wpList_store_v rfl 37 _ _ rfl b2 [.int .i64 V2, .string N2, .int .i64 F2, .int .i64 U2, .string B2, .int .i64 C2, .int .i64 D2, .bool Q2] rfl rfl sizeCm DZ.out.o.vb rfl (oneCm ⟨V2, N2, F2, U2, B2, C2, D2, Q2⟩) ?_; intro wz hOz Vz) | (fail))
    exact row_retv rfl rfl Vz Tryz.underlying37 sizeCm rfl ⟨_, _, _, _, _, _, _, _, rfl, DZ.out.got hOz, hN2, hB2⟩
end Go.Proofs.YtjkkjpgebcnhgaaGreatDoor.rg
/- By hand through a region that draws its order: one operation taken first, wanted or passed over. -/
namespace Go.Proofs.YtjkkjpgebcnhgaaGreatDoor.ce
open Go.RowKit
set_option linter.unusedVariables false
variable {P : Program} {ops : Array Oper} {Q : Exit → Act → World → Prop} {md : Region.Mode} {S : World → Prop}

end Go.Proofs.YtjkkjpgebcnhgaaGreatDoor.ce
/- By hand through a region that draws its order: a struct's variable is laid, a struct is stored. -/
namespace Go.Proofs.YtjkkjpgebcnhgaaGreatDoor.ce
open Go.ChangeShapes Go.WideShapes Go.ChangeAt Go.RowKit
set_option linter.unusedVariables false
variable {P : Program} {ops : Array Oper} {o : Oper} {a : Act} {w : World} {Q : Exit → Act → World → Prop} {K : Act → World → Prop} {E : Prop}

theorem step_alloc_v (hgd : o.guard = none) (t : TypeId) (ho : o.op = .alloc t) (vs : List Value) (hz : ∀ w, (zeroValue t).run P w = .ok (.agg vs.toArray) w)
    (h : ∀ (b : Nat) (w' : World), w.heap.size ≤ b → b < w'.heap.size → Below w.heap.size w w' → VBlk w' b t vs → K (a.put o.dst (.pointer (some ⟨b, 0, none⟩))) w') : if Region.wanted o (yielded ops a.tmps) = true then Oper.wp P o a w K Q else E := by
  refine step_val hgd (v := .pointer (some ⟨w.heap.size, 0, none⟩)) (w' := w.alloc (.cells vs.toArray t)) ?_ (h _ _ (Nat.le_refl _) (by simp) ((Below.refl _ _).alloc (Nat.le_refl _) _) (heap_alloc_new _ _))
  unfold execOp
  simp only [ho, Instr.alloc, Sem.run_bind, hz, Result.andThen_ok]
  rfl
theorem step_store_v (hgd : o.guard = none) (t : TypeId) (x y : Operand) (ho : o.op = .store t x y) (b : Nat) (ys : List Value) (hx : a.eval x = .pointer (some ⟨b, 0, none⟩)) (hy : a.eval y = .agg ys.toArray)
    (hi : (P.info? t).map (·.size) = some ys.length) {t' : TypeId} {vs : List Value} (hb : VBlk w b t' vs) (hn : ys.length = vs.length) (h1 : ∀ v ∈ ys, v.oneCell' = true)
    (h : ∀ w', Only b w w' → VBlk w' b t' ys → K (a.put o.dst undef) w') : if Region.wanted o (yielded ops a.tmps) = true then Oper.wp P o a w K Q else E := by
  have hw : Region.wanted o (yielded ops a.tmps) = true := by simp [Region.wanted, hgd]
  rw [if_pos hw]
  refine wp_store_mid t x y ho b 0 ys.toArray hx hy ?_ (by rw [hi]; simp) (all_oneCell_toArray h1) ?_
  · rw [List.size_toArray, hn]; exact hb.there
  · refine h _ (only_setCells _ _ _ _) ?_
    unfold VBlk
    rw [heap_setCells b t' _ 0 w vs hb (by simp [hn])]
    simp [hn]
end Go.Proofs.YtjkkjpgebcnhgaaGreatDoor.ce
/- Rows that a call made, of whatever things: written at a place, cut short, copied into. -/
namespace Go.Proofs.YtjkkjpgebcnhgaaGreatDoor.ro
open Go.ChangeShapes Go.WideShapes Go.ChangeAt Go.RowKit
open Go.Proofs.YtjkkjpgebcnhgaaGreatDoor.ce
set_option linter.unusedVariables false
variable {α : Type}

theorem write_list {β : Type} (L : List β) (k n i m : Nat) (R : List β) (hR : R.length = m * k) (hin : i ≤ n) (hL : n * k ≤ L.length) (hc : (i + m) * k ≤ L.length) :
    (L.take (i * k) ++ R ++ L.drop (i * k + R.length)).take ((if i + m ≤ n then n else i + m) * k) = (L.take (n * k)).take (i * k) ++ R ++ (L.take (n * k)).drop ((i + m) * k) := by
  have e1 : (i + m) * k = i * k + m * k := Nat.add_mul _ _ _
  have h1 : i * k ≤ n * k := Nat.mul_le_mul_right _ hin
  have h2 : (L.take (i * k)).length = i * k := by rw [List.length_take]; omega
  rw [List.take_take, Nat.min_eq_left h1]
  have h3 : (L.take (i * k) ++ R).length = (i + m) * k := by rw [List.length_append, h2, hR, e1]
  rw [hR, ← e1]
  split
  · next h =>
    have h4 : (i + m) * k ≤ n * k := Nat.mul_le_mul_right _ h
    rw [List.take_append, h3, List.take_of_length_le (by rw [h3]; exact h4), List.drop_take]
  · next h =>
    have h4 : n * k ≤ (i + m) * k := Nat.mul_le_mul_right _ (by omega)
    rw [List.take_append_of_le_length (by rw [h3]; exact Nat.le_refl _), List.take_of_length_le (by rw [h3]; exact Nat.le_refl _), List.drop_of_length_le (by rw [List.length_take]; omega), List.append_nil]
/-- the block g has room for cap things; the first of them are xs -/
structure RowAt (E : Enc α) (w : World) (g cap : Nat) (xs : List α) : Prop where
  blk : ∃ cur : Array Value, w.heap[g]? = some (.cells cur E.t (0, 0)) ∧ cur.size = cap * E.k ∧ cur.toList.take (xs.length * E.k) = E.row xs
  le : xs.length ≤ cap
  cap : cap ≤ maxLen
theorem Own.at {E : Enc α} {w : World} {lo hi g n cap : Nat} {xs : List α} (o : Own E w lo hi (.slice (some ⟨g, 0, none⟩) n cap) xs) (hne : xs ≠ []) : RowAt E w g cap xs ∧ lo ≤ g ∧ g < hi := by
  rcases o.row with ⟨e, -⟩ | ⟨g', cap', cur, e, hg, hb, hc1, hc2, hc3, htk⟩
  · exact absurd e hne
  cases e
  exact ⟨⟨⟨cur, hb, hc3, htk⟩, hc1, hc2⟩, hg⟩
theorem RowAt.own {E : Enc α} {w : World} {g cap : Nat} {xs : List α} (r : RowAt E w g cap xs) {lo hi n : Nat} (h1 : lo ≤ g) (h2 : g < hi) (hn : n = xs.length) : Own E w lo hi (.slice (some ⟨g, 0, none⟩) n cap) xs := by
  subst hn
  obtain ⟨cur, hb, hs, ht⟩ := r.blk
  exact ⟨.inr ⟨g, cap, cur, rfl, ⟨h1, h2⟩, hb, r.le, r.cap, hs, ht⟩⟩
theorem RowAt.lt {E : Enc α} {w : World} {g cap : Nat} {xs : List α} (r : RowAt E w g cap xs) : g < w.heap.size := by
  obtain ⟨cur, hb, -, -⟩ := r.blk
  exact (Array.getElem?_eq_some_iff.1 hb).1
theorem RowAt.of {E : Enc α} {w w' : World} {g cap : Nat} {xs : List α} (r : RowAt E w g cap xs) (e : w'.heap[g]? = w.heap[g]?) : RowAt E w' g cap xs := by
  obtain ⟨cur, hb, hs, ht⟩ := r.blk
  exact ⟨⟨cur, by rw [e]; exact hb, hs, ht⟩, r.le, r.cap⟩
theorem RowAt.grow {E : Enc α} {w w' : World} {g cap : Nat} {xs : List α} (r : RowAt E w g cap xs) (hb : Below w.heap.size w w') : RowAt E w' g cap xs := r.of (hb.block g r.lt)
/-- things are written at the place i, maybe over the end -/
theorem RowAt.write {E : Enc α} {w : World} {g cap : Nat} {xs : List α} (r : RowAt E w g cap xs) (i : Nat) (hi' : i ≤ xs.length) (ys : List α) (hc : i + ys.length ≤ cap) : RowAt E (w.setCells g (i * E.k) (E.row ys)) g cap (xs.take i ++ ys ++ xs.drop (i + ys.length)) := by
  obtain ⟨cur, hb, hc3, htk⟩ := r.blk
  have hc1 := r.le
  have hL : cur.toList.length = cap * E.k := by rw [Array.length_toList, hc3]
  have hk : (i + ys.length) * E.k ≤ cap * E.k := Nat.mul_le_mul_right _ hc
  have hk1 : xs.length * E.k ≤ cap * E.k := Nat.mul_le_mul_right _ hc1
  have hRl := E.row_len ys
  have e1 : (i + ys.length) * E.k = i * E.k + ys.length * E.k := Nat.add_mul _ _ _
  have hlen : (xs.take i ++ ys ++ xs.drop (i + ys.length)).length = if i + ys.length ≤ xs.length then xs.length else i + ys.length := by
    simp only [List.length_append, List.length_take, List.length_drop]
    split <;> omega
  have hw := write_list cur.toList E.k xs.length i ys.length (E.row ys) hRl hi' (by rw [hL]; exact hk1) (by rw [hL]; exact hk)
  refine ⟨⟨(cur.toList.take (i * E.k) ++ E.row ys ++ cur.toList.drop (i * E.k + (E.row ys).length)).toArray, ?_, ?_, ?_⟩, ?_, r.cap⟩
  · exact heap_setCells g E.t (E.row ys) (i * E.k) w cur.toList (by simpa using hb) (by rw [hL, hRl]; omega)
  · simp only [List.size_toArray, List.length_append, List.length_take, List.length_drop, hL, hRl]; omega
  · rw [hlen]
    show (cur.toList.take (i * E.k) ++ E.row ys ++ cur.toList.drop (i * E.k + (E.row ys).length)).take _ = _
    rw [hw, htk, E.row_take, E.row_append, E.row_append]
    congr 1
    by_cases h : i + ys.length ≤ xs.length
    · exact E.row_drop xs _ h
    · have e3 : xs.drop (i + ys.length) = [] := List.drop_of_length_le (by omega)
      rw [e3, List.drop_of_length_le (by rw [E.row_len]; exact Nat.mul_le_mul_right _ (by omega))]; rfl
  · rw [hlen]; split <;> omega
theorem RowAt.cut {E : Enc α} {w : World} {g cap : Nat} {xs : List α} (r : RowAt E w g cap xs) (m : Nat) : RowAt E w g cap (xs.take m) := by
  obtain ⟨cur, hb, hs, ht⟩ := r.blk
  have hl := r.le
  have h2 : (xs.take m).length = min m xs.length := List.length_take
  refine ⟨⟨cur, hb, hs, ?_⟩, by omega, r.cap⟩
  rw [h2, ← E.row_take, ← ht, List.take_take, ← Nat.mul_min_mul_right]
/-- the cells of a row are there -/
theorem RowAt.there {E : Enc α} {w : World} {g cap : Nat} {xs : List α} (r : RowAt E w g cap xs) : (∀ j, j < cap * E.k → (w.cell? ⟨g, j, none⟩).isSome = true) ∧ (∀ j, w.frozen? ⟨g, j, none⟩ = false) ∧ w.shape? g = some (E.t, cap * E.k) := by
  obtain ⟨cur, hb, hs, ht⟩ := r.blk
  refine ⟨fun j hj => ?_, fun j => frozen_of_row _ _ _ _ _ hb, ?_⟩
  · rw [cell_of_row _ _ _ _ _ _ hb]
    simp; omega
  · simp [World.shape?, hb, hs]
theorem RowAt.ty {E : Enc α} {w w' : World} {g cap lo : Nat} {xs : List α} (r : RowAt E w g cap xs) (hg : lo ≤ g) (h : Only g w w') : Ty lo E.t w w' := by
  obtain ⟨cur, hb, hs, htk⟩ := r.blk
  refine ⟨h.2.2 _ hg, fun k cu t' f hk ht => h.2.1 k fun e => ?_⟩
  subst e
  rw [hk] at hb
  simp at hb
  exact ht hb.2.1
/-- the things from the place i on are read -/
theorem RowAt.range {E : Enc α} {w : World} {g cap : Nat} {xs : List α} (r : RowAt E w g cap xs) (i : Nat) (hi' : i ≤ xs.length) : w.rangeAt g (i * E.k) (E.row (xs.drop i)) := fun j v hv => by
  obtain ⟨cur, hb, hs, ht⟩ := r.blk
  rw [cell_of_row _ _ _ _ _ _ hb]
  rw [← E.row_drop xs i hi', ← ht, List.getElem?_drop, List.getElem?_take] at hv
  split at hv
  · simpa using hv
  · cases hv
theorem RowAt.head {E : Enc α} {w : World} {g cap : Nat} {xs : List α} (r : RowAt E w g cap xs) (i : Nat) : w.rangeAt g 0 (E.row (xs.take i)) := by
  have := (r.cut i).range 0 (Nat.zero_le _)
  simpa using this
/-- the elements are read at a, all of them or as many as there is room for -/
theorem run_copy_e {P : Program} {E : Enc α} (w : World) (dT sT ty : TypeId) (hu : P.underlying dT = some (.slice E.t)) (hs : (P.info? E.t).map (·.size) = some E.k) (g j dLen dCap b off sLen sCap : Nat) (ys : List α) (hn : ys.length = Nat.min sLen dLen)
    (hr : w.rangeAt b off (E.row ys)) (hc : ∀ q, q < ys.length * E.k → (w.cell? ⟨g, j + q, none⟩).isSome = true) (hf : ∀ q, w.frozen? ⟨g, q, none⟩ = false) :
    (Builtin.copy_ #[dT, sT] ty #[.slice (some ⟨g, j, none⟩) dLen dCap, .slice (some ⟨b, off, none⟩) sLen sCap]).run P w = .ok (goInt ys.length) (w.setCells g j (E.row ys)) := by
  have hl := run_loadCells_list (P := P) w ⟨b, off, none⟩ (E.row ys) (fun q v hv => by rw [Addr.add_mid]; exact hr q v hv)
  have hst := run_storeCells_cells (P := P) g j (E.row ys) 0 w (by rw [E.row_len]; simpa using hc) (by intro q hq; exact hf _) (E.row_cells ys)
  have hrl := E.row_len ys
  cases hq : P.info? E.t with
  | none => simp [hq] at hs
  | some i =>
    have hi : i.size = E.k := by simpa [hq] using hs
    have hm : min sLen dLen = ys.length := hn.symm
    simp [Builtin.copy_, run_underlying hu, Builtin.lenOf, Builtin.firstCells, sizeOf, typeInfo, hq, hi, hm, ← hrl, hl, hst]
section
variable {ops : Array Oper} {rest : List Oper} {o : Oper} {a : Act} {w : World} {Q : Exit → Act → World → Prop} {K : Act → World → Prop} {X : Prop}
theorem wpList_cp (hgd : o.guard = none) (d s : Operand) (dT sT : TypeId) (ho : o.op = .call { callee := .builtin .copy, args := #[d, s], argTypes := #[dT, sT] }) (v u : Value) (hd : a.eval d = v) (hs : a.eval s = u) {v' : Value} {w' : World} (hr : (Builtin.copy_ #[dT, sT] o.type #[v, u]).run Tryz.prog w = .ok v' w')
    (h : wpList Tryz.prog ops Q rest (a.put o.dst v') w') : wpList Tryz.prog ops Q (o :: rest) a w :=
  wpList_val hgd (v := v') (w' := w') (by simp [execOp, ho, resolve, invoke, builtin, hd, hs, hr, Result.andThen]) h
theorem step_cp (hgd : o.guard = none) (d s : Operand) (dT sT : TypeId) (ho : o.op = .call { callee := .builtin .copy, args := #[d, s], argTypes := #[dT, sT] }) (v u : Value) (hd : a.eval d = v) (hs : a.eval s = u) {v' : Value} {w' : World} (hr : (Builtin.copy_ #[dT, sT] o.type #[v, u]).run Tryz.prog w = .ok v' w')
    (h : K (a.put o.dst v') w') : if Region.wanted o (yielded ops a.tmps) = true then Oper.wp Tryz.prog o a w K Q else X :=
  step_val hgd (v := v') (w' := w') (by simp [execOp, ho, resolve, invoke, builtin, hd, hs, hr, Result.andThen]) h
/-- a thing is stored at a place of a row that the call made -/
theorem wpList_store_e {E : Enc α} (hsz : (Tryz.prog.info? E.t).map (·.size) = some E.k) (hgd : o.guard = none) (x y : Operand) (ho : o.op = .store E.t x y) (lo hi g n cap i j0 : Nat) (xs : List α) (c : α) (hx : a.eval x = .pointer (some ⟨g, j0, none⟩)) (hj0 : j0 = i * E.k) (hy : a.eval y = .agg (E.put c).toArray)
    (own : Own E w lo hi (.slice (some ⟨g, 0, none⟩) n cap) xs) (hlt : i < xs.length) (h : ∀ w', Only g w w' → Own E w' lo hi (.slice (some ⟨g, 0, none⟩) n cap) (xs.set i c) → wpList Tryz.prog ops Q rest (a.put o.dst undef) w') : wpList Tryz.prog ops Q (o :: rest) a w := by
  subst hj0
  have hne : xs ≠ [] := fun e => by rw [e] at hlt; simp at hlt
  obtain ⟨r, hg1, hg2⟩ := own.at hne
  obtain ⟨h1, h2, -⟩ := r.there
  obtain ⟨hn, hc, -⟩ := own.rd.cap
  have es : xs.take i ++ [c] ++ xs.drop (i + [c].length) = xs.set i c := by
    rw [List.set_eq_take_append_cons_drop, if_pos hlt]; simp
  have hw := r.write i (by omega) [c] (by simp; omega)
  rw [E.row_one', es] at hw
  refine wpList_store_mid hgd E.t x y ho g (i * E.k) (E.put c).toArray hx hy (fun j hj => ⟨h1 _ ?_, h2 _⟩) (by rw [hsz, List.size_toArray, E.len]) (all_oneCell_toArray (E.one c)) (h _ (only_setCells _ _ _ _) (hw.own hg1 hg2 (by simp; omega)))
  rw [List.size_toArray, E.len] at hj
  have : (i + 1) * E.k ≤ cap * E.k := Nat.mul_le_mul_right _ (by omega)
  rw [Nat.add_mul] at this
  omega
end
end Go.Proofs.YtjkkjpgebcnhgaaGreatDoor.ro
