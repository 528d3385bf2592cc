/- Texts laid together: Dr5 Tx0. -/
import Derived.Test.YtldflfmglpojlaaDoorDr4
import Derived.Test.YtldflfmglpojlaaDoorDe2
import Derived.Test.YtldflfmglpojlaaDoorMg02
import Derived.Lib.SmallJoins
import Derived.Deep.Slices
import Derived.Deep.RegionHeld3
import Derived.BigQuiet
import Derived.Deep.DeepCutAuto
import Derived.Deep.CutBlock
/- What the laws of chapter 11 draw: a command, or what is none. -/
namespace Go.Proofs.YtldflfmglpojlaaDoor.rg
open Go.ChangeShapes Go.WideShapes Go.ChangeAt Go.RowKit
open Go.Deep Go.Joins
open Go.Proofs.YtldflfmglpojlaaDoor.ce Go.Proofs.YtldflfmglpojlaaDoor.ro Go.Proofs.YtldflfmglpojlaaDoor.draw Go.Proofs.YtldflfmglpojlaaDoor.cm
set_option linter.unusedVariables false

set_option maxRecDepth 100000 in
set_option maxHeartbeats 16000000 in
theorem l11DrawAny_any (w : World) (p : Nat) (a0 : Option Addr) (len cap : Nat) (hc : Cur w p a0 len cap) :
    Calls Tryd.prog 15 #[.pointer (some ⟨p, 0, none⟩)] w fun e w' => ∃ (V : Int) (N : ByteArray) (F U : Int) (B : ByteArray) (C D : Int) (Q : Bool), e = .returned (.agg #[.int .i64 V, .string N, .int .i64 F, .int .i64 U, .string B, .int .i64 C, .int .i64 D, .bool Q]) ∧ Gt w p a0 len cap w' ∧ N.size ≤ 4000 ∧ B.size ≤ 4000 := by
  have HC : Hid (Cur w p a0 len cap) := hc
  clear hc
  have m1 : Hid True := trivial
  have m2 : Hid True := trivial
  have m3 : Hid True := trivial
  go_enter Tryd.func15, Tryd.ntmps15
  go_upto_if 7 with (first
    | (clear m1; refine wpList_alloc_v rfl 27 rfl _ zeroCm ?_; intro b2 w2 hb2 hw2 hB2 V2; have D2 : Hid (D0 27 [.int .i64 0, .string ⟨#[]⟩, .int .i64 0, .int .i64 0, .string ⟨#[]⟩, .int .i64 0, .int .i64 0, .bool false] w p a0 len cap b2 w2) := d0_new HC.out hB2 hb2 V2)
    | (go_at_call 28; refine (l11Draw_any w2 p a0 len cap D2.out.t.cur).mono ?_; rintro e w4 ⟨V, N, F, U, B, C, D, Q, rfl, G4, hsm⟩; have D4 : Hid (D0 27 [.int .i64 0, .string ⟨#[]⟩, .int .i64 0, .int .i64 0, .string ⟨#[]⟩, .int .i64 0, .int .i64 0, .bool false] w p a0 len cap b2 w4) := D2.out.then G4; have hN : N.size ≤ 4000 := (by have := hsm.n; dsimp only at this; omega); have hBs : B.size ≤ 4000 := (by have := hsm.b; dsimp only at this; omega); clear hsm)
    | (clear m2; refine wpList_alloc_v rfl 27 rfl _ zeroCm ?_; intro b3 w5 hb3 hw3 hB5 V3)
    | (refine wpList_store_v rfl 27 _ _ rfl b3 [.int .i64 V, .string N, .int .i64 F, .int .i64 U, .string B, .int .i64 C, .int .i64 D, .bool Q] rfl rfl sizeCm V3 rfl (oneCm ⟨V, N, F, U, B, C, D, Q⟩) ?_; intro w6 hO6 V6; have D6 : Hid (Dv 27 [.int .i64 0, .string ⟨#[]⟩, .int .i64 0, .int .i64 0, .string ⟨#[]⟩, .int .i64 0, .int .i64 0, .bool false] w p a0 len cap b2 b3 [.int .i64 V, .string N, .int .i64 F, .int .i64 U, .string B, .int .i64 C, .int .i64 D, .bool Q] w6) := D4.out.dv2 hb3 hB5 hO6 V6)
    | (go_at_call 27; refine (once_from w6 w6 p a0 len cap _ (by omega) D6.out.gt.cur (World.grownBy.refl _ _)).mono ?_; rintro e w7 ⟨y7, rfl, hc7, hg7⟩; have D7 : Hid (Dv 27 [.int .i64 0, .string ⟨#[]⟩, .int .i64 0, .int .i64 0, .string ⟨#[]⟩, .int .i64 0, .int .i64 0, .bool false] w p a0 len cap b2 b3 [.int .i64 V, .string N, .int .i64 F, .int .i64 U, .string B, .int .i64 C, .int .i64 D, .bool Q] w7) := D6.out.went hc7 hg7)
    | (fail))
  clear D2 D4 D6 hc7 hg7 V2 V3 V6 hO6 hB2 hB5
  go_cut [7] from 6 to 57 (fun u7 wc => ∃ (V : Int) (N : ByteArray) (F : Int) (U : Int) (B : ByteArray) (C : Int) (D : Int) (Q : Bool), Hid (Dv 27 [.int .i64 0, .string ⟨#[]⟩, .int .i64 0, .int .i64 0, .string ⟨#[]⟩, .int .i64 0, .int .i64 0, .bool false] w p a0 len cap b2 b3 [.int .i64 V, .string N, .int .i64 F, .int .i64 U, .string B, .int .i64 C, .int .i64 D, .bool Q] wc) ∧ N.size ≤ 4000 ∧ B.size ≤ 4000)
  case first =>
    cases y7 with
    | false =>
      go_wp2
      go_meet
      case rel => exact ⟨V, N, F, U, B, C, D, Q, D7, hN, hBs⟩
    | true =>
      have q49 : Hid True := trivial
      go_upto_block 0 with (first | (clear q49; go_at_call 26; refine (below_from w7 w7 p a0 len cap _ (by omega) D7.out.gt.cur (World.grownBy.refl _ _)).mono ?_; rintro e w1049 ⟨x1049, rfl, hx1049, hy1049, hc1049, hg1049⟩; have D1049 : Hid (Dv 27 [.int .i64 0, .string ⟨#[]⟩, .int .i64 0, .int .i64 0, .string ⟨#[]⟩, .int .i64 0, .int .i64 0, .bool false] w p a0 len cap b2 b3 [.int .i64 V, .string N, .int .i64 F, .int .i64 U, .string B, .int .i64 C, .int .i64 D, .bool Q] w1049) := D7.out.went hc1049 hg1049; clear hc1049 hg1049) | (fail))
      by_cases k0x : x1049 = 0
      · rw [k0x]
        clear k0x
        have q50 : Hid True := trivial
        have q51 : Hid True := trivial
        go_wp2_with (first | (clear q50; go_at_call 26; refine (below_lit w1049 w1049 p a0 len cap [0, 14, -1, 13] _ 4 (-1) 14 rfl (by omega) (by intro x hx; simp at hx; omega) D1049.out.gt.cur (World.grownBy.refl _ _)).mono ?_; rintro e w1050 ⟨z1050, x1050, rfl, hz1050, hzz1050, hcell1050, hx1050, hy1050, hc1050, hg1050⟩; have D1050 : Hid (Dv 27 [.int .i64 0, .string ⟨#[]⟩, .int .i64 0, .int .i64 0, .string ⟨#[]⟩, .int .i64 0, .int .i64 0, .bool false] w p a0 len cap b2 b3 [.int .i64 V, .string N, .int .i64 F, .int .i64 U, .string B, .int .i64 C, .int .i64 D, .bool Q] w1050) := D1049.out.went hc1050 hg1050; clear hc1050 hg1050; obtain ⟨j1050, hj1050⟩ : ∃ j : Nat, z1050 = j := ⟨z1050.toNat, by omega⟩; subst hj1050; rw [Int.toNat_natCast] at hcell1050) | (clear q51; refine wpList_store_cell rfl 2 _ _ rfl b3 0 (.int .i64 x1050) rfl rfl rfl szI1 D1050.out.vg (by simp) ?_; intro w1051 hO1051 V1051; have D1051 : Hid (Dv 27 [.int .i64 0, .string ⟨#[]⟩, .int .i64 0, .int .i64 0, .string ⟨#[]⟩, .int .i64 0, .int .i64 0, .bool false] w p a0 len cap b2 b3 [.int .i64 x1050, .string N, .int .i64 F, .int .i64 U, .string B, .int .i64 C, .int .i64 D, .bool Q] w1051) := D1050.out.put hO1051 V1051; clear V1051 hO1051) | (fail))
        go_meet
        case rel => exact ⟨_, _, _, _, _, _, _, _, D1051, hN, hBs⟩
      · have e0x : (x1049 == 0) = false := by simpa using k0x
        by_cases k1x : x1049 = 1
        · rw [k1x]
          clear k1x
          have q52 : Hid True := trivial
          have q53 : Hid True := trivial
          go_wp2_with (first | (clear q52; go_at_call 29; refine (l8DrawName_any w1049 w1049 p a0 len cap D1049.out.gt.cur (World.grownBy.refl _ _)).mono ?_; rintro e w1052 ⟨s1052, rfl, hs1052, hc1052, hg1052⟩; have D1052 : Hid (Dv 27 [.int .i64 0, .string ⟨#[]⟩, .int .i64 0, .int .i64 0, .string ⟨#[]⟩, .int .i64 0, .int .i64 0, .bool false] w p a0 len cap b2 b3 [.int .i64 V, .string N, .int .i64 F, .int .i64 U, .string B, .int .i64 C, .int .i64 D, .bool Q] w1052) := D1049.out.went hc1052 hg1052; clear hc1052 hg1052) | (clear q53; refine wpList_store_cell rfl 9 _ _ rfl b3 1 (.string s1052) rfl rfl rfl szS1 D1052.out.vg (by simp) ?_; intro w1053 hO1053 V1053; have D1053 : Hid (Dv 27 [.int .i64 0, .string ⟨#[]⟩, .int .i64 0, .int .i64 0, .string ⟨#[]⟩, .int .i64 0, .int .i64 0, .bool false] w p a0 len cap b2 b3 [.int .i64 V, .string s1052, .int .i64 F, .int .i64 U, .string B, .int .i64 C, .int .i64 D, .bool Q] w1053) := D1052.out.put hO1053 V1053; clear V1053 hO1053) | (fail))
          go_meet
          case rel => exact ⟨_, _, _, _, _, _, _, _, D1053, (by omega), hBs⟩
        · have e1x : (x1049 == 1) = false := by simpa using k1x
          by_cases k2x : x1049 = 2
          · rw [k2x]
            clear k2x
            have q54 : Hid True := trivial
            have q55 : Hid True := trivial
            go_wp2_with (first | (clear q54; go_at_call 26; refine (below_lit w1049 w1049 p a0 len cap [-1, 1, 65535, 65536] _ 4 (-1) 65536 rfl (by omega) (by intro x hx; simp at hx; omega) D1049.out.gt.cur (World.grownBy.refl _ _)).mono ?_; rintro e w1054 ⟨z1054, x1054, rfl, hz1054, hzz1054, hcell1054, hx1054, hy1054, hc1054, hg1054⟩; have D1054 : Hid (Dv 27 [.int .i64 0, .string ⟨#[]⟩, .int .i64 0, .int .i64 0, .string ⟨#[]⟩, .int .i64 0, .int .i64 0, .bool false] w p a0 len cap b2 b3 [.int .i64 V, .string N, .int .i64 F, .int .i64 U, .string B, .int .i64 C, .int .i64 D, .bool Q] w1054) := D1049.out.went hc1054 hg1054; clear hc1054 hg1054; obtain ⟨j1054, hj1054⟩ : ∃ j : Nat, z1054 = j := ⟨z1054.toNat, by omega⟩; subst hj1054; rw [Int.toNat_natCast] at hcell1054) | (clear q55; refine wpList_store_cell rfl 2 _ _ rfl b3 2 (.int .i64 x1054) rfl rfl rfl szI1 D1054.out.vg (by simp) ?_; intro w1055 hO1055 V1055; have D1055 : Hid (Dv 27 [.int .i64 0, .string ⟨#[]⟩, .int .i64 0, .int .i64 0, .string ⟨#[]⟩, .int .i64 0, .int .i64 0, .bool false] w p a0 len cap b2 b3 [.int .i64 V, .string N, .int .i64 x1054, .int .i64 U, .string B, .int .i64 C, .int .i64 D, .bool Q] w1055) := D1054.out.put hO1055 V1055; clear V1055 hO1055) | (fail))
            go_meet
            case rel => exact ⟨_, _, _, _, _, _, _, _, D1055, hN, hBs⟩
          · have e2x : (x1049 == 2) = false := by simpa using k2x
            by_cases k3x : x1049 = 3
            · rw [k3x]
              clear k3x
              have q56 : Hid True := trivial
              have q57 : Hid True := trivial
              go_wp2_with (first | (clear q56; go_at_call 26; refine (below_lit w1049 w1049 p a0 len cap [-1, 1, 1000000, 1000001] _ 4 (-1) 1000001 rfl (by omega) (by intro x hx; simp at hx; omega) D1049.out.gt.cur (World.grownBy.refl _ _)).mono ?_; rintro e w1056 ⟨z1056, x1056, rfl, hz1056, hzz1056, hcell1056, hx1056, hy1056, hc1056, hg1056⟩; have D1056 : Hid (Dv 27 [.int .i64 0, .string ⟨#[]⟩, .int .i64 0, .int .i64 0, .string ⟨#[]⟩, .int .i64 0, .int .i64 0, .bool false] w p a0 len cap b2 b3 [.int .i64 V, .string N, .int .i64 F, .int .i64 U, .string B, .int .i64 C, .int .i64 D, .bool Q] w1056) := D1049.out.went hc1056 hg1056; clear hc1056 hg1056; obtain ⟨j1056, hj1056⟩ : ∃ j : Nat, z1056 = j := ⟨z1056.toNat, by omega⟩; subst hj1056; rw [Int.toNat_natCast] at hcell1056) | (clear q57; refine wpList_store_cell rfl 2 _ _ rfl b3 3 (.int .i64 x1056) rfl rfl rfl szI1 D1056.out.vg (by simp) ?_; intro w1057 hO1057 V1057; have D1057 : Hid (Dv 27 [.int .i64 0, .string ⟨#[]⟩, .int .i64 0, .int .i64 0, .string ⟨#[]⟩, .int .i64 0, .int .i64 0, .bool false] w p a0 len cap b2 b3 [.int .i64 V, .string N, .int .i64 F, .int .i64 x1056, .string B, .int .i64 C, .int .i64 D, .bool Q] w1057) := D1056.out.put hO1057 V1057; clear V1057 hO1057) | (fail))
              go_meet
              case rel => exact ⟨_, _, _, _, _, _, _, _, D1057, hN, hBs⟩
            · have e3x : (x1049 == 3) = false := by simpa using k3x
              by_cases k4x : x1049 = 4
              · rw [k4x]
                clear k4x
                have q58 : Hid True := trivial
                have q59 : Hid True := trivial
                have q60 : Hid True := trivial
                go_wp2_with (first | (clear q58; go_at_call 26; refine (below_from w1049 w1049 p a0 len cap _ (by omega) D1049.out.gt.cur (World.grownBy.refl _ _)).mono ?_; rintro e w1058 ⟨x1058, rfl, hx1058, hy1058, hc1058, hg1058⟩; have D1058 : Hid (Dv 27 [.int .i64 0, .string ⟨#[]⟩, .int .i64 0, .int .i64 0, .string ⟨#[]⟩, .int .i64 0, .int .i64 0, .bool false] w p a0 len cap b2 b3 [.int .i64 V, .string N, .int .i64 F, .int .i64 U, .string B, .int .i64 C, .int .i64 D, .bool Q] w1058) := D1049.out.went hc1058 hg1058; clear hc1058 hg1058; obtain ⟨n1058, hn1058⟩ : ∃ n : Nat, Hid ((63 : Int) + x1058 = n) := ⟨(63 + x1058).toNat, by unfold Hid; omega⟩; have hnw : IntKind.i64.wrap (63 + x1058) = (n1058 : Int) := (by rw [← hn1058.out, IntKind.wrap_i64]; omega); have hnl : n1058 ≤ 65 := (by have := hn1058.out; omega)) | (clear q59; refine wpList_make_zeros rfl _ _ 22 rfl Tryd.underlying22 n1058 (by omega) rfl rfl ?_; intro bz w1059 hB1059 hcv; have D1059 : Hid (Dv 27 [.int .i64 0, .string ⟨#[]⟩, .int .i64 0, .int .i64 0, .string ⟨#[]⟩, .int .i64 0, .int .i64 0, .bool false] w p a0 len cap b2 b3 [.int .i64 V, .string N, .int .i64 F, .int .i64 U, .string B, .int .i64 C, .int .i64 D, .bool Q] w1059) := D1058.out.grow hB1059; have hzs := zeros_size n1058; obtain ⟨s1059, hsz⟩ := hid_ex (zeros n1058); rw [hsz.out] at hcv hzs; have hs1059 : s1059.size ≤ 65 := (by omega); clear hzs) | (clear q60; refine wpList_store_cell rfl 9 _ _ rfl b3 4 (.string s1059) rfl rfl rfl szS1 D1059.out.vg (by simp) ?_; intro w1060 hO1060 V1060; have D1060 : Hid (Dv 27 [.int .i64 0, .string ⟨#[]⟩, .int .i64 0, .int .i64 0, .string ⟨#[]⟩, .int .i64 0, .int .i64 0, .bool false] w p a0 len cap b2 b3 [.int .i64 V, .string N, .int .i64 F, .int .i64 U, .string s1059, .int .i64 C, .int .i64 D, .bool Q] w1060) := D1059.out.put hO1060 V1060; clear V1060 hO1060) | (fail))
                go_meet
                case rel => exact ⟨_, _, _, _, _, _, _, _, D1060, hN, (by omega)⟩
              · have e4x : (x1049 == 4) = false := by simpa using k4x
                by_cases k5x : x1049 = 5
                · rw [k5x]
                  clear k5x
                  have q61 : Hid True := trivial
                  have q62 : Hid True := trivial
                  go_wp2_with (first | (clear q61; go_at_call 26; refine (below_lit w1049 w1049 p a0 len cap [0, 1, 1000000, 1000001] _ 4 (0) 1000001 rfl (by omega) (by intro x hx; simp at hx; omega) D1049.out.gt.cur (World.grownBy.refl _ _)).mono ?_; rintro e w1061 ⟨z1061, x1061, rfl, hz1061, hzz1061, hcell1061, hx1061, hy1061, hc1061, hg1061⟩; have D1061 : Hid (Dv 27 [.int .i64 0, .string ⟨#[]⟩, .int .i64 0, .int .i64 0, .string ⟨#[]⟩, .int .i64 0, .int .i64 0, .bool false] w p a0 len cap b2 b3 [.int .i64 V, .string N, .int .i64 F, .int .i64 U, .string B, .int .i64 C, .int .i64 D, .bool Q] w1061) := D1049.out.went hc1061 hg1061; clear hc1061 hg1061; obtain ⟨j1061, hj1061⟩ : ∃ j : Nat, z1061 = j := ⟨z1061.toNat, by omega⟩; subst hj1061; rw [Int.toNat_natCast] at hcell1061) | (clear q62; refine wpList_store_cell rfl 2 _ _ rfl b3 5 (.int .i64 x1061) rfl rfl rfl szI1 D1061.out.vg (by simp) ?_; intro w1062 hO1062 V1062; have D1062 : Hid (Dv 27 [.int .i64 0, .string ⟨#[]⟩, .int .i64 0, .int .i64 0, .string ⟨#[]⟩, .int .i64 0, .int .i64 0, .bool false] w p a0 len cap b2 b3 [.int .i64 V, .string N, .int .i64 F, .int .i64 U, .string B, .int .i64 x1061, .int .i64 D, .bool Q] w1062) := D1061.out.put hO1062 V1062; clear V1062 hO1062) | (fail))
                  go_meet
                  case rel => exact ⟨_, _, _, _, _, _, _, _, D1062, hN, hBs⟩
                · have e5x : (x1049 == 5) = false := by simpa using k5x
                  have e6x : x1049 = 6 := by omega
                  rw [e6x]
                  clear e6x
                  have q63 : Hid True := trivial
                  go_wp2_with (first | (clear q63; refine wpList_store_cell rfl 4 _ _ rfl b3 7 (.bool true) rfl rfl rfl szB1 D1049.out.vg (by simp) ?_; intro w1063 hO1063 V1063; have D1063 : Hid (Dv 27 [.int .i64 0, .string ⟨#[]⟩, .int .i64 0, .int .i64 0, .string ⟨#[]⟩, .int .i64 0, .int .i64 0, .bool false] w p a0 len cap b2 b3 [.int .i64 V, .string N, .int .i64 F, .int .i64 U, .string B, .int .i64 C, .int .i64 D, .bool true] w1063) := D1049.out.put hO1063 V1063; clear V1063 hO1063) | (fail))
                  go_meet
                  case rel => first | exact ⟨_, _, _, _, _, _, _, _, D1063, hN, hBs⟩ | exact ⟨_, _, _, _, _, _, _, Or.inr ⟨D1063, hN, hBs⟩⟩
  case rest =>
    obtain ⟨V2, N2, F2, U2, B2, C2, D2, Q2, DZ, hN2, hB2⟩ := hcut
    clear D7
    go_wp2_with (first | (refine wpList_load_r rfl 27 _ rfl b3 0 [.int .i64 V2, .string N2, .int .i64 F2, .int .i64 U2, .string B2, .int .i64 C2, .int .i64 D2, .bool Q2] rfl _ Tryd.underlying27 rfl sizeCm DZ.out.vg.range ?_) | (refine wpList_store_v rfl 27 _ _ rfl b2 [.int .i64 V2, .string N2, .int .i64 F2, .int .i64 U2, .string B2, .int .i64 C2, .int .i64 D2, .bool Q2] rfl rfl sizeCm DZ.out.o.vb rfl (oneCm ⟨V2, N2, F2, U2, B2, C2, D2, Q2⟩) ?_; intro wz hOz Vz) | (fail))
    exact row_retv rfl rfl Vz Tryd.underlying27 sizeCm rfl ⟨_, _, _, _, _, _, _, _, rfl, DZ.out.got hOz, hN2, hB2⟩
end Go.Proofs.YtldflfmglpojlaaDoor.rg
/- Mathematics of counts, no Go in sight. -/
namespace Go.Proofs.YtldflfmglpojlaaDoor.rg
open Go.RowKit
open Go.Proofs.YtldflfmglpojlaaDoor.cm
set_option linter.unusedVariables false

/-- how often: asked, hits, stored, drops, overs -/
structure Tl where
  A : Int
  H : Int
  S : Int
  D : Int
  O : Int
def Tl.zero : Tl := ⟨0, 0, 0, 0, 0⟩
def inT (n : Int) : Bool := decide (0 ≤ n) && decide (n ≤ 1000000000)
theorem inT_iff {n : Int} : inT n = true ↔ 0 ≤ n ∧ n ≤ 1000000000 := by simp [inT]
def tallyB (t : Tl) : Bool := inT t.A && inT t.H && inT t.S && inT t.D && inT t.O
structure TlOk (t : Tl) : Prop where
  a : 0 ≤ t.A ∧ t.A ≤ 1000000000
  h : 0 ≤ t.H ∧ t.H ≤ 1000000000
  s : 0 ≤ t.S ∧ t.S ≤ 1000000000
  d : 0 ≤ t.D ∧ t.D ≤ 1000000000
  o : 0 ≤ t.O ∧ t.O ≤ 1000000000
theorem tallyB_iff {t : Tl} : tallyB t = true ↔ TlOk t := by
  simp only [tallyB, Bool.and_eq_true, inT_iff]
  exact ⟨fun ⟨⟨⟨⟨a, b⟩, c⟩, d⟩, e⟩ => ⟨a, b, c, d, e⟩, fun ⟨a, b, c, d, e⟩ => ⟨⟨⟨⟨a, b⟩, c⟩, d⟩, e⟩⟩
theorem tl_zero : TlOk Tl.zero := ⟨by decide, by decide, by decide, by decide, by decide⟩
/-- one more, up to the most -/
def moreT (n : Int) : Int := if n + 1 < 1000000000 then n + 1 else 1000000000
theorem more_ok {n : Int} (h : 0 ≤ n ∧ n ≤ 1000000000) : 0 ≤ moreT n ∧ moreT n ≤ 1000000000 := by unfold moreT; split <;> omega
theorem more_gt {n : Int} (h : 0 ≤ n ∧ n ≤ 1000000000) : n < moreT n ↔ n < 1000000000 := by unfold moreT; split <;> omega
theorem more_is (n : Int) : moreT n = min 1000000000 (n + 1) := by unfold moreT; omega
def getV (c : Cm) : Bool := decide (c.V = 1) || decide (c.V = 2)
def keptK (r : Rp) : Bool := decide (r.K = 1) || decide (r.K = 6)
/-- a command and what is told of it are counted -/
def cntT (t : Tl) (c : Cm) (r : Rp) : Tl :=
  ⟨if getV c = true then moreT t.A else t.A, if r.K = 5 then moreT t.H else t.H, if keptK r = true then moreT t.S else t.S, t.D, t.O⟩
def coT (t : Tl) (c : Cm) (r : Rp) : Tl := if tallyB t = true then cntT t c r else Tl.zero
theorem cnt_ok {t : Tl} (h : TlOk t) (c : Cm) (r : Rp) : TlOk (cntT t c r) := by
  have step : ∀ (p : Prop) [Decidable p] (n : Int), 0 ≤ n ∧ n ≤ 1000000000 → 0 ≤ (if p then moreT n else n) ∧ (if p then moreT n else n) ≤ 1000000000 := fun p _ n hn => by
    by_cases hp : p
    · rw [if_pos hp]; exact more_ok hn
    · rw [if_neg hp]; exact hn
  exact ⟨step _ t.A h.a, step _ t.H h.h, step _ t.S h.s, h.d, h.o⟩
/-- each counts just its own -/
theorem cnt_says {t : Tl} (h : TlOk t) (c : Cm) (r : Rp) :
    (t.A < (cntT t c r).A ↔ getV c = true ∧ t.A < 1000000000) ∧ (t.H < (cntT t c r).H ↔ r.K = 5 ∧ t.H < 1000000000) ∧ (t.S < (cntT t c r).S ↔ keptK r = true ∧ t.S < 1000000000) := by
  have step : ∀ (p : Prop) [Decidable p] (n : Int), 0 ≤ n ∧ n ≤ 1000000000 → (n < (if p then moreT n else n) ↔ p ∧ n < 1000000000) := fun p _ n hn => by
    by_cases hp : p
    · rw [if_pos hp, more_gt hn]
      exact ⟨fun q => ⟨hp, q⟩, fun q => q.2⟩
    · rw [if_neg hp]
      exact ⟨fun q => by omega, fun q => absurd q.1 hp⟩
  exact ⟨step _ t.A h.a, step _ t.H h.h, step _ t.S h.s⟩
/-- how it is shown -/
def showT (t : Tl) : List UInt8 := wordsL ([t.A, t.H, t.S, t.D, t.O].map fun n => digs n.toNat)
def shT (t : Tl) : List UInt8 := if tallyB t = true then showT t else []
end Go.Proofs.YtldflfmglpojlaaDoor.rg
