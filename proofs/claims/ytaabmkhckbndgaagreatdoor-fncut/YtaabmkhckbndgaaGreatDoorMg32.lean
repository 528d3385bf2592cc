/- Texts laid together: Dr1 Sn5. -/
import Derived.Test.YtaabmkhckbndgaaGreatDoorMg29
import Derived.Test.YtaabmkhckbndgaaGreatDoorMg31
import Derived.Test.YtaabmkhckbndgaaGreatDoorMg15
import Derived.Test.YtaabmkhckbndgaaGreatDoorMg00
import Derived.Lib.SmallJoins
import Derived.Deep.Slices
import Derived.Deep.RegionHeld3
import Derived.BigQuiet
import Derived.Deep.DeepCutAuto
import Derived.Deep.CutBlock
/- What the laws of chapter 12 draw: a reply. -/
namespace Go.Proofs.YtaabmkhckbndgaaGreatDoor.rg
open Go.ChangeShapes Go.WideShapes Go.ChangeAt Go.RowKit
open Go.Deep Go.Joins
open Go.Proofs.YtaabmkhckbndgaaGreatDoor.ce Go.Proofs.YtaabmkhckbndgaaGreatDoor.ro Go.Proofs.YtaabmkhckbndgaaGreatDoor.draw Go.Proofs.YtaabmkhckbndgaaGreatDoor.cm
set_option linter.unusedVariables false

theorem szS1 : (Tryz.prog.info? 9).map (·.size) = some 1 := by kernel_rfl
set_option maxRecDepth 100000 in
set_option maxHeartbeats 8000000 in
theorem l12Draw_any (w : World) (p : Nat) (a0 : Option Addr) (len cap : Nat) (hc : Cur w p a0 len cap) :
    Calls Tryz.prog 79 #[.pointer (some ⟨p, 0, none⟩)] w fun e w' => ∃ (K : Int) (N : ByteArray) (F : Int) (B : ByteArray) (C M : Int), e = .returned (.agg #[.int .i64 K, .string N, .int .i64 F, .string B, .int .i64 C, .int .i64 M]) ∧ Gt w p a0 len cap w' ∧ N.size ≤ 4000 ∧ B.size ≤ 4000 := by
  have HC : Hid (Cur w p a0 len cap) := hc
  clear hc
  have m1 : Hid True := trivial
  have m2 : Hid True := trivial
  have m3 : Hid True := trivial
  have m4 : Hid True := trivial
  have m5 : Hid True := trivial
  have m6 : Hid True := trivial
  have m7 : Hid True := trivial
  have m8 : Hid True := trivial
  go_enter Tryz.func79, Tryz.ntmps79
  go_upto_region 2 with (first
    | (clear m1; refine wpList_alloc_v rfl 42 rfl _ zeroRp ?_; intro b2 w2 hb2 hw2 hB2 V2; have D2 : Hid (D0 42 [.int .i64 0, .string ⟨#[]⟩, .int .i64 0, .string ⟨#[]⟩, .int .i64 0, .int .i64 0] w p a0 len cap b2 w2) := d0_new HC.out hB2 hb2 V2)
    | (go_at_call 78; refine (below_from w2 w2 p a0 len cap _ (by omega) D2.out.t.cur (World.grownBy.refl _ _)).mono ?_; rintro e w4 ⟨x, rfl, hx0, hx1, hc4, hg4⟩; have D4 : Hid (D0 42 [.int .i64 0, .string ⟨#[]⟩, .int .i64 0, .string ⟨#[]⟩, .int .i64 0, .int .i64 0] w p a0 len cap b2 w4) := D2.out.went hc4 hg4; obtain ⟨K, hK⟩ := hid_ex (1 + x); have hKw : IntKind.i64.wrap (1 + x) = K := (by rw [← hK.out, IntKind.wrap_i64]; omega))
    | (clear m2; refine wpList_alloc_v rfl 42 rfl _ zeroRp ?_; intro b3 w5 hb3 hw3 hB5 V3)
    | (refine wpList_store_v rfl 42 _ _ rfl b3 [.int .i64 K, .string ⟨#[]⟩, .int .i64 0, .string ⟨#[]⟩, .int .i64 0, .int .i64 0] rfl rfl sizeRp V3 rfl (oneRp ⟨K, ⟨#[]⟩, 0, ⟨#[]⟩, 0, 0⟩) ?_; intro w6 hO6 V6; have D6 : Hid (Dv 42 [.int .i64 0, .string ⟨#[]⟩, .int .i64 0, .string ⟨#[]⟩, .int .i64 0, .int .i64 0] w p a0 len cap b2 b3 [.int .i64 K, .string ⟨#[]⟩, .int .i64 0, .string ⟨#[]⟩, .int .i64 0, .int .i64 0] w6) := D4.out.dv2 hb3 hB5 hO6 V6)
    | (fail))
  clear D2 D4 hc4 hg4 V2 V3 V6 hO6 hB2 hB5
  obtain ⟨c0, -, -, -, -, -⟩ := cellsRp D6.out.vg
  go_upto_block 0 with (fail)
  go_cut [10] from 10 to 31 (fun u wc => ∃ (N : ByteArray) (F : Int) (B : ByteArray) (C M : Int), Hid (Dv 42 [.int .i64 0, .string ⟨#[]⟩, .int .i64 0, .string ⟨#[]⟩, .int .i64 0, .int .i64 0] w p a0 len cap b2 b3 [.int .i64 K, .string N, .int .i64 F, .string B, .int .i64 C, .int .i64 M] wc) ∧ N.size ≤ 4000 ∧ B.size ≤ 4000)
  clear hKw
  case first =>
    by_cases k5 : K = 5
    · subst k5
      have q1 : Hid True := trivial
      have q2 : Hid True := trivial
      have q3 : Hid True := trivial
      have q4 : Hid True := trivial
      have q5 : Hid True := trivial
      have q6 : Hid True := trivial
      have q7 : Hid True := trivial
      have q8 : Hid True := trivial
      go_wp2_with (first | (clear q1; go_at_call 126; refine (name_from w6 w6 p a0 len cap D6.out.gt.cur (World.grownBy.refl _ _)).mono ?_; rintro e w1001 ⟨s1001, rfl, hs1001, hc1001, hg1001⟩; have D1001 : Hid (Dv 42 [.int .i64 0, .string ⟨#[]⟩, .int .i64 0, .string ⟨#[]⟩, .int .i64 0, .int .i64 0] w p a0 len cap b2 b3 [.int .i64 5, .string ⟨#[]⟩, .int .i64 0, .string ⟨#[]⟩, .int .i64 0, .int .i64 0] w1001) := D6.out.went hc1001 hg1001; clear hc1001 hg1001) | (clear q2; refine wpList_store_cell rfl 9 _ _ rfl b3 1 (.string s1001) rfl rfl rfl szS1 D1001.out.vg (by simp) ?_; intro w1002 hO1002 V1002; have D1002 : Hid (Dv 42 [.int .i64 0, .string ⟨#[]⟩, .int .i64 0, .string ⟨#[]⟩, .int .i64 0, .int .i64 0] w p a0 len cap b2 b3 [.int .i64 5, .string s1001, .int .i64 0, .string ⟨#[]⟩, .int .i64 0, .int .i64 0] w1002) := D1001.out.put hO1002 V1002; clear V1002 hO1002) | (clear q3; go_at_call 78; refine (below_from w1002 w1002 p a0 len cap _ (by omega) D1002.out.gt.cur (World.grownBy.refl _ _)).mono ?_; rintro e w1003 ⟨x1003, rfl, hx1003, hy1003, hc1003, hg1003⟩; have D1003 : Hid (Dv 42 [.int .i64 0, .string ⟨#[]⟩, .int .i64 0, .string ⟨#[]⟩, .int .i64 0, .int .i64 0] w p a0 len cap b2 b3 [.int .i64 5, .string s1001, .int .i64 0, .string ⟨#[]⟩, .int .i64 0, .int .i64 0] w1003) := D1002.out.went hc1003 hg1003; clear hc1003 hg1003) | (clear q4; refine wpList_store_cell rfl 2 _ _ rfl b3 2 (.int .i64 x1003) rfl rfl rfl szI1 D1003.out.vg (by simp) ?_; intro w1004 hO1004 V1004; have D1004 : Hid (Dv 42 [.int .i64 0, .string ⟨#[]⟩, .int .i64 0, .string ⟨#[]⟩, .int .i64 0, .int .i64 0] w p a0 len cap b2 b3 [.int .i64 5, .string s1001, .int .i64 x1003, .string ⟨#[]⟩, .int .i64 0, .int .i64 0] w1004) := D1003.out.put hO1004 V1004; clear V1004 hO1004) | (clear q5; go_at_call 127; refine (drawText_from w1004 w1004 p a0 len cap _ _ (by decide) (by decide) (by omega) (by omega) D1004.out.gt.cur (World.grownBy.refl _ _)).mono ?_; rintro e w1005 ⟨s1005, rfl, hs1005, hc1005, hg1005⟩; have D1005 : Hid (Dv 42 [.int .i64 0, .string ⟨#[]⟩, .int .i64 0, .string ⟨#[]⟩, .int .i64 0, .int .i64 0] w p a0 len cap b2 b3 [.int .i64 5, .string s1001, .int .i64 x1003, .string ⟨#[]⟩, .int .i64 0, .int .i64 0] w1005) := D1004.out.went hc1005 hg1005; clear hc1005 hg1005) | (clear q6; refine wpList_store_cell rfl 9 _ _ rfl b3 3 (.string s1005) rfl rfl rfl szS1 D1005.out.vg (by simp) ?_; intro w1006 hO1006 V1006; have D1006 : Hid (Dv 42 [.int .i64 0, .string ⟨#[]⟩, .int .i64 0, .string ⟨#[]⟩, .int .i64 0, .int .i64 0] w p a0 len cap b2 b3 [.int .i64 5, .string s1001, .int .i64 x1003, .string s1005, .int .i64 0, .int .i64 0] w1006) := D1005.out.put hO1006 V1006; clear V1006 hO1006) | (clear q7; go_at_call 78; refine (below_from w1006 w1006 p a0 len cap _ (by omega) D1006.out.gt.cur (World.grownBy.refl _ _)).mono ?_; rintro e w1007 ⟨x1007, rfl, hx1007, hy1007, hc1007, hg1007⟩; have D1007 : Hid (Dv 42 [.int .i64 0, .string ⟨#[]⟩, .int .i64 0, .string ⟨#[]⟩, .int .i64 0, .int .i64 0] w p a0 len cap b2 b3 [.int .i64 5, .string s1001, .int .i64 x1003, .string s1005, .int .i64 0, .int .i64 0] w1007) := D1006.out.went hc1007 hg1007; clear hc1007 hg1007) | (clear q8; refine wpList_store_cell rfl 2 _ _ rfl b3 4 (.int .i64 x1007) rfl rfl rfl szI1 D1007.out.vg (by simp) ?_; intro w1008 hO1008 V1008; have D1008 : Hid (Dv 42 [.int .i64 0, .string ⟨#[]⟩, .int .i64 0, .string ⟨#[]⟩, .int .i64 0, .int .i64 0] w p a0 len cap b2 b3 [.int .i64 5, .string s1001, .int .i64 x1003, .string s1005, .int .i64 x1007, .int .i64 0] w1008) := D1007.out.put hO1008 V1008; clear V1008 hO1008) | (fail))
      go_meet
      case rel => exact ⟨_, _, _, _, _, D1008, (by omega), (by omega)⟩
    · have e5 : (K == 5) = false := by simpa using k5
      by_cases k6 : K = 6
      · subst k6
        have q9 : Hid True := trivial
        have q10 : Hid True := trivial
        go_wp2_with (first | (clear q9; go_at_call 78; refine (below_lit w6 w6 p a0 len cap [0, 7, 999999999] _ 3 (0) 999999999 rfl (by omega) (by intro x hx; simp at hx; omega) D6.out.gt.cur (World.grownBy.refl _ _)).mono ?_; rintro e w1009 ⟨z1009, x1009, rfl, hz1009, hzz1009, hcell1009, hx1009, hy1009, hc1009, hg1009⟩; have D1009 : Hid (Dv 42 [.int .i64 0, .string ⟨#[]⟩, .int .i64 0, .string ⟨#[]⟩, .int .i64 0, .int .i64 0] w p a0 len cap b2 b3 [.int .i64 6, .string ⟨#[]⟩, .int .i64 0, .string ⟨#[]⟩, .int .i64 0, .int .i64 0] w1009) := D6.out.went hc1009 hg1009; clear hc1009 hg1009; obtain ⟨j1009, hj1009⟩ : ∃ j : Nat, z1009 = j := ⟨z1009.toNat, by omega⟩; subst hj1009; rw [Int.toNat_natCast] at hcell1009) | (clear q10; refine wpList_store_cell rfl 2 _ _ rfl b3 5 (.int .i64 x1009) rfl rfl rfl szI1 D1009.out.vg (by simp) ?_; intro w1010 hO1010 V1010; have D1010 : Hid (Dv 42 [.int .i64 0, .string ⟨#[]⟩, .int .i64 0, .string ⟨#[]⟩, .int .i64 0, .int .i64 0] w p a0 len cap b2 b3 [.int .i64 6, .string ⟨#[]⟩, .int .i64 0, .string ⟨#[]⟩, .int .i64 0, .int .i64 x1009] w1010) := D1009.out.put hO1010 V1010; clear V1010 hO1010) | (fail))
        go_meet
        case rel => exact ⟨_, _, _, _, _, D1010, (by decide), (by decide)⟩
      · have e6 : (K == 6) = false := by simpa using k6
        go_wp2
        go_meet
        case rel => exact ⟨_, _, _, _, _, D6, by decide, by decide⟩
  case rest =>
    obtain ⟨N, F, B, C, M, D10, hN, hB⟩ := hcut
    clear D6
    have D10 : Hid (Dv 42 [.int .i64 0, .string ⟨#[]⟩, .int .i64 0, .string ⟨#[]⟩, .int .i64 0, .int .i64 0] w p a0 len cap b2 b3 [.int .i64 K, .string N, .int .i64 F, .string B, .int .i64 C, .int .i64 M] wc) := D10
    have q11 : Hid True := trivial
    go_upto_if 33 with (first | (clear q11; go_at_call 61; refine (once_from wc wc p a0 len cap _ (by omega) D10.out.gt.cur (World.grownBy.refl _ _)).mono ?_; rintro e w1011 ⟨y1011, rfl, hc1011, hg1011⟩; have D1011 : Hid (Dv 42 [.int .i64 0, .string ⟨#[]⟩, .int .i64 0, .string ⟨#[]⟩, .int .i64 0, .int .i64 0] w p a0 len cap b2 b3 [.int .i64 K, .string N, .int .i64 F, .string B, .int .i64 C, .int .i64 M] w1011) := D10.out.went hc1011 hg1011; clear hc1011 hg1011) | (fail))
    go_cut [33] from 33 to 61 (fun u wc => ∃ (K : Int) (N : ByteArray) (F : Int) (B : ByteArray) (C M : Int), Hid (Dv 42 [.int .i64 0, .string ⟨#[]⟩, .int .i64 0, .string ⟨#[]⟩, .int .i64 0, .int .i64 0] w p a0 len cap b2 b3 [.int .i64 K, .string N, .int .i64 F, .string B, .int .i64 C, .int .i64 M] wc) ∧ N.size ≤ 4000 ∧ B.size ≤ 4000)
    case first =>
      cases y1011 with
      | false =>
        go_wp2
        go_meet
        case rel => exact ⟨K, N, F, B, C, M, D1011, hN, hB⟩
      | true =>
        have q12 : Hid True := trivial
        go_upto_block 1 with (first | (clear q12; go_at_call 78; refine (below_from w1011 w1011 p a0 len cap _ (by omega) D1011.out.gt.cur (World.grownBy.refl _ _)).mono ?_; rintro e w1012 ⟨x1012, rfl, hx1012, hy1012, hc1012, hg1012⟩; have D1012 : Hid (Dv 42 [.int .i64 0, .string ⟨#[]⟩, .int .i64 0, .string ⟨#[]⟩, .int .i64 0, .int .i64 0] w p a0 len cap b2 b3 [.int .i64 K, .string N, .int .i64 F, .string B, .int .i64 C, .int .i64 M] w1012) := D1011.out.went hc1012 hg1012; clear hc1012 hg1012) | (fail))
        by_cases k0x : x1012 = 0
        · rw [k0x]
          have q13 : Hid True := trivial
          have q14 : Hid True := trivial
          go_wp2_with (first | (clear q13; go_at_call 62; refine (from_from w1012 w1012 p a0 len cap _ _ (by omega) (by omega) (by omega) D1012.out.gt.cur (World.grownBy.refl _ _)).mono ?_; rintro e w1013 ⟨x1013, rfl, hx1013, hy1013, hc1013, hg1013⟩; have D1013 : Hid (Dv 42 [.int .i64 0, .string ⟨#[]⟩, .int .i64 0, .string ⟨#[]⟩, .int .i64 0, .int .i64 0] w p a0 len cap b2 b3 [.int .i64 K, .string N, .int .i64 F, .string B, .int .i64 C, .int .i64 M] w1013) := D1012.out.went hc1013 hg1013; clear hc1013 hg1013) | (clear q14; refine wpList_store_cell rfl 2 _ _ rfl b3 0 (.int .i64 x1013) rfl rfl rfl szI1 D1013.out.vg (by simp) ?_; intro w1014 hO1014 V1014; have D1014 : Hid (Dv 42 [.int .i64 0, .string ⟨#[]⟩, .int .i64 0, .string ⟨#[]⟩, .int .i64 0, .int .i64 0] w p a0 len cap b2 b3 [.int .i64 x1013, .string N, .int .i64 F, .string B, .int .i64 C, .int .i64 M] w1014) := D1013.out.put hO1014 V1014; clear V1014 hO1014) | (fail))
          go_meet
          case rel => exact ⟨_, _, _, _, _, _, D1014, hN, hB⟩
        · have e0x : (x1012 == 0) = false := by simpa using k0x
          by_cases k1x : x1012 = 1
          · rw [k1x]
            have q15 : Hid True := trivial
            have q16 : Hid True := trivial
            go_wp2_with (first | (clear q15; go_at_call 78; refine (below_lit w1012 w1012 p a0 len cap [-1, 5, 1000000000] _ 3 (-1) 1000000000 rfl (by omega) (by intro x hx; simp at hx; omega) D1012.out.gt.cur (World.grownBy.refl _ _)).mono ?_; rintro e w1015 ⟨z1015, x1015, rfl, hz1015, hzz1015, hcell1015, hx1015, hy1015, hc1015, hg1015⟩; have D1015 : Hid (Dv 42 [.int .i64 0, .string ⟨#[]⟩, .int .i64 0, .string ⟨#[]⟩, .int .i64 0, .int .i64 0] w p a0 len cap b2 b3 [.int .i64 K, .string N, .int .i64 F, .string B, .int .i64 C, .int .i64 M] w1015) := D1012.out.went hc1015 hg1015; clear hc1015 hg1015; obtain ⟨j1015, hj1015⟩ : ∃ j : Nat, z1015 = j := ⟨z1015.toNat, by omega⟩; subst hj1015; rw [Int.toNat_natCast] at hcell1015) | (clear q16; refine wpList_store_cell rfl 2 _ _ rfl b3 5 (.int .i64 x1015) rfl rfl rfl szI1 D1015.out.vg (by simp) ?_; intro w1016 hO1016 V1016; have D1016 : Hid (Dv 42 [.int .i64 0, .string ⟨#[]⟩, .int .i64 0, .string ⟨#[]⟩, .int .i64 0, .int .i64 0] w p a0 len cap b2 b3 [.int .i64 K, .string N, .int .i64 F, .string B, .int .i64 C, .int .i64 x1015] w1016) := D1015.out.put hO1016 V1016; clear V1016 hO1016) | (fail))
            go_meet
            case rel => exact ⟨_, _, _, _, _, _, D1016, hN, hB⟩
          · have e1x : (x1012 == 1) = false := by simpa using k1x
            by_cases k2x : x1012 = 2
            · rw [k2x]
              have q17 : Hid True := trivial
              have q18 : Hid True := trivial
              go_wp2_with (first | (clear q17; go_at_call 128; refine (l8DrawName_any w1012 w1012 p a0 len cap D1012.out.gt.cur (World.grownBy.refl _ _)).mono ?_; rintro e w1017 ⟨s1017, rfl, hs1017, hc1017, hg1017⟩; have D1017 : Hid (Dv 42 [.int .i64 0, .string ⟨#[]⟩, .int .i64 0, .string ⟨#[]⟩, .int .i64 0, .int .i64 0] w p a0 len cap b2 b3 [.int .i64 K, .string N, .int .i64 F, .string B, .int .i64 C, .int .i64 M] w1017) := D1012.out.went hc1017 hg1017; clear hc1017 hg1017) | (clear q18; refine wpList_store_cell rfl 9 _ _ rfl b3 1 (.string s1017) rfl rfl rfl szS1 D1017.out.vg (by simp) ?_; intro w1018 hO1018 V1018; have D1018 : Hid (Dv 42 [.int .i64 0, .string ⟨#[]⟩, .int .i64 0, .string ⟨#[]⟩, .int .i64 0, .int .i64 0] w p a0 len cap b2 b3 [.int .i64 K, .string s1017, .int .i64 F, .string B, .int .i64 C, .int .i64 M] w1018) := D1017.out.put hO1018 V1018; clear V1018 hO1018) | (fail))
              go_meet
              case rel => exact ⟨_, _, _, _, _, _, D1018, (by omega), hB⟩
            · have e2x : (x1012 == 2) = false := by simpa using k2x
              have e3x : x1012 = 3 := by omega
              rw [e3x]
              have q19 : Hid True := trivial
              have q20 : Hid True := trivial
              go_wp2_with (first | (clear q19; go_at_call 78; refine (below_lit w1012 w1012 p a0 len cap [-1, 1, 1000001] _ 3 (-1) 1000001 rfl (by omega) (by intro x hx; simp at hx; omega) D1012.out.gt.cur (World.grownBy.refl _ _)).mono ?_; rintro e w1019 ⟨z1019, x1019, rfl, hz1019, hzz1019, hcell1019, hx1019, hy1019, hc1019, hg1019⟩; have D1019 : Hid (Dv 42 [.int .i64 0, .string ⟨#[]⟩, .int .i64 0, .string ⟨#[]⟩, .int .i64 0, .int .i64 0] w p a0 len cap b2 b3 [.int .i64 K, .string N, .int .i64 F, .string B, .int .i64 C, .int .i64 M] w1019) := D1012.out.went hc1019 hg1019; clear hc1019 hg1019; obtain ⟨j1019, hj1019⟩ : ∃ j : Nat, z1019 = j := ⟨z1019.toNat, by omega⟩; subst hj1019; rw [Int.toNat_natCast] at hcell1019) | (clear q20; refine wpList_store_cell rfl 2 _ _ rfl b3 4 (.int .i64 x1019) rfl rfl rfl szI1 D1019.out.vg (by simp) ?_; intro w1020 hO1020 V1020; have D1020 : Hid (Dv 42 [.int .i64 0, .string ⟨#[]⟩, .int .i64 0, .string ⟨#[]⟩, .int .i64 0, .int .i64 0] w p a0 len cap b2 b3 [.int .i64 K, .string N, .int .i64 F, .string B, .int .i64 x1019, .int .i64 M] w1020) := D1019.out.put hO1020 V1020; clear V1020 hO1020) | (fail))
              go_meet
              case rel => exact ⟨_, _, _, _, _, _, D1020, hN, hB⟩
    case rest =>
      obtain ⟨K2, N2, F2, B2, C2, M2, DZ, hN2, hB2⟩ := hcut
      clear D10 D1011
      go_wp2_with (first | (refine wpList_load_r rfl 42 _ rfl b3 0 [.int .i64 K2, .string N2, .int .i64 F2, .string B2, .int .i64 C2, .int .i64 M2] rfl _ Tryz.underlying42 rfl sizeRp DZ.out.vg.range ?_) | (refine wpList_store_v rfl 42 _ _ rfl b2 [.int .i64 K2, .string N2, .int .i64 F2, .string B2, .int .i64 C2, .int .i64 M2] rfl rfl sizeRp DZ.out.o.vb rfl (oneRp ⟨K2, N2, F2, B2, C2, M2⟩) ?_; intro wz hOz Vz) | (fail))
      exact row_retv rfl rfl Vz Tryz.underlying42 sizeRp rfl ⟨_, _, _, _, _, _, rfl, DZ.out.got hOz, hN2, hB2⟩
end Go.Proofs.YtaabmkhckbndgaaGreatDoor.rg
/- Rows that a call made, of whatever things: written at a place, cut short, copied into. -/
namespace Go.Proofs.YtaabmkhckbndgaaGreatDoor.ro
open Go.ChangeShapes Go.WideShapes Go.ChangeAt Go.RowKit
open Go.Proofs.YtaabmkhckbndgaaGreatDoor.ce
set_option linter.unusedVariables false
variable {α : Type}

theorem write_list {β : Type} (L : List β) (k n i m : Nat) (R : List β) (hR : R.length = m * k) (hin : i ≤ n) (hL : n * k ≤ L.length) (hc : (i + m) * k ≤ L.length) :
    (L.take (i * k) ++ R ++ L.drop (i * k + R.length)).take ((if i + m ≤ n then n else i + m) * k) = (L.take (n * k)).take (i * k) ++ R ++ (L.take (n * k)).drop ((i + m) * k) := by
  have e1 : (i + m) * k = i * k + m * k := Nat.add_mul _ _ _
  have h1 : i * k ≤ n * k := Nat.mul_le_mul_right _ hin
  have h2 : (L.take (i * k)).length = i * k := by rw [List.length_take]; omega
  rw [List.take_take, Nat.min_eq_left h1]
  have h3 : (L.take (i * k) ++ R).length = (i + m) * k := by rw [List.length_append, h2, hR, e1]
  rw [hR, ← e1]
  split
  · next h =>
    have h4 : (i + m) * k ≤ n * k := Nat.mul_le_mul_right _ h
    rw [List.take_append, h3, List.take_of_length_le (by rw [h3]; exact h4), List.drop_take]
  · next h =>
    have h4 : n * k ≤ (i + m) * k := Nat.mul_le_mul_right _ (by omega)
    rw [List.take_append_of_le_length (by rw [h3]; exact Nat.le_refl _), List.take_of_length_le (by rw [h3]; exact Nat.le_refl _), List.drop_of_length_le (by rw [List.length_take]; omega), List.append_nil]
/-- the block g has room for cap things; the first of them are xs -/
structure RowAt (E : Enc α) (w : World) (g cap : Nat) (xs : List α) : Prop where
  blk : ∃ cur : Array Value, w.heap[g]? = some (.cells cur E.t (0, 0)) ∧ cur.size = cap * E.k ∧ cur.toList.take (xs.length * E.k) = E.row xs
  le : xs.length ≤ cap
  cap : cap ≤ maxLen
theorem Own.at {E : Enc α} {w : World} {lo hi g n cap : Nat} {xs : List α} (o : Own E w lo hi (.slice (some ⟨g, 0, none⟩) n cap) xs) (hne : xs ≠ []) : RowAt E w g cap xs ∧ lo ≤ g ∧ g < hi := by
  rcases o.row with ⟨e, -⟩ | ⟨g', cap', cur, e, hg, hb, hc1, hc2, hc3, htk⟩
  · exact absurd e hne
  cases e
  exact ⟨⟨⟨cur, hb, hc3, htk⟩, hc1, hc2⟩, hg⟩
theorem RowAt.own {E : Enc α} {w : World} {g cap : Nat} {xs : List α} (r : RowAt E w g cap xs) {lo hi n : Nat} (h1 : lo ≤ g) (h2 : g < hi) (hn : n = xs.length) : Own E w lo hi (.slice (some ⟨g, 0, none⟩) n cap) xs := by
  subst hn
  obtain ⟨cur, hb, hs, ht⟩ := r.blk
  exact ⟨.inr ⟨g, cap, cur, rfl, ⟨h1, h2⟩, hb, r.le, r.cap, hs, ht⟩⟩
theorem RowAt.lt {E : Enc α} {w : World} {g cap : Nat} {xs : List α} (r : RowAt E w g cap xs) : g < w.heap.size := by
  obtain ⟨cur, hb, -, -⟩ := r.blk
  exact (Array.getElem?_eq_some_iff.1 hb).1
theorem RowAt.of {E : Enc α} {w w' : World} {g cap : Nat} {xs : List α} (r : RowAt E w g cap xs) (e : w'.heap[g]? = w.heap[g]?) : RowAt E w' g cap xs := by
  obtain ⟨cur, hb, hs, ht⟩ := r.blk
  exact ⟨⟨cur, by rw [e]; exact hb, hs, ht⟩, r.le, r.cap⟩
theorem RowAt.grow {E : Enc α} {w w' : World} {g cap : Nat} {xs : List α} (r : RowAt E w g cap xs) (hb : Below w.heap.size w w') : RowAt E w' g cap xs := r.of (hb.block g r.lt)
/-- things are written at the place i, maybe over the end -/
theorem RowAt.write {E : Enc α} {w : World} {g cap : Nat} {xs : List α} (r : RowAt E w g cap xs) (i : Nat) (hi' : i ≤ xs.length) (ys : List α) (hc : i + ys.length ≤ cap) : RowAt E (w.setCells g (i * E.k) (E.row ys)) g cap (xs.take i ++ ys ++ xs.drop (i + ys.length)) := by
  obtain ⟨cur, hb, hc3, htk⟩ := r.blk
  have hc1 := r.le
  have hL : cur.toList.length = cap * E.k := by rw [Array.length_toList, hc3]
  have hk : (i + ys.length) * E.k ≤ cap * E.k := Nat.mul_le_mul_right _ hc
  have hk1 : xs.length * E.k ≤ cap * E.k := Nat.mul_le_mul_right _ hc1
  have hRl := E.row_len ys
  have e1 : (i + ys.length) * E.k = i * E.k + ys.length * E.k := Nat.add_mul _ _ _
  have hlen : (xs.take i ++ ys ++ xs.drop (i + ys.length)).length = if i + ys.length ≤ xs.length then xs.length else i + ys.length := by
    simp only [List.length_append, List.length_take, List.length_drop]
    split <;> omega
  have hw := write_list cur.toList E.k xs.length i ys.length (E.row ys) hRl hi' (by rw [hL]; exact hk1) (by rw [hL]; exact hk)
  refine ⟨⟨(cur.toList.take (i * E.k) ++ E.row ys ++ cur.toList.drop (i * E.k + (E.row ys).length)).toArray, ?_, ?_, ?_⟩, ?_, r.cap⟩
  · exact heap_setCells g E.t (E.row ys) (i * E.k) w cur.toList (by simpa using hb) (by rw [hL, hRl]; omega)
  · simp only [List.size_toArray, List.length_append, List.length_take, List.length_drop, hL, hRl]; omega
  · rw [hlen]
    show (cur.toList.take (i * E.k) ++ E.row ys ++ cur.toList.drop (i * E.k + (E.row ys).length)).take _ = _
    rw [hw, htk, E.row_take, E.row_append, E.row_append]
    congr 1
    by_cases h : i + ys.length ≤ xs.length
    · exact E.row_drop xs _ h
    · have e3 : xs.drop (i + ys.length) = [] := List.drop_of_length_le (by omega)
      rw [e3, List.drop_of_length_le (by rw [E.row_len]; exact Nat.mul_le_mul_right _ (by omega))]; rfl
  · rw [hlen]; split <;> omega
theorem RowAt.cut {E : Enc α} {w : World} {g cap : Nat} {xs : List α} (r : RowAt E w g cap xs) (m : Nat) : RowAt E w g cap (xs.take m) := by
  obtain ⟨cur, hb, hs, ht⟩ := r.blk
  have hl := r.le
  have h2 : (xs.take m).length = min m xs.length := List.length_take
  refine ⟨⟨cur, hb, hs, ?_⟩, by omega, r.cap⟩
  rw [h2, ← E.row_take, ← ht, List.take_take, ← Nat.mul_min_mul_right]
/-- the cells of a row are there -/
theorem RowAt.there {E : Enc α} {w : World} {g cap : Nat} {xs : List α} (r : RowAt E w g cap xs) : (∀ j, j < cap * E.k → (w.cell? ⟨g, j, none⟩).isSome = true) ∧ (∀ j, w.frozen? ⟨g, j, none⟩ = false) ∧ w.shape? g = some (E.t, cap * E.k) := by
  obtain ⟨cur, hb, hs, ht⟩ := r.blk
  refine ⟨fun j hj => ?_, fun j => frozen_of_row _ _ _ _ _ hb, ?_⟩
  · rw [cell_of_row _ _ _ _ _ _ hb]
    simp; omega
  · simp [World.shape?, hb, hs]
theorem RowAt.ty {E : Enc α} {w w' : World} {g cap lo : Nat} {xs : List α} (r : RowAt E w g cap xs) (hg : lo ≤ g) (h : Only g w w') : Ty lo E.t w w' := by
  obtain ⟨cur, hb, hs, htk⟩ := r.blk
  refine ⟨h.2.2 _ hg, fun k cu t' f hk ht => h.2.1 k fun e => ?_⟩
  subst e
  rw [hk] at hb
  simp at hb
  exact ht hb.2.1
/-- the things from the place i on are read -/
theorem RowAt.range {E : Enc α} {w : World} {g cap : Nat} {xs : List α} (r : RowAt E w g cap xs) (i : Nat) (hi' : i ≤ xs.length) : w.rangeAt g (i * E.k) (E.row (xs.drop i)) := fun j v hv => by
  obtain ⟨cur, hb, hs, ht⟩ := r.blk
  rw [cell_of_row _ _ _ _ _ _ hb]
  rw [← E.row_drop xs i hi', ← ht, List.getElem?_drop, List.getElem?_take] at hv
  split at hv
  · simpa using hv
  · cases hv
theorem RowAt.head {E : Enc α} {w : World} {g cap : Nat} {xs : List α} (r : RowAt E w g cap xs) (i : Nat) : w.rangeAt g 0 (E.row (xs.take i)) := by
  have := (r.cut i).range 0 (Nat.zero_le _)
  simpa using this
/-- the elements are read at a, all of them or as many as there is room for -/
theorem run_copy_e {P : Program} {E : Enc α} (w : World) (dT sT ty : TypeId) (hu : P.underlying dT = some (.slice E.t)) (hs : (P.info? E.t).map (·.size) = some E.k) (g j dLen dCap b off sLen sCap : Nat) (ys : List α) (hn : ys.length = Nat.min sLen dLen)
    (hr : w.rangeAt b off (E.row ys)) (hc : ∀ q, q < ys.length * E.k → (w.cell? ⟨g, j + q, none⟩).isSome = true) (hf : ∀ q, w.frozen? ⟨g, q, none⟩ = false) :
    (Builtin.copy_ #[dT, sT] ty #[.slice (some ⟨g, j, none⟩) dLen dCap, .slice (some ⟨b, off, none⟩) sLen sCap]).run P w = .ok (goInt ys.length) (w.setCells g j (E.row ys)) := by
  have hl := run_loadCells_list (P := P) w ⟨b, off, none⟩ (E.row ys) (fun q v hv => by rw [Addr.add_mid]; exact hr q v hv)
  have hst := run_storeCells_cells (P := P) g j (E.row ys) 0 w (by rw [E.row_len]; simpa using hc) (by intro q hq; exact hf _) (E.row_cells ys)
  have hrl := E.row_len ys
  cases hq : P.info? E.t with
  | none => simp [hq] at hs
  | some i =>
    have hi : i.size = E.k := by simpa [hq] using hs
    have hm : min sLen dLen = ys.length := hn.symm
    simp [Builtin.copy_, run_underlying hu, Builtin.lenOf, Builtin.firstCells, sizeOf, typeInfo, hq, hi, hm, ← hrl, hl, hst]
section
variable {ops : Array Oper} {rest : List Oper} {o : Oper} {a : Act} {w : World} {Q : Exit → Act → World → Prop} {K : Act → World → Prop} {X : Prop}
theorem wpList_cp (hgd : o.guard = none) (d s : Operand) (dT sT : TypeId) (ho : o.op = .call { callee := .builtin .copy, args := #[d, s], argTypes := #[dT, sT] }) (v u : Value) (hd : a.eval d = v) (hs : a.eval s = u) {v' : Value} {w' : World} (hr : (Builtin.copy_ #[dT, sT] o.type #[v, u]).run Tryz.prog w = .ok v' w')
    (h : wpList Tryz.prog ops Q rest (a.put o.dst v') w') : wpList Tryz.prog ops Q (o :: rest) a w :=
  wpList_val hgd (v := v') (w' := w') (by simp [execOp, ho, resolve, invoke, builtin, hd, hs, hr, Result.andThen]) h
theorem step_cp (hgd : o.guard = none) (d s : Operand) (dT sT : TypeId) (ho : o.op = .call { callee := .builtin .copy, args := #[d, s], argTypes := #[dT, sT] }) (v u : Value) (hd : a.eval d = v) (hs : a.eval s = u) {v' : Value} {w' : World} (hr : (Builtin.copy_ #[dT, sT] o.type #[v, u]).run Tryz.prog w = .ok v' w')
    (h : K (a.put o.dst v') w') : if Region.wanted o (yielded ops a.tmps) = true then Oper.wp Tryz.prog o a w K Q else X :=
  step_val hgd (v := v') (w' := w') (by simp [execOp, ho, resolve, invoke, builtin, hd, hs, hr, Result.andThen]) h
/-- a thing is stored at a place of a row that the call made -/
theorem wpList_store_e {E : Enc α} (hsz : (Tryz.prog.info? E.t).map (·.size) = some E.k) (hgd : o.guard = none) (x y : Operand) (ho : o.op = .store E.t x y) (lo hi g n cap i j0 : Nat) (xs : List α) (c : α) (hx : a.eval x = .pointer (some ⟨g, j0, none⟩)) (hj0 : j0 = i * E.k) (hy : a.eval y = .agg (E.put c).toArray)
    (own : Own E w lo hi (.slice (some ⟨g, 0, none⟩) n cap) xs) (hlt : i < xs.length) (h : ∀ w', Only g w w' → Own E w' lo hi (.slice (some ⟨g, 0, none⟩) n cap) (xs.set i c) → wpList Tryz.prog ops Q rest (a.put o.dst undef) w') : wpList Tryz.prog ops Q (o :: rest) a w := by
  subst hj0
  have hne : xs ≠ [] := fun e => by rw [e] at hlt; simp at hlt
  obtain ⟨r, hg1, hg2⟩ := own.at hne
  obtain ⟨h1, h2, -⟩ := r.there
  obtain ⟨hn, hc, -⟩ := own.rd.cap
  have es : xs.take i ++ [c] ++ xs.drop (i + [c].length) = xs.set i c := by
    rw [List.set_eq_take_append_cons_drop, if_pos hlt]; simp
  have hw := r.write i (by omega) [c] (by simp; omega)
  rw [E.row_one', es] at hw
  refine wpList_store_mid hgd E.t x y ho g (i * E.k) (E.put c).toArray hx hy (fun j hj => ⟨h1 _ ?_, h2 _⟩) (by rw [hsz, List.size_toArray, E.len]) (all_oneCell_toArray (E.one c)) (h _ (only_setCells _ _ _ _) (hw.own hg1 hg2 (by simp; omega)))
  rw [List.size_toArray, E.len] at hj
  have : (i + 1) * E.k ≤ cap * E.k := Nat.mul_le_mul_right _ (by omega)
  rw [Nat.add_mul] at this
  omega
end
end Go.Proofs.YtaabmkhckbndgaaGreatDoor.ro
