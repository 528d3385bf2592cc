/- What the laws of chapter 12 draw: a reply. -/
import Derived.Test.YtldflfmglpojlaaDoorMg00
import Derived.Test.YtldflfmglpojlaaDoorMg03
import Derived.Test.YtldflfmglpojlaaDoorMg04
import Derived.Lib.SmallJoins
import Derived.Deep.Slices
import Derived.Deep.RegionHeld3
import Derived.BigQuiet
import Derived.Deep.DeepCutAuto
import Derived.Deep.CutBlock
namespace Go.Proofs.YtldflfmglpojlaaDoor.rg
open Go.ChangeShapes Go.WideShapes Go.ChangeAt Go.RowKit
open Go.Deep Go.Joins
open Go.Proofs.YtldflfmglpojlaaDoor.ce Go.Proofs.YtldflfmglpojlaaDoor.ro Go.Proofs.YtldflfmglpojlaaDoor.draw Go.Proofs.YtldflfmglpojlaaDoor.cm
set_option linter.unusedVariables false

theorem szS1 : (Tryd.prog.info? 9).map (·.size) = some 1 := by kernel_rfl
set_option maxRecDepth 100000 in
set_option maxHeartbeats 8000000 in
theorem l12Draw_any (w : World) (p : Nat) (a0 : Option Addr) (len cap : Nat) (hc : Cur w p a0 len cap) :
    Calls Tryd.prog 16 #[.pointer (some ⟨p, 0, none⟩)] w fun e w' => ∃ (K : Int) (N : ByteArray) (F : Int) (B : ByteArray) (C M : Int), e = .returned (.agg #[.int .i64 K, .string N, .int .i64 F, .string B, .int .i64 C, .int .i64 M]) ∧ Gt w p a0 len cap w' ∧ N.size ≤ 4000 ∧ B.size ≤ 4000 := by
  have HC : Hid (Cur w p a0 len cap) := hc
  clear hc
  have m1 : Hid True := trivial
  have m2 : Hid True := trivial
  have m3 : Hid True := trivial
  have m4 : Hid True := trivial
  have m5 : Hid True := trivial
  have m6 : Hid True := trivial
  have m7 : Hid True := trivial
  have m8 : Hid True := trivial
  go_enter Tryd.func16, Tryd.ntmps16
  go_upto_region 2 with (first
    | (clear m1; refine wpList_alloc_v rfl 29 rfl _ zeroRp ?_; intro b2 w2 hb2 hw2 hB2 V2; have D2 : Hid (D0 29 [.int .i64 0, .string ⟨#[]⟩, .int .i64 0, .string ⟨#[]⟩, .int .i64 0, .int .i64 0] w p a0 len cap b2 w2) := d0_new HC.out hB2 hb2 V2)
    | (go_at_call 26; refine (below_from w2 w2 p a0 len cap _ (by omega) D2.out.t.cur (World.grownBy.refl _ _)).mono ?_; rintro e w4 ⟨x, rfl, hx0, hx1, hc4, hg4⟩; have D4 : Hid (D0 29 [.int .i64 0, .string ⟨#[]⟩, .int .i64 0, .string ⟨#[]⟩, .int .i64 0, .int .i64 0] w p a0 len cap b2 w4) := D2.out.went hc4 hg4; obtain ⟨K, hK⟩ := hid_ex (1 + x); have hKw : IntKind.i64.wrap (1 + x) = K := (by rw [← hK.out, IntKind.wrap_i64]; omega))
    | (clear m2; refine wpList_alloc_v rfl 29 rfl _ zeroRp ?_; intro b3 w5 hb3 hw3 hB5 V3)
    | (refine wpList_store_v rfl 29 _ _ rfl b3 [.int .i64 K, .string ⟨#[]⟩, .int .i64 0, .string ⟨#[]⟩, .int .i64 0, .int .i64 0] rfl rfl sizeRp V3 rfl (oneRp ⟨K, ⟨#[]⟩, 0, ⟨#[]⟩, 0, 0⟩) ?_; intro w6 hO6 V6; have D6 : Hid (Dv 29 [.int .i64 0, .string ⟨#[]⟩, .int .i64 0, .string ⟨#[]⟩, .int .i64 0, .int .i64 0] w p a0 len cap b2 b3 [.int .i64 K, .string ⟨#[]⟩, .int .i64 0, .string ⟨#[]⟩, .int .i64 0, .int .i64 0] w6) := D4.out.dv2 hb3 hB5 hO6 V6)
    | (fail))
  clear D2 D4 hc4 hg4 V2 V3 V6 hO6 hB2 hB5
  obtain ⟨c0, -, -, -, -, -⟩ := cellsRp D6.out.vg
  go_upto_block 0 with (fail)
  go_cut [10] from 10 to 31 (fun u wc => ∃ (N : ByteArray) (F : Int) (B : ByteArray) (C M : Int), Hid (Dv 29 [.int .i64 0, .string ⟨#[]⟩, .int .i64 0, .string ⟨#[]⟩, .int .i64 0, .int .i64 0] w p a0 len cap b2 b3 [.int .i64 K, .string N, .int .i64 F, .string B, .int .i64 C, .int .i64 M] wc) ∧ N.size ≤ 4000 ∧ B.size ≤ 4000)
  clear hKw
  case first =>
    by_cases k5 : K = 5
    · subst k5
      have q1 : Hid True := trivial
      have q2 : Hid True := trivial
      have q3 : Hid True := trivial
      have q4 : Hid True := trivial
      have q5 : Hid True := trivial
      have q6 : Hid True := trivial
      have q7 : Hid True := trivial
      have q8 : Hid True := trivial
      go_wp2_with (first | (clear q1; go_at_call 30; refine (name_from w6 w6 p a0 len cap D6.out.gt.cur (World.grownBy.refl _ _)).mono ?_; rintro e w1001 ⟨s1001, rfl, hs1001, hc1001, hg1001⟩; have D1001 : Hid (Dv 29 [.int .i64 0, .string ⟨#[]⟩, .int .i64 0, .string ⟨#[]⟩, .int .i64 0, .int .i64 0] w p a0 len cap b2 b3 [.int .i64 5, .string ⟨#[]⟩, .int .i64 0, .string ⟨#[]⟩, .int .i64 0, .int .i64 0] w1001) := D6.out.went hc1001 hg1001; clear hc1001 hg1001) | (clear q2; refine wpList_store_cell rfl 9 _ _ rfl b3 1 (.string s1001) rfl rfl rfl szS1 D1001.out.vg (by simp) ?_; intro w1002 hO1002 V1002; have D1002 : Hid (Dv 29 [.int .i64 0, .string ⟨#[]⟩, .int .i64 0, .string ⟨#[]⟩, .int .i64 0, .int .i64 0] w p a0 len cap b2 b3 [.int .i64 5, .string s1001, .int .i64 0, .string ⟨#[]⟩, .int .i64 0, .int .i64 0] w1002) := D1001.out.put hO1002 V1002; clear V1002 hO1002) | (clear q3; go_at_call 26; refine (below_from w1002 w1002 p a0 len cap _ (by omega) D1002.out.gt.cur (World.grownBy.refl _ _)).mono ?_; rintro e w1003 ⟨x1003, rfl, hx1003, hy1003, hc1003, hg1003⟩; have D1003 : Hid (Dv 29 [.int .i64 0, .string ⟨#[]⟩, .int .i64 0, .string ⟨#[]⟩, .int .i64 0, .int .i64 0] w p a0 len cap b2 b3 [.int .i64 5, .string s1001, .int .i64 0, .string ⟨#[]⟩, .int .i64 0, .int .i64 0] w1003) := D1002.out.went hc1003 hg1003; clear hc1003 hg1003) | (clear q4; refine wpList_store_cell rfl 2 _ _ rfl b3 2 (.int .i64 x1003) rfl rfl rfl szI1 D1003.out.vg (by simp) ?_; intro w1004 hO1004 V1004; have D1004 : Hid (Dv 29 [.int .i64 0, .string ⟨#[]⟩, .int .i64 0, .string ⟨#[]⟩, .int .i64 0, .int .i64 0] w p a0 len cap b2 b3 [.int .i64 5, .string s1001, .int .i64 x1003, .string ⟨#[]⟩, .int .i64 0, .int .i64 0] w1004) := D1003.out.put hO1004 V1004; clear V1004 hO1004) | (clear q5; go_at_call 31; refine (drawText_from w1004 w1004 p a0 len cap _ _ (by decide) (by decide) (by omega) (by omega) D1004.out.gt.cur (World.grownBy.refl _ _)).mono ?_; rintro e w1005 ⟨s1005, rfl, hs1005, hc1005, hg1005⟩; have D1005 : Hid (Dv 29 [.int .i64 0, .string ⟨#[]⟩, .int .i64 0, .string ⟨#[]⟩, .int .i64 0, .int .i64 0] w p a0 len cap b2 b3 [.int .i64 5, .string s1001, .int .i64 x1003, .string ⟨#[]⟩, .int .i64 0, .int .i64 0] w1005) := D1004.out.went hc1005 hg1005; clear hc1005 hg1005) | (clear q6; refine wpList_store_cell rfl 9 _ _ rfl b3 3 (.string s1005) rfl rfl rfl szS1 D1005.out.vg (by simp) ?_; intro w1006 hO1006 V1006; have D1006 : Hid (Dv 29 [.int .i64 0, .string ⟨#[]⟩, .int .i64 0, .string ⟨#[]⟩, .int .i64 0, .int .i64 0] w p a0 len cap b2 b3 [.int .i64 5, .string s1001, .int .i64 x1003, .string s1005, .int .i64 0, .int .i64 0] w1006) := D1005.out.put hO1006 V1006; clear V1006 hO1006) | (clear q7; go_at_call 26; refine (below_from w1006 w1006 p a0 len cap _ (by omega) D1006.out.gt.cur (World.grownBy.refl _ _)).mono ?_; rintro e w1007 ⟨x1007, rfl, hx1007, hy1007, hc1007, hg1007⟩; have D1007 : Hid (Dv 29 [.int .i64 0, .string ⟨#[]⟩, .int .i64 0, .string ⟨#[]⟩, .int .i64 0, .int .i64 0] w p a0 len cap b2 b3 [.int .i64 5, .string s1001, .int .i64 x1003, .string s1005, .int .i64 0, .int .i64 0] w1007) := D1006.out.went hc1007 hg1007; clear hc1007 hg1007) | (clear q8; refine wpList_store_cell rfl 2 _ _ rfl b3 4 (.int .i64 x1007) rfl rfl rfl szI1 D1007.out.vg (by simp) ?_; intro w1008 hO1008 V1008; have D1008 : Hid (Dv 29 [.int .i64 0, .string ⟨#[]⟩, .int .i64 0, .string ⟨#[]⟩, .int .i64 0, .int .i64 0] w p a0 len cap b2 b3 [.int .i64 5, .string s1001, .int .i64 x1003, .string s1005, .int .i64 x1007, .int .i64 0] w1008) := D1007.out.put hO1008 V1008; clear V1008 hO1008) | (fail))
      go_meet
      case rel => exact ⟨_, _, _, _, _, D1008, (by omega), (by omega)⟩
    · have e5 : (K == 5) = false := by simpa using k5
      by_cases k6 : K = 6
      · subst k6
        have q9 : Hid True := trivial
        have q10 : Hid True := trivial
        go_wp2_with (first | (clear q9; go_at_call 26; refine (below_lit w6 w6 p a0 len cap [0, 7, 999999999] _ 3 (0) 999999999 rfl (by omega) (by intro x hx; simp at hx; omega) D6.out.gt.cur (World.grownBy.refl _ _)).mono ?_; rintro e w1009 ⟨z1009, x1009, rfl, hz1009, hzz1009, hcell1009, hx1009, hy1009, hc1009, hg1009⟩; have D1009 : Hid (Dv 29 [.int .i64 0, .string ⟨#[]⟩, .int .i64 0, .string ⟨#[]⟩, .int .i64 0, .int .i64 0] w p a0 len cap b2 b3 [.int .i64 6, .string ⟨#[]⟩, .int .i64 0, .string ⟨#[]⟩, .int .i64 0, .int .i64 0] w1009) := D6.out.went hc1009 hg1009; clear hc1009 hg1009; obtain ⟨j1009, hj1009⟩ : ∃ j : Nat, z1009 = j := ⟨z1009.toNat, by omega⟩; subst hj1009; rw [Int.toNat_natCast] at hcell1009) | (clear q10; refine wpList_store_cell rfl 2 _ _ rfl b3 5 (.int .i64 x1009) rfl rfl rfl szI1 D1009.out.vg (by simp) ?_; intro w1010 hO1010 V1010; have D1010 : Hid (Dv 29 [.int .i64 0, .string ⟨#[]⟩, .int .i64 0, .string ⟨#[]⟩, .int .i64 0, .int .i64 0] w p a0 len cap b2 b3 [.int .i64 6, .string ⟨#[]⟩, .int .i64 0, .string ⟨#[]⟩, .int .i64 0, .int .i64 x1009] w1010) := D1009.out.put hO1010 V1010; clear V1010 hO1010) | (fail))
        go_meet
        case rel => exact ⟨_, _, _, _, _, D1010, (by decide), (by decide)⟩
      · have e6 : (K == 6) = false := by simpa using k6
        go_wp2
        go_meet
        case rel => exact ⟨_, _, _, _, _, D6, by decide, by decide⟩
  case rest =>
    obtain ⟨N, F, B, C, M, D10, hN, hB⟩ := hcut
    clear D6
    have D10 : Hid (Dv 29 [.int .i64 0, .string ⟨#[]⟩, .int .i64 0, .string ⟨#[]⟩, .int .i64 0, .int .i64 0] w p a0 len cap b2 b3 [.int .i64 K, .string N, .int .i64 F, .string B, .int .i64 C, .int .i64 M] wc) := D10
    have q11 : Hid True := trivial
    go_upto_if 33 with (first | (clear q11; go_at_call 27; refine (once_from wc wc p a0 len cap _ (by omega) D10.out.gt.cur (World.grownBy.refl _ _)).mono ?_; rintro e w1011 ⟨y1011, rfl, hc1011, hg1011⟩; have D1011 : Hid (Dv 29 [.int .i64 0, .string ⟨#[]⟩, .int .i64 0, .string ⟨#[]⟩, .int .i64 0, .int .i64 0] w p a0 len cap b2 b3 [.int .i64 K, .string N, .int .i64 F, .string B, .int .i64 C, .int .i64 M] w1011) := D10.out.went hc1011 hg1011; clear hc1011 hg1011) | (fail))
    go_cut [33] from 33 to 61 (fun u wc => ∃ (K : Int) (N : ByteArray) (F : Int) (B : ByteArray) (C M : Int), Hid (Dv 29 [.int .i64 0, .string ⟨#[]⟩, .int .i64 0, .string ⟨#[]⟩, .int .i64 0, .int .i64 0] w p a0 len cap b2 b3 [.int .i64 K, .string N, .int .i64 F, .string B, .int .i64 C, .int .i64 M] wc) ∧ N.size ≤ 4000 ∧ B.size ≤ 4000)
    case first =>
      cases y1011 with
      | false =>
        go_wp2
        go_meet
        case rel => exact ⟨K, N, F, B, C, M, D1011, hN, hB⟩
      | true =>
        have q12 : Hid True := trivial
        go_upto_block 1 with (first | (clear q12; go_at_call 26; refine (below_from w1011 w1011 p a0 len cap _ (by omega) D1011.out.gt.cur (World.grownBy.refl _ _)).mono ?_; rintro e w1012 ⟨x1012, rfl, hx1012, hy1012, hc1012, hg1012⟩; have D1012 : Hid (Dv 29 [.int .i64 0, .string ⟨#[]⟩, .int .i64 0, .string ⟨#[]⟩, .int .i64 0, .int .i64 0] w p a0 len cap b2 b3 [.int .i64 K, .string N, .int .i64 F, .string B, .int .i64 C, .int .i64 M] w1012) := D1011.out.went hc1012 hg1012; clear hc1012 hg1012) | (fail))
        by_cases k0x : x1012 = 0
        · rw [k0x]
          have q13 : Hid True := trivial
          have q14 : Hid True := trivial
          go_wp2_with (first | (clear q13; go_at_call 32; refine (from_from w1012 w1012 p a0 len cap _ _ (by omega) (by omega) (by omega) D1012.out.gt.cur (World.grownBy.refl _ _)).mono ?_; rintro e w1013 ⟨x1013, rfl, hx1013, hy1013, hc1013, hg1013⟩; have D1013 : Hid (Dv 29 [.int .i64 0, .string ⟨#[]⟩, .int .i64 0, .string ⟨#[]⟩, .int .i64 0, .int .i64 0] w p a0 len cap b2 b3 [.int .i64 K, .string N, .int .i64 F, .string B, .int .i64 C, .int .i64 M] w1013) := D1012.out.went hc1013 hg1013; clear hc1013 hg1013) | (clear q14; refine wpList_store_cell rfl 2 _ _ rfl b3 0 (.int .i64 x1013) rfl rfl rfl szI1 D1013.out.vg (by simp) ?_; intro w1014 hO1014 V1014; have D1014 : Hid (Dv 29 [.int .i64 0, .string ⟨#[]⟩, .int .i64 0, .string ⟨#[]⟩, .int .i64 0, .int .i64 0] w p a0 len cap b2 b3 [.int .i64 x1013, .string N, .int .i64 F, .string B, .int .i64 C, .int .i64 M] w1014) := D1013.out.put hO1014 V1014; clear V1014 hO1014) | (fail))
          go_meet
          case rel => exact ⟨_, _, _, _, _, _, D1014, hN, hB⟩
        · have e0x : (x1012 == 0) = false := by simpa using k0x
          by_cases k1x : x1012 = 1
          · rw [k1x]
            have q15 : Hid True := trivial
            have q16 : Hid True := trivial
            go_wp2_with (first | (clear q15; go_at_call 26; refine (below_lit w1012 w1012 p a0 len cap [-1, 5, 1000000000] _ 3 (-1) 1000000000 rfl (by omega) (by intro x hx; simp at hx; omega) D1012.out.gt.cur (World.grownBy.refl _ _)).mono ?_; rintro e w1015 ⟨z1015, x1015, rfl, hz1015, hzz1015, hcell1015, hx1015, hy1015, hc1015, hg1015⟩; have D1015 : Hid (Dv 29 [.int .i64 0, .string ⟨#[]⟩, .int .i64 0, .string ⟨#[]⟩, .int .i64 0, .int .i64 0] w p a0 len cap b2 b3 [.int .i64 K, .string N, .int .i64 F, .string B, .int .i64 C, .int .i64 M] w1015) := D1012.out.went hc1015 hg1015; clear hc1015 hg1015; obtain ⟨j1015, hj1015⟩ : ∃ j : Nat, z1015 = j := ⟨z1015.toNat, by omega⟩; subst hj1015; rw [Int.toNat_natCast] at hcell1015) | (clear q16; refine wpList_store_cell rfl 2 _ _ rfl b3 5 (.int .i64 x1015) rfl rfl rfl szI1 D1015.out.vg (by simp) ?_; intro w1016 hO1016 V1016; have D1016 : Hid (Dv 29 [.int .i64 0, .string ⟨#[]⟩, .int .i64 0, .string ⟨#[]⟩, .int .i64 0, .int .i64 0] w p a0 len cap b2 b3 [.int .i64 K, .string N, .int .i64 F, .string B, .int .i64 C, .int .i64 x1015] w1016) := D1015.out.put hO1016 V1016; clear V1016 hO1016) | (fail))
            go_meet
            case rel => exact ⟨_, _, _, _, _, _, D1016, hN, hB⟩
          · have e1x : (x1012 == 1) = false := by simpa using k1x
            by_cases k2x : x1012 = 2
            · rw [k2x]
              have q17 : Hid True := trivial
              have q18 : Hid True := trivial
              go_wp2_with (first | (clear q17; go_at_call 29; refine (l8DrawName_any w1012 w1012 p a0 len cap D1012.out.gt.cur (World.grownBy.refl _ _)).mono ?_; rintro e w1017 ⟨s1017, rfl, hs1017, hc1017, hg1017⟩; have D1017 : Hid (Dv 29 [.int .i64 0, .string ⟨#[]⟩, .int .i64 0, .string ⟨#[]⟩, .int .i64 0, .int .i64 0] w p a0 len cap b2 b3 [.int .i64 K, .string N, .int .i64 F, .string B, .int .i64 C, .int .i64 M] w1017) := D1012.out.went hc1017 hg1017; clear hc1017 hg1017) | (clear q18; refine wpList_store_cell rfl 9 _ _ rfl b3 1 (.string s1017) rfl rfl rfl szS1 D1017.out.vg (by simp) ?_; intro w1018 hO1018 V1018; have D1018 : Hid (Dv 29 [.int .i64 0, .string ⟨#[]⟩, .int .i64 0, .string ⟨#[]⟩, .int .i64 0, .int .i64 0] w p a0 len cap b2 b3 [.int .i64 K, .string s1017, .int .i64 F, .string B, .int .i64 C, .int .i64 M] w1018) := D1017.out.put hO1018 V1018; clear V1018 hO1018) | (fail))
              go_meet
              case rel => exact ⟨_, _, _, _, _, _, D1018, (by omega), hB⟩
            · have e2x : (x1012 == 2) = false := by simpa using k2x
              have e3x : x1012 = 3 := by omega
              rw [e3x]
              have q19 : Hid True := trivial
              have q20 : Hid True := trivial
              go_wp2_with (first | (clear q19; go_at_call 26; refine (below_lit w1012 w1012 p a0 len cap [-1, 1, 1000001] _ 3 (-1) 1000001 rfl (by omega) (by intro x hx; simp at hx; omega) D1012.out.gt.cur (World.grownBy.refl _ _)).mono ?_; rintro e w1019 ⟨z1019, x1019, rfl, hz1019, hzz1019, hcell1019, hx1019, hy1019, hc1019, hg1019⟩; have D1019 : Hid (Dv 29 [.int .i64 0, .string ⟨#[]⟩, .int .i64 0, .string ⟨#[]⟩, .int .i64 0, .int .i64 0] w p a0 len cap b2 b3 [.int .i64 K, .string N, .int .i64 F, .string B, .int .i64 C, .int .i64 M] w1019) := D1012.out.went hc1019 hg1019; clear hc1019 hg1019; obtain ⟨j1019, hj1019⟩ : ∃ j : Nat, z1019 = j := ⟨z1019.toNat, by omega⟩; subst hj1019; rw [Int.toNat_natCast] at hcell1019) | (clear q20; refine wpList_store_cell rfl 2 _ _ rfl b3 4 (.int .i64 x1019) rfl rfl rfl szI1 D1019.out.vg (by simp) ?_; intro w1020 hO1020 V1020; have D1020 : Hid (Dv 29 [.int .i64 0, .string ⟨#[]⟩, .int .i64 0, .string ⟨#[]⟩, .int .i64 0, .int .i64 0] w p a0 len cap b2 b3 [.int .i64 K, .string N, .int .i64 F, .string B, .int .i64 x1019, .int .i64 M] w1020) := D1019.out.put hO1020 V1020; clear V1020 hO1020) | (fail))
              go_meet
              case rel => exact ⟨_, _, _, _, _, _, D1020, hN, hB⟩
    case rest =>
      obtain ⟨K2, N2, F2, B2, C2, M2, DZ, hN2, hB2⟩ := hcut
      clear D10 D1011
      go_wp2_with (first | (refine wpList_load_r rfl 29 _ rfl b3 0 [.int .i64 K2, .string N2, .int .i64 F2, .string B2, .int .i64 C2, .int .i64 M2] rfl _ Tryd.underlying29 rfl sizeRp DZ.out.vg.range ?_) | (refine wpList_store_v rfl 29 _ _ rfl b2 [.int .i64 K2, .string N2, .int .i64 F2, .string B2, .int .i64 C2, .int .i64 M2] rfl rfl sizeRp DZ.out.o.vb rfl (oneRp ⟨K2, N2, F2, B2, C2, M2⟩) ?_; intro wz hOz Vz) | (fail))
      exact row_retv rfl rfl Vz Tryd.underlying29 sizeRp rfl ⟨_, _, _, _, _, _, rfl, DZ.out.got hOz, hN2, hB2⟩
end Go.Proofs.YtldflfmglpojlaaDoor.rg
