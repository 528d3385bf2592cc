/- Outlives of both. -/
import Derived.Test.YtjkhmahdokcgeaaIs2
import Derived.Test.YtjkhmahdokcgeaaIo2
import Derived.Test.YtjkhmahdokcgeaaAx0
namespace Go.Proofs.Ytjkhmahdokcgeaa.rg
open Go.ChangeShapes Go.WideShapes Go.ChangeAt Go.RowKit
open Go.Proofs.Ytjkhmahdokcgeaa.ce Go.Proofs.Ytjkhmahdokcgeaa.ro
set_option linter.unusedVariables false

set_option maxRecDepth 10000 in
set_option maxHeartbeats 1000000 in
theorem specOutlives_any (N B : ByteArray) (F C U : Int) (N2 B2 : ByteArray) (F2 C2 U2 : Int) (y : Bool) (hy : Hid (outB ⟨N, F, B, C, U⟩ ⟨N2, F2, B2, C2, U2⟩ = y)) (hN : N.size ≤ 9223372036854775807) (hB0 : B.size ≤ 9223372036854775807) (hN2 : N2.size ≤ 9223372036854775807) (hB02 : B2.size ≤ 9223372036854775807) (w : World) :
    Calls Try.prog 19 #[.agg #[.string N, .int .i64 F, .string B, .int .i64 C, .int .i64 U], .agg #[.string N2, .int .i64 F2, .string B2, .int .i64 C2, .int .i64 U2]] w fun e w' => e = .returned (.bool y) ∧ Below w.heap.size w w' := by
  have h := hy.out
  clear hy
  unfold outB at h
  obtain ⟨p, hp⟩ := hid_ex (itemB ⟨N, F, B, C, U⟩)
  obtain ⟨q, hq⟩ := hid_ex (itemB ⟨N2, F2, B2, C2, U2⟩)
  obtain ⟨v, hv⟩ := hid_ex (overB ⟨N2, F2, B2, C2, U2⟩ U)
  have hv' := hv.out
  unfold overB at hv'
  rw [hp.out, hq.out] at h
  dsimp only at h hv'
  cases p
  · have hy : y = false := by simpa using h.symm
    subst hy
    clear h hv'
    go_enter Try.func19, Try.ntmps19
    have mk1 : Hid True := trivial
    have mk2 : Hid True := trivial
    have mk3 : Hid True := trivial
    go_wp2_with (first | (clear mk1; refine wpList_box_v rfl 31 _ rfl [.string N, .int .i64 F, .string B, .int .i64 C, .int .i64 U] rfl ?_; intro b2 w1 hb2 hwb2 hB1 c2; have hz1 : w.heap.size ≤ w1.heap.size := hB1.size; have hB := hB1; have hzw := hB.size; obtain ⟨c20, c21, c22, c23, c24⟩ := cells5 c2) | (clear mk2; refine wpList_box_v rfl 31 _ rfl [.string N2, .int .i64 F2, .string B2, .int .i64 C2, .int .i64 U2] rfl ?_; intro b3 w2 hb3 hwb3 hB2 c3; have hz2 : w1.heap.size ≤ w2.heap.size := hB2.size; replace c2 := vblk_grow c2 hB2; replace hB := hB.trans (hB2.mono (by omega)); replace hzw := hB.size; clear c20 c21 c22 c23 c24; obtain ⟨c20, c21, c22, c23, c24⟩ := cells5 c2; obtain ⟨c30, c31, c32, c33, c34⟩ := cells5 c3) | (clear mk3; go_at_call 53; refine (specItemOk_any N B F C U false hp (by omega) (by omega) _).mono ?_; rintro er w3 ⟨rfl, hB3⟩; have hz3 : w2.heap.size ≤ w3.heap.size := hB3.size; replace c2 := vblk_grow c2 hB3; replace c3 := vblk_grow c3 hB3; replace hB := hB.trans (hB3.mono (by omega)); replace hzw := hB.size; clear c20 c21 c22 c23 c24; obtain ⟨c20, c21, c22, c23, c24⟩ := cells5 c2; clear c30 c31 c32 c33 c34; obtain ⟨c30, c31, c32, c33, c34⟩ := cells5 c3) | (fail))
    go_ret
    exact ⟨(by first | rfl | (simp; done)), hB⟩
  cases q
  · have hy : y = false := by simpa using h.symm
    subst hy
    clear h hv'
    go_enter Try.func19, Try.ntmps19
    have mk1 : Hid True := trivial
    have mk2 : Hid True := trivial
    have mk3 : Hid True := trivial
    have mk4 : Hid True := trivial
    go_wp2_with (first | (clear mk1; refine wpList_box_v rfl 31 _ rfl [.string N, .int .i64 F, .string B, .int .i64 C, .int .i64 U] rfl ?_; intro b2 w1 hb2 hwb2 hB1 c2; have hz1 : w.heap.size ≤ w1.heap.size := hB1.size; have hB := hB1; have hzw := hB.size; obtain ⟨c20, c21, c22, c23, c24⟩ := cells5 c2) | (clear mk2; refine wpList_box_v rfl 31 _ rfl [.string N2, .int .i64 F2, .string B2, .int .i64 C2, .int .i64 U2] rfl ?_; intro b3 w2 hb3 hwb3 hB2 c3; have hz2 : w1.heap.size ≤ w2.heap.size := hB2.size; replace c2 := vblk_grow c2 hB2; replace hB := hB.trans (hB2.mono (by omega)); replace hzw := hB.size; clear c20 c21 c22 c23 c24; obtain ⟨c20, c21, c22, c23, c24⟩ := cells5 c2; obtain ⟨c30, c31, c32, c33, c34⟩ := cells5 c3) | (clear mk3; go_at_call 53; refine (specItemOk_any N B F C U true hp (by omega) (by omega) _).mono ?_; rintro er w3 ⟨rfl, hB3⟩; have hz3 : w2.heap.size ≤ w3.heap.size := hB3.size; replace c2 := vblk_grow c2 hB3; replace c3 := vblk_grow c3 hB3; replace hB := hB.trans (hB3.mono (by omega)); replace hzw := hB.size; clear c20 c21 c22 c23 c24; obtain ⟨c20, c21, c22, c23, c24⟩ := cells5 c2; clear c30 c31 c32 c33 c34; obtain ⟨c30, c31, c32, c33, c34⟩ := cells5 c3) | (clear mk4; go_at_call 53; refine (specItemOk_any N2 B2 F2 C2 U2 false hq (by omega) (by omega) _).mono ?_; rintro er w4 ⟨rfl, hB4⟩; have hz4 : w3.heap.size ≤ w4.heap.size := hB4.size; replace c2 := vblk_grow c2 hB4; replace c3 := vblk_grow c3 hB4; replace hB := hB.trans (hB4.mono (by omega)); replace hzw := hB.size; clear c20 c21 c22 c23 c24; obtain ⟨c20, c21, c22, c23, c24⟩ := cells5 c2; clear c30 c31 c32 c33 c34; obtain ⟨c30, c31, c32, c33, c34⟩ := cells5 c3) | (fail))
    go_ret
    exact ⟨(by first | rfl | (simp; done)), hB⟩
  by_cases hu : U = 0
  · have hb : (U == 0) = true := by simpa using hu
    have hy : y = true := by rw [← h]; simp [hu]
    subst hy
    clear h hv' hu
    go_enter Try.func19, Try.ntmps19
    have mk1 : Hid True := trivial
    have mk2 : Hid True := trivial
    have mk3 : Hid True := trivial
    have mk4 : Hid True := trivial
    go_wp2_with (first | (clear mk1; refine wpList_box_v rfl 31 _ rfl [.string N, .int .i64 F, .string B, .int .i64 C, .int .i64 U] rfl ?_; intro b2 w1 hb2 hwb2 hB1 c2; have hz1 : w.heap.size ≤ w1.heap.size := hB1.size; have hB := hB1; have hzw := hB.size; obtain ⟨c20, c21, c22, c23, c24⟩ := cells5 c2) | (clear mk2; refine wpList_box_v rfl 31 _ rfl [.string N2, .int .i64 F2, .string B2, .int .i64 C2, .int .i64 U2] rfl ?_; intro b3 w2 hb3 hwb3 hB2 c3; have hz2 : w1.heap.size ≤ w2.heap.size := hB2.size; replace c2 := vblk_grow c2 hB2; replace hB := hB.trans (hB2.mono (by omega)); replace hzw := hB.size; clear c20 c21 c22 c23 c24; obtain ⟨c20, c21, c22, c23, c24⟩ := cells5 c2; obtain ⟨c30, c31, c32, c33, c34⟩ := cells5 c3) | (clear mk3; go_at_call 53; refine (specItemOk_any N B F C U true hp (by omega) (by omega) _).mono ?_; rintro er w3 ⟨rfl, hB3⟩; have hz3 : w2.heap.size ≤ w3.heap.size := hB3.size; replace c2 := vblk_grow c2 hB3; replace c3 := vblk_grow c3 hB3; replace hB := hB.trans (hB3.mono (by omega)); replace hzw := hB.size; clear c20 c21 c22 c23 c24; obtain ⟨c20, c21, c22, c23, c24⟩ := cells5 c2; clear c30 c31 c32 c33 c34; obtain ⟨c30, c31, c32, c33, c34⟩ := cells5 c3) | (clear mk4; go_at_call 53; refine (specItemOk_any N2 B2 F2 C2 U2 true hq (by omega) (by omega) _).mono ?_; rintro er w4 ⟨rfl, hB4⟩; have hz4 : w3.heap.size ≤ w4.heap.size := hB4.size; replace c2 := vblk_grow c2 hB4; replace c3 := vblk_grow c3 hB4; replace hB := hB.trans (hB4.mono (by omega)); replace hzw := hB.size; clear c20 c21 c22 c23 c24; obtain ⟨c20, c21, c22, c23, c24⟩ := cells5 c2; clear c30 c31 c32 c33 c34; obtain ⟨c30, c31, c32, c33, c34⟩ := cells5 c3) | (fail))
    go_ret
    exact ⟨(by first | rfl | (simp; done)), hB⟩
  have hb : (U == 0) = false := by simpa using hu
  by_cases hu2 : U2 = 0
  · have hb2 : (U2 != 0) = false := by simp [hu2]
    have hy : y = false := by rw [← h]; simp [hu, hu2]
    have hvv : v = false := by rw [← hv']; simp [hu2]
    subst hy hvv
    clear h hv' hu hu2
    go_enter Try.func19, Try.ntmps19
    have mk1 : Hid True := trivial
    have mk2 : Hid True := trivial
    have mk3 : Hid True := trivial
    have mk4 : Hid True := trivial
    go_wp2_with (first | (clear mk1; refine wpList_box_v rfl 31 _ rfl [.string N, .int .i64 F, .string B, .int .i64 C, .int .i64 U] rfl ?_; intro b2 w1 hb2 hwb2 hB1 c2; have hz1 : w.heap.size ≤ w1.heap.size := hB1.size; have hB := hB1; have hzw := hB.size; obtain ⟨c20, c21, c22, c23, c24⟩ := cells5 c2) | (clear mk2; refine wpList_box_v rfl 31 _ rfl [.string N2, .int .i64 F2, .string B2, .int .i64 C2, .int .i64 U2] rfl ?_; intro b3 w2 hb3 hwb3 hB2 c3; have hz2 : w1.heap.size ≤ w2.heap.size := hB2.size; replace c2 := vblk_grow c2 hB2; replace hB := hB.trans (hB2.mono (by omega)); replace hzw := hB.size; clear c20 c21 c22 c23 c24; obtain ⟨c20, c21, c22, c23, c24⟩ := cells5 c2; obtain ⟨c30, c31, c32, c33, c34⟩ := cells5 c3) | (clear mk3; go_at_call 53; refine (specItemOk_any N B F C U true hp (by omega) (by omega) _).mono ?_; rintro er w3 ⟨rfl, hB3⟩; have hz3 : w2.heap.size ≤ w3.heap.size := hB3.size; replace c2 := vblk_grow c2 hB3; replace c3 := vblk_grow c3 hB3; replace hB := hB.trans (hB3.mono (by omega)); replace hzw := hB.size; clear c20 c21 c22 c23 c24; obtain ⟨c20, c21, c22, c23, c24⟩ := cells5 c2; clear c30 c31 c32 c33 c34; obtain ⟨c30, c31, c32, c33, c34⟩ := cells5 c3) | (clear mk4; go_at_call 53; refine (specItemOk_any N2 B2 F2 C2 U2 true hq (by omega) (by omega) _).mono ?_; rintro er w4 ⟨rfl, hB4⟩; have hz4 : w3.heap.size ≤ w4.heap.size := hB4.size; replace c2 := vblk_grow c2 hB4; replace c3 := vblk_grow c3 hB4; replace hB := hB.trans (hB4.mono (by omega)); replace hzw := hB.size; clear c20 c21 c22 c23 c24; obtain ⟨c20, c21, c22, c23, c24⟩ := cells5 c2; clear c30 c31 c32 c33 c34; obtain ⟨c30, c31, c32, c33, c34⟩ := cells5 c3) | (fail))
    go_ret
    exact ⟨(by first | rfl | (simp; done)), hB⟩
  have hb2 : (U2 != 0) = true := by simpa using hu2
  by_cases hle : U2 ≤ U
  · have hy : y = true := by rw [← h]; simp [hu, hu2, hle]
    have hvv : v = true := by rw [← hv']; simp [hu2, hle]
    subst hy hvv
    clear h hv' hu hu2
    have hge : decide (U ≥ U2) = true := by simpa using hle
    go_enter Try.func19, Try.ntmps19
    have mk1 : Hid True := trivial
    have mk2 : Hid True := trivial
    have mk3 : Hid True := trivial
    have mk4 : Hid True := trivial
    go_wp2_with (first | (clear mk1; refine wpList_box_v rfl 31 _ rfl [.string N, .int .i64 F, .string B, .int .i64 C, .int .i64 U] rfl ?_; intro b2 w1 hb2 hwb2 hB1 c2; have hz1 : w.heap.size ≤ w1.heap.size := hB1.size; have hB := hB1; have hzw := hB.size; obtain ⟨c20, c21, c22, c23, c24⟩ := cells5 c2) | (clear mk2; refine wpList_box_v rfl 31 _ rfl [.string N2, .int .i64 F2, .string B2, .int .i64 C2, .int .i64 U2] rfl ?_; intro b3 w2 hb3 hwb3 hB2 c3; have hz2 : w1.heap.size ≤ w2.heap.size := hB2.size; replace c2 := vblk_grow c2 hB2; replace hB := hB.trans (hB2.mono (by omega)); replace hzw := hB.size; clear c20 c21 c22 c23 c24; obtain ⟨c20, c21, c22, c23, c24⟩ := cells5 c2; obtain ⟨c30, c31, c32, c33, c34⟩ := cells5 c3) | (clear mk3; go_at_call 53; refine (specItemOk_any N B F C U true hp (by omega) (by omega) _).mono ?_; rintro er w3 ⟨rfl, hB3⟩; have hz3 : w2.heap.size ≤ w3.heap.size := hB3.size; replace c2 := vblk_grow c2 hB3; replace c3 := vblk_grow c3 hB3; replace hB := hB.trans (hB3.mono (by omega)); replace hzw := hB.size; clear c20 c21 c22 c23 c24; obtain ⟨c20, c21, c22, c23, c24⟩ := cells5 c2; clear c30 c31 c32 c33 c34; obtain ⟨c30, c31, c32, c33, c34⟩ := cells5 c3) | (clear mk4; go_at_call 53; refine (specItemOk_any N2 B2 F2 C2 U2 true hq (by omega) (by omega) _).mono ?_; rintro er w4 ⟨rfl, hB4⟩; have hz4 : w3.heap.size ≤ w4.heap.size := hB4.size; replace c2 := vblk_grow c2 hB4; replace c3 := vblk_grow c3 hB4; replace hB := hB.trans (hB4.mono (by omega)); replace hzw := hB.size; clear c20 c21 c22 c23 c24; obtain ⟨c20, c21, c22, c23, c24⟩ := cells5 c2; clear c30 c31 c32 c33 c34; obtain ⟨c30, c31, c32, c33, c34⟩ := cells5 c3) | (fail))
    go_ret
    exact ⟨(by first | rfl | (simp; done)), hB⟩
  · have hy : y = false := by rw [← h]; simp [hu, hu2, hle]
    have hvv : v = false := by rw [← hv']; simp [hle]
    subst hy hvv
    clear h hv' hu hu2
    have hge : decide (U ≥ U2) = false := by simpa using hle
    go_enter Try.func19, Try.ntmps19
    have mk1 : Hid True := trivial
    have mk2 : Hid True := trivial
    have mk3 : Hid True := trivial
    have mk4 : Hid True := trivial
    go_wp2_with (first | (clear mk1; refine wpList_box_v rfl 31 _ rfl [.string N, .int .i64 F, .string B, .int .i64 C, .int .i64 U] rfl ?_; intro b2 w1 hb2 hwb2 hB1 c2; have hz1 : w.heap.size ≤ w1.heap.size := hB1.size; have hB := hB1; have hzw := hB.size; obtain ⟨c20, c21, c22, c23, c24⟩ := cells5 c2) | (clear mk2; refine wpList_box_v rfl 31 _ rfl [.string N2, .int .i64 F2, .string B2, .int .i64 C2, .int .i64 U2] rfl ?_; intro b3 w2 hb3 hwb3 hB2 c3; have hz2 : w1.heap.size ≤ w2.heap.size := hB2.size; replace c2 := vblk_grow c2 hB2; replace hB := hB.trans (hB2.mono (by omega)); replace hzw := hB.size; clear c20 c21 c22 c23 c24; obtain ⟨c20, c21, c22, c23, c24⟩ := cells5 c2; obtain ⟨c30, c31, c32, c33, c34⟩ := cells5 c3) | (clear mk3; go_at_call 53; refine (specItemOk_any N B F C U true hp (by omega) (by omega) _).mono ?_; rintro er w3 ⟨rfl, hB3⟩; have hz3 : w2.heap.size ≤ w3.heap.size := hB3.size; replace c2 := vblk_grow c2 hB3; replace c3 := vblk_grow c3 hB3; replace hB := hB.trans (hB3.mono (by omega)); replace hzw := hB.size; clear c20 c21 c22 c23 c24; obtain ⟨c20, c21, c22, c23, c24⟩ := cells5 c2; clear c30 c31 c32 c33 c34; obtain ⟨c30, c31, c32, c33, c34⟩ := cells5 c3) | (clear mk4; go_at_call 53; refine (specItemOk_any N2 B2 F2 C2 U2 true hq (by omega) (by omega) _).mono ?_; rintro er w4 ⟨rfl, hB4⟩; have hz4 : w3.heap.size ≤ w4.heap.size := hB4.size; replace c2 := vblk_grow c2 hB4; replace c3 := vblk_grow c3 hB4; replace hB := hB.trans (hB4.mono (by omega)); replace hzw := hB.size; clear c20 c21 c22 c23 c24; obtain ⟨c20, c21, c22, c23, c24⟩ := cells5 c2; clear c30 c31 c32 c33 c34; obtain ⟨c30, c31, c32, c33, c34⟩ := cells5 c3) | (fail))
    go_ret
    exact ⟨(by first | rfl | (simp; done)), hB⟩

set_option maxRecDepth 10000 in
set_option maxHeartbeats 1000000 in
theorem implOutlives_any (N B : ByteArray) (F C U : Int) (N2 B2 : ByteArray) (F2 C2 U2 : Int) (y : Bool) (hy : Hid (outB ⟨N, F, B, C, U⟩ ⟨N2, F2, B2, C2, U2⟩ = y)) (hN : N.size ≤ 9223372036854775807) (hB0 : B.size ≤ 9223372036854775807) (hN2 : N2.size ≤ 9223372036854775807) (hB02 : B2.size ≤ 9223372036854775807) (w : World) :
    Calls Try.prog 18 #[.agg #[.string N, .int .i64 F, .string B, .int .i64 C, .int .i64 U], .agg #[.string N2, .int .i64 F2, .string B2, .int .i64 C2, .int .i64 U2]] w fun e w' => e = .returned (.bool y) ∧ Below w.heap.size w w' := by
  have h := hy.out
  clear hy
  unfold outB at h
  obtain ⟨p, hp⟩ := hid_ex (itemB ⟨N, F, B, C, U⟩)
  obtain ⟨q, hq⟩ := hid_ex (itemB ⟨N2, F2, B2, C2, U2⟩)
  obtain ⟨v, hv⟩ := hid_ex (overB ⟨N2, F2, B2, C2, U2⟩ U)
  have hv' := hv.out
  unfold overB at hv'
  rw [hp.out, hq.out] at h
  dsimp only at h hv'
  cases p
  · have hy : y = false := by simpa using h.symm
    subst hy
    clear h hv'
    go_enter Try.func18, Try.ntmps18
    have mk1 : Hid True := trivial
    have mk2 : Hid True := trivial
    have mk3 : Hid True := trivial
    go_wp2_with (first | (clear mk1; refine wpList_box_v rfl 31 _ rfl [.string N, .int .i64 F, .string B, .int .i64 C, .int .i64 U] rfl ?_; intro b2 w1 hb2 hwb2 hB1 c2; have hz1 : w.heap.size ≤ w1.heap.size := hB1.size; have hB := hB1; have hzw := hB.size; obtain ⟨c20, c21, c22, c23, c24⟩ := cells5 c2) | (clear mk2; refine wpList_box_v rfl 31 _ rfl [.string N2, .int .i64 F2, .string B2, .int .i64 C2, .int .i64 U2] rfl ?_; intro b3 w2 hb3 hwb3 hB2 c3; have hz2 : w1.heap.size ≤ w2.heap.size := hB2.size; replace c2 := vblk_grow c2 hB2; replace hB := hB.trans (hB2.mono (by omega)); replace hzw := hB.size; clear c20 c21 c22 c23 c24; obtain ⟨c20, c21, c22, c23, c24⟩ := cells5 c2; obtain ⟨c30, c31, c32, c33, c34⟩ := cells5 c3) | (clear mk3; go_at_call 51; refine (implItemOk_any N B F C U false hp (by omega) (by omega) _).mono ?_; rintro er w3 ⟨rfl, hB3⟩; have hz3 : w2.heap.size ≤ w3.heap.size := hB3.size; replace c2 := vblk_grow c2 hB3; replace c3 := vblk_grow c3 hB3; replace hB := hB.trans (hB3.mono (by omega)); replace hzw := hB.size; clear c20 c21 c22 c23 c24; obtain ⟨c20, c21, c22, c23, c24⟩ := cells5 c2; clear c30 c31 c32 c33 c34; obtain ⟨c30, c31, c32, c33, c34⟩ := cells5 c3) | (fail))
    go_ret
    exact ⟨(by first | rfl | (simp; done)), hB⟩
  cases q
  · have hy : y = false := by simpa using h.symm
    subst hy
    clear h hv'
    go_enter Try.func18, Try.ntmps18
    have mk1 : Hid True := trivial
    have mk2 : Hid True := trivial
    have mk3 : Hid True := trivial
    have mk4 : Hid True := trivial
    go_wp2_with (first | (clear mk1; refine wpList_box_v rfl 31 _ rfl [.string N, .int .i64 F, .string B, .int .i64 C, .int .i64 U] rfl ?_; intro b2 w1 hb2 hwb2 hB1 c2; have hz1 : w.heap.size ≤ w1.heap.size := hB1.size; have hB := hB1; have hzw := hB.size; obtain ⟨c20, c21, c22, c23, c24⟩ := cells5 c2) | (clear mk2; refine wpList_box_v rfl 31 _ rfl [.string N2, .int .i64 F2, .string B2, .int .i64 C2, .int .i64 U2] rfl ?_; intro b3 w2 hb3 hwb3 hB2 c3; have hz2 : w1.heap.size ≤ w2.heap.size := hB2.size; replace c2 := vblk_grow c2 hB2; replace hB := hB.trans (hB2.mono (by omega)); replace hzw := hB.size; clear c20 c21 c22 c23 c24; obtain ⟨c20, c21, c22, c23, c24⟩ := cells5 c2; obtain ⟨c30, c31, c32, c33, c34⟩ := cells5 c3) | (clear mk3; go_at_call 51; refine (implItemOk_any N B F C U true hp (by omega) (by omega) _).mono ?_; rintro er w3 ⟨rfl, hB3⟩; have hz3 : w2.heap.size ≤ w3.heap.size := hB3.size; replace c2 := vblk_grow c2 hB3; replace c3 := vblk_grow c3 hB3; replace hB := hB.trans (hB3.mono (by omega)); replace hzw := hB.size; clear c20 c21 c22 c23 c24; obtain ⟨c20, c21, c22, c23, c24⟩ := cells5 c2; clear c30 c31 c32 c33 c34; obtain ⟨c30, c31, c32, c33, c34⟩ := cells5 c3) | (clear mk4; go_at_call 51; refine (implItemOk_any N2 B2 F2 C2 U2 false hq (by omega) (by omega) _).mono ?_; rintro er w4 ⟨rfl, hB4⟩; have hz4 : w3.heap.size ≤ w4.heap.size := hB4.size; replace c2 := vblk_grow c2 hB4; replace c3 := vblk_grow c3 hB4; replace hB := hB.trans (hB4.mono (by omega)); replace hzw := hB.size; clear c20 c21 c22 c23 c24; obtain ⟨c20, c21, c22, c23, c24⟩ := cells5 c2; clear c30 c31 c32 c33 c34; obtain ⟨c30, c31, c32, c33, c34⟩ := cells5 c3) | (fail))
    go_ret
    exact ⟨(by first | rfl | (simp; done)), hB⟩
  by_cases hu : U = 0
  · have hb : (U == 0) = true := by simpa using hu
    have hy : y = true := by rw [← h]; simp [hu]
    subst hy
    clear h hv' hu
    go_enter Try.func18, Try.ntmps18
    have mk1 : Hid True := trivial
    have mk2 : Hid True := trivial
    have mk3 : Hid True := trivial
    have mk4 : Hid True := trivial
    go_wp2_with (first | (clear mk1; refine wpList_box_v rfl 31 _ rfl [.string N, .int .i64 F, .string B, .int .i64 C, .int .i64 U] rfl ?_; intro b2 w1 hb2 hwb2 hB1 c2; have hz1 : w.heap.size ≤ w1.heap.size := hB1.size; have hB := hB1; have hzw := hB.size; obtain ⟨c20, c21, c22, c23, c24⟩ := cells5 c2) | (clear mk2; refine wpList_box_v rfl 31 _ rfl [.string N2, .int .i64 F2, .string B2, .int .i64 C2, .int .i64 U2] rfl ?_; intro b3 w2 hb3 hwb3 hB2 c3; have hz2 : w1.heap.size ≤ w2.heap.size := hB2.size; replace c2 := vblk_grow c2 hB2; replace hB := hB.trans (hB2.mono (by omega)); replace hzw := hB.size; clear c20 c21 c22 c23 c24; obtain ⟨c20, c21, c22, c23, c24⟩ := cells5 c2; obtain ⟨c30, c31, c32, c33, c34⟩ := cells5 c3) | (clear mk3; go_at_call 51; refine (implItemOk_any N B F C U true hp (by omega) (by omega) _).mono ?_; rintro er w3 ⟨rfl, hB3⟩; have hz3 : w2.heap.size ≤ w3.heap.size := hB3.size; replace c2 := vblk_grow c2 hB3; replace c3 := vblk_grow c3 hB3; replace hB := hB.trans (hB3.mono (by omega)); replace hzw := hB.size; clear c20 c21 c22 c23 c24; obtain ⟨c20, c21, c22, c23, c24⟩ := cells5 c2; clear c30 c31 c32 c33 c34; obtain ⟨c30, c31, c32, c33, c34⟩ := cells5 c3) | (clear mk4; go_at_call 51; refine (implItemOk_any N2 B2 F2 C2 U2 true hq (by omega) (by omega) _).mono ?_; rintro er w4 ⟨rfl, hB4⟩; have hz4 : w3.heap.size ≤ w4.heap.size := hB4.size; replace c2 := vblk_grow c2 hB4; replace c3 := vblk_grow c3 hB4; replace hB := hB.trans (hB4.mono (by omega)); replace hzw := hB.size; clear c20 c21 c22 c23 c24; obtain ⟨c20, c21, c22, c23, c24⟩ := cells5 c2; clear c30 c31 c32 c33 c34; obtain ⟨c30, c31, c32, c33, c34⟩ := cells5 c3) | (fail))
    go_ret
    exact ⟨(by first | rfl | (simp; done)), hB⟩
  have hb : (U == 0) = false := by simpa using hu
  by_cases hu2 : U2 = 0
  · have hb2 : (U2 != 0) = false := by simp [hu2]
    have hy : y = false := by rw [← h]; simp [hu, hu2]
    have hvv : v = false := by rw [← hv']; simp [hu2]
    subst hy hvv
    clear h hv' hu hu2
    go_enter Try.func18, Try.ntmps18
    have mk1 : Hid True := trivial
    have mk2 : Hid True := trivial
    have mk3 : Hid True := trivial
    have mk4 : Hid True := trivial
    have mk5 : Hid True := trivial
    go_wp2_with (first | (clear mk1; refine wpList_box_v rfl 31 _ rfl [.string N, .int .i64 F, .string B, .int .i64 C, .int .i64 U] rfl ?_; intro b2 w1 hb2 hwb2 hB1 c2; have hz1 : w.heap.size ≤ w1.heap.size := hB1.size; have hB := hB1; have hzw := hB.size; obtain ⟨c20, c21, c22, c23, c24⟩ := cells5 c2) | (clear mk2; refine wpList_box_v rfl 31 _ rfl [.string N2, .int .i64 F2, .string B2, .int .i64 C2, .int .i64 U2] rfl ?_; intro b3 w2 hb3 hwb3 hB2 c3; have hz2 : w1.heap.size ≤ w2.heap.size := hB2.size; replace c2 := vblk_grow c2 hB2; replace hB := hB.trans (hB2.mono (by omega)); replace hzw := hB.size; clear c20 c21 c22 c23 c24; obtain ⟨c20, c21, c22, c23, c24⟩ := cells5 c2; obtain ⟨c30, c31, c32, c33, c34⟩ := cells5 c3) | (clear mk3; go_at_call 51; refine (implItemOk_any N B F C U true hp (by omega) (by omega) _).mono ?_; rintro er w3 ⟨rfl, hB3⟩; have hz3 : w2.heap.size ≤ w3.heap.size := hB3.size; replace c2 := vblk_grow c2 hB3; replace c3 := vblk_grow c3 hB3; replace hB := hB.trans (hB3.mono (by omega)); replace hzw := hB.size; clear c20 c21 c22 c23 c24; obtain ⟨c20, c21, c22, c23, c24⟩ := cells5 c2; clear c30 c31 c32 c33 c34; obtain ⟨c30, c31, c32, c33, c34⟩ := cells5 c3) | (clear mk4; go_at_call 51; refine (implItemOk_any N2 B2 F2 C2 U2 true hq (by omega) (by omega) _).mono ?_; rintro er w4 ⟨rfl, hB4⟩; have hz4 : w3.heap.size ≤ w4.heap.size := hB4.size; replace c2 := vblk_grow c2 hB4; replace c3 := vblk_grow c3 hB4; replace hB := hB.trans (hB4.mono (by omega)); replace hzw := hB.size; clear c20 c21 c22 c23 c24; obtain ⟨c20, c21, c22, c23, c24⟩ := cells5 c2; clear c30 c31 c32 c33 c34; obtain ⟨c30, c31, c32, c33, c34⟩ := cells5 c3) | (clear mk5; go_at_call 52; refine (implOverAt_any N2 B2 F2 C2 U2 U false hv _).mono ?_; rintro er w5 ⟨rfl, hB5⟩; have hz5 : w4.heap.size ≤ w5.heap.size := hB5.size; replace c2 := vblk_grow c2 hB5; replace c3 := vblk_grow c3 hB5; replace hB := hB.trans (hB5.mono (by omega)); replace hzw := hB.size; clear c20 c21 c22 c23 c24; obtain ⟨c20, c21, c22, c23, c24⟩ := cells5 c2; clear c30 c31 c32 c33 c34; obtain ⟨c30, c31, c32, c33, c34⟩ := cells5 c3) | (fail))
    go_ret
    exact ⟨(by first | rfl | (simp; done)), hB⟩
  have hb2 : (U2 != 0) = true := by simpa using hu2
  by_cases hle : U2 ≤ U
  · have hy : y = true := by rw [← h]; simp [hu, hu2, hle]
    have hvv : v = true := by rw [← hv']; simp [hu2, hle]
    subst hy hvv
    clear h hv' hu hu2
    have hge : decide (U ≥ U2) = true := by simpa using hle
    go_enter Try.func18, Try.ntmps18
    have mk1 : Hid True := trivial
    have mk2 : Hid True := trivial
    have mk3 : Hid True := trivial
    have mk4 : Hid True := trivial
    have mk5 : Hid True := trivial
    go_wp2_with (first | (clear mk1; refine wpList_box_v rfl 31 _ rfl [.string N, .int .i64 F, .string B, .int .i64 C, .int .i64 U] rfl ?_; intro b2 w1 hb2 hwb2 hB1 c2; have hz1 : w.heap.size ≤ w1.heap.size := hB1.size; have hB := hB1; have hzw := hB.size; obtain ⟨c20, c21, c22, c23, c24⟩ := cells5 c2) | (clear mk2; refine wpList_box_v rfl 31 _ rfl [.string N2, .int .i64 F2, .string B2, .int .i64 C2, .int .i64 U2] rfl ?_; intro b3 w2 hb3 hwb3 hB2 c3; have hz2 : w1.heap.size ≤ w2.heap.size := hB2.size; replace c2 := vblk_grow c2 hB2; replace hB := hB.trans (hB2.mono (by omega)); replace hzw := hB.size; clear c20 c21 c22 c23 c24; obtain ⟨c20, c21, c22, c23, c24⟩ := cells5 c2; obtain ⟨c30, c31, c32, c33, c34⟩ := cells5 c3) | (clear mk3; go_at_call 51; refine (implItemOk_any N B F C U true hp (by omega) (by omega) _).mono ?_; rintro er w3 ⟨rfl, hB3⟩; have hz3 : w2.heap.size ≤ w3.heap.size := hB3.size; replace c2 := vblk_grow c2 hB3; replace c3 := vblk_grow c3 hB3; replace hB := hB.trans (hB3.mono (by omega)); replace hzw := hB.size; clear c20 c21 c22 c23 c24; obtain ⟨c20, c21, c22, c23, c24⟩ := cells5 c2; clear c30 c31 c32 c33 c34; obtain ⟨c30, c31, c32, c33, c34⟩ := cells5 c3) | (clear mk4; go_at_call 51; refine (implItemOk_any N2 B2 F2 C2 U2 true hq (by omega) (by omega) _).mono ?_; rintro er w4 ⟨rfl, hB4⟩; have hz4 : w3.heap.size ≤ w4.heap.size := hB4.size; replace c2 := vblk_grow c2 hB4; replace c3 := vblk_grow c3 hB4; replace hB := hB.trans (hB4.mono (by omega)); replace hzw := hB.size; clear c20 c21 c22 c23 c24; obtain ⟨c20, c21, c22, c23, c24⟩ := cells5 c2; clear c30 c31 c32 c33 c34; obtain ⟨c30, c31, c32, c33, c34⟩ := cells5 c3) | (clear mk5; go_at_call 52; refine (implOverAt_any N2 B2 F2 C2 U2 U true hv _).mono ?_; rintro er w5 ⟨rfl, hB5⟩; have hz5 : w4.heap.size ≤ w5.heap.size := hB5.size; replace c2 := vblk_grow c2 hB5; replace c3 := vblk_grow c3 hB5; replace hB := hB.trans (hB5.mono (by omega)); replace hzw := hB.size; clear c20 c21 c22 c23 c24; obtain ⟨c20, c21, c22, c23, c24⟩ := cells5 c2; clear c30 c31 c32 c33 c34; obtain ⟨c30, c31, c32, c33, c34⟩ := cells5 c3) | (fail))
    go_ret
    exact ⟨(by first | rfl | (simp; done)), hB⟩
  · have hy : y = false := by rw [← h]; simp [hu, hu2, hle]
    have hvv : v = false := by rw [← hv']; simp [hle]
    subst hy hvv
    clear h hv' hu hu2
    have hge : decide (U ≥ U2) = false := by simpa using hle
    go_enter Try.func18, Try.ntmps18
    have mk1 : Hid True := trivial
    have mk2 : Hid True := trivial
    have mk3 : Hid True := trivial
    have mk4 : Hid True := trivial
    have mk5 : Hid True := trivial
    go_wp2_with (first | (clear mk1; refine wpList_box_v rfl 31 _ rfl [.string N, .int .i64 F, .string B, .int .i64 C, .int .i64 U] rfl ?_; intro b2 w1 hb2 hwb2 hB1 c2; have hz1 : w.heap.size ≤ w1.heap.size := hB1.size; have hB := hB1; have hzw := hB.size; obtain ⟨c20, c21, c22, c23, c24⟩ := cells5 c2) | (clear mk2; refine wpList_box_v rfl 31 _ rfl [.string N2, .int .i64 F2, .string B2, .int .i64 C2, .int .i64 U2] rfl ?_; intro b3 w2 hb3 hwb3 hB2 c3; have hz2 : w1.heap.size ≤ w2.heap.size := hB2.size; replace c2 := vblk_grow c2 hB2; replace hB := hB.trans (hB2.mono (by omega)); replace hzw := hB.size; clear c20 c21 c22 c23 c24; obtain ⟨c20, c21, c22, c23, c24⟩ := cells5 c2; obtain ⟨c30, c31, c32, c33, c34⟩ := cells5 c3) | (clear mk3; go_at_call 51; refine (implItemOk_any N B F C U true hp (by omega) (by omega) _).mono ?_; rintro er w3 ⟨rfl, hB3⟩; have hz3 : w2.heap.size ≤ w3.heap.size := hB3.size; replace c2 := vblk_grow c2 hB3; replace c3 := vblk_grow c3 hB3; replace hB := hB.trans (hB3.mono (by omega)); replace hzw := hB.size; clear c20 c21 c22 c23 c24; obtain ⟨c20, c21, c22, c23, c24⟩ := cells5 c2; clear c30 c31 c32 c33 c34; obtain ⟨c30, c31, c32, c33, c34⟩ := cells5 c3) | (clear mk4; go_at_call 51; refine (implItemOk_any N2 B2 F2 C2 U2 true hq (by omega) (by omega) _).mono ?_; rintro er w4 ⟨rfl, hB4⟩; have hz4 : w3.heap.size ≤ w4.heap.size := hB4.size; replace c2 := vblk_grow c2 hB4; replace c3 := vblk_grow c3 hB4; replace hB := hB.trans (hB4.mono (by omega)); replace hzw := hB.size; clear c20 c21 c22 c23 c24; obtain ⟨c20, c21, c22, c23, c24⟩ := cells5 c2; clear c30 c31 c32 c33 c34; obtain ⟨c30, c31, c32, c33, c34⟩ := cells5 c3) | (clear mk5; go_at_call 52; refine (implOverAt_any N2 B2 F2 C2 U2 U false hv _).mono ?_; rintro er w5 ⟨rfl, hB5⟩; have hz5 : w4.heap.size ≤ w5.heap.size := hB5.size; replace c2 := vblk_grow c2 hB5; replace c3 := vblk_grow c3 hB5; replace hB := hB.trans (hB5.mono (by omega)); replace hzw := hB.size; clear c20 c21 c22 c23 c24; obtain ⟨c20, c21, c22, c23, c24⟩ := cells5 c2; clear c30 c31 c32 c33 c34; obtain ⟨c30, c31, c32, c33, c34⟩ := cells5 c3) | (fail))
    go_ret
    exact ⟨(by first | rfl | (simp; done)), hB⟩
end Go.Proofs.Ytjkhmahdokcgeaa.rg
