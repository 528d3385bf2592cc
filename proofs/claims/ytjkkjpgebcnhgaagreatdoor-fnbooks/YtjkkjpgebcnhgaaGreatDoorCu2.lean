/- Contracts: right commands, the model's. -/
import Derived.Test.YtjkkjpgebcnhgaaGreatDoorMg10
import Derived.Deep.DeepCutAuto
import Derived.Deep.RegionHeld3
namespace Go.Proofs.YtjkkjpgebcnhgaaGreatDoor.cm
open Go.ChangeShapes Go.WideShapes Go.ChangeAt Go.RowKit
open Go.Deep Go.Joins
open Go.Proofs.YtjkkjpgebcnhgaaGreatDoor.ce Go.Proofs.YtjkkjpgebcnhgaaGreatDoor.ro Go.Proofs.YtjkkjpgebcnhgaaGreatDoor.rg
set_option linter.unusedVariables false

theorem emp_iff {B : ByteArray} : B.toList.isEmpty = decide (B = emp) := by
  by_cases h : B = emp
  · rw [h, ByteArray.toList_eq, decide_eq_true rfl]; rfl
  · rw [decide_eq_false h]
    cases hb : B.toList with
    | nil => exact absurd (str_eq (by rw [hb, ByteArray.toList_eq]; rfl)) h
    | cons a r => rfl
/-- what stands in the long test -/
def badB (V : Int) (N : ByteArray) (F U : Int) (B : ByteArray) (C D : Int) : Bool := !nameB N || !full V && (F != 0) || !full V && (V != 11) && (U != 0) || !sized V && !B.toList.isEmpty || (V != 8) && (C != 0) || !stepV V && (D != 0)
theorem sz_of_full {V : Int} (h : full V = true) : sized V = true := by unfold full at h; unfold sized; simp at h ⊢; omega
theorem st_of_sz {V : Int} (h : sized V = true) : stepV V = false := by unfold sized at h; unfold stepV; simp at h ⊢; omega
theorem ne8_of {V : Int} (h : full V = false) : (V != 8) = true := by unfold full at h; simp at h ⊢; omega

set_option maxRecDepth 100000 in
set_option maxHeartbeats 4000000 in
theorem specCmdOk_mid (V : Int) (N B : ByteArray) (F U C D : Int) (Q : Bool) (hN : N.size ≤ 9223372036854775807) (hB : B.size ≤ 9223372036854775807) (v0 : Hid (1 ≤ V ∧ V ≤ 13)) (n13 : (V == 13) = false) (hq : Q = true → ¬ V ≤ 2) (w : World) (y : Bool) (hy : Hid (y = (!badB V N F U B C D && !((V == 8) && !(decide (1 ≤ C) && decide (C ≤ 1000000))) && ((decide (0 ≤ F) && decide (F ≤ 65535)) && (decide (0 ≤ U) && decide (U ≤ 1000000)) && decide ((B.size : Int) ≤ 64) && (decide (0 ≤ D) && decide (D ≤ 1000000)))))) :
    Calls Tryz.prog 23 #[.agg #[.int .i64 V, .string N, .int .i64 F, .int .i64 U, .string B, .int .i64 C, .int .i64 D, .bool Q]] w fun e w' => e = .returned (.bool y) ∧ Below w.heap.size w w' := by
  have hvv : Hid ((decide (1 ≤ V) && decide (V ≤ 13)) = true) := by have := v0.out; unfold Hid; simp; omega
  have m1 : Hid True := trivial
  go_enter Tryz.func23, Tryz.ntmps23
  go_upto_region 1 with (first | (refine wpList_box_v rfl 37 _ rfl [.int .i64 V, .string N, .int .i64 F, .int .i64 U, .string B, .int .i64 C, .int .i64 D, .bool Q] rfl ?_; intro b1 w1 hb1 hw1 hB1 V1; obtain ⟨c0, c1, c2, c3, c4, c5, c6, c7⟩ := cellsCm V1) | (fail))
  go_cut [16] from 4 to 16 (fun u wc => u = .bool false ∧ w1 = wc)
  case first =>
    cases Q with
    | false =>
      go_wp2_with (first | (go_at_call 54; refine (in_is V 1 13 true hvv.out _).mono ?_; rintro e wq ⟨rfl, hq⟩; subst wq) | (fail))
      go_meet
      case rel => exact ⟨rfl, rfl⟩
    | true =>
      have hq2 := hq rfl
      go_wp2_with (first | (go_at_call 54; refine (in_is V 1 13 true hvv.out _).mono ?_; rintro e wq ⟨rfl, hq⟩; subst wq) | (fail))
      go_meet
      case rel => exact ⟨congrArg Value.bool (decide_eq_false (by omega)), rfl⟩
  case rest =>
  obtain ⟨rfl, rfl⟩ := hcut
  clear hq
  obtain ⟨z, hz⟩ := hid_ex (stepV V)
  go_upto_region 5 with (fail)
  go_cut [3] from 25 to 32 (fun u wc => u = .bool z ∧ w1 = wc)
  case first =>
    by_cases h9 : V = 9
    · have e9 : (V == 9) = true := by simp [h9]
      have es : Hid (stepV V = true) := by rw [h9]; rfl
      clear h9
      go_wp2
      go_meet
      case rel => exact ⟨congrArg Value.bool (es.out.symm.trans hz.out), rfl⟩
    · have e9 : (V == 9) = false := by simp [h9]
      have es : Hid (stepV V = (V == 10)) := by unfold Hid stepV; rw [decide_eq_false h9, Bool.false_or]; rfl
      clear h9
      go_wp2
      go_meet
      case rel => exact ⟨congrArg Value.bool (es.out.symm.trans hz.out), rfl⟩
  case rest =>
  obtain ⟨rfl, rfl⟩ := hcut
  go_upto_region 6 with (fail)
  go_cut [93] from 33 to 93 (fun u wc => u = .bool (badB V N F U B C D) ∧ w1 = wc)
  case first =>
    cases hn : nameB N with
    | false =>
      go_wp2_with (first | (go_at_call 55; refine (specNameOk_any _ hN _).mono ?_; rintro e wq ⟨rfl, hq⟩; subst wq; rw [hn]) | (go_at_call 56; refine (l11Full_is V _ hfu _).mono ?_; rintro e wq ⟨rfl, hq⟩; subst wq) | (go_at_call 57; refine (l11Sized_is V _ hsz _).mono ?_; rintro e wq ⟨rfl, hq⟩; subst wq) | (fail))
      go_meet
      case rel => exact ⟨congrArg Value.bool (by unfold badB; simp only [hn, Bool.not_false, Bool.true_or] <;> rfl), rfl⟩
    | true =>
      cases hfu : full V with
      | true =>
        have hsz : sized V = true := sz_of_full hfu
        obtain rfl : z = false := by rw [← hz.out]; exact st_of_sz hsz
        by_cases v8 : V = 8
        · have e8 : (V != 8) = false := by simp [v8]
          clear v8
          by_cases d0 : D = 0
          · have d1 : (D != 0) = false := by simp [d0]
            clear d0
            go_wp2_with (first | (go_at_call 55; refine (specNameOk_any _ hN _).mono ?_; rintro e wq ⟨rfl, hq⟩; subst wq; rw [hn]) | (go_at_call 56; refine (l11Full_is V _ hfu _).mono ?_; rintro e wq ⟨rfl, hq⟩; subst wq) | (go_at_call 57; refine (l11Sized_is V _ hsz _).mono ?_; rintro e wq ⟨rfl, hq⟩; subst wq) | (fail))
            go_meet
            case rel => exact ⟨congrArg Value.bool (by unfold badB; simp only [hn, hfu, hsz, e8, hz.out, d1] <;> rfl), rfl⟩
          · have d1 : (D != 0) = true := by simp [d0]
            clear d0
            go_wp2_with (first | (go_at_call 55; refine (specNameOk_any _ hN _).mono ?_; rintro e wq ⟨rfl, hq⟩; subst wq; rw [hn]) | (go_at_call 56; refine (l11Full_is V _ hfu _).mono ?_; rintro e wq ⟨rfl, hq⟩; subst wq) | (go_at_call 57; refine (l11Sized_is V _ hsz _).mono ?_; rintro e wq ⟨rfl, hq⟩; subst wq) | (fail))
            go_meet
            case rel => exact ⟨congrArg Value.bool (by unfold badB; simp only [hn, hfu, hsz, e8, hz.out, d1] <;> rfl), rfl⟩
        · have e8 : (V != 8) = true := by simp [v8]
          clear v8
          by_cases k0 : C = 0
          · have k1 : (C != 0) = false := by simp [k0]
            clear k0
            by_cases d0 : D = 0
            · have d1 : (D != 0) = false := by simp [d0]
              clear d0
              go_wp2_with (first | (go_at_call 55; refine (specNameOk_any _ hN _).mono ?_; rintro e wq ⟨rfl, hq⟩; subst wq; rw [hn]) | (go_at_call 56; refine (l11Full_is V _ hfu _).mono ?_; rintro e wq ⟨rfl, hq⟩; subst wq) | (go_at_call 57; refine (l11Sized_is V _ hsz _).mono ?_; rintro e wq ⟨rfl, hq⟩; subst wq) | (fail))
              go_meet
              case rel => exact ⟨congrArg Value.bool (by unfold badB; simp only [hn, hfu, hsz, e8, k1, hz.out, d1] <;> rfl), rfl⟩
            · have d1 : (D != 0) = true := by simp [d0]
              clear d0
              go_wp2_with (first | (go_at_call 55; refine (specNameOk_any _ hN _).mono ?_; rintro e wq ⟨rfl, hq⟩; subst wq; rw [hn]) | (go_at_call 56; refine (l11Full_is V _ hfu _).mono ?_; rintro e wq ⟨rfl, hq⟩; subst wq) | (go_at_call 57; refine (l11Sized_is V _ hsz _).mono ?_; rintro e wq ⟨rfl, hq⟩; subst wq) | (fail))
              go_meet
              case rel => exact ⟨congrArg Value.bool (by unfold badB; simp only [hn, hfu, hsz, e8, k1, hz.out, d1] <;> rfl), rfl⟩
          · have k1 : (C != 0) = true := by simp [k0]
            clear k0
            go_wp2_with (first | (go_at_call 55; refine (specNameOk_any _ hN _).mono ?_; rintro e wq ⟨rfl, hq⟩; subst wq; rw [hn]) | (go_at_call 56; refine (l11Full_is V _ hfu _).mono ?_; rintro e wq ⟨rfl, hq⟩; subst wq) | (go_at_call 57; refine (l11Sized_is V _ hsz _).mono ?_; rintro e wq ⟨rfl, hq⟩; subst wq) | (fail))
            go_meet
            case rel => exact ⟨congrArg Value.bool (by unfold badB; simp only [hn, hfu, hsz, e8, k1] <;> rfl), rfl⟩
      | false =>
        have e8 : (V != 8) = true := ne8_of hfu
        by_cases f0 : F = 0
        · have f1 : (F != 0) = false := by simp [f0]
          clear f0
          by_cases v11 : V = 11
          · have e11 : (V != 11) = false := by simp [v11]
            have hsz : sized V = false := by rw [v11]; rfl
            obtain rfl : z = false := by rw [← hz.out, v11]; rfl
            clear v11
            cases b0 : B.toList.isEmpty with
            | false =>
              go_wp2_with (first | (go_at_call 55; refine (specNameOk_any _ hN _).mono ?_; rintro e wq ⟨rfl, hq⟩; subst wq; rw [hn]) | (go_at_call 56; refine (l11Full_is V _ hfu _).mono ?_; rintro e wq ⟨rfl, hq⟩; subst wq) | (go_at_call 57; refine (l11Sized_is V _ hsz _).mono ?_; rintro e wq ⟨rfl, hq⟩; subst wq) | (fail))
              go_meet
              case rel => exact ⟨congrArg Value.bool (by unfold badB; simp only [hn, hfu, f1, e11, hsz, e8, b0] <;> rfl), rfl⟩
            | true =>
              by_cases k0 : C = 0
              · have k1 : (C != 0) = false := by simp [k0]
                clear k0
                by_cases d0 : D = 0
                · have d1 : (D != 0) = false := by simp [d0]
                  clear d0
                  go_wp2_with (first | (go_at_call 55; refine (specNameOk_any _ hN _).mono ?_; rintro e wq ⟨rfl, hq⟩; subst wq; rw [hn]) | (go_at_call 56; refine (l11Full_is V _ hfu _).mono ?_; rintro e wq ⟨rfl, hq⟩; subst wq) | (go_at_call 57; refine (l11Sized_is V _ hsz _).mono ?_; rintro e wq ⟨rfl, hq⟩; subst wq) | (fail))
                  go_meet
                  case rel => exact ⟨congrArg Value.bool (by unfold badB; simp only [hn, hfu, f1, e11, hsz, e8, b0, k1, hz.out, d1] <;> rfl), rfl⟩
                · have d1 : (D != 0) = true := by simp [d0]
                  clear d0
                  go_wp2_with (first | (go_at_call 55; refine (specNameOk_any _ hN _).mono ?_; rintro e wq ⟨rfl, hq⟩; subst wq; rw [hn]) | (go_at_call 56; refine (l11Full_is V _ hfu _).mono ?_; rintro e wq ⟨rfl, hq⟩; subst wq) | (go_at_call 57; refine (l11Sized_is V _ hsz _).mono ?_; rintro e wq ⟨rfl, hq⟩; subst wq) | (fail))
                  go_meet
                  case rel => exact ⟨congrArg Value.bool (by unfold badB; simp only [hn, hfu, f1, e11, hsz, e8, b0, k1, hz.out, d1] <;> rfl), rfl⟩
              · have k1 : (C != 0) = true := by simp [k0]
                clear k0
                go_wp2_with (first | (go_at_call 55; refine (specNameOk_any _ hN _).mono ?_; rintro e wq ⟨rfl, hq⟩; subst wq; rw [hn]) | (go_at_call 56; refine (l11Full_is V _ hfu _).mono ?_; rintro e wq ⟨rfl, hq⟩; subst wq) | (go_at_call 57; refine (l11Sized_is V _ hsz _).mono ?_; rintro e wq ⟨rfl, hq⟩; subst wq) | (fail))
                go_meet
                case rel => exact ⟨congrArg Value.bool (by unfold badB; simp only [hn, hfu, f1, e11, hsz, e8, b0, k1] <;> rfl), rfl⟩
          · have e11 : (V != 11) = true := by simp [v11]
            clear v11
            by_cases u0 : U = 0
            · have u1 : (U != 0) = false := by simp [u0]
              clear u0
              cases hsz : sized V with
              | true =>
                obtain rfl : z = false := by rw [← hz.out]; exact st_of_sz hsz
                by_cases k0 : C = 0
                · have k1 : (C != 0) = false := by simp [k0]
                  clear k0
                  by_cases d0 : D = 0
                  · have d1 : (D != 0) = false := by simp [d0]
                    clear d0
                    go_wp2_with (first | (go_at_call 55; refine (specNameOk_any _ hN _).mono ?_; rintro e wq ⟨rfl, hq⟩; subst wq; rw [hn]) | (go_at_call 56; refine (l11Full_is V _ hfu _).mono ?_; rintro e wq ⟨rfl, hq⟩; subst wq) | (go_at_call 57; refine (l11Sized_is V _ hsz _).mono ?_; rintro e wq ⟨rfl, hq⟩; subst wq) | (fail))
                    go_meet
                    case rel => exact ⟨congrArg Value.bool (by unfold badB; simp only [hn, hfu, f1, e11, u1, hsz, e8, k1, hz.out, d1] <;> rfl), rfl⟩
                  · have d1 : (D != 0) = true := by simp [d0]
                    clear d0
                    go_wp2_with (first | (go_at_call 55; refine (specNameOk_any _ hN _).mono ?_; rintro e wq ⟨rfl, hq⟩; subst wq; rw [hn]) | (go_at_call 56; refine (l11Full_is V _ hfu _).mono ?_; rintro e wq ⟨rfl, hq⟩; subst wq) | (go_at_call 57; refine (l11Sized_is V _ hsz _).mono ?_; rintro e wq ⟨rfl, hq⟩; subst wq) | (fail))
                    go_meet
                    case rel => exact ⟨congrArg Value.bool (by unfold badB; simp only [hn, hfu, f1, e11, u1, hsz, e8, k1, hz.out, d1] <;> rfl), rfl⟩
                · have k1 : (C != 0) = true := by simp [k0]
                  clear k0
                  go_wp2_with (first | (go_at_call 55; refine (specNameOk_any _ hN _).mono ?_; rintro e wq ⟨rfl, hq⟩; subst wq; rw [hn]) | (go_at_call 56; refine (l11Full_is V _ hfu _).mono ?_; rintro e wq ⟨rfl, hq⟩; subst wq) | (go_at_call 57; refine (l11Sized_is V _ hsz _).mono ?_; rintro e wq ⟨rfl, hq⟩; subst wq) | (fail))
                  go_meet
                  case rel => exact ⟨congrArg Value.bool (by unfold badB; simp only [hn, hfu, f1, e11, u1, hsz, e8, k1] <;> rfl), rfl⟩
              | false =>
                cases b0 : B.toList.isEmpty with
                | false =>
                  go_wp2_with (first | (go_at_call 55; refine (specNameOk_any _ hN _).mono ?_; rintro e wq ⟨rfl, hq⟩; subst wq; rw [hn]) | (go_at_call 56; refine (l11Full_is V _ hfu _).mono ?_; rintro e wq ⟨rfl, hq⟩; subst wq) | (go_at_call 57; refine (l11Sized_is V _ hsz _).mono ?_; rintro e wq ⟨rfl, hq⟩; subst wq) | (fail))
                  go_meet
                  case rel => exact ⟨congrArg Value.bool (by unfold badB; simp only [hn, hfu, f1, e11, u1, hsz, e8, b0] <;> rfl), rfl⟩
                | true =>
                  by_cases k0 : C = 0
                  · have k1 : (C != 0) = false := by simp [k0]
                    clear k0
                    cases z with
                    | true =>
                      go_wp2_with (first | (go_at_call 55; refine (specNameOk_any _ hN _).mono ?_; rintro e wq ⟨rfl, hq⟩; subst wq; rw [hn]) | (go_at_call 56; refine (l11Full_is V _ hfu _).mono ?_; rintro e wq ⟨rfl, hq⟩; subst wq) | (go_at_call 57; refine (l11Sized_is V _ hsz _).mono ?_; rintro e wq ⟨rfl, hq⟩; subst wq) | (fail))
                      go_meet
                      case rel => exact ⟨congrArg Value.bool (by unfold badB; simp only [hn, hfu, f1, e11, u1, hsz, e8, b0, k1, hz.out] <;> rfl), rfl⟩
                    | false =>
                      by_cases d0 : D = 0
                      · have d1 : (D != 0) = false := by simp [d0]
                        clear d0
                        go_wp2_with (first | (go_at_call 55; refine (specNameOk_any _ hN _).mono ?_; rintro e wq ⟨rfl, hq⟩; subst wq; rw [hn]) | (go_at_call 56; refine (l11Full_is V _ hfu _).mono ?_; rintro e wq ⟨rfl, hq⟩; subst wq) | (go_at_call 57; refine (l11Sized_is V _ hsz _).mono ?_; rintro e wq ⟨rfl, hq⟩; subst wq) | (fail))
                        go_meet
                        case rel => exact ⟨congrArg Value.bool (by unfold badB; simp only [hn, hfu, f1, e11, u1, hsz, e8, b0, k1, hz.out, d1] <;> rfl), rfl⟩
                      · have d1 : (D != 0) = true := by simp [d0]
                        clear d0
                        go_wp2_with (first | (go_at_call 55; refine (specNameOk_any _ hN _).mono ?_; rintro e wq ⟨rfl, hq⟩; subst wq; rw [hn]) | (go_at_call 56; refine (l11Full_is V _ hfu _).mono ?_; rintro e wq ⟨rfl, hq⟩; subst wq) | (go_at_call 57; refine (l11Sized_is V _ hsz _).mono ?_; rintro e wq ⟨rfl, hq⟩; subst wq) | (fail))
                        go_meet
                        case rel => exact ⟨congrArg Value.bool (by unfold badB; simp only [hn, hfu, f1, e11, u1, hsz, e8, b0, k1, hz.out, d1] <;> rfl), rfl⟩
                  · have k1 : (C != 0) = true := by simp [k0]
                    clear k0
                    go_wp2_with (first | (go_at_call 55; refine (specNameOk_any _ hN _).mono ?_; rintro e wq ⟨rfl, hq⟩; subst wq; rw [hn]) | (go_at_call 56; refine (l11Full_is V _ hfu _).mono ?_; rintro e wq ⟨rfl, hq⟩; subst wq) | (go_at_call 57; refine (l11Sized_is V _ hsz _).mono ?_; rintro e wq ⟨rfl, hq⟩; subst wq) | (fail))
                    go_meet
                    case rel => exact ⟨congrArg Value.bool (by unfold badB; simp only [hn, hfu, f1, e11, u1, hsz, e8, b0, k1] <;> rfl), rfl⟩
            · have u1 : (U != 0) = true := by simp [u0]
              clear u0
              go_wp2_with (first | (go_at_call 55; refine (specNameOk_any _ hN _).mono ?_; rintro e wq ⟨rfl, hq⟩; subst wq; rw [hn]) | (go_at_call 56; refine (l11Full_is V _ hfu _).mono ?_; rintro e wq ⟨rfl, hq⟩; subst wq) | (go_at_call 57; refine (l11Sized_is V _ hsz _).mono ?_; rintro e wq ⟨rfl, hq⟩; subst wq) | (fail))
              go_meet
              case rel => exact ⟨congrArg Value.bool (by unfold badB; simp only [hn, hfu, f1, e11, u1] <;> rfl), rfl⟩
        · have f1 : (F != 0) = true := by simp [f0]
          clear f0
          go_wp2_with (first | (go_at_call 55; refine (specNameOk_any _ hN _).mono ?_; rintro e wq ⟨rfl, hq⟩; subst wq; rw [hn]) | (go_at_call 56; refine (l11Full_is V _ hfu _).mono ?_; rintro e wq ⟨rfl, hq⟩; subst wq) | (go_at_call 57; refine (l11Sized_is V _ hsz _).mono ?_; rintro e wq ⟨rfl, hq⟩; subst wq) | (fail))
          go_meet
          case rel => exact ⟨congrArg Value.bool (by unfold badB; simp only [hn, hfu, f1] <;> rfl), rfl⟩
  case rest =>
  obtain ⟨rfl, rfl⟩ := hcut
  replace hy := hy.out
  cases hbad : badB V N F U B C D with
  | true =>
    rw [hbad] at hy
    simp only [Bool.not_true, Bool.false_and] at hy
    subst hy
    go_wp2
    go_ret
    exact ⟨rfl, hB1⟩
  | false =>
    rw [hbad, Bool.not_false, Bool.true_and] at hy
    clear hbad
    go_upto_region 8 with (fail)
    obtain ⟨x4, h4⟩ := hid_ex (decide (1 ≤ C) && decide (C ≤ 1000000))
    obtain ⟨x2, h2⟩ := hid_ex (decide (0 ≤ F) && decide (F ≤ 65535))
    obtain ⟨x3, h3⟩ := hid_ex (decide (0 ≤ U) && decide (U ≤ 1000000))
    obtain ⟨x5, h5⟩ := hid_ex (decide (0 ≤ D) && decide (D ≤ 1000000))
    rw [h2.out, h3.out, h4.out, h5.out] at hy
    go_cut [102] from 94 to 102 (fun u wc => u = .bool ((V == 8) && !x4) ∧ w1 = wc)
    case first =>
      cases e8 : (V == 8) with
      | false =>
        go_wp2
        go_meet
        case rel => exact ⟨congrArg Value.bool (by rw [e8]; rfl), rfl⟩
      | true =>
        go_wp2_with (first | (go_at_call 54; refine (in_is C 1 1000000 _ h4.out _).mono ?_; rintro e wq ⟨rfl, hq⟩; subst wq) | (fail))
        go_meet
        case rel => exact ⟨congrArg Value.bool (by rw [e8]; rfl), rfl⟩
    case rest =>
    obtain ⟨rfl, rfl⟩ := hcut
    cases hx : ((V == 8) && !x4) with
    | true =>
      rw [hx] at hy
      simp only [Bool.not_true, Bool.false_and] at hy
      subst hy
      go_wp2
      go_ret
      exact ⟨rfl, hB1⟩
    | false =>
      rw [hx, Bool.not_false, Bool.true_and] at hy
      have m2 : Hid True := trivial
      have m3 : Hid True := trivial
      by_cases hb : (B.size : Int) ≤ 64
      · rw [decide_eq_true hb] at hy
        cases x2 <;> cases x3
        all_goals
          simp only [Bool.false_and, Bool.true_and, Bool.and_true, Bool.and_false] at hy
          subst hy
          go_wp2_with (first | (clear m2; go_at_call 54; refine (in_is F 0 65535 _ h2.out _).mono ?_; rintro e wq ⟨rfl, hq⟩; subst wq) | (clear m3; go_at_call 54; refine (in_is U 0 1000000 _ h3.out _).mono ?_; rintro e wq ⟨rfl, hq⟩; subst wq) | (go_at_call 54; refine (in_is D 0 1000000 _ h5.out _).mono ?_; rintro e wq ⟨rfl, hq⟩; subst wq) | (fail))
          go_ret
          exact ⟨rfl, hB1⟩
      · rw [decide_eq_false hb, Bool.and_false, Bool.false_and] at hy
        subst hy
        cases x2 <;> cases x3
        all_goals
          go_wp2_with (first | (clear m2; go_at_call 54; refine (in_is F 0 65535 _ h2.out _).mono ?_; rintro e wq ⟨rfl, hq⟩; subst wq) | (clear m3; go_at_call 54; refine (in_is U 0 1000000 _ h3.out _).mono ?_; rintro e wq ⟨rfl, hq⟩; subst wq) | (fail))
          go_ret
          exact ⟨rfl, hB1⟩
end Go.Proofs.YtjkkjpgebcnhgaaGreatDoor.cm
