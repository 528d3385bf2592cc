/- Contracts: right commands, the program's. -/
import Derived.Test.YtefmndjoailemaaDoorCu4
import Derived.Deep.DeepCutAuto
import Derived.Deep.RegionHeld3
import Derived.BigQuiet
namespace Go.Proofs.YtefmndjoailemaaDoor.cm
open Go.ChangeShapes Go.WideShapes Go.ChangeAt Go.RowKit
open Go.Deep Go.Joins
open Go.Proofs.YtefmndjoailemaaDoor.ce Go.Proofs.YtefmndjoailemaaDoor.ro Go.Proofs.YtefmndjoailemaaDoor.rg
set_option linter.unusedVariables false

/-- what fits a verb is a right command -/
theorem fit_ok {V : Int} (h0 : 1 ≤ V) (h1 : V ≤ 13) (N : ByteArray) (F U : Int) (B : ByteArray) (C D : Int) (Q : Bool) : ((if pN V then nameB N else N.toList.isEmpty) && (if full V then (decide (0 ≤ F) && decide (F ≤ 65535)) else (F == 0)) && (if pU V then (decide (0 ≤ U) && decide (U ≤ 1000000)) else (U == 0)) && (if sized V then decide ((B.size : Int) ≤ 64) else B.toList.isEmpty) && (if pC V then (decide (1 ≤ C) && decide (C ≤ 1000000)) else (C == 0)) && (if stepV V then (decide (0 ≤ D) && decide (D ≤ 1000000)) else (D == 0)) && (pQ V || !Q)) = cmdB ⟨V, N, F, U, B, C, D, Q⟩ := by
  rw [Bool.eq_iff_iff, cmdB_iff, emp_iff, emp_iff]
  have z1 : (0 : Int) ≤ 0 ∧ (0 : Int) ≤ 65535 := by decide
  have z2 : (0 : Int) ≤ 0 ∧ (0 : Int) ≤ 1000000 := by decide
  have z3 : emp.size ≤ 64 := by decide
  constructor
  · intro h
    simp only [Bool.and_eq_true] at h
    obtain ⟨⟨⟨⟨⟨⟨a1, a2⟩, a3⟩, a4⟩, a5⟩, a6⟩, a7⟩ := h
    rcases verb_cases h0 h1 with rfl | rfl | rfl | rfl | rfl | rfl | rfl | rfl | rfl | rfl | rfl | rfl | rfl
    all_goals
      simp [pN, pU, pC, pQ, full, sized, stepV] at a1 a2 a3 a4 a5 a6 a7
      constructor <;> simp_all [full, sized, stepV] <;> omega
  · intro ok
    have b1 := ok.q
    have b2 := ok.n0
    have b3 := ok.nm
    have b4 := ok.f
    have b5 := ok.u
    have b6 := ok.b
    have b7 := ok.c8
    have b8 := ok.d
    have b9 := ok.c1
    have b10 := ok.f1
    have b11 := ok.u1
    have b12 := ok.b1
    have b13 := ok.d1
    clear ok
    dsimp only at *
    rcases verb_cases h0 h1 with rfl | rfl | rfl | rfl | rfl | rfl | rfl | rfl | rfl | rfl | rfl | rfl | rfl
    all_goals
      simp [full, sized, stepV] at b1 b2 b3 b4 b5 b6 b7 b8 b9
      simp [pN, pU, pC, pQ, full, sized, stepV, *] <;> omega
set_option maxRecDepth 100000 in
set_option maxHeartbeats 1000000 in
theorem implCmdOk_any (V : Int) (N B : ByteArray) (F U C D : Int) (Q : Bool) (y : Bool) (hy : Hid (cmdB ⟨V, N, F, U, B, C, D, Q⟩ = y)) (hN : N.size ≤ 9223372036854775807) (hB : B.size ≤ 9223372036854775807) (w : World) :
    Calls Tryd.prog 73 #[.agg #[.int .i64 V, .string N, .int .i64 F, .int .i64 U, .string B, .int .i64 C, .int .i64 D, .bool Q]] w fun e w' => e = .returned (.bool y) ∧ Below w.heap.size w w' := by
  by_cases h : 1 ≤ V ∧ V ≤ 13
  · have hvv : Hid ((decide (1 ≤ V) && decide (V ≤ 13)) = true) := by unfold Hid; simp; omega
    have hyy := (fit_ok h.1 h.2 N F U B C D Q).trans hy.out
    have HY : Hid (y = _) := hyy.symm
    have HV : Hid (1 ≤ V ∧ V ≤ 13) := h
    clear hy hyy h
    go_enter Tryd.func73, Tryd.ntmps73
    go_upto_region 1 with (first | (refine wpList_box_v rfl 43 _ rfl [.int .i64 V, .string N, .int .i64 F, .int .i64 U, .string B, .int .i64 C, .int .i64 D, .bool Q] rfl ?_; intro b1 w1 hb1 hw1 hB1 V1; obtain ⟨c0, c1, c2, c3, c4, c5, c6, c7⟩ := cellsCm V1) | (fail))
    have S1 : w1.drew.cell? ⟨b1, 0, none⟩ = some (.int .i64 V) ∧ w1.drew.cell? ⟨b1, 1, none⟩ = some (.string N) ∧ w1.drew.cell? ⟨b1, 2, none⟩ = some (.int .i64 F) ∧ w1.drew.cell? ⟨b1, 3, none⟩ = some (.int .i64 U) ∧ w1.drew.cell? ⟨b1, 4, none⟩ = some (.string B) ∧ w1.drew.cell? ⟨b1, 5, none⟩ = some (.int .i64 C) ∧ w1.drew.cell? ⟨b1, 6, none⟩ = some (.int .i64 D) ∧ w1.drew.cell? ⟨b1, 7, none⟩ = some (.bool Q) := ⟨c0, c1, c2, c3, c4, c5, c6, c7⟩
    have hz1 := hB1.size
    go_region_held3 (fun w' => w'.cell? ⟨b1, 0, none⟩ = some (.int .i64 V) ∧ w'.cell? ⟨b1, 1, none⟩ = some (.string N) ∧ w'.cell? ⟨b1, 2, none⟩ = some (.int .i64 F) ∧ w'.cell? ⟨b1, 3, none⟩ = some (.int .i64 U) ∧ w'.cell? ⟨b1, 4, none⟩ = some (.string B) ∧ w'.cell? ⟨b1, 5, none⟩ = some (.int .i64 C) ∧ w'.cell? ⟨b1, 6, none⟩ = some (.int .i64 D) ∧ w'.cell? ⟨b1, 7, none⟩ = some (.bool Q)) (first | with_reducible assumption | with_reducible exact S1 | (fail)) (first | (go_at_call 34; refine (within_is V 1 13 true hvv.out _).mono ?_; rintro e wq ⟨rfl, hq⟩; subst wq) | (go_at_call 59; refine (partsOf_any V HV.out.1 HV.out.2 _).mono ?_; rintro e w2 ⟨rfl, hB2⟩; have V2 := vblk_grow V1.drew hB2; have hz2 : w1.heap.size ≤ w2.heap.size := hB2.size; have S2 : w2.cell? ⟨b1, 0, none⟩ = some (.int .i64 V) ∧ w2.cell? ⟨b1, 1, none⟩ = some (.string N) ∧ w2.cell? ⟨b1, 2, none⟩ = some (.int .i64 F) ∧ w2.cell? ⟨b1, 3, none⟩ = some (.int .i64 U) ∧ w2.cell? ⟨b1, 4, none⟩ = some (.string B) ∧ w2.cell? ⟨b1, 5, none⟩ = some (.int .i64 C) ∧ w2.cell? ⟨b1, 6, none⟩ = some (.int .i64 D) ∧ w2.cell? ⟨b1, 7, none⟩ = some (.bool Q) := cellsCm V2; dsimp only [ptv]) | (go_at_call 85; refine (fit_any (pN V) (full V) (pU V) (sized V) (pC V) (stepV V) (pQ V) V N B F U C D Q hN _ y HY.out).mono ?_; rintro e w3 ⟨rfl, hB3⟩; have S3 : w3.cell? ⟨b1, 0, none⟩ = some (.int .i64 V) ∧ w3.cell? ⟨b1, 1, none⟩ = some (.string N) ∧ w3.cell? ⟨b1, 2, none⟩ = some (.int .i64 F) ∧ w3.cell? ⟨b1, 3, none⟩ = some (.int .i64 U) ∧ w3.cell? ⟨b1, 4, none⟩ = some (.string B) ∧ w3.cell? ⟨b1, 5, none⟩ = some (.int .i64 C) ∧ w3.cell? ⟨b1, 6, none⟩ = some (.int .i64 D) ∧ w3.cell? ⟨b1, 7, none⟩ = some (.bool Q) := cellsCm (vblk_grow V2 hB3)) | (fail))
    go_wp2
    go_ret
    exact ⟨rfl, (hB1.drew.trans (hB2.mono hz1)).trans (hB3.mono (by omega))⟩
  · have hvv : Hid ((decide (1 ≤ V) && decide (V ≤ 13)) = false) := by unfold Hid; simp; omega
    have ey : y = false := by rw [← hy.out]; exact cmdB_out (.inl h)
    subst ey
    clear h hy
    go_enter Tryd.func73, Tryd.ntmps73
    go_upto_region 1 with (first | (refine wpList_box_v rfl 43 _ rfl [.int .i64 V, .string N, .int .i64 F, .int .i64 U, .string B, .int .i64 C, .int .i64 D, .bool Q] rfl ?_; intro b1 w1 hb1 hw1 hB1 V1; obtain ⟨c0, c1, c2, c3, c4, c5, c6, c7⟩ := cellsCm V1) | (fail))
    go_big_quiet (first | (go_at_call 34; with_reducible exact Calls.quiet_of_same (within_is V 1 13 false hvv.out _)) | (fail))
    go_wp2
    go_ret
    exact ⟨rfl, bdN hB1 _⟩
end Go.Proofs.YtefmndjoailemaaDoor.cm
