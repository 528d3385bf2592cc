/- Texts laid together: Cu4 Cu5. -/
import Derived.Test.YtaabmkhckbndgaaGreatDoorCu3
import Derived.Test.YtaabmkhckbndgaaGreatDoorMg06
import Derived.Deep.DeepCutAuto
import Derived.Deep.RegionHeld3
import Derived.BigQuiet
/- Contracts: right commands, the program's: what is told of a verb, what fits it. -/
namespace Go.Proofs.YtaabmkhckbndgaaGreatDoor.cm
open Go.ChangeShapes Go.WideShapes Go.ChangeAt Go.RowKit
open Go.Deep Go.Joins
open Go.Proofs.YtaabmkhckbndgaaGreatDoor.ce Go.Proofs.YtaabmkhckbndgaaGreatDoor.ro Go.Proofs.YtaabmkhckbndgaaGreatDoor.rg
set_option linter.unusedVariables false

theorem within_is (x lo hi : Int) (y : Bool) (h : (decide (lo ≤ x) && decide (x ≤ hi)) = y) (w : World) : Calls Tryz.prog 63 #[.int .i64 x, .int .i64 lo, .int .i64 hi] w fun e w' => e = .returned (.bool y) ∧ w' = w := by
  by_cases h1 : lo ≤ x
  · by_cases h3 : x ≤ hi
    · rw [decide_eq_true h1, decide_eq_true h3] at h
      subst h
      go_enter Tryz.func63, Tryz.ntmps63
      go_wp2
      go_ret
      exact ⟨rfl, rfl⟩
    · rw [decide_eq_true h1, decide_eq_false h3] at h
      subst h
      go_enter Tryz.func63, Tryz.ntmps63
      go_wp2
      go_ret
      exact ⟨rfl, rfl⟩
  · rw [decide_eq_false h1] at h
    subst h
    go_enter Tryz.func63, Tryz.ntmps63
    go_wp2
    go_ret
    exact ⟨rfl, rfl⟩
theorem sizePt : (Tryz.prog.info? 81).map (·.size) = some 7 := by kernel_rfl
theorem cells7 {w : World} {b : Nat} {t : TypeId} {v0 v1 v2 v3 v4 v5 v6 : Value} (h : VBlk w b t [v0, v1, v2, v3, v4, v5, v6]) : w.cell? ⟨b, 0, none⟩ = some v0 ∧ w.cell? ⟨b, 1, none⟩ = some v1 ∧ w.cell? ⟨b, 2, none⟩ = some v2 ∧ w.cell? ⟨b, 3, none⟩ = some v3 ∧ w.cell? ⟨b, 4, none⟩ = some v4 ∧ w.cell? ⟨b, 5, none⟩ = some v5 ∧ w.cell? ⟨b, 6, none⟩ = some v6 :=
  ⟨h.cell 0 (by simp), h.cell 1 (by simp), h.cell 2 (by simp), h.cell 3 (by simp), h.cell 4 (by simp), h.cell 5 (by simp), h.cell 6 (by simp)⟩
theorem bdN {B : Nat} {a w : World} (h : Below B a w) (n : Nat) : Below B a (w.drewN n) := h.trans ⟨rfl, rfl, rfl, Nat.le_refl _, fun _ _ => rfl⟩
theorem vblk_new (w : World) (cs : Array Value) (t : TypeId) : VBlk (w.alloc (.cells cs t)) w.heap.size t cs.toList := by simpa [VBlk] using heap_alloc_new w (.cells cs t)
theorem vblk_two (w : World) (cs ds : Array Value) (t t' : TypeId) : VBlk ((w.alloc (.cells cs t)).alloc (.cells ds t')) w.heap.size t cs.toList := (vblk_new w cs t).of (Below.heap_alloc _ _ _ (vblk_new w cs t).lt)
theorem partOk_is (t r z y : Bool) (h : (if t then r else z) = y) (w : World) : Calls Tryz.prog 122 #[.bool t, .bool r, .bool z] w fun e w' => e = .returned (.bool y) ∧ w' = w := by
  subst h
  cases t
  all_goals
    go_enter Tryz.func122, Tryz.ntmps122
    go_wp2
    go_ret
    exact ⟨rfl, rfl⟩
/-- the cells of what is told of a verb -/
def ptv (v : Int) : List Value := [.bool (pN v), .bool (full v), .bool (pU v), .bool (sized v), .bool (pC v), .bool (stepV v), .bool (pQ v)]
set_option maxRecDepth 100000 in
set_option maxHeartbeats 1000000 in
theorem partsOf_any (v : Int) (h0 : 1 ≤ v) (h1 : v ≤ 13) (w : World) : Calls Tryz.prog 55 #[.int .i64 v] w fun e w' => e = .returned (.agg (ptv v).toArray) ∧ Below w.heap.size w w' := by
  rcases verb_cases h0 h1 with rfl | rfl | rfl | rfl | rfl | rfl | rfl | rfl | rfl | rfl | rfl | rfl | rfl
  all_goals
    clear h0 h1
    go_enter Tryz.func55, Tryz.ntmps55
    go_wp2
    exact row_retv rfl rfl (vblk_two w _ _ _ _) Tryz.underlying81 sizePt rfl ⟨rfl, ((Below.refl _ w).alloc (Nat.le_refl _) _).alloc (by simp) _⟩

theorem implNameOk_is (s : ByteArray) (y : Bool) (h : nameB s = y) (hs : s.size ≤ 9223372036854775807) (w : World) : Calls Tryz.prog 123 #[.string s] w fun e w' => e = .returned (.bool y) ∧ w' = w := by
  subst h
  exact implNameOk_any s hs w
set_option maxRecDepth 100000 in
set_option maxHeartbeats 1000000 in
theorem fit_any (p0 p1 p2 p3 p4 p5 p6 : Bool) (V : Int) (N B : ByteArray) (F U C D : Int) (Q : Bool) (hN : N.size ≤ 9223372036854775807) (w : World) (y : Bool) (hy : Hid (y = ((if p0 then nameB N else N.toList.isEmpty) && (if p1 then (decide (0 ≤ F) && decide (F ≤ 65535)) else (F == 0)) && (if p2 then (decide (0 ≤ U) && decide (U ≤ 1000000)) else (U == 0)) && (if p3 then decide ((B.size : Int) ≤ 64) else B.toList.isEmpty) && (if p4 then (decide (1 ≤ C) && decide (C ≤ 1000000)) else (C == 0)) && (if p5 then (decide (0 ≤ D) && decide (D ≤ 1000000)) else (D == 0)) && (p6 || !Q)))) :
    Calls Tryz.prog 71 #[.agg #[.bool p0, .bool p1, .bool p2, .bool p3, .bool p4, .bool p5, .bool p6], .agg #[.int .i64 V, .string N, .int .i64 F, .int .i64 U, .string B, .int .i64 C, .int .i64 D, .bool Q]] w fun e w' => e = .returned (.bool y) ∧ Below w.heap.size w w' := by
  obtain ⟨x1, h1⟩ := hid_ex (nameB N)
  obtain ⟨x2, h2⟩ := hid_ex (decide (0 ≤ F) && decide (F ≤ 65535))
  obtain ⟨x3, h3⟩ := hid_ex (decide (0 ≤ U) && decide (U ≤ 1000000))
  obtain ⟨x4, h4⟩ := hid_ex (decide ((B.size : Int) ≤ 64))
  obtain ⟨x5, h5⟩ := hid_ex (decide (1 ≤ C) && decide (C ≤ 1000000))
  obtain ⟨x6, h6⟩ := hid_ex (decide (0 ≤ D) && decide (D ≤ 1000000))
  replace hy := hy.out
  rw [h1.out, h2.out, h3.out, h4.out, h5.out, h6.out] at hy
  have k1 := h4.out
  go_enter Tryz.func71, Tryz.ntmps71
  go_upto_region 1 with (first | (refine wpList_box_v rfl 25 _ rfl [.int .i64 V, .string N, .int .i64 F, .int .i64 U, .string B, .int .i64 C, .int .i64 D, .bool Q] rfl ?_; intro b1 w1 hb1 hw1 hB1 V1; obtain ⟨c0, c1, c2, c3, c4, c5, c6, c7⟩ := cellsCm V1; obtain ⟨d0, d1, d2, d3, d4, d5, d6⟩ := cells7 (vblk_grow (vblk_new w #[.bool p0, .bool p1, .bool p2, .bool p3, .bool p4, .bool p5, .bool p6] 81) hB1)) | (fail))
  have HB : ∀ n, Below w.heap.size w (w1.drewN n) := fun n => ((Below.refl _ w).alloc (Nat.le_refl _) _).trans ((bdN hB1 n).mono (show w.heap.size ≤ _ by simp))
  cases g1 : (if p0 then x1 else N.toList.isEmpty) with
  | false =>
    rw [g1] at hy
    simp only [Bool.false_and] at hy
    subst hy
    refine wp_region_quiet_lit (by kernel_rfl) (by kernel_rfl) ?_
    simp only [List.append]
    repeat (go_big_quiet_step (first | (go_at_call 123; with_reducible exact Calls.quiet_of_same (implNameOk_is N x1 h1.out hN _)) | (go_at_call 122; with_reducible exact Calls.quiet_of_same (partOk_is p0 x1 _ false g1 _)) | (fail)))
    refine wpQuiet_nil ?_
    intro _ hw9
    obtain ⟨nq, hw8⟩ := hw9
    subst hw8
    go_wp2
    go_ret
    exact ⟨rfl, HB nq⟩
  | true =>
    cases g2 : (if p1 then x2 else (F == 0)) with
    | false =>
      rw [g1, g2] at hy
      simp only [Bool.true_and, Bool.false_and] at hy
      subst hy
      refine wp_region_quiet_lit (by kernel_rfl) (by kernel_rfl) ?_
      simp only [List.append]
      repeat (go_big_quiet_step (first | (go_at_call 123; with_reducible exact Calls.quiet_of_same (implNameOk_is N x1 h1.out hN _)) | (go_at_call 122; with_reducible exact Calls.quiet_of_same (partOk_is p0 x1 _ true g1 _)) | (go_at_call 122; with_reducible exact Calls.quiet_of_same (partOk_is p1 x2 _ false g2 _)) | (go_at_call 63; with_reducible exact Calls.quiet_of_same (within_is F 0 65535 x2 h2.out _)) | (fail)))
      refine wpQuiet_nil ?_
      intro _ hw9
      obtain ⟨nq, hw8⟩ := hw9
      subst hw8
      go_wp2
      go_ret
      exact ⟨rfl, HB nq⟩
    | true =>
      cases g3 : (if p2 then x3 else (U == 0)) with
      | false =>
        rw [g1, g2, g3] at hy
        simp only [Bool.true_and, Bool.false_and] at hy
        subst hy
        refine wp_region_quiet_lit (by kernel_rfl) (by kernel_rfl) ?_
        simp only [List.append]
        repeat (go_big_quiet_step (first | (go_at_call 123; with_reducible exact Calls.quiet_of_same (implNameOk_is N x1 h1.out hN _)) | (go_at_call 122; with_reducible exact Calls.quiet_of_same (partOk_is p0 x1 _ true g1 _)) | (go_at_call 122; with_reducible exact Calls.quiet_of_same (partOk_is p1 x2 _ true g2 _)) | (go_at_call 122; with_reducible exact Calls.quiet_of_same (partOk_is p2 x3 _ false g3 _)) | (go_at_call 63; with_reducible exact Calls.quiet_of_same (within_is F 0 65535 x2 h2.out _)) | (go_at_call 63; with_reducible exact Calls.quiet_of_same (within_is U 0 1000000 x3 h3.out _)) | (fail)))
        refine wpQuiet_nil ?_
        intro _ hw9
        obtain ⟨nq, hw8⟩ := hw9
        subst hw8
        go_wp2
        go_ret
        exact ⟨rfl, HB nq⟩
      | true =>
        cases g4 : (if p3 then x4 else B.toList.isEmpty) with
        | false =>
          rw [g1, g2, g3, g4] at hy
          simp only [Bool.true_and, Bool.false_and] at hy
          subst hy
          refine wp_region_quiet_lit (by kernel_rfl) (by kernel_rfl) ?_
          simp only [List.append]
          repeat (go_big_quiet_step (first | (go_at_call 123; with_reducible exact Calls.quiet_of_same (implNameOk_is N x1 h1.out hN _)) | (go_at_call 122; with_reducible exact Calls.quiet_of_same (partOk_is p0 x1 _ true g1 _)) | (go_at_call 122; with_reducible exact Calls.quiet_of_same (partOk_is p1 x2 _ true g2 _)) | (go_at_call 122; with_reducible exact Calls.quiet_of_same (partOk_is p2 x3 _ true g3 _)) | (go_at_call 122; with_reducible exact Calls.quiet_of_same (partOk_is p3 x4 _ false g4 _)) | (go_at_call 63; with_reducible exact Calls.quiet_of_same (within_is F 0 65535 x2 h2.out _)) | (go_at_call 63; with_reducible exact Calls.quiet_of_same (within_is U 0 1000000 x3 h3.out _)) | (fail)))
          refine wpQuiet_nil ?_
          intro _ hw9
          obtain ⟨nq, hw8⟩ := hw9
          subst hw8
          go_wp2
          go_ret
          exact ⟨rfl, HB nq⟩
        | true =>
          cases g5 : (if p4 then x5 else (C == 0)) with
          | false =>
            rw [g1, g2, g3, g4, g5] at hy
            simp only [Bool.true_and, Bool.false_and] at hy
            subst hy
            refine wp_region_quiet_lit (by kernel_rfl) (by kernel_rfl) ?_
            simp only [List.append]
            repeat (go_big_quiet_step (first | (go_at_call 123; with_reducible exact Calls.quiet_of_same (implNameOk_is N x1 h1.out hN _)) | (go_at_call 122; with_reducible exact Calls.quiet_of_same (partOk_is p0 x1 _ true g1 _)) | (go_at_call 122; with_reducible exact Calls.quiet_of_same (partOk_is p1 x2 _ true g2 _)) | (go_at_call 122; with_reducible exact Calls.quiet_of_same (partOk_is p2 x3 _ true g3 _)) | (go_at_call 122; with_reducible exact Calls.quiet_of_same (partOk_is p3 x4 _ true g4 _)) | (go_at_call 122; with_reducible exact Calls.quiet_of_same (partOk_is p4 x5 _ false g5 _)) | (go_at_call 63; with_reducible exact Calls.quiet_of_same (within_is F 0 65535 x2 h2.out _)) | (go_at_call 63; with_reducible exact Calls.quiet_of_same (within_is U 0 1000000 x3 h3.out _)) | (go_at_call 63; with_reducible exact Calls.quiet_of_same (within_is C 1 1000000 x5 h5.out _)) | (fail)))
            refine wpQuiet_nil ?_
            intro _ hw9
            obtain ⟨nq, hw8⟩ := hw9
            subst hw8
            go_wp2
            go_ret
            exact ⟨rfl, HB nq⟩
          | true =>
            cases g6 : (if p5 then x6 else (D == 0)) with
            | false =>
              rw [g1, g2, g3, g4, g5, g6] at hy
              simp only [Bool.true_and, Bool.false_and] at hy
              subst hy
              refine wp_region_quiet_lit (by kernel_rfl) (by kernel_rfl) ?_
              simp only [List.append]
              repeat (go_big_quiet_step (first | (go_at_call 123; with_reducible exact Calls.quiet_of_same (implNameOk_is N x1 h1.out hN _)) | (go_at_call 122; with_reducible exact Calls.quiet_of_same (partOk_is p0 x1 _ true g1 _)) | (go_at_call 122; with_reducible exact Calls.quiet_of_same (partOk_is p1 x2 _ true g2 _)) | (go_at_call 122; with_reducible exact Calls.quiet_of_same (partOk_is p2 x3 _ true g3 _)) | (go_at_call 122; with_reducible exact Calls.quiet_of_same (partOk_is p3 x4 _ true g4 _)) | (go_at_call 122; with_reducible exact Calls.quiet_of_same (partOk_is p4 x5 _ true g5 _)) | (go_at_call 122; with_reducible exact Calls.quiet_of_same (partOk_is p5 x6 _ false g6 _)) | (go_at_call 63; with_reducible exact Calls.quiet_of_same (within_is F 0 65535 x2 h2.out _)) | (go_at_call 63; with_reducible exact Calls.quiet_of_same (within_is U 0 1000000 x3 h3.out _)) | (go_at_call 63; with_reducible exact Calls.quiet_of_same (within_is C 1 1000000 x5 h5.out _)) | (go_at_call 63; with_reducible exact Calls.quiet_of_same (within_is D 0 1000000 x6 h6.out _)) | (fail)))
              refine wpQuiet_nil ?_
              intro _ hw9
              obtain ⟨nq, hw8⟩ := hw9
              subst hw8
              go_wp2
              go_ret
              exact ⟨rfl, HB nq⟩
            | true =>
              rw [g1, g2, g3, g4, g5, g6] at hy
              cases p6
              all_goals
                simp only [Bool.true_and, Bool.false_or, Bool.true_or] at hy
                subst hy
                refine wp_region_quiet_lit (by kernel_rfl) (by kernel_rfl) ?_
                simp only [List.append]
                repeat (go_big_quiet_step (first | (go_at_call 123; with_reducible exact Calls.quiet_of_same (implNameOk_is N x1 h1.out hN _)) | (go_at_call 122; with_reducible exact Calls.quiet_of_same (partOk_is p0 x1 _ true g1 _)) | (go_at_call 122; with_reducible exact Calls.quiet_of_same (partOk_is p1 x2 _ true g2 _)) | (go_at_call 122; with_reducible exact Calls.quiet_of_same (partOk_is p2 x3 _ true g3 _)) | (go_at_call 122; with_reducible exact Calls.quiet_of_same (partOk_is p3 x4 _ true g4 _)) | (go_at_call 122; with_reducible exact Calls.quiet_of_same (partOk_is p4 x5 _ true g5 _)) | (go_at_call 122; with_reducible exact Calls.quiet_of_same (partOk_is p5 x6 _ true g6 _)) | (go_at_call 63; with_reducible exact Calls.quiet_of_same (within_is F 0 65535 x2 h2.out _)) | (go_at_call 63; with_reducible exact Calls.quiet_of_same (within_is U 0 1000000 x3 h3.out _)) | (go_at_call 63; with_reducible exact Calls.quiet_of_same (within_is C 1 1000000 x5 h5.out _)) | (go_at_call 63; with_reducible exact Calls.quiet_of_same (within_is D 0 1000000 x6 h6.out _)) | (fail)))
                refine wpQuiet_nil ?_
                intro _ hw9
                obtain ⟨nq, hw8⟩ := hw9
                subst hw8
                go_wp2
                go_ret
                exact ⟨rfl, HB nq⟩
end Go.Proofs.YtaabmkhckbndgaaGreatDoor.cm
/- Contracts: right commands, the program's. -/
namespace Go.Proofs.YtaabmkhckbndgaaGreatDoor.cm
open Go.ChangeShapes Go.WideShapes Go.ChangeAt Go.RowKit
open Go.Deep Go.Joins
open Go.Proofs.YtaabmkhckbndgaaGreatDoor.ce Go.Proofs.YtaabmkhckbndgaaGreatDoor.ro Go.Proofs.YtaabmkhckbndgaaGreatDoor.rg
set_option linter.unusedVariables false

/-- what fits a verb is a right command -/
theorem fit_ok {V : Int} (h0 : 1 ≤ V) (h1 : V ≤ 13) (N : ByteArray) (F U : Int) (B : ByteArray) (C D : Int) (Q : Bool) : ((if pN V then nameB N else N.toList.isEmpty) && (if full V then (decide (0 ≤ F) && decide (F ≤ 65535)) else (F == 0)) && (if pU V then (decide (0 ≤ U) && decide (U ≤ 1000000)) else (U == 0)) && (if sized V then decide ((B.size : Int) ≤ 64) else B.toList.isEmpty) && (if pC V then (decide (1 ≤ C) && decide (C ≤ 1000000)) else (C == 0)) && (if stepV V then (decide (0 ≤ D) && decide (D ≤ 1000000)) else (D == 0)) && (pQ V || !Q)) = cmdB ⟨V, N, F, U, B, C, D, Q⟩ := by
  rw [Bool.eq_iff_iff, cmdB_iff, emp_iff, emp_iff]
  have z1 : (0 : Int) ≤ 0 ∧ (0 : Int) ≤ 65535 := by decide
  have z2 : (0 : Int) ≤ 0 ∧ (0 : Int) ≤ 1000000 := by decide
  have z3 : emp.size ≤ 64 := by decide
  constructor
  · intro h
    simp only [Bool.and_eq_true] at h
    obtain ⟨⟨⟨⟨⟨⟨a1, a2⟩, a3⟩, a4⟩, a5⟩, a6⟩, a7⟩ := h
    rcases verb_cases h0 h1 with rfl | rfl | rfl | rfl | rfl | rfl | rfl | rfl | rfl | rfl | rfl | rfl | rfl
    all_goals
      simp [pN, pU, pC, pQ, full, sized, stepV] at a1 a2 a3 a4 a5 a6 a7
      constructor <;> simp_all [full, sized, stepV] <;> omega
  · intro ok
    have b1 := ok.q
    have b2 := ok.n0
    have b3 := ok.nm
    have b4 := ok.f
    have b5 := ok.u
    have b6 := ok.b
    have b7 := ok.c8
    have b8 := ok.d
    have b9 := ok.c1
    have b10 := ok.f1
    have b11 := ok.u1
    have b12 := ok.b1
    have b13 := ok.d1
    clear ok
    dsimp only at *
    rcases verb_cases h0 h1 with rfl | rfl | rfl | rfl | rfl | rfl | rfl | rfl | rfl | rfl | rfl | rfl | rfl
    all_goals
      simp [full, sized, stepV] at b1 b2 b3 b4 b5 b6 b7 b8 b9
      simp [pN, pU, pC, pQ, full, sized, stepV, *] <;> omega
set_option maxRecDepth 100000 in
set_option maxHeartbeats 1000000 in
theorem implCmdOk_any (V : Int) (N B : ByteArray) (F U C D : Int) (Q : Bool) (y : Bool) (hy : Hid (cmdB ⟨V, N, F, U, B, C, D, Q⟩ = y)) (hN : N.size ≤ 9223372036854775807) (hB : B.size ≤ 9223372036854775807) (w : World) :
    Calls Tryz.prog 16 #[.agg #[.int .i64 V, .string N, .int .i64 F, .int .i64 U, .string B, .int .i64 C, .int .i64 D, .bool Q]] w fun e w' => e = .returned (.bool y) ∧ Below w.heap.size w w' := by
  by_cases h : 1 ≤ V ∧ V ≤ 13
  · have hvv : Hid ((decide (1 ≤ V) && decide (V ≤ 13)) = true) := by unfold Hid; simp; omega
    have hyy := (fit_ok h.1 h.2 N F U B C D Q).trans hy.out
    have HY : Hid (y = _) := hyy.symm
    have HV : Hid (1 ≤ V ∧ V ≤ 13) := h
    clear hy hyy h
    go_enter Tryz.func16, Tryz.ntmps16
    go_upto_region 1 with (first | (refine wpList_box_v rfl 25 _ rfl [.int .i64 V, .string N, .int .i64 F, .int .i64 U, .string B, .int .i64 C, .int .i64 D, .bool Q] rfl ?_; intro b1 w1 hb1 hw1 hB1 V1; obtain ⟨c0, c1, c2, c3, c4, c5, c6, c7⟩ := cellsCm V1) | (fail))
    have S1 : w1.drew.cell? ⟨b1, 0, none⟩ = some (.int .i64 V) ∧ w1.drew.cell? ⟨b1, 1, none⟩ = some (.string N) ∧ w1.drew.cell? ⟨b1, 2, none⟩ = some (.int .i64 F) ∧ w1.drew.cell? ⟨b1, 3, none⟩ = some (.int .i64 U) ∧ w1.drew.cell? ⟨b1, 4, none⟩ = some (.string B) ∧ w1.drew.cell? ⟨b1, 5, none⟩ = some (.int .i64 C) ∧ w1.drew.cell? ⟨b1, 6, none⟩ = some (.int .i64 D) ∧ w1.drew.cell? ⟨b1, 7, none⟩ = some (.bool Q) := ⟨c0, c1, c2, c3, c4, c5, c6, c7⟩
    have hz1 := hB1.size
    go_region_held3 (fun w' => w'.cell? ⟨b1, 0, none⟩ = some (.int .i64 V) ∧ w'.cell? ⟨b1, 1, none⟩ = some (.string N) ∧ w'.cell? ⟨b1, 2, none⟩ = some (.int .i64 F) ∧ w'.cell? ⟨b1, 3, none⟩ = some (.int .i64 U) ∧ w'.cell? ⟨b1, 4, none⟩ = some (.string B) ∧ w'.cell? ⟨b1, 5, none⟩ = some (.int .i64 C) ∧ w'.cell? ⟨b1, 6, none⟩ = some (.int .i64 D) ∧ w'.cell? ⟨b1, 7, none⟩ = some (.bool Q)) (first | with_reducible assumption | with_reducible exact S1 | (fail)) (first | (go_at_call 63; refine (within_is V 1 13 true hvv.out _).mono ?_; rintro e wq ⟨rfl, hq⟩; subst wq) | (go_at_call 55; refine (partsOf_any V HV.out.1 HV.out.2 _).mono ?_; rintro e w2 ⟨rfl, hB2⟩; have V2 := vblk_grow V1.drew hB2; have hz2 : w1.heap.size ≤ w2.heap.size := hB2.size; have S2 : w2.cell? ⟨b1, 0, none⟩ = some (.int .i64 V) ∧ w2.cell? ⟨b1, 1, none⟩ = some (.string N) ∧ w2.cell? ⟨b1, 2, none⟩ = some (.int .i64 F) ∧ w2.cell? ⟨b1, 3, none⟩ = some (.int .i64 U) ∧ w2.cell? ⟨b1, 4, none⟩ = some (.string B) ∧ w2.cell? ⟨b1, 5, none⟩ = some (.int .i64 C) ∧ w2.cell? ⟨b1, 6, none⟩ = some (.int .i64 D) ∧ w2.cell? ⟨b1, 7, none⟩ = some (.bool Q) := cellsCm V2; dsimp only [ptv]) | (go_at_call 71; refine (fit_any (pN V) (full V) (pU V) (sized V) (pC V) (stepV V) (pQ V) V N B F U C D Q hN _ y HY.out).mono ?_; rintro e w3 ⟨rfl, hB3⟩; have S3 : w3.cell? ⟨b1, 0, none⟩ = some (.int .i64 V) ∧ w3.cell? ⟨b1, 1, none⟩ = some (.string N) ∧ w3.cell? ⟨b1, 2, none⟩ = some (.int .i64 F) ∧ w3.cell? ⟨b1, 3, none⟩ = some (.int .i64 U) ∧ w3.cell? ⟨b1, 4, none⟩ = some (.string B) ∧ w3.cell? ⟨b1, 5, none⟩ = some (.int .i64 C) ∧ w3.cell? ⟨b1, 6, none⟩ = some (.int .i64 D) ∧ w3.cell? ⟨b1, 7, none⟩ = some (.bool Q) := cellsCm (vblk_grow V2 hB3)) | (fail))
    go_wp2
    go_ret
    exact ⟨rfl, (hB1.drew.trans (hB2.mono hz1)).trans (hB3.mono (by omega))⟩
  · have hvv : Hid ((decide (1 ≤ V) && decide (V ≤ 13)) = false) := by unfold Hid; simp; omega
    have ey : y = false := by rw [← hy.out]; exact cmdB_out (.inl h)
    subst ey
    clear h hy
    go_enter Tryz.func16, Tryz.ntmps16
    go_upto_region 1 with (first | (refine wpList_box_v rfl 25 _ rfl [.int .i64 V, .string N, .int .i64 F, .int .i64 U, .string B, .int .i64 C, .int .i64 D, .bool Q] rfl ?_; intro b1 w1 hb1 hw1 hB1 V1; obtain ⟨c0, c1, c2, c3, c4, c5, c6, c7⟩ := cellsCm V1) | (fail))
    go_big_quiet (first | (go_at_call 63; with_reducible exact Calls.quiet_of_same (within_is V 1 13 false hvv.out _)) | (fail))
    go_wp2
    go_ret
    exact ⟨rfl, bdN hB1 _⟩
end Go.Proofs.YtaabmkhckbndgaaGreatDoor.cm
