/- Texts laid together: Cu3 Cu4 Cu5 Dd8. -/
import Derived.Test.YtjkkjpgebcnhgaaGreatDoorCu2
import Derived.Test.YtjkkjpgebcnhgaaGreatDoorMg15
import Derived.Test.YtjkkjpgebcnhgaaGreatDoorMg21
import Derived.Test.YtjkkjpgebcnhgaaGreatDoorMg13
import Derived.Test.YtjkkjpgebcnhgaaGreatDoorMg12
import Derived.Deep.DeepCutAuto
import Derived.Deep.RegionHeld3
import Derived.BigQuiet
/- Contracts: right commands, the model's: at whatever command. -/
namespace Go.Proofs.YtjkkjpgebcnhgaaGreatDoor.cm
open Go.ChangeShapes Go.WideShapes Go.ChangeAt Go.RowKit
open Go.Proofs.YtjkkjpgebcnhgaaGreatDoor.ce Go.Proofs.YtjkkjpgebcnhgaaGreatDoor.ro Go.Proofs.YtjkkjpgebcnhgaaGreatDoor.rg
set_option linter.unusedVariables false

theorem cmdB_out {V : Int} {N : ByteArray} {F U : Int} {B : ByteArray} {C D : Int} {Q : Bool} (h : ¬ (1 ≤ V ∧ V ≤ 13) ∨ (Q = true ∧ V ≤ 2)) : cmdB ⟨V, N, F, U, B, C, D, Q⟩ = false := by
  cases e : cmdB ⟨V, N, F, U, B, C, D, Q⟩ with
  | false => rfl
  | true =>
    have ok := cmdB_iff.1 e
    have h0 : 1 ≤ V := ok.v0
    have h1 : V ≤ 13 := ok.v1
    have hq : Q = true → 3 ≤ V := ok.q
    rcases h with h | ⟨h, h2⟩
    · omega
    · have := hq h; omega
theorem cmdB_13 {N : ByteArray} {F U : Int} {B : ByteArray} {C D : Int} {Q : Bool} : cmdB ⟨13, N, F, U, B, C, D, Q⟩ = (N.toList.isEmpty && (F == 0) && (U == 0) && B.toList.isEmpty && (C == 0) && (D == 0)) := by
  rw [Bool.eq_iff_iff, cmdB_iff, emp_iff, emp_iff]
  simp only [Bool.and_eq_true, decide_eq_true_eq, beq_iff_eq]
  constructor
  · intro ok
    exact ⟨⟨⟨⟨⟨ok.n0 rfl, ok.f rfl⟩, ok.u rfl (show (13 : Int) ≠ 11 by decide)⟩, ok.b rfl⟩, ok.c8 (show (13 : Int) ≠ 8 by decide)⟩, ok.d rfl⟩
  · rintro ⟨⟨⟨⟨⟨rfl, rfl⟩, rfl⟩, rfl⟩, rfl⟩, rfl⟩
    exact ⟨show (1 : Int) ≤ 13 by decide, show (13 : Int) ≤ 13 by decide, fun _ => (show (3 : Int) ≤ 13 by decide), fun _ => rfl, fun h => absurd rfl h, fun _ => rfl, fun _ _ => rfl, fun _ => rfl, fun _ => rfl, fun _ => rfl, fun h => absurd h (show ¬ (13 : Int) = 8 by decide), show (0 : Int) ≤ 0 ∧ (0 : Int) ≤ 65535 by decide, show (0 : Int) ≤ 0 ∧ (0 : Int) ≤ 1000000 by decide, show emp.size ≤ 64 by decide, show (0 : Int) ≤ 0 ∧ (0 : Int) ≤ 1000000 by decide⟩
theorem cmdB_mid {V : Int} {N : ByteArray} {F U : Int} {B : ByteArray} {C D : Int} {Q : Bool} (h0 : 1 ≤ V ∧ V ≤ 13) (h13 : V ≠ 13) (hq : Q = true → ¬ V ≤ 2) : cmdB ⟨V, N, F, U, B, C, D, Q⟩ = (!badB V N F U B C D && !((V == 8) && !(decide (1 ≤ C) && decide (C ≤ 1000000))) && ((decide (0 ≤ F) && decide (F ≤ 65535)) && (decide (0 ≤ U) && decide (U ≤ 1000000)) && decide ((B.size : Int) ≤ 64) && (decide (0 ≤ D) && decide (D ≤ 1000000)))) := by
  rw [Bool.eq_iff_iff, cmdB_iff]
  constructor
  · intro ok
    have e1 : nameB N = true := ok.nm h13
    have e2 : full V = false → F = 0 := ok.f
    have e3 : full V = false → V ≠ 11 → U = 0 := ok.u
    have e4 : sized V = false → B = emp := ok.b
    have e5 : V ≠ 8 → C = 0 := ok.c8
    have e6 : stepV V = false → D = 0 := ok.d
    have e7 : V = 8 → 1 ≤ C ∧ C ≤ 1000000 := ok.c1
    have e8 : 0 ≤ F ∧ F ≤ 65535 := ok.f1
    have e9 : 0 ≤ U ∧ U ≤ 1000000 := ok.u1
    have e10 : B.size ≤ 64 := ok.b1
    have e11 : 0 ≤ D ∧ D ≤ 1000000 := ok.d1
    have b1 : badB V N F U B C D = false := by
      unfold badB
      rw [emp_iff, e1]
      have c2 : (!full V && (F != 0)) = false := by cases hf : full V <;> simp; exact e2 hf
      have c3 : (!full V && (V != 11) && (U != 0)) = false := by
        cases hf : full V <;> simp
        intro h
        exact e3 hf h
      have c4 : (!sized V && !decide (B = emp)) = false := by cases hf : sized V <;> simp; exact e4 hf
      have c5 : ((V != 8) && (C != 0)) = false := by simp; exact fun h => e5 h
      have c6 : (!stepV V && (D != 0)) = false := by cases hf : stepV V <;> simp; exact e6 hf
      rw [c2, c3, c4, c5, c6]
      rfl
    have b2 : ((V == 8) && !(decide (1 ≤ C) && decide (C ≤ 1000000))) = false := by
      by_cases h8 : V = 8
      · have := e7 h8
        rw [decide_eq_true this.1, decide_eq_true this.2]
        simp
      · rw [show (V == 8) = false by simpa using h8]
        rfl
    rw [b1, b2, decide_eq_true e8.1, decide_eq_true e8.2, decide_eq_true e9.1, decide_eq_true e9.2, decide_eq_true e11.1, decide_eq_true e11.2, decide_eq_true (show (B.size : Int) ≤ 64 by omega)]
    rfl
  · intro h
    simp only [Bool.and_eq_true, Bool.not_eq_true', decide_eq_true_eq] at h
    obtain ⟨⟨b1, b2⟩, ⟨⟨f0, u0⟩, b0⟩, d0⟩ := h
    unfold badB at b1
    rw [emp_iff] at b1
    simp only [Bool.or_eq_false_iff, Bool.not_eq_false'] at b1
    obtain ⟨⟨⟨⟨⟨a1, a2⟩, a3⟩, a4⟩, a5⟩, a6⟩ := b1
    refine ⟨h0.1, h0.2, fun h => (by have := hq h; show 3 ≤ V; omega), fun h => absurd h h13, fun _ => a1, fun h => ?_, fun h h2 => ?_, fun h => ?_, fun h => ?_, fun h => ?_, fun h => ?_, f0, u0, by show B.size ≤ 64; omega, d0⟩
    · dsimp only at h ⊢; rw [h] at a2; simpa using a2
    · dsimp only at h h2 ⊢; rw [h] at a3; simp at a3; exact a3 h2
    · dsimp only at h ⊢; rw [h] at a4; simpa using a4
    · dsimp only at h ⊢; simp at a5; exact a5 h
    · dsimp only at h ⊢; rw [h] at a6; simpa using a6
    · dsimp only at h ⊢; rw [show (V == 8) = true by simpa using h] at b2; simpa using b2

set_option maxRecDepth 100000 in
set_option maxHeartbeats 1000000 in
theorem specCmdOk_13 (N B : ByteArray) (F U C D : Int) (Q : Bool) (w : World) :
    Calls Tryz.prog 23 #[.agg #[.int .i64 13, .string N, .int .i64 F, .int .i64 U, .string B, .int .i64 C, .int .i64 D, .bool Q]] w fun e w' => e = .returned (.bool (N.toList.isEmpty && (F == 0) && (U == 0) && B.toList.isEmpty && (C == 0) && (D == 0))) ∧ Below w.heap.size w w' := by
  have hq2 : ¬ (13 : Int) ≤ 2 := by omega
  cases Q
  all_goals
    go_enter Tryz.func23, Tryz.ntmps23
    go_wp2_with (first | (refine wpList_box_v rfl 37 _ rfl [.int .i64 13, .string N, .int .i64 F, .int .i64 U, .string B, .int .i64 C, .int .i64 D, .bool _] rfl ?_; intro b1 w1 hb1 hw1 hB1 V1; obtain ⟨c0, c1, c2, c3, c4, c5, c6, c7⟩ := cellsCm V1) | (go_at_call 54; refine (in_is 13 1 13 true rfl _).mono ?_; rintro e wq ⟨rfl, hq⟩; subst wq) | (fail))
    all_goals
      go_ret
      exact ⟨by simp [*], hB1⟩
set_option maxRecDepth 100000 in
set_option maxHeartbeats 1000000 in
theorem specCmdOk_out (V : Int) (N B : ByteArray) (F U C D : Int) (Q : Bool) (hv : ¬ (1 ≤ V ∧ V ≤ 13) ∨ (Q = true ∧ V ≤ 2)) (w : World) :
    Calls Tryz.prog 23 #[.agg #[.int .i64 V, .string N, .int .i64 F, .int .i64 U, .string B, .int .i64 C, .int .i64 D, .bool Q]] w fun e w' => e = .returned (.bool false) ∧ Below w.heap.size w w' := by
  by_cases h : 1 ≤ V ∧ V ≤ 13
  · obtain ⟨rfl, h2⟩ : Q = true ∧ V ≤ 2 := hv.resolve_left (fun q => q h)
    have hvv : Hid ((decide (1 ≤ V) && decide (V ≤ 13)) = true) := by unfold Hid; simp; omega
    clear hv h
    go_enter Tryz.func23, Tryz.ntmps23
    go_wp2_with (first | (refine wpList_box_v rfl 37 _ rfl [.int .i64 V, .string N, .int .i64 F, .int .i64 U, .string B, .int .i64 C, .int .i64 D, .bool true] rfl ?_; intro b1 w1 hb1 hw1 hB1 V1; obtain ⟨c0, c1, c2, c3, c4, c5, c6, c7⟩ := cellsCm V1) | (go_at_call 54; refine (in_is V 1 13 true hvv.out _).mono ?_; rintro e wq ⟨rfl, hq⟩; subst wq) | (fail))
    go_ret
    exact ⟨rfl, hB1⟩
  · have hvv : Hid ((decide (1 ≤ V) && decide (V ≤ 13)) = false) := by unfold Hid; simp; omega
    clear hv h
    go_enter Tryz.func23, Tryz.ntmps23
    go_wp2_with (first | (refine wpList_box_v rfl 37 _ rfl [.int .i64 V, .string N, .int .i64 F, .int .i64 U, .string B, .int .i64 C, .int .i64 D, .bool Q] rfl ?_; intro b1 w1 hb1 hw1 hB1 V1; obtain ⟨c0, c1, c2, c3, c4, c5, c6, c7⟩ := cellsCm V1) | (go_at_call 54; refine (in_is V 1 13 false hvv.out _).mono ?_; rintro e wq ⟨rfl, hq⟩; subst wq) | (fail))
    go_ret
    exact ⟨rfl, hB1⟩
/-- the model's CmdOk -/
theorem specCmdOk_any (V : Int) (N B : ByteArray) (F U C D : Int) (Q : Bool) (y : Bool) (hy : Hid (cmdB ⟨V, N, F, U, B, C, D, Q⟩ = y)) (hN : N.size ≤ 9223372036854775807) (hB : B.size ≤ 9223372036854775807) (w : World) :
    Calls Tryz.prog 23 #[.agg #[.int .i64 V, .string N, .int .i64 F, .int .i64 U, .string B, .int .i64 C, .int .i64 D, .bool Q]] w fun e w' => e = .returned (.bool y) ∧ Below w.heap.size w w' := by
  by_cases h : ¬ (1 ≤ V ∧ V ≤ 13) ∨ (Q = true ∧ V ≤ 2)
  · rw [← hy.out, cmdB_out h]
    exact specCmdOk_out V N B F U C D Q h w
  · have h1 : 1 ≤ V ∧ V ≤ 13 := Classical.byContradiction fun q => h (.inl q)
    have hq : Q = true → ¬ V ≤ 2 := fun a b => h (.inr ⟨a, b⟩)
    by_cases h13 : V = 13
    · subst h13
      rw [← hy.out, cmdB_13]
      exact specCmdOk_13 N B F U C D Q w
    · exact specCmdOk_mid V N B F U C D Q hN hB h1 (by simpa using h13) hq w y (hy.out.symm.trans (cmdB_mid h1 h13 hq))
end Go.Proofs.YtjkkjpgebcnhgaaGreatDoor.cm
/- Contracts: right commands, the program's: what is told of a verb, what fits it. -/
namespace Go.Proofs.YtjkkjpgebcnhgaaGreatDoor.cm
open Go.ChangeShapes Go.WideShapes Go.ChangeAt Go.RowKit
open Go.Deep Go.Joins
open Go.Proofs.YtjkkjpgebcnhgaaGreatDoor.ce Go.Proofs.YtjkkjpgebcnhgaaGreatDoor.ro Go.Proofs.YtjkkjpgebcnhgaaGreatDoor.rg
set_option linter.unusedVariables false

theorem within_is (x lo hi : Int) (y : Bool) (h : (decide (lo ≤ x) && decide (x ≤ hi)) = y) (w : World) : Calls Tryz.prog 37 #[.int .i64 x, .int .i64 lo, .int .i64 hi] w fun e w' => e = .returned (.bool y) ∧ w' = w := by
  by_cases h1 : lo ≤ x
  · by_cases h3 : x ≤ hi
    · rw [decide_eq_true h1, decide_eq_true h3] at h
      subst h
      go_enter Tryz.func37, Tryz.ntmps37
      go_wp2
      go_ret
      exact ⟨rfl, rfl⟩
    · rw [decide_eq_true h1, decide_eq_false h3] at h
      subst h
      go_enter Tryz.func37, Tryz.ntmps37
      go_wp2
      go_ret
      exact ⟨rfl, rfl⟩
  · rw [decide_eq_false h1] at h
    subst h
    go_enter Tryz.func37, Tryz.ntmps37
    go_wp2
    go_ret
    exact ⟨rfl, rfl⟩
theorem sizePt : (Tryz.prog.info? 107).map (·.size) = some 7 := by kernel_rfl
theorem cells7 {w : World} {b : Nat} {t : TypeId} {v0 v1 v2 v3 v4 v5 v6 : Value} (h : VBlk w b t [v0, v1, v2, v3, v4, v5, v6]) : w.cell? ⟨b, 0, none⟩ = some v0 ∧ w.cell? ⟨b, 1, none⟩ = some v1 ∧ w.cell? ⟨b, 2, none⟩ = some v2 ∧ w.cell? ⟨b, 3, none⟩ = some v3 ∧ w.cell? ⟨b, 4, none⟩ = some v4 ∧ w.cell? ⟨b, 5, none⟩ = some v5 ∧ w.cell? ⟨b, 6, none⟩ = some v6 :=
  ⟨h.cell 0 (by simp), h.cell 1 (by simp), h.cell 2 (by simp), h.cell 3 (by simp), h.cell 4 (by simp), h.cell 5 (by simp), h.cell 6 (by simp)⟩
theorem bdN {B : Nat} {a w : World} (h : Below B a w) (n : Nat) : Below B a (w.drewN n) := h.trans ⟨rfl, rfl, rfl, Nat.le_refl _, fun _ _ => rfl⟩
theorem vblk_new (w : World) (cs : Array Value) (t : TypeId) : VBlk (w.alloc (.cells cs t)) w.heap.size t cs.toList := by simpa [VBlk] using heap_alloc_new w (.cells cs t)
theorem vblk_two (w : World) (cs ds : Array Value) (t t' : TypeId) : VBlk ((w.alloc (.cells cs t)).alloc (.cells ds t')) w.heap.size t cs.toList := (vblk_new w cs t).of (Below.heap_alloc _ _ _ (vblk_new w cs t).lt)
theorem partOk_is (t r z y : Bool) (h : (if t then r else z) = y) (w : World) : Calls Tryz.prog 108 #[.bool t, .bool r, .bool z] w fun e w' => e = .returned (.bool y) ∧ w' = w := by
  subst h
  cases t
  all_goals
    go_enter Tryz.func108, Tryz.ntmps108
    go_wp2
    go_ret
    exact ⟨rfl, rfl⟩
/-- the cells of what is told of a verb -/
def ptv (v : Int) : List Value := [.bool (pN v), .bool (full v), .bool (pU v), .bool (sized v), .bool (pC v), .bool (stepV v), .bool (pQ v)]
set_option maxRecDepth 100000 in
set_option maxHeartbeats 1000000 in
theorem partsOf_any (v : Int) (h0 : 1 ≤ v) (h1 : v ≤ 13) (w : World) : Calls Tryz.prog 71 #[.int .i64 v] w fun e w' => e = .returned (.agg (ptv v).toArray) ∧ Below w.heap.size w w' := by
  rcases verb_cases h0 h1 with rfl | rfl | rfl | rfl | rfl | rfl | rfl | rfl | rfl | rfl | rfl | rfl | rfl
  all_goals
    clear h0 h1
    go_enter Tryz.func71, Tryz.ntmps71
    go_wp2
    exact row_retv rfl rfl (vblk_two w _ _ _ _) Tryz.underlying107 sizePt rfl ⟨rfl, ((Below.refl _ w).alloc (Nat.le_refl _) _).alloc (by simp) _⟩

theorem implNameOk_is (s : ByteArray) (y : Bool) (h : nameB s = y) (hs : s.size ≤ 9223372036854775807) (w : World) : Calls Tryz.prog 100 #[.string s] w fun e w' => e = .returned (.bool y) ∧ w' = w := by
  subst h
  exact implNameOk_any s hs w
set_option maxRecDepth 100000 in
set_option maxHeartbeats 1000000 in
theorem fit_any (p0 p1 p2 p3 p4 p5 p6 : Bool) (V : Int) (N B : ByteArray) (F U C D : Int) (Q : Bool) (hN : N.size ≤ 9223372036854775807) (w : World) (y : Bool) (hy : Hid (y = ((if p0 then nameB N else N.toList.isEmpty) && (if p1 then (decide (0 ≤ F) && decide (F ≤ 65535)) else (F == 0)) && (if p2 then (decide (0 ≤ U) && decide (U ≤ 1000000)) else (U == 0)) && (if p3 then decide ((B.size : Int) ≤ 64) else B.toList.isEmpty) && (if p4 then (decide (1 ≤ C) && decide (C ≤ 1000000)) else (C == 0)) && (if p5 then (decide (0 ≤ D) && decide (D ≤ 1000000)) else (D == 0)) && (p6 || !Q)))) :
    Calls Tryz.prog 72 #[.agg #[.bool p0, .bool p1, .bool p2, .bool p3, .bool p4, .bool p5, .bool p6], .agg #[.int .i64 V, .string N, .int .i64 F, .int .i64 U, .string B, .int .i64 C, .int .i64 D, .bool Q]] w fun e w' => e = .returned (.bool y) ∧ Below w.heap.size w w' := by
  obtain ⟨x1, h1⟩ := hid_ex (nameB N)
  obtain ⟨x2, h2⟩ := hid_ex (decide (0 ≤ F) && decide (F ≤ 65535))
  obtain ⟨x3, h3⟩ := hid_ex (decide (0 ≤ U) && decide (U ≤ 1000000))
  obtain ⟨x4, h4⟩ := hid_ex (decide ((B.size : Int) ≤ 64))
  obtain ⟨x5, h5⟩ := hid_ex (decide (1 ≤ C) && decide (C ≤ 1000000))
  obtain ⟨x6, h6⟩ := hid_ex (decide (0 ≤ D) && decide (D ≤ 1000000))
  replace hy := hy.out
  rw [h1.out, h2.out, h3.out, h4.out, h5.out, h6.out] at hy
  have k1 := h4.out
  go_enter Tryz.func72, Tryz.ntmps72
  go_upto_region 1 with (first | (refine wpList_box_v rfl 37 _ rfl [.int .i64 V, .string N, .int .i64 F, .int .i64 U, .string B, .int .i64 C, .int .i64 D, .bool Q] rfl ?_; intro b1 w1 hb1 hw1 hB1 V1; obtain ⟨c0, c1, c2, c3, c4, c5, c6, c7⟩ := cellsCm V1; obtain ⟨d0, d1, d2, d3, d4, d5, d6⟩ := cells7 (vblk_grow (vblk_new w #[.bool p0, .bool p1, .bool p2, .bool p3, .bool p4, .bool p5, .bool p6] 107) hB1)) | (fail))
  have HB : ∀ n, Below w.heap.size w (w1.drewN n) := fun n => ((Below.refl _ w).alloc (Nat.le_refl _) _).trans ((bdN hB1 n).mono (show w.heap.size ≤ _ by simp))
  cases g1 : (if p0 then x1 else N.toList.isEmpty) with
  | false =>
    rw [g1] at hy
    simp only [Bool.false_and] at hy
    subst hy
    refine wp_region_quiet_lit (by kernel_rfl) (by kernel_rfl) ?_
    simp only [List.append]
    repeat (go_big_quiet_step (first | (go_at_call 100; with_reducible exact Calls.quiet_of_same (implNameOk_is N x1 h1.out hN _)) | (go_at_call 108; with_reducible exact Calls.quiet_of_same (partOk_is p0 x1 _ false g1 _)) | (fail)))
    refine wpQuiet_nil ?_
    intro _ hw9
    obtain ⟨nq, hw8⟩ := hw9
    subst hw8
    go_wp2
    go_ret
    exact ⟨rfl, HB nq⟩
  | true =>
    cases g2 : (if p1 then x2 else (F == 0)) with
    | false =>
      rw [g1, g2] at hy
      simp only [Bool.true_and, Bool.false_and] at hy
      subst hy
      refine wp_region_quiet_lit (by kernel_rfl) (by kernel_rfl) ?_
      simp only [List.append]
      repeat (go_big_quiet_step (first | (go_at_call 100; with_reducible exact Calls.quiet_of_same (implNameOk_is N x1 h1.out hN _)) | (go_at_call 108; with_reducible exact Calls.quiet_of_same (partOk_is p0 x1 _ true g1 _)) | (go_at_call 108; with_reducible exact Calls.quiet_of_same (partOk_is p1 x2 _ false g2 _)) | (go_at_call 37; with_reducible exact Calls.quiet_of_same (within_is F 0 65535 x2 h2.out _)) | (fail)))
      refine wpQuiet_nil ?_
      intro _ hw9
      obtain ⟨nq, hw8⟩ := hw9
      subst hw8
      go_wp2
      go_ret
      exact ⟨rfl, HB nq⟩
    | true =>
      cases g3 : (if p2 then x3 else (U == 0)) with
      | false =>
        rw [g1, g2, g3] at hy
        simp only [Bool.true_and, Bool.false_and] at hy
        subst hy
        refine wp_region_quiet_lit (by kernel_rfl) (by kernel_rfl) ?_
        simp only [List.append]
        repeat (go_big_quiet_step (first | (go_at_call 100; with_reducible exact Calls.quiet_of_same (implNameOk_is N x1 h1.out hN _)) | (go_at_call 108; with_reducible exact Calls.quiet_of_same (partOk_is p0 x1 _ true g1 _)) | (go_at_call 108; with_reducible exact Calls.quiet_of_same (partOk_is p1 x2 _ true g2 _)) | (go_at_call 108; with_reducible exact Calls.quiet_of_same (partOk_is p2 x3 _ false g3 _)) | (go_at_call 37; with_reducible exact Calls.quiet_of_same (within_is F 0 65535 x2 h2.out _)) | (go_at_call 37; with_reducible exact Calls.quiet_of_same (within_is U 0 1000000 x3 h3.out _)) | (fail)))
        refine wpQuiet_nil ?_
        intro _ hw9
        obtain ⟨nq, hw8⟩ := hw9
        subst hw8
        go_wp2
        go_ret
        exact ⟨rfl, HB nq⟩
      | true =>
        cases g4 : (if p3 then x4 else B.toList.isEmpty) with
        | false =>
          rw [g1, g2, g3, g4] at hy
          simp only [Bool.true_and, Bool.false_and] at hy
          subst hy
          refine wp_region_quiet_lit (by kernel_rfl) (by kernel_rfl) ?_
          simp only [List.append]
          repeat (go_big_quiet_step (first | (go_at_call 100; with_reducible exact Calls.quiet_of_same (implNameOk_is N x1 h1.out hN _)) | (go_at_call 108; with_reducible exact Calls.quiet_of_same (partOk_is p0 x1 _ true g1 _)) | (go_at_call 108; with_reducible exact Calls.quiet_of_same (partOk_is p1 x2 _ true g2 _)) | (go_at_call 108; with_reducible exact Calls.quiet_of_same (partOk_is p2 x3 _ true g3 _)) | (go_at_call 108; with_reducible exact Calls.quiet_of_same (partOk_is p3 x4 _ false g4 _)) | (go_at_call 37; with_reducible exact Calls.quiet_of_same (within_is F 0 65535 x2 h2.out _)) | (go_at_call 37; with_reducible exact Calls.quiet_of_same (within_is U 0 1000000 x3 h3.out _)) | (fail)))
          refine wpQuiet_nil ?_
          intro _ hw9
          obtain ⟨nq, hw8⟩ := hw9
          subst hw8
          go_wp2
          go_ret
          exact ⟨rfl, HB nq⟩
        | true =>
          cases g5 : (if p4 then x5 else (C == 0)) with
          | false =>
            rw [g1, g2, g3, g4, g5] at hy
            simp only [Bool.true_and, Bool.false_and] at hy
            subst hy
            refine wp_region_quiet_lit (by kernel_rfl) (by kernel_rfl) ?_
            simp only [List.append]
            repeat (go_big_quiet_step (first | (go_at_call 100; with_reducible exact Calls.quiet_of_same (implNameOk_is N x1 h1.out hN _)) | (go_at_call 108; with_reducible exact Calls.quiet_of_same (partOk_is p0 x1 _ true g1 _)) | (go_at_call 108; with_reducible exact Calls.quiet_of_same (partOk_is p1 x2 _ true g2 _)) | (go_at_call 108; with_reducible exact Calls.quiet_of_same (partOk_is p2 x3 _ true g3 _)) | (go_at_call 108; with_reducible exact Calls.quiet_of_same (partOk_is p3 x4 _ true g4 _)) | (go_at_call 108; with_reducible exact Calls.quiet_of_same (partOk_is p4 x5 _ false g5 _)) | (go_at_call 37; with_reducible exact Calls.quiet_of_same (within_is F 0 65535 x2 h2.out _)) | (go_at_call 37; with_reducible exact Calls.quiet_of_same (within_is U 0 1000000 x3 h3.out _)) | (go_at_call 37; with_reducible exact Calls.quiet_of_same (within_is C 1 1000000 x5 h5.out _)) | (fail)))
            refine wpQuiet_nil ?_
            intro _ hw9
            obtain ⟨nq, hw8⟩ := hw9
            subst hw8
            go_wp2
            go_ret
            exact ⟨rfl, HB nq⟩
          | true =>
            cases g6 : (if p5 then x6 else (D == 0)) with
            | false =>
              rw [g1, g2, g3, g4, g5, g6] at hy
              simp only [Bool.true_and, Bool.false_and] at hy
              subst hy
              refine wp_region_quiet_lit (by kernel_rfl) (by kernel_rfl) ?_
              simp only [List.append]
              repeat (go_big_quiet_step (first | (go_at_call 100; with_reducible exact Calls.quiet_of_same (implNameOk_is N x1 h1.out hN _)) | (go_at_call 108; with_reducible exact Calls.quiet_of_same (partOk_is p0 x1 _ true g1 _)) | (go_at_call 108; with_reducible exact Calls.quiet_of_same (partOk_is p1 x2 _ true g2 _)) | (go_at_call 108; with_reducible exact Calls.quiet_of_same (partOk_is p2 x3 _ true g3 _)) | (go_at_call 108; with_reducible exact Calls.quiet_of_same (partOk_is p3 x4 _ true g4 _)) | (go_at_call 108; with_reducible exact Calls.quiet_of_same (partOk_is p4 x5 _ true g5 _)) | (go_at_call 108; with_reducible exact Calls.quiet_of_same (partOk_is p5 x6 _ false g6 _)) | (go_at_call 37; with_reducible exact Calls.quiet_of_same (within_is F 0 65535 x2 h2.out _)) | (go_at_call 37; with_reducible exact Calls.quiet_of_same (within_is U 0 1000000 x3 h3.out _)) | (go_at_call 37; with_reducible exact Calls.quiet_of_same (within_is C 1 1000000 x5 h5.out _)) | (go_at_call 37; with_reducible exact Calls.quiet_of_same (within_is D 0 1000000 x6 h6.out _)) | (fail)))
              refine wpQuiet_nil ?_
              intro _ hw9
              obtain ⟨nq, hw8⟩ := hw9
              subst hw8
              go_wp2
              go_ret
              exact ⟨rfl, HB nq⟩
            | true =>
              rw [g1, g2, g3, g4, g5, g6] at hy
              cases p6
              all_goals
                simp only [Bool.true_and, Bool.false_or, Bool.true_or] at hy
                subst hy
                refine wp_region_quiet_lit (by kernel_rfl) (by kernel_rfl) ?_
                simp only [List.append]
                repeat (go_big_quiet_step (first | (go_at_call 100; with_reducible exact Calls.quiet_of_same (implNameOk_is N x1 h1.out hN _)) | (go_at_call 108; with_reducible exact Calls.quiet_of_same (partOk_is p0 x1 _ true g1 _)) | (go_at_call 108; with_reducible exact Calls.quiet_of_same (partOk_is p1 x2 _ true g2 _)) | (go_at_call 108; with_reducible exact Calls.quiet_of_same (partOk_is p2 x3 _ true g3 _)) | (go_at_call 108; with_reducible exact Calls.quiet_of_same (partOk_is p3 x4 _ true g4 _)) | (go_at_call 108; with_reducible exact Calls.quiet_of_same (partOk_is p4 x5 _ true g5 _)) | (go_at_call 108; with_reducible exact Calls.quiet_of_same (partOk_is p5 x6 _ true g6 _)) | (go_at_call 37; with_reducible exact Calls.quiet_of_same (within_is F 0 65535 x2 h2.out _)) | (go_at_call 37; with_reducible exact Calls.quiet_of_same (within_is U 0 1000000 x3 h3.out _)) | (go_at_call 37; with_reducible exact Calls.quiet_of_same (within_is C 1 1000000 x5 h5.out _)) | (go_at_call 37; with_reducible exact Calls.quiet_of_same (within_is D 0 1000000 x6 h6.out _)) | (fail)))
                refine wpQuiet_nil ?_
                intro _ hw9
                obtain ⟨nq, hw8⟩ := hw9
                subst hw8
                go_wp2
                go_ret
                exact ⟨rfl, HB nq⟩
end Go.Proofs.YtjkkjpgebcnhgaaGreatDoor.cm
/- Contracts: right commands, the program's. -/
namespace Go.Proofs.YtjkkjpgebcnhgaaGreatDoor.cm
open Go.ChangeShapes Go.WideShapes Go.ChangeAt Go.RowKit
open Go.Deep Go.Joins
open Go.Proofs.YtjkkjpgebcnhgaaGreatDoor.ce Go.Proofs.YtjkkjpgebcnhgaaGreatDoor.ro Go.Proofs.YtjkkjpgebcnhgaaGreatDoor.rg
set_option linter.unusedVariables false

/-- what fits a verb is a right command -/
theorem fit_ok {V : Int} (h0 : 1 ≤ V) (h1 : V ≤ 13) (N : ByteArray) (F U : Int) (B : ByteArray) (C D : Int) (Q : Bool) : ((if pN V then nameB N else N.toList.isEmpty) && (if full V then (decide (0 ≤ F) && decide (F ≤ 65535)) else (F == 0)) && (if pU V then (decide (0 ≤ U) && decide (U ≤ 1000000)) else (U == 0)) && (if sized V then decide ((B.size : Int) ≤ 64) else B.toList.isEmpty) && (if pC V then (decide (1 ≤ C) && decide (C ≤ 1000000)) else (C == 0)) && (if stepV V then (decide (0 ≤ D) && decide (D ≤ 1000000)) else (D == 0)) && (pQ V || !Q)) = cmdB ⟨V, N, F, U, B, C, D, Q⟩ := by
  rw [Bool.eq_iff_iff, cmdB_iff, emp_iff, emp_iff]
  have z1 : (0 : Int) ≤ 0 ∧ (0 : Int) ≤ 65535 := by decide
  have z2 : (0 : Int) ≤ 0 ∧ (0 : Int) ≤ 1000000 := by decide
  have z3 : emp.size ≤ 64 := by decide
  constructor
  · intro h
    simp only [Bool.and_eq_true] at h
    obtain ⟨⟨⟨⟨⟨⟨a1, a2⟩, a3⟩, a4⟩, a5⟩, a6⟩, a7⟩ := h
    rcases verb_cases h0 h1 with rfl | rfl | rfl | rfl | rfl | rfl | rfl | rfl | rfl | rfl | rfl | rfl | rfl
    all_goals
      simp [pN, pU, pC, pQ, full, sized, stepV] at a1 a2 a3 a4 a5 a6 a7
      constructor <;> simp_all [full, sized, stepV] <;> omega
  · intro ok
    have b1 := ok.q
    have b2 := ok.n0
    have b3 := ok.nm
    have b4 := ok.f
    have b5 := ok.u
    have b6 := ok.b
    have b7 := ok.c8
    have b8 := ok.d
    have b9 := ok.c1
    have b10 := ok.f1
    have b11 := ok.u1
    have b12 := ok.b1
    have b13 := ok.d1
    clear ok
    dsimp only at *
    rcases verb_cases h0 h1 with rfl | rfl | rfl | rfl | rfl | rfl | rfl | rfl | rfl | rfl | rfl | rfl | rfl
    all_goals
      simp [full, sized, stepV] at b1 b2 b3 b4 b5 b6 b7 b8 b9
      simp [pN, pU, pC, pQ, full, sized, stepV, *] <;> omega
set_option maxRecDepth 100000 in
set_option maxHeartbeats 1000000 in
theorem implCmdOk_any (V : Int) (N B : ByteArray) (F U C D : Int) (Q : Bool) (y : Bool) (hy : Hid (cmdB ⟨V, N, F, U, B, C, D, Q⟩ = y)) (hN : N.size ≤ 9223372036854775807) (hB : B.size ≤ 9223372036854775807) (w : World) :
    Calls Tryz.prog 38 #[.agg #[.int .i64 V, .string N, .int .i64 F, .int .i64 U, .string B, .int .i64 C, .int .i64 D, .bool Q]] w fun e w' => e = .returned (.bool y) ∧ Below w.heap.size w w' := by
  by_cases h : 1 ≤ V ∧ V ≤ 13
  · have hvv : Hid ((decide (1 ≤ V) && decide (V ≤ 13)) = true) := by unfold Hid; simp; omega
    have hyy := (fit_ok h.1 h.2 N F U B C D Q).trans hy.out
    have HY : Hid (y = _) := hyy.symm
    have HV : Hid (1 ≤ V ∧ V ≤ 13) := h
    clear hy hyy h
    go_enter Tryz.func38, Tryz.ntmps38
    go_upto_region 1 with (first | (refine wpList_box_v rfl 37 _ rfl [.int .i64 V, .string N, .int .i64 F, .int .i64 U, .string B, .int .i64 C, .int .i64 D, .bool Q] rfl ?_; intro b1 w1 hb1 hw1 hB1 V1; obtain ⟨c0, c1, c2, c3, c4, c5, c6, c7⟩ := cellsCm V1) | (fail))
    have S1 : w1.drew.cell? ⟨b1, 0, none⟩ = some (.int .i64 V) ∧ w1.drew.cell? ⟨b1, 1, none⟩ = some (.string N) ∧ w1.drew.cell? ⟨b1, 2, none⟩ = some (.int .i64 F) ∧ w1.drew.cell? ⟨b1, 3, none⟩ = some (.int .i64 U) ∧ w1.drew.cell? ⟨b1, 4, none⟩ = some (.string B) ∧ w1.drew.cell? ⟨b1, 5, none⟩ = some (.int .i64 C) ∧ w1.drew.cell? ⟨b1, 6, none⟩ = some (.int .i64 D) ∧ w1.drew.cell? ⟨b1, 7, none⟩ = some (.bool Q) := ⟨c0, c1, c2, c3, c4, c5, c6, c7⟩
    have hz1 := hB1.size
    go_region_held3 (fun w' => w'.cell? ⟨b1, 0, none⟩ = some (.int .i64 V) ∧ w'.cell? ⟨b1, 1, none⟩ = some (.string N) ∧ w'.cell? ⟨b1, 2, none⟩ = some (.int .i64 F) ∧ w'.cell? ⟨b1, 3, none⟩ = some (.int .i64 U) ∧ w'.cell? ⟨b1, 4, none⟩ = some (.string B) ∧ w'.cell? ⟨b1, 5, none⟩ = some (.int .i64 C) ∧ w'.cell? ⟨b1, 6, none⟩ = some (.int .i64 D) ∧ w'.cell? ⟨b1, 7, none⟩ = some (.bool Q)) (first | with_reducible assumption | with_reducible exact S1 | (fail)) (first | (go_at_call 37; refine (within_is V 1 13 true hvv.out _).mono ?_; rintro e wq ⟨rfl, hq⟩; subst wq) | (go_at_call 71; refine (partsOf_any V HV.out.1 HV.out.2 _).mono ?_; rintro e w2 ⟨rfl, hB2⟩; have V2 := vblk_grow V1.drew hB2; have hz2 : w1.heap.size ≤ w2.heap.size := hB2.size; have S2 : w2.cell? ⟨b1, 0, none⟩ = some (.int .i64 V) ∧ w2.cell? ⟨b1, 1, none⟩ = some (.string N) ∧ w2.cell? ⟨b1, 2, none⟩ = some (.int .i64 F) ∧ w2.cell? ⟨b1, 3, none⟩ = some (.int .i64 U) ∧ w2.cell? ⟨b1, 4, none⟩ = some (.string B) ∧ w2.cell? ⟨b1, 5, none⟩ = some (.int .i64 C) ∧ w2.cell? ⟨b1, 6, none⟩ = some (.int .i64 D) ∧ w2.cell? ⟨b1, 7, none⟩ = some (.bool Q) := cellsCm V2; dsimp only [ptv]) | (go_at_call 72; refine (fit_any (pN V) (full V) (pU V) (sized V) (pC V) (stepV V) (pQ V) V N B F U C D Q hN _ y HY.out).mono ?_; rintro e w3 ⟨rfl, hB3⟩; have S3 : w3.cell? ⟨b1, 0, none⟩ = some (.int .i64 V) ∧ w3.cell? ⟨b1, 1, none⟩ = some (.string N) ∧ w3.cell? ⟨b1, 2, none⟩ = some (.int .i64 F) ∧ w3.cell? ⟨b1, 3, none⟩ = some (.int .i64 U) ∧ w3.cell? ⟨b1, 4, none⟩ = some (.string B) ∧ w3.cell? ⟨b1, 5, none⟩ = some (.int .i64 C) ∧ w3.cell? ⟨b1, 6, none⟩ = some (.int .i64 D) ∧ w3.cell? ⟨b1, 7, none⟩ = some (.bool Q) := cellsCm (vblk_grow V2 hB3)) | (fail))
    go_wp2
    go_ret
    exact ⟨rfl, (hB1.drew.trans (hB2.mono hz1)).trans (hB3.mono (by omega))⟩
  · have hvv : Hid ((decide (1 ≤ V) && decide (V ≤ 13)) = false) := by unfold Hid; simp; omega
    have ey : y = false := by rw [← hy.out]; exact cmdB_out (.inl h)
    subst ey
    clear h hy
    go_enter Tryz.func38, Tryz.ntmps38
    go_upto_region 1 with (first | (refine wpList_box_v rfl 37 _ rfl [.int .i64 V, .string N, .int .i64 F, .int .i64 U, .string B, .int .i64 C, .int .i64 D, .bool Q] rfl ?_; intro b1 w1 hb1 hw1 hB1 V1; obtain ⟨c0, c1, c2, c3, c4, c5, c6, c7⟩ := cellsCm V1) | (fail))
    go_big_quiet (first | (go_at_call 37; with_reducible exact Calls.quiet_of_same (within_is V 1 13 false hvv.out _)) | (fail))
    go_wp2
    go_ret
    exact ⟨rfl, bdN hB1 _⟩
end Go.Proofs.YtjkkjpgebcnhgaaGreatDoor.cm
/- Contract: the program's DidBook. -/
namespace Go.Proofs.YtjkkjpgebcnhgaaGreatDoor.rg
open Go.ChangeShapes Go.WideShapes Go.ChangeAt Go.RowKit
open Go.Deep Go.Joins
open Go.Proofs.YtjkkjpgebcnhgaaGreatDoor.ce Go.Proofs.YtjkkjpgebcnhgaaGreatDoor.ro Go.Proofs.YtjkkjpgebcnhgaaGreatDoor.cm
set_option linter.unusedVariables false

theorem di_no (b : Bk) (c : Cm) (now : Int) (h : (storeB b && timeB now) = false) : diR b c now = (Bk.zero, rp 10) := by
  unfold diR
  rw [h, if_neg (by decide)]
theorem di_bad (b : Bk) (c : Cm) (now : Int) (h : (storeB b && timeB now) = true) (hc : cmdB c = false) : diR b c now = (b, rp 10) := by
  unfold diR
  rw [h, if_pos rfl, hc, if_neg (by decide)]
theorem di_yes (b : Bk) (c : Cm) (now : Int) (h : (storeB b && timeB now) = true) (hc : cmdB c = true) : diR b c now = doK ⟨ageL b.I now, b.X⟩ c := by
  unfold diR agR
  rw [h, if_pos rfl, hc, if_pos rfl, if_pos rfl]
set_option maxRecDepth 100000 in
set_option maxHeartbeats 2000000 in
theorem implDidBook_any (I : List It) (X : Int) (V : Int) (N2 : ByteArray) (F2 U2 : Int) (B2 : ByteArray) (C2 D2 : Int) (Q2 : Bool) (now : Int) (v : Value) (w : World) (r : Rd encIt w v I) (hs : SmK I) (hl : I.length ≤ 1048576) (hN2 : N2.size ≤ 1048576) (hB2 : B2.size ≤ 1048576) (en : EnvD w) :
    Calls Tryz.prog 11 #[.agg #[v, .int .i64 X], .agg #[.int .i64 V, .string N2, .int .i64 F2, .int .i64 U2, .string B2, .int .i64 C2, .int .i64 D2, .bool Q2], .int .i64 now] w fun e w' => PostD (diR ⟨I, X⟩ ⟨V, N2, F2, U2, B2, C2, D2, Q2⟩ now).1 (diR ⟨I, X⟩ ⟨V, N2, F2, U2, B2, C2, D2, Q2⟩ now).2 w.heap.size w e w' := by
  obtain ⟨A0, k0, rfl⟩ := r.form
  have R : Hid (Rd encIt w (.slice A0 I.length k0) I) := r
  have HS : Hid (SmK I) := hs
  have EN : Hid (EnvD w) := en
  clear r hs en
  obtain ⟨zs, hZS⟩ := hid_ex (storeB ⟨I, X⟩)
  obtain ⟨zt, hZT⟩ := hid_ex (timeB now)
  obtain ⟨zc, hZC⟩ := hid_ex (cmdB ⟨V, N2, F2, U2, B2, C2, D2, Q2⟩)
  cases zs with
  | false =>
    have e : (diR ⟨I, X⟩ ⟨V, N2, F2, U2, B2, C2, D2, Q2⟩ now) = (Bk.zero, rp 10) := di_no _ _ _ (by rw [hZS.out, hZT.out]; rfl)
    rw [e]
    clear e
    have hzw0 : w.heap.size ≤ w.heap.size := Nat.le_refl _
    go_enter Tryz.func11, Tryz.ntmps11
    have mk1 : Hid True := trivial
    have mk2 : Hid True := trivial
    have mk3 : Hid True := trivial
    have mk4 : Hid True := trivial
    have mk5 : Hid True := trivial
    have mk6 : Hid True := trivial
    have mk7 : Hid True := trivial
    have mk8 : Hid True := trivial
    go_wp2_with (first | (clear mk1; refine wpList_box_v rfl 31 _ rfl [.slice A0 I.length k0, .int .i64 X] rfl ?_; intro b3 w1 hb3 hwb3 hB1 c3; have hz1 : w.heap.size ≤ w1.heap.size := hB1.size; have hB := hB1; have hzw := hB.size; obtain ⟨c30, c31⟩ := cells2 c3) | (clear mk2; refine wpList_box_v rfl 37 _ rfl [.int .i64 V, .string N2, .int .i64 F2, .int .i64 U2, .string B2, .int .i64 C2, .int .i64 D2, .bool Q2] rfl ?_; intro b4 w2 hb4 hwb4 hB2 c4; have hz2 : w1.heap.size ≤ w2.heap.size := hB2.size; replace c3 := vblk_grow c3 hB2; replace hB := hB.trans (hB2.mono (by omega)); replace hzw := hB.size; clear c30 c31; obtain ⟨c30, c31⟩ := cells2 c3; obtain ⟨c40, c41, c42, c43, c44, c45, c46, c47⟩ := cellsCm c4) | (clear mk3; refine wpList_alloc_v rfl 31 rfl _ zeroBk ?_; intro b6 w3 hb6 hwb6 hB3 c6; have hz3 : w2.heap.size ≤ w3.heap.size := hB3.size; replace c3 := vblk_grow c3 hB3; replace c4 := vblk_grow c4 hB3; replace hB := hB.trans (hB3.mono (by omega)); replace hzw := hB.size; clear c30 c31; obtain ⟨c30, c31⟩ := cells2 c3; clear c40 c41 c42 c43 c44 c45 c46 c47; obtain ⟨c40, c41, c42, c43, c44, c45, c46, c47⟩ := cellsCm c4; obtain ⟨c60, c61⟩ := cells2 c6) | (clear mk4; refine wpList_alloc_v rfl 33 rfl _ zeroRp ?_; intro b7 w4 hb7 hwb7 hB4 c7; have hz4 : w3.heap.size ≤ w4.heap.size := hB4.size; replace c3 := vblk_grow c3 hB4; replace c4 := vblk_grow c4 hB4; replace c6 := vblk_grow c6 hB4; replace hB := hB.trans (hB4.mono (by omega)); replace hzw := hB.size; clear c30 c31; obtain ⟨c30, c31⟩ := cells2 c3; clear c40 c41 c42 c43 c44 c45 c46 c47; obtain ⟨c40, c41, c42, c43, c44, c45, c46, c47⟩ := cellsCm c4; clear c60 c61; obtain ⟨c60, c61⟩ := cells2 c6; obtain ⟨c70, c71, c72, c73, c74, c75⟩ := cellsRp c7) | (clear mk5; refine wpList_load_r rfl 31 _ rfl b3 0 [.slice A0 I.length k0, .int .i64 X] rfl _ Tryz.underlying31 rfl sizeBk c3.range ?_) | (clear mk6; go_at_call 19; refine (implStoreOk_any I X _ false hZS _ (R.out.grow hB) HS.out).mono ?_; rintro er w5 ⟨rfl, hB5⟩; have hz5 : w4.heap.size ≤ w5.heap.size := hB5.size; replace c3 := vblk_grow c3 hB5; replace c4 := vblk_grow c4 hB5; replace c6 := vblk_grow c6 hB5; replace c7 := vblk_grow c7 hB5; replace hB := hB.trans (hB5.mono (by omega)); replace hzw := hB.size; clear c30 c31; obtain ⟨c30, c31⟩ := cells2 c3; clear c40 c41 c42 c43 c44 c45 c46 c47; obtain ⟨c40, c41, c42, c43, c44, c45, c46, c47⟩ := cellsCm c4; clear c60 c61; obtain ⟨c60, c61⟩ := cells2 c6; clear c70 c71 c72 c73 c74 c75; obtain ⟨c70, c71, c72, c73, c74, c75⟩ := cellsRp c7) | (clear mk7; refine wpList_store_v rfl 31 _ _ rfl b6 [.slice none 0 0, .int .i64 0] rfl rfl sizeBk c6 rfl (oneBk _ _ _ _) ?_; intro w6 hO6 c6x; clear c60 c61; have hz6 : w5.heap.size ≤ w6.heap.size := (Nat.le_of_eq hO6.1.symm); have hy6 : w6.heap.size ≤ w5.heap.size := (Nat.le_of_eq hO6.1); replace c3 := vblk_only c3 hO6 (by omega); replace c4 := vblk_only c4 hO6 (by omega); replace c7 := vblk_only c7 hO6 (by omega); replace hB := hB.trans (hO6.2.2 _ (by omega)); replace hzw := hB.size; clear c30 c31; obtain ⟨c30, c31⟩ := cells2 c3; clear c40 c41 c42 c43 c44 c45 c46 c47; obtain ⟨c40, c41, c42, c43, c44, c45, c46, c47⟩ := cellsCm c4; clear c70 c71 c72 c73 c74 c75; obtain ⟨c70, c71, c72, c73, c74, c75⟩ := cellsRp c7; clear c6; have c6 := c6x; clear c6x; obtain ⟨c60, c61⟩ := cells2 c6) | (clear mk8; refine wpList_store_v rfl 33 _ _ rfl b7 [.int .i64 10, .string ⟨#[]⟩, .int .i64 0, .string ⟨#[]⟩, .int .i64 0, .int .i64 0] rfl rfl sizeRp c7 rfl (oneRp (rp 10)) ?_; intro w7 hO7 c7x; clear c70 c71 c72 c73 c74 c75; have hz7 : w6.heap.size ≤ w7.heap.size := (Nat.le_of_eq hO7.1.symm); have hy7 : w7.heap.size ≤ w6.heap.size := (Nat.le_of_eq hO7.1); replace c3 := vblk_only c3 hO7 (by omega); replace c4 := vblk_only c4 hO7 (by omega); replace c6 := vblk_only c6 hO7 (by omega); replace hB := hB.trans (hO7.2.2 _ (by omega)); replace hzw := hB.size; clear c30 c31; obtain ⟨c30, c31⟩ := cells2 c3; clear c40 c41 c42 c43 c44 c45 c46 c47; obtain ⟨c40, c41, c42, c43, c44, c45, c46, c47⟩ := cellsCm c4; clear c60 c61; obtain ⟨c60, c61⟩ := cells2 c6; clear c7; have c7 := c7x; clear c7x; obtain ⟨c70, c71, c72, c73, c74, c75⟩ := cellsRp c7) | (fail))
    exact row_cc rfl rfl rfl c6 c7 Tryz.underlying31 Tryz.underlying33 sizeBk sizeRp rfl ⟨_, rfl, own_zero _ _ _ _ _, hB⟩
  | true =>
  cases zt with
  | false =>
    have e : (diR ⟨I, X⟩ ⟨V, N2, F2, U2, B2, C2, D2, Q2⟩ now) = (Bk.zero, rp 10) := di_no _ _ _ (by rw [hZS.out, hZT.out]; rfl)
    rw [e]
    clear e
    have hzw0 : w.heap.size ≤ w.heap.size := Nat.le_refl _
    go_enter Tryz.func11, Tryz.ntmps11
    have mk1 : Hid True := trivial
    have mk2 : Hid True := trivial
    have mk3 : Hid True := trivial
    have mk4 : Hid True := trivial
    have mk5 : Hid True := trivial
    have mk6 : Hid True := trivial
    have mk7 : Hid True := trivial
    have mk8 : Hid True := trivial
    have mk9 : Hid True := trivial
    go_wp2_with (first | (clear mk1; refine wpList_box_v rfl 31 _ rfl [.slice A0 I.length k0, .int .i64 X] rfl ?_; intro b3 w1 hb3 hwb3 hB1 c3; have hz1 : w.heap.size ≤ w1.heap.size := hB1.size; have hB := hB1; have hzw := hB.size; obtain ⟨c30, c31⟩ := cells2 c3) | (clear mk2; refine wpList_box_v rfl 37 _ rfl [.int .i64 V, .string N2, .int .i64 F2, .int .i64 U2, .string B2, .int .i64 C2, .int .i64 D2, .bool Q2] rfl ?_; intro b4 w2 hb4 hwb4 hB2 c4; have hz2 : w1.heap.size ≤ w2.heap.size := hB2.size; replace c3 := vblk_grow c3 hB2; replace hB := hB.trans (hB2.mono (by omega)); replace hzw := hB.size; clear c30 c31; obtain ⟨c30, c31⟩ := cells2 c3; obtain ⟨c40, c41, c42, c43, c44, c45, c46, c47⟩ := cellsCm c4) | (clear mk3; refine wpList_alloc_v rfl 31 rfl _ zeroBk ?_; intro b6 w3 hb6 hwb6 hB3 c6; have hz3 : w2.heap.size ≤ w3.heap.size := hB3.size; replace c3 := vblk_grow c3 hB3; replace c4 := vblk_grow c4 hB3; replace hB := hB.trans (hB3.mono (by omega)); replace hzw := hB.size; clear c30 c31; obtain ⟨c30, c31⟩ := cells2 c3; clear c40 c41 c42 c43 c44 c45 c46 c47; obtain ⟨c40, c41, c42, c43, c44, c45, c46, c47⟩ := cellsCm c4; obtain ⟨c60, c61⟩ := cells2 c6) | (clear mk4; refine wpList_alloc_v rfl 33 rfl _ zeroRp ?_; intro b7 w4 hb7 hwb7 hB4 c7; have hz4 : w3.heap.size ≤ w4.heap.size := hB4.size; replace c3 := vblk_grow c3 hB4; replace c4 := vblk_grow c4 hB4; replace c6 := vblk_grow c6 hB4; replace hB := hB.trans (hB4.mono (by omega)); replace hzw := hB.size; clear c30 c31; obtain ⟨c30, c31⟩ := cells2 c3; clear c40 c41 c42 c43 c44 c45 c46 c47; obtain ⟨c40, c41, c42, c43, c44, c45, c46, c47⟩ := cellsCm c4; clear c60 c61; obtain ⟨c60, c61⟩ := cells2 c6; obtain ⟨c70, c71, c72, c73, c74, c75⟩ := cellsRp c7) | (clear mk5; refine wpList_load_r rfl 31 _ rfl b3 0 [.slice A0 I.length k0, .int .i64 X] rfl _ Tryz.underlying31 rfl sizeBk c3.range ?_) | (clear mk6; go_at_call 19; refine (implStoreOk_any I X _ true hZS _ (R.out.grow hB) HS.out).mono ?_; rintro er w5 ⟨rfl, hB5⟩; have hz5 : w4.heap.size ≤ w5.heap.size := hB5.size; replace c3 := vblk_grow c3 hB5; replace c4 := vblk_grow c4 hB5; replace c6 := vblk_grow c6 hB5; replace c7 := vblk_grow c7 hB5; replace hB := hB.trans (hB5.mono (by omega)); replace hzw := hB.size; clear c30 c31; obtain ⟨c30, c31⟩ := cells2 c3; clear c40 c41 c42 c43 c44 c45 c46 c47; obtain ⟨c40, c41, c42, c43, c44, c45, c46, c47⟩ := cellsCm c4; clear c60 c61; obtain ⟨c60, c61⟩ := cells2 c6; clear c70 c71 c72 c73 c74 c75; obtain ⟨c70, c71, c72, c73, c74, c75⟩ := cellsRp c7) | (clear mk7; go_at_call 37; refine (within_is now 0 1000000 false hZT.out _).mono ?_; rintro er wq ⟨rfl, hq⟩; subst wq) | (clear mk8; refine wpList_store_v rfl 31 _ _ rfl b6 [.slice none 0 0, .int .i64 0] rfl rfl sizeBk c6 rfl (oneBk _ _ _ _) ?_; intro w6 hO6 c6x; clear c60 c61; have hz6 : w5.heap.size ≤ w6.heap.size := (Nat.le_of_eq hO6.1.symm); have hy6 : w6.heap.size ≤ w5.heap.size := (Nat.le_of_eq hO6.1); replace c3 := vblk_only c3 hO6 (by omega); replace c4 := vblk_only c4 hO6 (by omega); replace c7 := vblk_only c7 hO6 (by omega); replace hB := hB.trans (hO6.2.2 _ (by omega)); replace hzw := hB.size; clear c30 c31; obtain ⟨c30, c31⟩ := cells2 c3; clear c40 c41 c42 c43 c44 c45 c46 c47; obtain ⟨c40, c41, c42, c43, c44, c45, c46, c47⟩ := cellsCm c4; clear c70 c71 c72 c73 c74 c75; obtain ⟨c70, c71, c72, c73, c74, c75⟩ := cellsRp c7; clear c6; have c6 := c6x; clear c6x; obtain ⟨c60, c61⟩ := cells2 c6) | (clear mk9; refine wpList_store_v rfl 33 _ _ rfl b7 [.int .i64 10, .string ⟨#[]⟩, .int .i64 0, .string ⟨#[]⟩, .int .i64 0, .int .i64 0] rfl rfl sizeRp c7 rfl (oneRp (rp 10)) ?_; intro w7 hO7 c7x; clear c70 c71 c72 c73 c74 c75; have hz7 : w6.heap.size ≤ w7.heap.size := (Nat.le_of_eq hO7.1.symm); have hy7 : w7.heap.size ≤ w6.heap.size := (Nat.le_of_eq hO7.1); replace c3 := vblk_only c3 hO7 (by omega); replace c4 := vblk_only c4 hO7 (by omega); replace c6 := vblk_only c6 hO7 (by omega); replace hB := hB.trans (hO7.2.2 _ (by omega)); replace hzw := hB.size; clear c30 c31; obtain ⟨c30, c31⟩ := cells2 c3; clear c40 c41 c42 c43 c44 c45 c46 c47; obtain ⟨c40, c41, c42, c43, c44, c45, c46, c47⟩ := cellsCm c4; clear c60 c61; obtain ⟨c60, c61⟩ := cells2 c6; clear c7; have c7 := c7x; clear c7x; obtain ⟨c70, c71, c72, c73, c74, c75⟩ := cellsRp c7) | (fail))
    exact row_cc rfl rfl rfl c6 c7 Tryz.underlying31 Tryz.underlying33 sizeBk sizeRp rfl ⟨_, rfl, own_zero _ _ _ _ _, hB⟩
  | true =>
  have hst : (storeB ⟨I, X⟩ && timeB now) = true := by rw [hZS.out, hZT.out]; rfl
  cases zc with
  | false =>
    have e : (diR ⟨I, X⟩ ⟨V, N2, F2, U2, B2, C2, D2, Q2⟩ now) = (⟨I, X⟩, rp 10) := di_bad _ _ _ hst hZC.out
    rw [e]
    clear e hst
    have hzw0 : w.heap.size ≤ w.heap.size := Nat.le_refl _
    go_enter Tryz.func11, Tryz.ntmps11
    have mk1 : Hid True := trivial
    have mk2 : Hid True := trivial
    have mk3 : Hid True := trivial
    have mk4 : Hid True := trivial
    have mk5 : Hid True := trivial
    have mk6 : Hid True := trivial
    have mk7 : Hid True := trivial
    have mk8 : Hid True := trivial
    have mk9 : Hid True := trivial
    have mk10 : Hid True := trivial
    have mk11 : Hid True := trivial
    have mk12 : Hid True := trivial
    have mk13 : Hid True := trivial
    go_wp2_with (first | (clear mk1; refine wpList_box_v rfl 31 _ rfl [.slice A0 I.length k0, .int .i64 X] rfl ?_; intro b3 w1 hb3 hwb3 hB1 c3; have hz1 : w.heap.size ≤ w1.heap.size := hB1.size; have hB := hB1; have hzw := hB.size; obtain ⟨c30, c31⟩ := cells2 c3) | (clear mk2; refine wpList_box_v rfl 37 _ rfl [.int .i64 V, .string N2, .int .i64 F2, .int .i64 U2, .string B2, .int .i64 C2, .int .i64 D2, .bool Q2] rfl ?_; intro b4 w2 hb4 hwb4 hB2 c4; have hz2 : w1.heap.size ≤ w2.heap.size := hB2.size; replace c3 := vblk_grow c3 hB2; replace hB := hB.trans (hB2.mono (by omega)); replace hzw := hB.size; clear c30 c31; obtain ⟨c30, c31⟩ := cells2 c3; obtain ⟨c40, c41, c42, c43, c44, c45, c46, c47⟩ := cellsCm c4) | (clear mk3; refine wpList_alloc_v rfl 31 rfl _ zeroBk ?_; intro b6 w3 hb6 hwb6 hB3 c6; have hz3 : w2.heap.size ≤ w3.heap.size := hB3.size; replace c3 := vblk_grow c3 hB3; replace c4 := vblk_grow c4 hB3; replace hB := hB.trans (hB3.mono (by omega)); replace hzw := hB.size; clear c30 c31; obtain ⟨c30, c31⟩ := cells2 c3; clear c40 c41 c42 c43 c44 c45 c46 c47; obtain ⟨c40, c41, c42, c43, c44, c45, c46, c47⟩ := cellsCm c4; obtain ⟨c60, c61⟩ := cells2 c6) | (clear mk4; refine wpList_alloc_v rfl 33 rfl _ zeroRp ?_; intro b7 w4 hb7 hwb7 hB4 c7; have hz4 : w3.heap.size ≤ w4.heap.size := hB4.size; replace c3 := vblk_grow c3 hB4; replace c4 := vblk_grow c4 hB4; replace c6 := vblk_grow c6 hB4; replace hB := hB.trans (hB4.mono (by omega)); replace hzw := hB.size; clear c30 c31; obtain ⟨c30, c31⟩ := cells2 c3; clear c40 c41 c42 c43 c44 c45 c46 c47; obtain ⟨c40, c41, c42, c43, c44, c45, c46, c47⟩ := cellsCm c4; clear c60 c61; obtain ⟨c60, c61⟩ := cells2 c6; obtain ⟨c70, c71, c72, c73, c74, c75⟩ := cellsRp c7) | (clear mk5; refine wpList_load_r rfl 31 _ rfl b3 0 [.slice A0 I.length k0, .int .i64 X] rfl _ Tryz.underlying31 rfl sizeBk c3.range ?_) | (clear mk6; go_at_call 19; refine (implStoreOk_any I X _ true hZS _ (R.out.grow hB) HS.out).mono ?_; rintro er w5 ⟨rfl, hB5⟩; have hz5 : w4.heap.size ≤ w5.heap.size := hB5.size; replace c3 := vblk_grow c3 hB5; replace c4 := vblk_grow c4 hB5; replace c6 := vblk_grow c6 hB5; replace c7 := vblk_grow c7 hB5; replace hB := hB.trans (hB5.mono (by omega)); replace hzw := hB.size; clear c30 c31; obtain ⟨c30, c31⟩ := cells2 c3; clear c40 c41 c42 c43 c44 c45 c46 c47; obtain ⟨c40, c41, c42, c43, c44, c45, c46, c47⟩ := cellsCm c4; clear c60 c61; obtain ⟨c60, c61⟩ := cells2 c6; clear c70 c71 c72 c73 c74 c75; obtain ⟨c70, c71, c72, c73, c74, c75⟩ := cellsRp c7) | (clear mk7; go_at_call 37; refine (within_is now 0 1000000 true hZT.out _).mono ?_; rintro er wq ⟨rfl, hq⟩; subst wq) | (clear mk8; refine wpList_load_r rfl 37 _ rfl b4 0 [.int .i64 V, .string N2, .int .i64 F2, .int .i64 U2, .string B2, .int .i64 C2, .int .i64 D2, .bool Q2] rfl _ Tryz.underlying37 rfl sizeCm c4.range ?_) | (clear mk9; go_at_call 38; refine (implCmdOk_any V N2 B2 F2 U2 C2 D2 Q2 false hZC (by omega) (by omega) _).mono ?_; rintro er w6 ⟨rfl, hB6⟩; have hz6 : w5.heap.size ≤ w6.heap.size := hB6.size; replace c3 := vblk_grow c3 hB6; replace c4 := vblk_grow c4 hB6; replace c6 := vblk_grow c6 hB6; replace c7 := vblk_grow c7 hB6; replace hB := hB.trans (hB6.mono (by omega)); replace hzw := hB.size; clear c30 c31; obtain ⟨c30, c31⟩ := cells2 c3; clear c40 c41 c42 c43 c44 c45 c46 c47; obtain ⟨c40, c41, c42, c43, c44, c45, c46, c47⟩ := cellsCm c4; clear c60 c61; obtain ⟨c60, c61⟩ := cells2 c6; clear c70 c71 c72 c73 c74 c75; obtain ⟨c70, c71, c72, c73, c74, c75⟩ := cellsRp c7) | (clear mk10; refine wpList_load_r rfl 31 _ rfl b3 0 [.slice A0 I.length k0, .int .i64 X] rfl _ Tryz.underlying31 rfl sizeBk c3.range ?_) | (clear mk11; go_at_call 39; refine (copyBook_any I X _ _ (R.out.grow hB) hl).mono ?_; rintro er w7 ⟨v1, rfl, o1, hB7⟩; have hz7 : w6.heap.size ≤ w7.heap.size := hB7.size; replace c3 := vblk_grow c3 hB7; replace c4 := vblk_grow c4 hB7; replace c6 := vblk_grow c6 hB7; replace c7 := vblk_grow c7 hB7; replace hB := hB.trans (hB7.mono (by omega)); replace hzw := hB.size; clear c30 c31; obtain ⟨c30, c31⟩ := cells2 c3; clear c40 c41 c42 c43 c44 c45 c46 c47; obtain ⟨c40, c41, c42, c43, c44, c45, c46, c47⟩ := cellsCm c4; clear c60 c61; obtain ⟨c60, c61⟩ := cells2 c6; clear c70 c71 c72 c73 c74 c75; obtain ⟨c70, c71, c72, c73, c74, c75⟩ := cellsRp c7; obtain ⟨A1, n1, k1, rfl⟩ := o1.slice) | (clear mk12; refine wpList_store_v rfl 31 _ _ rfl b6 [.slice A1 n1 k1, .int .i64 X] rfl rfl sizeBk c6 rfl (oneBk _ _ _ _) ?_; intro w8 hO8 c6x; clear c60 c61; have hz8 : w7.heap.size ≤ w8.heap.size := (Nat.le_of_eq hO8.1.symm); have hy8 : w8.heap.size ≤ w7.heap.size := (Nat.le_of_eq hO8.1); replace o1 := o1.only hO8 c6 (by decide); replace c3 := vblk_only c3 hO8 (by omega); replace c4 := vblk_only c4 hO8 (by omega); replace c7 := vblk_only c7 hO8 (by omega); replace hB := hB.trans (hO8.2.2 _ (by omega)); replace hzw := hB.size; clear c30 c31; obtain ⟨c30, c31⟩ := cells2 c3; clear c40 c41 c42 c43 c44 c45 c46 c47; obtain ⟨c40, c41, c42, c43, c44, c45, c46, c47⟩ := cellsCm c4; clear c70 c71 c72 c73 c74 c75; obtain ⟨c70, c71, c72, c73, c74, c75⟩ := cellsRp c7; clear c6; have c6 := c6x; clear c6x; obtain ⟨c60, c61⟩ := cells2 c6) | (clear mk13; refine wpList_store_v rfl 33 _ _ rfl b7 [.int .i64 10, .string ⟨#[]⟩, .int .i64 0, .string ⟨#[]⟩, .int .i64 0, .int .i64 0] rfl rfl sizeRp c7 rfl (oneRp (rp 10)) ?_; intro w9 hO9 c7x; clear c70 c71 c72 c73 c74 c75; have hz9 : w8.heap.size ≤ w9.heap.size := (Nat.le_of_eq hO9.1.symm); have hy9 : w9.heap.size ≤ w8.heap.size := (Nat.le_of_eq hO9.1); replace o1 := o1.only hO9 c7 (by decide); replace c3 := vblk_only c3 hO9 (by omega); replace c4 := vblk_only c4 hO9 (by omega); replace c6 := vblk_only c6 hO9 (by omega); replace hB := hB.trans (hO9.2.2 _ (by omega)); replace hzw := hB.size; clear c30 c31; obtain ⟨c30, c31⟩ := cells2 c3; clear c40 c41 c42 c43 c44 c45 c46 c47; obtain ⟨c40, c41, c42, c43, c44, c45, c46, c47⟩ := cellsCm c4; clear c60 c61; obtain ⟨c60, c61⟩ := cells2 c6; clear c7; have c7 := c7x; clear c7x; obtain ⟨c70, c71, c72, c73, c74, c75⟩ := cellsRp c7) | (fail))
    exact row_cc rfl rfl rfl c6 c7 Tryz.underlying31 Tryz.underlying33 sizeBk sizeRp rfl ⟨_, rfl, (o1.wide (by omega) (by omega)).top, hB⟩
  | true =>
    have e : (diR ⟨I, X⟩ ⟨V, N2, F2, U2, B2, C2, D2, Q2⟩ now) = doK ⟨ageL I now, X⟩ ⟨V, N2, F2, U2, B2, C2, D2, Q2⟩ := di_yes _ _ _ hst hZC.out
    have hag : agR ⟨I, X⟩ now = ⟨ageL I now, X⟩ := by unfold agR; rw [hst, if_pos rfl]
    have ok : StOk ⟨ageL I now, X⟩ := ⟨age_ok (storeB_iff.1 hZS.out).bk now, (storeB_iff.1 hZS.out).x0, (storeB_iff.1 hZS.out).x1⟩
    have hc : COk ⟨V, N2, F2, U2, B2, C2, D2, Q2⟩ := cmdB_iff.1 hZC.out
    have HG := fun v w r => implAged_any I X now v w r HS.out hl
    unfold PostG at HG
    rw [hag] at HG
    rw [e]
    clear e hst hag
    obtain ⟨A, hA⟩ := hid_ex (ageL I now)
    rw [hA.out] at ok HG ⊢
    have HAG : Hid _ := HG
    clear HG hA
    obtain ⟨⟨⟨J, Y⟩, ⟨r1, r2, r3, r4, r5, r6⟩⟩, hR⟩ := hid_ex (doK ⟨A, X⟩ ⟨V, N2, F2, U2, B2, C2, D2, Q2⟩)
    cases hlk : lookI A N2 with
    | none =>
      obtain ⟨k, rfl, hk1, hk2, G, x, y, hx, hy, hG, ox, oy, hcf, hdo⟩ := deed_none A X V N2 F2 U2 B2 C2 D2 Q2 ok hc hlk
      have hG' : y = .func (.func G) #[] #[] := hG
      subst hG'
      have hlk' : Hid _ := hlk
      unfold PostD at hdo ⊢
      rw [hR.out] at hdo ⊢
      dsimp only [csRp] at hdo ⊢
      have HD : Hid _ := hdo
      have HX : Hid _ := hx
      have HY : Hid _ := hy
      have hfld : ∀ w : World, (Instr.field 75 (.agg #[x, .func (.func G) #[] #[]]) 1).run Tryz.prog w = .ok (.func (.func G) #[] #[]) w := fun w => by kernel_rfl
      have HOX : Hid _ := ox
      have HOY : Hid _ := oy
      clear hdo hx hy hG hR hlk ok hc ox oy
      have hzw0 : w.heap.size ≤ w.heap.size := Nat.le_refl _
      go_enter Tryz.func11, Tryz.ntmps11
      have mk1 : Hid True := trivial
      have mk2 : Hid True := trivial
      have mk3 : Hid True := trivial
      have mk4 : Hid True := trivial
      have mk5 : Hid True := trivial
      have mk6 : Hid True := trivial
      have mk7 : Hid True := trivial
      have mk8 : Hid True := trivial
      have mk9 : Hid True := trivial
      have mk10 : Hid True := trivial
      have mk11 : Hid True := trivial
      have mk12 : Hid True := trivial
      have mk13 : Hid True := trivial
      have mk14 : Hid True := trivial
      have mk15 : Hid True := trivial
      go_upto_region 9 with (first | (clear mk1; refine wpList_box_v rfl 31 _ rfl [.slice A0 I.length k0, .int .i64 X] rfl ?_; intro b3 w1 hb3 hwb3 hB1 c3; have hz1 : w.heap.size ≤ w1.heap.size := hB1.size; have hB := hB1; have hzw := hB.size; obtain ⟨c30, c31⟩ := cells2 c3) | (clear mk2; refine wpList_box_v rfl 37 _ rfl [.int .i64 k, .string N2, .int .i64 F2, .int .i64 U2, .string B2, .int .i64 C2, .int .i64 D2, .bool Q2] rfl ?_; intro b4 w2 hb4 hwb4 hB2 c4; have hz2 : w1.heap.size ≤ w2.heap.size := hB2.size; replace c3 := vblk_grow c3 hB2; replace hB := hB.trans (hB2.mono (by omega)); replace hzw := hB.size; clear c30 c31; obtain ⟨c30, c31⟩ := cells2 c3; obtain ⟨c40, c41, c42, c43, c44, c45, c46, c47⟩ := cellsCm c4) | (clear mk3; refine wpList_alloc_v rfl 31 rfl _ zeroBk ?_; intro b6 w3 hb6 hwb6 hB3 c6; have hz3 : w2.heap.size ≤ w3.heap.size := hB3.size; replace c3 := vblk_grow c3 hB3; replace c4 := vblk_grow c4 hB3; replace hB := hB.trans (hB3.mono (by omega)); replace hzw := hB.size; clear c30 c31; obtain ⟨c30, c31⟩ := cells2 c3; clear c40 c41 c42 c43 c44 c45 c46 c47; obtain ⟨c40, c41, c42, c43, c44, c45, c46, c47⟩ := cellsCm c4; obtain ⟨c60, c61⟩ := cells2 c6) | (clear mk4; refine wpList_alloc_v rfl 33 rfl _ zeroRp ?_; intro b7 w4 hb7 hwb7 hB4 c7; have hz4 : w3.heap.size ≤ w4.heap.size := hB4.size; replace c3 := vblk_grow c3 hB4; replace c4 := vblk_grow c4 hB4; replace c6 := vblk_grow c6 hB4; replace hB := hB.trans (hB4.mono (by omega)); replace hzw := hB.size; clear c30 c31; obtain ⟨c30, c31⟩ := cells2 c3; clear c40 c41 c42 c43 c44 c45 c46 c47; obtain ⟨c40, c41, c42, c43, c44, c45, c46, c47⟩ := cellsCm c4; clear c60 c61; obtain ⟨c60, c61⟩ := cells2 c6; obtain ⟨c70, c71, c72, c73, c74, c75⟩ := cellsRp c7) | (clear mk5; refine wpList_load_r rfl 31 _ rfl b3 0 [.slice A0 I.length k0, .int .i64 X] rfl _ Tryz.underlying31 rfl sizeBk c3.range ?_) | (clear mk6; go_at_call 19; refine (implStoreOk_any I X _ true hZS _ (R.out.grow hB) HS.out).mono ?_; rintro er w5 ⟨rfl, hB5⟩; have hz5 : w4.heap.size ≤ w5.heap.size := hB5.size; replace c3 := vblk_grow c3 hB5; replace c4 := vblk_grow c4 hB5; replace c6 := vblk_grow c6 hB5; replace c7 := vblk_grow c7 hB5; replace hB := hB.trans (hB5.mono (by omega)); replace hzw := hB.size; clear c30 c31; obtain ⟨c30, c31⟩ := cells2 c3; clear c40 c41 c42 c43 c44 c45 c46 c47; obtain ⟨c40, c41, c42, c43, c44, c45, c46, c47⟩ := cellsCm c4; clear c60 c61; obtain ⟨c60, c61⟩ := cells2 c6; clear c70 c71 c72 c73 c74 c75; obtain ⟨c70, c71, c72, c73, c74, c75⟩ := cellsRp c7) | (clear mk7; go_at_call 37; refine (within_is now 0 1000000 true hZT.out _).mono ?_; rintro er wq ⟨rfl, hq⟩; subst wq) | (clear mk8; refine wpList_load_r rfl 37 _ rfl b4 0 [.int .i64 k, .string N2, .int .i64 F2, .int .i64 U2, .string B2, .int .i64 C2, .int .i64 D2, .bool Q2] rfl _ Tryz.underlying37 rfl sizeCm c4.range ?_) | (clear mk9; go_at_call 38; refine (implCmdOk_any (k : Int) N2 B2 F2 U2 C2 D2 Q2 true hZC (by omega) (by omega) _).mono ?_; rintro er w6 ⟨rfl, hB6⟩; have hz6 : w5.heap.size ≤ w6.heap.size := hB6.size; replace c3 := vblk_grow c3 hB6; replace c4 := vblk_grow c4 hB6; replace c6 := vblk_grow c6 hB6; replace c7 := vblk_grow c7 hB6; replace hB := hB.trans (hB6.mono (by omega)); replace hzw := hB.size; clear c30 c31; obtain ⟨c30, c31⟩ := cells2 c3; clear c40 c41 c42 c43 c44 c45 c46 c47; obtain ⟨c40, c41, c42, c43, c44, c45, c46, c47⟩ := cellsCm c4; clear c60 c61; obtain ⟨c60, c61⟩ := cells2 c6; clear c70 c71 c72 c73 c74 c75; obtain ⟨c70, c71, c72, c73, c74, c75⟩ := cellsRp c7) | (clear mk10; refine wpList_load_r rfl 31 _ rfl b3 0 [.slice A0 I.length k0, .int .i64 X] rfl _ Tryz.underlying31 rfl sizeBk c3.range ?_) | (clear mk11; go_at_call 40; refine (HAG.out _ _ (R.out.grow hB)).mono ?_; rintro er w7 ⟨v1, vg, rfl, o, -, hB7⟩; have hz7 : w6.heap.size ≤ w7.heap.size := hB7.size; replace c3 := vblk_grow c3 hB7; replace c4 := vblk_grow c4 hB7; replace c6 := vblk_grow c6 hB7; replace c7 := vblk_grow c7 hB7; replace hB := hB.trans (hB7.mono (by omega)); replace hzw := hB.size; clear c30 c31; obtain ⟨c30, c31⟩ := cells2 c3; clear c40 c41 c42 c43 c44 c45 c46 c47; obtain ⟨c40, c41, c42, c43, c44, c45, c46, c47⟩ := cellsCm c4; clear c60 c61; obtain ⟨c60, c61⟩ := cells2 c6; clear c70 c71 c72 c73 c74 c75; obtain ⟨c70, c71, c72, c73, c74, c75⟩ := cellsRp c7; obtain ⟨A1, n1, k1, rfl⟩ := o.slice) | (clear mk12; refine wpList_store_v rfl 31 _ _ rfl b3 [.slice A1 n1 k1, .int .i64 X] rfl rfl sizeBk c3 rfl (oneBk _ _ _ _) ?_; intro w8 hO8 c3x; clear c30 c31; have hz8 : w7.heap.size ≤ w8.heap.size := (Nat.le_of_eq hO8.1.symm); have hy8 : w8.heap.size ≤ w7.heap.size := (Nat.le_of_eq hO8.1); replace o := o.only hO8 c3 (by decide); replace c4 := vblk_only c4 hO8 (by omega); replace c6 := vblk_only c6 hO8 (by omega); replace c7 := vblk_only c7 hO8 (by omega); replace hB := hB.trans (hO8.2.2 _ (by omega)); replace hzw := hB.size; clear c40 c41 c42 c43 c44 c45 c46 c47; obtain ⟨c40, c41, c42, c43, c44, c45, c46, c47⟩ := cellsCm c4; clear c60 c61; obtain ⟨c60, c61⟩ := cells2 c6; clear c70 c71 c72 c73 c74 c75; obtain ⟨c70, c71, c72, c73, c74, c75⟩ := cellsRp c7; clear c3; have c3 := c3x; clear c3x; obtain ⟨c30, c31⟩ := cells2 c3) | (clear mk13; go_at_call 41; refine (itemNamed_no A N2 _ _ o.rd hlk'.out).mono ?_; rintro er w9 ⟨rfl, hB9⟩; have hz9 : w8.heap.size ≤ w9.heap.size := hB9.size; replace o := o.grow hB9; replace c4 := vblk_grow c4 hB9; replace c6 := vblk_grow c6 hB9; replace c7 := vblk_grow c7 hB9; replace c3 := vblk_grow c3 hB9; replace hB := hB.trans (hB9.mono (by omega)); replace hzw := hB.size; clear c40 c41 c42 c43 c44 c45 c46 c47; obtain ⟨c40, c41, c42, c43, c44, c45, c46, c47⟩ := cellsCm c4; clear c60 c61; obtain ⟨c60, c61⟩ := cells2 c6; clear c70 c71 c72 c73 c74 c75; obtain ⟨c70, c71, c72, c73, c74, c75⟩ := cellsRp c7; clear c30 c31; obtain ⟨c30, c31⟩ := cells2 c3) | (clear mk14; refine wpList_alloc_v rfl 56 rfl _ zeroIt ?_; intro b8 w10 hb8 hwb8 hB10 c8; have hz10 : w9.heap.size ≤ w10.heap.size := hB10.size; replace o := o.grow hB10; replace c4 := vblk_grow c4 hB10; replace c6 := vblk_grow c6 hB10; replace c7 := vblk_grow c7 hB10; replace c3 := vblk_grow c3 hB10; replace hB := hB.trans (hB10.mono (by omega)); replace hzw := hB.size; clear c40 c41 c42 c43 c44 c45 c46 c47; obtain ⟨c40, c41, c42, c43, c44, c45, c46, c47⟩ := cellsCm c4; clear c60 c61; obtain ⟨c60, c61⟩ := cells2 c6; clear c70 c71 c72 c73 c74 c75; obtain ⟨c70, c71, c72, c73, c74, c75⟩ := cellsRp c7; clear c30 c31; obtain ⟨c30, c31⟩ := cells2 c3; obtain ⟨c80, c81, c82, c83, c84⟩ := cells5 c8) | (clear mk15; refine wpList_store_v rfl 56 _ _ rfl b8 [.string emp, .int .i64 0, .string emp, .int .i64 0, .int .i64 0] rfl rfl sizeIt c8 rfl (ic_one ZIt) ?_; intro w11 hO11 c8x; clear c80 c81 c82 c83 c84; have hz11 : w10.heap.size ≤ w11.heap.size := (Nat.le_of_eq hO11.1.symm); have hy11 : w11.heap.size ≤ w10.heap.size := (Nat.le_of_eq hO11.1); replace o := o.below (hO11.2.2 b8 (Nat.le_refl _)) (by omega); replace c4 := vblk_only c4 hO11 (by omega); replace c6 := vblk_only c6 hO11 (by omega); replace c7 := vblk_only c7 hO11 (by omega); replace c3 := vblk_only c3 hO11 (by omega); replace hB := hB.trans (hO11.2.2 _ (by omega)); replace hzw := hB.size; clear c40 c41 c42 c43 c44 c45 c46 c47; obtain ⟨c40, c41, c42, c43, c44, c45, c46, c47⟩ := cellsCm c4; clear c60 c61; obtain ⟨c60, c61⟩ := cells2 c6; clear c70 c71 c72 c73 c74 c75; obtain ⟨c70, c71, c72, c73, c74, c75⟩ := cellsRp c7; clear c30 c31; obtain ⟨c30, c31⟩ := cells2 c3; clear c8; have c8 := c8x; clear c8x; obtain ⟨c80, c81, c82, c83, c84⟩ := cells5 c8) | (fail))
      have hBd : Below w11.heap.size w11 w11.drew := (Below.refl _ _).drew
      have hzd : w11.drew.heap.size ≤ w11.heap.size := Nat.le_refl _
      have hzd2 : w11.heap.size ≤ w11.drew.heap.size := Nat.le_refl _
      replace o := o.grow hBd
      replace c4 := vblk_grow c4 hBd
      clear c40 c41 c42 c43 c44 c45 c46 c47
      obtain ⟨c40, c41, c42, c43, c44, c45, c46, c47⟩ := cellsCm c4
      replace c6 := vblk_grow c6 hBd
      clear c60 c61
      obtain ⟨c60, c61⟩ := cells2 c6
      replace c7 := vblk_grow c7 hBd
      clear c70 c71 c72 c73 c74 c75
      obtain ⟨c70, c71, c72, c73, c74, c75⟩ := cellsRp c7
      replace c3 := vblk_grow c3 hBd
      clear c30 c31
      obtain ⟨c30, c31⟩ := cells2 c3
      replace c8 := vblk_grow c8 hBd
      clear c80 c81 c82 c83 c84
      obtain ⟨c80, c81, c82, c83, c84⟩ := cells5 c8
      replace hB := hB.trans (hBd.mono (by omega))
      replace hzw := hB.size
      (try simp only [Act.put])
      (try simp only [List.setIfInBounds_toArray, List.set_cons_zero, List.set_cons_succ])
      clear c40 c41 c42 c43 c44 c45 c46 c47
      clear c60 c61
      clear c70 c71 c72 c73 c74 c75
      clear c30 c31
      clear c80 c81 c82 c83 c84
      refine wp_region_held_drew (S := fun w' => VBlk w' b3 31 [.slice A1 n1 k1, .int .i64 X] ∧ VBlk w' b4 37 [.int .i64 k, .string N2, .int .i64 F2, .int .i64 U2, .string B2, .int .i64 C2, .int .i64 D2, .bool Q2] ∧ VBlk w' b8 56 [.string emp, .int .i64 0, .string emp, .int .i64 0, .int .i64 0] ∧ w'.cell? ⟨b4, 0, none⟩ = some (.int .i64 k)) (by kernel_rfl) (⟨c3, c4, c8, c4.cell 0 (by simp)⟩) (fun hHeld => ?_)
      refine wpAnyH_take (i := 0) (oi := { dst := some 51, op := Op.fieldAddr 37 (Operand.tmp 4) 0, type := 0, pos := "l13_store.go:205", after := #[], guard := none }) (v := ?_) rfl (by kernel_rfl) (by kernel_rfl) (by kernel_rfl) (fun _ _ _ h => h) (Or.inl ⟨by rfl, ?_⟩) (by assumption) ?_
      rotate_left 1
      · intro w' hSw; (try dsimp only at hSw); go_simp; (try with_reducible rfl)
      (try simp only [Act.put, List.setIfInBounds_toArray, List.set_cons_zero, List.set_cons_succ])
      refine wpAnyH_take (i := 1) (oi := { dst := some 52, op := Op.load 2 (Operand.tmp 51), type := 2, pos := "l13_store.go:205", after := #[{ on := 0, ground := Ground.data }], guard := none }) (v := ?_) rfl (by kernel_rfl) (by kernel_rfl) (by kernel_rfl) (fun _ _ _ h => h) (Or.inl ⟨by rfl, ?_⟩) (by assumption) ?_
      rotate_left 1
      · intro w' hSw; (try dsimp only at hSw); go_simp; (try with_reducible rfl)
      (try simp only [Act.put, List.setIfInBounds_toArray, List.set_cons_zero, List.set_cons_succ])
      refine wpAnyH_take (i := 4) (oi := { dst := some 55, op := Op.load 31 (Operand.tmp 3), type := 31, pos := "l13_store.go:205", after := #[], guard := none }) (v := .agg [.slice A1 n1 k1, .int .i64 X].toArray) rfl (by kernel_rfl) (by kernel_rfl) (by kernel_rfl) (fun _ _ _ h => h) (yieldsIf_load_mid (by rfl) 31 _ rfl b3 0 rfl [.slice A1 n1 k1, .int .i64 X] _ (fun w' hw' => hw'.1.range) Tryz.underlying31 rfl sizeBk) (by assumption) ?_
      (try simp only [Act.put, List.setIfInBounds_toArray, List.set_cons_zero, List.set_cons_succ])
      refine wpAnyH_take (i := 5) (oi := { dst := some 56, op := Op.load 56 (Operand.tmp 8), type := 56, pos := "l13_store.go:205", after := #[], guard := none }) (v := .agg [.string emp, .int .i64 0, .string emp, .int .i64 0, .int .i64 0].toArray) rfl (by kernel_rfl) (by kernel_rfl) (by kernel_rfl) (fun _ _ _ h => h) (yieldsIf_load_mid (by rfl) 56 _ rfl b8 0 rfl [.string emp, .int .i64 0, .string emp, .int .i64 0, .int .i64 0] _ (fun w' hw' => hw'.2.2.1.range) Tryz.underlying56 rfl sizeIt) (by assumption) ?_
      (try simp only [Act.put, List.setIfInBounds_toArray, List.set_cons_zero, List.set_cons_succ])
      refine wpAnyH_take (i := 6) (oi := { dst := some 57, op := Op.load 37 (Operand.tmp 4), type := 37, pos := "l13_store.go:205", after := #[], guard := none }) (v := .agg [.int .i64 k, .string N2, .int .i64 F2, .int .i64 U2, .string B2, .int .i64 C2, .int .i64 D2, .bool Q2].toArray) rfl (by kernel_rfl) (by kernel_rfl) (by kernel_rfl) (fun _ _ _ h => h) (yieldsIf_load_mid (by rfl) 37 _ rfl b4 0 rfl [.int .i64 k, .string N2, .int .i64 F2, .int .i64 U2, .string B2, .int .i64 C2, .int .i64 D2, .bool Q2] _ (fun w' hw' => hw'.2.1.range) Tryz.underlying37 rfl sizeCm) (by assumption) ?_
      (try simp only [Act.put, List.setIfInBounds_toArray, List.set_cons_zero, List.set_cons_succ])
      refine wpAnyH_ready (rs := [2]) (by kernel_rfl) (by simp) ?_
      refine AllReadyH.cons (o := { dst := some 53, op := Op.call { callee := Callee.value (Operand.func 42), args := #[Operand.tmp 52], argTypes := #[2] }, type := 75, pos := "l13_store.go:205", after := #[{ on := 1, ground := Ground.data }], guard := none }) rfl (fun KC hKC => ?_) AllReadyH.nil
      go_simp
      go_at_call 42
      refine (deedOf_any k hk1 hk2 _ _ HX.out HY.out HOX.out HOY.out _).mono ?_
      rintro er wr2 ⟨rfl, hB2r⟩
      have hz2r : w11.drew.heap.size ≤ wr2.heap.size := hB2r.size
      replace o := o.grow hB2r
      (try replace o2 := o2.grow hB2r)
      replace c4 := vblk_grow c4 hB2r
      replace c6 := vblk_grow c6 hB2r
      replace c7 := vblk_grow c7 hB2r
      replace c3 := vblk_grow c3 hB2r
      replace c8 := vblk_grow c8 hB2r
      replace hB := hB.trans (hB2r.mono (by omega))
      replace hzw := hB.size
      refine hKC.out _ _ (⟨c3, c4, c8, c4.cell 0 (by simp)⟩) (fun hHeld2 => ?_)
      clear hKC KC hHeld
      have hHeld := hHeld2
      clear hHeld2
      (try simp only [Act.put, List.setIfInBounds_toArray, List.set_cons_zero, List.set_cons_succ])
      refine wpAnyH_take (i := 3) (oi := { dst := some 54, op := Op.field 75 (Operand.tmp 53) 1, type := 73, pos := "l13_store.go:205", after := #[{ on := 2, ground := Ground.data }], guard := none }) (v := ?_) rfl (by kernel_rfl) (by kernel_rfl) (by kernel_rfl) (fun _ _ _ h => h) (Or.inl ⟨by rfl, ?_⟩) (by assumption) ?_
      rotate_left 1
      · intro w' hSw; (try dsimp only at hSw); go_simp; (try with_reducible rfl)
      (try simp only [Act.put, List.setIfInBounds_toArray, List.set_cons_zero, List.set_cons_succ])
      refine wpAnyH_ready (rs := [7]) (by kernel_rfl) (by simp) ?_
      refine AllReadyH.cons (o := { dst := some 58, op := Op.call { callee := Callee.value (Operand.tmp 54), args := #[Operand.tmp 55, Operand.tmp 56, Operand.tmp 57], argTypes := #[31, 56, 37] }, type := 34, pos := "l13_store.go:205", after := #[{ on := 3, ground := Ground.data }, { on := 4, ground := Ground.data }, { on := 5, ground := Ground.data }, { on := 6, ground := Ground.data }, { on := 2, ground := Ground.chain }], guard := none }) rfl (fun KC hKC => ?_) AllReadyH.nil
      go_simp
      refine (HD.out _ w.heap.size _ (o.wide (lo' := w.heap.size) (by omega) (Nat.le_refl _)).top (by omega) (EN.out.grow hB)).mono ?_
      rintro er wr7 ⟨v2, rfl, o2, hB7r⟩
      have hz7r : wr2.heap.size ≤ wr7.heap.size := hB7r.size
      replace o := o.grow hB7r
      replace c4 := vblk_grow c4 hB7r
      replace c6 := vblk_grow c6 hB7r
      replace c7 := vblk_grow c7 hB7r
      replace c3 := vblk_grow c3 hB7r
      replace c8 := vblk_grow c8 hB7r
      replace hB := hB.trans (hB7r.mono (by omega))
      replace hzw := hB.size
      obtain ⟨A2, n2, k2, rfl⟩ := o2.slice
      refine hKC.out _ _ (⟨c3, c4, c8, c4.cell 0 (by simp)⟩) (fun hHeld2 => ?_)
      clear hKC KC hHeld
      have hHeld := hHeld2
      clear hHeld2
      (try simp only [Act.put, List.setIfInBounds_toArray, List.set_cons_zero, List.set_cons_succ])
      refine wpAnyH_take (i := 8) (oi := { dst := some 59, op := Op.extract (Operand.tmp 58) 0, type := 31, pos := "l13_store.go:205", after := #[{ on := 7, ground := Ground.data }], guard := none }) (v := ?_) rfl (by kernel_rfl) (by kernel_rfl) (by kernel_rfl) (fun _ _ _ h => h) (Or.inl ⟨by rfl, ?_⟩) (by assumption) ?_
      rotate_left 1
      · intro w' hSw; (try dsimp only at hSw); go_simp; (try with_reducible rfl)
      (try simp only [Act.put, List.setIfInBounds_toArray, List.set_cons_zero, List.set_cons_succ])
      refine wpAnyH_take (i := 9) (oi := { dst := some 60, op := Op.extract (Operand.tmp 58) 1, type := 33, pos := "l13_store.go:205", after := #[{ on := 7, ground := Ground.data }], guard := none }) (v := ?_) rfl (by kernel_rfl) (by kernel_rfl) (by kernel_rfl) (fun _ _ _ h => h) (Or.inl ⟨by rfl, ?_⟩) (by assumption) ?_
      rotate_left 1
      · intro w' hSw; (try dsimp only at hSw); go_simp; (try with_reducible rfl)
      (try simp only [Act.put, List.setIfInBounds_toArray, List.set_cons_zero, List.set_cons_succ])
      refine wpAnyH_ready (rs := [10]) (by kernel_rfl) (by simp) ?_
      refine AllReadyH.cons (o := { dst := none, op := Op.store 31 (Operand.tmp 6) (Operand.tmp 59), type := 0, pos := "l13_store.go:205", after := #[{ on := 8, ground := Ground.data }, { on := 7, ground := Ground.chain }, { on := 0, ground := Ground.phase }, { on := 1, ground := Ground.phase }, { on := 2, ground := Ground.phase }, { on := 3, ground := Ground.phase }, { on := 4, ground := Ground.phase }, { on := 5, ground := Ground.phase }, { on := 6, ground := Ground.phase }, { on := 7, ground := Ground.phase }, { on := 8, ground := Ground.phase }, { on := 9, ground := Ground.phase }], guard := none }) rfl (fun KC hKC => ?_) AllReadyH.nil
      refine step_store_v rfl 31 _ _ rfl b6 [.slice A2 n2 k2, .int .i64 Y] rfl rfl sizeBk c6 rfl (oneBk _ _ _ _) ?_
      intro wr10 hO10r c6x
      have hz10r : wr7.heap.size ≤ wr10.heap.size := Nat.le_of_eq hO10r.1.symm
      have hy10r : wr10.heap.size ≤ wr7.heap.size := Nat.le_of_eq hO10r.1
      (try replace o := o.only hO10r c6 (by decide))
      (try replace o2 := o2.only hO10r c6 (by decide))
      replace c4 := vblk_only c4 hO10r (by omega)
      replace c7 := vblk_only c7 hO10r (by omega)
      replace c3 := vblk_only c3 hO10r (by omega)
      replace c8 := vblk_only c8 hO10r (by omega)
      clear c6
      have c6 := c6x
      clear c6x
      replace hB := hB.trans (hO10r.2.2 _ (by omega))
      replace hzw := hB.size
      refine hKC.out _ _ (⟨c3, c4, c8, c4.cell 0 (by simp)⟩) (fun hHeld2 => ?_)
      clear hKC KC hHeld
      have hHeld := hHeld2
      clear hHeld2
      (try simp only [Act.put])
      refine wpAnyH_ready (rs := [11]) (by kernel_rfl) (by simp) ?_
      refine AllReadyH.cons (o := { dst := none, op := Op.store 33 (Operand.tmp 7) (Operand.tmp 60), type := 0, pos := "l13_store.go:205", after := #[{ on := 9, ground := Ground.data }, { on := 10, ground := Ground.chain }, { on := 0, ground := Ground.phase }, { on := 1, ground := Ground.phase }, { on := 2, ground := Ground.phase }, { on := 3, ground := Ground.phase }, { on := 4, ground := Ground.phase }, { on := 5, ground := Ground.phase }, { on := 6, ground := Ground.phase }, { on := 7, ground := Ground.phase }, { on := 8, ground := Ground.phase }, { on := 9, ground := Ground.phase }, { on := 10, ground := Ground.phase }], guard := none }) rfl (fun KC hKC => ?_) AllReadyH.nil
      refine step_store_v rfl 33 _ _ rfl b7 [.int .i64 r1, .string r2, .int .i64 r3, .string r4, .int .i64 r5, .int .i64 r6] rfl rfl sizeRp c7 rfl (oneRp ⟨r1, r2, r3, r4, r5, r6⟩) ?_
      intro wr11 hO11r c7x
      have hz11r : wr10.heap.size ≤ wr11.heap.size := Nat.le_of_eq hO11r.1.symm
      have hy11r : wr11.heap.size ≤ wr10.heap.size := Nat.le_of_eq hO11r.1
      (try replace o := o.only hO11r c7 (by decide))
      (try replace o2 := o2.only hO11r c7 (by decide))
      replace c4 := vblk_only c4 hO11r (by omega)
      replace c6 := vblk_only c6 hO11r (by omega)
      replace c3 := vblk_only c3 hO11r (by omega)
      replace c8 := vblk_only c8 hO11r (by omega)
      clear c7
      have c7 := c7x
      clear c7x
      replace hB := hB.trans (hO11r.2.2 _ (by omega))
      replace hzw := hB.size
      refine hKC.out _ _ (⟨c3, c4, c8, c4.cell 0 (by simp)⟩) (fun hHeld2 => ?_)
      clear hKC KC hHeld
      have hHeld := hHeld2
      clear hHeld2
      (try simp only [Act.put])
      refine wpAnyH_done (by kernel_rfl) ?_ _
      go_wp2
      exact row_cc rfl rfl rfl c6 c7 Tryz.underlying31 Tryz.underlying33 sizeBk sizeRp rfl ⟨_, rfl, (o2.wide (by omega) (by omega)).top, hB⟩
    | some o =>
      obtain ⟨N, F, B, C, U⟩ := o
      obtain ⟨k, rfl, hk1, hk2, G, x, y, hx, hy, hG, ox, oy, hcf, hdo⟩ := deed_there A X N B F C U V N2 F2 U2 B2 C2 D2 Q2 ok hc hlk
      have hG' : x = .func (.func G) #[] #[] := hG
      subst hG'
      have hlk' : Hid _ := hlk
      unfold PostD at hdo ⊢
      rw [hR.out] at hdo ⊢
      dsimp only [csRp] at hdo ⊢
      have HD : Hid _ := hdo
      have HX : Hid _ := hx
      have HY : Hid _ := hy
      have hfld : ∀ w : World, (Instr.field 75 (.agg #[.func (.func G) #[] #[], y]) 0).run Tryz.prog w = .ok (.func (.func G) #[] #[]) w := fun w => by kernel_rfl
      have HOX : Hid _ := ox
      have HOY : Hid _ := oy
      clear hdo hx hy hG hR hlk ok hc ox oy
      have hzw0 : w.heap.size ≤ w.heap.size := Nat.le_refl _
      go_enter Tryz.func11, Tryz.ntmps11
      have mk1 : Hid True := trivial
      have mk2 : Hid True := trivial
      have mk3 : Hid True := trivial
      have mk4 : Hid True := trivial
      have mk5 : Hid True := trivial
      have mk6 : Hid True := trivial
      have mk7 : Hid True := trivial
      have mk8 : Hid True := trivial
      have mk9 : Hid True := trivial
      have mk10 : Hid True := trivial
      have mk11 : Hid True := trivial
      have mk12 : Hid True := trivial
      have mk13 : Hid True := trivial
      have mk14 : Hid True := trivial
      have mk15 : Hid True := trivial
      go_upto_region 8 with (first | (clear mk1; refine wpList_box_v rfl 31 _ rfl [.slice A0 I.length k0, .int .i64 X] rfl ?_; intro b3 w1 hb3 hwb3 hB1 c3; have hz1 : w.heap.size ≤ w1.heap.size := hB1.size; have hB := hB1; have hzw := hB.size; obtain ⟨c30, c31⟩ := cells2 c3) | (clear mk2; refine wpList_box_v rfl 37 _ rfl [.int .i64 k, .string N2, .int .i64 F2, .int .i64 U2, .string B2, .int .i64 C2, .int .i64 D2, .bool Q2] rfl ?_; intro b4 w2 hb4 hwb4 hB2 c4; have hz2 : w1.heap.size ≤ w2.heap.size := hB2.size; replace c3 := vblk_grow c3 hB2; replace hB := hB.trans (hB2.mono (by omega)); replace hzw := hB.size; clear c30 c31; obtain ⟨c30, c31⟩ := cells2 c3; obtain ⟨c40, c41, c42, c43, c44, c45, c46, c47⟩ := cellsCm c4) | (clear mk3; refine wpList_alloc_v rfl 31 rfl _ zeroBk ?_; intro b6 w3 hb6 hwb6 hB3 c6; have hz3 : w2.heap.size ≤ w3.heap.size := hB3.size; replace c3 := vblk_grow c3 hB3; replace c4 := vblk_grow c4 hB3; replace hB := hB.trans (hB3.mono (by omega)); replace hzw := hB.size; clear c30 c31; obtain ⟨c30, c31⟩ := cells2 c3; clear c40 c41 c42 c43 c44 c45 c46 c47; obtain ⟨c40, c41, c42, c43, c44, c45, c46, c47⟩ := cellsCm c4; obtain ⟨c60, c61⟩ := cells2 c6) | (clear mk4; refine wpList_alloc_v rfl 33 rfl _ zeroRp ?_; intro b7 w4 hb7 hwb7 hB4 c7; have hz4 : w3.heap.size ≤ w4.heap.size := hB4.size; replace c3 := vblk_grow c3 hB4; replace c4 := vblk_grow c4 hB4; replace c6 := vblk_grow c6 hB4; replace hB := hB.trans (hB4.mono (by omega)); replace hzw := hB.size; clear c30 c31; obtain ⟨c30, c31⟩ := cells2 c3; clear c40 c41 c42 c43 c44 c45 c46 c47; obtain ⟨c40, c41, c42, c43, c44, c45, c46, c47⟩ := cellsCm c4; clear c60 c61; obtain ⟨c60, c61⟩ := cells2 c6; obtain ⟨c70, c71, c72, c73, c74, c75⟩ := cellsRp c7) | (clear mk5; refine wpList_load_r rfl 31 _ rfl b3 0 [.slice A0 I.length k0, .int .i64 X] rfl _ Tryz.underlying31 rfl sizeBk c3.range ?_) | (clear mk6; go_at_call 19; refine (implStoreOk_any I X _ true hZS _ (R.out.grow hB) HS.out).mono ?_; rintro er w5 ⟨rfl, hB5⟩; have hz5 : w4.heap.size ≤ w5.heap.size := hB5.size; replace c3 := vblk_grow c3 hB5; replace c4 := vblk_grow c4 hB5; replace c6 := vblk_grow c6 hB5; replace c7 := vblk_grow c7 hB5; replace hB := hB.trans (hB5.mono (by omega)); replace hzw := hB.size; clear c30 c31; obtain ⟨c30, c31⟩ := cells2 c3; clear c40 c41 c42 c43 c44 c45 c46 c47; obtain ⟨c40, c41, c42, c43, c44, c45, c46, c47⟩ := cellsCm c4; clear c60 c61; obtain ⟨c60, c61⟩ := cells2 c6; clear c70 c71 c72 c73 c74 c75; obtain ⟨c70, c71, c72, c73, c74, c75⟩ := cellsRp c7) | (clear mk7; go_at_call 37; refine (within_is now 0 1000000 true hZT.out _).mono ?_; rintro er wq ⟨rfl, hq⟩; subst wq) | (clear mk8; refine wpList_load_r rfl 37 _ rfl b4 0 [.int .i64 k, .string N2, .int .i64 F2, .int .i64 U2, .string B2, .int .i64 C2, .int .i64 D2, .bool Q2] rfl _ Tryz.underlying37 rfl sizeCm c4.range ?_) | (clear mk9; go_at_call 38; refine (implCmdOk_any (k : Int) N2 B2 F2 U2 C2 D2 Q2 true hZC (by omega) (by omega) _).mono ?_; rintro er w6 ⟨rfl, hB6⟩; have hz6 : w5.heap.size ≤ w6.heap.size := hB6.size; replace c3 := vblk_grow c3 hB6; replace c4 := vblk_grow c4 hB6; replace c6 := vblk_grow c6 hB6; replace c7 := vblk_grow c7 hB6; replace hB := hB.trans (hB6.mono (by omega)); replace hzw := hB.size; clear c30 c31; obtain ⟨c30, c31⟩ := cells2 c3; clear c40 c41 c42 c43 c44 c45 c46 c47; obtain ⟨c40, c41, c42, c43, c44, c45, c46, c47⟩ := cellsCm c4; clear c60 c61; obtain ⟨c60, c61⟩ := cells2 c6; clear c70 c71 c72 c73 c74 c75; obtain ⟨c70, c71, c72, c73, c74, c75⟩ := cellsRp c7) | (clear mk10; refine wpList_load_r rfl 31 _ rfl b3 0 [.slice A0 I.length k0, .int .i64 X] rfl _ Tryz.underlying31 rfl sizeBk c3.range ?_) | (clear mk11; go_at_call 40; refine (HAG.out _ _ (R.out.grow hB)).mono ?_; rintro er w7 ⟨v1, vg, rfl, o, -, hB7⟩; have hz7 : w6.heap.size ≤ w7.heap.size := hB7.size; replace c3 := vblk_grow c3 hB7; replace c4 := vblk_grow c4 hB7; replace c6 := vblk_grow c6 hB7; replace c7 := vblk_grow c7 hB7; replace hB := hB.trans (hB7.mono (by omega)); replace hzw := hB.size; clear c30 c31; obtain ⟨c30, c31⟩ := cells2 c3; clear c40 c41 c42 c43 c44 c45 c46 c47; obtain ⟨c40, c41, c42, c43, c44, c45, c46, c47⟩ := cellsCm c4; clear c60 c61; obtain ⟨c60, c61⟩ := cells2 c6; clear c70 c71 c72 c73 c74 c75; obtain ⟨c70, c71, c72, c73, c74, c75⟩ := cellsRp c7; obtain ⟨A1, n1, k1, rfl⟩ := o.slice) | (clear mk12; refine wpList_store_v rfl 31 _ _ rfl b3 [.slice A1 n1 k1, .int .i64 X] rfl rfl sizeBk c3 rfl (oneBk _ _ _ _) ?_; intro w8 hO8 c3x; clear c30 c31; have hz8 : w7.heap.size ≤ w8.heap.size := (Nat.le_of_eq hO8.1.symm); have hy8 : w8.heap.size ≤ w7.heap.size := (Nat.le_of_eq hO8.1); replace o := o.only hO8 c3 (by decide); replace c4 := vblk_only c4 hO8 (by omega); replace c6 := vblk_only c6 hO8 (by omega); replace c7 := vblk_only c7 hO8 (by omega); replace hB := hB.trans (hO8.2.2 _ (by omega)); replace hzw := hB.size; clear c40 c41 c42 c43 c44 c45 c46 c47; obtain ⟨c40, c41, c42, c43, c44, c45, c46, c47⟩ := cellsCm c4; clear c60 c61; obtain ⟨c60, c61⟩ := cells2 c6; clear c70 c71 c72 c73 c74 c75; obtain ⟨c70, c71, c72, c73, c74, c75⟩ := cellsRp c7; clear c3; have c3 := c3x; clear c3x; obtain ⟨c30, c31⟩ := cells2 c3) | (clear mk13; go_at_call 41; refine (itemNamed_yes A N2 N B F C U _ _ o.rd hlk'.out).mono ?_; rintro er w9 ⟨rfl, hB9⟩; have hz9 : w8.heap.size ≤ w9.heap.size := hB9.size; replace o := o.grow hB9; replace c4 := vblk_grow c4 hB9; replace c6 := vblk_grow c6 hB9; replace c7 := vblk_grow c7 hB9; replace c3 := vblk_grow c3 hB9; replace hB := hB.trans (hB9.mono (by omega)); replace hzw := hB.size; clear c40 c41 c42 c43 c44 c45 c46 c47; obtain ⟨c40, c41, c42, c43, c44, c45, c46, c47⟩ := cellsCm c4; clear c60 c61; obtain ⟨c60, c61⟩ := cells2 c6; clear c70 c71 c72 c73 c74 c75; obtain ⟨c70, c71, c72, c73, c74, c75⟩ := cellsRp c7; clear c30 c31; obtain ⟨c30, c31⟩ := cells2 c3) | (clear mk14; refine wpList_alloc_v rfl 56 rfl _ zeroIt ?_; intro b8 w10 hb8 hwb8 hB10 c8; have hz10 : w9.heap.size ≤ w10.heap.size := hB10.size; replace o := o.grow hB10; replace c4 := vblk_grow c4 hB10; replace c6 := vblk_grow c6 hB10; replace c7 := vblk_grow c7 hB10; replace c3 := vblk_grow c3 hB10; replace hB := hB.trans (hB10.mono (by omega)); replace hzw := hB.size; clear c40 c41 c42 c43 c44 c45 c46 c47; obtain ⟨c40, c41, c42, c43, c44, c45, c46, c47⟩ := cellsCm c4; clear c60 c61; obtain ⟨c60, c61⟩ := cells2 c6; clear c70 c71 c72 c73 c74 c75; obtain ⟨c70, c71, c72, c73, c74, c75⟩ := cellsRp c7; clear c30 c31; obtain ⟨c30, c31⟩ := cells2 c3; obtain ⟨c80, c81, c82, c83, c84⟩ := cells5 c8) | (clear mk15; refine wpList_store_v rfl 56 _ _ rfl b8 [.string N, .int .i64 F, .string B, .int .i64 C, .int .i64 U] rfl rfl sizeIt c8 rfl (ic_one ⟨N, F, B, C, U⟩) ?_; intro w11 hO11 c8x; clear c80 c81 c82 c83 c84; have hz11 : w10.heap.size ≤ w11.heap.size := (Nat.le_of_eq hO11.1.symm); have hy11 : w11.heap.size ≤ w10.heap.size := (Nat.le_of_eq hO11.1); replace o := o.below (hO11.2.2 b8 (Nat.le_refl _)) (by omega); replace c4 := vblk_only c4 hO11 (by omega); replace c6 := vblk_only c6 hO11 (by omega); replace c7 := vblk_only c7 hO11 (by omega); replace c3 := vblk_only c3 hO11 (by omega); replace hB := hB.trans (hO11.2.2 _ (by omega)); replace hzw := hB.size; clear c40 c41 c42 c43 c44 c45 c46 c47; obtain ⟨c40, c41, c42, c43, c44, c45, c46, c47⟩ := cellsCm c4; clear c60 c61; obtain ⟨c60, c61⟩ := cells2 c6; clear c70 c71 c72 c73 c74 c75; obtain ⟨c70, c71, c72, c73, c74, c75⟩ := cellsRp c7; clear c30 c31; obtain ⟨c30, c31⟩ := cells2 c3; clear c8; have c8 := c8x; clear c8x; obtain ⟨c80, c81, c82, c83, c84⟩ := cells5 c8) | (fail))
      have hBd : Below w11.heap.size w11 w11.drew := (Below.refl _ _).drew
      have hzd : w11.drew.heap.size ≤ w11.heap.size := Nat.le_refl _
      have hzd2 : w11.heap.size ≤ w11.drew.heap.size := Nat.le_refl _
      replace o := o.grow hBd
      replace c4 := vblk_grow c4 hBd
      clear c40 c41 c42 c43 c44 c45 c46 c47
      obtain ⟨c40, c41, c42, c43, c44, c45, c46, c47⟩ := cellsCm c4
      replace c6 := vblk_grow c6 hBd
      clear c60 c61
      obtain ⟨c60, c61⟩ := cells2 c6
      replace c7 := vblk_grow c7 hBd
      clear c70 c71 c72 c73 c74 c75
      obtain ⟨c70, c71, c72, c73, c74, c75⟩ := cellsRp c7
      replace c3 := vblk_grow c3 hBd
      clear c30 c31
      obtain ⟨c30, c31⟩ := cells2 c3
      replace c8 := vblk_grow c8 hBd
      clear c80 c81 c82 c83 c84
      obtain ⟨c80, c81, c82, c83, c84⟩ := cells5 c8
      replace hB := hB.trans (hBd.mono (by omega))
      replace hzw := hB.size
      (try simp only [Act.put])
      (try simp only [List.setIfInBounds_toArray, List.set_cons_zero, List.set_cons_succ])
      clear c40 c41 c42 c43 c44 c45 c46 c47
      clear c60 c61
      clear c70 c71 c72 c73 c74 c75
      clear c30 c31
      clear c80 c81 c82 c83 c84
      refine wp_region_held_drew (S := fun w' => VBlk w' b3 31 [.slice A1 n1 k1, .int .i64 X] ∧ VBlk w' b4 37 [.int .i64 k, .string N2, .int .i64 F2, .int .i64 U2, .string B2, .int .i64 C2, .int .i64 D2, .bool Q2] ∧ VBlk w' b8 56 [.string N, .int .i64 F, .string B, .int .i64 C, .int .i64 U] ∧ w'.cell? ⟨b4, 0, none⟩ = some (.int .i64 k)) (by kernel_rfl) (⟨c3, c4, c8, c4.cell 0 (by simp)⟩) (fun hHeld => ?_)
      refine wpAnyH_take (i := 0) (oi := { dst := some 41, op := Op.fieldAddr 37 (Operand.tmp 4) 0, type := 0, pos := "l13_store.go:203", after := #[], guard := none }) (v := ?_) rfl (by kernel_rfl) (by kernel_rfl) (by kernel_rfl) (fun _ _ _ h => h) (Or.inl ⟨by rfl, ?_⟩) (by assumption) ?_
      rotate_left 1
      · intro w' hSw; (try dsimp only at hSw); go_simp; (try with_reducible rfl)
      (try simp only [Act.put, List.setIfInBounds_toArray, List.set_cons_zero, List.set_cons_succ])
      refine wpAnyH_take (i := 1) (oi := { dst := some 42, op := Op.load 2 (Operand.tmp 41), type := 2, pos := "l13_store.go:203", after := #[{ on := 0, ground := Ground.data }], guard := none }) (v := ?_) rfl (by kernel_rfl) (by kernel_rfl) (by kernel_rfl) (fun _ _ _ h => h) (Or.inl ⟨by rfl, ?_⟩) (by assumption) ?_
      rotate_left 1
      · intro w' hSw; (try dsimp only at hSw); go_simp; (try with_reducible rfl)
      (try simp only [Act.put, List.setIfInBounds_toArray, List.set_cons_zero, List.set_cons_succ])
      refine wpAnyH_take (i := 4) (oi := { dst := some 45, op := Op.load 31 (Operand.tmp 3), type := 31, pos := "l13_store.go:203", after := #[], guard := none }) (v := .agg [.slice A1 n1 k1, .int .i64 X].toArray) rfl (by kernel_rfl) (by kernel_rfl) (by kernel_rfl) (fun _ _ _ h => h) (yieldsIf_load_mid (by rfl) 31 _ rfl b3 0 rfl [.slice A1 n1 k1, .int .i64 X] _ (fun w' hw' => hw'.1.range) Tryz.underlying31 rfl sizeBk) (by assumption) ?_
      (try simp only [Act.put, List.setIfInBounds_toArray, List.set_cons_zero, List.set_cons_succ])
      refine wpAnyH_take (i := 5) (oi := { dst := some 46, op := Op.load 56 (Operand.tmp 8), type := 56, pos := "l13_store.go:203", after := #[], guard := none }) (v := .agg [.string N, .int .i64 F, .string B, .int .i64 C, .int .i64 U].toArray) rfl (by kernel_rfl) (by kernel_rfl) (by kernel_rfl) (fun _ _ _ h => h) (yieldsIf_load_mid (by rfl) 56 _ rfl b8 0 rfl [.string N, .int .i64 F, .string B, .int .i64 C, .int .i64 U] _ (fun w' hw' => hw'.2.2.1.range) Tryz.underlying56 rfl sizeIt) (by assumption) ?_
      (try simp only [Act.put, List.setIfInBounds_toArray, List.set_cons_zero, List.set_cons_succ])
      refine wpAnyH_take (i := 6) (oi := { dst := some 47, op := Op.load 37 (Operand.tmp 4), type := 37, pos := "l13_store.go:203", after := #[], guard := none }) (v := .agg [.int .i64 k, .string N2, .int .i64 F2, .int .i64 U2, .string B2, .int .i64 C2, .int .i64 D2, .bool Q2].toArray) rfl (by kernel_rfl) (by kernel_rfl) (by kernel_rfl) (fun _ _ _ h => h) (yieldsIf_load_mid (by rfl) 37 _ rfl b4 0 rfl [.int .i64 k, .string N2, .int .i64 F2, .int .i64 U2, .string B2, .int .i64 C2, .int .i64 D2, .bool Q2] _ (fun w' hw' => hw'.2.1.range) Tryz.underlying37 rfl sizeCm) (by assumption) ?_
      (try simp only [Act.put, List.setIfInBounds_toArray, List.set_cons_zero, List.set_cons_succ])
      refine wpAnyH_ready (rs := [2]) (by kernel_rfl) (by simp) ?_
      refine AllReadyH.cons (o := { dst := some 43, op := Op.call { callee := Callee.value (Operand.func 42), args := #[Operand.tmp 42], argTypes := #[2] }, type := 75, pos := "l13_store.go:203", after := #[{ on := 1, ground := Ground.data }], guard := none }) rfl (fun KC hKC => ?_) AllReadyH.nil
      go_simp
      go_at_call 42
      refine (deedOf_any k hk1 hk2 _ _ HX.out HY.out HOX.out HOY.out _).mono ?_
      rintro er wr2 ⟨rfl, hB2r⟩
      have hz2r : w11.drew.heap.size ≤ wr2.heap.size := hB2r.size
      replace o := o.grow hB2r
      (try replace o2 := o2.grow hB2r)
      replace c4 := vblk_grow c4 hB2r
      replace c6 := vblk_grow c6 hB2r
      replace c7 := vblk_grow c7 hB2r
      replace c3 := vblk_grow c3 hB2r
      replace c8 := vblk_grow c8 hB2r
      replace hB := hB.trans (hB2r.mono (by omega))
      replace hzw := hB.size
      refine hKC.out _ _ (⟨c3, c4, c8, c4.cell 0 (by simp)⟩) (fun hHeld2 => ?_)
      clear hKC KC hHeld
      have hHeld := hHeld2
      clear hHeld2
      (try simp only [Act.put, List.setIfInBounds_toArray, List.set_cons_zero, List.set_cons_succ])
      refine wpAnyH_take (i := 3) (oi := { dst := some 44, op := Op.field 75 (Operand.tmp 43) 0, type := 73, pos := "l13_store.go:203", after := #[{ on := 2, ground := Ground.data }], guard := none }) (v := ?_) rfl (by kernel_rfl) (by kernel_rfl) (by kernel_rfl) (fun _ _ _ h => h) (Or.inl ⟨by rfl, ?_⟩) (by assumption) ?_
      rotate_left 1
      · intro w' hSw; (try dsimp only at hSw); go_simp; (try with_reducible rfl)
      (try simp only [Act.put, List.setIfInBounds_toArray, List.set_cons_zero, List.set_cons_succ])
      refine wpAnyH_ready (rs := [7]) (by kernel_rfl) (by simp) ?_
      refine AllReadyH.cons (o := { dst := some 48, op := Op.call { callee := Callee.value (Operand.tmp 44), args := #[Operand.tmp 45, Operand.tmp 46, Operand.tmp 47], argTypes := #[31, 56, 37] }, type := 34, pos := "l13_store.go:203", after := #[{ on := 3, ground := Ground.data }, { on := 4, ground := Ground.data }, { on := 5, ground := Ground.data }, { on := 6, ground := Ground.data }, { on := 2, ground := Ground.chain }], guard := none }) rfl (fun KC hKC => ?_) AllReadyH.nil
      go_simp
      refine (HD.out _ w.heap.size _ (o.wide (lo' := w.heap.size) (by omega) (Nat.le_refl _)).top (by omega) (EN.out.grow hB)).mono ?_
      rintro er wr7 ⟨v2, rfl, o2, hB7r⟩
      have hz7r : wr2.heap.size ≤ wr7.heap.size := hB7r.size
      replace o := o.grow hB7r
      replace c4 := vblk_grow c4 hB7r
      replace c6 := vblk_grow c6 hB7r
      replace c7 := vblk_grow c7 hB7r
      replace c3 := vblk_grow c3 hB7r
      replace c8 := vblk_grow c8 hB7r
      replace hB := hB.trans (hB7r.mono (by omega))
      replace hzw := hB.size
      obtain ⟨A2, n2, k2, rfl⟩ := o2.slice
      refine hKC.out _ _ (⟨c3, c4, c8, c4.cell 0 (by simp)⟩) (fun hHeld2 => ?_)
      clear hKC KC hHeld
      have hHeld := hHeld2
      clear hHeld2
      (try simp only [Act.put, List.setIfInBounds_toArray, List.set_cons_zero, List.set_cons_succ])
      refine wpAnyH_take (i := 8) (oi := { dst := some 49, op := Op.extract (Operand.tmp 48) 0, type := 31, pos := "l13_store.go:203", after := #[{ on := 7, ground := Ground.data }], guard := none }) (v := ?_) rfl (by kernel_rfl) (by kernel_rfl) (by kernel_rfl) (fun _ _ _ h => h) (Or.inl ⟨by rfl, ?_⟩) (by assumption) ?_
      rotate_left 1
      · intro w' hSw; (try dsimp only at hSw); go_simp; (try with_reducible rfl)
      (try simp only [Act.put, List.setIfInBounds_toArray, List.set_cons_zero, List.set_cons_succ])
      refine wpAnyH_take (i := 9) (oi := { dst := some 50, op := Op.extract (Operand.tmp 48) 1, type := 33, pos := "l13_store.go:203", after := #[{ on := 7, ground := Ground.data }], guard := none }) (v := ?_) rfl (by kernel_rfl) (by kernel_rfl) (by kernel_rfl) (fun _ _ _ h => h) (Or.inl ⟨by rfl, ?_⟩) (by assumption) ?_
      rotate_left 1
      · intro w' hSw; (try dsimp only at hSw); go_simp; (try with_reducible rfl)
      (try simp only [Act.put, List.setIfInBounds_toArray, List.set_cons_zero, List.set_cons_succ])
      refine wpAnyH_ready (rs := [10]) (by kernel_rfl) (by simp) ?_
      refine AllReadyH.cons (o := { dst := none, op := Op.store 31 (Operand.tmp 6) (Operand.tmp 49), type := 0, pos := "l13_store.go:203", after := #[{ on := 8, ground := Ground.data }, { on := 7, ground := Ground.chain }, { on := 0, ground := Ground.phase }, { on := 1, ground := Ground.phase }, { on := 2, ground := Ground.phase }, { on := 3, ground := Ground.phase }, { on := 4, ground := Ground.phase }, { on := 5, ground := Ground.phase }, { on := 6, ground := Ground.phase }, { on := 7, ground := Ground.phase }, { on := 8, ground := Ground.phase }, { on := 9, ground := Ground.phase }], guard := none }) rfl (fun KC hKC => ?_) AllReadyH.nil
      refine step_store_v rfl 31 _ _ rfl b6 [.slice A2 n2 k2, .int .i64 Y] rfl rfl sizeBk c6 rfl (oneBk _ _ _ _) ?_
      intro wr10 hO10r c6x
      have hz10r : wr7.heap.size ≤ wr10.heap.size := Nat.le_of_eq hO10r.1.symm
      have hy10r : wr10.heap.size ≤ wr7.heap.size := Nat.le_of_eq hO10r.1
      (try replace o := o.only hO10r c6 (by decide))
      (try replace o2 := o2.only hO10r c6 (by decide))
      replace c4 := vblk_only c4 hO10r (by omega)
      replace c7 := vblk_only c7 hO10r (by omega)
      replace c3 := vblk_only c3 hO10r (by omega)
      replace c8 := vblk_only c8 hO10r (by omega)
      clear c6
      have c6 := c6x
      clear c6x
      replace hB := hB.trans (hO10r.2.2 _ (by omega))
      replace hzw := hB.size
      refine hKC.out _ _ (⟨c3, c4, c8, c4.cell 0 (by simp)⟩) (fun hHeld2 => ?_)
      clear hKC KC hHeld
      have hHeld := hHeld2
      clear hHeld2
      (try simp only [Act.put])
      refine wpAnyH_ready (rs := [11]) (by kernel_rfl) (by simp) ?_
      refine AllReadyH.cons (o := { dst := none, op := Op.store 33 (Operand.tmp 7) (Operand.tmp 50), type := 0, pos := "l13_store.go:203", after := #[{ on := 9, ground := Ground.data }, { on := 10, ground := Ground.chain }, { on := 0, ground := Ground.phase }, { on := 1, ground := Ground.phase }, { on := 2, ground := Ground.phase }, { on := 3, ground := Ground.phase }, { on := 4, ground := Ground.phase }, { on := 5, ground := Ground.phase }, { on := 6, ground := Ground.phase }, { on := 7, ground := Ground.phase }, { on := 8, ground := Ground.phase }, { on := 9, ground := Ground.phase }, { on := 10, ground := Ground.phase }], guard := none }) rfl (fun KC hKC => ?_) AllReadyH.nil
      refine step_store_v rfl 33 _ _ rfl b7 [.int .i64 r1, .string r2, .int .i64 r3, .string r4, .int .i64 r5, .int .i64 r6] rfl rfl sizeRp c7 rfl (oneRp ⟨r1, r2, r3, r4, r5, r6⟩) ?_
      intro wr11 hO11r c7x
      have hz11r : wr10.heap.size ≤ wr11.heap.size := Nat.le_of_eq hO11r.1.symm
      have hy11r : wr11.heap.size ≤ wr10.heap.size := Nat.le_of_eq hO11r.1
      (try replace o := o.only hO11r c7 (by decide))
      (try replace o2 := o2.only hO11r c7 (by decide))
      replace c4 := vblk_only c4 hO11r (by omega)
      replace c6 := vblk_only c6 hO11r (by omega)
      replace c3 := vblk_only c3 hO11r (by omega)
      replace c8 := vblk_only c8 hO11r (by omega)
      clear c7
      have c7 := c7x
      clear c7x
      replace hB := hB.trans (hO11r.2.2 _ (by omega))
      replace hzw := hB.size
      refine hKC.out _ _ (⟨c3, c4, c8, c4.cell 0 (by simp)⟩) (fun hHeld2 => ?_)
      clear hKC KC hHeld
      have hHeld := hHeld2
      clear hHeld2
      (try simp only [Act.put])
      refine wpAnyH_done (by kernel_rfl) ?_ _
      go_wp2
      exact row_cc rfl rfl rfl c6 c7 Tryz.underlying31 Tryz.underlying33 sizeBk sizeRp rfl ⟨_, rfl, (o2.wide (by omega) (by omega)).top, hB⟩
end Go.Proofs.YtjkkjpgebcnhgaaGreatDoor.rg
