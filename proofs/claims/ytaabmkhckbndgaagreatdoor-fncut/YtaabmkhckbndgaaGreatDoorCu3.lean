/- Contracts: right commands, the model's: at whatever command. -/
import Derived.Test.YtaabmkhckbndgaaGreatDoorCu2
namespace Go.Proofs.YtaabmkhckbndgaaGreatDoor.cm
open Go.ChangeShapes Go.WideShapes Go.ChangeAt Go.RowKit
open Go.Proofs.YtaabmkhckbndgaaGreatDoor.ce Go.Proofs.YtaabmkhckbndgaaGreatDoor.ro Go.Proofs.YtaabmkhckbndgaaGreatDoor.rg
set_option linter.unusedVariables false

theorem cmdB_out {V : Int} {N : ByteArray} {F U : Int} {B : ByteArray} {C D : Int} {Q : Bool} (h : ¬ (1 ≤ V ∧ V ≤ 13) ∨ (Q = true ∧ V ≤ 2)) : cmdB ⟨V, N, F, U, B, C, D, Q⟩ = false := by
  cases e : cmdB ⟨V, N, F, U, B, C, D, Q⟩ with
  | false => rfl
  | true =>
    have ok := cmdB_iff.1 e
    have h0 : 1 ≤ V := ok.v0
    have h1 : V ≤ 13 := ok.v1
    have hq : Q = true → 3 ≤ V := ok.q
    rcases h with h | ⟨h, h2⟩
    · omega
    · have := hq h; omega
theorem cmdB_13 {N : ByteArray} {F U : Int} {B : ByteArray} {C D : Int} {Q : Bool} : cmdB ⟨13, N, F, U, B, C, D, Q⟩ = (N.toList.isEmpty && (F == 0) && (U == 0) && B.toList.isEmpty && (C == 0) && (D == 0)) := by
  rw [Bool.eq_iff_iff, cmdB_iff, emp_iff, emp_iff]
  simp only [Bool.and_eq_true, decide_eq_true_eq, beq_iff_eq]
  constructor
  · intro ok
    exact ⟨⟨⟨⟨⟨ok.n0 rfl, ok.f rfl⟩, ok.u rfl (show (13 : Int) ≠ 11 by decide)⟩, ok.b rfl⟩, ok.c8 (show (13 : Int) ≠ 8 by decide)⟩, ok.d rfl⟩
  · rintro ⟨⟨⟨⟨⟨rfl, rfl⟩, rfl⟩, rfl⟩, rfl⟩, rfl⟩
    exact ⟨show (1 : Int) ≤ 13 by decide, show (13 : Int) ≤ 13 by decide, fun _ => (show (3 : Int) ≤ 13 by decide), fun _ => rfl, fun h => absurd rfl h, fun _ => rfl, fun _ _ => rfl, fun _ => rfl, fun _ => rfl, fun _ => rfl, fun h => absurd h (show ¬ (13 : Int) = 8 by decide), show (0 : Int) ≤ 0 ∧ (0 : Int) ≤ 65535 by decide, show (0 : Int) ≤ 0 ∧ (0 : Int) ≤ 1000000 by decide, show emp.size ≤ 64 by decide, show (0 : Int) ≤ 0 ∧ (0 : Int) ≤ 1000000 by decide⟩
theorem cmdB_mid {V : Int} {N : ByteArray} {F U : Int} {B : ByteArray} {C D : Int} {Q : Bool} (h0 : 1 ≤ V ∧ V ≤ 13) (h13 : V ≠ 13) (hq : Q = true → ¬ V ≤ 2) : cmdB ⟨V, N, F, U, B, C, D, Q⟩ = (!badB V N F U B C D && !((V == 8) && !(decide (1 ≤ C) && decide (C ≤ 1000000))) && ((decide (0 ≤ F) && decide (F ≤ 65535)) && (decide (0 ≤ U) && decide (U ≤ 1000000)) && decide ((B.size : Int) ≤ 64) && (decide (0 ≤ D) && decide (D ≤ 1000000)))) := by
  rw [Bool.eq_iff_iff, cmdB_iff]
  constructor
  · intro ok
    have e1 : nameB N = true := ok.nm h13
    have e2 : full V = false → F = 0 := ok.f
    have e3 : full V = false → V ≠ 11 → U = 0 := ok.u
    have e4 : sized V = false → B = emp := ok.b
    have e5 : V ≠ 8 → C = 0 := ok.c8
    have e6 : stepV V = false → D = 0 := ok.d
    have e7 : V = 8 → 1 ≤ C ∧ C ≤ 1000000 := ok.c1
    have e8 : 0 ≤ F ∧ F ≤ 65535 := ok.f1
    have e9 : 0 ≤ U ∧ U ≤ 1000000 := ok.u1
    have e10 : B.size ≤ 64 := ok.b1
    have e11 : 0 ≤ D ∧ D ≤ 1000000 := ok.d1
    have b1 : badB V N F U B C D = false := by
      unfold badB
      rw [emp_iff, e1]
      have c2 : (!full V && (F != 0)) = false := by cases hf : full V <;> simp; exact e2 hf
      have c3 : (!full V && (V != 11) && (U != 0)) = false := by
        cases hf : full V <;> simp
        intro h
        exact e3 hf h
      have c4 : (!sized V && !decide (B = emp)) = false := by cases hf : sized V <;> simp; exact e4 hf
      have c5 : ((V != 8) && (C != 0)) = false := by simp; exact fun h => e5 h
      have c6 : (!stepV V && (D != 0)) = false := by cases hf : stepV V <;> simp; exact e6 hf
      rw [c2, c3, c4, c5, c6]
      rfl
    have b2 : ((V == 8) && !(decide (1 ≤ C) && decide (C ≤ 1000000))) = false := by
      by_cases h8 : V = 8
      · have := e7 h8
        rw [decide_eq_true this.1, decide_eq_true this.2]
        simp
      · rw [show (V == 8) = false by simpa using h8]
        rfl
    rw [b1, b2, decide_eq_true e8.1, decide_eq_true e8.2, decide_eq_true e9.1, decide_eq_true e9.2, decide_eq_true e11.1, decide_eq_true e11.2, decide_eq_true (show (B.size : Int) ≤ 64 by omega)]
    rfl
  · intro h
    simp only [Bool.and_eq_true, Bool.not_eq_true', decide_eq_true_eq] at h
    obtain ⟨⟨b1, b2⟩, ⟨⟨f0, u0⟩, b0⟩, d0⟩ := h
    unfold badB at b1
    rw [emp_iff] at b1
    simp only [Bool.or_eq_false_iff, Bool.not_eq_false'] at b1
    obtain ⟨⟨⟨⟨⟨a1, a2⟩, a3⟩, a4⟩, a5⟩, a6⟩ := b1
    refine ⟨h0.1, h0.2, fun h => (by have := hq h; show 3 ≤ V; omega), fun h => absurd h h13, fun _ => a1, fun h => ?_, fun h h2 => ?_, fun h => ?_, fun h => ?_, fun h => ?_, fun h => ?_, f0, u0, by show B.size ≤ 64; omega, d0⟩
    · dsimp only at h ⊢; rw [h] at a2; simpa using a2
    · dsimp only at h h2 ⊢; rw [h] at a3; simp at a3; exact a3 h2
    · dsimp only at h ⊢; rw [h] at a4; simpa using a4
    · dsimp only at h ⊢; simp at a5; exact a5 h
    · dsimp only at h ⊢; rw [h] at a6; simpa using a6
    · dsimp only at h ⊢; rw [show (V == 8) = true by simpa using h] at b2; simpa using b2

set_option maxRecDepth 100000 in
set_option maxHeartbeats 1000000 in
theorem specCmdOk_13 (N B : ByteArray) (F U C D : Int) (Q : Bool) (w : World) :
    Calls Tryz.prog 17 #[.agg #[.int .i64 13, .string N, .int .i64 F, .int .i64 U, .string B, .int .i64 C, .int .i64 D, .bool Q]] w fun e w' => e = .returned (.bool (N.toList.isEmpty && (F == 0) && (U == 0) && B.toList.isEmpty && (C == 0) && (D == 0))) ∧ Below w.heap.size w w' := by
  have hq2 : ¬ (13 : Int) ≤ 2 := by omega
  cases Q
  all_goals
    go_enter Tryz.func17, Tryz.ntmps17
    go_wp2_with (first | (refine wpList_box_v rfl 25 _ rfl [.int .i64 13, .string N, .int .i64 F, .int .i64 U, .string B, .int .i64 C, .int .i64 D, .bool _] rfl ?_; intro b1 w1 hb1 hw1 hB1 V1; obtain ⟨c0, c1, c2, c3, c4, c5, c6, c7⟩ := cellsCm V1) | (go_at_call 72; refine (in_is 13 1 13 true rfl _).mono ?_; rintro e wq ⟨rfl, hq⟩; subst wq) | (fail))
    all_goals
      go_ret
      exact ⟨by simp [*], hB1⟩
set_option maxRecDepth 100000 in
set_option maxHeartbeats 1000000 in
theorem specCmdOk_out (V : Int) (N B : ByteArray) (F U C D : Int) (Q : Bool) (hv : ¬ (1 ≤ V ∧ V ≤ 13) ∨ (Q = true ∧ V ≤ 2)) (w : World) :
    Calls Tryz.prog 17 #[.agg #[.int .i64 V, .string N, .int .i64 F, .int .i64 U, .string B, .int .i64 C, .int .i64 D, .bool Q]] w fun e w' => e = .returned (.bool false) ∧ Below w.heap.size w w' := by
  by_cases h : 1 ≤ V ∧ V ≤ 13
  · obtain ⟨rfl, h2⟩ : Q = true ∧ V ≤ 2 := hv.resolve_left (fun q => q h)
    have hvv : Hid ((decide (1 ≤ V) && decide (V ≤ 13)) = true) := by unfold Hid; simp; omega
    clear hv h
    go_enter Tryz.func17, Tryz.ntmps17
    go_wp2_with (first | (refine wpList_box_v rfl 25 _ rfl [.int .i64 V, .string N, .int .i64 F, .int .i64 U, .string B, .int .i64 C, .int .i64 D, .bool true] rfl ?_; intro b1 w1 hb1 hw1 hB1 V1; obtain ⟨c0, c1, c2, c3, c4, c5, c6, c7⟩ := cellsCm V1) | (go_at_call 72; refine (in_is V 1 13 true hvv.out _).mono ?_; rintro e wq ⟨rfl, hq⟩; subst wq) | (fail))
    go_ret
    exact ⟨rfl, hB1⟩
  · have hvv : Hid ((decide (1 ≤ V) && decide (V ≤ 13)) = false) := by unfold Hid; simp; omega
    clear hv h
    go_enter Tryz.func17, Tryz.ntmps17
    go_wp2_with (first | (refine wpList_box_v rfl 25 _ rfl [.int .i64 V, .string N, .int .i64 F, .int .i64 U, .string B, .int .i64 C, .int .i64 D, .bool Q] rfl ?_; intro b1 w1 hb1 hw1 hB1 V1; obtain ⟨c0, c1, c2, c3, c4, c5, c6, c7⟩ := cellsCm V1) | (go_at_call 72; refine (in_is V 1 13 false hvv.out _).mono ?_; rintro e wq ⟨rfl, hq⟩; subst wq) | (fail))
    go_ret
    exact ⟨rfl, hB1⟩
/-- the model's CmdOk -/
theorem specCmdOk_any (V : Int) (N B : ByteArray) (F U C D : Int) (Q : Bool) (y : Bool) (hy : Hid (cmdB ⟨V, N, F, U, B, C, D, Q⟩ = y)) (hN : N.size ≤ 9223372036854775807) (hB : B.size ≤ 9223372036854775807) (w : World) :
    Calls Tryz.prog 17 #[.agg #[.int .i64 V, .string N, .int .i64 F, .int .i64 U, .string B, .int .i64 C, .int .i64 D, .bool Q]] w fun e w' => e = .returned (.bool y) ∧ Below w.heap.size w w' := by
  by_cases h : ¬ (1 ≤ V ∧ V ≤ 13) ∨ (Q = true ∧ V ≤ 2)
  · rw [← hy.out, cmdB_out h]
    exact specCmdOk_out V N B F U C D Q h w
  · have h1 : 1 ≤ V ∧ V ≤ 13 := Classical.byContradiction fun q => h (.inl q)
    have hq : Q = true → ¬ V ≤ 2 := fun a b => h (.inr ⟨a, b⟩)
    by_cases h13 : V = 13
    · subst h13
      rw [← hy.out, cmdB_13]
      exact specCmdOk_13 N B F U C D Q w
    · exact specCmdOk_mid V N B F U C D Q hN hB h1 (by simpa using h13) hq w y (hy.out.symm.trans (cmdB_mid h1 h13 hq))
end Go.Proofs.YtaabmkhckbndgaaGreatDoor.cm
