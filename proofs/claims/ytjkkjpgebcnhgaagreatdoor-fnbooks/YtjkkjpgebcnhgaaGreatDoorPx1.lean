/- Mathematics of chapter 12: when a reply is right, as the two ask it. No Go in sight. -/
import Derived.Test.YtjkkjpgebcnhgaaGreatDoorMg02
import Derived.Test.YtjkkjpgebcnhgaaGreatDoorMg10
namespace Go.Proofs.YtjkkjpgebcnhgaaGreatDoor.cm
open Go.RowKit
open Go.Proofs.YtjkkjpgebcnhgaaGreatDoor.rg (nameB nbB nameB_size)
set_option linter.unusedVariables false

theorem rep_out {r : Rp} (h : (decide (1 ≤ r.K) && decide (r.K ≤ 12)) = false) : repB r = false := by
  cases e : repB r with
  | false => rfl
  | true =>
    have := repB_iff.1 e
    simp [this.k0, this.k1] at h
theorem b_ext {a b : Bool} (h : a = true ↔ b = true) : a = b := by cases a <;> cases b <;> simp_all
def emB (N : ByteArray) : Bool := (bs N).isEmpty
theorem emB_iff {N : ByteArray} : emB N = true ↔ N = emp := by
  unfold emB
  rw [List.isEmpty_iff]
  refine ⟨fun h => ?_, fun h => by rw [h]; rfl⟩
  rw [← tx_bs N, h]
  rfl
theorem rep_val {N : ByteArray} {F : Int} {B : ByteArray} {C M : Int} : repB ⟨5, N, F, B, C, M⟩ = (nameB N && (decide (0 ≤ F) && decide (F ≤ 65535)) && decide ((B.size : Int) ≤ 64) && (decide (0 ≤ C) && decide (C ≤ 1000000)) && (M == 0)) := by
  refine b_ext ?_
  rw [repB_iff]
  simp only [Bool.and_eq_true, decide_eq_true_eq, beq_iff_eq]
  refine ⟨fun h => ⟨⟨⟨⟨h.nm rfl, h.f1 rfl⟩, by have := h.b1; dsimp only at this; omega⟩, h.c1 rfl⟩, h.m0 (by show (5 : Int) ≠ 6; decide)⟩, fun ⟨⟨⟨⟨h1, h2⟩, h3⟩, h4⟩, h5⟩ => ?_⟩
  exact ⟨by show (1 : Int) ≤ 5; decide, by show (5 : Int) ≤ 12; decide, fun _ => h1, fun q => absurd rfl q, fun _ => h2, fun q => absurd rfl q, by show B.size ≤ 64; omega, fun q => absurd rfl q, fun _ => h4, fun q => absurd rfl q, fun q => absurd (show (5 : Int) = 6 from q) (by decide), fun _ => h5⟩
theorem rep_num {N : ByteArray} {F : Int} {B : ByteArray} {C M : Int} : repB ⟨6, N, F, B, C, M⟩ = ((decide (0 ≤ M) && decide (M ≤ 999999999)) && (emB N && (F == 0) && emB B && (C == 0))) := by
  refine b_ext ?_
  rw [repB_iff]
  simp only [Bool.and_eq_true, decide_eq_true_eq, beq_iff_eq, emB_iff]
  have h65 : (6 : Int) ≠ 5 := by decide
  refine ⟨fun h => ⟨h.m1 rfl, ⟨⟨h.n0 h65, h.f0 h65⟩, h.b0 h65⟩, h.c0 h65⟩, fun ⟨h1, ⟨⟨h2, h3⟩, h4⟩, h5⟩ => ?_⟩
  exact ⟨by show (1 : Int) ≤ 6; decide, by show (6 : Int) ≤ 12; decide, fun q => absurd q h65, fun _ => h2, fun q => absurd q h65, fun _ => h3, by show B.size ≤ 64; rw [h4]; decide, fun _ => h4, fun q => absurd q h65, fun _ => h5, fun _ => h1, fun q => absurd rfl q⟩
theorem rep_bare {K : Int} {N : ByteArray} {F : Int} {B : ByteArray} {C M : Int} (k0 : 1 ≤ K) (k1 : K ≤ 12) (h5 : K ≠ 5) (h6 : K ≠ 6) : repB ⟨K, N, F, B, C, M⟩ = (emB N && (F == 0) && emB B && (C == 0) && (M == 0)) := by
  refine b_ext ?_
  rw [repB_iff]
  simp only [Bool.and_eq_true, beq_iff_eq, emB_iff]
  refine ⟨fun h => ⟨⟨⟨⟨h.n0 h5, h.f0 h5⟩, h.b0 h5⟩, h.c0 h5⟩, h.m0 h6⟩, fun ⟨⟨⟨⟨h1, h2⟩, h3⟩, h4⟩, h7⟩ => ?_⟩
  exact ⟨k0, k1, fun q => absurd q h5, fun _ => h1, fun q => absurd q h5, fun _ => h2, by show B.size ≤ 64; rw [h3]; decide, fun _ => h3, fun q => absurd q h5, fun _ => h4, fun q => absurd q h6, fun _ => h7⟩
/-- a text is empty, as the walk asks it -/
theorem emB_facts {N : ByteArray} {x : Bool} (h : emB N = x) : (N.toList == []) = x ∧ N.toList.isEmpty = x ∧ (([] : List UInt8) == N.toList) = x := by
  have e : N.toList = bs N := bs_toList N
  unfold emB at h
  rw [e]
  cases hb : bs N with
  | nil => rw [hb] at h; simp at h; subst h; simp
  | cons a r => rw [hb] at h; simp at h; subst h; simp
end Go.Proofs.YtjkkjpgebcnhgaaGreatDoor.cm
