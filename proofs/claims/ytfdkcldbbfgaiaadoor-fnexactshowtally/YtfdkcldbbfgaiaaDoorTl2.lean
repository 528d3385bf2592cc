/- Contracts of chapter 15, the program's: which sums become more, and by how much. -/
import Derived.Test.YtfdkcldbbfgaiaaDoorTl1
namespace Go.Proofs.YtfdkcldbbfgaiaaDoor.rg
open Go.ChangeShapes Go.WideShapes Go.ChangeAt Go.RowKit
open Go.Deep Go.Joins
open Go.Proofs.YtfdkcldbbfgaiaaDoor.ce Go.Proofs.YtfdkcldbbfgaiaaDoor.ro Go.Proofs.YtfdkcldbbfgaiaaDoor.cm
set_option linter.unusedVariables false

theorem bAl3 (w : World) (o : Obj) : Below w.heap.size w (w.alloc o) := (Below.refl _ _).alloc (Nat.le_refl _) _
theorem only_refl (b : Nat) (w : World) : Only b w w := ⟨rfl, fun _ _ => rfl, fun _ _ => Below.refl _ _⟩
theorem only_trans {b : Nat} {x y z : World} (h : Only b x y) (k : Only b y z) : Only b x z := ⟨k.1.trans h.1, fun j hj => (k.2.1 j hj).trans (h.2.1 j hj), fun B hB => (h.2.2 B hB).trans (k.2.2 B hB)⟩
/-- a row of headings -/
def csH (x : Int) : List Value := [.int .i64 x]
theorem oneH (x : Int) : ∀ v ∈ csH x, v.oneCell' = true := by
  intro v hv
  simp only [csH, List.mem_cons, List.not_mem_nil, or_false] at hv
  subst hv; rfl
def encH : Enc Int := ⟨csH, 1, 36, fun _ => rfl, oneH, by decide⟩
theorem infoH : Info encH := by
  have h : (Tryd.prog.info? 36).map (fun i => (i.zero, i.size, i.bytes)) = some (some (Value.int .i64 0), 1, 8) := by kernel_rfl
  obtain ⟨i, hi, hz⟩ := Option.map_eq_some_iff.1 h
  simp only [Prod.mk.injEq] at hz
  exact ⟨i, _, hi, hz.1, hz.2.1, by omega, rfl⟩
/-- which sums become more -/
def hdV (V : Int) : List Int := if V = 1 ∨ V = 2 then [0] else []
def hdK (K : Int) : List Int := if K = 5 then [1] else if K = 1 ∨ K = 6 then [2] else []
def raise1 (l : List (Int × Int)) (x : Int) : List (Int × Int) := if (mget l x).isSome = true then mset l x (min ((mget l x).getD 0 + 1) 1000000000) else l
def rsL (l : List (Int × Int)) (xs : List Int) : List (Int × Int) := xs.foldl raise1 l
def InR (l : List (Int × Int)) : Prop := ∀ p ∈ l, 0 ≤ p.2 ∧ p.2 ≤ 1000000000
theorem mset_in : ∀ (l : List (Int × Int)) (x y : Int), InR l → 0 ≤ y ∧ y ≤ 1000000000 → InR (mset l x y)
  | [], x, y, _, hy => fun p hp => by rw [mset, List.mem_singleton] at hp; subst hp; exact hy
  | (k, v) :: l, x, y, h, hy => by
    intro p hp
    rw [mset] at hp
    split at hp
    · rcases List.mem_cons.1 hp with rfl | hp
      · exact hy
      · exact h p (List.mem_cons_of_mem _ hp)
    · rcases List.mem_cons.1 hp with rfl | hp
      · exact h _ (List.mem_cons_self ..)
      · exact mset_in l x y (fun q hq => h q (List.mem_cons_of_mem _ hq)) hy p hp
theorem mget_in : ∀ (l : List (Int × Int)) (x y : Int), InR l → mget l x = some y → 0 ≤ y ∧ y ≤ 1000000000
  | [], x, y, _, h => by simp [mget] at h
  | (k, v) :: l, x, y, h, hg => by
    rw [mget] at hg
    split at hg
    · cases hg; exact h _ (List.mem_cons_self ..)
    · exact mget_in l x y (fun q hq => h q (List.mem_cons_of_mem _ hq)) hg
theorem mget_in0 (l : List (Int × Int)) (x : Int) (h : InR l) : 0 ≤ (mget l x).getD 0 ∧ (mget l x).getD 0 ≤ 1000000000 := by
  cases hg : mget l x with
  | none => simp
  | some y => simpa using mget_in l x y h hg
theorem raise_in (l : List (Int × Int)) (x : Int) (h : InR l) : InR (raise1 l x) := by
  unfold raise1
  have := mget_in0 l x h
  split
  · exact mset_in l x _ h (by omega)
  · exact h
theorem rsL_in (l : List (Int × Int)) (xs : List Int) (h : InR l) : InR (rsL l xs) := by
  induction xs generalizing l with
  | nil => exact h
  | cons x xs ih => exact ih _ (raise_in l x h)
theorem rsL_snoc (l : List (Int × Int)) (xs : List Int) (x : Int) : rsL l (xs ++ [x]) = raise1 (rsL l xs) x := by unfold rsL; rw [List.foldl_append]; rfl
theorem ent_in (t : Tl) : InR (entR t) := by
  unfold entR
  split
  · rename_i h
    have k := tallyB_iff.1 h
    intro p hp
    simp only [ent, List.mem_cons, List.not_mem_nil, or_false] at hp
    rcases hp with rfl | rfl | rfl | rfl | rfl
    · exact k.a
    · exact k.h
    · exact k.s
    · exact k.d
    · exact k.o
  · intro p hp; simp at hp
theorem rs_nil (xs : List Int) : rsL [] xs = [] := by
  induction xs with
  | nil => rfl
  | cons x xs ih => exact ih
theorem rs_ent (t : Tl) (c : Cm) (r : Rp) : rsL (entR t) (hdV c.V ++ hdK r.K) = if tallyB t = true then ent (cntT t c r) else [] := by
  unfold entR
  by_cases h : tallyB t = true
  · rw [if_pos h, if_pos h]
    obtain ⟨A, H, S, D, O⟩ := t
    unfold hdV hdK cntT getV keptK ent
    by_cases a1 : c.V = 1 ∨ c.V = 2
    · have g1 : (decide (c.V = 1) || decide (c.V = 2)) = true := by simpa using a1
      rw [if_pos a1, g1]
      by_cases a2 : r.K = 5
      · simp [a2, rsL, raise1, mget, mset, more_is, Int.min_comm]
      · by_cases a3 : r.K = 1 ∨ r.K = 6
        · have g3 : (decide (r.K = 1) || decide (r.K = 6)) = true := by simpa using a3
          rw [if_neg a2, if_pos a3, g3]
          simp [a2, rsL, raise1, mget, mset, more_is, Int.min_comm]
        · have g3 : (decide (r.K = 1) || decide (r.K = 6)) = false := by simpa using a3
          rw [if_neg a2, if_neg a3, g3]
          simp [a2, rsL, raise1, mget, mset, more_is, Int.min_comm]
    · have g1 : (decide (c.V = 1) || decide (c.V = 2)) = false := by simpa using a1
      rw [if_neg a1, g1]
      by_cases a2 : r.K = 5
      · simp [a2, rsL, raise1, mget, mset, more_is, Int.min_comm]
      · by_cases a3 : r.K = 1 ∨ r.K = 6
        · have g3 : (decide (r.K = 1) || decide (r.K = 6)) = true := by simpa using a3
          rw [if_neg a2, if_pos a3, g3]
          simp [a2, rsL, raise1, mget, mset, more_is, Int.min_comm]
        · have g3 : (decide (r.K = 1) || decide (r.K = 6)) = false := by simpa using a3
          rw [if_neg a2, if_neg a3, g3]
          simp [a2, rsL]
  · rw [if_neg h, if_neg h]
    exact rs_nil _
end Go.Proofs.YtfdkcldbbfgaiaaDoor.rg
