/- Contracts of PlaceOf, the model's and the program's: each answers as one plain function of the key and the row, and only new memory is made. -/
import Derived.Test.YtgdoclaifnnpgaaRows
import Derived.WalkKit
import Derived.ProofKit
import Derived.OpenShut
import Derived.Below
import Derived.Test.YtgdoclaifnnpgaaHash1
namespace Go.Proofs.Ytgdoclaifnnpgaa.place
open Go.ChangeShapes Go.WideShapes Go.ChangeAt Go.RowKit
set_option linter.unusedVariables false

/-- the byte that row r puts behind the key -/
def tail (r : Int) : ByteArray := ⟨#[UInt8.ofNat (97 + r).toNat]⟩
def placeOf (s : ByteArray) (r : Int) : Int := hash.hashOf (s ++ tail r) % 16
theorem placeOf_bd (s : ByteArray) (r : Int) : 0 ≤ placeOf s r ∧ placeOf s r < 16 := by unfold placeOf; omega

/-- at most one new row was made -/
def One (w w' : World) : Prop := w' = w ∨ ∃ c t, w' = w.alloc (.cells c t)
theorem One.below {w w' : World} (h : One w w') : Below w.heap.size w w' := by
  rcases h with rfl | ⟨c, t, rfl⟩
  · exact Below.refl _ _
  · exact (Below.refl _ _).alloc (Nat.le_refl _) _
theorem One.grown {W w w' : World} (g : Grown W w) (h : One w w') : Grown W w' := by
  rcases h with rfl | ⟨c, t, rfl⟩
  · exact g
  · exact g.alloc c t

theorem in_yes (x lo hi : Int) (h1 : lo ≤ x) (h2 : x ≤ hi) (w : World) : Calls Try.prog 32 #[.int .i64 x, .int .i64 lo, .int .i64 hi] w fun e w' => e = .returned (.bool true) ∧ w' = w := by
  go_enter Try.func32, Try.ntmps32
  go_wp2
  go_ret
  exact ⟨rfl, rfl⟩
theorem in_any (x lo hi : Int) (w : World) : Calls Try.prog 32 #[.int .i64 x, .int .i64 lo, .int .i64 hi] w fun e w' => e = .returned (.bool (decide (lo ≤ x ∧ x ≤ hi))) ∧ w' = w := by
  by_cases h1 : lo ≤ x
  · by_cases h2 : x ≤ hi
    · refine (in_yes x lo hi h1 h2 w).mono ?_
      rintro e w' ⟨rfl, rfl⟩
      exact ⟨by simp [h1, h2], rfl⟩
    · go_enter Try.func32, Try.ntmps32
      go_wp2
      go_ret
      exact ⟨by simp; omega, rfl⟩
  · go_enter Try.func32, Try.ntmps32
    go_wp2
    go_ret
    exact ⟨by simp; omega, rfl⟩

theorem tail_size (r : Int) : (tail r).size = 1 := rfl
theorem conv (r : Int) (h0 : 0 ≤ r) (h1 : r ≤ 3) (w : World) : (convert 39 9 (Value.slice (some { block := w.heap.size, off := 0 }) 1 1)).run Try.prog (w.alloc (Obj.cells #[Value.int IntKind.u8 (97 + r)] 5)) = .ok (.string (tail r)) (w.alloc (Obj.cells #[Value.int IntKind.u8 (97 + r)] 5)) :=
  run_convert_bytes_back (P := Try.prog) (w.alloc (Obj.cells #[Value.int IntKind.u8 (97 + r)] 5)) 39 9 5 ⟨w.heap.size, 0, none⟩ 1 [UInt8.ofNat (97 + r).toNat] Try.underlying39 Try.underlying5 Try.underlying9 (fun j hj => by
    have hj0 : j = 0 := by simpa using hj
    subst hj0
    have e : (((UInt8.ofNat (97 + r).toNat).toNat : Nat) : Int) = 97 + r := by
      rw [UInt8.toNat_ofNat']; omega
    simp only [List.getElem_cons_zero, e]
    show (w.alloc _).cell? ⟨w.heap.size, 0, none⟩ = _
    rw [cell_of_row _ _ 0 _ _ _ (heap_alloc_new w _)]; rfl)

theorem spec_in (s : ByteArray) (r : Int) (h0 : 0 ≤ r) (h1 : r ≤ 3) (hs : s.size ≤ 1048576) (w : World) :
    Calls Try.prog 19 #[.string s, .int .i64 r] w fun e w' => e = .returned (.int .i64 (placeOf s r)) ∧ One w w' := by
  have hcv := conv r h0 h1 w
  have ht := tail_size r
  have hb := hash.hashOf_bd (s ++ tail r)
  go_enter Try.func19, Try.ntmps19
  go_wp2_with (first | (go_at_call 32; refine (in_yes _ _ _ (by omega) (by omega) _).mono ?_; rintro e w' ⟨rfl, rfl⟩) | (go_at_call 39; refine (hash.spec_any _ _ (by rw [ByteArray.size_append, ht]; unfold maxLen; omega)).mono ?_; rintro e w' ⟨rfl, rfl⟩))
  go_ret
  exact ⟨rfl, .inr ⟨_, _, rfl⟩⟩

theorem impl_in (s : ByteArray) (r : Int) (h0 : 0 ≤ r) (h1 : r ≤ 3) (hs : s.size ≤ 1048576) (w : World) :
    Calls Try.prog 20 #[.string s, .int .i64 r] w fun e w' => e = .returned (.int .i64 (placeOf s r)) ∧ One w w' := by
  have hcv := conv r h0 h1 w
  have ht := tail_size r
  have hb := hash.hashOf_bd (s ++ tail r)
  go_enter Try.func20, Try.ntmps20
  go_wp2_with (first | (go_at_call 40; refine (hash.impl_any _ _ (by rw [ByteArray.size_append, ht]; unfold maxLen; omega)).mono ?_; rintro e w' ⟨rfl, rfl⟩))
  go_ret
  exact ⟨rfl, .inr ⟨_, _, rfl⟩⟩

def placeAns (s : ByteArray) (r : Int) : Int := if 0 ≤ r ∧ r ≤ 3 then placeOf s r else -1
theorem spec_any (s : ByteArray) (r : Int) (hs : s.size ≤ 1048576) (w : World) :
    Calls Try.prog 19 #[.string s, .int .i64 r] w fun e w' => e = .returned (.int .i64 (placeAns s r)) ∧ One w w' := by
  by_cases h : 0 ≤ r ∧ r ≤ 3
  · refine (spec_in s r h.1 h.2 hs w).mono ?_
    rintro e w' ⟨rfl, hb⟩
    exact ⟨by simp [placeAns, h], hb⟩
  · have hd : decide (0 ≤ r ∧ r ≤ 3) = false := by simpa using h
    have HP : Hid (placeAns s r = -1) := by simp [Hid, placeAns, h]
    go_enter Try.func19, Try.ntmps19
    go_wp2_with (first | (go_at_call 32; refine (in_any _ _ _ _).mono ?_; rintro e w' ⟨rfl, rfl⟩))
    go_ret
    exact ⟨by rw [HP.out]; rfl, .inl rfl⟩
theorem impl_any (s : ByteArray) (r : Int) (hs : s.size ≤ 1048576) (w : World) :
    Calls Try.prog 20 #[.string s, .int .i64 r] w fun e w' => e = .returned (.int .i64 (placeAns s r)) ∧ One w w' := by
  by_cases h : 0 ≤ r ∧ r ≤ 3
  · refine (impl_in s r h.1 h.2 hs w).mono ?_
    rintro e w' ⟨rfl, hb⟩
    exact ⟨by simp [placeAns, h], hb⟩
  · have HP : Hid (placeAns s r = -1) := by simp [Hid, placeAns, h]
    by_cases h0 : r < 0
    · go_enter Try.func20, Try.ntmps20
      go_wp2
      go_ret
      exact ⟨by rw [HP.out]; rfl, .inl rfl⟩
    · have h3 : 4 ≤ r := by omega
      go_enter Try.func20, Try.ntmps20
      go_wp2
      go_ret
      exact ⟨by rw [HP.out]; rfl, .inl rfl⟩

end Go.Proofs.Ytgdoclaifnnpgaa.place
