/- The laws' helpers on rows of numbers: equal, marked, held. -/
import Derived.Test.YtefmndjoailemaaDoorRi1
import Derived.Test.YtefmndjoailemaaDoorMk0
import Derived.BigQuiet
import Derived.Deep.RegionHeld3
namespace Go.Proofs.YtefmndjoailemaaDoor.rg
open Go.ChangeShapes Go.WideShapes Go.ChangeAt Go.RowKit
open Go.Proofs.YtefmndjoailemaaDoor.ce Go.Proofs.YtefmndjoailemaaDoor.ro Go.Proofs.YtefmndjoailemaaDoor.cm
set_option linter.unusedVariables false

def nmarks (k n : Nat) : List Int := (List.range n).map fun j => ((k + j : Nat) : Int)
theorem nmarks_len (k n : Nat) : (nmarks k n).length = n := by simp [nmarks]
theorem nmarks_succ (k n : Nat) : nmarks k (n + 1) = nmarks k n ++ [((k + n : Nat) : Int)] := by simp [nmarks, List.range_succ]
theorem nmarks_get (k n i : Nat) (h : i < (nmarks k n).length) : (nmarks k n)[i] = ((k + i : Nat) : Int) := by simp [nmarks]
theorem ownN_cell {w : World} {lo hi n cap : Nat} {a : Option Addr} {xs : List Int} (o : Own encN w lo hi (.slice a n cap) xs) (i : Nat) (h : i < xs.length) : ∃ g, a = some ⟨g, 0, none⟩ ∧ (lo ≤ g ∧ g < hi) ∧ w.cell? ⟨g, i, none⟩ = some (.int .i64 xs[i]) ∧ w.frozen? ⟨g, i, none⟩ = false := by
  obtain ⟨g, e, h1, h2, h3⟩ := o.cell i 0 h (show 0 < 1 by decide)
  exact ⟨g, e, h1, by simpa [encN] using h2, by simpa [encN] using h3⟩
theorem ownN_set {w : World} {lo hi g n cap : Nat} {xs : List Int} (o : Own encN w lo hi (.slice (some ⟨g, 0, none⟩) n cap) xs) (i : Nat) (h : i < xs.length) (x : Int) : Own encN (w.setCell ⟨g, i, none⟩ (.int .i64 x)) lo hi (.slice (some ⟨g, 0, none⟩) n cap) (xs.set i x) := by
  have := o.set i 0 h (show 0 < 1 by decide) (.int .i64 x) x rfl
  simpa [encN] using this
theorem eqNs_any (xs : List Int) (v v' : Value) (w : World) (r : Rd encN w v xs) (r' : Rd encN w v' xs) :
    Calls Tryd.prog 9 #[v, v'] w fun e w' => e = .returned (.bool true) ∧ Below w.heap.size w w' := by
  have hl := r.len
  obtain ⟨a, cap, rfl⟩ := r.form
  obtain ⟨a', cap', rfl⟩ := r'.form
  have R : Hid (Rd encN w (.slice a xs.length cap) xs) := r
  have R' : Hid (Rd encN w (.slice a' xs.length cap') xs) := r'
  clear r r'
  have hne : ((xs.length : Int) != (xs.length : Int)) = false := by simp
  go_enter Tryd.func9, Tryd.ntmps9
  go_wp2
  go_loopw [5] (fun v' wr => ∃ i : Nat, i ≤ xs.length ∧ v' = .int .i64 i ∧ Below w.heap.size w wr) (fun v' _ => xs.length - (intOf v').toNat)
  case atStart => exact ⟨0, by omega, rfl, Below.refl _ _⟩
  case round =>
    obtain ⟨i, hi1, rfl, hBr⟩ := hrel
    by_cases hlt : i < xs.length
    · obtain ⟨b, off, rfl, hb, d0⟩ := rdI_cell (R.out.grow hBr) i hlt
      obtain ⟨b', off', rfl, hb', d0'⟩ := rdI_cell (R'.out.grow hBr) i hlt
      have hlt' : (i : Int) < (xs.length : Int) := by omega
      obtain ⟨z, hz⟩ := hid_ex xs[i]
      rw [hz.out] at d0 d0'
      have hxx : (z != z) = false := by simp
      go_wp2
      go_region_held3 (fun w' => w'.cell? ⟨b, off + i, none⟩ = some (.int .i64 z) ∧ w'.cell? ⟨b', off' + i, none⟩ = some (.int .i64 z)) (first | with_reducible assumption | exact ⟨d0, d0'⟩ | (fail)) (fail)
      go_wp2
      go_roundw
      case rel => exact ⟨i + 1, by omega, by go_num, hBr.drew⟩
      case measure => simp [intOf]; omega
    · have hlt' : ¬ (i : Int) < (xs.length : Int) := by omega
      go_wp2
      go_ret
      exact ⟨rfl, hBr⟩
theorem markNs_any (xs : List Int) (v : Value) (lo hi : Nat) (k : Nat) (hk : 1 ≤ k) (hk2 : k + xs.length ≤ 16000000) (mm : Nat) (hmm : mm = k + xs.length) (w : World) (own : Own encN w lo hi v xs) :
    Calls Tryd.prog 11 #[v, .int .i64 k] w fun e w' => e = .returned (.int .i64 mm) ∧ Own encN w' lo hi v (nmarks k xs.length) ∧ Within lo hi w w' ∧ Ty lo 2 w w' := by
  obtain ⟨a, cap, rfl⟩ := own.rd.form
  have O0 : Hid (Own encN w lo hi (.slice a xs.length cap) xs) := own
  have HMM : Hid (mm = k + xs.length) := hmm
  clear own hmm
  go_enter Tryd.func11, Tryd.ntmps11
  go_wp2
  go_loopw [1, 5] (fun q v' wr => ∃ i m : Nat, i ≤ xs.length ∧ v' = .int .i64 i ∧ q = .int .i64 m ∧ Hid (m = k + i) ∧ Hid (Own encN wr lo hi (.slice a xs.length cap) (nmarks k i ++ xs.drop i)) ∧ Hid (Within lo hi w wr) ∧ Hid (Ty lo 2 w wr)) (fun _ v' _ => xs.length - (intOf v').toNat)
  case atStart => exact ⟨0, k, by omega, rfl, rfl, rfl, by unfold Hid; simpa [nmarks] using O0.out, Within.refl _ _ _, Ty.refl _ _ _⟩
  case round =>
    obtain ⟨i, m, hi1, rfl, rfl, hm, O, hW, hY⟩ := hrel
    by_cases hlt : i < xs.length
    · have hil : i < (nmarks k i ++ xs.drop i).length := by simp [nmarks_len]; omega
      obtain ⟨g, e1, hg, d0, f0⟩ := ownN_cell O.out i hil
      subst e1
      have hlt' : (i : Int) < (xs.length : Int) := by omega
      have hm1 : 1 ≤ m ∧ m ≤ 16000000 := by have := hm.out; omega
      have hset : Hid ((nmarks k i ++ xs.drop i).set i (m : Int) = nmarks k (i + 1) ++ xs.drop (i + 1)) := by
        unfold Hid
        rw [List.set_append_right _ _ (by rw [nmarks_len]; omega), nmarks_len, Nat.sub_self, List.drop_eq_getElem_cons hlt, List.set_cons_zero, nmarks_succ, hm.out]
        simp
      go_wp2
      go_roundw
      case rel =>
        have h1 := ownN_set O.out i hil (m : Int)
        rw [hset.out] at h1
        exact ⟨i + 1, m + 1, by omega, by go_num, by go_num, by have := hm.out; unfold Hid; omega, h1, hW.out.setCell hg.1 hg.2 _, hY.out.trans (own_ty O.out (by omega) _ _)⟩
      case measure => simp [intOf]; omega
    · have hlt' : ¬ (i : Int) < (xs.length : Int) := by omega
      have o2 := O.out
      rw [show i = xs.length by omega, List.drop_length, List.append_nil] at o2
      have hm3 : m = mm := by have := hm.out; have := HMM.out; omega
      subst hm3
      clear O
      go_wp2
      go_ret
      exact ⟨rfl, o2, hW.out, hY.out⟩
theorem heldNs_any (n : Nat) (v : Value) (k : Nat) (hk : 1 ≤ k) (hk2 : k + n ≤ 16000000) (mm : Nat) (hmm : mm = k + n) (w : World) (r : Rd encN w v (nmarks k n)) :
    Calls Tryd.prog 13 #[v, .int .i64 k] w fun e w' => e = .returned (.int .i64 mm) ∧ w' = w := by
  obtain ⟨a, cap, rfl⟩ := r.form
  rw [nmarks_len] at r ⊢
  have R : Hid (Rd encN w (.slice a n cap) (nmarks k n)) := r
  have HMM : Hid (mm = k + n) := hmm
  clear r hmm
  go_enter Tryd.func13, Tryd.ntmps13
  go_wp2
  go_loop [1, 5] (fun q v' => ∃ i m : Nat, i ≤ n ∧ v' = .int .i64 i ∧ q = .int .i64 m ∧ Hid (m = k + i)) (fun _ v' => n - (intOf v').toNat)
  case atStart => exact ⟨0, k, by omega, rfl, rfl, rfl⟩
  case round =>
    obtain ⟨i, m, hi1, rfl, rfl, hm⟩ := hrel
    by_cases hlt : i < n
    · have hil : i < (nmarks k n).length := by rw [nmarks_len]; exact hlt
      obtain ⟨b, off, rfl, hb, d0⟩ := rdI_cell R.out i hil
      rw [nmarks_get, ← hm.out] at d0
      have hlt' : (i : Int) < (n : Int) := by omega
      have hm1 : 1 ≤ m ∧ m ≤ 16000000 := by have := hm.out; omega
      go_wp2
      go_round
      case rel => exact ⟨i + 1, m + 1, by omega, by go_num, by go_num, by have := hm.out; unfold Hid; omega⟩
      case measure => simp [intOf]; omega
    · have hlt' : ¬ (i : Int) < (n : Int) := by omega
      have hm3 : m = mm := by have := hm.out; have := HMM.out; omega
      subst hm3
      go_wp2
      go_ret
      exact ⟨rfl, rfl⟩
end Go.Proofs.YtefmndjoailemaaDoor.rg
