/- What the laws of chapter 8 draw, first part: a number as a text; a name, or what is none. -/
import Derived.Test.YtekladbkhplchaaRs2
import Derived.Test.YtekladbkhplchaaDrawS
import Derived.Deep.LoopGhost
namespace Go.Proofs.Ytekladbkhplchaa.rg
open Go.ChangeShapes Go.WideShapes Go.ChangeAt Go.RowKit
open Go.Proofs.Ytekladbkhplchaa.ce Go.Proofs.Ytekladbkhplchaa.ro
set_option linter.unusedVariables false

theorem l1Int_any (n : Nat) (hn : n ≤ 100) (w : World) :
    Calls Try.prog 90 #[.int .i64 n] w fun e w' => ∃ s : ByteArray, e = .returned (.string s) ∧ s.size ≤ 1000 ∧ Below w.heap.size w w' := by
  have hn0 : ¬ (n : Int) < 0 := by omega
  go_enter Try.func90, Try.ntmps90
  go_wp2
  go_loopg [0, 3, 5] (2 * n + 1) (fun k v s d wr => ∃ (q : Nat) (out : ByteArray), v = .int .i64 q ∧ s = .string out ∧ q ≤ 100 ∧ out.size + 2 * q ≤ 300 ∧ (out.toList = [] → 2 * q + 1 ≤ k) ∧ (out.toList ≠ [] → 2 * q ≤ k ∧ out.size ≤ 300) ∧ Below w.heap.size w wr)
  case atStart => exact ⟨n, ⟨#[]⟩, rfl, rfl, hn, by show 0 + 2 * n ≤ 300; omega, fun _ => Nat.le_refl _, fun h => ⟨by omega, by show 0 ≤ 300; omega⟩, Below.refl _ _⟩
  case round =>
    obtain ⟨q, out, rfl, rfl, hq, hsz, hk1, hk2, hB⟩ := hrel
    have HK1 : Hid (out.toList = [] → 2 * q + 1 ≤ gk) := hk1
    have HK2 : Hid (out.toList ≠ [] → 2 * q ≤ gk ∧ out.size ≤ 300) := hk2
    clear hk1 hk2
    obtain ⟨d, hd⟩ := hid_ex (q % 10)
    have hd9 : d ≤ 9 := by have := hd.out; omega
    have hcv := dig_conv d hd9 wr
    have hds : (dig d).size = 1 := rfl
    have hmod : (q : Int) % 10 = (d : Int) := by have := hd.out; omega
    obtain ⟨q2, hq2⟩ := hid_ex (q / 10)
    have hdiv : (q : Int) / 10 = (q2 : Int) := by have := hq2.out; omega
    have hd0 : ¬ (d : Int) < 0 := by omega
    have hout : (dig d ++ out).size = 1 + out.size := by rw [ByteArray.size_append]; rfl
    have hne : Hid ((dig d ++ out).toList ≠ []) := by
      unfold Hid
      intro e
      have h1 : (dig d ++ out).data.toList = [] := by rw [← ByteArray.toList_eq]; exact e
      have h2 : (dig d ++ out).size = 0 := by show (dig d ++ out).data.size = 0; rw [← Array.length_toList, h1]; rfl
      omega
    by_cases he : out.toList = []
    · have hb : (out.toList == []) = true := by rw [he]; rfl
      have hs0 : out.size ≤ 0 := by
        have h1 : out.data.toList = [] := by rw [← ByteArray.toList_eq]; exact he
        show out.data.size ≤ 0
        rw [← Array.length_toList, h1]
        exact Nat.le_refl _
      go_wp2
      go_roundg (2 * q2)
      case measure => have := HK1.out he; have := hq2.out; omega
      case rel => exact ⟨q2, dig d ++ out, rfl, rfl, by have := hq2.out; omega, by have := hq2.out; omega, fun h => absurd h hne.out, fun _ => ⟨Nat.le_refl _, by omega⟩, hB.alloc hB.size _⟩
    · have hb : (out.toList == []) = false := by
        cases hx : out.toList with
        | nil => exact absurd hx he
        | cons x r => rfl
      by_cases hq0 : q = 0
      · have hqb : ((q : Int) != 0) = false := by rw [hq0]; rfl
        have hs3 : out.size ≤ 300 := by omega
        clear hq0 he
        go_wp2
        go_ret
        exact ⟨out, rfl, by omega, hB⟩
      · have hqb : ((q : Int) != 0) = true := by simp; omega
        have hlt : q2 < q := by have := hq2.out; omega
        have HE : Hid (out.toList ≠ []) := he
        clear he hq0
        go_wp2
        go_roundg (2 * q2)
        case measure => have := (HK2.out HE.out).1; omega
        case rel => exact ⟨q2, dig d ++ out, rfl, rfl, by have := hq2.out; omega, by have := hq2.out; omega, fun h => absurd h hne.out, fun _ => ⟨Nat.le_refl _, by omega⟩, hB.alloc hB.size _⟩

/-- what l8DrawName may tell besides names -/
def odd4 : List ByteArray := [⟨#[]⟩, ⟨#[65]⟩, ⟨#[48, 49, 50, 51, 52, 53, 54, 55, 56, 57, 97, 98, 99]⟩, ⟨#[122, 122]⟩]
theorem odd4_small : ∀ s ∈ odd4, s.size ≤ 13 := by
  intro s hs
  simp only [odd4, List.mem_cons, List.not_mem_nil, or_false] at hs
  rcases hs with rfl | rfl | rfl | rfl <;> decide
open Go.Proofs.Ytekladbkhplchaa.draw in
theorem l8DrawName_any (w0 w : World) (p : Nat) (a0 : Option Addr) (len cap : Nat) (hc : Cur w p a0 len cap) (hg : w0.grownBy w (some p)) :
    Calls Try.prog 76 #[.pointer (some ⟨p, 0, none⟩)] w fun e w' => ∃ s : ByteArray, e = .returned (.string s) ∧ s.size ≤ 13 ∧ Cur w' p a0 len cap ∧ w0.grownBy w' (some p) := by
  go_enter Try.func76, Try.ntmps76
  go_wp2_with (first | (go_at_call 71; refine (once_from w0 w p a0 len cap 12 (by omega) hc hg).mono ?_; rintro e w1 ⟨x, rfl, hc1, hg1⟩; cases x) | (go_at_call 88; refine (name_from w0 w1 p a0 len cap hc1 hg1).mono ?_; rintro e w2 ⟨s, rfl, hs, hc2, hg2⟩) | (go_at_call 49; refine (below_names w0 w1 p a0 len cap odd4 _ 4 13 rfl (by omega) odd4_small hc1 hg1).mono ?_; rintro e w2 ⟨x, s, rfl, hx0, hx1, hcell, hs, hc2, hg2⟩; obtain ⟨k, hk⟩ : ∃ k : Nat, x = k := ⟨x.toNat, by omega⟩; subst hk; rw [Int.toNat_natCast] at hcell) | (fail))
  all_goals
    go_ret
    exact ⟨s, rfl, by omega, hc2, hg2⟩
end Go.Proofs.Ytekladbkhplchaa.rg
