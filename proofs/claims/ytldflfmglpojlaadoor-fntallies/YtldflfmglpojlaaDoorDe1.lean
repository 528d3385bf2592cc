/- What the laws of chapter 10 draw, first part: a thing. -/
import Derived.Test.YtldflfmglpojlaaDoorMg00
import Derived.Test.YtldflfmglpojlaaDoorMg04
import Derived.Deep.DeepCutAuto
namespace Go.Proofs.YtldflfmglpojlaaDoor.rg
open Go.ChangeShapes Go.WideShapes Go.ChangeAt Go.RowKit
open Go.Proofs.YtldflfmglpojlaaDoor.ce Go.Proofs.YtldflfmglpojlaaDoor.ro Go.Proofs.YtldflfmglpojlaaDoor.draw
set_option linter.unusedVariables false

theorem l1Int_wide (n : Nat) (hn : n ≤ 1000) (w : World) :
    Calls Tryd.prog 42 #[.int .i64 n] w fun e w' => ∃ s : ByteArray, e = .returned (.string s) ∧ s.size ≤ 4000 ∧ Below w.heap.size w w' := by
  have hn0 : ¬ (n : Int) < 0 := by omega
  go_enter Tryd.func42, Tryd.ntmps42
  go_wp2
  go_loopg [0, 3, 5] (2 * n + 1) (fun k v s d wr => ∃ (q : Nat) (out : ByteArray), v = .int .i64 q ∧ s = .string out ∧ q ≤ 1000 ∧ out.size + 2 * q ≤ 3000 ∧ (out.toList = [] → 2 * q + 1 ≤ k) ∧ (out.toList ≠ [] → 2 * q ≤ k ∧ out.size ≤ 3000) ∧ Below w.heap.size w wr)
  case atStart => exact ⟨n, ⟨#[]⟩, rfl, rfl, hn, by show 0 + 2 * n ≤ 3000; omega, fun _ => Nat.le_refl _, fun h => ⟨by omega, by show 0 ≤ 3000; omega⟩, Below.refl _ _⟩
  case round =>
    obtain ⟨q, out, rfl, rfl, hq, hsz, hk1, hk2, hB⟩ := hrel
    have HK1 : Hid (out.toList = [] → 2 * q + 1 ≤ gk) := hk1
    have HK2 : Hid (out.toList ≠ [] → 2 * q ≤ gk ∧ out.size ≤ 3000) := hk2
    clear hk1 hk2
    obtain ⟨d, hd⟩ := hid_ex (q % 10)
    have hd9 : d ≤ 9 := by have := hd.out; omega
    have hcv := dig_conv d hd9 wr
    have hds : (dig d).size = 1 := rfl
    have hmod : (q : Int) % 10 = (d : Int) := by have := hd.out; omega
    obtain ⟨q2, hq2⟩ := hid_ex (q / 10)
    have hdiv : (q : Int) / 10 = (q2 : Int) := by have := hq2.out; omega
    have hd0 : ¬ (d : Int) < 0 := by omega
    have hout : (dig d ++ out).size = 1 + out.size := by rw [ByteArray.size_append]; rfl
    have hne : Hid ((dig d ++ out).toList ≠ []) := by
      unfold Hid
      intro e
      have h1 : (dig d ++ out).data.toList = [] := by rw [← ByteArray.toList_eq]; exact e
      have h2 : (dig d ++ out).size = 0 := by show (dig d ++ out).data.size = 0; rw [← Array.length_toList, h1]; rfl
      omega
    by_cases he : out.toList = []
    · have hb : (out.toList == []) = true := by rw [he]; rfl
      have hs0 : out.size ≤ 0 := by
        have h1 : out.data.toList = [] := by rw [← ByteArray.toList_eq]; exact he
        show out.data.size ≤ 0
        rw [← Array.length_toList, h1]
        exact Nat.le_refl _
      go_wp2
      go_roundg (2 * q2)
      case measure => have := HK1.out he; have := hq2.out; omega
      case rel => exact ⟨q2, dig d ++ out, rfl, rfl, by have := hq2.out; omega, by have := hq2.out; omega, fun h => absurd h hne.out, fun _ => ⟨Nat.le_refl _, by omega⟩, hB.alloc hB.size _⟩
    · have hb : (out.toList == []) = false := by
        cases hx : out.toList with
        | nil => exact absurd hx he
        | cons x r => rfl
      by_cases hq0 : q = 0
      · have hqb : ((q : Int) != 0) = false := by rw [hq0]; rfl
        have hs3 : out.size ≤ 3000 := by omega
        clear hq0 he
        go_wp2
        go_ret
        exact ⟨out, rfl, by omega, hB⟩
      · have hqb : ((q : Int) != 0) = true := by simp; omega
        have hlt : q2 < q := by have := hq2.out; omega
        have HE : Hid (out.toList ≠ []) := he
        clear he hq0
        go_wp2
        go_roundg (2 * q2)
        case measure => have := (HK2.out HE.out).1; omega
        case rel => exact ⟨q2, dig d ++ out, rfl, rfl, by have := hq2.out; omega, by have := hq2.out; omega, fun h => absurd h hne.out, fun _ => ⟨Nat.le_refl _, by omega⟩, hB.alloc hB.size _⟩

/-- no text of the thing is long -/
def SmI (i : It) : Prop := i.N.size ≤ 4000 ∧ i.B.size ≤ 4000
def zero5 : List Value := [.string ⟨#[]⟩, .int .i64 0, .string ⟨#[]⟩, .int .i64 0, .int .i64 0]
section
variable {w : World} {p : Nat} {a0 : Option Addr} {len cap b g : Nat} {N B : ByteArray} {F C U : Int} {wr w' : World}
end
section
variable {w : World} {p : Nat} {a0 : Option Addr} {len cap b g : Nat} {wr w' w'' : World}
end
/-- what was drawn: a thing -/
structure GotI (w : World) (p : Nat) (a0 : Option Addr) (len cap : Nat) (N B : ByteArray) (w' : World) : Prop where
  cur : Cur w' p a0 len cap
  gb : w.grownBy w' (some p)
  sN : N.size ≤ 4000
  sB : B.size ≤ 4000
end Go.Proofs.YtldflfmglpojlaaDoor.rg
