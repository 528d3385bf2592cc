/- Contracts of the model's helpers on texts: a number is shown. -/
import Derived.Test.YtfdkcldbbfgaiaaDoorCy0
import Derived.Test.YtfdkcldbbfgaiaaDoorRs2
import Derived.Deep.LoopGhost
namespace Go.Proofs.YtfdkcldbbfgaiaaDoor.cm
open Go.ChangeShapes Go.WideShapes Go.ChangeAt Go.RowKit
open Go.Proofs.YtfdkcldbbfgaiaaDoor.ce Go.Proofs.YtfdkcldbbfgaiaaDoor.ro Go.Proofs.YtfdkcldbbfgaiaaDoor.rg
set_option linter.unusedVariables false

theorem dig_tx (d : Nat) : dig d = tx [dg d] := rfl
theorem tx_nonempty {l : List UInt8} (h : l ≠ []) : (tx l).toList ≠ [] := by rw [bs_toList, bs_tx]; exact h
theorem dig_len {n q : Nat} {l : List UInt8} (h : Dig n q l) : l.length ≤ (digs n).length := by
  by_cases e : l = []
  · rw [e]; exact Nat.zero_le _
  · rw [h.on e, List.length_append]; omega
/-- what l1Int tells of a number that is not below 0 -/
theorem l1Int_is (n : Nat) (hn : n ≤ 1000000000000) (w : World) :
    Calls Tryd.prog 18 #[.int .i64 n] w fun e w' => e = .returned (.string (tx (digs n))) ∧ Below w.heap.size w w' := by
  have hn0 : ¬ (n : Int) < 0 := by omega
  go_enter Tryd.func18, Tryd.ntmps18
  go_wp2
  go_loopg [0, 3, 5] (2 * n + 1) (fun k v s d wr => ∃ (q : Nat) (l : List UInt8) (out : ByteArray), v = .int .i64 q ∧ s = .string out ∧ q ≤ 1000000000000 ∧ Hid (out = tx l) ∧ Hid (Dig n q l) ∧ Hid (l = [] → 2 * q + 1 ≤ k) ∧ Hid (l ≠ [] → 2 * q ≤ k) ∧ Below w.heap.size w wr)
  case atStart => exact ⟨n, [], ⟨#[]⟩, rfl, rfl, hn, rfl, dig_start n, fun _ => Nat.le_refl _, fun h => absurd rfl h, Below.refl _ _⟩
  case round =>
    obtain ⟨q, l, out, rfl, rfl, hq, ho, hD, hk1, hk2, hB⟩ := hrel
    obtain ⟨d, hd⟩ := hid_ex (q % 10)
    have hd9 : d ≤ 9 := by have := hd.out; omega
    have hcv := dig_conv d hd9 wr
    have hmod : (q : Int) % 10 = (d : Int) := by have := hd.out; omega
    obtain ⟨q2, hq2⟩ := hid_ex (q / 10)
    have hdiv : (q : Int) / 10 = (q2 : Int) := by have := hq2.out; omega
    have hd0 : ¬ (d : Int) < 0 := by omega
    have hds : (dig d).size = 1 := rfl
    have hosz : out.size ≤ 13 := by
      rw [ho.out, tx_size]
      exact Nat.le_trans (dig_len hD.out) (digs_len 12 n (by omega))
    have hout : Hid (dig d ++ out = tx (dg d :: l)) := by
      unfold Hid
      rw [ho.out, dig_tx, ← tx_app]
      rfl
    have hle : q2 ≤ 1000000000000 := by have := hq2.out; omega
    by_cases he : l = []
    · have hb : (out.toList == []) = true := by rw [ho.out, he, bs_toList, bs_tx]; rfl
      have hD2 : Hid (Dig n q2 (dg d :: l)) := by
        have := dig_step hD.out (Or.inl he)
        rw [hd.out, hq2.out] at this
        exact this
      have hgk := hk1.out he
      have hg2 : 2 * q2 < gk := by have := hq2.out; omega
      clear he hgk
      go_wp2
      go_roundg (2 * q2)
      case measure => exact hg2
      case rel => exact ⟨q2, dg d :: l, dig d ++ out, rfl, rfl, hle, hout, hD2, fun h => by simp at h, fun _ => Nat.le_refl _, hB.alloc hB.size _⟩
    · have hb : (out.toList == []) = false := by
        rw [ho.out]
        have := tx_nonempty he
        cases hx : (tx l).toList with
        | nil => exact absurd hx this
        | cons x r => rfl
      by_cases hq0 : q = 0
      · have hqb : ((q : Int) != 0) = false := by rw [hq0]; rfl
        have hend : Hid (out = tx (digs n)) := by
          unfold Hid
          have h := hD.out
          rw [hq0] at h
          rw [ho.out, ← dig_end h he]
        clear hq0 he
        go_wp2
        go_ret
        exact ⟨by rw [hend.out]; rfl, hB⟩
      · have hqb : ((q : Int) != 0) = true := by simp; omega
        have hD2 : Hid (Dig n q2 (dg d :: l)) := by
          have := dig_step hD.out (Or.inr hq0)
          rw [hd.out, hq2.out] at this
          exact this
        have hgk := hk2.out he
        have hg2 : 2 * q2 < gk := by have := hq2.out; omega
        clear he hq0 hgk
        go_wp2
        go_roundg (2 * q2)
        case measure => exact hg2
        case rel => exact ⟨q2, dg d :: l, dig d ++ out, rfl, rfl, hle, hout, hD2, fun h => by simp at h, fun _ => Nat.le_refl _, hB.alloc hB.size _⟩
end Go.Proofs.YtfdkcldbbfgaiaaDoor.cm
