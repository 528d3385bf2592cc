/- Contract of likeHeap: a slice of cells held against one that holds the same. -/
import Derived.Test.YtpkldmmabgnhoaaCl1
namespace Go.Proofs.Ytpkldmmabgnhoaa.ce
open Go.ChangeShapes Go.WideShapes Go.ChangeAt Go.RowKit
set_option linter.unusedVariables false

theorem likeHeap_any (H : List C) (v v' : Value) (hi hi' : Nat) (w : World) (hh : hi ≤ w.heap.size) (hh' : hi' ≤ w.heap.size) (r : Rd w hi v H) (r' : Rd w hi' v' H) :
    Calls Try.prog 28 #[v, v'] w fun e w' => e = .returned (.bool true) ∧ Below w.heap.size w w' := by
  have hl := r.len
  obtain ⟨a, cap, rfl⟩ := r.form
  obtain ⟨a', cap', rfl⟩ := r'.form
  have R : Hid (Rd w hi (.slice a H.length cap) H) := r
  have R' : Hid (Rd w hi' (.slice a' H.length cap') H) := r'
  clear r r'
  go_enter Try.func28, Try.ntmps28
  go_wp2
  go_loopw [5] (fun v' wr => ∃ i : Nat, i ≤ H.length ∧ v' = .int .i64 i ∧ Below w.heap.size w wr) (fun v' _ => H.length - (intOf v').toNat)
  case atStart => exact ⟨0, by omega, rfl, Below.refl _ _⟩
  case round =>
    obtain ⟨i, hi1, rfl, hBr⟩ := hrel
    by_cases hlt : i < H.length
    · obtain ⟨b, off, rfl, hb, d0, d1, d2, d3⟩ := (R.out.below hBr hh).cell i hlt
      obtain ⟨b', off', rfl, hb', e0, e1, e2, e3⟩ := (R'.out.below hBr hh').cell i hlt
      obtain ⟨c, hc⟩ := hid_ex (H[i])
      rw [hc.out] at d0 d1 d2 d3 e0 e1 e2 e3
      obtain ⟨k, x, n, g⟩ := c
      have hlt' : (i : Int) < H.length := by omega
      have hbr := hBr.size
      go_wp2
      try simp only [Act.put, List.setIfInBounds_toArray, List.set_cons_zero, List.set_cons_succ]
      go_big_quiet (fail)
      go_wp2
      go_roundw
      case rel => exact ⟨i + 1, by omega, by go_num, hBr.trans (below_drewN _ _)⟩
      case measure => simp [intOf]; omega
    · go_wp2
      go_ret
      exact ⟨rfl, hBr⟩

end Go.Proofs.Ytpkldmmabgnhoaa.ce
