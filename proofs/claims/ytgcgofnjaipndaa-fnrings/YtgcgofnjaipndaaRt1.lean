/- Contracts of the laws' helpers: like rings; a text that is not in a row. -/
import Derived.Test.YtgcgofnjaipndaaRs3
namespace Go.Proofs.Ytgcgofnjaipndaa.rg
open Go.ChangeShapes Go.WideShapes Go.ChangeAt Go.RowKit
open Go.Proofs.Ytgcgofnjaipndaa.ce Go.Proofs.Ytgcgofnjaipndaa.ro
set_option linter.unusedVariables false

set_option maxRecDepth 100000 in
set_option maxHeartbeats 1000000 in
theorem likeRing_any (r : Rg) (vN vU vN' vU' : Value) (w : World) (hn : Rd encS w vN r.N) (hu : Rd encB w vU r.U) (hn' : Rd encS w vN' r.N) (hu' : Rd encB w vU' r.U) :
    Calls Try.prog 32 #[.agg #[vN, vU, .int .i64 r.A], .agg #[vN', vU', .int .i64 r.A]] w fun e w' => e = .returned (.bool true) ∧ Below w.heap.size w w' := by
  have hlU := hu.len
  obtain ⟨a, cap, rfl⟩ := hn.form
  obtain ⟨c, dc, rfl⟩ := hu.form
  obtain ⟨a', cap', rfl⟩ := hn'.form
  obtain ⟨c', dc', rfl⟩ := hu'.form
  have R1 : Hid (Rd encS w (.slice a r.N.length cap) r.N) := hn
  have R2 : Hid (Rd encB w (.slice c r.U.length dc) r.U) := hu
  have R3 : Hid (Rd encS w (.slice a' r.N.length cap') r.N) := hn'
  have R4 : Hid (Rd encB w (.slice c' r.U.length dc') r.U) := hu'
  clear hn hu hn' hu'
  have hAA : (r.A != r.A) = false := by simp
  have hnn : ((r.U.length : Int) != (r.U.length : Int)) = false := by simp
  have m1 : Hid True := trivial
  have m2 : Hid True := trivial
  go_enter Try.func32, Try.ntmps32
  go_wp2_with (first | (clear m1; refine wpList_box_v rfl 29 _ rfl [.slice a r.N.length cap, .slice c r.U.length dc, .int .i64 r.A] rfl ?_; intro b1 w1 hb1 hw1 hB1 V1; have hz1 := hB1.size) | (clear m2; refine wpList_box_v rfl 29 _ rfl [.slice a' r.N.length cap', .slice c' r.U.length dc', .int .i64 r.A] rfl ?_; intro b2 w2 hb2 hw2 hB2 V2; have hz2 := hB2.size; replace V1 := vblk_grow V1 hB2; have hB := hB1.trans (hB2.mono hz1); obtain ⟨c0, c1, c2⟩ := cells3 V1; obtain ⟨d0, d1, d2⟩ := cells3 V2) | (go_at_call 34; refine (likeTexts_any r.N _ _ _ (R1.out.grow hB) (R3.out.grow hB)).mono ?_; rintro e w3 ⟨rfl, hB3⟩; have hz3 := hB3.size; replace V1 := vblk_grow V1 hB3; replace V2 := vblk_grow V2 hB3; replace hB := hB.trans (hB3.mono (by omega)); clear c0 c1 c2 d0 d1 d2; obtain ⟨c0, c1, c2⟩ := cells3 V1; obtain ⟨d0, d1, d2⟩ := cells3 V2) | (fail))
  clear c0 c1 c2 d0 d1 d2
  go_loopw [5] (fun v' wr => ∃ i : Nat, i ≤ r.U.length ∧ v' = .int .i64 i ∧ Below w3.heap.size w3 wr) (fun v' _ => r.U.length - (intOf v').toNat)
  case atStart => exact ⟨0, by omega, rfl, Below.refl _ _⟩
  case round =>
    obtain ⟨i, hi1, rfl, hBr⟩ := hrel
    have hBw := hB.trans (hBr.mono (by omega))
    obtain ⟨c0, c1, c2⟩ := cells3 (vblk_grow V1 hBr)
    obtain ⟨d0, d1, d2⟩ := cells3 (vblk_grow V2 hBr)
    by_cases hlt : i < r.U.length
    · obtain ⟨b, off, rfl, hb, f0⟩ := rdB_cell (R2.out.grow hBw) i hlt
      obtain ⟨b', off', rfl, hb', g0⟩ := rdB_cell (R4.out.grow hBw) i hlt
      obtain ⟨z, hz⟩ := hid_ex (r.U[i])
      rw [hz.out] at f0 g0
      have hlt' : (i : Int) < r.U.length := by omega
      have hzz : (z != z) = false := by simp
      go_wp2
      go_region_held3 (fun w' => w'.cell? ⟨b, off + i, none⟩ = some (.bool z) ∧ w'.cell? ⟨b', off' + i, none⟩ = some (.bool z) ∧ w'.cell? ⟨b1, 1, none⟩ = some (.slice (some ⟨b, off, none⟩) r.U.length dc) ∧ w'.cell? ⟨b2, 1, none⟩ = some (.slice (some ⟨b', off', none⟩) r.U.length dc')) (first | assumption | exact ⟨f0, g0, c1, d1⟩) (fail)
      go_wp2
      go_roundw
      case rel => exact ⟨i + 1, by omega, by go_num, hBr.drew⟩
      case measure => simp [intOf]; omega
    · have hlt' : ¬ (i : Int) < (r.U.length : Int) := by omega
      go_wp2
      go_ret
      exact ⟨rfl, hBw⟩

theorem hasText_no (N : List ByteArray) (s : ByteArray) (v : Value) (w : World) (r : Rd encS w v N) (hs : s ∉ N) :
    Calls Try.prog 33 #[v, .string s] w fun e w' => e = .returned (.bool false) ∧ w' = w := by
  have hl := r.len
  obtain ⟨a, cap, rfl⟩ := r.form
  have R : Hid (Rd encS w (.slice a N.length cap) N) := r
  have HS : Hid (s ∉ N) := hs
  clear r hs
  go_enter Try.func33, Try.ntmps33
  go_wp2
  go_loop [5] (fun p => ∃ i : Nat, i ≤ N.length ∧ p = .int .i64 i) (fun p => N.length - (intOf p).toNat)
  case atStart => exact ⟨0, by omega, rfl⟩
  case round =>
    obtain ⟨i, hi1, rfl⟩ := hrel
    by_cases hlt : i < N.length
    · obtain ⟨b, off, rfl, hb, d0⟩ := rdS_cell R.out i hlt
      have hlt' : (i : Int) < (N.length : Int) := by omega
      have hne : N[i] ≠ s := fun e => HS.out (e ▸ List.getElem_mem hlt)
      obtain ⟨z, hz⟩ := hid_ex (N[i])
      rw [hz.out] at d0 hne
      have hbe : (z.toList == s.toList) = false := by simpa using fun e => hne (str_eq e)
      clear hne
      go_wp2
      go_round
      case rel => exact ⟨i + 1, by omega, by go_num⟩
      case measure => simp [intOf]; omega
    · have hlt' : ¬ (i : Int) < (N.length : Int) := by omega
      go_wp2
      go_ret
      exact ⟨rfl, rfl⟩
end Go.Proofs.Ytgcgofnjaipndaa.rg
