/- Contracts of the laws' likeInts and likeSketch, where both hold the same. -/
import Derived.Test.YtgdoclaifnnpgaaLw2
namespace Go.Proofs.Ytgdoclaifnnpgaa.sk
open Go.ChangeShapes Go.WideShapes Go.ChangeAt Go.RowKit
set_option linter.unusedVariables false

/-- a row is held against one that holds the same numbers -/
theorem likeRow (xs : List Int) (a a' : Option Addr) (c c' : Nat) (w : World) (lo hi lo' hi' : Nat) (hh : hi ≤ w.heap.size) (hh' : hi' ≤ w.heap.size) (hr : RowR w lo hi a xs) (hr' : RowR w lo' hi' a' xs) :
    Calls Try.prog 50 #[.slice a xs.length c, .slice a' xs.length c'] w fun e w' => e = .returned (.bool true) ∧ Below w.heap.size w w' := by
  have hxm := hr.1
  unfold maxLen at hxm
  have hR1 : Hid (RowR w lo hi a xs) := hr
  have hR2 : Hid (RowR w lo' hi' a' xs) := hr'
  clear hr hr'
  go_enter Try.func50, Try.ntmps50
  go_wp2
  go_loopw [5] (fun v' wr => ∃ i : Nat, i ≤ xs.length ∧ v' = .int .i64 i ∧ Below w.heap.size w wr) (fun v' _ => xs.length - (intOf v').toNat)
  case atStart => exact ⟨0, by omega, rfl, Below.refl _ _⟩
  case round =>
    obtain ⟨i, hi1, rfl, hBr⟩ := hrel
    by_cases hlt : i < xs.length
    · obtain ⟨b, off, rfl, -, hb, hrange⟩ := rd_row hR1.out (by omega)
      obtain ⟨b', off', rfl, -, hb', hrange'⟩ := rd_row hR2.out (by omega)
      obtain ⟨z, hz⟩ : ∃ z, xs[i] = z := ⟨_, rfl⟩
      have hcz : wr.cell? ⟨b, off + i, none⟩ = some (.int .i64 z) := by rw [hBr.cell (by show b < _; omega), range_cell hrange i hlt, hz]
      have hcz' : wr.cell? ⟨b', off' + i, none⟩ = some (.int .i64 z) := by rw [hBr.cell (by show b' < _; omega), range_cell hrange' i hlt, hz]
      have hlt' : (i : Int) < xs.length := by omega
      clear hrange hrange' hz
      go_wp2
      go_region_held3 (fun w' => w'.cell? ⟨b, off + i, none⟩ = some (.int .i64 z) ∧ w'.cell? ⟨b', off' + i, none⟩ = some (.int .i64 z)) (first | assumption | exact ⟨hcz, hcz'⟩) (fail)
      go_wp2
      go_roundw
      case rel => exact ⟨i + 1, by omega, by go_num, hBr.drew⟩
      case measure => simp [intOf]; omega
    · go_wp2
      go_ret
      exact ⟨rfl, hBr⟩

theorem likeSketch_any (R : List (List Int)) (adds : Int) (v v' : Value) (w : World) (lo hi lo' hi' : Nat) (hh : hi ≤ w.heap.size) (hh' : hi' ≤ w.heap.size) (hv : Rd w lo hi v R) (hv' : Rd w lo' hi' v' R) :
    Calls Try.prog 28 #[skv v adds, skv v' adds] w fun e w' => e = .returned (.bool true) ∧ Below w.heap.size w w' := by
  obtain ⟨hRl, a, cap, rfl, hrows⟩ := hv
  obtain ⟨-, a', cap', rfl, hrows'⟩ := hv'
  unfold maxLen at hRl
  obtain ⟨b, off, hA0, hC0⟩ := rd_at (n := 0) (c := 0) hrows
  obtain ⟨b', off', hA0', hC0'⟩ := rd_at (n := 0) (c := 0) hrows'
  have hA : Hid (R ≠ [] → a = some ⟨b, off, none⟩ ∧ b < hi) := hA0
  have hA' : Hid (R ≠ [] → a' = some ⟨b', off', none⟩ ∧ b' < hi') := hA0'
  have hC : Hid (∀ i (h : i < R.length), ∃ a' c', w.cell? ⟨b, off + i, none⟩ = some (.slice a' (R[i]).length c') ∧ RowR w lo hi a' R[i]) := hC0
  have hC' : Hid (∀ i (h : i < R.length), ∃ a' c', w.cell? ⟨b', off' + i, none⟩ = some (.slice a' (R[i]).length c') ∧ RowR w lo' hi' a' R[i]) := hC0'
  clear hA0 hC0 hrows hA0' hC0' hrows'
  have m0 : Hid True := trivial
  go_enter Try.func28, Try.ntmps28
  go_wp2_with (first | (clear m0; refine wpList_box_v rfl 27 _ rfl [.slice a R.length cap, .int .i64 adds] rfl ?_; intro b1 w1 hb1 hw1 hB1 hV1) | (refine wpList_box_v rfl 27 _ rfl [.slice a' R.length cap', .int .i64 adds] rfl ?_; intro b2 w2 hb2 hw2 hB2 hV2; replace hV1 := hV1.below hB2 hw1; have hc0 := hV1.cell 0 (by simp); have hc1 := hV1.cell 1 (by simp); have hd0 := hV2.cell 0 (by simp); have hd1 := hV2.cell 1 (by simp); simp only [List.getElem_cons_zero, List.getElem_cons_succ] at hc0 hc1 hd0 hd1))
  have h1 := hB1.size
  have h2 := hB2.size
  have hB : Below w.heap.size w w2 := hB1.trans (hB2.mono h1)
  clear hc0 hc1 hd0 hd1
  go_loopw [5] (fun q wr => ∃ i : Nat, i ≤ R.length ∧ q = .int .i64 i ∧ VBlk wr b1 27 [.slice a R.length cap, .int .i64 adds] ∧ VBlk wr b2 27 [.slice a' R.length cap', .int .i64 adds] ∧ Below w.heap.size w wr) (fun q _ => R.length - (intOf q).toNat)
  case atStart => exact ⟨0, by omega, rfl, hV1, hV2, hB⟩
  case round =>
    obtain ⟨i, hi1, rfl, hv1, hv2, hBr⟩ := hrel
    have hc0 := hv1.cell 0 (by simp)
    have hd0 := hv2.cell 0 (by simp)
    simp only [List.getElem_cons_zero] at hc0 hd0
    by_cases hlt : i < R.length
    · have hne : R ≠ [] := by intro e; rw [e] at hlt; simp at hlt
      obtain ⟨ra, rc, hcell0, hrow0⟩ := hC.out i hlt
      obtain ⟨ra', rc', hcell0', hrow0'⟩ := hC'.out i hlt
      obtain ⟨rfl, hbh⟩ := hA.out hne
      obtain ⟨rfl, hbh'⟩ := hA'.out hne
      obtain ⟨xs, hxs⟩ : ∃ xs, R[i] = xs := ⟨_, rfl⟩
      rw [hxs] at hcell0 hrow0 hcell0' hrow0'
      have hcell : wr.cell? ⟨b, off + i, none⟩ = some (.slice ra xs.length rc) := by rw [hBr.cell (by show b < _; omega)]; exact hcell0
      have hcell' : wr.cell? ⟨b', off' + i, none⟩ = some (.slice ra' xs.length rc') := by rw [hBr.cell (by show b' < _; omega)]; exact hcell0'
      have hrow : Hid (RowR wr.drew lo hi ra xs) := (hrow0.keep (Same.of_below hBr.drew hh))
      have hrow' : Hid (RowR wr.drew lo' hi' ra' xs) := (hrow0'.keep (Same.of_below hBr.drew hh'))
      clear hcell0 hrow0 hcell0' hrow0' hxs hne
      have hbr := hBr.size
      have lv1 := hv1.lt
      have lv2 := hv2.lt
      have hlt' : (i : Int) < R.length := by omega
      go_wp2
      go_region_held3 (fun w' => w'.cell? ⟨b1, 0, none⟩ = some (.slice (some ⟨b, off, none⟩) R.length cap) ∧ w'.cell? ⟨b2, 0, none⟩ = some (.slice (some ⟨b', off', none⟩) R.length cap') ∧ w'.cell? ⟨b, off + i, none⟩ = some (.slice ra xs.length rc) ∧ w'.cell? ⟨b', off' + i, none⟩ = some (.slice ra' xs.length rc')) (first | assumption | exact ⟨hc0, hd0, hcell, hcell'⟩ | exact ⟨hc5a, hd5a, hc5, hc5'⟩) (first | (go_at_call 50; refine (likeRow xs ra ra' rc rc' wr.drew lo hi lo' hi' (by show hi ≤ wr.heap.size; omega) (by show hi' ≤ wr.heap.size; omega) hrow.out hrow'.out).mono ?_; rintro e w5 ⟨rfl, hB5⟩; have hv15 := VBlk.below (w := wr.drew) hv1 hB5 lv1; have hv25 := VBlk.below (w := wr.drew) hv2 hB5 lv2; have hc5a := hv15.cell 0 (by simp); have hd5a := hv25.cell 0 (by simp); simp only [List.getElem_cons_zero] at hc5a hd5a; have hc5 : w5.cell? ⟨b, off + i, none⟩ = some (.slice ra xs.length rc) := (by rw [hB5.cell (by show b < wr.heap.size; omega)]; exact hcell); have hc5' : w5.cell? ⟨b', off' + i, none⟩ = some (.slice ra' xs.length rc') := (by rw [hB5.cell (by show b' < wr.heap.size; omega)]; exact hcell')) | (fail))
      go_wp2
      go_roundw
      case rel => exact ⟨i + 1, by omega, by go_num, hv15, hv25, hBr.drew.trans (hB5.mono hbr)⟩
      case measure => simp [intOf]; omega
    · go_wp2
      go_ret
      exact ⟨rfl, hBr⟩

end Go.Proofs.Ytgdoclaifnnpgaa.sk
