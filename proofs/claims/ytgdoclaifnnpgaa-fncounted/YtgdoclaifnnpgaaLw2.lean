/- Contracts of the laws' helpers on sketches: copies of many rows, comparisons. -/
import Derived.Test.YtgdoclaifnnpgaaLw1
namespace Go.Proofs.Ytgdoclaifnnpgaa.sk
open Go.ChangeShapes Go.WideShapes Go.ChangeAt Go.RowKit
set_option linter.unusedVariables false

theorem rd_at {w : World} {lo hi : Nat} {a : Option Addr} {R : List (List Int)} {n c : Nat} (hrows : R = [] ∨ ∃ b off, a = some ⟨b, off, none⟩ ∧ lo ≤ b ∧ b < hi ∧
    ∀ i (h : i < R.length), ∃ a' c', w.cell? ⟨b, off + i, none⟩ = some (.slice a' (R[i]).length c') ∧ RowR w lo hi a' R[i]) :
    ∃ b off, (R ≠ [] → a = some ⟨b, off, none⟩ ∧ b < hi) ∧ ∀ i (h : i < R.length), ∃ a' c', w.cell? ⟨b, off + i, none⟩ = some (.slice a' (R[i]).length c') ∧ RowR w lo hi a' R[i] := by
  rcases hrows with rfl | ⟨b, off, rfl, -, hb, hc⟩
  · exact ⟨0, 0, fun h => absurd rfl h, fun i hi => by simp at hi⟩
  · exact ⟨b, off, fun _ => ⟨rfl, hb⟩, hc⟩

theorem toRows (R : List (List Int)) (hm : Modest R) (v : Value) (w : World) (lo hi : Nat) (hh : hi ≤ w.heap.size) (hv : Rd w lo hi v R) :
    Calls Try.prog 33 #[v] w fun e w' => ∃ v', e = .returned v' ∧ Own w' w.heap.size w'.heap.size v' R ∧ Below w.heap.size w w' := by
  obtain ⟨hRl, a, cap, rfl, hrows⟩ := hv
  have hm1 := hm.1
  have hm2 : Hid (∀ xs ∈ R, xs.length ≤ 1048576) := hm.2
  clear hm
  obtain ⟨b, off, hA0, hC0⟩ := rd_at (n := 0) (c := 0) hrows
  have hA : Hid (R ≠ [] → a = some ⟨b, off, none⟩ ∧ b < hi) := hA0
  have hC : Hid (∀ i (h : i < R.length), ∃ a' c', w.cell? ⟨b, off + i, none⟩ = some (.slice a' (R[i]).length c') ∧ RowR w lo hi a' R[i]) := hC0
  clear hA0 hC0 hrows
  go_enter Try.func33, Try.ntmps33
  go_wp2_with (first | (refine wpList_make rfl 22 46 _ _ rfl (.slice none 0 0) 24 R.length Try.underlying22 info46 rfl rfl rfl (by omega) (by omega) ?_; intro bo w1 hbo hw1 hB1 hV1))
  have hth1 : w1.there bo 0 R.length := by have := hV1.there; simpa using this
  go_loopw [4] (fun v' wr => ∃ i : Nat, i ≤ R.length ∧ v' = .int .i64 i ∧ bo < wr.heap.size ∧ Hid (wr.there bo 0 R.length) ∧ (∃ B C, Hid (OwnAt wr w.heap.size wr.heap.size bo B C (R.take i))) ∧ Below w.heap.size w wr) (fun v' _ => R.length - (intOf v').toNat)
  case atStart => exact ⟨0, by omega, rfl, hw1, hth1, ⟨fun _ => 0, fun _ => 0, own_none _ _ _ _ _ _ (Nat.le_refl _)⟩, hB1⟩
  case round =>
    obtain ⟨i, hi', rfl, hbs, hth, ⟨B, C, hown⟩, hBr⟩ := hrel
    by_cases hlt : i < R.length
    · obtain ⟨a', c', hcell0, hrow0⟩ := hC.out i hlt
      obtain ⟨rfl, hbh⟩ := hA.out (by intro e; rw [e] at hlt; simp at hlt)
      obtain ⟨xs, hxs⟩ : ∃ xs, R[i] = xs := ⟨_, rfl⟩
      have hxm : xs.length ≤ 1048576 := by rw [← hxs]; exact hm2.out _ (List.getElem_mem hlt)
      rw [hxs] at hcell0 hrow0
      have HX : Hid (R[i] = xs) := hxs
      clear hxs
      have hcell : wr.cell? ⟨b, off + i, none⟩ = some (.slice a' xs.length c') := by rw [hBr.cell (by show b < _; omega)]; exact hcell0
      have hrow : Hid (RowR wr lo hi a' xs) := hrow0.keep (Same.of_below hBr hh)
      clear hcell0 hrow0
      have hbr := hBr.size
      have hlt' : (i : Int) < R.length := by omega
      go_wp2_with (first | (go_at_call 52; refine (toRow xs a' c' _ lo hi (by omega) hxm hrow.out).mono ?_; rintro e w5 ⟨g, rfl, hg1, hg2, hg3, hB5⟩; have hth5 : Hid (w5.there bo 0 R.length) := there_of hth.out (hB5.block bo hbs); obtain ⟨u, hu⟩ := Option.isSome_iff_exists.1 (hth5.out i hlt).1; have hf := (hth5.out i hlt).2; simp only [Nat.zero_add] at hu hf; have HG : Hid (Blk w5 g 2 xs) := hg3; clear hg3))
      go_roundw
      case rel =>
        have hs5 := hB5.size
        have n2 : g ≠ bo := by omega
        have hlt2 : (R.take i).length = i := by simp; omega
        obtain ⟨w6, HW6⟩ : ∃ w6, w6 = w5.setCell ⟨bo, i, none⟩ (.slice (some ⟨g, 0, none⟩) xs.length xs.length) := ⟨_, rfl⟩
        rw [← HW6]
        have hsz : w6.heap.size = w5.heap.size := by rw [HW6]; simp
        have c6 : w6.cell? ⟨bo, i, none⟩ = some (.slice (some ⟨g, 0, none⟩) xs.length xs.length) := by rw [HW6]; exact World.cell?_setCell_same _ _ _ hu
        have own1 : OwnAt w6 w.heap.size wr.heap.size bo B C (R.take i) := hown.out.keepOuter (fun k _ h2 h3 => by rw [HW6, Below.heap_setCell _ _ _ _ h3, hB5.block k h2]) (fun j hj => by rw [HW6, World.cell?_setCell_other _ _ _ _ (by simp <;> omega), World.cell?_of_block (w := wr) (hB5.block bo hbs)]) (by omega)
        have own2 := own1.snoc (hi' := w6.heap.size) hbo (by omega) (by omega) (Nat.le_refl _) g xs.length xs hg1 (by omega) (by omega) n2 (by unfold maxLen; omega) (by rw [HW6]; exact (HG.out.of (Below.heap_setCell _ _ _ _ n2)).row) (by rw [hlt2]; exact c6)
        refine ⟨i + 1, by omega, by go_num, by omega, ?_, ⟨_, _, by rw [take_snoc R i hlt, HX.out]; exact own2⟩, ?_⟩
        · intro j hj
          have h5 := hth5.out j hj
          simp only [Nat.zero_add] at h5 ⊢
          by_cases e : j = i
          · subst e; rw [c6, HW6, World.frozen?_setCell]; exact ⟨rfl, h5.2⟩
          · rw [HW6, World.frozen?_setCell, World.cell?_setCell_other _ _ _ _ (by simp <;> omega)]; exact h5
        · rw [HW6]; exact (hBr.trans (hB5.mono hbr)).setCell hbo _
      case measure => simp [intOf]; omega
    · have e : i = R.length := by omega
      have hown' : OwnAt wr w.heap.size wr.heap.size bo B C R := by have := hown.out; rw [e, List.take_length] at this; exact this
      have HO : Hid _ := hown'
      clear hown hown'
      go_wp2
      go_ret
      exact ⟨_, rfl, ⟨hRl, _, _, bo, B, C, rfl, fun _ => rfl, HO.out⟩, hBr⟩

theorem toSketch_any (R : List (List Int)) (hm : Modest R) (v : Value) (adds : Int) (w : World) (lo hi : Nat) (hh : hi ≤ w.heap.size) (hv : Rd w lo hi v R) :
    Calls Try.prog 12 #[skv v adds] w fun e w' => ∃ v', e = .returned (skv v' adds) ∧ Own w' w.heap.size w'.heap.size v' R ∧ Below w.heap.size w w' := by
  have hV : Hid (Rd w lo hi v R) := hv
  clear hv
  have m0 : Hid True := trivial
  go_enter Try.func12, Try.ntmps12
  go_wp2_with (first | (refine wpList_box_v rfl 24 _ rfl [v, .int .i64 adds] rfl ?_; intro b1 w1 hb1 hw1 hB1 hV1) | (clear m0; refine wpList_alloc_v rfl 27 rfl _ zero27 ?_; intro b2 w2 hb2 hw2 hB2 hV2; replace hV1 := hV1.below hB2 hw1) | (refine wpList_alloc_v rfl 27 rfl _ zero27 ?_; intro b3 w3 hb3 hw3 hB3 hV3; replace hV1 := hV1.below hB3 (by have := hB2.size; omega); replace hV2 := hV2.below hB3 hw2; have hc0 := hV1.cell 0 (by simp); simp only [List.getElem_cons_zero] at hc0) | (go_at_call 33; refine (toRows R hm v _ lo hi (by have := hB1.size; have := hB2.size; have := hB3.size; omega) (((hV.out.below hB1 hh).below hB2 (by have := hB1.size; omega)).below hB3 (by have := hB1.size; have := hB2.size; omega))).mono ?_; rintro e w4 ⟨v', rfl, hown, hB4⟩; obtain ⟨va, vn, vc, rfl⟩ := hown.form; have hV14 := hV1.below hB4 (by have := hB2.size; have := hB3.size; omega); have hV24 := hV2.below hB4 (by have := hB3.size; omega); have hV34 := hV3.below hB4 hw3; have hc4 := hV34.cell 0 (by simp); have hf4 := hV34.frozen 0; have n13 : b1 ≠ b3 := (by have := hB2.size; omega); have n23 : b2 ≠ b3 := (by omega); have hV35 := hV34.set 0 (.slice va vn vc); simp only [List.getElem_cons_zero, List.set_cons_zero] at hc4 hV35; have hV15 : VBlk (w4.setCell ⟨b3, 0, none⟩ (.slice va vn vc)) b1 _ _ := hV14.of (heap_setCell_other _ _ _ _ n13); have hV25 : VBlk (w4.setCell ⟨b3, 0, none⟩ (.slice va vn vc)) b2 _ _ := hV24.of (heap_setCell_other _ _ _ _ n23); have hc51 := hV15.cell 1 (by simp); have hc53 := hV35.cell 1 (by simp); have hf5 := hV35.frozen 1; simp only [List.getElem_cons_zero, List.getElem_cons_succ] at hc51 hc53; have hV36 := hV35.set 1 (.int .i64 adds); simp only [List.set_cons_zero, List.set_cons_succ] at hV36; have hV26 : VBlk ((w4.setCell ⟨b3, 0, none⟩ (.slice va vn vc)).setCell ⟨b3, 1, none⟩ (.int .i64 adds)) b2 _ _ := hV25.of (heap_setCell_other _ _ _ _ n23); have hc60 := hV36.cell 0 (by simp); have hc61 := hV36.cell 1 (by simp); simp only [List.getElem_cons_zero, List.getElem_cons_succ] at hc60 hc61) | (refine wpList_store_v rfl 27 _ _ rfl b2 [.slice va vn vc, .int .i64 adds] rfl rfl size27 hV26 rfl (by simp [Value.oneCell']) ?_; intro w7 hO7 hV7))
  have h1 := hB1.size
  have h2 := hB2.size
  have h3 := hB3.size
  have h4 := hB4.size
  have h7 : w7.heap.size = w4.heap.size := by rw [hO7.1]; simp
  refine row_retv rfl rfl hV7 Try.underlying27 size27 rfl ⟨_, rfl, ?_, ?_⟩
  · have o1 := hown.keep (w' := w7) (fun k g1 g2 => by rw [hO7.2.1 k (by omega), heap_setCell_other _ _ _ _ (by show k ≠ b3; omega), heap_setCell_other _ _ _ _ (by show k ≠ b3; omega)]) (by omega)
    exact o1.wide (by omega) (by omega) (Nat.le_refl _)
  · have hBw : Below w.heap.size w w4 := ((hB1.trans (hB2.mono h1)).trans (hB3.mono (by omega))).trans (hB4.mono (by omega))
    exact ((hBw.setCell (by show w.heap.size ≤ b3; omega) _).setCell (by show w.heap.size ≤ b3; omega) _).trans (hO7.2.2 _ (by omega))

/-- a row is held against one that holds the same numbers -/
theorem eqRow (xs : List Int) (a a' : Option Addr) (c c' : Nat) (w : World) (lo hi lo' hi' : Nat) (hh : hi ≤ w.heap.size) (hh' : hi' ≤ w.heap.size) (hr : RowR w lo hi a xs) (hr' : RowR w lo' hi' a' xs) :
    Calls Try.prog 54 #[.slice a xs.length c, .slice a' xs.length c'] w fun e w' => e = .returned (.bool true) ∧ Below w.heap.size w w' := by
  have hxm := hr.1
  unfold maxLen at hxm
  have hR1 : Hid (RowR w lo hi a xs) := hr
  have hR2 : Hid (RowR w lo' hi' a' xs) := hr'
  clear hr hr'
  go_enter Try.func54, Try.ntmps54
  go_wp2
  go_loopw [5] (fun v' wr => ∃ i : Nat, i ≤ xs.length ∧ v' = .int .i64 i ∧ Below w.heap.size w wr) (fun v' _ => xs.length - (intOf v').toNat)
  case atStart => exact ⟨0, by omega, rfl, Below.refl _ _⟩
  case round =>
    obtain ⟨i, hi1, rfl, hBr⟩ := hrel
    by_cases hlt : i < xs.length
    · obtain ⟨b, off, rfl, -, hb, hrange⟩ := rd_row hR1.out (by omega)
      obtain ⟨b', off', rfl, -, hb', hrange'⟩ := rd_row hR2.out (by omega)
      obtain ⟨z, hz⟩ : ∃ z, xs[i] = z := ⟨_, rfl⟩
      have hcz : wr.cell? ⟨b, off + i, none⟩ = some (.int .i64 z) := by rw [hBr.cell (by show b < _; omega), range_cell hrange i hlt, hz]
      have hcz' : wr.cell? ⟨b', off' + i, none⟩ = some (.int .i64 z) := by rw [hBr.cell (by show b' < _; omega), range_cell hrange' i hlt, hz]
      have hlt' : (i : Int) < xs.length := by omega
      clear hrange hrange' hz
      go_wp2
      go_region_held3 (fun w' => w'.cell? ⟨b, off + i, none⟩ = some (.int .i64 z) ∧ w'.cell? ⟨b', off' + i, none⟩ = some (.int .i64 z)) (first | assumption | exact ⟨hcz, hcz'⟩) (fail)
      go_wp2
      go_roundw
      case rel => exact ⟨i + 1, by omega, by go_num, hBr.drew⟩
      case measure => simp [intOf]; omega
    · go_wp2
      go_ret
      exact ⟨rfl, hBr⟩

theorem eqRows (R : List (List Int)) (v v' : Value) (w : World) (lo hi lo' hi' : Nat) (hh : hi ≤ w.heap.size) (hh' : hi' ≤ w.heap.size) (hv : Rd w lo hi v R) (hv' : Rd w lo' hi' v' R) :
    Calls Try.prog 35 #[v, v'] w fun e w' => e = .returned (.bool true) ∧ Below w.heap.size w w' := by
  obtain ⟨hRl, a, cap, rfl, hrows⟩ := hv
  obtain ⟨-, a', cap', rfl, hrows'⟩ := hv'
  unfold maxLen at hRl
  obtain ⟨b, off, hA0, hC0⟩ := rd_at (n := 0) (c := 0) hrows
  obtain ⟨b', off', hA0', hC0'⟩ := rd_at (n := 0) (c := 0) hrows'
  have hA : Hid (R ≠ [] → a = some ⟨b, off, none⟩ ∧ b < hi) := hA0
  have hA' : Hid (R ≠ [] → a' = some ⟨b', off', none⟩ ∧ b' < hi') := hA0'
  have hC : Hid (∀ i (h : i < R.length), ∃ a' c', w.cell? ⟨b, off + i, none⟩ = some (.slice a' (R[i]).length c') ∧ RowR w lo hi a' R[i]) := hC0
  have hC' : Hid (∀ i (h : i < R.length), ∃ a' c', w.cell? ⟨b', off' + i, none⟩ = some (.slice a' (R[i]).length c') ∧ RowR w lo' hi' a' R[i]) := hC0'
  clear hA0 hC0 hrows hA0' hC0' hrows'
  go_enter Try.func35, Try.ntmps35
  go_wp2
  go_loopw [5] (fun v' wr => ∃ i : Nat, i ≤ R.length ∧ v' = .int .i64 i ∧ Below w.heap.size w wr) (fun v' _ => R.length - (intOf v').toNat)
  case atStart => exact ⟨0, by omega, rfl, Below.refl _ _⟩
  case round =>
    obtain ⟨i, hi1, rfl, hBr⟩ := hrel
    by_cases hlt : i < R.length
    · have hne : R ≠ [] := by intro e; rw [e] at hlt; simp at hlt
      obtain ⟨ra, rc, hcell0, hrow0⟩ := hC.out i hlt
      obtain ⟨ra', rc', hcell0', hrow0'⟩ := hC'.out i hlt
      obtain ⟨rfl, hbh⟩ := hA.out hne
      obtain ⟨rfl, hbh'⟩ := hA'.out hne
      obtain ⟨xs, hxs⟩ : ∃ xs, R[i] = xs := ⟨_, rfl⟩
      rw [hxs] at hcell0 hrow0 hcell0' hrow0'
      have hcell : wr.cell? ⟨b, off + i, none⟩ = some (.slice ra xs.length rc) := by rw [hBr.cell (by show b < _; omega)]; exact hcell0
      have hcell' : wr.cell? ⟨b', off' + i, none⟩ = some (.slice ra' xs.length rc') := by rw [hBr.cell (by show b' < _; omega)]; exact hcell0'
      have hrow : Hid (RowR wr.drew lo hi ra xs) := (hrow0.keep (Same.of_below hBr.drew hh))
      have hrow' : Hid (RowR wr.drew lo' hi' ra' xs) := (hrow0'.keep (Same.of_below hBr.drew hh'))
      clear hcell0 hrow0 hcell0' hrow0' hxs hne
      have hbr := hBr.size
      have hlt' : (i : Int) < R.length := by omega
      go_wp2
      go_region_held3 (fun w' => w'.cell? ⟨b, off + i, none⟩ = some (.slice ra xs.length rc) ∧ w'.cell? ⟨b', off' + i, none⟩ = some (.slice ra' xs.length rc')) (first | assumption | exact ⟨hcell, hcell'⟩ | exact ⟨hc5, hc5'⟩) (first | (go_at_call 54; refine (eqRow xs ra ra' rc rc' _ lo hi lo' hi' (by show hi ≤ wr.heap.size; omega) (by show hi' ≤ wr.heap.size; omega) hrow.out hrow'.out).mono ?_; rintro e w5 ⟨rfl, hB5⟩; have hc5 : w5.cell? ⟨b, off + i, none⟩ = some (.slice ra xs.length rc) := (by rw [hB5.cell (by show b < wr.heap.size; omega)]; exact hcell); have hc5' : w5.cell? ⟨b', off' + i, none⟩ = some (.slice ra' xs.length rc') := (by rw [hB5.cell (by show b' < wr.heap.size; omega)]; exact hcell')))
      go_wp2
      go_roundw
      case rel => exact ⟨i + 1, by omega, by go_num, hBr.drew.trans (hB5.mono hbr)⟩
      case measure => simp [intOf]; omega
    · go_wp2
      go_ret
      exact ⟨rfl, hBr⟩

theorem eqSketch_any (R : List (List Int)) (adds : Int) (v v' : Value) (w : World) (lo hi lo' hi' : Nat) (hh : hi ≤ w.heap.size) (hh' : hi' ≤ w.heap.size) (hv : Rd w lo hi v R) (hv' : Rd w lo' hi' v' R) :
    Calls Try.prog 14 #[skv v adds, skv v' adds] w fun e w' => e = .returned (.bool true) ∧ Below w.heap.size w w' := by
  have hV : Hid (Rd w lo hi v R) := hv
  have hV' : Hid (Rd w lo' hi' v' R) := hv'
  clear hv hv'
  have m0 : Hid True := trivial
  go_enter Try.func14, Try.ntmps14
  go_wp2_with (first | (clear m0; refine wpList_box_v rfl 27 _ rfl [v, .int .i64 adds] rfl ?_; intro b1 w1 hb1 hw1 hB1 hV1) | (refine wpList_box_v rfl 27 _ rfl [v', .int .i64 adds] rfl ?_; intro b2 w2 hb2 hw2 hB2 hV2; replace hV1 := hV1.below hB2 hw1; have hc0 := hV1.cell 0 (by simp); have hc2 := hV2.cell 0 (by simp); simp only [List.getElem_cons_zero] at hc0 hc2) | (go_at_call 35; refine (eqRows R v v' _ lo hi lo' hi' (by have := hB1.size; have := hB2.size; omega) (by have := hB1.size; have := hB2.size; omega) ((hV.out.below hB1 hh).below hB2 (by have := hB1.size; omega)) ((hV'.out.below hB1 hh').below hB2 (by have := hB1.size; omega))).mono ?_; rintro e w3 ⟨rfl, hB3⟩; have hV13 := hV1.below hB3 (by have := hB2.size; omega); have hV23 := hV2.below hB3 hw2; have hc13 := hV13.cell 1 (by simp); have hc23 := hV23.cell 1 (by simp); simp only [List.getElem_cons_zero, List.getElem_cons_succ] at hc13 hc23))
  go_ret
  have h1 := hB1.size
  exact ⟨rfl, (hB1.trans (hB2.mono h1)).trans (hB3.mono (by have := hB2.size; omega))⟩

end Go.Proofs.Ytgdoclaifnnpgaa.sk
