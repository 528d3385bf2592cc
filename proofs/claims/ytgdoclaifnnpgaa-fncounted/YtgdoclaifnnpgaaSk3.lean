/- Contract of the four rows laid out as lists. -/
import Derived.Test.YtgdoclaifnnpgaaSk2
import Derived.Test.YtgdoclaifnnpgaaSkOps
namespace Go.Proofs.Ytgdoclaifnnpgaa.sk
open Go.ChangeShapes Go.WideShapes Go.ChangeAt Go.RowKit
set_option linter.unusedVariables false

theorem take_snoc {α : Type} (R : List α) (i : Nat) (h : i < R.length) : R.take (i + 1) = R.take i ++ [R[i]] := List.take_succ_eq_append_getElem h
theorem VBlk.there {w : World} {b : Nat} {t : TypeId} {vs : List Value} (h : VBlk w b t vs) : w.there b 0 vs.length := fun j hj =>
  ⟨by simp only [Nat.zero_add]; rw [h.cell j hj]; rfl, by simp only [Nat.zero_add]; exact h.frozen j⟩

theorem lists_any (R : List (List Int)) (hR : Four R) (w : World) :
    Calls Try.prog 36 #[arr R.flatten] w fun e w' => ∃ v, e = .returned v ∧ Own w' w.heap.size w'.heap.size v R ∧ Below w.heap.size w w' := by
  have hl := hR.len
  go_enter Try.func36, Try.ntmps36
  go_wp2_with (first | (refine wpList_box_arr rfl 54 _ rfl R.flatten rfl ?_; intro b w1 hb hw1 hB1 hK1) | (refine wpList_make rfl 22 46 _ _ rfl (.slice none 0 0) 24 4 Try.underlying22 info46 rfl rfl rfl (by omega) (by omega) ?_; intro bo w2 hbo hw2 hB2 hV2; replace hK1 := hK1.below hB2 hw1) | (refine wpList_load_arr rfl 54 _ rfl b 0 64 rfl _ Try.underlying54 rfl size54 hK1 (by omega) R.flatten (all64 hl) ?_))
  have hB : Below w.heap.size w w2 := hB1.trans (hB2.mono hB1.size)
  have hlo : w.heap.size ≤ bo := by have := hB1.size; omega
  go_loopw [8] (fun v wr => ∃ i : Nat, i ≤ 4 ∧ v = .int .i64 i ∧ bo < wr.heap.size ∧ wr.there bo 0 4 ∧ (∃ B C, OwnAt wr w.heap.size wr.heap.size bo B C (R.take i)) ∧ Below w.heap.size w wr) (fun v _ => 4 - (intOf v).toNat)
  case atStart => exact ⟨0, by omega, rfl, hw2, hV2.there, ⟨fun _ => 0, fun _ => 0, own_none _ _ _ _ _ _ (Nat.le_refl _)⟩, hB⟩
  case round =>
    obtain ⟨i, hi, rfl, hbs, hth, ⟨B, C, hown⟩, hBr⟩ := hrel
    by_cases hlt : i < 4
    · have hiR : i < R.length := by rw [hR.1]; exact hlt
      obtain ⟨xs, hxs⟩ : ∃ xs, R[i] = xs := ⟨_, rfl⟩
      have hx16 : xs.length = 16 := by rw [← hxs]; exact hR.2 _ (List.getElem_mem hiR)
      have hchunk : Hid ((R.flatten.drop (i * 16)).take 16 = xs) := by unfold Hid; rw [flat_chunk 16 R hR.2 i hiR, hxs]
      have HX : Hid (R[i] = xs) := hxs
      clear hxs
      go_wp2_with (first | (refine wpList_index_arr rfl 54 _ _ rfl R.flatten i 4 16 rfl rfl Try.underlying54 Try.sizeOf52 Try.isAgg52 hlt xs hchunk.out ?_) | (refine wpList_alloc_arr rfl 52 rfl _ zero52 ?_; intro b3 w3 hb3 hw3 hB3 hK3) | (refine wpList_store_arr rfl 52 _ _ rfl b3 0 xs rfl rfl (by rw [hx16]; exact size52) hK3 (by rw [hx16]; simp) ?_; intro w4 hO4 hK4; rw [put_all _ _ (by rw [hx16]; simp)] at hK4) | (refine wpList_make rfl 46 2 _ _ rfl (.int .i64 0) 8 16 Try.underlying46 info2 rfl rfl rfl (by omega) (by omega) ?_; intro bi w5 hbi hw5 hB5 hV5; have hth5 := there_of hth (((hB5.block bo (by have := hO4.1; have := hB3.size; omega)).trans (hO4.2.1 bo (by omega))).trans (hB3.block bo hbs)); obtain ⟨u, hu⟩ := Option.isSome_iff_exists.1 (hth5 i hlt).1; have hf := (hth5 i hlt).2; simp only [Nat.zero_add] at hu hf))
      have hs3 := hB3.size
      have hs4 := hO4.1
      have hs5 := hB5.size
      have n1 : b3 ≠ bo := by omega
      have n2 : bi ≠ bo := by omega
      have n3 : bi ≠ b3 := by omega
      obtain ⟨w6, HW6⟩ : ∃ w6, Hid (w6 = w5.setCell ⟨bo, i, none⟩ (.slice (some ⟨bi, 0, none⟩) 16 16)) := ⟨_, rfl⟩
      rw [← HW6.out]
      have c6 : w6.drew.cell? ⟨bo, i, none⟩ = some (.slice (some ⟨bi, 0, none⟩) 16 16) := by show w6.cell? _ = _; rw [HW6.out]; exact World.cell?_setCell_same _ _ _ hu
      have r6 : w6.drew.rangeAt b3 0 (ints xs) := by
        have h5 := hK4.below hB5 (by omega)
        have h6 : Blk w6.drew b3 52 xs := by show Blk w6 b3 52 xs; rw [HW6.out]; exact h5.of (Below.heap_setCell _ _ _ _ n1)
        exact h6.range0
      have k6 : Blk w6.drew bi 2 (List.replicate 16 0) := by show Blk w6 bi _ _; rw [HW6.out]; exact hV5.ints.of (Below.heap_setCell _ _ _ _ n2)
      have t6 : w6.drew.there bi 0 16 := k6.there 0 16 (by simp)
      have c7 : (w6.drew.setCells bi 0 (ints xs)).cell? ⟨bo, i, none⟩ = some (.slice (some ⟨bi, 0, none⟩) 16 16) := by
        rw [World.cell?_of_block (w := w6.drew) (heap_setCells_other bi _ _ _ bo (fun e => n2 e.symm))]; exact c6
      go_region_held3 (fun w' => w'.cell? ⟨bo, i, none⟩ = some (.slice (some ⟨bi, 0, none⟩) 16 16)) (first | assumption | exact c6 | exact c7) (first | (refine step_val rfl (exec_copy _ _ _ _ rfl 2 Try.underlying46 size2 bi 0 16 16 b3 0 16 xs hx16 rfl rfl r6 t6) ?_))
      have k7 := k6.setCells xs 0 (by simp [hx16])
      rw [put_all _ _ (by simp [hx16])] at k7
      have o7 := only_setCells w6.drew bi (ints xs) 0
      obtain ⟨w7, HW7⟩ : ∃ w7, Hid (w7 = w6.drew.setCells bi 0 (ints xs)) := ⟨_, rfl⟩
      rw [← HW7.out] at c7 k7 o7 ⊢
      clear r6 k6 t6 c6
      go_wp2
      go_roundw
      case rel =>
        have hsz : w7.heap.size = w5.heap.size := by rw [o7.1]; show w6.heap.size = _; rw [HW6.out]; simp
        have sw : ∀ k, k < wr.heap.size → k ≠ bo → w7.heap[k]? = wr.heap[k]? := fun k hk hne => by
          rw [o7.2.1 k (by omega)]
          show w6.heap[k]? = _
          rw [HW6.out, Below.heap_setCell _ _ _ _ hne, hB5.block k (by omega), hO4.2.1 k (by omega), hB3.block k hk]
        have cw : ∀ j, j ≠ i → w7.cell? ⟨bo, j, none⟩ = wr.cell? ⟨bo, j, none⟩ := fun j hj => by
          rw [World.cell?_of_block (w := w6.drew) (o7.2.1 bo (fun e => n2 e.symm))]
          show w6.cell? _ = _
          rw [HW6.out, World.cell?_setCell_other _ _ _ _ (by simp <;> omega), World.cell?_of_block (w := w4) (hB5.block bo (by omega)), World.cell?_of_block (w := w3) (hO4.2.1 bo (by omega)), World.cell?_of_block (w := wr) (hB3.block bo hbs)]
        have hlt' : (R.take i).length = i := by simp; omega
        have own1 : OwnAt w7 w.heap.size wr.heap.size bo B C (R.take i) := hown.keepOuter (fun k _ h2 h3 => sw k h2 h3) (fun j hj => cw j (by omega)) (by omega)
        have own2 := own1.snoc (hi' := w7.heap.size) hlo (by omega) (by omega) (Nat.le_refl _) bi 16 xs (by omega) (by have := hBr.size; omega) (by omega) n2 (by rw [hx16]; unfold maxLen; omega) k7.row (by rw [hlt', hx16]; exact c7)
        refine ⟨i + 1, by omega, by go_num, by omega, ?_, ⟨_, _, by rw [take_snoc R i hiR, HX.out]; exact own2⟩, ?_⟩
        · intro j hj
          have h5 := hth5 j hj
          simp only [Nat.zero_add] at h5 ⊢
          have eb : w7.frozen? ⟨bo, j, none⟩ = w6.frozen? ⟨bo, j, none⟩ := World.frozen?_of_block (w := w6) (o7.2.1 bo (fun e => n2 e.symm))
          rw [eb, HW6.out, World.frozen?_setCell]
          refine ⟨?_, h5.2⟩
          by_cases e : j = i
          · subst e; rw [c7]; rfl
          · rw [cw j e]; have := (hth j hj).1; simpa using this
        · have hBw : Below w.heap.size w w5 := ((hBr.trans (hB3.mono hBr.size)).trans (hO4.2.2 _ (by have := hBr.size; omega))).trans (hB5.mono (by have := hBr.size; omega))
          refine Below.trans (b := w6) (by rw [HW6.out]; exact hBw.setCell hlo _) (Below.trans (b := w6.drew) (Below.refl _ _).drew (o7.2.2 _ (by have := hBr.size; omega)))
      case measure => simp [intOf]; omega
    · obtain rfl : i = 4 := by omega
      rw [List.take_of_length_le (by rw [hR.1]; omega)] at hown
      go_wp2
      go_ret
      exact ⟨_, rfl, ⟨by rw [hR.1]; unfold maxLen; omega, _, _, bo, B, C, by rw [hR.1]; rfl, fun _ => rfl, hown⟩, hBr⟩

end Go.Proofs.Ytgdoclaifnnpgaa.sk
