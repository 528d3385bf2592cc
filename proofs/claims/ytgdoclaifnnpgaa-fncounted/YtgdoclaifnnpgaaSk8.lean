/- Contracts of the model's l2Add and Added. -/
import Derived.Test.YtgdoclaifnnpgaaSk7
namespace Go.Proofs.Ytgdoclaifnnpgaa.sk
open Go.ChangeShapes Go.WideShapes Go.ChangeAt Go.RowKit
set_option linter.unusedVariables false

theorem OwnAt.row {w : World} {lo hi bo : Nat} {B C : Nat → Nat} {R : List (List Int)} (h : OwnAt w lo hi bo B C R) (i : Nat) (hi' : i < R.length) (xs : List Int) (hx : R[i] = xs) :
    w.cell? ⟨bo, i, none⟩ = some (.slice (some ⟨B i, 0, none⟩) xs.length (C i)) ∧ lo ≤ B i ∧ B i < hi ∧ B i ≠ bo ∧ Row w (B i) xs := by
  subst hx
  obtain ⟨c1, c2, c3, c4, c5, c6⟩ := h.2.2.2 i hi'
  exact ⟨c1, c3, c4, c5, c6⟩
theorem raise_eq (xs : List Int) (p : Nat) (hp : p < xs.length) (hs : ∀ x ∈ xs, 0 ≤ x ∧ x ≤ 15) : raise xs p = xs.set p (min 15 (xs[p] + 1)) := by
  have e : xs.getD p 0 = xs[p] := by rw [List.getD_eq_getElem?_getD, List.getElem?_eq_getElem hp]; rfl
  unfold raise
  rw [e]
  apply List.ext_getElem (by simp)
  intro j h1 h2
  simp only [List.getElem_map, List.getElem_set]
  by_cases q : p = j
  · subst q
    have := hs _ (List.getElem_mem hp)
    simp only [if_true, bnd]; omega
  · have hj : j < xs.length := by simpa using h2
    have := hs _ (List.getElem_mem hj)
    simp only [q, if_false, bnd]; omega

/-- the sketch behind one more key -/
def plusR (R : List (List Int)) (adds : Int) (key : ByteArray) : List (List Int) := if adds = 159 then halfR (addR key R) else addR key R
def plusN (adds : Int) : Int := if adds = 159 then 0 else adds + 1

set_option maxHeartbeats 4000000 in
theorem l2Add_any (R : List (List Int)) (hR4 : Four R) (hsm : Small R) (adds : Int) (had : 0 ≤ adds ∧ adds ≤ 159) (key : ByteArray) (hk : key.size ≤ 1048576) (w : World) (L lo hi ps bo : Nat) (B C : Nat → Nat) (cap : Nat)
    (hps : VBlk w ps 27 [.slice (some ⟨bo, 0, none⟩) 4 cap, .int .i64 adds]) (hown : OwnAt w lo hi bo B C R) (hL : L ≤ ps) (hLlo : L ≤ lo) (hpn : ps < lo ∨ hi ≤ ps) :
    Calls Try.prog 42 #[.pointer (some ⟨ps, 0, none⟩), .string key] w fun e w' => ∃ v, e = .returned v ∧ VBlk w' ps 27 [.slice (some ⟨bo, 0, none⟩) 4 cap, .int .i64 (plusN adds)] ∧ OwnAt w' lo hi bo B C (plusR R adds key) ∧ Below L w w' := by
  obtain ⟨T, hT⟩ : ∃ T, Hid (T = addR key R) := ⟨_, rfl⟩
  have hT4 : Four T := by rw [hT.out]; exact addR_four hR4
  have hTs : Small T := by rw [hT.out]; exact addR_small key R
  have hbo := hown.1 (by intro e; have := hR4.1; rw [e] at this; simp at this)
  have hbnd := hown.2.1
  have npb : ps ≠ bo := by omega
  have hps0 := hps
  have hOwn0 : Hid (OwnAt w lo hi bo B C R) := hown
  clear hown hps
  have lps := hps0.lt
  go_enter Try.func42, Try.ntmps42
  go_wp2
  go_loopw [4] (fun v' wr => ∃ i : Nat, i ≤ 4 ∧ v' = .int .i64 i ∧ VBlk wr ps 27 [.slice (some ⟨bo, 0, none⟩) 4 cap, .int .i64 adds] ∧ Hid (OwnAt wr lo hi bo B C (mix T R i)) ∧ w.heap.size ≤ wr.heap.size ∧ Below L w wr) (fun v' _ => 4 - (intOf v').toNat)
  case atStart => exact ⟨0, by omega, rfl, hps0, by rw [mix_zero]; exact hOwn0, Nat.le_refl _, Below.refl _ _⟩
  case round =>
    obtain ⟨i, hi4, rfl, hvp, hown, hsz, hBr⟩ := hrel
    by_cases hlt : i < 4
    · have hiR : i < R.length := by rw [hR4.1]; exact hlt
      have hiT : i < T.length := by rw [hT4.1]; exact hlt
      have hTR : T.length = R.length := by rw [hT4.1, hR4.1]
      have hTR' : Hid (T.length = R.length) := hTR
      obtain ⟨xs, hxs⟩ : ∃ xs, R[i] = xs := ⟨_, rfl⟩
      have hx16 : xs.length = 16 := by rw [← hxs]; exact hR4.2 _ (List.getElem_mem hiR)
      have hxb : Hid (∀ x ∈ xs, 0 ≤ x ∧ x ≤ 15) := by unfold Hid; rw [← hxs]; exact hsm _ (List.getElem_mem hiR)
      have him : i < (mix T R i).length := by rw [mix_len T R i hTR]; exact hiR
      have hmi : Hid ((mix T R i)[i] = xs) := by unfold Hid; rw [mix_get T R i hTR hiR, hxs]
      clear hTR
      have hpb := place.placeOf_bd key i
      obtain ⟨p, hp⟩ : ∃ p : Nat, place.placeOf key i = p := ⟨(place.placeOf key i).toNat, by omega⟩
      have hp16 : p < 16 := by omega
      have hpi : (p : Int) < 16 := by omega
      have hP : Hid (place.placeOf key i = p) := hp
      clear hp hpb
      obtain ⟨z, hz⟩ : ∃ z, xs[p]'(by omega) = z := ⟨_, rfl⟩
      have hzb : 0 ≤ z ∧ z ≤ 15 := by rw [← hz]; exact hxb.out _ (List.getElem_mem _)
      have eT : Hid (T[i] = xs.set p (min 15 (z + 1))) := by
        have h1 : T[i] = raise R[i] (place.placeOf key i).toNat := by have := hT.out; subst this; simp [addR]
        rw [hxs, hP.out, Int.toNat_natCast, raise_eq xs p (by omega) hxb.out, hz] at h1
        exact h1
      have hZ : Hid (xs[p]'(by omega) = z) := hz
      have HX : Hid (R[i] = xs) := hxs
      clear hz hxs
      obtain ⟨y, hy⟩ : ∃ y, Hid (y = min 15 (z + 1)) := ⟨_, rfl⟩
      have hilt : (i : Int) < 4 := by omega
      go_wp2_with (first | (go_at_call 19; refine (place.spec_in key i (by omega) (by omega) hk _).mono ?_; rintro e w5 ⟨he, hO5⟩; rw [hP.out] at he; subst he; have hB5 := hO5.below; have hs5 := hB5.size; have hv5 := hvp.below hB5 hvp.lt; have hown5 : Hid (OwnAt w5 lo hi bo B C (mix T R i)) := hown.out.keep (Same.of_below hB5 (by omega)) hs5; obtain ⟨r1, r2, r3, r4, r5⟩ := hown5.out.row i him xs hmi.out; have hcz := r5.cell p (by omega); have hfz := r5.frozen p (by omega); rw [hZ.out] at hcz; rw [hx16] at r1; have hc0 := hv5.cell 0 (by simp); simp only [List.getElem_cons_zero] at hc0; have R5 : Hid (Row w5 (B i) xs) := r5; clear r5))
      have hBi : B i ≠ ps := by omega
      have hs1 : ∀ u, (w5.drew.setCell ⟨B i, p, none⟩ u).cell? ⟨ps, 0, none⟩ = some (.slice (some ⟨bo, 0, none⟩) 4 cap) := fun u => by
        rw [World.cell?_of_block (w := w5.drew) (heap_setCell_other _ _ _ _ (fun e => hBi e.symm))]; exact hc0
      have hs2 : ∀ u, (w5.drew.setCell ⟨B i, p, none⟩ u).cell? ⟨bo, i, none⟩ = some (.slice (some ⟨B i, 0, none⟩) 16 (C i)) := fun u => by
        rw [World.cell?_of_block (w := w5.drew) (heap_setCell_other _ _ _ _ (fun e => r4 e.symm))]; exact r1
      go_region_law (first | (go_simp; go_at_call 58; refine (min_any _ _ _).mono ?_; rintro e wq ⟨he, hq⟩; subst wq; rw [wrapI (z + 1) (by omega) (by omega), ← hy.out] at he; subst he; dsimp only) | (fail))
      all_goals
        go_wp2
        go_roundw
        case rel =>
          have o1 : OwnAt (w5.setCell ⟨B i, p, none⟩ (.int .i64 y)) lo hi bo B C ((mix T R i).set i (((mix T R i)[i]).set p y)) := hown5.out.set i him p (by rw [hmi.out]; omega) y
          rw [hmi.out, hy.out, ← eT.out, mix_set T R i hTR'.out hiT] at o1
          refine ⟨i + 1, by omega, by go_num, VBlk.of (w' := (w5.setCell ⟨B i, p, none⟩ (.int .i64 y)).drew) hv5 (heap_setCell_other _ _ _ _ (fun e => hBi e.symm)), ?_, ?_, ?_⟩
          · rw [hy.out]; exact OwnAt.keep (w' := (w5.setCell ⟨B i, p, none⟩ (.int .i64 (min 15 (z + 1)))).drew) o1 (fun _ _ _ => rfl) (Nat.le_refl _)
          · simp; omega
          · exact ((hBr.trans (hB5.mono (by omega))).setCell (by show L ≤ B i; omega) _).drew
        case measure => simp [intOf]; omega
    · have hmix : Hid (OwnAt wr lo hi bo B C T) := by unfold Hid; rw [← mix_all T R i (by rw [hT4.1]; omega) (by rw [hR4.1]; omega)]; exact hown.out
      clear hown
      have hc0 := hvp.cell 0 (by simp)
      have hc1 := hvp.cell 1 (by simp)
      have hf1 := hvp.frozen 1
      simp only [List.getElem_cons_zero, List.getElem_cons_succ] at hc0 hc1
      have hle := hmix.out.2.1
      by_cases h159 : adds = 159
      · have hN : Hid (plusN adds = 0) := by simp [Hid, plusN, h159]
        have hRR : Hid (plusR R adds key = halfR T) := by unfold Hid plusR; rw [if_pos h159, hT.out]
        subst h159
        obtain ⟨Hf, hHf⟩ : ∃ Hf, Hid (Hf = halfR T) := ⟨_, rfl⟩
        have hHf4 : Four Hf := by rw [hHf.out]; exact halfR_four hT4
        go_wp2
        obtain ⟨w6, HW6⟩ : ∃ w6, Hid (w6 = (wr.setCell ⟨ps, 1, none⟩ (.int .i64 160)).setCell ⟨ps, 1, none⟩ (.int .i64 0)) := ⟨_, rfl⟩
        have hk6 : ∀ k, k ≠ ps → w6.heap[k]? = wr.heap[k]? := fun k hk => by rw [HW6.out, heap_setCell_other _ _ _ _ hk, heap_setCell_other _ _ _ _ hk]
        have hz6 : w6.heap.size = wr.heap.size := by rw [HW6.out]; simp
        have hv6 : VBlk w6 ps 27 [.slice (some ⟨bo, 0, none⟩) 4 cap, .int .i64 0] := by rw [HW6.out]; exact (hvp.set 1 (.int .i64 160)).set 1 (.int .i64 0)
        have hB6 : Below L w w6 := by rw [HW6.out]; exact (hBr.setCell hL _).setCell hL _
        have ho6 : Hid (OwnAt w6 lo hi bo B C T) := hmix.out.keep (fun k h1 h2 => hk6 k (by omega)) (by omega)
        first | rw [← HW6.out] | skip
        go_loopw [6] (fun v' wr => ∃ i : Nat, i ≤ 4 ∧ v' = .int .i64 i ∧ VBlk wr ps 27 [.slice (some ⟨bo, 0, none⟩) 4 cap, .int .i64 0] ∧ Hid (OwnAt wr lo hi bo B C (mix Hf T i)) ∧ w.heap.size ≤ wr.heap.size ∧ Below L w wr) (fun v' _ => 4 - (intOf v').toNat)
        case atStart => exact ⟨0, by omega, rfl, hv6, by rw [mix_zero]; exact ho6, by omega, hB6⟩
        case round =>
          clear hB6 ho6 hv6 hk6 hz6 HW6
          obtain ⟨i, hi4, rfl, hvp6, hown, hsz6, hBr6⟩ := hrel
          by_cases hlt : i < 4
          · have hiT : i < T.length := by rw [hT4.1]; exact hlt
            have hiH : i < Hf.length := by rw [hHf4.1]; exact hlt
            have hHT : Hid (Hf.length = T.length) := by unfold Hid; rw [hT4.1, hHf4.1]
            obtain ⟨xs, hxs⟩ : ∃ xs, T[i] = xs := ⟨_, rfl⟩
            have hx16 : Hid (xs.length = 16) := by unfold Hid; rw [← hxs]; exact hT4.2 _ (List.getElem_mem hiT)
            have hxb : Hid (∀ x ∈ xs, 0 ≤ x ∧ x ≤ 15) := by unfold Hid; rw [← hxs]; exact hTs _ (List.getElem_mem hiT)
            have him : i < (mix Hf T i).length := by rw [mix_len Hf T i hHT.out]; exact hiT
            have hmi : Hid ((mix Hf T i)[i] = xs) := by unfold Hid; rw [mix_get Hf T i hHT.out hiT, hxs]
            have hHi : Hid (Hf[i] = xs.map half) := by unfold Hid; have := hHf.out; subst this; simp [halfR, hxs]
            clear hxs
            have hilt : (i : Int) < 4 := by omega
            go_wp2
            go_loopw [7] (fun v' wr => ∃ k : Nat, k ≤ 16 ∧ v' = .int .i64 k ∧ VBlk wr ps 27 [.slice (some ⟨bo, 0, none⟩) 4 cap, .int .i64 0] ∧ Hid (OwnAt wr lo hi bo B C ((mix Hf T i).set i (upto half xs k))) ∧ w.heap.size ≤ wr.heap.size ∧ Below L w wr) (fun v' _ => 16 - (intOf v').toNat)
            case atStart => exact ⟨0, by omega, rfl, hvp6, by rw [upto_zero, ← hmi.out, List.set_getElem_self]; exact hown, hsz6, hBr6⟩
            case round =>
              clear hvp6 hown hsz6 hBr6
              obtain ⟨k, hk16, rfl, hvk, hown, hszk, hBk⟩ := hrel
              by_cases hklt : k < 16
              · have hkx : k < xs.length := by rw [hx16.out]; exact hklt
                have him' : i < ((mix Hf T i).set i (upto half xs k)).length := by rw [List.length_set]; exact him
                have hgi : Hid (((mix Hf T i).set i (upto half xs k))[i] = upto half xs k) := by unfold Hid; rw [List.getElem_set_self]
                obtain ⟨r1, r2, r3, r4, r5⟩ := hown.out.row i him' _ hgi.out
                have hul : Hid ((upto half xs k).length = 16) := by unfold Hid; rw [upto_len, hx16.out]
                rw [hul.out] at r1
                obtain ⟨z, hz0⟩ : ∃ z, xs[k] = z := ⟨_, rfl⟩
                have hz : Hid (xs[k] = z) := hz0
                clear hz0
                have hzb : 0 ≤ z ∧ z ≤ 15 := by rw [← hz.out]; exact hxb.out _ (List.getElem_mem _)
                have hcz : wr.cell? ⟨B i, k, none⟩ = some (.int .i64 z) := by
                  rw [r5.cell k (by rw [hul.out]; exact hklt)]
                  congr 2
                  rw [← hz.out]
                  simp only [upto]
                  rw [List.getElem_append_right (by simp; omega)]
                  simp [show min k xs.length = k by omega]
                have hfz := r5.frozen k (by rw [hul.out]; exact hklt)
                have hc0 := hvk.cell 0 (by simp)
                simp only [List.getElem_cons_zero] at hc0
                have hBi : B i ≠ ps := by omega
                have hklt' : (k : Int) < 16 := by omega
                have hs1 : ∀ u, (wr.drew.setCell ⟨B i, k, none⟩ u).cell? ⟨ps, 0, none⟩ = some (.slice (some ⟨bo, 0, none⟩) 4 cap) := fun u => by
                  rw [World.cell?_of_block (w := wr.drew) (heap_setCell_other _ _ _ _ (fun e => hBi e.symm))]; exact hc0
                have hs2 : ∀ u, (wr.drew.setCell ⟨B i, k, none⟩ u).cell? ⟨bo, i, none⟩ = some (.slice (some ⟨B i, 0, none⟩) 16 (C i)) := fun u => by
                  rw [World.cell?_of_block (w := wr.drew) (heap_setCell_other _ _ _ _ (fun e => r4 e.symm))]; exact r1
                clear r5
                go_wp2
                go_region_law (fail)
                all_goals
                  go_wp2
                  go_roundw
                  case rel =>
                    have o1 := hown.out.set i him' k (by rw [hgi.out, hul.out]; exact hklt) (half z)
                    rw [hgi.out, List.set_set] at o1
                    have eu : (upto half xs k).set k (half z) = upto half xs (k + 1) := by
                      rw [← upto_step half xs k hkx]
                      congr 2
                      rw [List.getD_eq_getElem?_getD, List.getElem?_eq_getElem hkx, ← hz.out]; rfl
                    rw [eu] at o1
                    refine ⟨k + 1, by omega, by go_num, VBlk.of (w := wr) hvk (heap_setCell_other wr _ _ _ (fun e => hBi e.symm)), ?_, by simp; omega, (hBk.setCell (by show L ≤ B i; omega) _).drew⟩
                    exact OwnAt.keep o1 (fun _ _ _ => rfl) (by simp)
                  case measure => simp [intOf]; omega
              · obtain rfl : k = 16 := by omega
                go_wp2
                go_roundw
                case rel =>
                  refine ⟨i + 1, by omega, by go_num, hvk, ?_, hszk, hBk⟩
                  have h1 := hown.out
                  rw [upto_all half xs 16 (by rw [hx16.out]; omega), ← hHi.out, mix_set Hf T i hHT.out hiH] at h1
                  exact h1
                case measure => simp [intOf]; omega
          · obtain rfl : i = 4 := by omega
            have hfin : OwnAt wr lo hi bo B C Hf := by rw [← mix_all Hf T 4 (by rw [hHf4.1]; omega) (by rw [hT4.1]; omega)]; exact hown.out
            go_wp2
            go_end0
            refine ⟨_, rfl, ?_, ?_, hBr6⟩
            · rw [hN.out]; exact hvp6
            · rw [hRR.out, ← hHf.out]; exact hfin
      · have hN : Hid (plusN adds = adds + 1) := by simp [Hid, plusN, h159]
        have hRR : Hid (plusR R adds key = T) := by unfold Hid plusR; rw [if_neg h159, hT.out]
        go_wp2
        refine bodyPost_ret (v := .tuple #[]) (by simp [results, Try.results42]) rfl ⟨_, rfl, ?_, ?_, hBr.setCell hL _⟩
        · rw [hN.out]; exact hvp.set 1 _
        · rw [hRR.out]; exact hmix.out.keep (fun k h1 h2 => heap_setCell_other _ _ _ _ (by show k ≠ ps; omega)) (by simp)

theorem specAdded_any (R : List (List Int)) (adds : Int) (key : ByteArray) (hk : key.size ≤ 1048576) (v : Value) (w : World) (hi : Nat) (hh : hi ≤ w.heap.size) (hv : Rd w 0 hi v R) :
    Calls Try.prog 21 #[skv v adds, .string key] w fun e w' => ∃ v', e = .returned (skv v' (addedN R adds)) ∧ Own w' w.heap.size w'.heap.size v' (addedR R adds key) ∧ Below w.heap.size w w' := by
  have hV : Hid (Rd w 0 hi v R) := hv
  clear hv
  by_cases hok : skOk R adds
  · have hd : decide (skOk R adds) = true := decide_eq_true hok
    have hR4 := hok.four
    have hsm := hok.small
    have had := hok.2.1
    have hR4l : Hid (R.length = 4) := hR4.1
    have hN : Hid (addedN R adds = plusN adds) := by simp [Hid, addedN, hok, plusN]
    have hRR : Hid (addedR R adds key = plusR R adds key) := by simp [Hid, addedR, hok, plusR]
    have hne : Hid (R ≠ []) := by intro e; have := hR4.1; rw [e] at this; simp at this
    clear hok
    go_enter Try.func21, Try.ntmps21
    have m0 : Hid True := trivial
    go_wp2_with (first | (refine wpList_box_v rfl 27 _ rfl [v, .int .i64 adds] rfl ?_; intro b1 w1 hb1 hw1 hB1 hV1) | (clear m0; refine wpList_alloc_v rfl 27 rfl _ zero27 ?_; intro b2 w2 hb2 hw2 hB2 hV2; replace hV1 := hV1.below hB2 hw1; have hc0 := hV1.cell 0 (by simp); have hc1 := hV1.cell 1 (by simp); simp only [List.getElem_cons_zero, List.getElem_cons_succ] at hc0 hc1) | (go_at_call 11; refine (specSketchOk_any R adds v _ hi (by have := hB1.size; have := hB2.size; omega) ((hV.out.below hB1 hh).below hB2 (by have := hB1.size; omega))).mono ?_; rintro e w3 ⟨rfl, hB3⟩; have hV13 := hV1.below hB3 (by have := hB2.size; omega); have hV23 := hV2.below hB3 hw2; have hc03 := hV13.cell 0 (by simp); have hc13 := hV13.cell 1 (by simp); simp only [List.getElem_cons_zero, List.getElem_cons_succ] at hc03 hc13) | (go_at_call 41; refine (l2Copy_any R hR4 adds v _ hi (by have := hB1.size; have := hB2.size; have := hB3.size; omega) (((hV.out.below hB1 hh).below hB2 (by have := hB1.size; omega)).below hB3 (by have := hB1.size; have := hB2.size; omega))).mono ?_; rintro e w4 ⟨v', rfl, hown, hB4⟩; obtain ⟨hRl, va, vc, bo, B, C, rfl, hva, hoa⟩ := hown; obtain rfl := hva hne.out; have hV24 := hV23.below hB4 (by have := hB3.size; omega); have HO : Hid (OwnAt w4 w3.heap.size w4.heap.size bo B C R) := hoa; clear hoa; rw [hR4l.out]) | (refine wpList_alloc_v rfl 27 rfl _ zero27 ?_; intro b5 w5 hb5 hw5 hB5 hV5) | (refine wpList_store_v rfl 27 _ _ rfl b5 [.slice (some ⟨bo, 0, none⟩) 4 vc, .int .i64 adds] rfl rfl size27 hV5 rfl (by simp [Value.oneCell']) ?_; intro w6 hO6 hV6; have HO6 : Hid (OwnAt w6 w3.heap.size w4.heap.size bo B C R) := (HO.out.keep (Same.of_below hB5 (Nat.le_refl _)) hB5.size).keep (fun k h1 h2 => hO6.2.1 k (by omega)) (by rw [hO6.1]; exact Nat.le_refl _)) | (go_at_call 42; refine (l2Add_any R hR4 hsm adds had key hk _ w3.heap.size w3.heap.size w4.heap.size b5 bo B C vc hV6 HO6.out (by have := hB4.size; omega) (Nat.le_refl _) (.inr hb5)).mono ?_; rintro e w7 ⟨u, rfl, hV7, ho7, hB7⟩; have hc07 := hV7.cell 0 (by simp); have hc17 := hV7.cell 1 (by simp); simp only [List.getElem_cons_zero, List.getElem_cons_succ] at hc07 hc17; have hV27 := ((hV24.below hB5 (by have := hB3.size; have := hB4.size; omega)).of (hO6.2.1 b2 (by have := hB3.size; have := hB4.size; omega))).below hB7 (by have := hB3.size; omega); have HO7 : Hid (OwnAt w7 w3.heap.size w4.heap.size bo B C (plusR R adds key)) := ho7; clear ho7) | (refine wpList_store_v rfl 27 _ _ rfl b2 [.slice (some ⟨bo, 0, none⟩) 4 vc, .int .i64 (plusN adds)] rfl rfl size27 hV27 rfl (by simp [Value.oneCell']) ?_; intro w8 hO8 hV8))
    have h1 := hB1.size
    have h2 := hB2.size
    have h3 := hB3.size
    have h4 := hB4.size
    have h5 := hB5.size
    have h6 := hO6.1
    have h7 := hB7.size
    have h8 := hO8.1
    have hpl : (plusR R adds key).length = 4 := by unfold plusR; split <;> simp [halfR, addR, hR4l.out]
    refine row_retv rfl rfl hV8 Try.underlying27 size27 rfl ⟨_, by rw [hN.out], ?_, ?_⟩
    · rw [hRR.out]
      have o8 : OwnAt w8 w3.heap.size w4.heap.size bo B C (plusR R adds key) := HO7.out.keep (fun k g1 g2 => hO8.2.1 k (by omega)) (by omega)
      have ow : Own w8 w3.heap.size w4.heap.size (.slice (some ⟨bo, 0, none⟩) 4 vc) (plusR R adds key) := ⟨by rw [hpl]; unfold maxLen; omega, _, _, bo, B, C, by rw [hpl], fun _ => rfl, o8⟩
      exact ow.wide (by omega) (by omega) (Nat.le_refl _)
    · have hBw : Below w.heap.size w w5 := (((hB1.trans (hB2.mono h1)).trans (hB3.mono (by omega))).trans (hB4.mono (by omega))).trans (hB5.mono (by omega))
      exact ((hBw.trans (hO6.2.2 _ (by omega))).trans (hB7.mono (by omega))).trans (hO8.2.2 _ (by omega))
  · have hd : decide (skOk R adds) = false := decide_eq_false hok
    have hN : Hid (addedN R adds = 0) := by simp [Hid, addedN, hok]
    have hRR : Hid (addedR R adds key = []) := by simp [Hid, addedR, hok]
    go_enter Try.func21, Try.ntmps21
    go_wp2_with (first | (refine wpList_box_v rfl 27 _ rfl [v, .int .i64 adds] rfl ?_; intro b1 w1 hb1 hw1 hB1 hV1) | (refine wpList_alloc_v rfl 27 rfl _ zero27 ?_; intro b2 w2 hb2 hw2 hB2 hV2; replace hV1 := hV1.below hB2 hw1; have hc0 := hV1.cell 0 (by simp); have hc1 := hV1.cell 1 (by simp); simp only [List.getElem_cons_zero, List.getElem_cons_succ] at hc0 hc1) | (go_at_call 11; refine (specSketchOk_any R adds v _ hi (by have := hB1.size; have := hB2.size; omega) ((hV.out.below hB1 hh).below hB2 (by have := hB1.size; omega))).mono ?_; rintro e w3 ⟨rfl, hB3⟩; have hV23 := hV2.below hB3 hw2) | (refine wpList_store_v rfl 27 _ _ rfl b2 [.slice none 0 0, .int .i64 0] rfl rfl size27 hV23 rfl (by simp [Value.oneCell']) ?_; intro w6 hO6 hV6))
    have h1 := hB1.size
    have h2 := hB2.size
    refine row_retv rfl rfl hV6 Try.underlying27 size27 rfl ⟨_, by rw [hN.out], by rw [hRR.out]; exact own_nil _ _ _ (Nat.le_refl _), ?_⟩
    exact ((hB1.trans (hB2.mono h1)).trans (hB3.mono (by omega))).trans (hO6.2.2 _ (by omega))

end Go.Proofs.Ytgdoclaifnnpgaa.sk
