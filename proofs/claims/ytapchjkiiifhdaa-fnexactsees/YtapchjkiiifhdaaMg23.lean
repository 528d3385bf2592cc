/- Texts laid together: Cqc Cqd Cqe Cqf Cqg Cqh Cqi Cqj. -/
import Derived.Test.YtapchjkiiifhdaaMg09
import Derived.Test.YtapchjkiiifhdaaMg18
import Derived.Test.YtapchjkiiifhdaaMg02
import Derived.Test.YtapchjkiiifhdaaMg16
import Derived.Test.YtapchjkiiifhdaaMg07
import Derived.Deep.RegionHeld3
import Derived.Lib.SmallJoins
import Derived.Deep.Slices
import Derived.BigQuiet
import Derived.Deep.DeepCutAuto
/- Contracts: the model's sketch inside a choice: who is added. -/
namespace Go.Proofs.Ytapchjkiiifhdaa.rg
open Go.ChangeShapes Go.WideShapes Go.ChangeAt Go.RowKit
open Go.Proofs.Ytapchjkiiifhdaa.ce Go.Proofs.Ytapchjkiiifhdaa.ro
theorem Tw.cell {lo hi b g : Nat} {w x : World} (h : Tw lo hi b w x) (h1 : lo ≤ g) (h2 : g < hi) (u : Value) (j : Nat) : Tw lo hi b w (x.setCell ⟨g, j, none⟩ u) := h.trans (Tw.of_in (only_set x g j u) h1 h2)
theorem Tw.put {lo hi b : Nat} {w x : World} (h : Tw lo hi b w x) (j : Nat) (u : Value) : Tw lo hi b w (x.setCell ⟨b, j, none⟩ u) := h.trans (Tw.of_only (only_set x b j u))
theorem Tw.drew {lo hi b : Nat} {w x : World} (h : Tw lo hi b w x) : Tw lo hi b w x.drew := h.trans (Tw.of_below (Below.refl _ _).drew)
end Go.Proofs.Ytapchjkiiifhdaa.rg
namespace Go.Proofs.Ytapchjkiiifhdaa.sk
open Go.ChangeShapes Go.WideShapes Go.ChangeAt Go.RowKit
set_option linter.unusedVariables false
set_option linter.unusedSimpArgs false

set_option maxRecDepth 100000 in
set_option maxHeartbeats 4000000 in
theorem l2AddC_any (y0 y1 y2 y3 y4 : Value) (R : List (List Int)) (hR4 : Four R) (hsm : Small R) (adds : Int) (had : 0 ≤ adds ∧ adds ≤ 159) (key : ByteArray) (hk : key.size ≤ 1048576) (w : World) (L lo hi ps bo : Nat) (B C : Nat → Nat) (cap : Nat)
    (hps : VBlk w ps 36 [y0, y1, y2, y3, y4, .slice (some ⟨bo, 0, none⟩) 4 cap, .int .i64 adds]) (hown : OwnAt w lo hi bo B C R) (hL : L ≤ ps) (hLlo : L ≤ lo) (hpn : ps < lo ∨ hi ≤ ps) :
    Calls Try.prog 138 #[.pointer (some ⟨ps, 5, none⟩), .string key] w fun e w' => ∃ v, e = .returned v ∧ VBlk w' ps 36 [y0, y1, y2, y3, y4, .slice (some ⟨bo, 0, none⟩) 4 cap, .int .i64 (plusN adds)] ∧ OwnAt w' lo hi bo B C (plusR R adds key) ∧ rg.Tw lo hi ps w w' := by
  obtain ⟨T, hT⟩ : ∃ T, Hid (T = addR key R) := ⟨_, rfl⟩
  have hT4 : Four T := by rw [hT.out]; exact addR_four hR4
  have hTs : Small T := by rw [hT.out]; exact addR_small key R
  have hbo := hown.1 (by intro e; have := hR4.1; rw [e] at this; simp at this)
  have hbnd := hown.2.1
  have npb : ps ≠ bo := by omega
  have hps0 := hps
  have hOwn0 : Hid (OwnAt w lo hi bo B C R) := hown
  clear hown hps
  have lps := hps0.lt
  go_enter Try.func138, Try.ntmps138
  go_wp2
  go_loopw [4] (fun v' wr => ∃ i : Nat, i ≤ 4 ∧ v' = .int .i64 i ∧ VBlk wr ps 36 [y0, y1, y2, y3, y4, .slice (some ⟨bo, 0, none⟩) 4 cap, .int .i64 adds] ∧ Hid (OwnAt wr lo hi bo B C (mix T R i)) ∧ w.heap.size ≤ wr.heap.size ∧ rg.Tw lo hi ps w wr) (fun v' _ => 4 - (intOf v').toNat)
  case atStart => exact ⟨0, by omega, rfl, hps0, by rw [mix_zero]; exact hOwn0, Nat.le_refl _, rg.Tw.refl _ _ _ _⟩
  case round =>
    obtain ⟨i, hi4, rfl, hvp, hown, hsz, hBr⟩ := hrel
    by_cases hlt : i < 4
    · have hiR : i < R.length := by rw [hR4.1]; exact hlt
      have hiT : i < T.length := by rw [hT4.1]; exact hlt
      have hTR : T.length = R.length := by rw [hT4.1, hR4.1]
      have hTR' : Hid (T.length = R.length) := hTR
      obtain ⟨xs, hxs⟩ : ∃ xs, R[i] = xs := ⟨_, rfl⟩
      have hx16 : xs.length = 16 := by rw [← hxs]; exact hR4.2 _ (List.getElem_mem hiR)
      have hxb : Hid (∀ x ∈ xs, 0 ≤ x ∧ x ≤ 15) := by unfold Hid; rw [← hxs]; exact hsm _ (List.getElem_mem hiR)
      have him : i < (mix T R i).length := by rw [mix_len T R i hTR]; exact hiR
      have hmi : Hid ((mix T R i)[i] = xs) := by unfold Hid; rw [mix_get T R i hTR hiR, hxs]
      clear hTR
      have hpb := place.placeOf_bd key i
      obtain ⟨p, hp⟩ : ∃ p : Nat, place.placeOf key i = p := ⟨(place.placeOf key i).toNat, by omega⟩
      have hp16 : p < 16 := by omega
      have hpi : (p : Int) < 16 := by omega
      have hP : Hid (place.placeOf key i = p) := hp
      clear hp hpb
      obtain ⟨z, hz⟩ : ∃ z, xs[p]'(by omega) = z := ⟨_, rfl⟩
      have hzb : 0 ≤ z ∧ z ≤ 15 := by rw [← hz]; exact hxb.out _ (List.getElem_mem _)
      have eT : Hid (T[i] = xs.set p (min 15 (z + 1))) := by
        have h1 : T[i] = raise R[i] (place.placeOf key i).toNat := by have := hT.out; subst this; simp [addR]
        rw [hxs, hP.out, Int.toNat_natCast, raise_eq xs p (by omega) hxb.out, hz] at h1
        exact h1
      have hZ : Hid (xs[p]'(by omega) = z) := hz
      have HX : Hid (R[i] = xs) := hxs
      clear hz hxs
      obtain ⟨y, hy⟩ : ∃ y, Hid (y = min 15 (z + 1)) := ⟨_, rfl⟩
      have hilt : (i : Int) < 4 := by omega
      go_wp2_with (first | (go_at_call 158; refine (place.spec_in key i (by omega) (by omega) hk _).mono ?_; rintro e w5 ⟨he, hO5⟩; rw [hP.out] at he; subst he; have hB5 := hO5.below; have hs5 := hB5.size; have hv5 := hvp.below hB5 hvp.lt; have hown5 : Hid (OwnAt w5 lo hi bo B C (mix T R i)) := hown.out.keep (Same.of_below hB5 (by omega)) hs5; obtain ⟨r1, r2, r3, r4, r5⟩ := hown5.out.row i him xs hmi.out; have hcz := r5.cell p (by omega); have hfz := r5.frozen p (by omega); rw [hZ.out] at hcz; rw [hx16] at r1; have hc0 := hv5.cell 5 (by simp); simp only [List.getElem_cons_zero, List.getElem_cons_succ] at hc0; have R5 : Hid (Row w5 (B i) xs) := r5; clear r5))
      have hBi : B i ≠ ps := by omega
      have hs1 : ∀ u, (w5.drew.setCell ⟨B i, p, none⟩ u).cell? ⟨ps, 5, none⟩ = some (.slice (some ⟨bo, 0, none⟩) 4 cap) := fun u => by
        rw [World.cell?_of_block (w := w5.drew) (heap_setCell_other _ _ _ _ (fun e => hBi e.symm))]; exact hc0
      have hs2 : ∀ u, (w5.drew.setCell ⟨B i, p, none⟩ u).cell? ⟨bo, i, none⟩ = some (.slice (some ⟨B i, 0, none⟩) 16 (C i)) := fun u => by
        rw [World.cell?_of_block (w := w5.drew) (heap_setCell_other _ _ _ _ (fun e => r4 e.symm))]; exact r1
      go_region_law (first | (go_simp; go_at_call 157; refine (min_any _ _ _).mono ?_; rintro e wq ⟨he, hq⟩; subst wq; rw [wrapI (z + 1) (by omega) (by omega), ← hy.out] at he; subst he; dsimp only) | (fail))
      all_goals
        go_wp2
        go_roundw
        case rel =>
          have o1 : OwnAt (w5.setCell ⟨B i, p, none⟩ (.int .i64 y)) lo hi bo B C ((mix T R i).set i (((mix T R i)[i]).set p y)) := hown5.out.set i him p (by rw [hmi.out]; omega) y
          rw [hmi.out, hy.out, ← eT.out, mix_set T R i hTR'.out hiT] at o1
          refine ⟨i + 1, by omega, by go_num, VBlk.of (w' := (w5.setCell ⟨B i, p, none⟩ (.int .i64 y)).drew) hv5 (heap_setCell_other _ _ _ _ (fun e => hBi e.symm)), ?_, ?_, ?_⟩
          · rw [hy.out]; exact OwnAt.keep (w' := (w5.setCell ⟨B i, p, none⟩ (.int .i64 (min 15 (z + 1)))).drew) o1 (fun _ _ _ => rfl) (Nat.le_refl _)
          · simp; omega
          · exact (((hBr.trans (rg.Tw.of_below hB5)).cell (by omega) (by omega) _ _)).drew
        case measure => simp [intOf]; omega
    · have hmix : Hid (OwnAt wr lo hi bo B C T) := by unfold Hid; rw [← mix_all T R i (by rw [hT4.1]; omega) (by rw [hR4.1]; omega)]; exact hown.out
      clear hown
      have hc0 := hvp.cell 5 (by simp)
      have hc1 := hvp.cell 6 (by simp)
      have hf1 := hvp.frozen 6
      simp only [List.getElem_cons_zero, List.getElem_cons_succ] at hc0 hc1
      have hle := hmix.out.2.1
      by_cases h159 : adds = 159
      · have hN : Hid (plusN adds = 0) := by simp [Hid, plusN, h159]
        have hRR : Hid (plusR R adds key = halfR T) := by unfold Hid plusR; rw [if_pos h159, hT.out]
        subst h159
        obtain ⟨Hf, hHf⟩ : ∃ Hf, Hid (Hf = halfR T) := ⟨_, rfl⟩
        have hHf4 : Four Hf := by rw [hHf.out]; exact halfR_four hT4
        go_wp2
        obtain ⟨w6, HW6⟩ : ∃ w6, Hid (w6 = (wr.setCell ⟨ps, 6, none⟩ (.int .i64 160)).setCell ⟨ps, 6, none⟩ (.int .i64 0)) := ⟨_, rfl⟩
        have hk6 : ∀ k, k ≠ ps → w6.heap[k]? = wr.heap[k]? := fun k hk => by rw [HW6.out, heap_setCell_other _ _ _ _ hk, heap_setCell_other _ _ _ _ hk]
        have hz6 : w6.heap.size = wr.heap.size := by rw [HW6.out]; simp
        have hv6 : VBlk w6 ps 36 [y0, y1, y2, y3, y4, .slice (some ⟨bo, 0, none⟩) 4 cap, .int .i64 0] := by rw [HW6.out]; exact (hvp.set 6 (.int .i64 160)).set 6 (.int .i64 0)
        have hB6 : rg.Tw lo hi ps w w6 := by rw [HW6.out]; exact (hBr.put _ _).put _ _
        have ho6 : Hid (OwnAt w6 lo hi bo B C T) := hmix.out.keep (fun k h1 h2 => hk6 k (by omega)) (by omega)
        first | rw [← HW6.out] | skip
        go_loopw [6] (fun v' wr => ∃ i : Nat, i ≤ 4 ∧ v' = .int .i64 i ∧ VBlk wr ps 36 [y0, y1, y2, y3, y4, .slice (some ⟨bo, 0, none⟩) 4 cap, .int .i64 0] ∧ Hid (OwnAt wr lo hi bo B C (mix Hf T i)) ∧ w.heap.size ≤ wr.heap.size ∧ rg.Tw lo hi ps w wr) (fun v' _ => 4 - (intOf v').toNat)
        case atStart => exact ⟨0, by omega, rfl, hv6, by rw [mix_zero]; exact ho6, by omega, hB6⟩
        case round =>
          clear hB6 ho6 hv6 hk6 hz6 HW6
          obtain ⟨i, hi4, rfl, hvp6, hown, hsz6, hBr6⟩ := hrel
          by_cases hlt : i < 4
          · have hiT : i < T.length := by rw [hT4.1]; exact hlt
            have hiH : i < Hf.length := by rw [hHf4.1]; exact hlt
            have hHT : Hid (Hf.length = T.length) := by unfold Hid; rw [hT4.1, hHf4.1]
            obtain ⟨xs, hxs⟩ : ∃ xs, T[i] = xs := ⟨_, rfl⟩
            have hx16 : Hid (xs.length = 16) := by unfold Hid; rw [← hxs]; exact hT4.2 _ (List.getElem_mem hiT)
            have hxb : Hid (∀ x ∈ xs, 0 ≤ x ∧ x ≤ 15) := by unfold Hid; rw [← hxs]; exact hTs _ (List.getElem_mem hiT)
            have him : i < (mix Hf T i).length := by rw [mix_len Hf T i hHT.out]; exact hiT
            have hmi : Hid ((mix Hf T i)[i] = xs) := by unfold Hid; rw [mix_get Hf T i hHT.out hiT, hxs]
            have hHi : Hid (Hf[i] = xs.map half) := by unfold Hid; have := hHf.out; subst this; simp [halfR, hxs]
            clear hxs
            have hilt : (i : Int) < 4 := by omega
            go_wp2
            go_loopw [7] (fun v' wr => ∃ k : Nat, k ≤ 16 ∧ v' = .int .i64 k ∧ VBlk wr ps 36 [y0, y1, y2, y3, y4, .slice (some ⟨bo, 0, none⟩) 4 cap, .int .i64 0] ∧ Hid (OwnAt wr lo hi bo B C ((mix Hf T i).set i (upto half xs k))) ∧ w.heap.size ≤ wr.heap.size ∧ rg.Tw lo hi ps w wr) (fun v' _ => 16 - (intOf v').toNat)
            case atStart => exact ⟨0, by omega, rfl, hvp6, by rw [upto_zero, ← hmi.out, List.set_getElem_self]; exact hown, hsz6, hBr6⟩
            case round =>
              clear hvp6 hown hsz6 hBr6
              obtain ⟨k, hk16, rfl, hvk, hown, hszk, hBk⟩ := hrel
              by_cases hklt : k < 16
              · have hkx : k < xs.length := by rw [hx16.out]; exact hklt
                have him' : i < ((mix Hf T i).set i (upto half xs k)).length := by rw [List.length_set]; exact him
                have hgi : Hid (((mix Hf T i).set i (upto half xs k))[i] = upto half xs k) := by unfold Hid; rw [List.getElem_set_self]
                obtain ⟨r1, r2, r3, r4, r5⟩ := hown.out.row i him' _ hgi.out
                have hul : Hid ((upto half xs k).length = 16) := by unfold Hid; rw [upto_len, hx16.out]
                rw [hul.out] at r1
                obtain ⟨z, hz0⟩ : ∃ z, xs[k] = z := ⟨_, rfl⟩
                have hz : Hid (xs[k] = z) := hz0
                clear hz0
                have hzb : 0 ≤ z ∧ z ≤ 15 := by rw [← hz.out]; exact hxb.out _ (List.getElem_mem _)
                have hcz : wr.cell? ⟨B i, k, none⟩ = some (.int .i64 z) := by
                  rw [r5.cell k (by rw [hul.out]; exact hklt)]
                  congr 2
                  rw [← hz.out]
                  simp only [upto]
                  rw [List.getElem_append_right (by simp; omega)]
                  simp [show min k xs.length = k by omega]
                have hfz := r5.frozen k (by rw [hul.out]; exact hklt)
                have hc0 := hvk.cell 5 (by simp)
                simp only [List.getElem_cons_zero, List.getElem_cons_succ] at hc0
                have hBi : B i ≠ ps := by omega
                have hklt' : (k : Int) < 16 := by omega
                have hs1 : ∀ u, (wr.drew.setCell ⟨B i, k, none⟩ u).cell? ⟨ps, 5, none⟩ = some (.slice (some ⟨bo, 0, none⟩) 4 cap) := fun u => by
                  rw [World.cell?_of_block (w := wr.drew) (heap_setCell_other _ _ _ _ (fun e => hBi e.symm))]; exact hc0
                have hs2 : ∀ u, (wr.drew.setCell ⟨B i, k, none⟩ u).cell? ⟨bo, i, none⟩ = some (.slice (some ⟨B i, 0, none⟩) 16 (C i)) := fun u => by
                  rw [World.cell?_of_block (w := wr.drew) (heap_setCell_other _ _ _ _ (fun e => r4 e.symm))]; exact r1
                clear r5
                go_wp2
                go_region_law (fail)
                all_goals
                  go_wp2
                  go_roundw
                  case rel =>
                    have o1 := hown.out.set i him' k (by rw [hgi.out, hul.out]; exact hklt) (half z)
                    rw [hgi.out, List.set_set] at o1
                    have eu : (upto half xs k).set k (half z) = upto half xs (k + 1) := by
                      rw [← upto_step half xs k hkx]
                      congr 2
                      rw [List.getD_eq_getElem?_getD, List.getElem?_eq_getElem hkx, ← hz.out]; rfl
                    rw [eu] at o1
                    refine ⟨k + 1, by omega, by go_num, VBlk.of (w := wr) hvk (heap_setCell_other wr _ _ _ (fun e => hBi e.symm)), ?_, by simp; omega, (hBk.cell (by omega) (by omega) _ _).drew⟩
                    exact OwnAt.keep o1 (fun _ _ _ => rfl) (by simp)
                  case measure => simp [intOf]; omega
              · obtain rfl : k = 16 := by omega
                go_wp2
                go_roundw
                case rel =>
                  refine ⟨i + 1, by omega, by go_num, hvk, ?_, hszk, hBk⟩
                  have h1 := hown.out
                  rw [upto_all half xs 16 (by rw [hx16.out]; omega), ← hHi.out, mix_set Hf T i hHT.out hiH] at h1
                  exact h1
                case measure => simp [intOf]; omega
          · obtain rfl : i = 4 := by omega
            have hfin : OwnAt wr lo hi bo B C Hf := by rw [← mix_all Hf T 4 (by rw [hHf4.1]; omega) (by rw [hT4.1]; omega)]; exact hown.out
            go_wp2
            go_end0
            refine ⟨_, rfl, ?_, ?_, hBr6⟩
            · rw [hN.out]; exact hvp6
            · rw [hRR.out, ← hHf.out]; exact hfin
      · have hN : Hid (plusN adds = adds + 1) := by simp [Hid, plusN, h159]
        have hRR : Hid (plusR R adds key = T) := by unfold Hid plusR; rw [if_neg h159, hT.out]
        go_wp2
        refine bodyPost_ret (v := .tuple #[]) (by simp [results, Try.results138]) rfl ⟨_, rfl, ?_, ?_, hBr.put _ _⟩
        · rw [hN.out]; exact hvp.set 6 _
        · rw [hRR.out]; exact hmix.out.keep (fun k h1 h2 => heap_setCell_other _ _ _ _ (by show k ≠ ps; omega)) (by simp)

end Go.Proofs.Ytapchjkiiifhdaa.sk
/- Contracts: what is appended to a row of one's own turns that row's part alone; so who joins a ring inside a choice. -/
namespace Go.Proofs.Ytapchjkiiifhdaa.ro
open Go.ChangeShapes Go.WideShapes Go.ChangeAt Go.RowKit
open Go.Proofs.Ytapchjkiiifhdaa.ce
set_option linter.unusedVariables false
variable {α : Type}
theorem run_append_w {E : Enc α} (I : Info E) (w : World) (t ty : TypeId) (ht : Try.prog.underlying t = some (.slice E.t)) (lo hi : Nat) (v : Value) (xs : List α) (o : Own E w lo hi v xs) (hlo : lo ≤ w.heap.size) (vx : Value) (ys : List α) (r : Rd E w vx ys) (hlen : xs.length + ys.length ≤ 1073741824) :
    ∃ v' w', (Builtin.append_ #[t, t] ty #[v, vx]).run Try.prog w = .ok v' w' ∧ Own E w' lo w'.heap.size v' (xs ++ ys) ∧ Ty lo E.t w w' ∧ ∀ k, k < w.heap.size → (k < lo ∨ hi ≤ k) → w'.heap[k]? = w.heap[k]? := by
  obtain ⟨i0, z, hi0, hz0, hz1, hz2, hz3⟩ := I.ex
  obtain ⟨ax, cx, rfl, hx1, hx2, hx3⟩ := r.fits
  have hby : (xs.length + ys.length) * i0.bytes ≤ 140737488355328 := Nat.le_trans (Nat.mul_le_mul hlen hz2) (by omega)
  by_cases h0 : ys = []
  · subst h0
    obtain ⟨a, cap, rfl, h1, h2, -⟩ := o.rd.fits
    exact ⟨_, w, run_append_zero w t ty E.t i0 ht hi0 a xs.length cap h1 ax cx, by simpa using o.top, Ty.refl _ _ _, fun _ _ _ => rfl⟩
  · obtain ⟨b, off, rfl, hb, hr⟩ := hx3 h0
    have hnews : ∀ j u, (E.row ys)[j]? = some u → w.cell? ((⟨b, off, none⟩ : Addr).add j) = some u := fun j u hj => by rw [Addr.add_mid]; exact hr j u hj
    have hy1 : 0 < ys.length := List.length_pos_iff.2 h0
    have grown : ∀ row : Option Nat, (∀ k, row = some k → (lo ≤ k ∧ k < hi) ∧ ∃ cur f, w.heap[k]? = some (.cells cur E.t f)) → ∀ w', w.grownBy w' row → Ty lo E.t w w' ∧ ∀ k, k < w.heap.size → (k < lo ∨ hi ≤ k) → w'.heap[k]? = w.heap[k]? := fun row hrow w' hg =>
      ⟨⟨below_grown hg hlo (fun k hk => (hrow k hk).1.1), fun k cur t' f hk hn => hg.block k (Array.getElem?_eq_some_iff.1 hk).1 (fun e => by
        obtain ⟨-, cur', f', h'⟩ := hrow k e.symm
        have := hk.symm.trans h'
        simp at this
        exact hn this.2.1)⟩, fun k hk hr => hg.block k hk (fun e => by have := (hrow k e.symm).1; omega)⟩
    by_cases hz : xs = [] ∧ ∃ a, v = .slice a 0 0
    · obtain ⟨rfl, a, rfl⟩ := hz
      cases a with
      | none =>
        obtain ⟨v', w', h1, h2, h3, -⟩ := run_append_own (P := Try.prog) w lo t ty E.t i0 z E.k i0.bytes ht hi0 hz0 hz1 rfl hz3 E.pos (.slice none 0 0) 0 [] (World.ownsRow_nil w lo E.t E.k) ⟨b, off, none⟩ ys.length cx (E.row ys) (E.row_len ys) hnews (E.row_cells ys) (by unfold maxLen; simp at hlen; omega) (by simpa using hby) hlo
        refine ⟨v', w', h1, own_of (by simpa using h2), grown _ (fun k hk => by cases hk) w' h3⟩
      | some g =>
        obtain ⟨v', w', h1, h2, h3⟩ := run_append_arg_grows (P := Try.prog) (w := w) t ty E.t i0 z E.k i0.bytes ht hi0 hz0 hz1 rfl hz3 E.pos g 0 0 [] (by simp) (fun j u hj => by simp at hj) ⟨b, off, none⟩ ys.length cx (E.row ys) (E.row_len ys) hnews (by omega) (by unfold maxLen; simp at hlen; omega) (by simpa using hby)
        refine ⟨v', w', h1, ?_, grown _ (fun k hk => by cases hk) w' h3⟩
        have h4 : Own E w' w.heap.size w'.heap.size v' ys := own_of (by simpa using h2)
        exact (by simpa using h4.wide hlo (Nat.le_refl _))
    · have ow := o.owns.resolve_left hz
      obtain ⟨gx, capx, curx, ex, hgx, -⟩ := o.row.resolve_left hz
      obtain ⟨v', w', h1, h2, h3, -⟩ := run_append_own (P := Try.prog) w lo t ty E.t i0 z E.k i0.bytes ht hi0 hz0 hz1 rfl hz3 E.pos v xs.length (E.row xs) ow ⟨b, off, none⟩ ys.length cx (E.row ys) (E.row_len ys) hnews (E.row_cells ys) (by unfold maxLen; omega) hby hlo
      rw [← E.row_append, ← List.length_append] at h2
      refine ⟨v', w', h1, own_of h2, grown _ (fun k hk => ?_) w' h3⟩
      rcases ow.2 with ⟨rfl, -⟩ | ⟨g, cap, cur, rfl, -, hb', -⟩
      · cases hk
      · cases hk
        cases ex
        exact ⟨hgx, cur, _, hb'⟩

section laws
variable {ops : Array Oper} {rest : List Oper} {o : Oper} {a : Act} {w : World} {Q : Exit → Act → World → Prop}
theorem wpList_append_w {E : Enc α} (I : Info E) (hgd : o.guard = none) (s x : Operand) (t : TypeId) (ho : o.op = .call { callee := .builtin .append, args := #[s, x], argTypes := #[t, t] }) (ht : Try.prog.underlying t = some (.slice E.t)) (lo hi : Nat) (v : Value) (xs : List α) (hs : a.eval s = v) (own : Own E w lo hi v xs) (hlo : lo ≤ w.heap.size) (vx : Value) (ys : List α) (hx : a.eval x = vx) (r : Rd E w vx ys) (hlen : xs.length + ys.length ≤ 1073741824)
    (h : ∀ v' w', Own E w' lo w'.heap.size v' (xs ++ ys) → Ty lo E.t w w' → (∀ k, k < w.heap.size → (k < lo ∨ hi ≤ k) → w'.heap[k]? = w.heap[k]?) → wpList Try.prog ops Q rest (a.put o.dst v') w') : wpList Try.prog ops Q (o :: rest) a w := by
  obtain ⟨v', w', h1, h2, h3, h4⟩ := run_append_w I w t o.type ht lo hi v xs own hlo vx ys r hlen
  refine wpList_val hgd (v := v') (w' := w') ?_ (h v' w' h2 h3 h4)
  simp [execOp, ho, resolve, invoke, builtin, hs, hx, h1, Result.andThen]
end laws
end Go.Proofs.Ytapchjkiiifhdaa.ro
namespace Go.Proofs.Ytapchjkiiifhdaa.rg
open Go.ChangeShapes Go.WideShapes Go.ChangeAt Go.RowKit
open Go.Proofs.Ytapchjkiiifhdaa.ce Go.Proofs.Ytapchjkiiifhdaa.ro
set_option linter.unusedVariables false
set_option linter.unusedSimpArgs false
theorem Tw.of_app {lo hi b : Nat} {t : TypeId} {x y : World} (h : Ty lo t x y) (r : ∀ k, k < x.heap.size → (k < lo ∨ hi ≤ k) → y.heap[k]? = x.heap[k]?) : Tw lo hi b x y := ⟨h.low.os, h.low.tape, h.low.output, h.low.size, fun k a _ c => r k a c⟩
set_option maxRecDepth 100000 in
set_option maxHeartbeats 1000000 in
theorem l8JoinW_any (y0 y4 y5 y6 : Value) (r : Rg) (s : ByteArray) (hs : s.size ≤ 9223372036854775807) (vN vU : Value) (b lo hi : Nat) (w : World) (own : OwnR w lo hi vN vU r) (hV : VBlk w b 36 [y0, vN, vU, .int .i64 r.A, y4, y5, y6]) (hlo : lo ≤ w.heap.size) (hN : r.N.length ≤ 1000000) (hU : r.U.length ≤ 1000000) :
    Calls Try.prog 141 #[.pointer (some ⟨b, 1, none⟩), .string s] w fun e w' => e = .returned (.bool (mayB r s)) ∧ ∃ vN' vU', OwnR w' lo w'.heap.size vN' vU' (joinR r s) ∧ VBlk w' b 36 [y0, vN', vU', .int .i64 r.A, y4, y5, y6] ∧ Tw lo hi b w w' := by
  obtain ⟨N, U, A⟩ := r
  obtain ⟨a, n, cap, rfl⟩ := own.n.slice
  obtain ⟨c, m, dc, rfl⟩ := own.u.slice
  have hn : Hid (n = N.length) := own.n.rd.cap.1
  have O : Hid (OwnR w lo hi (.slice a n cap) (.slice c m dc) ⟨N, U, A⟩) := own
  have hbl := hV.lt
  have V : Hid (VBlk w b 36 [y0, .slice a n cap, .slice c m dc, .int .i64 A, y4, y5, y6]) := hV
  obtain ⟨-, c0, c1, c2, -, -, -⟩ := cells7c hV
  dsimp only at hN hU ⊢
  clear own hV
  obtain ⟨y, hy⟩ := hid_ex (mayB ⟨N, U, A⟩ s)
  obtain ⟨p, hp⟩ := hid_ex (posS s N)
  cases hnm : nameB s with
  | false =>
    have ey := hy.out.symm.trans (mayB_false1 (r := ⟨N, U, A⟩) hnm)
    unfold joinR
    rw [hy.out, ey, if_neg Bool.false_ne_true]
    go_enter Try.func141, Try.ntmps141
    go_wp2_with (first | (go_at_call 60; refine (specNameOk_any _ hs _).mono ?_; rintro e wq ⟨rfl, hq⟩; subst wq; rw [hnm]) | (fail))
    go_ret
    exact ⟨rfl, _, _, O.out.top, V.out, Tw.refl _ _ _ _⟩
  | true =>
    by_cases hp0 : 0 ≤ p
    · have ey := hy.out.symm.trans (mayB_false2 (r := ⟨N, U, A⟩) (by rw [hp.out]; exact hp0))
      have hpg : p ≥ 0 := hp0
      unfold joinR
      rw [hy.out, ey, if_neg Bool.false_ne_true]
      go_enter Try.func141, Try.ntmps141
      go_wp2_with (first | (go_at_call 60; refine (specNameOk_any _ hs _).mono ?_; rintro e wq ⟨rfl, hq⟩; subst wq; rw [hnm]) | (go_at_call 176; refine (l1At_any N _ _ _ O.out.n.rd).mono ?_; rintro e wq ⟨rfl, hq⟩; subst wq; rw [hp.out]) | (fail))
      go_ret
      exact ⟨rfl, _, _, O.out.top, V.out, Tw.refl _ _ _ _⟩
    · have hpg : ¬ p ≥ 0 := hp0
      by_cases h20 : n = 20
      · have ey := hy.out.symm.trans (mayB_false3 (r := ⟨N, U, A⟩) (hn.out.symm.trans h20))
        have h20b : ((n : Int) == 20) = true := by simp; omega
        unfold joinR
        rw [hy.out, ey, if_neg Bool.false_ne_true]
        clear h20
        go_enter Try.func141, Try.ntmps141
        go_wp2_with (first | (go_at_call 60; refine (specNameOk_any _ hs _).mono ?_; rintro e wq ⟨rfl, hq⟩; subst wq; rw [hnm]) | (go_at_call 176; refine (l1At_any N _ _ _ O.out.n.rd).mono ?_; rintro e wq ⟨rfl, hq⟩; subst wq; rw [hp.out]) | (fail))
        go_ret
        exact ⟨rfl, _, _, O.out.top, V.out, Tw.refl _ _ _ _⟩
      · have ey := hy.out.symm.trans (mayB_true (r := ⟨N, U, A⟩) hnm (by rw [hp.out]; exact hp0) (fun q => h20 (hn.out.trans q)))
        have h20b : ((n : Int) == 20) = false := by simp; omega
        unfold joinR
        rw [hy.out, ey, if_pos rfl]
        unfold joined
        dsimp only
        have m1 : Hid True := trivial
        have m2 : Hid True := trivial
        go_enter Try.func141, Try.ntmps141
        go_wp2_with (first | (go_at_call 60; refine (specNameOk_any _ hs _).mono ?_; rintro e wq ⟨rfl, hq⟩; subst wq; rw [hnm]) | (go_at_call 176; refine (l1At_any N _ _ _ O.out.n.rd).mono ?_; rintro e wq ⟨rfl, hq⟩; subst wq; rw [hp.out]) | (clear m1; at_builtin; refine wpList_append_w infoS rfl _ _ 22 rfl Try.underlying22 lo _ _ N rfl (O.out.n.grow ((Below.refl _ _).alloc (Nat.le_refl _) _)) (by simp; omega) _ [s] rfl (rd_new (E := encS) w s #[.string s] rfl) (by simp; omega) ?_; intro v1 w1 o1 hT1 hR1; have hBa : Below w.heap.size w (w.alloc (.cells #[.string s] 9)) := (Below.refl _ _).alloc (Nat.le_refl _) _; have V1 := hT1.vblk (vblk_grow V.out hBa) (by decide); have u1 := hT1.own (O.out.u.grow hBa) (by decide); have T1 : Tw lo hi b w w1 := (Tw.of_below hBa).trans (Tw.of_app hT1 hR1); have hz1 := T1.size; obtain ⟨a1, n1, k1, rfl⟩ := o1.slice) | (refine wpList_store_ss rfl _ _ rfl b 1 a1 n1 k1 rfl rfl V1 (by simp) ?_; intro w2 hO2 V2; replace o1 := o1.only hO2 V1 (by decide); replace u1 := u1.only hO2 V1 (by decide); have T2 : Tw lo hi b w w2 := T1.trans (Tw.of_only hO2); have hz2 := T2.size; clear c0 c1 c2; obtain ⟨-, c0, c1, c2, -, -, -⟩ := cells7c V2) | (clear m2; at_builtin; refine wpList_append_w infoB rfl _ _ 23 rfl Try.underlying23 lo _ _ U rfl (u1.grow ((Below.refl _ _).alloc (Nat.le_refl _) _)) (by simp; omega) _ [false] rfl (rd_new (E := encB) w2 false #[.bool false] rfl) (by simp; omega) ?_; intro v3 w3 u3 hT3 hR3; have hBa3 : Below w2.heap.size w2 (w2.alloc (.cells #[.bool false] 4)) := (Below.refl _ _).alloc (Nat.le_refl _) _; have V3 := hT3.vblk (vblk_grow V2 hBa3) (by decide); have o3 := hT3.own (o1.grow hBa3) (by decide); have T3 : Tw lo hi b w w3 := (T2.trans (Tw.of_below hBa3)).trans (Tw.of_app hT3 hR3); obtain ⟨a3, n3, k3, rfl⟩ := u3.slice) | (refine wpList_store_bs rfl _ _ rfl b 2 a3 n3 k3 rfl rfl V3 (by simp) ?_; intro w4 hO4 V4; replace o3 := o3.only hO4 V3 (by decide); replace u3 := u3.only hO4 V3 (by decide); have T4 : Tw lo hi b w w4 := T3.trans (Tw.of_only hO4)) | (fail))
        go_ret
        exact ⟨rfl, _, _, ⟨o3.top, u3.top⟩, V4, T4⟩
end Go.Proofs.Ytapchjkiiifhdaa.rg
/- Contracts: who is used in a ring inside a choice, who is touched in a queue: the row's own part alone is turned. -/
namespace Go.Proofs.Ytapchjkiiifhdaa.rg
open Go.ChangeShapes Go.WideShapes Go.ChangeAt Go.RowKit
open Go.Proofs.Ytapchjkiiifhdaa.ce Go.Proofs.Ytapchjkiiifhdaa.ro
set_option linter.unusedVariables false
set_option linter.unusedSimpArgs false
section laws
variable {ops : Array Oper} {rest : List Oper} {o : Oper} {a : Act} {w : World} {Q : Exit → Act → World → Prop}
theorem wpList_store_tw (hgd : o.guard = none) (x y : Operand) (ho : o.op = .store 4 x y) (g i : Nat) (z : Bool) (hx : a.eval x = .pointer (some ⟨g, i, none⟩)) (hy : a.eval y = .bool z)
    {lo hi n cap : Nat} {xs : List Bool} (own : Own encB w lo hi (.slice (some ⟨g, 0, none⟩) n cap) xs) (hj : i < xs.length)
    (h : ∀ w', Own encB w' lo hi (.slice (some ⟨g, 0, none⟩) n cap) (xs.set i z) → Ty lo 4 w w' → (∀ b, Tw lo hi b w w') → wpList Try.prog ops Q rest (a.put o.dst undef) w') : wpList Try.prog ops Q (o :: rest) a w := by
  obtain ⟨g', e, hg, hc, hf⟩ := ownB_cell own i hj
  cases e
  have hT : Ty lo 4 w (w.setCell ⟨g, i, none⟩ (.bool z)) := by
    rcases own.row with ⟨rfl, -⟩ | ⟨g2, cap2, cur, e2, -, hb, -⟩
    · simp at hj
    · cases e2
      exact ⟨(only_set w g i _).2.2 _ hg.1, fun k cur' t' f hk hn => (only_set w g i _).2.1 k fun e => by
        rw [e, hb] at hk
        simp at hk
        exact hn hk.2.1.symm⟩
  refine wpList_skp hgd (w' := w.setCell ⟨g, i, none⟩ (.bool z)) ?_ (h _ (ownB_set own i hj z) hT (fun b => Tw.of_in (only_set w g i _) hg.1 hg.2))
  unfold execOp
  simp only [ho, hx, hy]
  simp [go_sem, hc, hf]
end laws
set_option maxRecDepth 100000 in
set_option maxHeartbeats 1000000 in
theorem l8UseW_any (y0 y4 y5 y6 : Value) (r : Rg) (s : ByteArray) (vN vU : Value) (b lo hi : Nat) (w : World) (own : OwnR w lo hi vN vU r) (hV : VBlk w b 36 [y0, vN, vU, .int .i64 r.A, y4, y5, y6]) (hNU : r.U.length = r.N.length) :
    Calls Try.prog 140 #[.pointer (some ⟨b, 1, none⟩), .string s] w fun e w' => e = .returned (.bool (decide (0 ≤ posS s r.N))) ∧ OwnR w' lo hi vN vU (used r s) ∧ VBlk w' b 36 [y0, vN, vU, .int .i64 r.A, y4, y5, y6] ∧ Tw lo hi b w w' := by
  obtain ⟨N, U, A⟩ := r
  obtain ⟨a, n, cap, rfl⟩ := own.n.slice
  obtain ⟨c, m, dc, rfl⟩ := own.u.slice
  have hm : Hid (m = U.length) := own.u.rd.cap.1
  have O : Hid (OwnR w lo hi (.slice a n cap) (.slice c m dc) ⟨N, U, A⟩) := own
  have V : Hid (VBlk w b 36 [y0, .slice a n cap, .slice c m dc, .int .i64 A, y4, y5, y6]) := hV
  obtain ⟨-, c0, c1, c2, -, -, -⟩ := cells7c hV
  dsimp only at hNU ⊢
  clear own hV
  have hbd := posS_bd s N
  have hy1 := @used_yes ⟨N, U, A⟩ s
  have hy2 := @used_no ⟨N, U, A⟩ s
  dsimp only at hy1 hy2
  obtain ⟨p, hp⟩ := hid_ex (posS s N)
  rw [hp.out] at hbd hy1 hy2 ⊢
  by_cases hp0 : 0 ≤ p
  · rw [hy1 hp0, decide_eq_true hp0]
    clear hy1 hy2
    obtain ⟨i, rfl⟩ : ∃ i : Nat, p = i := ⟨p.toNat, by omega⟩
    have hiU : i < U.length := by omega
    have hm2 : (i : Int) < (m : Int) := by have := hm.out; omega
    have hp1 : ¬ (i : Int) < 0 := by omega
    obtain ⟨g, rfl, hg, d0, f0⟩ := ownB_cell O.out.u i hiU
    rw [Int.toNat_natCast]
    go_enter Try.func140, Try.ntmps140
    go_wp2_with (first | (go_at_call 176; refine (l1At_any N _ _ _ O.out.n.rd).mono ?_; rintro e wq ⟨rfl, hq⟩; subst wq; rw [hp.out]) | (refine wpList_store_tw rfl _ _ rfl g i true rfl rfl O.out.u hiU ?_; intro w1 u1 hT1 hR1) | (fail))
    go_ret
    exact ⟨rfl, ⟨hT1.own O.out.n (by decide), u1⟩, hT1.vblk V.out (by decide), hR1 b⟩
  · rw [hy2 hp0, decide_eq_false hp0]
    clear hy1 hy2
    have hp1 : p < 0 := by omega
    go_enter Try.func140, Try.ntmps140
    go_wp2_with (first | (go_at_call 176; refine (l1At_any N _ _ _ O.out.n.rd).mono ?_; rintro e wq ⟨rfl, hq⟩; subst wq; rw [hp.out]) | (fail))
    go_ret
    exact ⟨rfl, O.out, V.out, Tw.refl _ _ _ _⟩
set_option maxRecDepth 100000 in
set_option maxHeartbeats 1000000 in
theorem l9TouchW_any (q : List ByteArray) (s : ByteArray) (hs : s.size ≤ 9223372036854775807) (v : Value) (lo hi : Nat) (w : World) (own : Own encS w lo hi v q) (hlo : lo ≤ w.heap.size) (hq : q.length ≤ 1000000) :
    Calls Try.prog 139 #[v, .string s] w fun e w' => ∃ v', e = .returned (.tuple #[v', .bool (tqB q s)]) ∧ Own encS w' lo w'.heap.size v' (tqR q s) ∧ ∀ b, Tw lo hi b w w' := by
  obtain ⟨a, n, cap, rfl⟩ := own.slice
  have hn : Hid (n = q.length) := own.rd.cap.1
  have O : Hid (Own encS w lo hi (.slice a n cap) q) := own
  clear own
  have ma : Hid True := trivial
  rcases posS_cases s q with ⟨h1, e⟩ | ⟨i, hi', h1, h2, e⟩
  · have e1 : tqB q s = (nameB s && !(q.length == 20)) := by unfold tqB; rw [e]; rfl
    have e2 : tqR q s = if (nameB s && !(q.length == 20)) = true then q ++ [s] else q := by unfold tqR; rw [e]; rfl
    have hp : Hid (posS s q = -1) := e
    rw [e1, e2]
    clear e1 e2 e h1
    cases hm : nameB s with
    | false =>
      go_enter Try.func139, Try.ntmps139
      go_wp2_with (first | (go_at_call 176; refine (l1At_any q s _ _ O.out.rd).mono ?_; rintro e wq ⟨rfl, hq⟩; subst wq; rw [hp.out]) | (go_at_call 60; refine (specNameOk_any _ hs _).mono ?_; rintro e wq ⟨rfl, hq⟩; subst wq; rw [hm]) | (fail))
      go_ret2
      exact ⟨_, rfl, O.out.top, fun b => Tw.refl _ _ _ _⟩
    | true =>
      by_cases h20 : q.length = 20
      · have h21 : (q.length == 20) = true := by simpa using h20
        have h22 : ((n : Int) == 20) = true := by rw [hn.out, h20]; rfl
        rw [h21]
        clear h20 h21
        go_enter Try.func139, Try.ntmps139
        go_wp2_with (first | (go_at_call 176; refine (l1At_any q s _ _ O.out.rd).mono ?_; rintro e wq ⟨rfl, hq⟩; subst wq; rw [hp.out]) | (go_at_call 60; refine (specNameOk_any _ hs _).mono ?_; rintro e wq ⟨rfl, hq⟩; subst wq; rw [hm]) | (fail))
        go_ret2
        exact ⟨_, rfl, O.out.top, fun b => Tw.refl _ _ _ _⟩
      · have h21 : (q.length == 20) = false := by simpa using h20
        have h22 : ((n : Int) == 20) = false := by rw [hn.out]; simp; omega
        rw [h21]
        clear h20 h21
        go_enter Try.func139, Try.ntmps139
        go_wp2_with (first | (go_at_call 176; refine (l1At_any q s _ _ O.out.rd).mono ?_; rintro e wq ⟨rfl, hq⟩; subst wq; rw [hp.out]) | (go_at_call 60; refine (specNameOk_any _ hs _).mono ?_; rintro e wq ⟨rfl, hq⟩; subst wq; rw [hm]) | (clear ma; at_builtin; refine wpList_append_w infoS rfl _ _ 22 rfl Try.underlying22 lo _ _ q rfl (O.out.grow ((Below.refl _ _).alloc (Nat.le_refl _) _)) (by simp; omega) _ [s] rfl (rd_new (E := encS) w s #[.string s] rfl) (by simp; omega) ?_; intro v1 w1 o1 hT1 hR1) | (fail))
        go_ret2
        exact ⟨_, rfl, o1, fun b => (Tw.of_below ((Below.refl _ _).alloc (Nat.le_refl _) _)).trans (Tw.of_app hT1 hR1)⟩
  · have e1 : tqB q s = true := by unfold tqB; rw [e]; simp
    have e2 : tqR q s = (q.take i ++ q.drop (i + 1)) ++ [s] := by unfold tqR; rw [e]; simp
    have hp : Hid (posS s q = (i : Int)) := e
    have hcl : (q.take i ++ q.drop (i + 1)).length ≤ 1000000 := by simp; omega
    rw [e1, e2]
    obtain ⟨c, hc⟩ := hid_ex (q.take i ++ q.drop (i + 1))
    rw [hc.out] at hcl ⊢
    clear e1 e2 e h1 h2
    have i0 : (i : Int) ≥ 0 := by omega
    go_enter Try.func139, Try.ntmps139
    go_wp2_with (first | (go_at_call 176; refine (l1At_any q s _ _ O.out.rd).mono ?_; rintro e wq ⟨rfl, hq⟩; subst wq; rw [hp.out]) | (go_at_call 184; refine (l1Cut_any q _ i _ O.out.rd hi' hq).mono ?_; rintro e w2 ⟨v2, rfl, o2, hB2⟩; rw [hc.out] at o2; have hz2 := hB2.size) | (clear ma; at_builtin; refine wpList_append_w infoS rfl _ _ 22 rfl Try.underlying22 w.heap.size _ _ c rfl (o2.grow ((Below.refl _ _).alloc (Nat.le_refl _) _)) (by simp; omega) _ [s] rfl (rd_new (E := encS) w2 s #[.string s] rfl) (by simp; omega) ?_; intro v3 w3 o3 hT3 hR3) | (fail))
    go_ret2
    exact ⟨_, rfl, o3.wide hlo (Nat.le_refl _), fun b => Tw.of_below (hB2.trans (((Below.refl _ _).alloc hz2 _).trans hT3.low))⟩
end Go.Proofs.Ytapchjkiiifhdaa.rg
/- Contracts: the model: who is seen. -/
namespace Go.Proofs.Ytapchjkiiifhdaa.rg
open Go.ChangeShapes Go.WideShapes Go.ChangeAt Go.RowKit
open Go.Deep Go.Joins
open Go.Proofs.Ytapchjkiiifhdaa.ce Go.Proofs.Ytapchjkiiifhdaa.ro
set_option linter.unusedVariables false
set_option linter.unusedSimpArgs false

/-- a choice that a call made: its parts need not lie apart -/
structure OwnL (w : World) (lo hi : Nat) (vN vU vQ vS : Value) (c : Ch) : Prop where
  r : OwnR w lo hi vN vU c.R
  q : Own encS w lo hi vQ c.Q
  s : sk.Own w lo hi vS c.S
  sz : hi ≤ w.heap.size
theorem sk_wide {w : World} {lo hi lo' hi' : Nat} {v : Value} {R : List (List Int)} (h : sk.Own w lo hi v R) (h1 : lo' ≤ lo) (h2 : hi ≤ hi') (h3 : hi' ≤ w.heap.size) : sk.Own w lo' hi' v R := by
  obtain ⟨hl, a, cap, bo, B, C, e, ha, h0, -, hd, hr⟩ := h
  exact ⟨hl, a, cap, bo, B, C, e, ha, fun x => by have := h0 x; omega, h3, hd, fun i hi => by
    obtain ⟨c1, c2, c3, c4, c5, c6⟩ := hr i hi
    exact ⟨c1, c2, by omega, by omega, c5, c6⟩⟩
theorem plusR_len {R : List (List Int)} (h : sk.Four R) (D : Int) (s : ByteArray) : (sk.plusR R D s).length = 4 := by
  unfold sk.plusR
  split
  · exact (sk.halfR_four (sk.addR_four h)).1
  · exact (sk.addR_four h).1
theorem skown_of {w : World} {lo hi bo cap : Nat} {B C : Nat → Nat} {R : List (List Int)} (h : R.length = 4) (o : sk.OwnAt w lo hi bo B C R) : sk.Own w lo hi (.slice (some ⟨bo, 0, none⟩) 4 cap) R :=
  ⟨by rw [h]; decide, _, cap, bo, B, C, by rw [h], fun _ => rfl, o⟩
theorem OwnC.lax {w : World} {lo hi : Nat} {vN vU vQ vS : Value} {c : Ch} (h : OwnC w lo hi vN vU vQ vS c) : OwnL w lo hi vN vU vQ vS c := by
  obtain ⟨⟨l1, h1, l2, h2, l3, h3, a, b, d, ⟨e1, e2, e3, e4, e5, e6⟩, -⟩, sz⟩ := h
  exact ⟨a.wide e1 e2, b.wide e3 e4, sk_wide d e5 e6 sz, sz⟩
theorem OwnL.keep {w w' : World} {lo hi : Nat} {vN vU vQ vS : Value} {c : Ch} (h : OwnL w lo hi vN vU vQ vS c) (s : ∀ k, lo ≤ k → k < hi → w'.heap[k]? = w.heap[k]?) (hs : w.heap.size ≤ w'.heap.size) : OwnL w' lo hi vN vU vQ vS c :=
  ⟨ownR_keep h.r s, h.q.keep s, sk.Own.keep h.s s hs, Nat.le_trans h.sz hs⟩
theorem OwnL.grow {w w' : World} {lo hi : Nat} {vN vU vQ vS : Value} {c : Ch} (h : OwnL w lo hi vN vU vQ vS c) (hb : Below w.heap.size w w') : OwnL w' lo hi vN vU vQ vS c := h.keep (fun k _ y => hb.block k (by have := h.sz; omega)) hb.size
theorem OwnL.off {w w' : World} {lo hi b : Nat} {vN vU vQ vS : Value} {c : Ch} (h : OwnL w lo hi vN vU vQ vS c) (hO : Only b w w') (hb : b < lo ∨ hi ≤ b) : OwnL w' lo hi vN vU vQ vS c := h.keep (fun k x y => hO.2.1 k (by omega)) (Nat.le_of_eq hO.1.symm)
theorem OwnL.within {w w' : World} {lo hi l2 h2 : Nat} {vN vU vQ vS : Value} {c : Ch} (h : OwnL w lo hi vN vU vQ vS c) (hw : Within l2 h2 w w') (hd : hi ≤ l2 ∨ h2 ≤ lo) : OwnL w' lo hi vN vU vQ vS c := h.keep (fun k x y => hw.block k (by have := h.sz; omega) (by omega)) hw.size
theorem OwnL.rd {w : World} {lo hi : Nat} {vN vU vQ vS : Value} {c : Ch} (h : OwnL w lo hi vN vU vQ vS c) (hn : ∀ s ∈ c.R.N, s.size ≤ 9223372036854775807) (hq : ∀ s ∈ c.Q, s.size ≤ 9223372036854775807) : RdC w vN vU vQ vS c := ⟨h.r.rd hn, h.q.rd, hq, h.s.rd.wide (Nat.zero_le _) (sk_hi h.s)⟩
theorem OwnL.forms {w : World} {lo hi : Nat} {vN vU vQ vS : Value} {c : Ch} (h : OwnL w lo hi vN vU vQ vS c) : (∃ a n k, vN = .slice a n k) ∧ (∃ a n k, vU = .slice a n k) ∧ (∃ a n k, vQ = .slice a n k) ∧ ∃ a n k, vS = .slice a n k := ⟨h.r.n.slice, h.r.u.slice, h.q.slice, sk.Own.form h.s⟩
theorem OwnL.wide {w : World} {lo hi lo' : Nat} {vN vU vQ vS : Value} {c : Ch} (h : OwnL w lo hi vN vU vQ vS c) (h1 : lo' ≤ lo) : OwnL w lo' w.heap.size vN vU vQ vS c := ⟨h.r.wide h1 h.sz, h.q.wide h1 h.sz, sk_wide h.s h1 h.sz (Nat.le_refl _), Nat.le_refl _⟩
/-- a choice in which one is seen -/
def seC (c : Ch) (s : ByteArray) : Ch := ⟨c.K, (seeH ⟨c.K, c.R, c.Q⟩ s).R, (seeH ⟨c.K, c.R, c.Q⟩ s).Q, if nameB s = true then sk.plusR c.S c.D s else c.S, if nameB s = true then sk.plusN c.D else c.D⟩
theorem Tw.any {lo hi b : Nat} {w w' : World} (h : ∀ b, Tw lo hi b w w') : Tw lo hi b w w' := h b
set_option maxRecDepth 100000 in
set_option maxHeartbeats 4000000 in
theorem l16See_any (c : Ch) (hc : chB c = true) (s : ByteArray) (hs : s.size ≤ 9223372036854775807) (vN vU vQ vS : Value) (b lo hi : Nat) (w : World) (o : OwnC w lo hi vN vU vQ vS c) (hlo : lo ≤ w.heap.size) (hb : b < lo ∨ hi ≤ b) (V : VBlk w b 36 [.int .i64 c.K, vN, vU, .int .i64 c.R.A, vQ, vS, .int .i64 c.D]) :
    Calls Try.prog 81 #[.pointer (some ⟨b, 0, none⟩), .string s] w fun e w' => (∃ u, e = .returned u) ∧ ∃ vN' vU' vQ', OwnL w' lo w'.heap.size vN' vU' vQ' vS (seC c s) ∧ VBlk w' b 36 [.int .i64 c.K, vN', vU', .int .i64 (seC c s).R.A, vQ', vS, .int .i64 (seC c s).D] ∧ Tw lo hi b w w' := by
  obtain ⟨hsk, hr, hq, hway⟩ := chB_parts hc
  have hl := chB_len hc
  clear hc
  obtain ⟨K, ⟨N, U, A⟩, Q, S, D⟩ := c
  dsimp only at hsk hr hq hway hl
  unfold seC seeH
  dsimp only
  cases hnm : nameB s with
  | false =>
    simp only [Bool.false_eq_true, if_false]
    go_enter Try.func81, Try.ntmps81
    go_wp2_with (first | (go_at_call 60; refine (specNameOk_any _ hs _).mono ?_; rintro e wq ⟨rfl, hq⟩; subst wq; rw [hnm]) | (fail))
    first | go_end0 | ((try simp only [Exit.inBlock, Exit.then]); refine bodyPost_ret (results_none rfl _ _ _) rfl ?_)
    exact ⟨⟨_, rfl⟩, _, _, _, o.lax.wide (Nat.le_refl _), V, Tw.refl _ _ _ _⟩
  | true =>
    have hk : s.size ≤ 1048576 := by have := (nameB_size hnm).2; omega
    obtain ⟨⟨aN1, nN1, kN1, rfl⟩, ⟨aU1, nU1, kU1, rfl⟩, ⟨aQ1, nQ1, kQ1, rfl⟩, -⟩ := o.forms
    obtain ⟨⟨l1, h1, l2, h2, l3, h3, oR, oQ, oS, ⟨e1, e2, e3, e4, e5, e6⟩, e7, e8, e9⟩, sz⟩ := o
    dsimp only at oR oQ oS V
    obtain ⟨hlS, aS, kS, bo, B, C, rfl, haS, oA⟩ := oS
    have hne : S ≠ [] := by intro e; have := hsk.1; rw [e] at this; simp at this
    have haS2 := haS hne
    subst haS2
    have hbo := oA.1 hne
    have h4 : S.length = 4 := hsk.1
    rw [h4] at V ⊢
    simp only [if_true, eq_self]
    obtain ⟨l1', p1, p2, p3⟩ : ∃ l, l ≤ l1 ∧ l ≤ w.heap.size ∧ (l = l1 ∨ l = w.heap.size) := by
      by_cases h : l1 ≤ w.heap.size
      · exact ⟨l1, Nat.le_refl _, h, .inl rfl⟩
      · exact ⟨w.heap.size, by omega, Nat.le_refl _, .inr rfl⟩
    obtain ⟨l2', p4, p5, p6⟩ : ∃ l, l ≤ l2 ∧ l ≤ w.heap.size ∧ (l = l2 ∨ l = w.heap.size) := by
      by_cases h : l2 ≤ w.heap.size
      · exact ⟨l2, Nat.le_refl _, h, .inl rfl⟩
      · exact ⟨w.heap.size, by omega, Nat.le_refl _, .inr rfl⟩
    replace oR := oR.wide p1 (Nat.le_refl _)
    replace oQ := oQ.wide p4 (Nat.le_refl _)
    have HSK : Hid (sk.Four S ∧ sk.Small S) := ⟨hsk.four, hsk.small⟩
    have hlS4 : Hid ((sk.plusR S D s).length = 4) := plusR_len hsk.four D s
    have HNU : Hid (U.length = N.length) := hr.us
    have HL : Hid (Q.length ≤ 1000000 ∧ N.length ≤ 1000000) := hl
    have kA := fun (_ : Unit) => sk.l2AddC_any (.int .i64 K) (.slice aN1 nN1 kN1) (.slice aU1 nU1 kU1) (.int .i64 A) (.slice aQ1 nQ1 kQ1) S hsk.four hsk.small D hsk.2.1 s hk w 0 l3 h3 b bo B C kS V oA (Nat.zero_le _) (Nat.zero_le _) (by omega)
    have KA : Hid _ := kA
    obtain ⟨c0, c1, c2, c3, c4, c5, c6⟩ := cells7c V
    clear kA hsk hr hq hl hlS haS hne h4 oA
    rcases hway with ⟨k1, -⟩ | ⟨k2, -⟩
    · subst k1
      rw [if_neg (by decide : ¬ (1 : Int) = 2)]
      dsimp only
      have kU := fun w3 (o3 : OwnR w3 l1' h1 (.slice aN1 nN1 kN1) (.slice aU1 nU1 kU1) ⟨N, U, A⟩) V3 => l8UseW_any (.int .i64 1) (.slice aQ1 nQ1 kQ1) (.slice (some ⟨bo, 0, none⟩) 4 kS) (.int .i64 (sk.plusN D)) ⟨N, U, A⟩ s (.slice aN1 nN1 kN1) (.slice aU1 nU1 kU1) b l1' h1 w3 o3 V3 HNU.out
      have eS : ringSee ⟨N, U, A⟩ s = if 0 ≤ posS s N then used ⟨N, U, A⟩ s else joinR ⟨N, U, A⟩ s := rfl
      rw [eS]
      by_cases hp : 0 ≤ posS s N
      · rw [if_pos hp]
        rw [decide_eq_true hp] at kU
        have KU : Hid _ := kU
        clear kU eS hp
        go_enter Try.func81, Try.ntmps81
        go_wp2_with (first | (go_at_call 60; refine (specNameOk_any _ hs _).mono ?_; rintro e wq ⟨rfl, hq⟩; subst wq; rw [hnm]) | (go_at_call 138; refine (KA.out ()).mono ?_; rintro e w3 ⟨u3, rfl, V3x, oA3, T3⟩; have V3 : VBlk w3 b 36 [.int .i64 1, .slice aN1 nN1 kN1, .slice aU1 nU1 kU1, .int .i64 A, .slice aQ1 nQ1 kQ1, .slice (some ⟨bo, 0, none⟩) 4 kS, .int .i64 (sk.plusN D)] := V3x; have oR3 := ownR_keep oR (fun k x y => T3.keep k (by omega) (by omega) (by omega)); have oQ3 := oQ.keep (fun k x y => T3.keep k (by omega) (by omega) (by omega)); have hz3 := T3.size; clear c0 c1 c2 c3 c4 c5 c6; obtain ⟨c0, c1, c2, c3, c4, c5, c6⟩ := cells7c V3) | (go_at_call 140; refine (KU.out _ oR3 V3).mono ?_; rintro e w4 ⟨rfl, oR4, V4, T4⟩) | (fail))
        first | go_end0 | ((try simp only [Exit.inBlock, Exit.then]); refine bodyPost_ret (results_none rfl _ _ _) rfl ?_)
        have hz4 := T4.size
        have oA4 := oA3.keep (fun k x y => T4.keep k (by omega) (by omega) (by omega)) hz4
        have oQ4 := oQ3.keep (fun k x y => T4.keep k (by omega) (by omega) (by omega))
        have eA : (used ⟨N, U, A⟩ s).A = A := by unfold used; split <;> rfl
        rw [eA]
        exact ⟨⟨_, rfl⟩, _, _, _, ⟨oR4.wide (by omega) (by omega), oQ4.wide (by omega) (by omega), sk_wide (skown_of hlS4.out oA4) (by omega) (by omega) (Nat.le_refl _), Nat.le_refl _⟩, V4, (T3.widen (by omega) (by omega)).trans (T4.widen (by omega) (by omega))⟩
      · rw [if_neg hp]
        have hu0 : used ⟨N, U, A⟩ s = ⟨N, U, A⟩ := used_no hp
        rw [decide_eq_false hp, hu0] at kU
        have KU : Hid _ := kU
        clear kU eS hp hu0
        go_enter Try.func81, Try.ntmps81
        go_wp2_with (first | (go_at_call 60; refine (specNameOk_any _ hs _).mono ?_; rintro e wq ⟨rfl, hq⟩; subst wq; rw [hnm]) | (go_at_call 138; refine (KA.out ()).mono ?_; rintro e w3 ⟨u3, rfl, V3x, oA3, T3⟩; have V3 : VBlk w3 b 36 [.int .i64 1, .slice aN1 nN1 kN1, .slice aU1 nU1 kU1, .int .i64 A, .slice aQ1 nQ1 kQ1, .slice (some ⟨bo, 0, none⟩) 4 kS, .int .i64 (sk.plusN D)] := V3x; have oR3 := ownR_keep oR (fun k x y => T3.keep k (by omega) (by omega) (by omega)); have oQ3 := oQ.keep (fun k x y => T3.keep k (by omega) (by omega) (by omega)); have hz3 := T3.size; clear c0 c1 c2 c3 c4 c5 c6; obtain ⟨c0, c1, c2, c3, c4, c5, c6⟩ := cells7c V3) | (go_at_call 140; refine (KU.out _ oR3 V3).mono ?_; rintro e w4 ⟨rfl, oR4, V4, T4⟩; have hz4 := T4.size) | (go_at_call 141; refine (l8JoinW_any (.int .i64 1) (.slice aQ1 nQ1 kQ1) (.slice (some ⟨bo, 0, none⟩) 4 kS) (.int .i64 (sk.plusN D)) ⟨N, U, A⟩ s hs _ _ b l1' h1 w4 oR4 V4 (by omega) HL.out.2 (by have := HL.out; have := HNU.out; dsimp only; omega)).mono ?_; rintro e w5 ⟨rfl, vN5, vU5, oR5, V5, T5⟩) | (fail))
        first | go_end0 | ((try simp only [Exit.inBlock, Exit.then]); refine bodyPost_ret (results_none rfl _ _ _) rfl ?_)
        have hz5 := T5.size
        have oA4 := (oA3.keep (fun k x y => T4.keep k (by omega) (by omega) (by omega)) hz4).keep (fun k x y => T5.keep k (by omega) (by omega) (by omega)) hz5
        have oQ4 := (oQ3.keep (fun k x y => T4.keep k (by omega) (by omega) (by omega))).keep (fun k x y => T5.keep k (by omega) (by omega) (by omega))
        have eA : (joinR ⟨N, U, A⟩ s).A = A := by unfold joinR; split <;> rfl
        rw [eA]
        exact ⟨⟨_, rfl⟩, _, _, _, ⟨oR5.wide (by omega) (by omega), oQ4.wide (by omega) (by omega), sk_wide (skown_of hlS4.out oA4) (by omega) (by omega) (Nat.le_refl _), Nat.le_refl _⟩, V5, ((T3.widen (by omega) (by omega)).trans (T4.widen (by omega) (by omega))).trans (T5.widen (by omega) (by omega))⟩
    · subst k2
      rw [if_pos rfl]
      dsimp only
      go_enter Try.func81, Try.ntmps81
      go_wp2_with (first | (go_at_call 60; refine (specNameOk_any _ hs _).mono ?_; rintro e wq ⟨rfl, hq⟩; subst wq; rw [hnm]) | (go_at_call 138; refine (KA.out ()).mono ?_; rintro e w3 ⟨u3, rfl, V3x, oA3, T3⟩; have V3 : VBlk w3 b 36 [.int .i64 2, .slice aN1 nN1 kN1, .slice aU1 nU1 kU1, .int .i64 A, .slice aQ1 nQ1 kQ1, .slice (some ⟨bo, 0, none⟩) 4 kS, .int .i64 (sk.plusN D)] := V3x; have oR3 := ownR_keep oR (fun k x y => T3.keep k (by omega) (by omega) (by omega)); have oQ3 := oQ.keep (fun k x y => T3.keep k (by omega) (by omega) (by omega)); have hz3 := T3.size; clear c0 c1 c2 c3 c4 c5 c6; obtain ⟨c0, c1, c2, c3, c4, c5, c6⟩ := cells7c V3) | (go_at_call 139; refine (l9TouchW_any Q s hs _ l2' h2 w3 oQ3 (by omega) HL.out.1).mono ?_; rintro e w4 ⟨v4, rfl, oQ4, T4⟩; obtain ⟨aQ4, nQ4, kQ4, rfl⟩ := oQ4.slice; have hz4 := (T4 b).size; have V4 : VBlk w4 b 36 [.int .i64 2, .slice aN1 nN1 kN1, .slice aU1 nU1 kU1, .int .i64 A, .slice aQ1 nQ1 kQ1, .slice (some ⟨bo, 0, none⟩) 4 kS, .int .i64 (sk.plusN D)] := V3.of ((T4 w3.heap.size).keep b V3.lt (by have := V3.lt; omega) (by omega)); clear c0 c1 c2 c3 c4 c5 c6; obtain ⟨c0, c1, c2, c3, c4, c5, c6⟩ := cells7c V4) | (refine wpList_store_cc rfl 22 _ _ rfl b 4 (.slice aQ4 nQ4 kQ4) rfl rfl rfl szSl V4 (by simp) ?_; intro w5 hO5 V5) | (fail))
      first | go_end0 | ((try simp only [Exit.inBlock, Exit.then]); refine bodyPost_ret (results_none rfl _ _ _) rfl ?_)
      have hz5 := Nat.le_of_eq hO5.1.symm
      have T45 := (T4 b).trans (Tw.of_only hO5)
      have oA5 := oA3.keep (fun k x y => T45.keep k (by omega) (by omega) (by omega)) T45.size
      have oR5 := ownR_keep oR3 (fun k x y => T45.keep k (by omega) (by omega) (by omega))
      have oQ5 := oQ4.only hO5 V4 (by decide)
      exact ⟨⟨_, rfl⟩, _, _, _, ⟨oR5.wide (by omega) (by omega), oQ5.wide (by omega) (by omega), sk_wide (skown_of hlS4.out oA5) (by omega) (by omega) (Nat.le_refl _), Nat.le_refl _⟩, V5, (T3.widen (by omega) (by omega)).trans (T45.widen (by omega) (by omega))⟩
end Go.Proofs.Ytapchjkiiifhdaa.rg
/- Contracts: who is seen, the model's whole. -/
namespace Go.Proofs.Ytapchjkiiifhdaa.rg
open Go.ChangeShapes Go.WideShapes Go.ChangeAt Go.RowKit
open Go.Deep Go.Joins
open Go.Proofs.Ytapchjkiiifhdaa.ce Go.Proofs.Ytapchjkiiifhdaa.ro
set_option linter.unusedVariables false
set_option linter.unusedSimpArgs false

def seX (c : Ch) (s : ByteArray) : Ch := if chB c = true then seC c s else Ch.zero
/-- what the model's Sees tells -/
def PostL (c : Ch) (w : World) (e : Ending) (w' : World) : Prop := ∃ vN vU vQ vS, e = .returned (.agg #[.int .i64 c.K, vN, vU, .int .i64 c.R.A, vQ, vS, .int .i64 c.D]) ∧ OwnL w' w.heap.size w'.heap.size vN vU vQ vS c ∧ Below w.heap.size w w'
theorem postL_no {w w' : World} (hB : Below w.heap.size w w') : PostL Ch.zero w (.returned (.agg #[.int .i64 0, .slice none 0 0, .slice none 0 0, .int .i64 0, .slice none 0 0, .slice none 0 0, .int .i64 0])) w' := ⟨_, _, _, _, rfl, (ownC_zero _ _ _ (Nat.le_refl _) hB.size).lax, hB⟩
set_option maxRecDepth 100000 in
set_option maxHeartbeats 4000000 in
theorem specSees_any (c : Ch) (s : ByteArray) (hs : s.size ≤ 9223372036854775807) (vN vU vQ vS : Value) (w : World) (h : RdC w vN vU vQ vS c) :
    Calls Try.prog 23 #[.agg #[.int .i64 c.K, vN, vU, .int .i64 c.R.A, vQ, vS, .int .i64 c.D], .string s] w fun e w' => PostL (seX c s) w e w' := by
  obtain ⟨K, ⟨N, U, A⟩, Q, S, D⟩ := c
  obtain ⟨aN, cN, rfl⟩ := h.r.n.form
  obtain ⟨aU, cU, rfl⟩ := h.r.u.form
  obtain ⟨aQ, cQ, rfl⟩ := h.q.form
  obtain ⟨aS, cS, rfl⟩ := sk_form h.s

  have R : Hid (RdC w (.slice aN N.length cN) (.slice aU U.length cU) (.slice aQ Q.length cQ) (.slice aS S.length cS) ⟨K, ⟨N, U, A⟩, Q, S, D⟩) := h
  clear h
  have m1 : Hid True := trivial
  have m2 : Hid True := trivial
  unfold seX
  obtain ⟨y, hy⟩ := hid_ex (chB ⟨K, ⟨N, U, A⟩, Q, S, D⟩)
  rw [hy.out]
  cases y with
  | false =>
    rw [if_neg (by decide)]
    go_enter Try.func23, Try.ntmps23
    go_wp2_with (first | (clear m1; refine wpList_box_v rfl 36 _ rfl [.int .i64 K, .slice aN N.length cN, .slice aU U.length cU, .int .i64 A, .slice aQ Q.length cQ, .slice aS S.length cS, .int .i64 D] rfl ?_; intro b1 w1 hb1 hw1 hB1 V1; obtain ⟨c0, c1, c2, c3, c4, c5, c6⟩ := cells7c V1; have hz1 := hB1.size) | (clear m2; refine wpList_alloc_v rfl 36 rfl _ zeroCh ?_; intro b2 w2 hb2 hw2 hB2 V2; replace V1 := vblk_grow V1 hB2; clear c0 c1 c2 c3 c4 c5 c6; obtain ⟨c0, c1, c2, c3, c4, c5, c6⟩ := cells7c V1; have hB12 := hB1.trans (hB2.mono hz1); have hz2 := hB12.size) | (go_at_call 15; refine (specChoiceOk_any ⟨K, ⟨N, U, A⟩, Q, S, D⟩ _ _ _ _ _ (R.out.grow hB12) false hy).mono ?_; rintro e w3 ⟨rfl, hB3⟩; replace V2 := vblk_grow V2 hB3; have hB13 := hB12.trans (hB3.mono hz2); have hz3 := hB13.size) | (refine wpList_store_v rfl 36 _ _ rfl b2 [.int .i64 0, .slice none 0 0, .slice none 0 0, .int .i64 0, .slice none 0 0, .slice none 0 0, .int .i64 0] rfl rfl sizeCh V2 rfl (by simp [Value.oneCell']) ?_; intro w4 hO4 V4; have hB14 := hB13.trans (hO4.2.2 _ (by omega))) | (fail))
    exact row_retv rfl rfl V4 Try.underlying36 sizeCh rfl (postL_no hB14)
  | true =>
    rw [if_pos rfl]
    have hsm := smC_of hy.out
    have HSM : Hid (SmC ⟨K, ⟨N, U, A⟩, Q, S, D⟩) := hsm
    clear hsm
    obtain ⟨⟨K2, ⟨N2, U2, A2⟩, Q2, S2, D2⟩, hf⟩ := hid_ex (seC ⟨K, ⟨N, U, A⟩, Q, S, D⟩ s)
    have kk : K2 = K := by have h := hf.out; exact (congrArg Ch.K h).symm
    have kF := fun (vN' vU' vQ' vS' : Value) b lo hi w' o hlo hb V => l16See_any ⟨K, ⟨N, U, A⟩, Q, S, D⟩ hy.out s hs vN' vU' vQ' vS' b lo hi w' o hlo hb V
    rw [hf.out] at kF ⊢
    subst kk
    have KF : Hid _ := kF
    clear kF hf
    have m3 : Hid True := trivial
    have m4 : Hid True := trivial
    go_enter Try.func23, Try.ntmps23
    go_wp2_with (first | (clear m1; refine wpList_box_v rfl 36 _ rfl [.int .i64 K2, .slice aN N.length cN, .slice aU U.length cU, .int .i64 A, .slice aQ Q.length cQ, .slice aS S.length cS, .int .i64 D] rfl ?_; intro b1 w1 hb1 hw1 hB1 V1; obtain ⟨c0, c1, c2, c3, c4, c5, c6⟩ := cells7c V1; have hz1 := hB1.size) | (clear m2; refine wpList_alloc_v rfl 36 rfl _ zeroCh ?_; intro b2 w2 hb2 hw2 hB2 V2; replace V1 := vblk_grow V1 hB2; clear c0 c1 c2 c3 c4 c5 c6; obtain ⟨c0, c1, c2, c3, c4, c5, c6⟩ := cells7c V1; have hB12 := hB1.trans (hB2.mono hz1); have hz2 := hB12.size) | (go_at_call 15; refine (specChoiceOk_any ⟨K2, ⟨N, U, A⟩, Q, S, D⟩ _ _ _ _ _ (R.out.grow hB12) true hy).mono ?_; rintro e w3 ⟨rfl, hB3⟩; replace V1 := vblk_grow V1 hB3; replace V2 := vblk_grow V2 hB3; clear c0 c1 c2 c3 c4 c5 c6; obtain ⟨c0, c1, c2, c3, c4, c5, c6⟩ := cells7c V1; have hB13 := hB12.trans (hB3.mono hz2); have hz3 := hB13.size; have hz23 := hB3.size) | (go_at_call 80; refine (l16Copy_any ⟨K2, ⟨N, U, A⟩, Q, S, D⟩ HSM.out _ _ _ _ _ (R.out.grow hB13)).mono ?_; rintro e w4 ⟨vN4, vU4, vQ4, vS4, rfl, o4, hB4⟩; replace V2 := vblk_grow V2 hB4; obtain ⟨⟨aN4, nN4, kN4, rfl⟩, ⟨aU4, nU4, kU4, rfl⟩, ⟨aQ4, nQ4, kQ4, rfl⟩, ⟨aS4, nS4, kS4, rfl⟩⟩ := o4.forms; have hB14 := hB13.trans (hB4.mono hz3); have hz4 := hB14.size; have hz34 := hB4.size) | (clear m3; refine wpList_alloc_v rfl 36 rfl _ zeroCh ?_; intro b5 w5 hb5 hw5 hB5 V5; replace V2 := vblk_grow V2 hB5; replace o4 := o4.grow hB5; have hB15 := hB14.trans (hB5.mono hz4); have hz5 := hB15.size; have hz45 := hB5.size) | (clear m4; refine wpList_store_v rfl 36 _ _ rfl b5 [.int .i64 K2, .slice aN4 nN4 kN4, .slice aU4 nU4 kU4, .int .i64 A, .slice aQ4 nQ4 kQ4, .slice aS4 nS4 kS4, .int .i64 D] rfl rfl sizeCh V5 rfl (by simp [Value.oneCell']) ?_; intro w6 hO6 V6; replace V2 := vblk_only V2 hO6 (by omega); replace o4 := o4.off hO6 (by omega); have hB16 := hB15.trans (hO6.2.2 _ (by omega)); have hz6 := hB16.size; have hz56 := Nat.le_of_eq hO6.1.symm; have hy56 := Nat.le_of_eq hO6.1) | (go_at_call 81; refine (KF.out _ _ _ _ b5 _ _ _ o4 (by omega) (by omega) V6).mono ?_; rintro e w7 ⟨⟨u7, rfl⟩, vN7, vU7, vQ7, o7, V7, hF7⟩; obtain ⟨⟨aN7, nN7, kN7, rfl⟩, ⟨aU7, nU7, kU7, rfl⟩, ⟨aQ7, nQ7, kQ7, rfl⟩, -⟩ := o7.forms; replace V2 := V2.of (hF7.keep b2 V2.lt (by omega) (by omega)); have hB17 := hB16.trans (hF7.below (by omega) (by omega) hz6); have hz7 := hB17.size; have hz67 := hF7.size; obtain ⟨d0, d1, d2, d3, d4, d5, d6⟩ := cells7c V7) | (refine wpList_store_v rfl 36 _ _ rfl b2 [.int .i64 K2, .slice aN7 nN7 kN7, .slice aU7 nU7 kU7, .int .i64 A2, .slice aQ7 nQ7 kQ7, .slice aS4 nS4 kS4, .int .i64 D2] rfl rfl sizeCh V2 rfl (by simp [Value.oneCell']) ?_; intro w8 hO8 V8; have hB18 := hB17.trans (hO8.2.2 _ (by omega))) | (fail))
    exact row_retv rfl rfl V8 Try.underlying36 sizeCh rfl ⟨_, _, _, _, rfl, (o7.off hO8 (by omega)).wide (by omega), hB18⟩
end Go.Proofs.Ytapchjkiiifhdaa.rg
/- Contracts: the program: who is seen. -/
namespace Go.Proofs.Ytapchjkiiifhdaa.rg
open Go.ChangeShapes Go.WideShapes Go.ChangeAt Go.RowKit
open Go.Deep Go.Joins
open Go.Proofs.Ytapchjkiiifhdaa.ce Go.Proofs.Ytapchjkiiifhdaa.ro
set_option linter.unusedVariables false
set_option linter.unusedSimpArgs false

set_option maxRecDepth 100000 in
set_option maxHeartbeats 4000000 in
theorem usedOrJoined_any (r : Rg) (hr : ringB r = true) (s : ByteArray) (hs : s.size ≤ 9223372036854775807) (vN vU : Value) (w : World) (h : RdR w vN vU r) :
    Calls Try.prog 84 #[.agg #[vN, vU, .int .i64 r.A], .string s] w fun e w' => ∃ vN' vU', e = .returned (.agg #[vN', vU', .int .i64 (ringSee r s).A]) ∧ OwnR w' w.heap.size w'.heap.size vN' vU' (ringSee r s) ∧ Below w.heap.size w w' := by
  obtain ⟨a, cap, rfl⟩ := h.n.form
  obtain ⟨c, dc, rfl⟩ := h.u.form
  have R : Hid (RdR w (.slice a r.N.length cap) (.slice c r.U.length dc) r) := h
  clear h
  have m1 : Hid True := trivial
  have m2 : Hid True := trivial
  have m3 : Hid True := trivial
  have m4 : Hid True := trivial
  by_cases hp : 0 ≤ posS s r.N
  · have e : ringSee r s = usR r s := by unfold ringSee usR; rw [if_pos hp, if_pos hr]
    rw [e]
    obtain ⟨⟨N2, U2, A2⟩, hT⟩ := hid_ex (usR r s)
    have kU := fun vN vU w h => implUses_all r s vN vU w h
    rw [hT.out] at kU ⊢
    have KU : Hid _ := kU
    have hy : Hid (decide (0 ≤ posS s r.N) = true) := decide_eq_true hp
    clear kU e hp hr hT
    go_enter Try.func84, Try.ntmps84
    go_wp2_with (first | (clear m1; refine wpList_box_v rfl 33 _ rfl [.slice a r.N.length cap, .slice c r.U.length dc, .int .i64 r.A] rfl ?_; intro b2 w1 hb2 hw1 hB1 V2; have hz1 := hB1.size) | (clear m2; refine wpList_alloc_v rfl 33 rfl _ zeroRg ?_; intro b4 w2 hb4 hw4 hB2 V4; replace V2 := vblk_grow V2 hB2; obtain ⟨c0, c1, c2⟩ := cells3 V2; have hB12 := hB1.trans (hB2.mono hz1); have hz2 := hB12.size) | (go_at_call 145; refine (contains_any r.N s _ _ _ true hy _ (R.out.grow hB12).n).mono ?_; rintro e wq ⟨rfl, hq⟩; subst wq) | (go_at_call 146; refine (KU.out _ _ _ (R.out.grow hB12)).mono ?_; rintro e w5 ⟨vN5, vU5, rfl, o5, hB5⟩; obtain ⟨aN5, nN5, kN5, rfl⟩ := o5.n.slice; obtain ⟨aU5, nU5, kU5, rfl⟩ := o5.u.slice; replace V4 := vblk_grow V4 hB5; have hB15 := hB12.trans (hB5.mono hz2); have hz5 := hB5.size) | (refine wpList_store_v rfl 33 _ _ rfl b4 [.slice aN5 nN5 kN5, .slice aU5 nU5 kU5, .int .i64 A2] rfl rfl sizeRg V4 rfl (by simp [Value.oneCell']) ?_; intro w6 hO6 V6; have o6 := o5.only hO6 V4 (by decide) (by decide)) | (fail))
    exact row_retv rfl rfl V6 Try.underlying33 sizeRg rfl ⟨_, _, rfl, o6.wide hz2 (Nat.le_of_eq hO6.1.symm), hB15.trans (hO6.2.2 _ (by omega))⟩
  · have e : ringSee r s = jnR r s := by unfold ringSee jnR; rw [if_neg hp, if_pos hr]
    rw [e]
    obtain ⟨⟨N2, U2, A2⟩, hT⟩ := hid_ex (jnR r s)
    have kU := fun vN vU w h => implJoins_all r s hs vN vU w h
    rw [hT.out] at kU ⊢
    have KU : Hid _ := kU
    have hy : Hid (decide (0 ≤ posS s r.N) = false) := decide_eq_false hp
    clear kU e hp hr hT
    go_enter Try.func84, Try.ntmps84
    go_wp2_with (first | (clear m1; refine wpList_box_v rfl 33 _ rfl [.slice a r.N.length cap, .slice c r.U.length dc, .int .i64 r.A] rfl ?_; intro b2 w1 hb2 hw1 hB1 V2; have hz1 := hB1.size) | (clear m2; refine wpList_alloc_v rfl 33 rfl _ zeroRg ?_; intro b4 w2 hb4 hw4 hB2 V4; replace V2 := vblk_grow V2 hB2; obtain ⟨c0, c1, c2⟩ := cells3 V2; have hB12 := hB1.trans (hB2.mono hz1); have hz2 := hB12.size) | (go_at_call 145; refine (contains_any r.N s _ _ _ false hy _ (R.out.grow hB12).n).mono ?_; rintro e wq ⟨rfl, hq⟩; subst wq) | (go_at_call 147; refine (KU.out _ _ _ (R.out.grow hB12)).mono ?_; rintro e w5 ⟨vN5, vU5, rfl, o5, hB5⟩; obtain ⟨aN5, nN5, kN5, rfl⟩ := o5.n.slice; obtain ⟨aU5, nU5, kU5, rfl⟩ := o5.u.slice; replace V4 := vblk_grow V4 hB5; have hB15 := hB12.trans (hB5.mono hz2); have hz5 := hB15.size; have hz25 := hB5.size) | (clear m3; refine wpList_alloc_v rfl 33 rfl _ zeroRg ?_; intro b6 w6 hb6 hw6 hB6 V6; replace V4 := vblk_grow V4 hB6; replace o5 := o5.grow hB6; have hB16 := hB15.trans (hB6.mono hz5); have hz56 := hB6.size) | (clear m4; refine wpList_store_v rfl 33 _ _ rfl b6 [.slice aN5 nN5 kN5, .slice aU5 nU5 kU5, .int .i64 A2] rfl rfl sizeRg V6 rfl (by simp [Value.oneCell']) ?_; intro w7 hO7 V7; obtain ⟨d0, d1, d2⟩ := cells3 V7; replace o5 := o5.only hO7 V6 (by decide) (by decide); replace V4 := vblk_only V4 hO7 (by omega); have hB17 := hB16.trans (hO7.2.2 _ (by omega)); have hz67 := Nat.le_of_eq hO7.1.symm) | (refine wpList_store_v rfl 33 _ _ rfl b4 [.slice aN5 nN5 kN5, .slice aU5 nU5 kU5, .int .i64 A2] rfl rfl sizeRg V4 rfl (by simp [Value.oneCell']) ?_; intro w8 hO8 V8; have o8 := o5.only hO8 V4 (by decide) (by decide); have hz78 := Nat.le_of_eq hO8.1.symm) | (fail))
    exact row_retv rfl rfl V8 Try.underlying33 sizeRg rfl ⟨_, _, rfl, o8.wide hz2 (by omega), hB17.trans (hO8.2.2 _ (by omega))⟩
end Go.Proofs.Ytapchjkiiifhdaa.rg
/- Contracts: the program: who is seen, whole. -/
namespace Go.Proofs.Ytapchjkiiifhdaa.rg
open Go.ChangeShapes Go.WideShapes Go.ChangeAt Go.RowKit
open Go.Deep Go.Joins
open Go.Proofs.Ytapchjkiiifhdaa.ce Go.Proofs.Ytapchjkiiifhdaa.ro
set_option linter.unusedVariables false
set_option linter.unusedSimpArgs false

set_option maxRecDepth 100000 in
set_option maxHeartbeats 4000000 in
theorem implSees_any (c : Ch) (s : ByteArray) (hs : s.size ≤ 9223372036854775807) (vN vU vQ vS : Value) (w : World) (h : RdC w vN vU vQ vS c) :
    Calls Try.prog 24 #[.agg #[.int .i64 c.K, vN, vU, .int .i64 c.R.A, vQ, vS, .int .i64 c.D], .string s] w fun e w' => PostF (seX c s) w e w' := by
  obtain ⟨K, ⟨N, U, A⟩, Q, S, D⟩ := c
  obtain ⟨aN, cN, rfl⟩ := h.r.n.form
  obtain ⟨aU, cU, rfl⟩ := h.r.u.form
  obtain ⟨aQ, cQ, rfl⟩ := h.q.form
  obtain ⟨aS, cS, rfl⟩ := sk_form h.s
  have R : Hid (RdC w (.slice aN N.length cN) (.slice aU U.length cU) (.slice aQ Q.length cQ) (.slice aS S.length cS) ⟨K, ⟨N, U, A⟩, Q, S, D⟩) := h
  clear h
  have m1 : Hid True := trivial
  have m2 : Hid True := trivial
  have m3 : Hid True := trivial
  have m4 : Hid True := trivial
  unfold seX
  obtain ⟨y, hy⟩ := hid_ex (chB ⟨K, ⟨N, U, A⟩, Q, S, D⟩)
  rw [hy.out]
  cases y with
  | false =>
    rw [if_neg (by decide)]
    have hc2 : Hid (cpC ⟨K, ⟨N, U, A⟩, Q, S, D⟩ = ⟨0, ⟨[], [], 0⟩, [], [], 0⟩) := by unfold Hid cpC; rw [hy.out]; rfl
    go_enter Try.func24, Try.ntmps24
    go_wp2_with (first | (clear m1; refine wpList_box_v rfl 36 _ rfl [.int .i64 K, .slice aN N.length cN, .slice aU U.length cU, .int .i64 A, .slice aQ Q.length cQ, .slice aS S.length cS, .int .i64 D] rfl ?_; intro b1 w1 hb1 hw1 hB1 V1; obtain ⟨c0, c1, c2, c3, c4, c5, c6⟩ := cells7c V1; have hz1 := hB1.size) | (clear m2; refine wpList_alloc_v rfl 36 rfl _ zeroCh ?_; intro b4 w2 hb4 hw4 hB2 V4; replace V1 := vblk_grow V1 hB2; clear c0 c1 c2 c3 c4 c5 c6; obtain ⟨c0, c1, c2, c3, c4, c5, c6⟩ := cells7c V1; have hB12 := hB1.trans (hB2.mono hz1); have hz2 := hB12.size) | (go_at_call 71; refine (implChoiceOf_any ⟨K, ⟨N, U, A⟩, Q, S, D⟩ _ _ _ _ _ (R.out.grow hB12)).mono ?_; rintro e w3 hP; unfold PostC at hP; rw [hc2.out, hy.out] at hP; obtain ⟨vN3, vU3, vQ3, vS3, rfl, o3, hB3⟩ := hP; dsimp only; obtain ⟨⟨aN3, nN3, kN3, rfl⟩, ⟨aU3, nU3, kU3, rfl⟩, ⟨aQ3, nQ3, kQ3, rfl⟩, ⟨aS3, nS3, kS3, rfl⟩⟩ := o3.forms; replace V4 := vblk_grow V4 hB3; have hB13 := hB12.trans (hB3.mono hz2); have hz3 := hB13.size; have hz23 := hB3.size) | (clear m3; refine wpList_alloc_v rfl 36 rfl _ zeroCh ?_; intro b5 w5 hb5 hw5 hB5 V5; replace V4 := vblk_grow V4 hB5; replace o3 := o3.grow hB5; have hB15 := hB13.trans (hB5.mono hz3); have hz5 := hB15.size; have hz35 := hB5.size) | (clear m4; refine wpList_store_v rfl 36 _ _ rfl b5 [.int .i64 0, .slice aN3 nN3 kN3, .slice aU3 nU3 kU3, .int .i64 0, .slice aQ3 nQ3 kQ3, .slice aS3 nS3 kS3, .int .i64 0] rfl rfl sizeCh V5 rfl (by simp [Value.oneCell']) ?_; intro w6 hO6 V6; replace V4 := vblk_only V4 hO6 (by omega); replace o3 := o3.off hO6 (by omega); have hB16 := hB15.trans (hO6.2.2 _ (by omega)); have hz6 := hB16.size; have hz56 := Nat.le_of_eq hO6.1.symm; have hy56 := Nat.le_of_eq hO6.1; obtain ⟨d0, d1, d2, d3, d4, d5, d6⟩ := cells7c V6) | (refine wpList_store_v rfl 36 _ _ rfl b4 [.int .i64 0, .slice aN3 nN3 kN3, .slice aU3 nU3 kU3, .int .i64 0, .slice aQ3 nQ3 kQ3, .slice aS3 nS3 kS3, .int .i64 0] rfl rfl sizeCh V4 rfl (by simp [Value.oneCell']) ?_; intro wz hOz Vz; have hBz := hB16.trans (hOz.2.2 _ (by omega))) | (fail))
    exact row_retv rfl rfl Vz Try.underlying36 sizeCh rfl ⟨_, _, _, _, rfl, (o3.off hOz (by omega)).wide (by omega), hBz⟩
  | true =>
    rw [if_pos rfl]
    have hc2 : Hid (cpC ⟨K, ⟨N, U, A⟩, Q, S, D⟩ = ⟨K, ⟨N, U, A⟩, Q, S, D⟩) := by unfold Hid cpC; rw [hy.out]; rfl
    obtain ⟨hsk, hr, hq, hway⟩ := chB_parts hy.out
    dsimp only at hsk hr hq hway
    unfold seC seeH
    dsimp only
    cases hnm : nameB s with
    | false =>
      simp only [Bool.false_eq_true, if_false]
      clear hsk hr hq hway
      go_enter Try.func24, Try.ntmps24
      go_wp2_with (first | (clear m1; refine wpList_box_v rfl 36 _ rfl [.int .i64 K, .slice aN N.length cN, .slice aU U.length cU, .int .i64 A, .slice aQ Q.length cQ, .slice aS S.length cS, .int .i64 D] rfl ?_; intro b1 w1 hb1 hw1 hB1 V1; obtain ⟨c0, c1, c2, c3, c4, c5, c6⟩ := cells7c V1; have hz1 := hB1.size) | (clear m2; refine wpList_alloc_v rfl 36 rfl _ zeroCh ?_; intro b4 w2 hb4 hw4 hB2 V4; replace V1 := vblk_grow V1 hB2; clear c0 c1 c2 c3 c4 c5 c6; obtain ⟨c0, c1, c2, c3, c4, c5, c6⟩ := cells7c V1; have hB12 := hB1.trans (hB2.mono hz1); have hz2 := hB12.size) | (go_at_call 71; refine (implChoiceOf_any ⟨K, ⟨N, U, A⟩, Q, S, D⟩ _ _ _ _ _ (R.out.grow hB12)).mono ?_; rintro e w3 hP; unfold PostC at hP; rw [hc2.out, hy.out] at hP; obtain ⟨vN3, vU3, vQ3, vS3, rfl, o3, hB3⟩ := hP; dsimp only; obtain ⟨⟨aN3, nN3, kN3, rfl⟩, ⟨aU3, nU3, kU3, rfl⟩, ⟨aQ3, nQ3, kQ3, rfl⟩, ⟨aS3, nS3, kS3, rfl⟩⟩ := o3.forms; replace V4 := vblk_grow V4 hB3; have hB13 := hB12.trans (hB3.mono hz2); have hz3 := hB13.size; have hz23 := hB3.size) | (clear m3; refine wpList_alloc_v rfl 36 rfl _ zeroCh ?_; intro b5 w5 hb5 hw5 hB5 V5; replace V4 := vblk_grow V4 hB5; replace o3 := o3.grow hB5; have hB15 := hB13.trans (hB5.mono hz3); have hz5 := hB15.size; have hz35 := hB5.size) | (clear m4; refine wpList_store_v rfl 36 _ _ rfl b5 [.int .i64 K, .slice aN3 nN3 kN3, .slice aU3 nU3 kU3, .int .i64 A, .slice aQ3 nQ3 kQ3, .slice aS3 nS3 kS3, .int .i64 D] rfl rfl sizeCh V5 rfl (by simp [Value.oneCell']) ?_; intro w6 hO6 V6; replace V4 := vblk_only V4 hO6 (by omega); replace o3 := o3.off hO6 (by omega); have hB16 := hB15.trans (hO6.2.2 _ (by omega)); have hz6 := hB16.size; have hz56 := Nat.le_of_eq hO6.1.symm; have hy56 := Nat.le_of_eq hO6.1; obtain ⟨d0, d1, d2, d3, d4, d5, d6⟩ := cells7c V6) | (go_at_call 82; refine (implNameOk_any _ hs _).mono ?_; rintro e wq ⟨rfl, hq⟩; subst wq; rw [hnm]) | (refine wpList_store_v rfl 36 _ _ rfl b4 [.int .i64 K, .slice aN3 nN3 kN3, .slice aU3 nU3 kU3, .int .i64 A, .slice aQ3 nQ3 kQ3, .slice aS3 nS3 kS3, .int .i64 D] rfl rfl sizeCh V4 rfl (by simp [Value.oneCell']) ?_; intro wz hOz Vz; have hBz := hB16.trans (hOz.2.2 _ (by omega))) | (fail))
      exact row_retv rfl rfl Vz Try.underlying36 sizeCh rfl ⟨_, _, _, _, rfl, (o3.off hOz (by omega)).wide (by omega), hBz⟩
    | true =>
      simp only [if_true, eq_self]
      have hk : s.size ≤ 1048576 := by have := (nameB_size hnm).2; omega
      have hRR : sk.addedR S D s = sk.plusR S D s := by unfold sk.addedR sk.plusR; rw [if_pos hsk]
      have hNN : sk.addedN S D = sk.plusN D := by unfold sk.addedN sk.plusN; rw [if_pos hsk]
      obtain ⟨S2, hS2⟩ := hid_ex (sk.plusR S D s)
      obtain ⟨D2, hD2⟩ := hid_ex (sk.plusN D)
      have kA := fun v w hi hh hv => sk.implAdded_any S D s hk v w hi hh hv
      rw [hRR, hNN, hS2.out, hD2.out] at kA
      rw [hS2.out, hD2.out]
      have KA : Hid _ := kA
      have kU := fun vN vU w (h : RdR w vN vU ⟨N, U, A⟩) => usedOrJoined_any ⟨N, U, A⟩ (ringB_iff.2 hr) s hs vN vU w h
      have hTQ : Hid (toR Q s = tqR Q s) := (tq_is hq).2.symm
      clear kA hRR hNN hsk hr hq
      rcases hway with ⟨k1, -⟩ | ⟨k2, -⟩
      · rw [if_neg (by omega : ¬ K = 2)]
        dsimp only
        obtain ⟨⟨N2, U2, A2⟩, hT⟩ := hid_ex (ringSee ⟨N, U, A⟩ s)
        rw [hT.out] at kU ⊢
        have KU : Hid _ := kU
        have u1 : (K == 1) = true := by rw [k1]; rfl
        clear kU k1 hk
        go_enter Try.func24, Try.ntmps24
        go_upto_region 4 with (first | (clear m1; refine wpList_box_v rfl 36 _ rfl [.int .i64 K, .slice aN N.length cN, .slice aU U.length cU, .int .i64 A, .slice aQ Q.length cQ, .slice aS S.length cS, .int .i64 D] rfl ?_; intro b1 w1 hb1 hw1 hB1 V1; obtain ⟨c0, c1, c2, c3, c4, c5, c6⟩ := cells7c V1; have hz1 := hB1.size) | (clear m2; refine wpList_alloc_v rfl 36 rfl _ zeroCh ?_; intro b4 w2 hb4 hw4 hB2 V4; replace V1 := vblk_grow V1 hB2; clear c0 c1 c2 c3 c4 c5 c6; obtain ⟨c0, c1, c2, c3, c4, c5, c6⟩ := cells7c V1; have hB12 := hB1.trans (hB2.mono hz1); have hz2 := hB12.size) | (go_at_call 71; refine (implChoiceOf_any ⟨K, ⟨N, U, A⟩, Q, S, D⟩ _ _ _ _ _ (R.out.grow hB12)).mono ?_; rintro e w3 hP; unfold PostC at hP; rw [hc2.out, hy.out] at hP; obtain ⟨vN3, vU3, vQ3, vS3, rfl, o3, hB3⟩ := hP; dsimp only; obtain ⟨⟨aN3, nN3, kN3, rfl⟩, ⟨aU3, nU3, kU3, rfl⟩, ⟨aQ3, nQ3, kQ3, rfl⟩, ⟨aS3, nS3, kS3, rfl⟩⟩ := o3.forms; replace V4 := vblk_grow V4 hB3; have hB13 := hB12.trans (hB3.mono hz2); have hz3 := hB13.size; have hz23 := hB3.size) | (clear m3; refine wpList_alloc_v rfl 36 rfl _ zeroCh ?_; intro b5 w5 hb5 hw5 hB5 V5; replace V4 := vblk_grow V4 hB5; replace o3 := o3.grow hB5; have hB15 := hB13.trans (hB5.mono hz3); have hz5 := hB15.size; have hz35 := hB5.size) | (clear m4; refine wpList_store_v rfl 36 _ _ rfl b5 [.int .i64 K, .slice aN3 nN3 kN3, .slice aU3 nU3 kU3, .int .i64 A, .slice aQ3 nQ3 kQ3, .slice aS3 nS3 kS3, .int .i64 D] rfl rfl sizeCh V5 rfl (by simp [Value.oneCell']) ?_; intro w6 hO6 V6; replace V4 := vblk_only V4 hO6 (by omega); replace o3 := o3.off hO6 (by omega); have hB16 := hB15.trans (hO6.2.2 _ (by omega)); have hz6 := hB16.size; have hz56 := Nat.le_of_eq hO6.1.symm; have hy56 := Nat.le_of_eq hO6.1; obtain ⟨d0, d1, d2, d3, d4, d5, d6⟩ := cells7c V6) | (go_at_call 82; refine (implNameOk_any _ hs _).mono ?_; rintro e wq ⟨rfl, hq⟩; subst wq; rw [hnm]) | (fail))
        obtain ⟨⟨l1, h1, l2, h2, l3, h3, oR, oQ, oS, ⟨e1, e2, e3, e4, e5, e6⟩, e7, e8, e9⟩, sz⟩ := o3
        try dsimp only at oR oQ oS
        go_wp2_with (first | (go_at_call 83; refine (KA.out _ _ _ (Nat.le_refl _) (oS.rd.wide (Nat.zero_le _) (sk_hi oS))).mono ?_; rintro e w7 ⟨v7, rfl, oS7, hB7⟩; obtain ⟨aS7, nS7, kS7, rfl⟩ := sk.Own.form oS7; replace V4 := vblk_grow V4 hB7; replace V6 := vblk_grow V6 hB7; replace oR := oR.grow hB7; replace oQ := oQ.grow hB7; have hB17 := hB16.trans (hB7.mono hz6); have hz7 := hB17.size; have hz67 := hB7.size; clear d0 d1 d2 d3 d4 d5 d6; obtain ⟨d0, d1, d2, d3, d4, d5, d6⟩ := cells7c V6) | (refine wpList_store_sub rfl 34 _ _ rfl b5 5 [.slice aS7 nS7 kS7, .int .i64 D2] rfl rfl sk.size27 V6 (by simp) rfl (by simp [Value.oneCell']) ?_; intro w8 hO8 V8x; have V8 : VBlk w8 b5 36 [.int .i64 K, .slice aN3 nN3 kN3, .slice aU3 nU3 kU3, .int .i64 A, .slice aQ3 nQ3 kQ3, .slice aS7 nS7 kS7, .int .i64 D2] := V8x; clear V8x; clear d0 d1 d2 d3 d4 d5 d6; obtain ⟨d0, d1, d2, d3, d4, d5, d6⟩ := cells7c V8; replace V4 := vblk_only V4 hO8 (by omega); replace oR := oR.only hO8 V6 (by decide) (by decide); replace oQ := oQ.only hO8 V6 (by decide); replace oS7 := sk.Own.keep oS7 (fun k x y => hO8.2.1 k (by omega)) (Nat.le_of_eq hO8.1.symm); have hB18 := hB17.trans (hO8.2.2 _ (by omega)); have hz8 := hB18.size; have hz78 := Nat.le_of_eq hO8.1.symm; have hy78 := Nat.le_of_eq hO8.1) | (go_at_call 84; refine (KU.out _ _ _ (oR.rd R.out.r.s)).mono ?_; rintro e w9 ⟨vN9, vU9, rfl, oR9, hB9⟩; obtain ⟨aN9, nN9, kN9, rfl⟩ := oR9.n.slice; obtain ⟨aU9, nU9, kU9, rfl⟩ := oR9.u.slice; replace V4 := vblk_grow V4 hB9; replace V8 := vblk_grow V8 hB9; replace oQ := oQ.grow hB9; replace oS7 := ownS_grow oS7 hB9; have hB19 := hB18.trans (hB9.mono hz8); have hz9 := hB19.size; have hz89 := hB9.size) | (refine wpList_store_sub rfl 33 _ _ rfl b5 1 [.slice aN9 nN9 kN9, .slice aU9 nU9 kU9, .int .i64 A2] rfl rfl sizeRg V8 (by simp) rfl (by simp [Value.oneCell']) ?_; intro w10 hO10 V10x; have V10 : VBlk w10 b5 36 [.int .i64 K, .slice aN9 nN9 kN9, .slice aU9 nU9 kU9, .int .i64 A2, .slice aQ3 nQ3 kQ3, .slice aS7 nS7 kS7, .int .i64 D2] := V10x; clear V10x; clear d0 d1 d2 d3 d4 d5 d6; obtain ⟨d0, d1, d2, d3, d4, d5, d6⟩ := cells7c V10; replace V4 := vblk_only V4 hO10 (by omega); replace oR9 := oR9.only hO10 V8 (by decide) (by decide); replace oQ := oQ.only hO10 V8 (by decide); replace oS7 := sk.Own.keep oS7 (fun k x y => hO10.2.1 k (by omega)) (Nat.le_of_eq hO10.1.symm); have hB110 := hB19.trans (hO10.2.2 _ (by omega)); have hz910 := Nat.le_of_eq hO10.1.symm; have hy910 := Nat.le_of_eq hO10.1) | (refine wpList_store_v rfl 36 _ _ rfl b4 [.int .i64 K, .slice aN9 nN9 kN9, .slice aU9 nU9 kU9, .int .i64 A2, .slice aQ3 nQ3 kQ3, .slice aS7 nS7 kS7, .int .i64 D2] rfl rfl sizeCh V4 rfl (by simp [Value.oneCell']) ?_; intro wz hOz Vz; have hBz := hB110.trans (hOz.2.2 _ (by omega))) | (fail))
        have zz := Nat.le_of_eq hOz.1.symm
        exact row_retv rfl rfl Vz Try.underlying36 sizeCh rfl ⟨_, _, _, _, rfl, ⟨⟨_, _, l2, h2, _, _, oR9.only hOz V4 (by decide) (by decide), oQ.only hOz V4 (by decide), sk.Own.keep oS7 (fun k x y => hOz.2.1 k (by omega)) zz, ⟨by omega, by omega, by omega, by omega, by omega, by omega⟩, by omega, by omega, by omega⟩, Nat.le_refl _⟩, hBz⟩
      · rw [if_pos k2]
        dsimp only
        have u1 : (K == 1) = false := by rw [k2]; rfl
        clear kU k2 hk
        go_enter Try.func24, Try.ntmps24
        go_upto_region 4 with (first | (clear m1; refine wpList_box_v rfl 36 _ rfl [.int .i64 K, .slice aN N.length cN, .slice aU U.length cU, .int .i64 A, .slice aQ Q.length cQ, .slice aS S.length cS, .int .i64 D] rfl ?_; intro b1 w1 hb1 hw1 hB1 V1; obtain ⟨c0, c1, c2, c3, c4, c5, c6⟩ := cells7c V1; have hz1 := hB1.size) | (clear m2; refine wpList_alloc_v rfl 36 rfl _ zeroCh ?_; intro b4 w2 hb4 hw4 hB2 V4; replace V1 := vblk_grow V1 hB2; clear c0 c1 c2 c3 c4 c5 c6; obtain ⟨c0, c1, c2, c3, c4, c5, c6⟩ := cells7c V1; have hB12 := hB1.trans (hB2.mono hz1); have hz2 := hB12.size) | (go_at_call 71; refine (implChoiceOf_any ⟨K, ⟨N, U, A⟩, Q, S, D⟩ _ _ _ _ _ (R.out.grow hB12)).mono ?_; rintro e w3 hP; unfold PostC at hP; rw [hc2.out, hy.out] at hP; obtain ⟨vN3, vU3, vQ3, vS3, rfl, o3, hB3⟩ := hP; dsimp only; obtain ⟨⟨aN3, nN3, kN3, rfl⟩, ⟨aU3, nU3, kU3, rfl⟩, ⟨aQ3, nQ3, kQ3, rfl⟩, ⟨aS3, nS3, kS3, rfl⟩⟩ := o3.forms; replace V4 := vblk_grow V4 hB3; have hB13 := hB12.trans (hB3.mono hz2); have hz3 := hB13.size; have hz23 := hB3.size) | (clear m3; refine wpList_alloc_v rfl 36 rfl _ zeroCh ?_; intro b5 w5 hb5 hw5 hB5 V5; replace V4 := vblk_grow V4 hB5; replace o3 := o3.grow hB5; have hB15 := hB13.trans (hB5.mono hz3); have hz5 := hB15.size; have hz35 := hB5.size) | (clear m4; refine wpList_store_v rfl 36 _ _ rfl b5 [.int .i64 K, .slice aN3 nN3 kN3, .slice aU3 nU3 kU3, .int .i64 A, .slice aQ3 nQ3 kQ3, .slice aS3 nS3 kS3, .int .i64 D] rfl rfl sizeCh V5 rfl (by simp [Value.oneCell']) ?_; intro w6 hO6 V6; replace V4 := vblk_only V4 hO6 (by omega); replace o3 := o3.off hO6 (by omega); have hB16 := hB15.trans (hO6.2.2 _ (by omega)); have hz6 := hB16.size; have hz56 := Nat.le_of_eq hO6.1.symm; have hy56 := Nat.le_of_eq hO6.1; obtain ⟨d0, d1, d2, d3, d4, d5, d6⟩ := cells7c V6) | (go_at_call 82; refine (implNameOk_any _ hs _).mono ?_; rintro e wq ⟨rfl, hq⟩; subst wq; rw [hnm]) | (fail))
        obtain ⟨⟨l1, h1, l2, h2, l3, h3, oR, oQ, oS, ⟨e1, e2, e3, e4, e5, e6⟩, e7, e8, e9⟩, sz⟩ := o3
        try dsimp only at oR oQ oS
        go_wp2_with (first | (go_at_call 83; refine (KA.out _ _ _ (Nat.le_refl _) (oS.rd.wide (Nat.zero_le _) (sk_hi oS))).mono ?_; rintro e w7 ⟨v7, rfl, oS7, hB7⟩; obtain ⟨aS7, nS7, kS7, rfl⟩ := sk.Own.form oS7; replace V4 := vblk_grow V4 hB7; replace V6 := vblk_grow V6 hB7; replace oR := oR.grow hB7; replace oQ := oQ.grow hB7; have hB17 := hB16.trans (hB7.mono hz6); have hz7 := hB17.size; have hz67 := hB7.size; clear d0 d1 d2 d3 d4 d5 d6; obtain ⟨d0, d1, d2, d3, d4, d5, d6⟩ := cells7c V6) | (refine wpList_store_sub rfl 34 _ _ rfl b5 5 [.slice aS7 nS7 kS7, .int .i64 D2] rfl rfl sk.size27 V6 (by simp) rfl (by simp [Value.oneCell']) ?_; intro w8 hO8 V8x; have V8 : VBlk w8 b5 36 [.int .i64 K, .slice aN3 nN3 kN3, .slice aU3 nU3 kU3, .int .i64 A, .slice aQ3 nQ3 kQ3, .slice aS7 nS7 kS7, .int .i64 D2] := V8x; clear V8x; clear d0 d1 d2 d3 d4 d5 d6; obtain ⟨d0, d1, d2, d3, d4, d5, d6⟩ := cells7c V8; replace V4 := vblk_only V4 hO8 (by omega); replace oR := oR.only hO8 V6 (by decide) (by decide); replace oQ := oQ.only hO8 V6 (by decide); replace oS7 := sk.Own.keep oS7 (fun k x y => hO8.2.1 k (by omega)) (Nat.le_of_eq hO8.1.symm); have hB18 := hB17.trans (hO8.2.2 _ (by omega)); have hz8 := hB18.size; have hz78 := Nat.le_of_eq hO8.1.symm; have hy78 := Nat.le_of_eq hO8.1) | (go_at_call 85; refine (implTouched_any Q s hs _ _ oQ.rd R.out.qs).mono ?_; rintro e w9 ⟨vQ9, rfl, oQ9, hB9⟩; rw [hTQ.out] at oQ9; obtain ⟨aQ9, nQ9, kQ9, rfl⟩ := oQ9.slice; replace V4 := vblk_grow V4 hB9; replace V8 := vblk_grow V8 hB9; replace oR := oR.grow hB9; replace oS7 := ownS_grow oS7 hB9; have hB19 := hB18.trans (hB9.mono hz8); have hz9 := hB19.size; have hz89 := hB9.size; clear d0 d1 d2 d3 d4 d5 d6; obtain ⟨d0, d1, d2, d3, d4, d5, d6⟩ := cells7c V8) | (refine wpList_store_cc rfl 22 _ _ rfl b5 4 (.slice aQ9 nQ9 kQ9) rfl rfl rfl szSl V8 (by simp) ?_; intro w10 hO10 V10x; have V10 : VBlk w10 b5 36 [.int .i64 K, .slice aN3 nN3 kN3, .slice aU3 nU3 kU3, .int .i64 A, .slice aQ9 nQ9 kQ9, .slice aS7 nS7 kS7, .int .i64 D2] := V10x; clear V10x; clear d0 d1 d2 d3 d4 d5 d6; obtain ⟨d0, d1, d2, d3, d4, d5, d6⟩ := cells7c V10; replace V4 := vblk_only V4 hO10 (by omega); replace oR := oR.only hO10 V8 (by decide) (by decide); replace oQ9 := oQ9.only hO10 V8 (by decide); replace oS7 := sk.Own.keep oS7 (fun k x y => hO10.2.1 k (by omega)) (Nat.le_of_eq hO10.1.symm); have hB110 := hB19.trans (hO10.2.2 _ (by omega)); have hz910 := Nat.le_of_eq hO10.1.symm; have hy910 := Nat.le_of_eq hO10.1) | (refine wpList_store_v rfl 36 _ _ rfl b4 [.int .i64 K, .slice aN3 nN3 kN3, .slice aU3 nU3 kU3, .int .i64 A, .slice aQ9 nQ9 kQ9, .slice aS7 nS7 kS7, .int .i64 D2] rfl rfl sizeCh V4 rfl (by simp [Value.oneCell']) ?_; intro wz hOz Vz; have hBz := hB110.trans (hOz.2.2 _ (by omega))) | (fail))
        have zz := Nat.le_of_eq hOz.1.symm
        exact row_retv rfl rfl Vz Try.underlying36 sizeCh rfl ⟨_, _, _, _, rfl, ⟨⟨l1, h1, _, _, _, _, oR.only hOz V4 (by decide) (by decide), oQ9.only hOz V4 (by decide), sk.Own.keep oS7 (fun k x y => hOz.2.1 k (by omega)) zz, ⟨by omega, by omega, by omega, by omega, by omega, by omega⟩, by omega, by omega, by omega⟩, Nat.le_refl _⟩, hBz⟩
end Go.Proofs.Ytapchjkiiifhdaa.rg
/- Mathematics: what Sees tells is modest. -/
namespace Go.Proofs.Ytapchjkiiifhdaa.rg
open Go.ChangeShapes Go.WideShapes Go.ChangeAt Go.RowKit
open Go.Proofs.Ytapchjkiiifhdaa.ce Go.Proofs.Ytapchjkiiifhdaa.ro
set_option linter.unusedVariables false
theorem OwnL.below {w w' : World} {lo hi B : Nat} {vN vU vQ vS : Value} {c : Ch} (h : OwnL w lo hi vN vU vQ vS c) (hb : Below B w w') (hB : hi ≤ B) : OwnL w' lo hi vN vU vQ vS c := h.keep (fun k _ y => hb.block k (by omega)) hb.size
theorem plusR_four {R : List (List Int)} (h : sk.Four R) (D : Int) (s : ByteArray) : sk.Four (sk.plusR R D s) := by
  unfold sk.plusR
  split
  · exact sk.halfR_four (sk.addR_four h)
  · exact sk.addR_four h
theorem seX_mod (c : Ch) (s : ByteArray) : Mod (seX c s) ∧ (∀ x ∈ (seX c s).R.N, x.size ≤ 9223372036854775807) ∧ ∀ x ∈ (seX c s).Q, x.size ≤ 9223372036854775807 := by
  unfold seX
  cases h : chB c with
  | false => exact ⟨⟨Nat.zero_le _, Nat.zero_le _, Nat.zero_le _, ⟨Nat.zero_le _, fun xs hx => by cases hx⟩⟩, fun x hx => (by cases hx), fun x hx => (by cases hx)⟩
  | true =>
    rw [if_pos rfl]
    obtain ⟨hsk, hr, hq, hway⟩ := chB_parts h
    have hok := seeH_ok (c := ⟨c.K, c.R, c.Q⟩) ⟨hr, hq, hway⟩ s
    have r1 := hok.r.le
    have r2 := hok.r.us
    have q1 := hok.q.2.2
    have hS : sk.Four (if nameB s = true then sk.plusR c.S c.D s else c.S) := by
      split
      · exact plusR_four hsk.four _ _
      · exact hsk.four
    refine ⟨⟨?_, ?_, ?_, hS.modest⟩, fun x hx => ?_, fun x hx => ?_⟩
    · show (seeH ⟨c.K, c.R, c.Q⟩ s).R.N.length ≤ _; omega
    · show (seeH ⟨c.K, c.R, c.Q⟩ s).R.U.length ≤ _; omega
    · show (seeH ⟨c.K, c.R, c.Q⟩ s).Q.length ≤ _; omega
    · have := nameB_size (hok.r.nm x hx); omega
    · have := nameB_size (hok.q.1 x hx); omega
end Go.Proofs.Ytapchjkiiifhdaa.rg
