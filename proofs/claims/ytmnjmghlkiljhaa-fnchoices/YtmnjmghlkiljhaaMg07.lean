/- Texts laid together: Cq5 Cqc Cqd Cqe Ro8 Rp1. -/
import Derived.Test.YtmnjmghlkiljhaaCq1
import Derived.Test.YtmnjmghlkiljhaaRo7
import Derived.Test.YtmnjmghlkiljhaaMg01
import Derived.Test.YtmnjmghlkiljhaaMg02
import Derived.Deep.DeepCutAuto
import Derived.Deep.LoopGhost
import Derived.Deep.RegionHeld3
/- Contracts: the model's rings inside a choice: the hand's turn, and what it leaves. -/
namespace Go.Proofs.Ytmnjmghlkiljhaa.rg
open Go.ChangeShapes Go.WideShapes Go.ChangeAt Go.RowKit
open Go.Proofs.Ytmnjmghlkiljhaa.ce Go.Proofs.Ytmnjmghlkiljhaa.ro
set_option linter.unusedVariables false
set_option linter.unusedSimpArgs false

/-- of the blocks that were there only those from lo up to hi, and b, may be turned -/
structure Tw (lo hi b : Nat) (w w' : World) : Prop where
  os : w'.os = w.os
  tape : w'.tape = w.tape
  output : w'.output = w.output
  size : w.heap.size ≤ w'.heap.size
  keep : ∀ k, k < w.heap.size → k ≠ b → (k < lo ∨ hi ≤ k) → w'.heap[k]? = w.heap[k]?
theorem Tw.refl (lo hi b : Nat) (w : World) : Tw lo hi b w w := ⟨rfl, rfl, rfl, Nat.le_refl _, fun _ _ _ _ => rfl⟩
theorem Tw.trans {lo hi b : Nat} {x y z : World} (h : Tw lo hi b x y) (k : Tw lo hi b y z) : Tw lo hi b x z :=
  ⟨k.os.trans h.os, k.tape.trans h.tape, k.output.trans h.output, Nat.le_trans h.size k.size, fun j h1 h2 h3 => (k.keep j (Nat.lt_of_lt_of_le h1 h.size) h2 h3).trans (h.keep j h1 h2 h3)⟩
theorem Tw.of_below {lo hi b : Nat} {w w' : World} (h : Below w.heap.size w w') : Tw lo hi b w w' := ⟨h.os, h.tape, h.output, h.size, fun k h1 _ _ => h.block k h1⟩
theorem Tw.of_only {lo hi b : Nat} {w w' : World} (h : Only b w w') : Tw lo hi b w w' := by
  have h0 := h.2.2 0 (Nat.zero_le _)
  exact ⟨h0.os, h0.tape, h0.output, h0.size, fun k _ h2 _ => h.2.1 k h2⟩
theorem Tw.of_in {lo hi b g : Nat} {w w' : World} (h : Only g w w') (h1 : lo ≤ g) (h2 : g < hi) : Tw lo hi b w w' := by
  have h0 := h.2.2 0 (Nat.zero_le _)
  exact ⟨h0.os, h0.tape, h0.output, h0.size, fun k _ _ h3 => h.2.1 k (by omega)⟩
theorem Tw.below {lo hi b B : Nat} {w w' : World} (h : Tw lo hi b w w') (h1 : B ≤ lo) (h2 : B ≤ b) (h3 : B ≤ w.heap.size) : Below B w w' := ⟨h.os, h.tape, h.output, h.size, fun k hk => h.keep k (by omega) (by omega) (by omega)⟩
/-- while the hand goes on: the ring in its variable -/
structure TuW (y0 y4 y5 y6 : Value) (lo hi b : Nat) (w wr : World) (vN vU : Value) (N : List ByteArray) (U : List Bool) (a : Nat) : Prop where
  n : Own encS wr lo hi vN N
  u : Own encB wr lo hi vU U
  v : VBlk wr b 32 [y0, vN, vU, .int .i64 a, y4, y5, y6]
  t : Tw lo hi b w wr
theorem TuW.drewN {y0 y4 y5 y6 : Value} {lo hi b : Nat} {w wr : World} {vN vU : Value} {N : List ByteArray} {U : List Bool} {a : Nat} (h : TuW y0 y4 y5 y6 lo hi b w wr vN vU N U a) (hl : lo ≤ w.heap.size) (k : Nat) : TuW y0 y4 y5 y6 lo hi b w (wr.drewN k) vN vU N U a :=
  ⟨h.n.grow (below_drewN _ _), h.u.grow (below_drewN _ _), vblk_grow h.v (below_drewN _ _), h.t.trans (Tw.of_below (below_drewN _ _))⟩
theorem TuW.step {y0 y4 y5 y6 : Value} {lo hi b g m dc : Nat} {w wq : World} {vN : Value} {N : List ByteArray} {U : List Bool} {a a2 : Nat} {z : Int} (h : TuW y0 y4 y5 y6 lo hi b w wq vN (.slice (some ⟨g, 0, none⟩) m dc) N U a) (ha : a < U.length) (hz : z = a2) :
    TuW y0 y4 y5 y6 lo hi b w ((wq.setCell ⟨g, a, none⟩ (.bool false)).setCell ⟨b, 3, none⟩ (.int .i64 z)).drew vN (.slice (some ⟨g, 0, none⟩) m dc) N (U.set a false) a2 := by
  subst hz
  have hT : Ty lo 4 wq (wq.setCell ⟨g, a, none⟩ (.bool false)) := by
    obtain ⟨g', e', hg, -, -⟩ := ownB_cell h.u a ha
    cases e'
    rcases h.u.row with ⟨rfl, -⟩ | ⟨g2, cap2, cur, e2, -, hb, -⟩
    · simp at ha
    · cases e2
      exact ⟨(only_set wq g a _).2.2 _ hg.1, fun k cur' t' f hk hn => (only_set wq g a _).2.1 k fun e => by
        rw [e, hb] at hk
        simp at hk
        exact hn hk.2.1.symm⟩
  have hV := hT.vblk h.v (by decide)
  have hO := only_set (wq.setCell ⟨g, a, none⟩ (.bool false)) b 3 (.int .i64 (a2 : Int))
  have hd : Below ((wq.setCell ⟨g, a, none⟩ (.bool false)).setCell ⟨b, 3, none⟩ (.int .i64 (a2 : Int))).heap.size ((wq.setCell ⟨g, a, none⟩ (.bool false)).setCell ⟨b, 3, none⟩ (.int .i64 (a2 : Int))) ((wq.setCell ⟨g, a, none⟩ (.bool false)).setCell ⟨b, 3, none⟩ (.int .i64 (a2 : Int))).drew := (Below.refl _ _).drew
  have hgg : lo ≤ g ∧ g < hi := by
    obtain ⟨g', e', hg, -, -⟩ := ownB_cell h.u a ha
    cases e'
    exact ⟨hg.1, hg.2⟩
  have ht := (h.t.trans (Tw.of_in (only_set wq g a _) hgg.1 hgg.2)).trans (Tw.of_only hO)
  exact ⟨((hT.own h.n (by decide)).only hO hV (by decide)).grow hd, ((ownB_set h.u a ha false).only hO hV (by decide)).grow hd, vblk_grow (hV.set 3 (.int .i64 (a2 : Int))) hd, ⟨ht.os, ht.tape, ht.output, ht.size, ht.keep⟩⟩

end Go.Proofs.Ytmnjmghlkiljhaa.rg
/- Contracts: the model's sketch inside a choice: who is added. -/
namespace Go.Proofs.Ytmnjmghlkiljhaa.rg
open Go.ChangeShapes Go.WideShapes Go.ChangeAt Go.RowKit
open Go.Proofs.Ytmnjmghlkiljhaa.ce Go.Proofs.Ytmnjmghlkiljhaa.ro
theorem Tw.cell {lo hi b g : Nat} {w x : World} (h : Tw lo hi b w x) (h1 : lo ≤ g) (h2 : g < hi) (u : Value) (j : Nat) : Tw lo hi b w (x.setCell ⟨g, j, none⟩ u) := h.trans (Tw.of_in (only_set x g j u) h1 h2)
theorem Tw.put {lo hi b : Nat} {w x : World} (h : Tw lo hi b w x) (j : Nat) (u : Value) : Tw lo hi b w (x.setCell ⟨b, j, none⟩ u) := h.trans (Tw.of_only (only_set x b j u))
theorem Tw.drew {lo hi b : Nat} {w x : World} (h : Tw lo hi b w x) : Tw lo hi b w x.drew := h.trans (Tw.of_below (Below.refl _ _).drew)
end Go.Proofs.Ytmnjmghlkiljhaa.rg
namespace Go.Proofs.Ytmnjmghlkiljhaa.sk
open Go.ChangeShapes Go.WideShapes Go.ChangeAt Go.RowKit
set_option linter.unusedVariables false
set_option linter.unusedSimpArgs false

set_option maxRecDepth 100000 in
set_option maxHeartbeats 4000000 in
theorem l2AddC_any (y0 y1 y2 y3 y4 : Value) (R : List (List Int)) (hR4 : Four R) (hsm : Small R) (adds : Int) (had : 0 ≤ adds ∧ adds ≤ 159) (key : ByteArray) (hk : key.size ≤ 1048576) (w : World) (L lo hi ps bo : Nat) (B C : Nat → Nat) (cap : Nat)
    (hps : VBlk w ps 32 [y0, y1, y2, y3, y4, .slice (some ⟨bo, 0, none⟩) 4 cap, .int .i64 adds]) (hown : OwnAt w lo hi bo B C R) (hL : L ≤ ps) (hLlo : L ≤ lo) (hpn : ps < lo ∨ hi ≤ ps) :
    Calls Try.prog 108 #[.pointer (some ⟨ps, 5, none⟩), .string key] w fun e w' => ∃ v, e = .returned v ∧ VBlk w' ps 32 [y0, y1, y2, y3, y4, .slice (some ⟨bo, 0, none⟩) 4 cap, .int .i64 (plusN adds)] ∧ OwnAt w' lo hi bo B C (plusR R adds key) ∧ rg.Tw lo hi ps w w' := by
  obtain ⟨T, hT⟩ : ∃ T, Hid (T = addR key R) := ⟨_, rfl⟩
  have hT4 : Four T := by rw [hT.out]; exact addR_four hR4
  have hTs : Small T := by rw [hT.out]; exact addR_small key R
  have hbo := hown.1 (by intro e; have := hR4.1; rw [e] at this; simp at this)
  have hbnd := hown.2.1
  have npb : ps ≠ bo := by omega
  have hps0 := hps
  have hOwn0 : Hid (OwnAt w lo hi bo B C R) := hown
  clear hown hps
  have lps := hps0.lt
  go_enter Try.func108, Try.ntmps108
  go_wp2
  go_loopw [4] (fun v' wr => ∃ i : Nat, i ≤ 4 ∧ v' = .int .i64 i ∧ VBlk wr ps 32 [y0, y1, y2, y3, y4, .slice (some ⟨bo, 0, none⟩) 4 cap, .int .i64 adds] ∧ Hid (OwnAt wr lo hi bo B C (mix T R i)) ∧ w.heap.size ≤ wr.heap.size ∧ rg.Tw lo hi ps w wr) (fun v' _ => 4 - (intOf v').toNat)
  case atStart => exact ⟨0, by omega, rfl, hps0, by rw [mix_zero]; exact hOwn0, Nat.le_refl _, rg.Tw.refl _ _ _ _⟩
  case round =>
    obtain ⟨i, hi4, rfl, hvp, hown, hsz, hBr⟩ := hrel
    by_cases hlt : i < 4
    · have hiR : i < R.length := by rw [hR4.1]; exact hlt
      have hiT : i < T.length := by rw [hT4.1]; exact hlt
      have hTR : T.length = R.length := by rw [hT4.1, hR4.1]
      have hTR' : Hid (T.length = R.length) := hTR
      obtain ⟨xs, hxs⟩ : ∃ xs, R[i] = xs := ⟨_, rfl⟩
      have hx16 : xs.length = 16 := by rw [← hxs]; exact hR4.2 _ (List.getElem_mem hiR)
      have hxb : Hid (∀ x ∈ xs, 0 ≤ x ∧ x ≤ 15) := by unfold Hid; rw [← hxs]; exact hsm _ (List.getElem_mem hiR)
      have him : i < (mix T R i).length := by rw [mix_len T R i hTR]; exact hiR
      have hmi : Hid ((mix T R i)[i] = xs) := by unfold Hid; rw [mix_get T R i hTR hiR, hxs]
      clear hTR
      have hpb := place.placeOf_bd key i
      obtain ⟨p, hp⟩ : ∃ p : Nat, place.placeOf key i = p := ⟨(place.placeOf key i).toNat, by omega⟩
      have hp16 : p < 16 := by omega
      have hpi : (p : Int) < 16 := by omega
      have hP : Hid (place.placeOf key i = p) := hp
      clear hp hpb
      obtain ⟨z, hz⟩ : ∃ z, xs[p]'(by omega) = z := ⟨_, rfl⟩
      have hzb : 0 ≤ z ∧ z ≤ 15 := by rw [← hz]; exact hxb.out _ (List.getElem_mem _)
      have eT : Hid (T[i] = xs.set p (min 15 (z + 1))) := by
        have h1 : T[i] = raise R[i] (place.placeOf key i).toNat := by have := hT.out; subst this; simp [addR]
        rw [hxs, hP.out, Int.toNat_natCast, raise_eq xs p (by omega) hxb.out, hz] at h1
        exact h1
      have hZ : Hid (xs[p]'(by omega) = z) := hz
      have HX : Hid (R[i] = xs) := hxs
      clear hz hxs
      obtain ⟨y, hy⟩ : ∃ y, Hid (y = min 15 (z + 1)) := ⟨_, rfl⟩
      have hilt : (i : Int) < 4 := by omega
      go_wp2_with (first | (go_at_call 135; refine (place.spec_in key i (by omega) (by omega) hk _).mono ?_; rintro e w5 ⟨he, hO5⟩; rw [hP.out] at he; subst he; have hB5 := hO5.below; have hs5 := hB5.size; have hv5 := hvp.below hB5 hvp.lt; have hown5 : Hid (OwnAt w5 lo hi bo B C (mix T R i)) := hown.out.keep (Same.of_below hB5 (by omega)) hs5; obtain ⟨r1, r2, r3, r4, r5⟩ := hown5.out.row i him xs hmi.out; have hcz := r5.cell p (by omega); have hfz := r5.frozen p (by omega); rw [hZ.out] at hcz; rw [hx16] at r1; have hc0 := hv5.cell 5 (by simp); simp only [List.getElem_cons_zero, List.getElem_cons_succ] at hc0; have R5 : Hid (Row w5 (B i) xs) := r5; clear r5))
      have hBi : B i ≠ ps := by omega
      have hs1 : ∀ u, (w5.drew.setCell ⟨B i, p, none⟩ u).cell? ⟨ps, 5, none⟩ = some (.slice (some ⟨bo, 0, none⟩) 4 cap) := fun u => by
        rw [World.cell?_of_block (w := w5.drew) (heap_setCell_other _ _ _ _ (fun e => hBi e.symm))]; exact hc0
      have hs2 : ∀ u, (w5.drew.setCell ⟨B i, p, none⟩ u).cell? ⟨bo, i, none⟩ = some (.slice (some ⟨B i, 0, none⟩) 16 (C i)) := fun u => by
        rw [World.cell?_of_block (w := w5.drew) (heap_setCell_other _ _ _ _ (fun e => r4 e.symm))]; exact r1
      go_region_law (first | (go_simp; go_at_call 136; refine (min_any _ _ _).mono ?_; rintro e wq ⟨he, hq⟩; subst wq; rw [wrapI (z + 1) (by omega) (by omega), ← hy.out] at he; subst he; dsimp only) | (fail))
      all_goals
        go_wp2
        go_roundw
        case rel =>
          have o1 : OwnAt (w5.setCell ⟨B i, p, none⟩ (.int .i64 y)) lo hi bo B C ((mix T R i).set i (((mix T R i)[i]).set p y)) := hown5.out.set i him p (by rw [hmi.out]; omega) y
          rw [hmi.out, hy.out, ← eT.out, mix_set T R i hTR'.out hiT] at o1
          refine ⟨i + 1, by omega, by go_num, VBlk.of (w' := (w5.setCell ⟨B i, p, none⟩ (.int .i64 y)).drew) hv5 (heap_setCell_other _ _ _ _ (fun e => hBi e.symm)), ?_, ?_, ?_⟩
          · rw [hy.out]; exact OwnAt.keep (w' := (w5.setCell ⟨B i, p, none⟩ (.int .i64 (min 15 (z + 1)))).drew) o1 (fun _ _ _ => rfl) (Nat.le_refl _)
          · simp; omega
          · exact (((hBr.trans (rg.Tw.of_below hB5)).cell (by omega) (by omega) _ _)).drew
        case measure => simp [intOf]; omega
    · have hmix : Hid (OwnAt wr lo hi bo B C T) := by unfold Hid; rw [← mix_all T R i (by rw [hT4.1]; omega) (by rw [hR4.1]; omega)]; exact hown.out
      clear hown
      have hc0 := hvp.cell 5 (by simp)
      have hc1 := hvp.cell 6 (by simp)
      have hf1 := hvp.frozen 6
      simp only [List.getElem_cons_zero, List.getElem_cons_succ] at hc0 hc1
      have hle := hmix.out.2.1
      by_cases h159 : adds = 159
      · have hN : Hid (plusN adds = 0) := by simp [Hid, plusN, h159]
        have hRR : Hid (plusR R adds key = halfR T) := by unfold Hid plusR; rw [if_pos h159, hT.out]
        subst h159
        obtain ⟨Hf, hHf⟩ : ∃ Hf, Hid (Hf = halfR T) := ⟨_, rfl⟩
        have hHf4 : Four Hf := by rw [hHf.out]; exact halfR_four hT4
        go_wp2
        obtain ⟨w6, HW6⟩ : ∃ w6, Hid (w6 = (wr.setCell ⟨ps, 6, none⟩ (.int .i64 160)).setCell ⟨ps, 6, none⟩ (.int .i64 0)) := ⟨_, rfl⟩
        have hk6 : ∀ k, k ≠ ps → w6.heap[k]? = wr.heap[k]? := fun k hk => by rw [HW6.out, heap_setCell_other _ _ _ _ hk, heap_setCell_other _ _ _ _ hk]
        have hz6 : w6.heap.size = wr.heap.size := by rw [HW6.out]; simp
        have hv6 : VBlk w6 ps 32 [y0, y1, y2, y3, y4, .slice (some ⟨bo, 0, none⟩) 4 cap, .int .i64 0] := by rw [HW6.out]; exact (hvp.set 6 (.int .i64 160)).set 6 (.int .i64 0)
        have hB6 : rg.Tw lo hi ps w w6 := by rw [HW6.out]; exact (hBr.put _ _).put _ _
        have ho6 : Hid (OwnAt w6 lo hi bo B C T) := hmix.out.keep (fun k h1 h2 => hk6 k (by omega)) (by omega)
        first | rw [← HW6.out] | skip
        go_loopw [6] (fun v' wr => ∃ i : Nat, i ≤ 4 ∧ v' = .int .i64 i ∧ VBlk wr ps 32 [y0, y1, y2, y3, y4, .slice (some ⟨bo, 0, none⟩) 4 cap, .int .i64 0] ∧ Hid (OwnAt wr lo hi bo B C (mix Hf T i)) ∧ w.heap.size ≤ wr.heap.size ∧ rg.Tw lo hi ps w wr) (fun v' _ => 4 - (intOf v').toNat)
        case atStart => exact ⟨0, by omega, rfl, hv6, by rw [mix_zero]; exact ho6, by omega, hB6⟩
        case round =>
          clear hB6 ho6 hv6 hk6 hz6 HW6
          obtain ⟨i, hi4, rfl, hvp6, hown, hsz6, hBr6⟩ := hrel
          by_cases hlt : i < 4
          · have hiT : i < T.length := by rw [hT4.1]; exact hlt
            have hiH : i < Hf.length := by rw [hHf4.1]; exact hlt
            have hHT : Hid (Hf.length = T.length) := by unfold Hid; rw [hT4.1, hHf4.1]
            obtain ⟨xs, hxs⟩ : ∃ xs, T[i] = xs := ⟨_, rfl⟩
            have hx16 : Hid (xs.length = 16) := by unfold Hid; rw [← hxs]; exact hT4.2 _ (List.getElem_mem hiT)
            have hxb : Hid (∀ x ∈ xs, 0 ≤ x ∧ x ≤ 15) := by unfold Hid; rw [← hxs]; exact hTs _ (List.getElem_mem hiT)
            have him : i < (mix Hf T i).length := by rw [mix_len Hf T i hHT.out]; exact hiT
            have hmi : Hid ((mix Hf T i)[i] = xs) := by unfold Hid; rw [mix_get Hf T i hHT.out hiT, hxs]
            have hHi : Hid (Hf[i] = xs.map half) := by unfold Hid; have := hHf.out; subst this; simp [halfR, hxs]
            clear hxs
            have hilt : (i : Int) < 4 := by omega
            go_wp2
            go_loopw [7] (fun v' wr => ∃ k : Nat, k ≤ 16 ∧ v' = .int .i64 k ∧ VBlk wr ps 32 [y0, y1, y2, y3, y4, .slice (some ⟨bo, 0, none⟩) 4 cap, .int .i64 0] ∧ Hid (OwnAt wr lo hi bo B C ((mix Hf T i).set i (upto half xs k))) ∧ w.heap.size ≤ wr.heap.size ∧ rg.Tw lo hi ps w wr) (fun v' _ => 16 - (intOf v').toNat)
            case atStart => exact ⟨0, by omega, rfl, hvp6, by rw [upto_zero, ← hmi.out, List.set_getElem_self]; exact hown, hsz6, hBr6⟩
            case round =>
              clear hvp6 hown hsz6 hBr6
              obtain ⟨k, hk16, rfl, hvk, hown, hszk, hBk⟩ := hrel
              by_cases hklt : k < 16
              · have hkx : k < xs.length := by rw [hx16.out]; exact hklt
                have him' : i < ((mix Hf T i).set i (upto half xs k)).length := by rw [List.length_set]; exact him
                have hgi : Hid (((mix Hf T i).set i (upto half xs k))[i] = upto half xs k) := by unfold Hid; rw [List.getElem_set_self]
                obtain ⟨r1, r2, r3, r4, r5⟩ := hown.out.row i him' _ hgi.out
                have hul : Hid ((upto half xs k).length = 16) := by unfold Hid; rw [upto_len, hx16.out]
                rw [hul.out] at r1
                obtain ⟨z, hz0⟩ : ∃ z, xs[k] = z := ⟨_, rfl⟩
                have hz : Hid (xs[k] = z) := hz0
                clear hz0
                have hzb : 0 ≤ z ∧ z ≤ 15 := by rw [← hz.out]; exact hxb.out _ (List.getElem_mem _)
                have hcz : wr.cell? ⟨B i, k, none⟩ = some (.int .i64 z) := by
                  rw [r5.cell k (by rw [hul.out]; exact hklt)]
                  congr 2
                  rw [← hz.out]
                  simp only [upto]
                  rw [List.getElem_append_right (by simp; omega)]
                  simp [show min k xs.length = k by omega]
                have hfz := r5.frozen k (by rw [hul.out]; exact hklt)
                have hc0 := hvk.cell 5 (by simp)
                simp only [List.getElem_cons_zero, List.getElem_cons_succ] at hc0
                have hBi : B i ≠ ps := by omega
                have hklt' : (k : Int) < 16 := by omega
                have hs1 : ∀ u, (wr.drew.setCell ⟨B i, k, none⟩ u).cell? ⟨ps, 5, none⟩ = some (.slice (some ⟨bo, 0, none⟩) 4 cap) := fun u => by
                  rw [World.cell?_of_block (w := wr.drew) (heap_setCell_other _ _ _ _ (fun e => hBi e.symm))]; exact hc0
                have hs2 : ∀ u, (wr.drew.setCell ⟨B i, k, none⟩ u).cell? ⟨bo, i, none⟩ = some (.slice (some ⟨B i, 0, none⟩) 16 (C i)) := fun u => by
                  rw [World.cell?_of_block (w := wr.drew) (heap_setCell_other _ _ _ _ (fun e => r4 e.symm))]; exact r1
                clear r5
                go_wp2
                go_region_law (fail)
                all_goals
                  go_wp2
                  go_roundw
                  case rel =>
                    have o1 := hown.out.set i him' k (by rw [hgi.out, hul.out]; exact hklt) (half z)
                    rw [hgi.out, List.set_set] at o1
                    have eu : (upto half xs k).set k (half z) = upto half xs (k + 1) := by
                      rw [← upto_step half xs k hkx]
                      congr 2
                      rw [List.getD_eq_getElem?_getD, List.getElem?_eq_getElem hkx, ← hz.out]; rfl
                    rw [eu] at o1
                    refine ⟨k + 1, by omega, by go_num, VBlk.of (w := wr) hvk (heap_setCell_other wr _ _ _ (fun e => hBi e.symm)), ?_, by simp; omega, (hBk.cell (by omega) (by omega) _ _).drew⟩
                    exact OwnAt.keep o1 (fun _ _ _ => rfl) (by simp)
                  case measure => simp [intOf]; omega
              · obtain rfl : k = 16 := by omega
                go_wp2
                go_roundw
                case rel =>
                  refine ⟨i + 1, by omega, by go_num, hvk, ?_, hszk, hBk⟩
                  have h1 := hown.out
                  rw [upto_all half xs 16 (by rw [hx16.out]; omega), ← hHi.out, mix_set Hf T i hHT.out hiH] at h1
                  exact h1
                case measure => simp [intOf]; omega
          · obtain rfl : i = 4 := by omega
            have hfin : OwnAt wr lo hi bo B C Hf := by rw [← mix_all Hf T 4 (by rw [hHf4.1]; omega) (by rw [hT4.1]; omega)]; exact hown.out
            go_wp2
            go_end0
            refine ⟨_, rfl, ?_, ?_, hBr6⟩
            · rw [hN.out]; exact hvp6
            · rw [hRR.out, ← hHf.out]; exact hfin
      · have hN : Hid (plusN adds = adds + 1) := by simp [Hid, plusN, h159]
        have hRR : Hid (plusR R adds key = T) := by unfold Hid plusR; rw [if_neg h159, hT.out]
        go_wp2
        refine bodyPost_ret (v := .tuple #[]) (by simp [results, Try.results108]) rfl ⟨_, rfl, ?_, ?_, hBr.put _ _⟩
        · rw [hN.out]; exact hvp.set 6 _
        · rw [hRR.out]; exact hmix.out.keep (fun k h1 h2 => heap_setCell_other _ _ _ _ (by show k ≠ ps; omega)) (by simp)

end Go.Proofs.Ytmnjmghlkiljhaa.sk
/- Contracts: what is appended to a row of one's own turns that row's part alone; so who joins a ring inside a choice. -/
namespace Go.Proofs.Ytmnjmghlkiljhaa.ro
open Go.ChangeShapes Go.WideShapes Go.ChangeAt Go.RowKit
open Go.Proofs.Ytmnjmghlkiljhaa.ce
set_option linter.unusedVariables false
variable {α : Type}
theorem run_append_w {E : Enc α} (I : Info E) (w : World) (t ty : TypeId) (ht : Try.prog.underlying t = some (.slice E.t)) (lo hi : Nat) (v : Value) (xs : List α) (o : Own E w lo hi v xs) (hlo : lo ≤ w.heap.size) (vx : Value) (ys : List α) (r : Rd E w vx ys) (hlen : xs.length + ys.length ≤ 1073741824) :
    ∃ v' w', (Builtin.append_ #[t, t] ty #[v, vx]).run Try.prog w = .ok v' w' ∧ Own E w' lo w'.heap.size v' (xs ++ ys) ∧ Ty lo E.t w w' ∧ ∀ k, k < w.heap.size → (k < lo ∨ hi ≤ k) → w'.heap[k]? = w.heap[k]? := by
  obtain ⟨i0, z, hi0, hz0, hz1, hz2, hz3⟩ := I.ex
  obtain ⟨ax, cx, rfl, hx1, hx2, hx3⟩ := r.fits
  have hby : (xs.length + ys.length) * i0.bytes ≤ 140737488355328 := Nat.le_trans (Nat.mul_le_mul hlen hz2) (by omega)
  by_cases h0 : ys = []
  · subst h0
    obtain ⟨a, cap, rfl, h1, h2, -⟩ := o.rd.fits
    exact ⟨_, w, run_append_zero w t ty E.t i0 ht hi0 a xs.length cap h1 ax cx, by simpa using o.top, Ty.refl _ _ _, fun _ _ _ => rfl⟩
  · obtain ⟨b, off, rfl, hb, hr⟩ := hx3 h0
    have hnews : ∀ j u, (E.row ys)[j]? = some u → w.cell? ((⟨b, off, none⟩ : Addr).add j) = some u := fun j u hj => by rw [Addr.add_mid]; exact hr j u hj
    have hy1 : 0 < ys.length := List.length_pos_iff.2 h0
    have grown : ∀ row : Option Nat, (∀ k, row = some k → (lo ≤ k ∧ k < hi) ∧ ∃ cur f, w.heap[k]? = some (.cells cur E.t f)) → ∀ w', w.grownBy w' row → Ty lo E.t w w' ∧ ∀ k, k < w.heap.size → (k < lo ∨ hi ≤ k) → w'.heap[k]? = w.heap[k]? := fun row hrow w' hg =>
      ⟨⟨below_grown hg hlo (fun k hk => (hrow k hk).1.1), fun k cur t' f hk hn => hg.block k (Array.getElem?_eq_some_iff.1 hk).1 (fun e => by
        obtain ⟨-, cur', f', h'⟩ := hrow k e.symm
        have := hk.symm.trans h'
        simp at this
        exact hn this.2.1)⟩, fun k hk hr => hg.block k hk (fun e => by have := (hrow k e.symm).1; omega)⟩
    by_cases hz : xs = [] ∧ ∃ a, v = .slice a 0 0
    · obtain ⟨rfl, a, rfl⟩ := hz
      cases a with
      | none =>
        obtain ⟨v', w', h1, h2, h3, -⟩ := run_append_own (P := Try.prog) w lo t ty E.t i0 z E.k i0.bytes ht hi0 hz0 hz1 rfl hz3 E.pos (.slice none 0 0) 0 [] (World.ownsRow_nil w lo E.t E.k) ⟨b, off, none⟩ ys.length cx (E.row ys) (E.row_len ys) hnews (E.row_cells ys) (by unfold maxLen; simp at hlen; omega) (by simpa using hby) hlo
        refine ⟨v', w', h1, own_of (by simpa using h2), grown _ (fun k hk => by cases hk) w' h3⟩
      | some g =>
        obtain ⟨v', w', h1, h2, h3⟩ := run_append_arg_grows (P := Try.prog) (w := w) t ty E.t i0 z E.k i0.bytes ht hi0 hz0 hz1 rfl hz3 E.pos g 0 0 [] (by simp) (fun j u hj => by simp at hj) ⟨b, off, none⟩ ys.length cx (E.row ys) (E.row_len ys) hnews (by omega) (by unfold maxLen; simp at hlen; omega) (by simpa using hby)
        refine ⟨v', w', h1, ?_, grown _ (fun k hk => by cases hk) w' h3⟩
        have h4 : Own E w' w.heap.size w'.heap.size v' ys := own_of (by simpa using h2)
        exact (by simpa using h4.wide hlo (Nat.le_refl _))
    · have ow := o.owns.resolve_left hz
      obtain ⟨gx, capx, curx, ex, hgx, -⟩ := o.row.resolve_left hz
      obtain ⟨v', w', h1, h2, h3, -⟩ := run_append_own (P := Try.prog) w lo t ty E.t i0 z E.k i0.bytes ht hi0 hz0 hz1 rfl hz3 E.pos v xs.length (E.row xs) ow ⟨b, off, none⟩ ys.length cx (E.row ys) (E.row_len ys) hnews (E.row_cells ys) (by unfold maxLen; omega) hby hlo
      rw [← E.row_append, ← List.length_append] at h2
      refine ⟨v', w', h1, own_of h2, grown _ (fun k hk => ?_) w' h3⟩
      rcases ow.2 with ⟨rfl, -⟩ | ⟨g, cap, cur, rfl, -, hb', -⟩
      · cases hk
      · cases hk
        cases ex
        exact ⟨hgx, cur, _, hb'⟩

section laws
variable {ops : Array Oper} {rest : List Oper} {o : Oper} {a : Act} {w : World} {Q : Exit → Act → World → Prop}
theorem wpList_append_w {E : Enc α} (I : Info E) (hgd : o.guard = none) (s x : Operand) (t : TypeId) (ho : o.op = .call { callee := .builtin .append, args := #[s, x], argTypes := #[t, t] }) (ht : Try.prog.underlying t = some (.slice E.t)) (lo hi : Nat) (v : Value) (xs : List α) (hs : a.eval s = v) (own : Own E w lo hi v xs) (hlo : lo ≤ w.heap.size) (vx : Value) (ys : List α) (hx : a.eval x = vx) (r : Rd E w vx ys) (hlen : xs.length + ys.length ≤ 1073741824)
    (h : ∀ v' w', Own E w' lo w'.heap.size v' (xs ++ ys) → Ty lo E.t w w' → (∀ k, k < w.heap.size → (k < lo ∨ hi ≤ k) → w'.heap[k]? = w.heap[k]?) → wpList Try.prog ops Q rest (a.put o.dst v') w') : wpList Try.prog ops Q (o :: rest) a w := by
  obtain ⟨v', w', h1, h2, h3, h4⟩ := run_append_w I w t o.type ht lo hi v xs own hlo vx ys r hlen
  refine wpList_val hgd (v := v') (w' := w') ?_ (h v' w' h2 h3 h4)
  simp [execOp, ho, resolve, invoke, builtin, hs, hx, h1, Result.andThen]
end laws
end Go.Proofs.Ytmnjmghlkiljhaa.ro
namespace Go.Proofs.Ytmnjmghlkiljhaa.rg
open Go.ChangeShapes Go.WideShapes Go.ChangeAt Go.RowKit
open Go.Proofs.Ytmnjmghlkiljhaa.ce Go.Proofs.Ytmnjmghlkiljhaa.ro
set_option linter.unusedVariables false
set_option linter.unusedSimpArgs false
theorem Tw.of_app {lo hi b : Nat} {t : TypeId} {x y : World} (h : Ty lo t x y) (r : ∀ k, k < x.heap.size → (k < lo ∨ hi ≤ k) → y.heap[k]? = x.heap[k]?) : Tw lo hi b x y := ⟨h.low.os, h.low.tape, h.low.output, h.low.size, fun k a _ c => r k a c⟩
set_option maxRecDepth 100000 in
set_option maxHeartbeats 1000000 in
theorem l8JoinW_any (y0 y4 y5 y6 : Value) (r : Rg) (s : ByteArray) (hs : s.size ≤ 9223372036854775807) (vN vU : Value) (b lo hi : Nat) (w : World) (own : OwnR w lo hi vN vU r) (hV : VBlk w b 32 [y0, vN, vU, .int .i64 r.A, y4, y5, y6]) (hlo : lo ≤ w.heap.size) (hN : r.N.length ≤ 1000000) (hU : r.U.length ≤ 1000000) :
    Calls Try.prog 111 #[.pointer (some ⟨b, 1, none⟩), .string s] w fun e w' => e = .returned (.bool (mayB r s)) ∧ ∃ vN' vU', OwnR w' lo w'.heap.size vN' vU' (joinR r s) ∧ VBlk w' b 32 [y0, vN', vU', .int .i64 r.A, y4, y5, y6] ∧ Tw lo hi b w w' := by
  obtain ⟨N, U, A⟩ := r
  obtain ⟨a, n, cap, rfl⟩ := own.n.slice
  obtain ⟨c, m, dc, rfl⟩ := own.u.slice
  have hn : Hid (n = N.length) := own.n.rd.cap.1
  have O : Hid (OwnR w lo hi (.slice a n cap) (.slice c m dc) ⟨N, U, A⟩) := own
  have hbl := hV.lt
  have V : Hid (VBlk w b 32 [y0, .slice a n cap, .slice c m dc, .int .i64 A, y4, y5, y6]) := hV
  obtain ⟨-, c0, c1, c2, -, -, -⟩ := cells7c hV
  dsimp only at hN hU ⊢
  clear own hV
  obtain ⟨y, hy⟩ := hid_ex (mayB ⟨N, U, A⟩ s)
  obtain ⟨p, hp⟩ := hid_ex (posS s N)
  cases hnm : nameB s with
  | false =>
    have ey := hy.out.symm.trans (mayB_false1 (r := ⟨N, U, A⟩) hnm)
    unfold joinR
    rw [hy.out, ey, if_neg Bool.false_ne_true]
    go_enter Try.func111, Try.ntmps111
    go_wp2_with (first | (go_at_call 25; refine (specNameOk_any _ hs _).mono ?_; rintro e wq ⟨rfl, hq⟩; subst wq; rw [hnm]) | (fail))
    go_ret
    exact ⟨rfl, _, _, O.out.top, V.out, Tw.refl _ _ _ _⟩
  | true =>
    by_cases hp0 : 0 ≤ p
    · have ey := hy.out.symm.trans (mayB_false2 (r := ⟨N, U, A⟩) (by rw [hp.out]; exact hp0))
      have hpg : p ≥ 0 := hp0
      unfold joinR
      rw [hy.out, ey, if_neg Bool.false_ne_true]
      go_enter Try.func111, Try.ntmps111
      go_wp2_with (first | (go_at_call 25; refine (specNameOk_any _ hs _).mono ?_; rintro e wq ⟨rfl, hq⟩; subst wq; rw [hnm]) | (go_at_call 137; refine (l1At_any N _ _ _ O.out.n.rd).mono ?_; rintro e wq ⟨rfl, hq⟩; subst wq; rw [hp.out]) | (fail))
      go_ret
      exact ⟨rfl, _, _, O.out.top, V.out, Tw.refl _ _ _ _⟩
    · have hpg : ¬ p ≥ 0 := hp0
      by_cases h20 : n = 20
      · have ey := hy.out.symm.trans (mayB_false3 (r := ⟨N, U, A⟩) (hn.out.symm.trans h20))
        have h20b : ((n : Int) == 20) = true := by simp; omega
        unfold joinR
        rw [hy.out, ey, if_neg Bool.false_ne_true]
        clear h20
        go_enter Try.func111, Try.ntmps111
        go_wp2_with (first | (go_at_call 25; refine (specNameOk_any _ hs _).mono ?_; rintro e wq ⟨rfl, hq⟩; subst wq; rw [hnm]) | (go_at_call 137; refine (l1At_any N _ _ _ O.out.n.rd).mono ?_; rintro e wq ⟨rfl, hq⟩; subst wq; rw [hp.out]) | (fail))
        go_ret
        exact ⟨rfl, _, _, O.out.top, V.out, Tw.refl _ _ _ _⟩
      · have ey := hy.out.symm.trans (mayB_true (r := ⟨N, U, A⟩) hnm (by rw [hp.out]; exact hp0) (fun q => h20 (hn.out.trans q)))
        have h20b : ((n : Int) == 20) = false := by simp; omega
        unfold joinR
        rw [hy.out, ey, if_pos rfl]
        unfold joined
        dsimp only
        have m1 : Hid True := trivial
        have m2 : Hid True := trivial
        go_enter Try.func111, Try.ntmps111
        go_wp2_with (first | (go_at_call 25; refine (specNameOk_any _ hs _).mono ?_; rintro e wq ⟨rfl, hq⟩; subst wq; rw [hnm]) | (go_at_call 137; refine (l1At_any N _ _ _ O.out.n.rd).mono ?_; rintro e wq ⟨rfl, hq⟩; subst wq; rw [hp.out]) | (clear m1; at_builtin; refine wpList_append_w infoS rfl _ _ 24 rfl Try.underlying24 lo _ _ N rfl (O.out.n.grow ((Below.refl _ _).alloc (Nat.le_refl _) _)) (by simp; omega) _ [s] rfl (rd_new (E := encS) w s #[.string s] rfl) (by simp; omega) ?_; intro v1 w1 o1 hT1 hR1; have hBa : Below w.heap.size w (w.alloc (.cells #[.string s] 9)) := (Below.refl _ _).alloc (Nat.le_refl _) _; have V1 := hT1.vblk (vblk_grow V.out hBa) (by decide); have u1 := hT1.own (O.out.u.grow hBa) (by decide); have T1 : Tw lo hi b w w1 := (Tw.of_below hBa).trans (Tw.of_app hT1 hR1); have hz1 := T1.size; obtain ⟨a1, n1, k1, rfl⟩ := o1.slice) | (refine wpList_store_ss rfl _ _ rfl b 1 a1 n1 k1 rfl rfl V1 (by simp) ?_; intro w2 hO2 V2; replace o1 := o1.only hO2 V1 (by decide); replace u1 := u1.only hO2 V1 (by decide); have T2 : Tw lo hi b w w2 := T1.trans (Tw.of_only hO2); have hz2 := T2.size; clear c0 c1 c2; obtain ⟨-, c0, c1, c2, -, -, -⟩ := cells7c V2) | (clear m2; at_builtin; refine wpList_append_w infoB rfl _ _ 25 rfl Try.underlying25 lo _ _ U rfl (u1.grow ((Below.refl _ _).alloc (Nat.le_refl _) _)) (by simp; omega) _ [false] rfl (rd_new (E := encB) w2 false #[.bool false] rfl) (by simp; omega) ?_; intro v3 w3 u3 hT3 hR3; have hBa3 : Below w2.heap.size w2 (w2.alloc (.cells #[.bool false] 4)) := (Below.refl _ _).alloc (Nat.le_refl _) _; have V3 := hT3.vblk (vblk_grow V2 hBa3) (by decide); have o3 := hT3.own (o1.grow hBa3) (by decide); have T3 : Tw lo hi b w w3 := (T2.trans (Tw.of_below hBa3)).trans (Tw.of_app hT3 hR3); obtain ⟨a3, n3, k3, rfl⟩ := u3.slice) | (refine wpList_store_bs rfl _ _ rfl b 2 a3 n3 k3 rfl rfl V3 (by simp) ?_; intro w4 hO4 V4; replace o3 := o3.only hO4 V3 (by decide); replace u3 := u3.only hO4 V3 (by decide); have T4 : Tw lo hi b w w4 := T3.trans (Tw.of_only hO4)) | (fail))
        go_ret
        exact ⟨rfl, _, _, ⟨o3.top, u3.top⟩, V4, T4⟩
end Go.Proofs.Ytmnjmghlkiljhaa.rg
/- Contracts: who is used in a ring inside a choice, who is touched in a queue: the row's own part alone is turned. -/
namespace Go.Proofs.Ytmnjmghlkiljhaa.rg
open Go.ChangeShapes Go.WideShapes Go.ChangeAt Go.RowKit
open Go.Proofs.Ytmnjmghlkiljhaa.ce Go.Proofs.Ytmnjmghlkiljhaa.ro
set_option linter.unusedVariables false
set_option linter.unusedSimpArgs false
section laws
variable {ops : Array Oper} {rest : List Oper} {o : Oper} {a : Act} {w : World} {Q : Exit → Act → World → Prop}
theorem wpList_store_tw (hgd : o.guard = none) (x y : Operand) (ho : o.op = .store 4 x y) (g i : Nat) (z : Bool) (hx : a.eval x = .pointer (some ⟨g, i, none⟩)) (hy : a.eval y = .bool z)
    {lo hi n cap : Nat} {xs : List Bool} (own : Own encB w lo hi (.slice (some ⟨g, 0, none⟩) n cap) xs) (hj : i < xs.length)
    (h : ∀ w', Own encB w' lo hi (.slice (some ⟨g, 0, none⟩) n cap) (xs.set i z) → Ty lo 4 w w' → (∀ b, Tw lo hi b w w') → wpList Try.prog ops Q rest (a.put o.dst undef) w') : wpList Try.prog ops Q (o :: rest) a w := by
  obtain ⟨g', e, hg, hc, hf⟩ := ownB_cell own i hj
  cases e
  have hT : Ty lo 4 w (w.setCell ⟨g, i, none⟩ (.bool z)) := by
    rcases own.row with ⟨rfl, -⟩ | ⟨g2, cap2, cur, e2, -, hb, -⟩
    · simp at hj
    · cases e2
      exact ⟨(only_set w g i _).2.2 _ hg.1, fun k cur' t' f hk hn => (only_set w g i _).2.1 k fun e => by
        rw [e, hb] at hk
        simp at hk
        exact hn hk.2.1.symm⟩
  refine wpList_skp hgd (w' := w.setCell ⟨g, i, none⟩ (.bool z)) ?_ (h _ (ownB_set own i hj z) hT (fun b => Tw.of_in (only_set w g i _) hg.1 hg.2))
  unfold execOp
  simp only [ho, hx, hy]
  simp [go_sem, hc, hf]
end laws
set_option maxRecDepth 100000 in
set_option maxHeartbeats 1000000 in
theorem l8UseW_any (y0 y4 y5 y6 : Value) (r : Rg) (s : ByteArray) (vN vU : Value) (b lo hi : Nat) (w : World) (own : OwnR w lo hi vN vU r) (hV : VBlk w b 32 [y0, vN, vU, .int .i64 r.A, y4, y5, y6]) (hNU : r.U.length = r.N.length) :
    Calls Try.prog 110 #[.pointer (some ⟨b, 1, none⟩), .string s] w fun e w' => e = .returned (.bool (decide (0 ≤ posS s r.N))) ∧ OwnR w' lo hi vN vU (used r s) ∧ VBlk w' b 32 [y0, vN, vU, .int .i64 r.A, y4, y5, y6] ∧ Tw lo hi b w w' := by
  obtain ⟨N, U, A⟩ := r
  obtain ⟨a, n, cap, rfl⟩ := own.n.slice
  obtain ⟨c, m, dc, rfl⟩ := own.u.slice
  have hm : Hid (m = U.length) := own.u.rd.cap.1
  have O : Hid (OwnR w lo hi (.slice a n cap) (.slice c m dc) ⟨N, U, A⟩) := own
  have V : Hid (VBlk w b 32 [y0, .slice a n cap, .slice c m dc, .int .i64 A, y4, y5, y6]) := hV
  obtain ⟨-, c0, c1, c2, -, -, -⟩ := cells7c hV
  dsimp only at hNU ⊢
  clear own hV
  have hbd := posS_bd s N
  have hy1 := @used_yes ⟨N, U, A⟩ s
  have hy2 := @used_no ⟨N, U, A⟩ s
  dsimp only at hy1 hy2
  obtain ⟨p, hp⟩ := hid_ex (posS s N)
  rw [hp.out] at hbd hy1 hy2 ⊢
  by_cases hp0 : 0 ≤ p
  · rw [hy1 hp0, decide_eq_true hp0]
    clear hy1 hy2
    obtain ⟨i, rfl⟩ : ∃ i : Nat, p = i := ⟨p.toNat, by omega⟩
    have hiU : i < U.length := by omega
    have hm2 : (i : Int) < (m : Int) := by have := hm.out; omega
    have hp1 : ¬ (i : Int) < 0 := by omega
    obtain ⟨g, rfl, hg, d0, f0⟩ := ownB_cell O.out.u i hiU
    rw [Int.toNat_natCast]
    go_enter Try.func110, Try.ntmps110
    go_wp2_with (first | (go_at_call 137; refine (l1At_any N _ _ _ O.out.n.rd).mono ?_; rintro e wq ⟨rfl, hq⟩; subst wq; rw [hp.out]) | (refine wpList_store_tw rfl _ _ rfl g i true rfl rfl O.out.u hiU ?_; intro w1 u1 hT1 hR1) | (fail))
    go_ret
    exact ⟨rfl, ⟨hT1.own O.out.n (by decide), u1⟩, hT1.vblk V.out (by decide), hR1 b⟩
  · rw [hy2 hp0, decide_eq_false hp0]
    clear hy1 hy2
    have hp1 : p < 0 := by omega
    go_enter Try.func110, Try.ntmps110
    go_wp2_with (first | (go_at_call 137; refine (l1At_any N _ _ _ O.out.n.rd).mono ?_; rintro e wq ⟨rfl, hq⟩; subst wq; rw [hp.out]) | (fail))
    go_ret
    exact ⟨rfl, O.out, V.out, Tw.refl _ _ _ _⟩
set_option maxRecDepth 100000 in
set_option maxHeartbeats 1000000 in
theorem l9TouchW_any (q : List ByteArray) (s : ByteArray) (hs : s.size ≤ 9223372036854775807) (v : Value) (lo hi : Nat) (w : World) (own : Own encS w lo hi v q) (hlo : lo ≤ w.heap.size) (hq : q.length ≤ 1000000) :
    Calls Try.prog 109 #[v, .string s] w fun e w' => ∃ v', e = .returned (.tuple #[v', .bool (tqB q s)]) ∧ Own encS w' lo w'.heap.size v' (tqR q s) ∧ ∀ b, Tw lo hi b w w' := by
  obtain ⟨a, n, cap, rfl⟩ := own.slice
  have hn : Hid (n = q.length) := own.rd.cap.1
  have O : Hid (Own encS w lo hi (.slice a n cap) q) := own
  clear own
  have ma : Hid True := trivial
  rcases posS_cases s q with ⟨h1, e⟩ | ⟨i, hi', h1, h2, e⟩
  · have e1 : tqB q s = (nameB s && !(q.length == 20)) := by unfold tqB; rw [e]; rfl
    have e2 : tqR q s = if (nameB s && !(q.length == 20)) = true then q ++ [s] else q := by unfold tqR; rw [e]; rfl
    have hp : Hid (posS s q = -1) := e
    rw [e1, e2]
    clear e1 e2 e h1
    cases hm : nameB s with
    | false =>
      go_enter Try.func109, Try.ntmps109
      go_wp2_with (first | (go_at_call 137; refine (l1At_any q s _ _ O.out.rd).mono ?_; rintro e wq ⟨rfl, hq⟩; subst wq; rw [hp.out]) | (go_at_call 25; refine (specNameOk_any _ hs _).mono ?_; rintro e wq ⟨rfl, hq⟩; subst wq; rw [hm]) | (fail))
      go_ret2
      exact ⟨_, rfl, O.out.top, fun b => Tw.refl _ _ _ _⟩
    | true =>
      by_cases h20 : q.length = 20
      · have h21 : (q.length == 20) = true := by simpa using h20
        have h22 : ((n : Int) == 20) = true := by rw [hn.out, h20]; rfl
        rw [h21]
        clear h20 h21
        go_enter Try.func109, Try.ntmps109
        go_wp2_with (first | (go_at_call 137; refine (l1At_any q s _ _ O.out.rd).mono ?_; rintro e wq ⟨rfl, hq⟩; subst wq; rw [hp.out]) | (go_at_call 25; refine (specNameOk_any _ hs _).mono ?_; rintro e wq ⟨rfl, hq⟩; subst wq; rw [hm]) | (fail))
        go_ret2
        exact ⟨_, rfl, O.out.top, fun b => Tw.refl _ _ _ _⟩
      · have h21 : (q.length == 20) = false := by simpa using h20
        have h22 : ((n : Int) == 20) = false := by rw [hn.out]; simp; omega
        rw [h21]
        clear h20 h21
        go_enter Try.func109, Try.ntmps109
        go_wp2_with (first | (go_at_call 137; refine (l1At_any q s _ _ O.out.rd).mono ?_; rintro e wq ⟨rfl, hq⟩; subst wq; rw [hp.out]) | (go_at_call 25; refine (specNameOk_any _ hs _).mono ?_; rintro e wq ⟨rfl, hq⟩; subst wq; rw [hm]) | (clear ma; at_builtin; refine wpList_append_w infoS rfl _ _ 24 rfl Try.underlying24 lo _ _ q rfl (O.out.grow ((Below.refl _ _).alloc (Nat.le_refl _) _)) (by simp; omega) _ [s] rfl (rd_new (E := encS) w s #[.string s] rfl) (by simp; omega) ?_; intro v1 w1 o1 hT1 hR1) | (fail))
        go_ret2
        exact ⟨_, rfl, o1, fun b => (Tw.of_below ((Below.refl _ _).alloc (Nat.le_refl _) _)).trans (Tw.of_app hT1 hR1)⟩
  · have e1 : tqB q s = true := by unfold tqB; rw [e]; simp
    have e2 : tqR q s = (q.take i ++ q.drop (i + 1)) ++ [s] := by unfold tqR; rw [e]; simp
    have hp : Hid (posS s q = (i : Int)) := e
    have hcl : (q.take i ++ q.drop (i + 1)).length ≤ 1000000 := by simp; omega
    rw [e1, e2]
    obtain ⟨c, hc⟩ := hid_ex (q.take i ++ q.drop (i + 1))
    rw [hc.out] at hcl ⊢
    clear e1 e2 e h1 h2
    have i0 : (i : Int) ≥ 0 := by omega
    go_enter Try.func109, Try.ntmps109
    go_wp2_with (first | (go_at_call 137; refine (l1At_any q s _ _ O.out.rd).mono ?_; rintro e wq ⟨rfl, hq⟩; subst wq; rw [hp.out]) | (go_at_call 138; refine (l1Cut_any q _ i _ O.out.rd hi' hq).mono ?_; rintro e w2 ⟨v2, rfl, o2, hB2⟩; rw [hc.out] at o2; have hz2 := hB2.size) | (clear ma; at_builtin; refine wpList_append_w infoS rfl _ _ 24 rfl Try.underlying24 w.heap.size _ _ c rfl (o2.grow ((Below.refl _ _).alloc (Nat.le_refl _) _)) (by simp; omega) _ [s] rfl (rd_new (E := encS) w2 s #[.string s] rfl) (by simp; omega) ?_; intro v3 w3 o3 hT3 hR3) | (fail))
    go_ret2
    exact ⟨_, rfl, o3.wide hlo (Nat.le_refl _), fun b => Tw.of_below (hB2.trans (((Below.refl _ _).alloc hz2 _).trans hT3.low))⟩
end Go.Proofs.Ytmnjmghlkiljhaa.rg
/- Contracts: the model's Joins, Uses, Leaves, Turns, of whatever ring. -/
namespace Go.Proofs.Ytmnjmghlkiljhaa.rg
open Go.ChangeShapes Go.WideShapes Go.ChangeAt Go.RowKit
open Go.Proofs.Ytmnjmghlkiljhaa.ce Go.Proofs.Ytmnjmghlkiljhaa.ro
set_option linter.unusedVariables false

theorem joinR_A (r : Rg) (s : ByteArray) : (joinR r s).A = r.A := by unfold joinR; split <;> rfl
theorem used_A (r : Rg) (s : ByteArray) : (used r s).A = r.A := by unfold used; split <;> rfl
theorem left_len (r : Rg) (i : Nat) : (left r i).N.length ≤ r.N.length ∧ (left r i).U.length ≤ r.U.length := by unfold left; simp; omega

end Go.Proofs.Ytmnjmghlkiljhaa.rg
/- Contracts: the program's generic ring in its variable: how many, the place of one, who joins, who is used. -/
namespace Go.Proofs.Ytmnjmghlkiljhaa.rg
open Go.ChangeShapes Go.WideShapes Go.ChangeAt Go.RowKit
open Go.Proofs.Ytmnjmghlkiljhaa.ce Go.Proofs.Ytmnjmghlkiljhaa.ro
set_option linter.unusedVariables false

def encSeat : Enc (ByteArray × Bool) := ⟨fun s => [.string s.1, .bool s.2], 2, 153, fun _ => rfl, fun s v hv => by
  simp only [List.mem_cons, List.not_mem_nil, or_false] at hv
  rcases hv with rfl | rfl <;> rfl, by decide⟩
theorem infoSeat : Info encSeat := by
  have h : (Try.prog.info? 153).map (fun i => (i.zero, i.size, i.bytes)) = some (some (.agg #[.string ⟨#[]⟩, .bool false]), 2, 24) := by kernel_rfl
  obtain ⟨i, hi, hz⟩ := Option.map_eq_some_iff.1 h
  simp only [Prod.mk.injEq] at hz
  exact ⟨i, _, hi, hz.1, hz.2.1, by omega, rfl⟩
theorem rdT_cell {w : World} {n cap : Nat} {a : Option Addr} {xs : List (ByteArray × Bool)} (r : Rd encSeat w (.slice a n cap) xs) (i : Nat) (hi : i < xs.length) : ∃ b off, a = some ⟨b, off, none⟩ ∧ b < w.heap.size ∧ w.cell? ⟨b, off + i * 2, none⟩ = some (.string xs[i].1) ∧ w.cell? ⟨b, off + i * 2 + 1, none⟩ = some (.bool xs[i].2) := by
  obtain ⟨b, off, e, h1, h2⟩ := r.cell i 0 hi (show 0 < 2 by decide)
  obtain ⟨b', off', e', h1', h2'⟩ := r.cell i 1 hi (show 1 < 2 by decide)
  rw [e] at e'
  cases e'
  exact ⟨b, off, e, h1, by simpa [encSeat] using h2, by simpa [encSeat, Nat.add_assoc] using h2'⟩
theorem ownT_cell {w : World} {lo hi n cap : Nat} {a : Option Addr} {xs : List (ByteArray × Bool)} (o : Own encSeat w lo hi (.slice a n cap) xs) (i : Nat) (h : i < xs.length) : ∃ g, a = some ⟨g, 0, none⟩ ∧ (lo ≤ g ∧ g < hi) ∧ w.cell? ⟨g, i * 2, none⟩ = some (.string xs[i].1) ∧ w.cell? ⟨g, i * 2 + 1, none⟩ = some (.bool xs[i].2) ∧ w.frozen? ⟨g, i * 2 + 1, none⟩ = false := by
  obtain ⟨g, e, h1, h2, h3⟩ := o.cell i 0 h (show 0 < 2 by decide)
  obtain ⟨g', e', h1', h2', h3'⟩ := o.cell i 1 h (show 1 < 2 by decide)
  rw [e] at e'
  cases e'
  exact ⟨g, e, h1, by simpa [encSeat] using h2, by simpa [encSeat] using h2', by simpa [encSeat] using h3'⟩
theorem ownT_set {w : World} {lo hi g n cap : Nat} {xs : List (ByteArray × Bool)} (o : Own encSeat w lo hi (.slice (some ⟨g, 0, none⟩) n cap) xs) (i : Nat) (h : i < xs.length) (x : Bool) : Own encSeat (w.setCell ⟨g, i * 2 + 1, none⟩ (.bool x)) lo hi (.slice (some ⟨g, 0, none⟩) n cap) (xs.set i (xs[i].1, x)) := by
  have := o.set i 1 h (show 1 < 2 by decide) (.bool x) (xs[i].1, x) rfl
  simpa [encSeat] using this
theorem ownT_ty {w : World} {lo hi g n cap : Nat} {xs : List (ByteArray × Bool)} (o : Own encSeat w lo hi (.slice (some ⟨g, 0, none⟩) n cap) xs) (h : 1 ≤ xs.length) (j : Nat) (x : Value) : Ty lo 153 w (w.setCell ⟨g, j, none⟩ x) := by
  rcases o.row with ⟨rfl, -⟩ | ⟨g2, cap2, cur, e2, hg, hb, -⟩
  · simp at h
  · cases e2
    exact ⟨(only_set w g j x).2.2 _ hg.1, fun k cur' t' f hk hn => (only_set w g j x).2.1 k fun e => by
      rw [e, hb] at hk
      simp at hk
      exact hn hk.2.1.symm⟩

/-- of the blocks that were there only b, and from lo on rows of seats, may be turned -/
structure Tq (lo b : Nat) (w w' : World) : Prop where
  os : w'.os = w.os
  tape : w'.tape = w.tape
  output : w'.output = w.output
  size : w.heap.size ≤ w'.heap.size
  low : ∀ k, k < lo → k ≠ b → w'.heap[k]? = w.heap[k]?
  keep : ∀ (k : Nat) (cur : Array Value) (t : TypeId) (f : Nat × Nat), w.heap[k]? = some (.cells cur t f) → k ≠ b → t ≠ 153 → w'.heap[k]? = w.heap[k]?
theorem Tq.refl (lo b : Nat) (w : World) : Tq lo b w w := ⟨rfl, rfl, rfl, Nat.le_refl _, fun _ _ _ => rfl, fun _ _ _ _ _ _ _ => rfl⟩
theorem Tq.trans {lo b : Nat} {x y z : World} (h : Tq lo b x y) (k : Tq lo b y z) : Tq lo b x z :=
  ⟨k.os.trans h.os, k.tape.trans h.tape, k.output.trans h.output, Nat.le_trans h.size k.size, fun j h1 h2 => (k.low j h1 h2).trans (h.low j h1 h2), fun j cur t f hj h1 h2 => (k.keep j cur t f (by rw [h.keep j cur t f hj h1 h2]; exact hj) h1 h2).trans (h.keep j cur t f hj h1 h2)⟩
theorem Tq.of_below {lo b : Nat} {w w' : World} (h : Below w.heap.size w w') (hl : lo ≤ w.heap.size) : Tq lo b w w' := ⟨h.os, h.tape, h.output, h.size, fun k h1 _ => h.block k (by omega), fun k cur t f hk _ _ => h.block k (Array.getElem?_eq_some_iff.1 hk).1⟩
theorem Tq.of_ty {lo b : Nat} {w w' : World} (h : Ty lo 153 w w') : Tq lo b w w' := ⟨h.low.os, h.low.tape, h.low.output, h.low.size, fun k h1 _ => h.low.block k h1, fun k cur t' f hk _ h1 => h.keep k cur t' f hk h1⟩
theorem Tq.of_only {lo b : Nat} {w w' : World} (h : Only b w w') : Tq lo b w w' := by
  have h0 := h.2.2 0 (Nat.zero_le _)
  exact ⟨h0.os, h0.tape, h0.output, h0.size, fun k _ h2 => h.2.1 k h2, fun k cur t f _ h2 _ => h.2.1 k h2⟩
theorem Tq.below {lo b B : Nat} {w w' : World} (h : Tq lo b w w') (h1 : B ≤ lo) (h2 : B ≤ b) : Below B w w' := ⟨h.os, h.tape, h.output, h.size, fun k hk => h.low k (by omega) (by omega)⟩
theorem Tq.vblk {lo b b' : Nat} {w w' : World} {t : TypeId} {vs : List Value} (h : Tq lo b w w') (hb : VBlk w b' t vs) (hn : b' ≠ b) (h1 : t ≠ 153) : VBlk w' b' t vs := hb.of (h.keep b' _ t _ hb hn h1)

/-- a ring of seats in its variable -/
structure RV (w : World) (lo hi b : Nat) (sv : Value) (ss : List (ByteArray × Bool)) (A : Int) : Prop where
  o : Own encSeat w lo hi sv ss
  v : VBlk w b 121 [sv, .int .i64 A]
theorem RV.grow {w w' : World} {lo hi b : Nat} {sv : Value} {ss : List (ByteArray × Bool)} {A : Int} (h : RV w lo hi b sv ss A) (hb : Below w.heap.size w w') : RV w' lo hi b sv ss A := ⟨h.o.grow hb, vblk_grow h.v hb⟩
theorem RV.top {w : World} {lo hi b : Nat} {sv : Value} {ss : List (ByteArray × Bool)} {A : Int} (h : RV w lo hi b sv ss A) : RV w lo w.heap.size b sv ss A := ⟨h.o.top, h.v⟩
theorem RV.only {w w' : World} {lo hi b b' : Nat} {sv : Value} {ss : List (ByteArray × Bool)} {A : Int} {t : TypeId} {vs : List Value} (h : RV w lo hi b sv ss A) (ho : Only b' w w') (hb : VBlk w b' t vs) (h1 : 153 ≠ t) (hn : b ≠ b') : RV w' lo hi b sv ss A := ⟨h.o.only ho hb h1, vblk_only h.v ho hn⟩
theorem sizeRd : (Try.prog.info? 121).map (·.size) = some 2 := by kernel_rfl
theorem zeroRd (w : World) : (zeroValue 121).run Try.prog w = .ok (.agg [Value.slice none 0 0, .int .i64 0].toArray) w := Try.zeroValue121 w

theorem many_any (w : World) (lo hi b : Nat) (sv : Value) (ss : List (ByteArray × Bool)) (A : Int) (h : RV w lo hi b sv ss A) :
    Calls Try.prog 131 #[.pointer (some ⟨b, 0, none⟩)] w fun e w' => e = .returned (.int .i64 ss.length) ∧ w' = w := by
  obtain ⟨a, cap, rfl⟩ := h.o.rd.form
  obtain ⟨c0, c1⟩ := cells2 h.v
  clear h
  go_enter Try.func131, Try.ntmps131
  go_wp2
  go_ret
  exact ⟨rfl, rfl⟩

theorem around_any (w : World) (lo hi b : Nat) (sv : Value) (ss : List (ByteArray × Bool)) (A p : Int) (h : RV w lo hi b sv ss A) :
    Calls Try.prog 133 #[.pointer (some ⟨b, 0, none⟩), .int .i64 p] w fun e w' => e = .returned (.int .i64 (if p < ss.length then p else 0)) ∧ w' = w := by
  have H : Hid (RV w lo hi b sv ss A) := h
  clear h
  obtain ⟨z, hz⟩ := hid_ex (if p < (ss.length : Int) then p else 0)
  rw [hz.out]
  by_cases hp : p < (ss.length : Int)
  · have ez : z = p := hz.out.symm.trans (if_pos hp)
    subst ez
    have hp2 : ¬ z ≥ (ss.length : Int) := by omega
    go_enter Try.func133, Try.ntmps133
    go_wp2_with (first | (go_at_call 131; refine (many_any _ lo hi b sv ss A H.out).mono ?_; rintro e wq ⟨rfl, hq⟩; subst wq) | (fail))
    go_ret
    exact ⟨rfl, rfl⟩
  · have ez : z = 0 := hz.out.symm.trans (if_neg hp)
    subst ez
    have hp2 : p ≥ (ss.length : Int) := by omega
    go_enter Try.func133, Try.ntmps133
    go_wp2_with (first | (go_at_call 131; refine (many_any _ lo hi b sv ss A H.out).mono ?_; rintro e wq ⟨rfl, hq⟩; subst wq) | (fail))
    go_ret
    exact ⟨rfl, rfl⟩

theorem placeOf_any (s : ByteArray) (w : World) (lo hi b : Nat) (sv : Value) (ss : List (ByteArray × Bool)) (A : Int) (h : RV w lo hi b sv ss A) :
    Calls Try.prog 103 #[.pointer (some ⟨b, 0, none⟩), .string s] w fun e w' => e = .returned (.int .i64 (posS s (ss.map (·.1)))) ∧ Below w.heap.size w w' := by
  have hl := h.o.rd.len
  obtain ⟨a, cap, rfl⟩ := h.o.rd.form
  obtain ⟨c0, c1⟩ := cells2 h.v
  have H : Hid (RV w lo hi b (.slice a ss.length cap) ss A) := h
  clear h
  obtain ⟨y, hy⟩ := hid_ex (posS s (ss.map (·.1)))
  rw [hy.out]
  go_enter Try.func103, Try.ntmps103
  go_wp2
  go_loopw [12] (fun p wr => ∃ i : Nat, i ≤ ss.length ∧ p = .int .i64 i ∧ Hid (s ∉ (ss.map (·.1)).take i) ∧ Below w.heap.size w wr) (fun p _ => ss.length - (intOf p).toNat)
  case atStart => exact ⟨0, by omega, rfl, (by unfold Hid; simp), Below.refl _ _⟩
  case round =>
    obtain ⟨i, hi1, rfl, hno, hB⟩ := hrel
    by_cases hlt : i < ss.length
    · obtain ⟨g, off, rfl, hb, d0, d1⟩ := rdT_cell (H.out.o.rd.grow hB) i hlt
      have hlt' : (i : Int) < (ss.length : Int) := by omega
      have hlm : i < (ss.map (·.1)).length := by rw [List.length_map]; exact hlt
      obtain ⟨z, hz⟩ := hid_ex (ss[i].1)
      obtain ⟨x, hx⟩ := hid_ex (ss[i].2)
      have hzm : Hid ((ss.map (·.1))[i] = z) := by unfold Hid; rw [List.getElem_map]; exact hz.out
      rw [hz.out] at d0
      rw [hx.out] at d1
      by_cases he : z.toList = s.toList
      · have ey : y = i := by rw [← hy.out]; exact posS_at hlm (hzm.out.trans (str_eq he)) hno.out
        subst ey
        have hbe : (z.toList == s.toList) = true := by simpa using he
        clear he
        go_wp2
        go_ret
        exact ⟨rfl, hB.alloc hB.size _⟩
      · have hno2 : Hid (s ∉ (ss.map (·.1)).take (i + 1)) := by
          unfold Hid
          rw [List.take_succ_eq_append_getElem hlm, List.mem_append, hzm.out, List.mem_singleton]
          rintro (h | h)
          · exact hno.out h
          · exact he (by rw [h])
        have hbe : (z.toList == s.toList) = false := by simpa using he
        clear he
        go_wp2
        go_roundw
        case rel => exact ⟨i + 1, by omega, by go_num, hno2, hB.alloc hB.size _⟩
        case measure => simp [intOf]; omega
    · have hlt' : ¬ (i : Int) < (ss.length : Int) := by omega
      have ey : y = -1 := by
        have h := hno.out
        rw [List.take_of_length_le (by rw [List.length_map]; omega)] at h
        rw [← hy.out]; exact posS_no h
      subst ey
      go_wp2
      go_ret
      exact ⟨rfl, hB⟩

section laws
variable {ops : Array Oper} {rest : List Oper} {o : Oper} {a : Act} {w : World} {Q : Exit → Act → World → Prop} {K : Act → World → Prop} {X : Prop}
theorem wpList_store_ts (hgd : o.guard = none) (x y : Operand) (ho : o.op = .store 119 x y) (b j : Nat) (va : Option Addr) (vn vc : Nat) (hx : a.eval x = .pointer (some ⟨b, j, none⟩)) (hy : a.eval y = .slice va vn vc)
    {t : TypeId} {vs : List Value} (hb : VBlk w b t vs) (hj : j < vs.length)
    (h : ∀ w', Only b w w' → VBlk w' b t (vs.set j (.slice va vn vc)) → wpList Try.prog ops Q rest (a.put o.dst undef) w') : wpList Try.prog ops Q (o :: rest) a w := by
  have hc := hb.cell j hj
  have hf : w.frozen? ⟨b, j, none⟩ = false := hb.frozen _
  refine wpList_skp hgd (w' := w.setCell ⟨b, j, none⟩ (.slice va vn vc)) ?_ (h _ (only_set _ _ _ _) (hb.set j _))
  unfold execOp
  simp only [ho, hx, hy]
  simp [go_sem, hc, hf]
end laws

theorem join_any (s : ByteArray) (w : World) (lo hi b : Nat) (sv : Value) (ss : List (ByteArray × Bool)) (A : Int) (h : RV w lo hi b sv ss A) (hlo : lo ≤ w.heap.size) (hl : ss.length ≤ 1000000) :
    Calls Try.prog 126 #[.pointer (some ⟨b, 0, none⟩), .string s] w fun e w' => (∃ u, e = .returned u) ∧ (∃ sv', RV w' lo w'.heap.size b sv' (ss ++ [(s, false)]) A) ∧ Tq lo b w w' := by
  obtain ⟨a, n, cap, rfl⟩ := h.o.slice
  obtain ⟨c0, c1⟩ := cells2 h.v
  have H : Hid (RV w lo hi b (.slice a n cap) ss A) := h
  clear h
  go_enter Try.func126, Try.ntmps126
  go_wp2_with (first | (at_builtin; refine wpList_append_g infoSeat rfl _ _ 119 rfl Try.underlying119 lo _ _ ss rfl (H.out.o.grow ((Below.refl _ _).alloc (Nat.le_refl _) _)) (by simp; omega) _ [(s, false)] rfl (rd_new (E := encSeat) w (s, false) #[.string s, .bool false] rfl) (by simp; omega) ?_; intro v1 w1 o1 hT1; have hBa : Below w.heap.size w (w.alloc (.cells #[.string s, .bool false] 153)) := (Below.refl _ _).alloc (Nat.le_refl _) _; have V1 := hT1.vblk (vblk_grow H.out.v hBa) (by decide); have T1 : Tq lo b w w1 := (Tq.of_below hBa hlo).trans (Tq.of_ty hT1); obtain ⟨a1, n1, k1, rfl⟩ := o1.slice) | (refine wpList_store_ts rfl _ _ rfl b 0 a1 n1 k1 rfl rfl V1 (by simp) ?_; intro w2 hO2 V2; replace o1 := o1.only hO2 V1 (by decide); have T2 : Tq lo b w w2 := T1.trans (Tq.of_only hO2)) | (fail))
  go_end0
  exact ⟨⟨_, rfl⟩, ⟨_, o1.top, V2⟩, T2⟩

theorem use_any (i : Nat) (w : World) (lo hi b : Nat) (sv : Value) (ss : List (ByteArray × Bool)) (A : Int) (h : RV w lo hi b sv ss A) (hi' : i < ss.length) :
    Calls Try.prog 127 #[.pointer (some ⟨b, 0, none⟩), .int .i64 i] w fun e w' => (∃ u, e = .returned u) ∧ RV w' lo hi b sv (ss.set i (ss[i].1, true)) A ∧ Tq lo b w w' := by
  obtain ⟨a, cap, rfl⟩ := h.o.rd.form
  obtain ⟨c0, c1⟩ := cells2 h.v
  have H : Hid (RV w lo hi b (.slice a ss.length cap) ss A) := h
  obtain ⟨g, rfl, hg, d0, d1, f1⟩ := ownT_cell h.o i hi'
  have hlt : (i : Int) < (ss.length : Int) := by omega
  clear h
  go_enter Try.func127, Try.ntmps127
  go_wp2
  go_end0
  have hT := ownT_ty H.out.o (by omega) (i * 2 + 1) (.bool true)
  exact ⟨⟨_, rfl⟩, ⟨ownT_set H.out.o i hi' true, hT.vblk H.out.v (by decide)⟩, Tq.of_ty hT⟩
end Go.Proofs.Ytmnjmghlkiljhaa.rg
