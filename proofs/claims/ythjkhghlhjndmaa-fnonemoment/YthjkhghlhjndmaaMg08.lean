/- Texts laid together: HdMath11 Cw3 Cw4 CrOpen Cr2 In1 Sp4 Ok1 Ok2. -/
import Derived.Test.YthjkhghlhjndmaaMg07
import Derived.Test.YthjkhghlhjndmaaCe5
import Derived.Test.YthjkhghlhjndmaaMg04
import Derived.Laws.AppendOwnNone
import Derived.Deep.DeepCutAuto
/- Whether a crew is right, as a loop over its hands tells it: plain mathematics. -/
namespace Go.Proofs.Ythjkhghlhjndmaa.ce
open Go.ChangeShapes Go.WideShapes Go.ChangeAt Go.RowKit
set_option linter.unusedVariables false

/-- the first i hands are right -/
def FirstOk (H : List C) (ds : List Hd) (i : Nat) : Prop := ∀ j (hj : j < ds.length), j < i → OkH H ds[j] ∧ ∀ k (hk : k < ds.length), k < j → 0 ≤ ds[j].own → ds[k].own ≠ ds[j].own
theorem crew_first {H : List C} {ds : List Hd} (hok : heapOk H) (hl : ds.length ≤ 4) : CrewOk H ds ↔ FirstOk H ds ds.length := by
  constructor
  · intro c j hj _
    exact ⟨c.hands _ (List.getElem_mem hj), fun k hk hkj h0 => c.apart j k hj hk (by omega) h0⟩
  · intro f
    refine ⟨hok, hl, fun d hd => ?_, fun i k hi hk hne h0 q => ?_⟩
    · obtain ⟨j, hj, rfl⟩ := List.getElem_of_mem hd
      exact (f j hj hj).1
    · rcases Nat.lt_or_gt_of_ne hne with h | h
      · exact (f i hi hi).2 k hk h h0 q
      · exact (f k hk hk).2 i hi h (by rw [q]; exact h0) q.symm
theorem first_zero (H : List C) (ds : List Hd) : FirstOk H ds 0 := fun j _ h => by omega
theorem first_succ {H : List C} {ds : List Hd} {i : Nat} (hi : i < ds.length) (f : FirstOk H ds i) (h1 : OkH H ds[i]) (h2 : ∀ k (hk : k < ds.length), k < i → 0 ≤ ds[i].own → ds[k].own ≠ ds[i].own) : FirstOk H ds (i + 1) := by
  intro j hj hji
  by_cases e : j = i
  · subst e; exact ⟨h1, h2⟩
  · exact f j hj (by omega)
open Classical in
noncomputable def crewB (H : List C) (ds : List Hd) : Bool := decide (CrewOk H ds)
open Classical in
theorem crewB_iff {H : List C} {ds : List Hd} : crewB H ds = true ↔ CrewOk H ds := by unfold crewB; simp
open Classical in
theorem crewB_false {H : List C} {ds : List Hd} (h : ¬ CrewOk H ds) : crewB H ds = false := by unfold crewB; exact decide_eq_false h
open Classical in
theorem crewB_true {H : List C} {ds : List Hd} (h : CrewOk H ds) : crewB H ds = true := by unfold crewB; exact decide_eq_true h
/-- a run of picks; what can't be is passed over -/
def runP : List C → List Hd → List Int → List C × List Hd
  | H, ds, [] => (H, ds)
  | H, ds, q :: qs => if h : 0 ≤ q ∧ q < (ds.length : Int) then runP (pickH H ds q.toNat (by omega)) (pickD H ds q.toNat (by omega)) qs else runP H ds qs
theorem crew_run : ∀ (qs : List Int) (H : List C) (ds : List Hd), CrewOk H ds → CrewOk (runP H ds qs).1 (runP H ds qs).2
  | [], H, ds, c => c
  | q :: qs, H, ds, c => by
    unfold runP
    split
    · exact crew_run qs _ _ (crew_pick c _ _)
    · exact crew_run qs _ _ c
end Go.Proofs.Ythjkhghlhjndmaa.ce
/- The model's pick in a crew's own variable: exactly, whoever is asked for. -/
namespace Go.Proofs.Ythjkhghlhjndmaa.ce
open Go.ChangeShapes Go.WideShapes Go.ChangeAt Go.RowKit
set_option linter.unusedVariables false

/-- a crew lies in its variable b; its heap and its hands are rows of their own -/
structure Cx (w0 w : World) (b : Nat) (vH : Value) (H : List C) (vD : Value) (ds : List Hd) : Prop where
  crew : VBlk w b 31 [vH, vD]
  heap : Own w w0.heap.size w.heap.size vH H
  hands : OwnH w w0.heap.size w.heap.size vD ds
  hb : ∀ g, vH.ownBlock = some g → g ≠ b
  db : ∀ q, vD.ownBlock = some q → q ≠ b
  hd : ∀ g, vH.ownBlock = some g → vD.ownBlock = some g → False
  blo : w0.heap.size ≤ b
theorem pick_below {w0 w w2 w3 : World} {b q : Nat} (hq1 : w0.heap.size ≤ q) (hb : w0.heap.size ≤ b) (mv : Mw w0.heap.size q w.drew w2) (hO : Only b w2 w3) : Below w0.heap.size w w3 := by
  have := mv.below (B := w0.heap.size) (Nat.le_refl _) hq1
  exact Below.trans ⟨this.os, this.tape, this.output, this.size, this.block⟩ (hO.2.2 _ hb)
theorem pick_cx {w0 w w2 w3 : World} {b g q cg cq i g2 cap2 : Nat} {H H2 : List C} {ds : List Hd} {sp : List Value} {d2 : Hd} (c : Cx w0 w b (.slice (some ⟨g, 0, none⟩) H.length cg) H (.slice (some ⟨q, 0, none⟩) ds.length cq) ds) (hi : i < ds.length)
    (hVq : VBlk w q 58 (hvs ds ++ sp)) (hq1 : w0.heap.size ≤ q) (hcq1 : ds.length ≤ cq) (hcq2 : cq ≤ maxLen) (hcq3 : (hvs ds ++ sp).length = cq * 8)
    (me : Me w2 w0.heap.size g2 q (i * 8) 58 (hvs (ds.take i)) (hvs (ds.drop (i + 1)) ++ sp) (.slice (some ⟨g2, 0, none⟩) H2.length cap2) H2 d2) (mv : Mw w0.heap.size q w.drew w2) {vs : List Value} (hc2 : VBlk w2 b 31 vs) (hO : Only b w2 w3) (hV : VBlk w3 b 31 [.slice (some ⟨g2, 0, none⟩) H2.length cap2, .slice (some ⟨q, 0, none⟩) ds.length cq]) :
    Cx w0 w3 b (.slice (some ⟨g2, 0, none⟩) H2.length cap2) H2 (.slice (some ⟨q, 0, none⟩) ds.length cq) (ds.set i d2) := by
  have hb := c.blo
  have hqb : q ≠ b := c.db q rfl
  have hgl := me.glo
  have hg2b : g2 ≠ b := apart_hb me.own hc2 g2 rfl
  have hgw := me.gw
  have hsz : w.heap.size ≤ w2.heap.size := mv.size
  have hz3 := hO.1
  have hqw : q < w.heap.size := (c.hands.lo q rfl).2.2
  have hrow : VBlk w3 q 58 (hvs (ds.set i d2) ++ sp) := by
    have h8 := me.hand
    rw [Nat.mul_comm i 8] at h8
    exact (HA.to_row hi h8).of (hO.2.1 q hqb)
  have own3 : Own w3 w0.heap.size w3.heap.size (.slice (some ⟨g2, 0, none⟩) H2.length cap2) H2 := (own_keepB me.own fun k hk => hO.2.1 k (by cases hk; exact hg2b)).wide (by omega) (by omega)
  have hands3 : OwnH w3 w0.heap.size w3.heap.size (.slice (some ⟨q, 0, none⟩) (ds.set i d2).length cq) (ds.set i d2) := ownH_of hrow hq1 (by omega) (by simpa using hcq1) hcq2 (by simpa [hvs_len] using hcq3)
  rw [List.length_set] at hands3
  exact ⟨hV, own3, hands3, fun k hk => (by cases hk; exact hg2b), fun k hk => (by cases hk; exact hqb), fun k h1 h2 => apart_hd own3 hands3 k h1 h2, hb⟩
/-- whoever is asked for -/
def pickHZ (H : List C) (ds : List Hd) (who : Int) : List C := if h : 0 ≤ who ∧ who < (ds.length : Int) then pickH H ds who.toNat (by omega) else H
def pickDZ (H : List C) (ds : List Hd) (who : Int) : List Hd := if h : 0 ≤ who ∧ who < (ds.length : Int) then pickD H ds who.toNat (by omega) else ds
def pickBZ (ds : List Hd) (who : Int) : Bool := if h : 0 ≤ who ∧ who < (ds.length : Int) then decide ((ds[who.toNat]'(by omega)).step ≠ 5) else false

set_option maxRecDepth 100000 in
set_option maxHeartbeats 2000000 in
theorem l6PickX (w0 w : World) (b : Nat) (vH : Value) (H : List C) (vD : Value) (ds : List Hd) (c : Cx w0 w b vH H vD ds) (hlen : 1 ≤ H.length ∧ H.length ≤ 40) (hl : ds.length ≤ 1000) (who : Int) (hbd : ∀ d ∈ ds, Bd H.length d) :
    Calls Try.prog 61 #[.pointer (some ⟨b, 0, none⟩), .int .i64 who] w fun e w' => e = .returned (.bool (pickBZ ds who)) ∧ ∃ vH', Cx w0 w' b vH' (pickHZ H ds who) vD (pickDZ H ds who) ∧ Below w0.heap.size w w' := by
  have hcr0 := c.crew.cell 0 (by simp)
  have hcr1 := c.crew.cell 1 (by simp)
  simp only [List.getElem_cons_zero, List.getElem_cons_succ] at hcr0 hcr1
  obtain ⟨va, vc, evd⟩ := c.hands.len
  by_cases hr : 0 ≤ who ∧ who < (ds.length : Int)
  case neg =>
    have e1 : Hid (pickHZ H ds who = H) := dif_neg hr
    have e2 : Hid (pickDZ H ds who = ds) := dif_neg hr
    have e3 : Hid (pickBZ ds who = false) := dif_neg hr
    rw [e1.out, e2.out, e3.out]
    subst evd
    have CN : Hid (Cx w0 w b vH H (.slice va ds.length vc) ds) := c
    clear c hbd
    by_cases h0 : who < 0
    · go_enter Try.func61, Try.ntmps61
      go_wp2
      go_ret
      first | exact ⟨rfl, _, CN.out, Below.refl _ _⟩ | exact ⟨rfl, ⟨_, CN.out⟩, Below.refl _ _⟩
    · have h1 : who ≥ (ds.length : Int) := by omega
      have h1' : ¬ who < (ds.length : Int) := by omega
      go_enter Try.func61, Try.ntmps61
      go_wp2
      go_ret
      first | exact ⟨rfl, _, CN.out, Below.refl _ _⟩ | exact ⟨rfl, ⟨_, CN.out⟩, Below.refl _ _⟩
  clear evd va vc hcr0 hcr1
  obtain ⟨i, rfl⟩ : ∃ i : Nat, who = i := ⟨who.toNat, by omega⟩
  have hi : i < ds.length := by omega
  have eH : pickHZ H ds (i : Int) = pickH H ds i hi := by unfold pickHZ; rw [dif_pos hr]; rfl
  have eD : pickDZ H ds (i : Int) = pickD H ds i hi := by unfold pickDZ; rw [dif_pos hr]; rfl
  have eB : pickBZ ds (i : Int) = decide (ds[i].step ≠ 5) := by unfold pickBZ; rw [dif_pos hr]; rfl
  rw [eH, eD, eB]
  clear eH eD eB hr
  have bd := hbd _ (List.getElem_mem hi)
  clear hbd
  obtain ⟨q, cq, sp, rfl, hq1, hq2, hq3, hVq, hcq1, hcq2, hcq3⟩ := c.hands.form (by omega)
  obtain ⟨g, cg, rfl, hg1, hg2, -⟩ := c.heap.form hlen.1
  have hha := HA.of_row hVq i hi
  have hcr0 := c.crew.cell 0 (by simp)
  have hcr1 := c.crew.cell 1 (by simp)
  simp only [List.getElem_cons_zero, List.getElem_cons_succ] at hcr0 hcr1
  obtain ⟨d, hd⟩ : ∃ d, ds[i] = d := ⟨_, rfl⟩
  rw [hd] at hha bd
  have CN : Hid (Cx w0 w b (.slice (some ⟨g, 0, none⟩) H.length cg) H (.slice (some ⟨q, 0, none⟩) ds.length cq) ds) := c
  have BD : Hid (Bd H.length d) := bd
  have VQ : Hid (VBlk w q 58 (hvs ds ++ sp)) := hVq
  have HAH : Hid (HA w q (8 * i) 58 (hvs (ds.take i)) (hvs (ds.drop (i + 1)) ++ sp) d) := hha
  have hi' : (i : Int) < (ds.length : Int) := by omega
  have hst := hha.cell 3 (by omega)
  have hst' : w.cell? ⟨q, i * 8 + 3, none⟩ = some (.int .i64 d.step) := by rw [Nat.mul_comm i 8]; exact hst
  have GL : Hid (1 ≤ H.length ∧ H.length ≤ 40) := hlen
  have hqb : b ≠ q := fun z => c.db q rfl z.symm
  have hgq : g ≠ q := fun z => c.hd g rfl (by rw [z]; rfl)
  have hbw : b < w.heap.size := c.crew.lt
  clear hst c bd hVq hha
  by_cases h5 : d.step = 5
  · have g5 : (d.step == 5) = true := by simpa using h5
    have e1 : Hid (pickH H ds i hi = H) := if_pos (by rw [hd]; exact h5)
    have e2 : Hid (pickD H ds i hi = ds) := if_pos (by rw [hd]; exact h5)
    have e3 : Hid (decide (ds[i].step ≠ 5) = false) := decide_eq_false (by rw [hd]; exact fun z => z h5)
    rw [e1.out, e2.out, e3.out]
    clear h5 hd
    go_enter Try.func61, Try.ntmps61
    go_wp2
    go_ret
    first | exact ⟨rfl, _, CN.out, Below.refl _ _⟩ | exact ⟨rfl, ⟨_, CN.out⟩, Below.refl _ _⟩
  · have g5 : (d.step == 5) = false := by simpa using h5
    have e1 : Hid (pickH H ds i hi = (ce.move H d).1) := by unfold Hid pickH; rw [if_neg (by rw [hd]; exact h5), hd]
    have e2 : Hid (pickD H ds i hi = ds.set i (ce.move H d).2) := by unfold Hid pickD; rw [if_neg (by rw [hd]; exact h5), hd]
    have e3 : Hid (decide (ds[i].step ≠ 5) = true) := decide_eq_true (by rw [hd]; exact h5)
    rw [e1.out, e2.out, e3.out]
    clear h5 hd
    go_enter Try.func61, Try.ntmps61
    go_wp2
    refine wp_region_held_drew (S := fun _ => True) (by kernel_rfl) trivial (fun hHeld => ?_)
    refine takeW 0 27 (.pointer (some ⟨b, 0, none⟩)) rfl (by kernel_rfl) (by kernel_rfl) (by kernel_rfl) (fun _ _ _ h => h) (by kernel_rfl) (fun w' hS => by go_simp) hHeld ?_
    go_frame
    refine takeW 1 28 (.pointer (some ⟨b, 0, none⟩)) rfl (by kernel_rfl) (by kernel_rfl) (by kernel_rfl) (fun _ _ _ h => h) (by kernel_rfl) (fun w' hS => by go_simp) hHeld ?_
    go_frame
    refine takeW 2 29 (.pointer (some ⟨b, 0, none⟩)) rfl (by kernel_rfl) (by kernel_rfl) (by kernel_rfl) (fun _ _ _ h => h) (by kernel_rfl) (fun w' hS => by go_simp) hHeld ?_
    go_frame
    refine takeW 3 30 (.pointer (some ⟨b, 0, none⟩)) rfl (by kernel_rfl) (by kernel_rfl) (by kernel_rfl) (fun _ _ _ h => h) (by kernel_rfl) (fun w' hS => by go_simp) hHeld ?_
    go_frame
    refine takeW 5 32 (.pointer (some ⟨b, 0, none⟩)) rfl (by kernel_rfl) (by kernel_rfl) (by kernel_rfl) (fun _ _ _ h => h) (by kernel_rfl) (fun w' hS => by go_simp) hHeld ?_
    go_frame
    refine takeW 6 33 (.pointer (some ⟨b, 0, none⟩)) rfl (by kernel_rfl) (by kernel_rfl) (by kernel_rfl) (fun _ _ _ h => h) (by kernel_rfl) (fun w' hS => by go_simp) hHeld ?_
    go_frame
    refine takeW 7 34 (.pointer (some ⟨b, 1, none⟩)) rfl (by kernel_rfl) (by kernel_rfl) (by kernel_rfl) (fun _ _ _ h => h) (by kernel_rfl) (fun w' hS => by go_simp) hHeld ?_
    go_frame
    refine takeW 9 36 (.int .i64 (i : Int)) rfl (by kernel_rfl) (by kernel_rfl) (by kernel_rfl) (fun _ _ _ h => h) (by kernel_rfl) (fun w' hS => by go_simp) hHeld ?_
    go_frame
    have hcr0d : w.drew.cell? ⟨b, 0, none⟩ = some (.slice (some ⟨g, 0, none⟩) H.length cg) := hcr0
    have hcr1d : w.drew.cell? ⟨b, 1, none⟩ = some (.slice (some ⟨q, 0, none⟩) ds.length cq) := hcr1
    refine wpAnyH_ready (rs := [4, 8]) (by kernel_rfl) (by simp) ?_
    refine AllReadyH.cons rfl (fun K hK => ?_) ( AllReadyH.cons rfl (fun K hK => ?_) AllReadyH.nil)
    · go_simp
      refine hK.out _ _ trivial (fun _ => ?_)
      try go_frame
      refine wpAnyH_ready (rs := [8]) (by kernel_rfl) (by simp) ?_
      refine AllReadyH.cons rfl (fun K hK => ?_) AllReadyH.nil
      go_simp
      refine hK.out _ _ trivial (fun _ => ?_)
      try go_frame
      refine takeW 10 37 (.pointer (some ⟨q, i * 8, none⟩)) rfl (by kernel_rfl) (by kernel_rfl) (by kernel_rfl) (fun _ _ _ h => h) (by kernel_rfl) (fun w' hS => by go_simp) trivial ?_
      go_frame
      refine wpAnyH_ready (rs := [11]) (by kernel_rfl) (by simp) ?_
      refine AllReadyH.cons rfl (fun K hK => ?_) AllReadyH.nil
      go_simp
      go_at_call 90
      have me : Me w.drew w0.heap.size g q (i * 8) 58 (hvs (ds.take i)) (hvs (ds.drop (i + 1)) ++ sp) (.slice (some ⟨g, 0, none⟩) H.length cg) H d := ⟨own_block CN.out.heap, hg1, hgq, by show g < w.heap.size; omega, by rw [Nat.mul_comm i 8]; exact ⟨HAH.out.blk, HAH.out.off⟩, by show w0.heap.size ≤ w.heap.size; have := CN.out.blo; omega, GL.out⟩
      refine (l5MoveA H d (.slice (some ⟨g, 0, none⟩) H.length cg) w0.heap.size g q (i * 8) 58 _ _ w.drew me BD.out).mono ?_
      rintro er w2 ⟨v2, g2, rfl, me2, mv2⟩
      obtain ⟨cap2, rfl⟩ := me2.form
      have crew2 : VBlk w2 b 31 [.slice (some ⟨g, 0, none⟩) H.length cg, .slice (some ⟨q, 0, none⟩) ds.length cq] := CN.out.crew.of (mv2.kind b _ _ _ hqb CN.out.crew (by decide))
      refine hK.out _ _ trivial (fun _ => ?_)
      try go_frame
      refine takeW 12 39 (.pointer (some ⟨b, 0, none⟩)) rfl (by kernel_rfl) (by kernel_rfl) (by kernel_rfl) (fun _ _ _ h => h) (by kernel_rfl) (fun w' hS => by go_simp) trivial ?_
      go_frame
      refine takeW 13 40 (.pointer (some ⟨b, 0, none⟩)) rfl (by kernel_rfl) (by kernel_rfl) (by kernel_rfl) (fun _ _ _ h => h) (by kernel_rfl) (fun w' hS => by go_simp) trivial ?_
      go_frame
      refine wpAnyH_ready (rs := [14]) (by kernel_rfl) (by simp) ?_
      refine AllReadyH.cons rfl (fun K2 hK2 => ?_) AllReadyH.nil
      refine step_store_c rfl _ _ rfl b 0 (some ⟨g2, 0, none⟩) (ce.move H d).1.length cap2 rfl rfl crew2 (by simp) ?_
      intro w3 hO3 hV3
      refine hK2.out _ _ trivial (fun _ => ?_)
      refine wpAnyH_done (by kernel_rfl) ?_ _
      go_wp2
      go_ret
      exact ⟨rfl, _, pick_cx CN.out hi VQ.out hq1 hcq1 hcq2 hcq3 me2 mv2 crew2 hO3 hV3, pick_below hq1 CN.out.blo mv2 hO3⟩
    · go_simp
      refine hK.out _ _ trivial (fun _ => ?_)
      try go_frame
      refine takeW 10 37 (.pointer (some ⟨q, i * 8, none⟩)) rfl (by kernel_rfl) (by kernel_rfl) (by kernel_rfl) (fun _ _ _ h => h) (by kernel_rfl) (fun w' hS => by go_simp) trivial ?_
      go_frame
      refine wpAnyH_ready (rs := [4]) (by kernel_rfl) (by simp) ?_
      refine AllReadyH.cons rfl (fun K hK => ?_) AllReadyH.nil
      go_simp
      refine hK.out _ _ trivial (fun _ => ?_)
      try go_frame
      refine wpAnyH_ready (rs := [11]) (by kernel_rfl) (by simp) ?_
      refine AllReadyH.cons rfl (fun K hK => ?_) AllReadyH.nil
      go_simp
      go_at_call 90
      have me : Me w.drew w0.heap.size g q (i * 8) 58 (hvs (ds.take i)) (hvs (ds.drop (i + 1)) ++ sp) (.slice (some ⟨g, 0, none⟩) H.length cg) H d := ⟨own_block CN.out.heap, hg1, hgq, by show g < w.heap.size; omega, by rw [Nat.mul_comm i 8]; exact ⟨HAH.out.blk, HAH.out.off⟩, by show w0.heap.size ≤ w.heap.size; have := CN.out.blo; omega, GL.out⟩
      refine (l5MoveA H d (.slice (some ⟨g, 0, none⟩) H.length cg) w0.heap.size g q (i * 8) 58 _ _ w.drew me BD.out).mono ?_
      rintro er w2 ⟨v2, g2, rfl, me2, mv2⟩
      obtain ⟨cap2, rfl⟩ := me2.form
      have crew2 : VBlk w2 b 31 [.slice (some ⟨g, 0, none⟩) H.length cg, .slice (some ⟨q, 0, none⟩) ds.length cq] := CN.out.crew.of (mv2.kind b _ _ _ hqb CN.out.crew (by decide))
      refine hK.out _ _ trivial (fun _ => ?_)
      try go_frame
      refine takeW 12 39 (.pointer (some ⟨b, 0, none⟩)) rfl (by kernel_rfl) (by kernel_rfl) (by kernel_rfl) (fun _ _ _ h => h) (by kernel_rfl) (fun w' hS => by go_simp) trivial ?_
      go_frame
      refine takeW 13 40 (.pointer (some ⟨b, 0, none⟩)) rfl (by kernel_rfl) (by kernel_rfl) (by kernel_rfl) (fun _ _ _ h => h) (by kernel_rfl) (fun w' hS => by go_simp) trivial ?_
      go_frame
      refine wpAnyH_ready (rs := [14]) (by kernel_rfl) (by simp) ?_
      refine AllReadyH.cons rfl (fun K2 hK2 => ?_) AllReadyH.nil
      refine step_store_c rfl _ _ rfl b 0 (some ⟨g2, 0, none⟩) (ce.move H d).1.length cap2 rfl rfl crew2 (by simp) ?_
      intro w3 hO3 hV3
      refine hK2.out _ _ trivial (fun _ => ?_)
      refine wpAnyH_done (by kernel_rfl) ?_ _
      go_wp2
      go_ret
      exact ⟨rfl, _, pick_cx CN.out hi VQ.out hq1 hcq1 hcq2 hcq3 me2 mv2 crew2 hO3 hV3, pick_below hq1 CN.out.blo mv2 hO3⟩
end Go.Proofs.Ythjkhghlhjndmaa.ce
/- Contract: the model's copy of a crew. -/
namespace Go.Proofs.Ythjkhghlhjndmaa.ce
open Go.ChangeShapes Go.WideShapes Go.ChangeAt Go.RowKit
set_option linter.unusedVariables false

theorem ownH_lit (w : World) : OwnH (w.alloc (.cells #[] 58)) w.heap.size (w.heap.size + 1) (.slice (some ⟨w.heap.size, 0, none⟩) 0 0) [] :=
  ⟨⟨rfl, .inr ⟨w.heap.size, 0, #[], rfl, Nat.le_refl _, heap_alloc_new _ _, Nat.le_refl _, Nat.zero_le _, rfl, rfl⟩⟩, fun k hk => by cases hk; exact Nat.lt_succ_self _⟩
/-- a nil slice has no room -/
def NilOk (v : Value) : Prop := ∀ n c, v = .slice none n c → n = 0 ∧ c = 0
theorem OwnH.nilOk {w : World} {lo hi : Nat} {v : Value} {ds : List Hd} (o : OwnH w lo hi v ds) : NilOk v := by
  intro n c e
  rcases o.row.2 with ⟨rfl, -⟩ | ⟨g, cap, cur, rfl, -⟩
  · cases e; exact ⟨rfl, rfl⟩
  · cases e
/-- hands that are read are laid behind those of a row of one's own -/
theorem step_append_rd {o : Oper} {a : Act} {w : World} {ops : Array Oper} {K : Act → World → Prop} {Q : Exit → Act → World → Prop} {E : Prop} (hgd : o.guard = none) (s x : Operand) (t : TypeId) (ho : o.op = .call { callee := .builtin .append, args := #[s, x], argTypes := #[t, t] }) (ht : Try.prog.underlying t = some (.slice 58))
    (lo hi : Nat) (v : Value) (es : List Hd) (hs : a.eval s = v) (hown : OwnH w lo hi v es) (hlo : lo ≤ w.heap.size) (ds : List Hd) (c : Option Addr) (dc : Nat) (hx : a.eval x = .slice c ds.length dc) (hi' : Nat) (r : RdH w hi' (.slice c ds.length dc) ds) (hn : NilOk (.slice c ds.length dc)) (hlen : es.length + ds.length ≤ 1000)
    (h : ∀ v' w', OwnH w' lo w'.heap.size v' (es ++ ds) → w.grownBy w' v.ownBlock → K (a.put o.dst v') w') :
    if Region.wanted o (yielded ops a.tmps) = true then Oper.wp Try.prog o a w K Q else E := by
  have hw : Region.wanted o (yielded ops a.tmps) = true := by simp [Region.wanted, hgd]
  rw [if_pos hw]
  obtain ⟨i0, hi0, hz0, hz1, hz2⟩ := infoH
  cases c with
  | none =>
    obtain ⟨h0, hc0⟩ := hn _ _ rfl
    have e := List.eq_nil_of_length_eq_zero h0
    subst e
    subst hc0
    have hrun := run_append_owned_none (P := Try.prog) (w := w) lo t o.type 58 i0 8 ht hi0 v es.length (hvs es) hown.row
    unfold Oper.wp
    simp only [List.length_nil] at hx
    simp [execOp, ho, resolve, invoke, builtin, hs, hx, hrun, Result.andThen]
    refine h v w ⟨by simpa using hown.row, fun g hg => (hown.lo g hg).2.2⟩ ⟨rfl, rfl, rfl, Nat.le_refl _, fun _ _ _ => rfl⟩
  | some ad =>
    have hnews : ∀ j u, (hvs ds)[j]? = some u → w.cell? (ad.add j) = some u := by
      by_cases e : ds = []
      · subst e; intro j u hj; simp [hvs] at hj
      · obtain ⟨a', cap', e', -, -, h3⟩ := r.fits
        cases e'
        obtain ⟨b, off, e2, -, h5⟩ := h3 e
        cases e2
        intro j u hj
        rw [Addr.add_mid]; exact h5 j u hj
    refine wp_append_own w s x t ho lo 58 i0 _ 8 64 ht hi0 hz0 hz1 hz2 rfl (by decide) v es.length (hvs es) hs hown.row ad ds.length dc (hvs ds) hx (hvs_len ds) hnews (hvs_one ds) (by unfold maxLen; omega) (by omega) hlo ?_
    intro v' w' h2 h3 h4
    rw [← hvs_append] at h2
    exact h v' w' ⟨by rw [List.length_append]; exact h2, fun g hg => (h2.lt g hg).2⟩ h3

set_option maxRecDepth 100000 in
set_option maxHeartbeats 2000000 in
theorem l6Copy_any (H : List C) (ds : List Hd) (vH vD : Value) (hi : Nat) (w : World) (hh : hi ≤ w.heap.size) (rH : Rd w hi vH H) (rD : RdH w hi vD ds) (hn : NilOk vD) (hlen : 1 ≤ H.length ∧ H.length ≤ 40) (hl : ds.length ≤ 4) :
    Calls Try.prog 52 #[.agg #[vH, vD]] w fun e w' => ∃ vH' vD', e = .returned (.agg #[vH', vD']) ∧ Own w' w.heap.size w'.heap.size vH' H ∧ OwnH w' w.heap.size w'.heap.size vD' ds ∧ Below w.heap.size w w' := by
  obtain ⟨a, cap, rfl⟩ := rH.form
  obtain ⟨c, dc, rfl⟩ := rD.form
  have RH : Hid (Rd w hi (.slice a H.length cap) H) := rH
  have RD : Hid (RdH w hi (.slice c ds.length dc) ds) := rD
  have NIL : Hid (NilOk (.slice c ds.length dc)) := hn
  clear rH rD hn
  go_enter Try.func52, Try.ntmps52
  go_wp2_with (first | (refine wpList_box_v rfl 31 _ rfl [.slice a H.length cap, .slice c ds.length dc] rfl ?_; intro b1 w1 hb1 hw1 hB1 hV1; have hz1 := hB1.size) | (refine wpList_alloc_v rfl 31 rfl _ zeroCr ?_; intro b2 w2 hb2 hw2 hB2 hV2; have hz2 := hB2.size; have hV1' := hV1.of (hB2.block b1 hw1); have cr0 := hV1'.cell 0 (by simp); have cr1 := hV1'.cell 1 (by simp); simp only [List.getElem_cons_zero, List.getElem_cons_succ] at cr0 cr1; have hB12 : Below w.heap.size w w2 := hB1.trans (hB2.mono hz1)) | (fail))
  refine wp_region_held_drew (S := fun w' => w'.cell? ⟨b1, 0, none⟩ = some (.slice a H.length cap) ∧ w'.cell? ⟨b1, 1, none⟩ = some (.slice c ds.length dc)) (by kernel_rfl) ⟨cr0, cr1⟩ (fun hHeld => ?_)
  refine takeW 0 3 (.pointer (some ⟨b1, 0, none⟩)) rfl (by kernel_rfl) (by kernel_rfl) (by kernel_rfl) (fun _ _ _ h => h) (by kernel_rfl) (fun w' hS => by go_simp) hHeld ?_
  go_frame
  refine takeW 1 4 (.slice a H.length cap) rfl (by kernel_rfl) (by kernel_rfl) (by kernel_rfl) (fun _ _ _ h => h) (by kernel_rfl) (fun w' hS => by have z := hS.1; go_simp) hHeld ?_
  go_frame
  refine takeW 4 7 (.pointer (some ⟨b1, 1, none⟩)) rfl (by kernel_rfl) (by kernel_rfl) (by kernel_rfl) (fun _ _ _ h => h) (by kernel_rfl) (fun w' hS => by go_simp) hHeld ?_
  go_frame
  refine takeW 5 8 (.slice c ds.length dc) rfl (by kernel_rfl) (by kernel_rfl) (by kernel_rfl) (fun _ _ _ h => h) (by kernel_rfl) (fun w' hS => by have z := hS.2; go_simp) hHeld ?_
  go_frame
  have hBX : Below w2.heap.size w2 w2.drew := (Below.refl _ _).drew
  have hzd : w2.heap.size ≤ w2.drew.heap.size := Nat.le_refl _
  refine wpAnyH_ready (rs := [2, 3]) (by kernel_rfl) (by simp) ?_
  refine AllReadyH.cons rfl (fun K hK => ?_) ( AllReadyH.cons rfl (fun K hK => ?_) AllReadyH.nil)
  · go_simp
    go_at_call 87
    refine (l3Copy_any H _ hi w2.drew (by omega) ((RH.out.below hB12 hh).below hBX (by omega)) hlen.1 (by omega)).mono ?_
    rintro er Xc ⟨v5, rfl, ho5, hBY⟩
    obtain ⟨g5, c5, rfl, -, -, -⟩ := ho5.form hlen.1
    have hzY : w2.drew.heap.size ≤ Xc.heap.size := hBY.size
    replace hBX : Below w2.heap.size w2 Xc := hBX.trans (hBY.mono (by omega))
    have hzX : w2.heap.size ≤ Xc.heap.size := hBX.size
    have hHeldX : Xc.cell? ⟨b1, 0, none⟩ = some (.slice a H.length cap) ∧ Xc.cell? ⟨b1, 1, none⟩ = some (.slice c ds.length dc) := ⟨(World.cell?_of_block (w := w2) (w' := Xc) (a := ⟨b1, 0, none⟩) (hBX.block b1 (by omega))).trans cr0, (World.cell?_of_block (w := w2) (w' := Xc) (a := ⟨b1, 1, none⟩) (hBX.block b1 (by omega))).trans cr1⟩
    refine hK.out _ _ hHeldX (fun _ => ?_)
    try go_frame
    refine wpAnyH_ready (rs := [3]) (by kernel_rfl) (by simp) ?_
    refine AllReadyH.cons rfl (fun K hK => ?_) AllReadyH.nil
    go_simp
    have hBY : Below Xc.heap.size Xc (Xc.alloc (.cells #[] 58)) := (Below.refl Xc.heap.size Xc).alloc (Nat.le_refl _) _
    have hoE : OwnH (Xc.alloc (.cells #[] 58)) Xc.heap.size (Xc.heap.size + 1) (.slice (some ⟨Xc.heap.size, 0, none⟩) 0 0) [] := ownH_lit Xc
    obtain ⟨Xe, hY⟩ : ∃ Y, Xc.alloc (.cells #[] 58) = Y := ⟨_, rfl⟩
    have hzE : Xe.heap.size = Xc.heap.size + 1 := by rw [← hY]; simp
    rw [hY] at hBY hoE ⊢
    have hzY : Xc.heap.size ≤ Xe.heap.size := hBY.size
    replace hoE := hoE.wide (Nat.le_refl _) (Nat.le_of_eq hzE.symm)
    replace ho5 := ho5.below hBY (by omega)
    replace hBX : Below w2.heap.size w2 Xe := hBX.trans (hBY.mono (by omega))
    have hzX : w2.heap.size ≤ Xe.heap.size := hBX.size
    have hHeldX : Xe.cell? ⟨b1, 0, none⟩ = some (.slice a H.length cap) ∧ Xe.cell? ⟨b1, 1, none⟩ = some (.slice c ds.length dc) := ⟨(World.cell?_of_block (w := w2) (w' := Xe) (a := ⟨b1, 0, none⟩) (hBX.block b1 (by omega))).trans cr0, (World.cell?_of_block (w := w2) (w' := Xe) (a := ⟨b1, 1, none⟩) (hBX.block b1 (by omega))).trans cr1⟩
    refine hK.out _ _ hHeldX (fun _ => ?_)
    try go_frame
    refine wpAnyH_ready (rs := [6]) (by kernel_rfl) (by simp) ?_
    refine AllReadyH.cons rfl (fun K hK => ?_) AllReadyH.nil
    refine step_append_rd rfl _ _ 29 rfl Try.underlying29 _ _ _ [] rfl hoE (by omega) ds c dc rfl hi ((RD.out.below hB12 hh).below hBX (by omega)) NIL.out (by simp; omega) ?_
    intro v9 Xa ho9 hg9
    have hBY : Below w2.heap.size Xe Xa := below_grown hg9 (by omega) (fun k hk => (by have := (hoE.lo k hk).1; omega))
    have hzY : Xe.heap.size ≤ Xa.heap.size := hg9.size
    simp only [List.nil_append] at ho9
    obtain ⟨a9, c9, rfl⟩ := ho9.len
    replace ho5 := ho5.keep (w' := Xa) (fun j j1 j2 => hg9.block j (by omega) (fun q => by have z := hoE.lo j q.symm; have z1 := z.1; have z2 := z.2.1; omega))
    replace hBX : Below w2.heap.size w2 Xa := hBX.trans hBY
    have hzX : w2.heap.size ≤ Xa.heap.size := hBX.size
    have hHeldX : Xa.cell? ⟨b1, 0, none⟩ = some (.slice a H.length cap) ∧ Xa.cell? ⟨b1, 1, none⟩ = some (.slice c ds.length dc) := ⟨(World.cell?_of_block (w := w2) (w' := Xa) (a := ⟨b1, 0, none⟩) (hBX.block b1 (by omega))).trans cr0, (World.cell?_of_block (w := w2) (w' := Xa) (a := ⟨b1, 1, none⟩) (hBX.block b1 (by omega))).trans cr1⟩
    refine hK.out _ _ hHeldX (fun _ => ?_)
    try go_frame
    refine takeW 7 10 (.agg #[.slice (some ⟨g5, 0, none⟩) H.length c5, .slice a9 ds.length c9]) rfl (by kernel_rfl) (by kernel_rfl) (by kernel_rfl) (fun _ _ _ h => h) (by kernel_rfl) (fun w' hS => by go_simp) hHeldX ?_
    go_frame
    refine wpAnyH_ready (rs := [8]) (by kernel_rfl) (by simp) ?_
    refine AllReadyH.cons rfl (fun K hK => ?_) AllReadyH.nil
    refine step_store_v rfl 31 _ _ rfl b2 [.slice (some ⟨g5, 0, none⟩) H.length c5, .slice a9 ds.length c9] rfl rfl sizeCr (hV2.of (hBX.block b2 (by omega))) rfl (by simp [Value.oneCell']) ?_
    intro w9 hO9 hV9
    have hz9 := hO9.1
    refine hK.out _ _ ⟨(World.cell?_of_block (w := Xa) (w' := w9) (a := ⟨b1, 0, none⟩) (hO9.2.1 b1 (by omega))).trans hHeldX.1, (World.cell?_of_block (w := Xa) (w' := w9) (a := ⟨b1, 1, none⟩) (hO9.2.1 b1 (by omega))).trans hHeldX.2⟩ (fun _ => ?_)
    refine wpAnyH_done (by kernel_rfl) ?_ _
    go_wp2
    exact row_retv rfl rfl hV9 Try.underlying31 sizeCr rfl ⟨_, _, rfl, (ho5.keep fun j j1 j2 => hO9.2.1 j (by omega)).wide (by omega) (by omega), (ho9.keep fun j j1 j2 => hO9.2.1 j (by omega)).wide (by omega) (by omega), (hB12.trans (hBX.mono (by omega))).trans (hO9.2.2 _ (by omega))⟩
  · go_simp
    have hBY : Below w2.drew.heap.size w2.drew ((w2.alloc (.cells #[] 58)).drew) := (Below.refl w2.drew.heap.size w2.drew).alloc (Nat.le_refl _) _
    have hoE : OwnH ((w2.alloc (.cells #[] 58)).drew) w2.heap.size (w2.heap.size + 1) (.slice (some ⟨w2.heap.size, 0, none⟩) 0 0) [] := ownH_lit w2.drew
    obtain ⟨Xe, hY⟩ : ∃ Y, (w2.alloc (.cells #[] 58)).drew = Y := ⟨_, rfl⟩
    have hzE : Xe.heap.size = w2.heap.size + 1 := by rw [← hY]; simp
    rw [hY] at hBY hoE ⊢
    have hzY : w2.drew.heap.size ≤ Xe.heap.size := hBY.size
    replace hoE := hoE.wide (Nat.le_refl _) (Nat.le_of_eq hzE.symm)
    replace hBX : Below w2.heap.size w2 Xe := hBX.trans (hBY.mono (by omega))
    have hzX : w2.heap.size ≤ Xe.heap.size := hBX.size
    have hHeldX : Xe.cell? ⟨b1, 0, none⟩ = some (.slice a H.length cap) ∧ Xe.cell? ⟨b1, 1, none⟩ = some (.slice c ds.length dc) := ⟨(World.cell?_of_block (w := w2) (w' := Xe) (a := ⟨b1, 0, none⟩) (hBX.block b1 (by omega))).trans cr0, (World.cell?_of_block (w := w2) (w' := Xe) (a := ⟨b1, 1, none⟩) (hBX.block b1 (by omega))).trans cr1⟩
    refine hK.out _ _ hHeldX (fun _ => ?_)
    try go_frame
    refine wpAnyH_ready (rs := [2]) (by kernel_rfl) (by simp) ?_
    refine AllReadyH.cons rfl (fun K hK => ?_) AllReadyH.nil
    go_simp
    go_at_call 87
    refine (l3Copy_any H _ hi Xe (by omega) ((RH.out.below hB12 hh).below hBX (by omega)) hlen.1 (by omega)).mono ?_
    rintro er Xc ⟨v5, rfl, ho5, hBY⟩
    obtain ⟨g5, c5, rfl, -, -, -⟩ := ho5.form hlen.1
    have hzY : Xe.heap.size ≤ Xc.heap.size := hBY.size
    replace hoE := hoE.below hBY (by omega)
    replace hBX : Below w2.heap.size w2 Xc := hBX.trans (hBY.mono (by omega))
    have hzX : w2.heap.size ≤ Xc.heap.size := hBX.size
    have hHeldX : Xc.cell? ⟨b1, 0, none⟩ = some (.slice a H.length cap) ∧ Xc.cell? ⟨b1, 1, none⟩ = some (.slice c ds.length dc) := ⟨(World.cell?_of_block (w := w2) (w' := Xc) (a := ⟨b1, 0, none⟩) (hBX.block b1 (by omega))).trans cr0, (World.cell?_of_block (w := w2) (w' := Xc) (a := ⟨b1, 1, none⟩) (hBX.block b1 (by omega))).trans cr1⟩
    refine hK.out _ _ hHeldX (fun _ => ?_)
    try go_frame
    refine wpAnyH_ready (rs := [6]) (by kernel_rfl) (by simp) ?_
    refine AllReadyH.cons rfl (fun K hK => ?_) AllReadyH.nil
    refine step_append_rd rfl _ _ 29 rfl Try.underlying29 _ _ _ [] rfl hoE (by omega) ds c dc rfl hi ((RD.out.below hB12 hh).below hBX (by omega)) NIL.out (by simp; omega) ?_
    intro v9 Xa ho9 hg9
    have hBY : Below w2.heap.size Xc Xa := below_grown hg9 (by omega) (fun k hk => (by have := (hoE.lo k hk).1; omega))
    have hzY : Xc.heap.size ≤ Xa.heap.size := hg9.size
    simp only [List.nil_append] at ho9
    obtain ⟨a9, c9, rfl⟩ := ho9.len
    replace ho5 := ho5.keep (w' := Xa) (fun j j1 j2 => hg9.block j (by omega) (fun q => by have z := hoE.lo j q.symm; have z1 := z.1; have z2 := z.2.1; omega))
    replace hBX : Below w2.heap.size w2 Xa := hBX.trans hBY
    have hzX : w2.heap.size ≤ Xa.heap.size := hBX.size
    have hHeldX : Xa.cell? ⟨b1, 0, none⟩ = some (.slice a H.length cap) ∧ Xa.cell? ⟨b1, 1, none⟩ = some (.slice c ds.length dc) := ⟨(World.cell?_of_block (w := w2) (w' := Xa) (a := ⟨b1, 0, none⟩) (hBX.block b1 (by omega))).trans cr0, (World.cell?_of_block (w := w2) (w' := Xa) (a := ⟨b1, 1, none⟩) (hBX.block b1 (by omega))).trans cr1⟩
    refine hK.out _ _ hHeldX (fun _ => ?_)
    try go_frame
    refine takeW 7 10 (.agg #[.slice (some ⟨g5, 0, none⟩) H.length c5, .slice a9 ds.length c9]) rfl (by kernel_rfl) (by kernel_rfl) (by kernel_rfl) (fun _ _ _ h => h) (by kernel_rfl) (fun w' hS => by go_simp) hHeldX ?_
    go_frame
    refine wpAnyH_ready (rs := [8]) (by kernel_rfl) (by simp) ?_
    refine AllReadyH.cons rfl (fun K hK => ?_) AllReadyH.nil
    refine step_store_v rfl 31 _ _ rfl b2 [.slice (some ⟨g5, 0, none⟩) H.length c5, .slice a9 ds.length c9] rfl rfl sizeCr (hV2.of (hBX.block b2 (by omega))) rfl (by simp [Value.oneCell']) ?_
    intro w9 hO9 hV9
    have hz9 := hO9.1
    refine hK.out _ _ ⟨(World.cell?_of_block (w := Xa) (w' := w9) (a := ⟨b1, 0, none⟩) (hO9.2.1 b1 (by omega))).trans hHeldX.1, (World.cell?_of_block (w := Xa) (w' := w9) (a := ⟨b1, 1, none⟩) (hO9.2.1 b1 (by omega))).trans hHeldX.2⟩ (fun _ => ?_)
    refine wpAnyH_done (by kernel_rfl) ?_ _
    go_wp2
    exact row_retv rfl rfl hV9 Try.underlying31 sizeCr rfl ⟨_, _, rfl, (ho5.keep fun j j1 j2 => hO9.2.1 j (by omega)).wide (by omega) (by omega), (ho9.keep fun j j1 j2 => hO9.2.1 j (by omega)).wide (by omega) (by omega), (hB12.trans (hBX.mono (by omega))).trans (hO9.2.2 _ (by omega))⟩
end Go.Proofs.Ythjkhghlhjndmaa.ce
/- Hands and crews that came in as arguments, read as lists. -/
namespace Go.Proofs.Ythjkhghlhjndmaa.ce
open Go.ChangeShapes Go.WideShapes Go.ChangeAt Go.RowKit
open Go.Deep Go.Joins
set_option linter.unusedVariables false

theorem rdh_of_trod {H : Type} {enc : TypeId × Value → H} {w : World} {n : Nat} {v : Value} {x : DataW H × List MemPlace} (h : DataW.trod enc Try.prog w 0 (fun _ => true) true n 23 [v] = some x) : ∃ L, RdH w w.heap.size v L ∧ NilOk v := by
  rcases open_slice Try.underlying23 h with ⟨hcs, -⟩ | ⟨a, len, cap, m, n', D, Pl, hcs, -, hl, hm, hmm, -, hrow⟩
  · obtain rfl : v = .slice none 0 0 := by simpa using hcs
    exact ⟨[], ⟨none, 0, rfl, Nat.le_refl _, Nat.zero_le _, fun h => absurd rfl h⟩, fun n c e => by cases e; exact ⟨rfl, rfl⟩⟩
  · obtain rfl : v = .slice (some a) len cap := by simpa using hcs
    rw [cellsLH] at hrow
    have hlm : len ≤ m := by rw [hmm]; simp; exact hl
    have hex : ∀ i, i < len → ∃ c : Hd, w.cells? 0 (a.add (i * 8)) 8 = some (hv c) := fun i hi => by
      obtain ⟨cs', h1, h2⟩ := hrow i (by omega)
      obtain ⟨c, rfl⟩ := hv_of_trod h2
      exact ⟨c, h1⟩
    have : Inhabited Hd := ⟨⟨0, 0, 0, 0, 0, 0, 0, 0⟩⟩
    obtain ⟨F, hF⟩ := choose_lt hex
    refine ⟨(List.range len).map F, ⟨some a, cap, by simp, by simpa using hl, hm, fun hn => ?_⟩, fun n c e => by cases e⟩
    have h0 : 0 < len := by
      rcases Nat.eq_zero_or_pos len with e | e
      · subst e; exact absurd rfl hn
      · exact e
    have hc : ∀ i, i < len → ∀ j, j < 8 → w.cell? ((a.add (i * 8)).add j) = (hv (F i))[j]? := fun i hi j hj => by
      obtain ⟨h1, h2, h3⟩ := World.cells?_some (hF i hi)
      exact h3 j hj
    have hspot : a.spot = none := by
      have := hc 0 h0 0 (by omega)
      simp only [Nat.zero_mul] at this
      have h5 : ((a.add 0).add 0).spot = none := World.cell?_spot (v := .int .i64 (F 0).kind) (by rw [this]; rfl)
      obtain ⟨b, o, s⟩ := a
      cases s with
      | none => rfl
      | some s => simp [Addr.add] at h5
    have hlt : a.block < w.heap.size := by
      have := hc 0 h0 0 (by omega)
      rw [add_none hspot, Addr.add_mid] at this
      exact World.block_lt_of_cell? w ⟨a.block, a.off + 0 * 8 + 0, none⟩ (by rw [this]; rfl)
    refine ⟨a.block, a.off, by obtain ⟨b, o, s⟩ := a; simp at hspot; subst hspot; rfl, hlt, fun k u hk => ?_⟩
    have hkl : k < len * 8 := by
      have := (List.getElem?_eq_some_iff.1 hk).1
      rw [hvs_len] at this
      simpa using this
    obtain ⟨i, j, rfl, hj⟩ : ∃ i j, k = i * 8 + j ∧ j < 8 := ⟨k / 8, k % 8, by omega, by omega⟩
    have hi : i < len := by omega
    rw [hvs_get _ i (by simpa using hi) j hj] at hk
    have := hc i hi j hj
    rw [add_none hspot, Addr.add_mid, Nat.add_assoc] at this
    rw [this]
    simpa using hk

set_option maxRecDepth 100000 in
/-- hands among the arguments -/
theorem open_hands {H : Type} {enc : TypeId × Value → H} {W : World} {r : Reach} {b0 : Nat} {v : Value} {d : DataW H} {p : List MemPlace} (hw : Value.okWide Try.prog W r b0 23 v) (h : DataW.Trod enc Try.prog W 0 (fun _ => true) true 23 v d p) :
    ∃ L, RdH W W.heap.size v L ∧ NilOk v := by
  obtain ⟨a, len, cap, rfl⟩ := okWide_slice Try.underlying23 hw
  obtain ⟨m, hm⟩ := h
  exact rdh_of_trod (n := m) (by simpa [Value.cells] using hm)
theorem cellsLCr : Try.prog.cellsOf 25 = 2 := by kernel_rfl
theorem cellsLCs : Try.prog.cellsOf 22 = 1 := by kernel_rfl
theorem cellsLHs : Try.prog.cellsOf 23 = 1 := by kernel_rfl
set_option maxRecDepth 100000 in
/-- a crew among the arguments -/
theorem open_crew {H : Type} {enc : TypeId × Value → H} {W : World} {r : Reach} {b0 : Nat} {v : Value} {d : DataW H} {p : List MemPlace} (hw : Value.okWide Try.prog W r b0 25 v) (h : DataW.Trod enc Try.prog W 0 (fun _ => true) true 25 v d p) :
    ∃ vH vD, v = .agg #[vH, vD] ∧ ∃ G ds, Rd W W.heap.size vH G ∧ RdH W W.heap.size vD ds ∧ NilOk vD := by
  obtain ⟨cs, rfl, hsz⟩ := okWide_struct Try.underlying25 hw
  obtain ⟨m, hm⟩ := h
  have hm' : DataW.trod enc Try.prog W 0 (fun _ => true) true m 25 cs.toList = some (d, p) := by simpa [Value.cells] using hm
  obtain ⟨xs, m', -, -, hl, hxs, hf⟩ := DataW.trod_struct Try.underlying25 hm'
  rw [cellsLCr] at hl
  have e : ∃ v0 v1, cs.toList = [v0, v1] := by
    match cs.toList, hl with
    | [v0, v1], _ => exact ⟨v0, v1, rfl⟩
  obtain ⟨v0, v1, e⟩ := e
  rw [e] at hf
  match xs, hxs with
  | [y0, y1], _ =>
    have h0 := hf 0 _ rfl
    have h1 := hf 1 _ rfl
    simp [cellsLCs, cellsLHs] at h0 h1
    obtain ⟨G, rG⟩ := rd_of_trod h0
    obtain ⟨ds, rD, hn⟩ := rdh_of_trod h1
    refine ⟨v0, v1, ?_, G, ds, rG, rD, hn⟩
    have e2 : cs = #[v0, v1] := by rw [← Array.toArray_toList (xs := cs), e]
    rw [e2]
end Go.Proofs.Ythjkhghlhjndmaa.ce
/- Contracts of the laws' helpers on crews: sizes, copies, comparisons, marks. -/
namespace Go.Proofs.Ythjkhghlhjndmaa.ce
open Go.ChangeShapes Go.WideShapes Go.ChangeAt Go.RowKit
set_option linter.unusedVariables false

theorem sizeLCr : (Try.prog.info? 25).map (·.size) = some 2 := by kernel_rfl
theorem wpList_store_1h {o : Oper} {a : Act} {w : World} {ops : Array Oper} {rest : List Oper} {Q : Exit → Act → World → Prop} (hgd : o.guard = none) (x y : Operand) (ho : o.op = .store 29 x y) (b j : Nat) (va : Option Addr) (vn vc : Nat) (hx : a.eval x = .pointer (some ⟨b, j, none⟩)) (hy : a.eval y = .slice va vn vc)
    {t : TypeId} {vs : List Value} (hb : VBlk w b t vs) (hj : j < vs.length)
    (h : ∀ w', Only b w w' → VBlk w' b t (vs.set j (.slice va vn vc)) → wpList Try.prog ops Q rest (a.put o.dst undef) w') : wpList Try.prog ops Q (o :: rest) a w := by
  have hc := hb.cell j hj
  have hf : w.frozen? ⟨b, j, none⟩ = false := hb.frozen _
  refine wpList_none hgd (w' := w.setCell ⟨b, j, none⟩ (.slice va vn vc)) ?_ (h _ (only_set _ _ _ _) (hb.set j _))
  unfold execOp
  simp only [ho, hx, hy]
  simp [go_sem, hc, hf]
/-- a variable that holds a crew -/
structure CV (w : World) (b : Nat) (t : TypeId) (u v : Value) : Prop where
  blk : VBlk w b t [u, v]
theorem CV.keep {w w' : World} {b : Nat} {t : TypeId} {u v : Value} (h : CV w b t u v) (s : ∀ k, b ≤ k → k < b + 1 → w'.heap[k]? = w.heap[k]?) : CV w' b t u v := ⟨h.blk.of (s b (Nat.le_refl _) (Nat.lt_succ_self _))⟩
theorem CV.below {w w' : World} {B b : Nat} {t : TypeId} {u v : Value} (h : CV w b t u v) (hb : Below B w w') (hlt : b + 1 ≤ B) : CV w' b t u v := h.keep fun k _ h2 => hb.block k (by omega)
theorem CV.drew {w : World} {b : Nat} {t : TypeId} {u v : Value} (h : CV w b t u v) : CV w.drew b t u v := ⟨h.blk⟩
theorem CV.lt {w : World} {b : Nat} {t : TypeId} {u v : Value} (h : CV w b t u v) : b < w.heap.size := h.blk.lt
theorem CV.cells {w : World} {b : Nat} {t : TypeId} {u v : Value} (h : CV w b t u v) : w.cell? ⟨b, 0, none⟩ = some u ∧ w.cell? ⟨b, 1, none⟩ = some v := ⟨h.blk.cell 0 (by simp), h.blk.cell 1 (by simp)⟩
/-- the two cells of a crew's variable -/
theorem crew_cells {w : World} {b : Nat} {t : TypeId} {u v : Value} (h : VBlk w b t [u, v]) : w.cell? ⟨b, 0, none⟩ = some u ∧ w.cell? ⟨b, 1, none⟩ = some v := ⟨h.cell 0 (by simp), h.cell 1 (by simp)⟩

theorem szCrew_any (H : List C) (ds : List Hd) (vH vD : Value) (hi : Nat) (w : World) (rH : Rd w hi vH H) (rD : RdH w hi vD ds) :
    Calls Try.prog 11 #[.agg #[vH, vD], .int .i64 1048576] w fun e w' => ∃ r : Int, e = .returned (.int .i64 r) ∧ Below w.heap.size w w' ∧ (0 ≤ r → H.length ≤ 1048576 ∧ ds.length ≤ 1048576) := by
  have hlH := rH.len
  have hlD := rD.len
  obtain ⟨a, cap, rfl⟩ := rH.form
  obtain ⟨c, dc, rfl⟩ := rD.form
  clear rH rD
  go_enter Try.func11, Try.ntmps11
  have BOX : True := trivial
  go_wp2_with (first | (clear BOX; refine wpList_box_v rfl 25 _ rfl [.slice a H.length cap, .slice c ds.length dc] rfl ?_; intro b1 w1 hb1 hw1 hB1 hV1; obtain ⟨cr0, cr1⟩ := crew_cells hV1) | (go_at_call 44; refine (szCells2 _ _ _ hlH _).mono ?_; rintro er wq ⟨r, rfl, hq, hr1, hr2⟩; subst wq; by_cases hneg : r < 0) | (go_at_call 16; refine (szHands _ _ _ hlD r (by omega) hr1 _).mono ?_; rintro er wq ⟨r3, rfl, hq3, hr3⟩; subst wq; by_cases hneg3 : r3 < 0) | (fail))
  · go_ret
    exact ⟨-1, rfl, hB1, fun q => by omega⟩
  · go_ret
    exact ⟨-1, rfl, hB1, fun q => by omega⟩
  · go_ret
    exact ⟨r3, rfl, hB1, fun q => ⟨hr2 (by omega), hr3 q⟩⟩

theorem toCrew_any (H : List C) (ds : List Hd) (vH vD : Value) (hi : Nat) (w : World) (hh : hi ≤ w.heap.size) (rH : Rd w hi vH H) (rD : RdH w hi vD ds) (hH : H.length ≤ 1048576) (hD : ds.length ≤ 1048576) :
    Calls Try.prog 13 #[.agg #[vH, vD]] w fun e w' => ∃ vH' vD', e = .returned (.agg #[vH', vD']) ∧ Own w' w.heap.size w'.heap.size vH' H ∧ OwnH w' w.heap.size w'.heap.size vD' ds ∧ Below w.heap.size w w' := by
  obtain ⟨a, cap, rfl⟩ := rH.form
  obtain ⟨c, dc, rfl⟩ := rD.form
  have RH : Hid (Rd w hi (.slice a H.length cap) H) := rH
  have RD : Hid (RdH w hi (.slice c ds.length dc) ds) := rD
  clear rH rD
  have m1 : Hid True := trivial
  have m2 : Hid True := trivial
  have m3 : Hid True := trivial
  go_enter Try.func13, Try.ntmps13
  go_wp2_with (first | (clear m1; refine wpList_box_v rfl 25 _ rfl [.slice a H.length cap, .slice c ds.length dc] rfl ?_; intro b1 w1 hb1 hw1 hB1 hV1; have hz1 := hB1.size) | (clear m2; refine wpList_alloc_v rfl 31 rfl _ zeroCr ?_; intro b2 w2 hb2 hw2 hB2 hV2; have hz2 := hB2.size) | (clear m3; refine wpList_alloc_v rfl 31 rfl _ zeroCr ?_; intro b3 w3 hb3 hw3 hB3 hV3; have hz3 := hB3.size; have hV13 : VBlk w3 b1 25 [.slice a H.length cap, .slice c ds.length dc] := (hV1.of (hB2.block b1 hw1)).of (hB3.block b1 (by omega)); obtain ⟨cr0, cr1⟩ := crew_cells hV13; have hB : Below w.heap.size w w3 := (hB1.trans (hB2.mono hz1)).trans (hB3.mono (by omega))) | (go_at_call 46; refine (toCells_any H _ hi _ (by omega) (RH.out.below hB hh) hH).mono ?_; rintro er w4 ⟨v4, rfl, o4, hB4⟩; have hz4 := hB4.size; obtain ⟨a4, c4, rfl⟩ := o4.rd.form; clear cr0 cr1) | (refine wpList_store_1 rfl _ _ rfl b3 0 a4 H.length c4 rfl rfl (hV3.of (hB4.block b3 hw3)) (by simp) ?_; intro w5 hO5 hV5; have hz5 := hO5.1; have hV15 := (hV13.of (hB4.block b1 (by omega))).of (hO5.2.1 b1 (by omega)); obtain ⟨cr0, cr1⟩ := crew_cells hV15; have hB5 : Below w.heap.size w w5 := (hB.trans (hB4.mono (by omega))).trans (hO5.2.2 _ (by omega))) | (go_at_call 18; refine (toHands_any ds _ hi _ (by omega) (RD.out.below hB5 hh) hD).mono ?_; rintro er w6 ⟨v6, rfl, o6, hB6⟩; have hz6 := hB6.size; obtain ⟨a6, c6, rfl⟩ := o6.rd.form; clear cr0 cr1) | (refine wpList_store_1h rfl _ _ rfl b3 1 a6 ds.length c6 rfl rfl (hV5.of (hB6.block b3 (by omega))) (by simp) ?_; intro w7 hO7 hV7; have hz7 := hO7.1; simp only [List.set_cons_zero, List.set_cons_succ] at hV7; obtain ⟨cr0, cr1⟩ := crew_cells hV7; have hV27 : VBlk w7 b2 31 [.slice none 0 0, .slice none 0 0] := ((((hV2.of (hB3.block b2 hw2)).of (hB4.block b2 (by omega))).of (hO5.2.1 b2 (by omega))).of (hB6.block b2 (by omega))).of (hO7.2.1 b2 (by omega))) | (refine wpList_store_v rfl 31 _ _ rfl b2 [.slice a4 H.length c4, .slice a6 ds.length c6] rfl rfl sizeCr hV27 rfl (by simp [Value.oneCell']) ?_; intro w8 hO8 hV8; have hz8 := hO8.1) | (fail))
  refine row_retv rfl rfl hV8 Try.underlying31 sizeCr rfl ⟨_, _, rfl, ?_, ?_, ?_⟩
  · exact (o4.keep fun j j1 j2 => (hO8.2.1 j (by omega)).trans ((hO7.2.1 j (by omega)).trans ((hB6.block j (by omega)).trans (hO5.2.1 j (by omega))))).wide (by omega) (by omega)
  · exact (o6.keep fun j j1 j2 => (hO8.2.1 j (by omega)).trans (hO7.2.1 j (by omega))).wide (by omega) (by omega)
  · exact ((hB5.trans (hB6.mono (by omega))).trans (hO7.2.2 _ (by omega))).trans (hO8.2.2 _ (by omega))

set_option maxHeartbeats 1000000 in
theorem eqCrew_any (H : List C) (ds : List Hd) (vH vD vH' vD' : Value) (hi hi' : Nat) (w : World) (hh : hi ≤ w.heap.size) (hh' : hi' ≤ w.heap.size) (rH : Rd w hi vH H) (rD : RdH w hi vD ds) (rH' : Rd w hi' vH' H) (rD' : RdH w hi' vD' ds) :
    Calls Try.prog 15 #[.agg #[vH, vD], .agg #[vH', vD']] w fun e w' => e = .returned (.bool true) ∧ Below w.heap.size w w' := by
  obtain ⟨a, cap, rfl⟩ := rH.form
  obtain ⟨c, dc, rfl⟩ := rD.form
  obtain ⟨a', cap', rfl⟩ := rH'.form
  obtain ⟨c', dc', rfl⟩ := rD'.form
  have RH : Hid (Rd w hi (.slice a H.length cap) H) := rH
  have RD : Hid (RdH w hi (.slice c ds.length dc) ds) := rD
  have RH' : Hid (Rd w hi' (.slice a' H.length cap') H) := rH'
  have RD' : Hid (RdH w hi' (.slice c' ds.length dc') ds) := rD'
  clear rH rD rH' rD'
  have m1 : Hid True := trivial
  have m2 : Hid True := trivial
  go_enter Try.func15, Try.ntmps15
  go_wp2_with (first | (clear m1; refine wpList_box_v rfl 31 _ rfl [.slice a H.length cap, .slice c ds.length dc] rfl ?_; intro b1 w1 hb1 hw1 hB1 hV1; have hz1 := hB1.size) | (clear m2; refine wpList_box_v rfl 31 _ rfl [.slice a' H.length cap', .slice c' ds.length dc'] rfl ?_; intro b2 w2 hb2 hw2 hB2 hV2; have hz2 := hB2.size; obtain ⟨cr0, cr1⟩ := crew_cells (hV1.of (hB2.block b1 hw1)); obtain ⟨cs0, cs1⟩ := crew_cells hV2; have hB : Below w.heap.size w w2 := hB1.trans (hB2.mono hz1)) | (go_at_call 50; refine (eqCells_any H _ _ hi hi' _ (by omega) (by omega) (RH.out.below hB hh) (RH'.out.below hB hh')).mono ?_; rintro er w3 ⟨rfl, hB3⟩; have hz3 := hB3.size; clear cr0 cr1 cs0 cs1; obtain ⟨cr0, cr1⟩ := crew_cells ((hV1.of (hB2.block b1 hw1)).of (hB3.block b1 (by omega))); obtain ⟨cs0, cs1⟩ := crew_cells (hV2.of (hB3.block b2 hw2)); have hB4 : Below w.heap.size w w3 := hB.trans (hB3.mono (by omega))) | (go_at_call 20; refine (eqHands_any ds _ _ hi hi' _ (by omega) (by omega) (RD.out.below hB4 hh) (RD'.out.below hB4 hh')).mono ?_; rintro er w5 ⟨rfl, hB5⟩) | (fail))
  go_ret
  exact ⟨rfl, hB4.trans (hB5.mono (by omega))⟩

theorem own_narrow {w : World} {lo hi : Nat} {v : Value} {H : List C} (o : Own w lo hi v H) : ∃ l h, Own w l h v H ∧ (l = h ∨ lo ≤ l ∧ h ≤ hi) ∧ ∀ k, l ≤ k → k < h → v.ownBlock = some k := by
  rcases o.row.2 with ⟨rfl, h0⟩ | ⟨g, cap, cur, rfl, hg, hb, h⟩
  · have e := List.eq_nil_of_length_eq_zero h0
    subst e
    exact ⟨0, 0, own_none _ _ _, .inl rfl, fun k h1 h2 => by omega⟩
  · have ht := o.top g rfl
    exact ⟨g, g + 1, ⟨⟨o.row.1, .inr ⟨g, cap, cur, rfl, Nat.le_refl _, hb, h⟩⟩, fun k hk => by cases hk; exact Nat.lt_succ_self _⟩, .inr ⟨hg, ht⟩, fun k h1 h2 => by rw [show k = g by omega]; rfl⟩
theorem ownH_narrow {w : World} {lo hi : Nat} {v : Value} {ds : List Hd} (o : OwnH w lo hi v ds) : ∃ l h, OwnH w l h v ds ∧ (l = h ∨ lo ≤ l ∧ h ≤ hi) ∧ ∀ k, l ≤ k → k < h → v.ownBlock = some k := by
  rcases o.row.2 with ⟨rfl, h0⟩ | ⟨g, cap, cur, rfl, hg, hb, h⟩
  · have e := List.eq_nil_of_length_eq_zero h0
    subst e
    exact ⟨0, 0, ownH_none _ _ _, .inl rfl, fun k h1 h2 => by omega⟩
  · have ht := o.top g rfl
    exact ⟨g, g + 1, ⟨⟨o.row.1, .inr ⟨g, cap, cur, rfl, Nat.le_refl _, hb, h⟩⟩, fun k hk => by cases hk; exact Nat.lt_succ_self _⟩, .inr ⟨hg, ht⟩, fun k h1 h2 => by rw [show k = g by omega]; rfl⟩
theorem own_widen {w w' : World} {lo hi l h : Nat} {v : Value} {H G : List C} (o : Own w lo hi v H) (o' : Own w' l h v G) : Own w' lo hi v G := by
  refine ⟨⟨o'.row.1, ?_⟩, o.top⟩
  rcases o'.row.2 with q | ⟨g, cap, cur, rfl, hg, hb, q⟩
  · exact .inl q
  · exact .inr ⟨g, cap, cur, rfl, (own_lo o g rfl).1, hb, q⟩
theorem ownH_widen {w w' : World} {lo hi l h : Nat} {v : Value} {H G : List Hd} (o : OwnH w lo hi v H) (o' : OwnH w' l h v G) : OwnH w' lo hi v G := by
  refine ⟨⟨o'.row.1, ?_⟩, o.top⟩
  rcases o'.row.2 with q | ⟨g, cap, cur, rfl, hg, hb, q⟩
  · exact .inl q
  · exact .inr ⟨g, cap, cur, rfl, (o.lo g rfl).1, hb, q⟩
theorem within_of {lo hi l h : Nat} {w w' : World} (hW : Within l h w w') (hlh : l = h ∨ lo ≤ l ∧ h ≤ hi) : Within lo hi w w' := ⟨hW.os, hW.tape, hW.output, hW.size, fun k hk hn => hW.block k hk (by omega)⟩
theorem within_below {lo hi : Nat} {w w' : World} (hB : Below w.heap.size w w') : Within lo hi w w' := ⟨hB.os, hB.tape, hB.output, hB.size, fun k hk hn => hB.block k hk⟩

set_option maxHeartbeats 1000000 in
theorem markCrew_any (H : List C) (ds : List Hd) (vH vD : Value) (lo hi : Nat) (w : World) (hh : hi ≤ w.heap.size) (oH : Own w lo hi vH H) (oD : OwnH w lo hi vD ds) (hH : H.length ≤ 1048576) (hD : ds.length ≤ 1048576) :
    Calls Try.prog 22 #[.agg #[vH, vD], .int .i64 1] w fun e w' => e = .returned (.int .i64 (1 + 4 * (H.length : Int) + 8 * (ds.length : Int))) ∧ Own w' lo hi vH (marks 1 H.length) ∧ OwnH w' lo hi vD (hmarks (1 + 4 * (H.length : Int)) ds.length) ∧ Within lo hi w w' := by
  have hap : ∀ g, vH.ownBlock = some g → vD.ownBlock = some g → False := fun g => apart_hd oH oD g
  obtain ⟨l1, h1, o1, hl1, hk1⟩ := own_narrow oH
  obtain ⟨l2, h2, o2, hl2, hk2⟩ := ownH_narrow oD
  obtain ⟨a, cap, rfl⟩ := oH.rd.form
  obtain ⟨c, dc, rfl⟩ := oD.rd.form
  have OH : Hid (Own w lo hi (.slice a H.length cap) H) := oH
  have OD : Hid (OwnH w lo hi (.slice c ds.length dc) ds) := oD
  have O1 : Hid (Own w l1 h1 (.slice a H.length cap) H) := o1
  have O2 : Hid (OwnH w l2 h2 (.slice c ds.length dc) ds) := o2
  have K1 : Hid (∀ k, l1 ≤ k → k < h1 → (Value.slice a H.length cap).ownBlock = some k) := hk1
  have K2 : Hid (∀ k, l2 ≤ k → k < h2 → (Value.slice c ds.length dc).ownBlock = some k) := hk2
  have AP : Hid (∀ g, (Value.slice a H.length cap).ownBlock = some g → (Value.slice c ds.length dc).ownBlock = some g → False) := hap
  clear oH oD o1 o2 hk1 hk2 hap
  have m1 : Hid True := trivial
  go_enter Try.func22, Try.ntmps22
  go_wp2_with (first | (clear m1; refine wpList_box_v rfl 31 _ rfl [.slice a H.length cap, .slice c ds.length dc] rfl ?_; intro b1 w1 hb1 hw1 hB1 hV1; have hz1 := hB1.size; obtain ⟨cr0, cr1⟩ := crew_cells hV1) | (go_at_call 58; refine (markCells_any H _ l1 h1 _ (O1.out.keep fun k k1 k2 => hB1.block k (by omega)) hH).mono ?_; rintro er w2 ⟨rfl, o3, hW2⟩; have hz2 := hW2.size; clear cr0 cr1; obtain ⟨cr0, cr1⟩ := crew_cells (hV1.of (hW2.block b1 hw1 (by omega)))) | (go_at_call 21; refine (markHands_any ds _ l2 h2 _ (O2.out.keep fun k k1 k2 => (hW2.block k (by omega) (by have q := K2.out k k1 k2; by_cases q1 : k < l1; (· exact .inl q1); (· by_cases q2 : h1 ≤ k; (· exact .inr q2); (· exact (AP.out k (K1.out k (by omega) (by omega)) q).elim)))).trans (hB1.block k (by omega))) hD _ (by omega) (by omega)).mono ?_; rintro er w3 ⟨rfl, o4, hW3⟩) | (fail))
  go_ret
  refine ⟨rfl, own_widen OH.out (l := l1) (h := h1) (o3.keep fun k k1 k2 => hW3.block k (by omega) ?_), ownH_widen OD.out o4, ((within_below hB1).trans (within_of hW2 hl1)).trans (within_of hW3 hl2)⟩
  have q := K1.out k k1 k2
  by_cases q1 : k < l2
  · exact .inl q1
  · by_cases q2 : h2 ≤ k
    · exact .inr q2
    · exact (AP.out k q (K2.out k (by omega) (by omega))).elim

theorem heldCrew_any (n m : Nat) (vH vD : Value) (hi : Nat) (w : World) (hh : hi ≤ w.heap.size) (rH : Rd w hi vH (marks 1 n)) (rD : RdH w hi vD (hmarks (1 + 4 * (n : Int)) m)) (hn : n ≤ 1048576) (hm : m ≤ 1048576) :
    Calls Try.prog 23 #[.agg #[vH, vD], .int .i64 1] w fun e w' => e = .returned (.int .i64 (1 + 4 * (n : Int) + 8 * (m : Int))) ∧ Below w.heap.size w w' := by
  have eH := rH.form
  have eD := rD.form
  rw [marks_len] at eH
  rw [hmarks_len] at eD
  obtain ⟨a, cap, rfl⟩ := eH
  obtain ⟨c, dc, rfl⟩ := eD
  have RH : Hid (Rd w hi (.slice a n cap) (marks 1 n)) := rH
  have RD : Hid (RdH w hi (.slice c m dc) (hmarks (1 + 4 * (n : Int)) m)) := rD
  clear rH rD
  have hs1 : ¬ (1 + 4 * (n : Int) < 0) := by omega
  have hs2 : ¬ (1 + 4 * (n : Int) + 8 * (m : Int) < 0) := by omega
  have m1 : Hid True := trivial
  go_enter Try.func23, Try.ntmps23
  go_wp2_with (first | (clear m1; refine wpList_box_v rfl 31 _ rfl [.slice a n cap, .slice c m dc] rfl ?_; intro b1 w1 hb1 hw1 hB1 hV1; have hz1 := hB1.size; obtain ⟨cr0, cr1⟩ := crew_cells hV1) | (go_at_call 59; refine (heldCells_any n _ hi _ (RH.out.below hB1 hh) hn).mono ?_; rintro er wq ⟨rfl, hq⟩; subst wq) | (go_at_call 60; refine (heldHands_any m _ hi _ _ (by omega) (by omega) (RD.out.below hB1 hh) hm).mono ?_; rintro er wq ⟨rfl, hq⟩; subst wq) | (fail))
  go_ret
  exact ⟨rfl, hB1⟩
end Go.Proofs.Ythjkhghlhjndmaa.ce
/- Rows of int64 in memory: how one is read, how one that a call made is owned, appended to and stored into; the laws' helpers on them. -/
namespace Go.Proofs.Ythjkhghlhjndmaa.ce
open Go.ChangeShapes Go.WideShapes Go.ChangeAt Go.RowKit
set_option linter.unusedVariables false

def ivs (xs : List Int) : List Value := xs.map (Value.int .i64)
theorem ivs_len (xs : List Int) : (ivs xs).length = xs.length := by simp [ivs]
theorem ivs_append (xs ys : List Int) : ivs (xs ++ ys) = ivs xs ++ ivs ys := by simp [ivs]
theorem ivs_get (xs : List Int) (i : Nat) (hi : i < xs.length) : (ivs xs)[i]? = some (.int .i64 xs[i]) := by simp [ivs, hi]
theorem ivs_one (xs : List Int) : ∀ v ∈ ivs xs, v.oneCell' = true := by
  intro v hv
  obtain ⟨x, -, rfl⟩ := List.mem_map.1 hv
  rfl

/-- the numbers xs are read at the slice v, in blocks under hi -/
structure RdI (w : World) (hi : Nat) (v : Value) (xs : List Int) : Prop where
  fits : ∃ a cap, v = .slice a xs.length cap ∧ xs.length ≤ cap ∧ cap ≤ maxLen ∧ (xs ≠ [] → ∃ b off, a = some ⟨b, off, none⟩ ∧ b < hi ∧ w.rangeAt b off (ivs xs))
theorem RdI.keep {w w' : World} {hi : Nat} {v : Value} {xs : List Int} (r : RdI w hi v xs) (s : ∀ k, k < hi → w'.heap[k]? = w.heap[k]?) : RdI w' hi v xs := by
  obtain ⟨a, cap, e, h1, h2, h3⟩ := r.fits
  refine ⟨a, cap, e, h1, h2, fun hn => ?_⟩
  obtain ⟨b, off, e2, h4, h5⟩ := h3 hn
  exact ⟨b, off, e2, h4, range_of h5 (s b h4)⟩
theorem RdI.below {w w' : World} {hi B : Nat} {v : Value} {xs : List Int} (r : RdI w hi v xs) (hb : Below B w w') (hB : hi ≤ B) : RdI w' hi v xs := r.keep fun k hk => hb.block k (by omega)
theorem RdI.drew {w : World} {hi : Nat} {v : Value} {xs : List Int} (r : RdI w hi v xs) : RdI w.drew hi v xs := r.keep fun k hk => rfl
theorem RdI.drewN {w : World} {hi : Nat} {v : Value} {xs : List Int} (r : RdI w hi v xs) (n : Nat) : RdI (w.drewN n) hi v xs := r.keep fun k hk => rfl
theorem RdI.wide {w : World} {hi hi' : Nat} {v : Value} {xs : List Int} (r : RdI w hi v xs) (hh : hi ≤ hi') : RdI w hi' v xs := by
  obtain ⟨a, cap, e, h1, h2, h3⟩ := r.fits
  refine ⟨a, cap, e, h1, h2, fun hn => ?_⟩
  obtain ⟨b, off, e2, h4, h5⟩ := h3 hn
  exact ⟨b, off, e2, by omega, h5⟩
theorem RdI.form {w : World} {hi : Nat} {v : Value} {xs : List Int} (r : RdI w hi v xs) : ∃ a cap, v = .slice a xs.length cap := by
  obtain ⟨a, cap, e, -⟩ := r.fits
  exact ⟨a, cap, e⟩
theorem RdI.len {w : World} {hi : Nat} {v : Value} {xs : List Int} (r : RdI w hi v xs) : xs.length ≤ 9223372036854775807 := by
  obtain ⟨a, cap, e, h1, h2, h3⟩ := r.fits
  unfold maxLen at h2; omega
theorem RdI.cell {w : World} {hi n cap : Nat} {a : Option Addr} {xs : List Int} (r : RdI w hi (.slice a n cap) xs) (i : Nat) (hi' : i < xs.length) : ∃ b off, a = some ⟨b, off, none⟩ ∧ b < hi ∧ w.cell? ⟨b, off + i, none⟩ = some (.int .i64 xs[i]) := by
  obtain ⟨a', cap', e, h1, h2, h3⟩ := r.fits
  cases e
  obtain ⟨b, off, rfl, h4, h5⟩ := h3 (by intro e; subst e; simp at hi')
  exact ⟨b, off, rfl, h4, h5 i _ (ivs_get xs i hi')⟩

/-- the numbers xs lie in a row of their own in a block from lo up to hi -/
structure OwnI (w : World) (lo hi : Nat) (v : Value) (xs : List Int) : Prop where
  row : w.ownsRow lo 2 1 v xs.length (ivs xs)
  top : ∀ g, v.ownBlock = some g → g < hi
theorem OwnI.keep {w w' : World} {lo hi : Nat} {v : Value} {xs : List Int} (o : OwnI w lo hi v xs) (s : ∀ k, lo ≤ k → k < hi → w'.heap[k]? = w.heap[k]?) : OwnI w' lo hi v xs := by
  refine ⟨⟨o.row.1, ?_⟩, o.top⟩
  rcases o.row.2 with h | ⟨g, cap, cur, rfl, hg, hb, h⟩
  · exact .inl h
  · exact .inr ⟨g, cap, cur, rfl, hg, by rw [s g hg (o.top g rfl)]; exact hb, h⟩
theorem OwnI.below {w w' : World} {lo hi B : Nat} {v : Value} {xs : List Int} (o : OwnI w lo hi v xs) (hb : Below B w w') (hB : hi ≤ B) : OwnI w' lo hi v xs := o.keep fun k _ h2 => hb.block k (by omega)
theorem OwnI.wide {w : World} {lo hi lo' hi' : Nat} {v : Value} {xs : List Int} (o : OwnI w lo hi v xs) (h1 : lo' ≤ lo) (h2 : hi ≤ hi') : OwnI w lo' hi' v xs := by
  refine ⟨⟨o.row.1, ?_⟩, fun g hg => by have := o.top g hg; omega⟩
  rcases o.row.2 with h | ⟨g, cap, cur, rfl, hg, hb, h⟩
  · exact .inl h
  · exact .inr ⟨g, cap, cur, rfl, by omega, hb, h⟩
theorem OwnI.form {w : World} {lo hi : Nat} {v : Value} {xs : List Int} (o : OwnI w lo hi v xs) (hn : 1 ≤ xs.length) :
    ∃ g cap, v = .slice (some ⟨g, 0, none⟩) xs.length cap ∧ lo ≤ g ∧ g < hi ∧ g < w.heap.size := by
  rcases o.row.2 with ⟨_, h0⟩ | ⟨g, cap, cur, rfl, hg, hb, hc1, hc2, hc3, htk⟩
  · omega
  · exact ⟨g, cap, rfl, hg, o.top g rfl, (Array.getElem?_eq_some_iff.1 hb).1⟩
theorem OwnI.rd {w : World} {lo hi : Nat} {v : Value} {xs : List Int} (o : OwnI w lo hi v xs) : RdI w hi v xs := by
  rcases o.row.2 with ⟨rfl, h0⟩ | ⟨g, cap, cur, rfl, hg, hb, hc1, hc2, hc3, htk⟩
  · have e := List.eq_nil_of_length_eq_zero h0
    subst e
    exact ⟨none, 0, rfl, Nat.le_refl _, Nat.zero_le _, fun h => absurd rfl h⟩
  · refine ⟨some ⟨g, 0, none⟩, cap, rfl, hc1, hc2, fun _ => ⟨g, 0, rfl, o.top g rfl, fun j u hj => ?_⟩⟩
    rw [cell_of_row _ _ _ _ _ _ hb]
    rw [← htk, List.getElem?_take] at hj
    split at hj
    · simpa using hj
    · cases hj
theorem ownI_none (w : World) (lo hi : Nat) : OwnI w lo hi (.slice none 0 0) [] := ⟨World.ownsRow_nil w lo _ 1, fun g h => by cases h⟩
theorem ownI_empty (w : World) : OwnI (w.alloc (.cells #[] 2)) w.heap.size (w.heap.size + 1) (.slice (some ⟨w.heap.size, 0, none⟩) 0 0) [] :=
  ⟨⟨rfl, .inr ⟨w.heap.size, 0, #[], rfl, Nat.le_refl _, heap_alloc_new _ _, Nat.le_refl _, by unfold maxLen; omega, rfl, rfl⟩⟩, fun g hg => by cases hg; exact Nat.lt_succ_self _⟩
theorem OwnI.len {w : World} {lo hi n cap : Nat} {a : Option Addr} {xs : List Int} (o : OwnI w lo hi (.slice a n cap) xs) : n = xs.length := by
  rcases o.row.2 with ⟨e, h0⟩ | ⟨g, cap', cur, e, -⟩
  · cases e; omega
  · cases e; rfl
theorem OwnI.set {w : World} {lo hi g n cap : Nat} {xs : List Int} (o : OwnI w lo hi (.slice (some ⟨g, 0, none⟩) n cap) xs) (i : Nat) (x : Int) :
    OwnI (w.setCell ⟨g, i, none⟩ (.int .i64 x)) lo hi (.slice (some ⟨g, 0, none⟩) n cap) (xs.set i x) := by
  have e := o.len
  subst e
  have := (o.row.stored i (.int .i64 x)).1
  rw [show (ivs xs).set i (.int .i64 x) = ivs (xs.set i x) by simp [ivs, List.map_set]] at this
  exact ⟨by rw [List.length_set]; exact this, o.top⟩
theorem OwnI.frozen {w : World} {lo hi g n cap : Nat} {xs : List Int} (o : OwnI w lo hi (.slice (some ⟨g, 0, none⟩) n cap) xs) (j : Nat) : w.frozen? ⟨g, j, none⟩ = false := by
  have e := o.len
  subst e
  exact o.row.frozenAt j

theorem infoI : ∃ i : TypeInfo, Try.prog.info? 2 = some i ∧ i.zero = some (.int .i64 0) ∧ i.size = 1 ∧ i.bytes = 8 := by
  have h : (Try.prog.info? 2).map (fun i => (i.zero, i.size, i.bytes)) = some (some (.int .i64 0), 1, 8) := by kernel_rfl
  obtain ⟨i, hi, hz⟩ := Option.map_eq_some_iff.1 h
  simp only [Prod.mk.injEq] at hz
  exact ⟨i, hi, hz.1, hz.2.1, hz.2.2⟩
/-- numbers are appended to numbers that the call made -/
theorem wpList_append_i {o : Oper} {a : Act} {w : World} {ops : Array Oper} {rest : List Oper} {Q : Exit → Act → World → Prop} (hgd : o.guard = none) (s x : Operand) (t : TypeId) (ho : o.op = .call { callee := .builtin .append, args := #[s, x], argTypes := #[t, t] }) (ht : Try.prog.underlying t = some (.slice 2))
    (lo hi : Nat) (v : Value) (xs : List Int) (hs : a.eval s = v) (hown : OwnI w lo hi v xs) (hlo : lo ≤ w.heap.size) (b off m c : Nat) (ys : List Int) (hx : a.eval x = .slice (some ⟨b, off, none⟩) m c) (hm : ys.length = m) (hr : w.rangeAt b off (ivs ys)) (hlen : xs.length + m ≤ 1048576)
    (h : ∀ v' w', OwnI w' lo w'.heap.size v' (xs ++ ys) → Below lo w w' → wpList Try.prog ops Q rest (a.put o.dst v') w') : wpList Try.prog ops Q (o :: rest) a w := by
  obtain ⟨i0, hi0, hz0, hz1, hz2⟩ := infoI
  subst hm
  refine wpList_append_own _ hgd s x t ho lo 2 i0 _ 1 8 ht hi0 hz0 hz1 hz2 rfl (by decide) v xs.length (ivs xs) hs hown.row ⟨b, off, none⟩ ys.length c (ivs ys) hx (by rw [ivs_len, Nat.mul_one]) (fun j u hj => by rw [Addr.add_mid]; exact hr j u hj) (ivs_one ys) (by unfold maxLen; omega) (by omega) hlo ?_
  intro v' w' h2 h3 h4
  rw [← ivs_append] at h2
  refine h v' w' ⟨by rw [List.length_append]; exact h2, fun g hg => (h2.lt g hg).2⟩ (below_grown h3 hlo fun k hk => (hown.row.lt k hk).1)
theorem one_range (w : World) (x : Int) : (w.alloc (.cells #[.int .i64 x] 2)).rangeAt w.heap.size 0 (ivs [x]) := by
  have h : VBlk (w.alloc (.cells #[.int .i64 x] 2)) w.heap.size 2 [.int .i64 x] := heap_alloc_new _ _
  exact h.range

/-- the empty row g that was laid before lo, or a row of its own from lo on -/
def OutI (w : World) (g lo hi : Nat) (v : Value) (xs : List Int) : Prop := (xs = [] ∧ v = .slice (some ⟨g, 0, none⟩) 0 0) ∨ OwnI w lo hi v xs
theorem OutI.keep {w w' : World} {g lo hi : Nat} {v : Value} {xs : List Int} (o : OutI w g lo hi v xs) (s : ∀ k, lo ≤ k → k < hi → w'.heap[k]? = w.heap[k]?) : OutI w' g lo hi v xs := by
  rcases o with h | h
  · exact .inl h
  · exact .inr (h.keep s)
theorem OutI.below {w w' : World} {g lo hi B : Nat} {v : Value} {xs : List Int} (o : OutI w g lo hi v xs) (hb : Below B w w') (hB : hi ≤ B) : OutI w' g lo hi v xs := o.keep fun k _ h2 => hb.block k (by omega)
theorem OutI.own {w : World} {g lo lo' hi : Nat} {v : Value} {xs : List Int} (o : OutI w g lo hi v xs) (hl : lo' ≤ lo) (hg : OwnI w lo' hi (.slice (some ⟨g, 0, none⟩) 0 0) []) : OwnI w lo' hi v xs := by
  rcases o with ⟨rfl, rfl⟩ | h
  · exact hg
  · exact h.wide hl (Nat.le_refl _)
/-- numbers are appended; what lay below lo stays -/
theorem wpList_append_o {o : Oper} {a : Act} {w : World} {ops : Array Oper} {rest : List Oper} {Q : Exit → Act → World → Prop} (hgd : o.guard = none) (s x : Operand) (t : TypeId) (ho : o.op = .call { callee := .builtin .append, args := #[s, x], argTypes := #[t, t] }) (ht : Try.prog.underlying t = some (.slice 2))
    (g lo hi : Nat) (v : Value) (xs : List Int) (hs : a.eval s = v) (hown : OutI w g lo hi v xs) (hlo : lo ≤ w.heap.size) (b m c : Nat) (ys : List Int) (hx : a.eval x = .slice (some ⟨b, 0, none⟩) m c) (hm : ys.length = m) (hm1 : 1 ≤ m) (hr : w.rangeAt b 0 (ivs ys)) (hlen : xs.length + m ≤ 1048576)
    (h : ∀ v' w', OwnI w' lo w'.heap.size v' (xs ++ ys) → Below lo w w' → wpList Try.prog ops Q rest (a.put o.dst v') w') : wpList Try.prog ops Q (o :: rest) a w := by
  rcases hown with ⟨rfl, rfl⟩ | hown
  · obtain ⟨i0, hi0, hz0, hz1, hz2⟩ := infoI
    subst hm
    obtain ⟨v', w', hrun, h2, h3⟩ := run_append_arg_grows (P := Try.prog) (w := w) t o.type 2 i0 _ 1 8 ht hi0 hz0 hz1 hz2 rfl (by decide) ⟨g, 0, none⟩ 0 0 [] rfl (fun j u hj => by simp at hj) ⟨b, 0, none⟩ ys.length c (ivs ys) (by rw [ivs_len, Nat.mul_one]) (fun j u hj => by rw [Addr.add_mid]; exact hr j u hj) (by omega) (by unfold maxLen; simp at hlen; omega) (by simp at hlen; omega)
    simp only [List.nil_append, Nat.zero_add] at h2
    refine wpList_val hgd (v := v') (w' := w') ?_ (h v' w' ⟨?_, fun g hg => (h2.lt g hg).2⟩ ?_)
    · simp [execOp, ho, resolve, invoke, builtin, hs, hx, hrun, Result.andThen]
    · refine ⟨by rw [ivs_len]; simp, ?_⟩
      rcases h2.2 with ⟨e, h0⟩ | ⟨g', cap', cur, e, hg', rest'⟩
      · exact .inl ⟨e, h0⟩
      · exact .inr ⟨g', cap', cur, e, Nat.le_trans hlo hg', rest'⟩
    · exact (below_grown h3 (Nat.le_refl _) fun k hk => by cases hk).mono hlo
  · exact wpList_append_i hgd s x t ho ht lo hi v xs hs hown hlo b 0 m c ys hx hm hr hlen h

/-! ### the laws' helpers -/
theorem eqInts_any (xs : List Int) (v v' : Value) (hi hi' : Nat) (w : World) (hh : hi ≤ w.heap.size) (hh' : hi' ≤ w.heap.size) (r : RdI w hi v xs) (r' : RdI w hi' v' xs) :
    Calls Try.prog 29 #[v, v'] w fun e w' => e = .returned (.bool true) ∧ Below w.heap.size w w' := by
  have hl := r.len
  obtain ⟨a, cap, rfl⟩ := r.form
  obtain ⟨a', cap', rfl⟩ := r'.form
  have R : Hid (RdI w hi (.slice a xs.length cap) xs) := r
  have R' : Hid (RdI w hi' (.slice a' xs.length cap') xs) := r'
  clear r r'
  go_enter Try.func29, Try.ntmps29
  go_wp2
  go_loopw [5] (fun v' wr => ∃ i : Nat, i ≤ xs.length ∧ v' = .int .i64 i ∧ Below w.heap.size w wr) (fun v' _ => xs.length - (intOf v').toNat)
  case atStart => exact ⟨0, by omega, rfl, Below.refl _ _⟩
  case round =>
    obtain ⟨i, hi1, rfl, hBr⟩ := hrel
    by_cases hlt : i < xs.length
    · obtain ⟨b, off, rfl, hb, d0⟩ := (R.out.below hBr hh).cell i hlt
      obtain ⟨b', off', rfl, hb', e0⟩ := (R'.out.below hBr hh').cell i hlt
      obtain ⟨z, hz⟩ := hid_ex (xs[i])
      rw [hz.out] at d0 e0
      have hlt' : (i : Int) < xs.length := by omega
      go_wp2
      go_region_held3 (fun w' => w'.cell? ⟨b, off + i, none⟩ = some (.int .i64 z) ∧ w'.cell? ⟨b', off' + i, none⟩ = some (.int .i64 z)) (first | assumption | exact ⟨d0, e0⟩) (fail)
      go_wp2
      go_roundw
      case rel => exact ⟨i + 1, by omega, by go_num, hBr.drew⟩
      case measure => simp [intOf]; omega
    · go_wp2
      go_ret
      exact ⟨rfl, hBr⟩

def imarks (k : Int) (n : Nat) : List Int := (List.range n).map fun j : Nat => k + (j : Int)
theorem imarks_len (k : Int) (n : Nat) : (imarks k n).length = n := by simp [imarks]
theorem imarks_succ (k : Int) (n : Nat) : imarks k (n + 1) = imarks k n ++ [k + (n : Int)] := by simp [imarks, List.range_succ]
theorem imarks_get (k : Int) (n i : Nat) (h : i < (imarks k n).length) : (imarks k n)[i] = k + (i : Int) := by simp [imarks]

theorem markInts_any (xs : List Int) (v : Value) (lo hi : Nat) (w : World) (own : OwnI w lo hi v xs) (h2 : xs.length ≤ 1048576) :
    Calls Try.prog 30 #[v, .int .i64 1] w fun e w' => e = .returned (.int .i64 (1 + (xs.length : Int))) ∧ OwnI w' lo hi v (imarks 1 xs.length) ∧ Within lo hi w w' := by
  obtain ⟨a, cap, rfl⟩ := own.rd.form
  have hA : Hid (1 ≤ xs.length → ∃ g, a = some ⟨g, 0, none⟩ ∧ lo ≤ g ∧ g < hi) := fun h => by
    obtain ⟨g, cap', e, h1, h2, -⟩ := own.form h
    cases e
    exact ⟨g, rfl, h1, h2⟩
  have O : Hid (OwnI w lo hi (.slice a xs.length cap) xs) := own
  clear own
  go_enter Try.func30, Try.ntmps30
  go_wp2
  go_loopw [1, 5] (fun q v' wr => ∃ i : Nat, i ≤ xs.length ∧ v' = .int .i64 i ∧ q = .int .i64 (1 + (i : Int)) ∧ Hid (OwnI wr lo hi (.slice a xs.length cap) (imarks 1 i ++ xs.drop i)) ∧ Within lo hi w wr) (fun _ v' _ => xs.length - (intOf v').toNat)
  case atStart => exact ⟨0, by omega, rfl, by simp, by simpa [imarks] using O, Within.refl _ _ _⟩
  case round =>
    obtain ⟨i, hi1, rfl, rfl, ho, hW⟩ := hrel
    by_cases hlt : i < xs.length
    · obtain ⟨g, rfl, hg1, hg2⟩ := hA.out (by omega)
      have hil : Hid (i < (imarks 1 i ++ xs.drop i).length) := by unfold Hid; simp [imarks_len]; omega
      obtain ⟨b', off', e', -, d0⟩ := ho.out.rd.cell i hil.out
      cases e'
      simp only [Nat.zero_add] at d0
      have f0 := ho.out.frozen i
      have hlt' : (i : Int) < xs.length := by omega
      go_wp2
      go_roundw
      case rel =>
        have h1 := ho.out.set i (1 + (i : Int))
        have e : (imarks 1 i ++ xs.drop i).set i (1 + (i : Int)) = imarks 1 (i + 1) ++ xs.drop (i + 1) := by
          rw [List.set_append_right _ _ (by rw [imarks_len]; omega), imarks_len, Nat.sub_self, List.drop_eq_getElem_cons hlt, List.set_cons_zero, imarks_succ]
          simp
        rw [e] at h1
        exact ⟨i + 1, by omega, by go_num, by go_num, h1, hW.setCell hg1 hg2 _⟩
      case measure => simp [intOf]; omega
    · have ei : i = xs.length := by omega
      have ho' : OwnI wr lo hi (.slice a xs.length cap) (imarks 1 xs.length) := by
        have := ho.out
        rw [ei, List.drop_length, List.append_nil] at this
        exact this
      clear ho
      go_wp2
      go_ret
      exact ⟨by first | rfl | (rw [ei]; rfl), ho', hW⟩

end Go.Proofs.Ythjkhghlhjndmaa.ce
/- Contracts: the model's chapter 4. -/
namespace Go.Proofs.Ythjkhghlhjndmaa.ce
open Go.ChangeShapes Go.WideShapes Go.ChangeAt Go.RowKit
set_option linter.unusedVariables false

theorem l4Chain_any (H : List C) (u : Up H) (hlen : H.length ≤ 1048576) (v : Value) (hi : Nat) (w : World) (hh : hi ≤ w.heap.size) (r : Rd w hi v H) :
    Calls Try.prog 76 #[v] w fun e w' => ∃ v', e = .returned v' ∧ OwnI w' w.heap.size w'.heap.size v' (chain H) ∧ Below w.heap.size w w' := by
  obtain ⟨a, cap, rfl⟩ := r.form
  have R : Hid (Rd w hi (.slice a H.length cap) H) := r
  have U : Hid (Up H) := u
  have hcl : (chain H).length ≤ 65536 := chain_len u
  clear r
  go_enter Try.func76, Try.ntmps76
  go_wp2
  go_loopw [3, 4] (fun vv p wr => ∃ (A L : List Int) (q : Int), p = .int .i64 q ∧ Hid (chain H = A ++ L) ∧ Hid (Ch H q L) ∧ Hid (q = -1 ∨ has H q) ∧ OwnI wr w.heap.size wr.heap.size vv A ∧ Below w.heap.size w wr) (fun _ p _ => left H (intOf p))
  case atStart => exact ⟨[], chain H, 0, rfl, (rfl : chain H = [] ++ chain H), chain_ch u, .inr (has_zero u), (ownI_empty w).wide (Nat.le_refl _) (by simp), (Below.refl _ w).alloc (Nat.le_refl _) _⟩
  case round =>
    obtain ⟨A, L, q, rfl, hc, hch, hq, ho, hBr⟩ := hrel
    cases L with
    | nil =>
      have hq0 : q < 0 := hch.out
      have hq1 : ¬ (0 ≤ q) := by omega
      have e : Hid (chain H = A) := by unfold Hid; rw [hc.out, List.append_nil]
      go_wp2
      go_ret
      exact ⟨_, rfl, by rw [e.out]; exact ho, hBr⟩
    | cons y L =>
      obtain ⟨hy, hq0, hch'⟩ := hch.out
      subst hy
      have hh1 : has H q := by rcases hq.out with e | e; (· omega); (· exact e)
      obtain ⟨i, rfl⟩ : ∃ i : Nat, q = i := ⟨q.toNat, by omega⟩
      have hi1 : i < H.length := by have := hh1.2; omega
      have hi1' : (i : Int) < H.length := by omega
      have en := nth_nat H i hi1
      have hAl : A.length + 1 ≤ 65536 := by rw [hc.out] at hcl; simp at hcl; omega
      have hbs := hBr.size
      obtain ⟨b, off, rfl, hbh, c0, c1, c2, c3⟩ := (R.out.below hBr hh).cell i hi1
      obtain ⟨z, hz⟩ := hid_ex (H[i])
      rw [hz.out] at c2 en
      clear c0 c1 c3
      have hBa : Below w.heap.size w (wr.alloc (.cells #[.int .i64 (i : Int)] 2)) := hBr.alloc hbs _
      go_wp2_with (first | (at_builtin; refine wpList_append_i rfl _ _ 45 rfl Try.underlying45 w.heap.size _ _ A rfl (ho.below ((Below.refl wr.heap.size wr).alloc (Nat.le_refl _) _) (Nat.le_refl _)) (by simp; omega) wr.heap.size 0 1 1 [(i : Int)] rfl rfl (one_range wr _) (by simp; omega) ?_; intro v' w2 hO2 hB2; have c22 : w2.cell? ⟨b, off + i * 4 + 2, none⟩ = some (.int .i64 z.next) := (by rw [hB2.cell (by show b < w.heap.size; omega), Below.cell ((Below.refl wr.heap.size wr).alloc (Nat.le_refl _) _) (by show b < wr.heap.size; omega)]; exact c2)) | (fail))
      go_roundw
      case rel => exact ⟨A ++ [(i : Int)], L, z.next, rfl, (by unfold Hid; rw [hc.out]; simp), (by unfold Hid; rw [← en]; exact hch'), (by unfold Hid; rw [← en]; exact next_or u hh1), hO2, hBa.trans hB2⟩
      case measure =>
        show left H z.next < left H (i : Int)
        rw [← en]
        exact left_lt u hh1

end Go.Proofs.Ythjkhghlhjndmaa.ce
/- Contract of l5In; whether a hand is right, as a Bool. -/
namespace Go.Proofs.Ythjkhghlhjndmaa.ce
open Go.ChangeShapes Go.WideShapes Go.ChangeAt Go.RowKit
set_option linter.unusedVariables false

theorem l5In_any (xs : List Int) (n : Int) (v : Value) (hi : Nat) (w : World) (r : RdI w hi v xs) :
    Calls Try.prog 75 #[v, .int .i64 n] w fun e w' => e = .returned (.bool (decide (n ∈ xs))) ∧ w' = w := by
  have hl := r.len
  obtain ⟨a, cap, rfl⟩ := r.form
  have R : Hid (RdI w hi (.slice a xs.length cap) xs) := r
  clear r
  obtain ⟨y, hy⟩ := hid_ex (decide (n ∈ xs))
  rw [hy.out]
  go_enter Try.func75, Try.ntmps75
  go_wp2
  go_loop [5] (fun p => ∃ i : Nat, i ≤ xs.length ∧ p = .int .i64 i ∧ Hid (n ∉ xs.take i)) (fun p => xs.length - (intOf p).toNat)
  case atStart => exact ⟨0, by omega, rfl, (by unfold Hid; simp)⟩
  case round =>
    obtain ⟨i, hi1, rfl, hno⟩ := hrel
    by_cases hlt : i < xs.length
    · obtain ⟨b, off, rfl, hb, d0⟩ := R.out.cell i hlt
      have hlt' : (i : Int) < xs.length := by omega
      obtain ⟨z, hz⟩ := hid_ex (xs[i])
      rw [hz.out] at d0
      by_cases he : z = n
      · have hb : (z == n) = true := by simpa using he
        have ey : y = true := by rw [← hy.out]; exact decide_eq_true (by rw [← he, ← hz.out]; exact List.getElem_mem hlt)
        subst ey
        go_wp2
        go_ret
        exact ⟨rfl, rfl⟩
      · have hb : (z == n) = false := by simpa using he
        have hno2 : Hid (n ∉ xs.take (i + 1)) := by
          unfold Hid
          rw [List.take_succ_eq_append_getElem hlt, List.mem_append, hz.out, List.mem_singleton]
          rintro (h | h)
          · exact hno.out h
          · exact he h.symm
        go_wp2
        go_round
        case rel => exact ⟨i + 1, by omega, by go_num, hno2⟩
        case measure => simp [intOf]; omega
    · have ei : i = xs.length := by omega
      have hlt' : ¬ (i : Int) < xs.length := by omega
      have ey : y = false := by
        have h := hno.out
        rw [ei, List.take_length] at h
        rw [← hy.out]; exact decide_eq_false h
      subst ey
      go_wp2
      go_ret
      exact ⟨rfl, rfl⟩

open Classical in
/-- is the hand right -/
noncomputable def okB (H : List C) (d : Hd) : Bool := decide (OkH H d)
open Classical in
theorem okB_true {H : List C} {d : Hd} (h : OkH H d) : okB H d = true := by unfold okB; exact decide_eq_true h
open Classical in
theorem okB_false {H : List C} {d : Hd} (h : ¬ OkH H d) : okB H d = false := by unfold okB; exact decide_eq_false h
open Classical in
theorem okB_iff {H : List C} {d : Hd} : okB H d = true ↔ OkH H d := by unfold okB; simp
/-- the hand's cells in a box, as a walk wants them -/
theorem HB.of_below {w w' : World} {B q : Nat} {d : Hd} (b : HB w q d) (h : Below B w w') (hq : q < B) : HB w' q d := b.of (h.block q hq)
end Go.Proofs.Ythjkhghlhjndmaa.ce
/- Contract of l5Ok (written by genok.py): numbers out of range. -/
namespace Go.Proofs.Ythjkhghlhjndmaa.ce
open Go.ChangeShapes Go.WideShapes Go.ChangeAt Go.RowKit
set_option linter.unusedVariables false

set_option maxRecDepth 100000 in
set_option maxHeartbeats 4000000 in
theorem ok_range (H : List C) (hok : heapOk H) (k x y s l e o t : Int) (v : Value) (hi : Nat) (w : World) (hh : hi ≤ w.heap.size) (r : Rd w hi v H) (hbad : ¬ ((1 ≤ k ∧ k ≤ 3) ∧ (1 ≤ x ∧ x ≤ 65535) ∧ (0 ≤ s ∧ s ≤ 5))) :
    Calls Try.prog 45 #[v, .agg (hv ⟨k, x, y, s, l, e, o, t⟩).toArray] w fun er w' => er = .returned (.bool (okB H ⟨k, x, y, s, l, e, o, t⟩)) ∧ Below w.heap.size w w' := by
  obtain ⟨a, cap, rfl⟩ := r.form
  have hl := r.len
  have R : Hid (Rd w hi (.slice a H.length cap) H) := r
  have HK : Hid (heapOk H) := hok
  have h1 := hok.1.1
  have h40 := hok.1.2
  obtain ⟨z, hz⟩ := hid_ex (okB H ⟨k, x, y, s, l, e, o, t⟩)
  rw [hz.out]
  have bad : Hid (¬ OkH H ⟨k, x, y, s, l, e, o, t⟩ → z = false) := fun h => by rw [← hz.out]; exact okB_false h
  have fine : Hid (OkH H ⟨k, x, y, s, l, e, o, t⟩ → z = true) := fun h => by rw [← hz.out]; exact okB_true h
  clear r hok hz
  have m1 : Hid True := trivial
  have m2 : Hid True := trivial
  have m3 : Hid True := trivial
  have m4 : Hid True := trivial
  have ez : z = false := bad.out fun h => hbad ⟨h.kind, h.key, h.step⟩
  subst ez
  clear bad fine
  by_cases hk : 1 ≤ k ∧ k ≤ 3
  · have fK : Hid (decide (1 ≤ k ∧ k ≤ 3) = true) := decide_eq_true hk
    by_cases hx : 1 ≤ x ∧ x ≤ 65535
    · have fX : Hid (decide (1 ≤ x ∧ x ≤ 65535) = true) := decide_eq_true hx
      have fS : Hid (decide (0 ≤ s ∧ s ≤ 5) = false) := decide_eq_false fun hs => hbad ⟨hk, hx, hs⟩
      clear hbad
      go_enter Try.func45, Try.ntmps45
      go_wp2_with (first | (refine wpList_box_v rfl 58 _ rfl (hv ⟨k, x, y, s, l, e, o, t⟩) rfl ?_; intro b3 w1 hb3 hw1 hB1 hV1; have hb : HB w1 b3 ⟨k, x, y, s, l, e, o, t⟩ := ⟨hV1⟩; obtain ⟨c0, c1, c2, c3, c4, c5, c6, c7⟩ := hb.cells; have hz1 := hB1.size) | (clear m1; go_at_call 72; refine (in_is k 1 3 _ fK.out _).mono ?_; rintro er wq ⟨rfl, hq⟩; subst wq) | (clear m2; go_at_call 72; refine (in_is x 1 65535 _ fX.out _).mono ?_; rintro er wq ⟨rfl, hq⟩; subst wq) | (clear m3; go_at_call 72; refine (in_is s 0 5 _ fS.out _).mono ?_; rintro er wq ⟨rfl, hq⟩; subst wq) | (fail))
      go_ret
      exact ⟨rfl, hB1⟩
    · have fX : Hid (decide (1 ≤ x ∧ x ≤ 65535) = false) := decide_eq_false hx
      clear hbad
      go_enter Try.func45, Try.ntmps45
      go_wp2_with (first | (refine wpList_box_v rfl 58 _ rfl (hv ⟨k, x, y, s, l, e, o, t⟩) rfl ?_; intro b3 w1 hb3 hw1 hB1 hV1; have hb : HB w1 b3 ⟨k, x, y, s, l, e, o, t⟩ := ⟨hV1⟩; obtain ⟨c0, c1, c2, c3, c4, c5, c6, c7⟩ := hb.cells; have hz1 := hB1.size) | (clear m1; go_at_call 72; refine (in_is k 1 3 _ fK.out _).mono ?_; rintro er wq ⟨rfl, hq⟩; subst wq) | (clear m2; go_at_call 72; refine (in_is x 1 65535 _ fX.out _).mono ?_; rintro er wq ⟨rfl, hq⟩; subst wq) | (fail))
      go_ret
      exact ⟨rfl, hB1⟩
  · have fK : Hid (decide (1 ≤ k ∧ k ≤ 3) = false) := decide_eq_false hk
    clear hbad
    go_enter Try.func45, Try.ntmps45
    go_wp2_with (first | (refine wpList_box_v rfl 58 _ rfl (hv ⟨k, x, y, s, l, e, o, t⟩) rfl ?_; intro b3 w1 hb3 hw1 hB1 hV1; have hb : HB w1 b3 ⟨k, x, y, s, l, e, o, t⟩ := ⟨hV1⟩; obtain ⟨c0, c1, c2, c3, c4, c5, c6, c7⟩ := hb.cells; have hz1 := hB1.size) | (clear m1; go_at_call 72; refine (in_is k 1 3 _ fK.out _).mono ?_; rintro er wq ⟨rfl, hq⟩; subst wq) | (fail))
    go_ret
    exact ⟨rfl, hB1⟩

end Go.Proofs.Ythjkhghlhjndmaa.ce
