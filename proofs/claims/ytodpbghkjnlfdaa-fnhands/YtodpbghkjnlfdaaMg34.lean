/- Texts laid together: Dw3 HdMath10 Dw4 Dw5 Dw6 DrawPar Dw7. -/
import Derived.Test.YtodpbghkjnlfdaaMg33
import Derived.Test.YtodpbghkjnlfdaaMg21
import Derived.Test.YtodpbghkjnlfdaaMg30
import Derived.Deep.DeepCutAuto
import Derived.Deep.RegionWith
/- What the laws draw: a new crew. -/
namespace Go.Proofs.Ytodpbghkjnlfdaa.draw
open Go.ChangeShapes Go.WideShapes Go.ChangeAt Go.RowKit
open Go.Proofs.Ytodpbghkjnlfdaa.ce
set_option linter.unusedVariables false

/-- a crew as a call hands it back -/
structure Cr (w0 w : World) (p : Nat) (a0 : Option Addr) (len cap : Nat) (vH : Value) (H : List C) (vD : Value) (ds : List Hd) : Prop where
  heap : ce.Own w w0.heap.size w.heap.size vH H
  hands : OwnH w w0.heap.size w.heap.size vD ds
  hd : ∀ g, vH.ownBlock = some g → vD.ownBlock = some g → False
  cur : Cur w p a0 len cap
  gb : w0.grownBy w (some p)

set_option maxRecDepth 100000 in
set_option maxHeartbeats 2000000 in
theorem l6New_any (w : World) (p : Nat) (a0 : Option Addr) (len cap : Nat) (hc : Cur w p a0 len cap) :
    Calls Try.prog 88 #[.pointer (some ⟨p, 0, none⟩)] w fun e w' => ∃ vH vD, e = .returned (.agg #[vH, vD]) ∧ ∃ ds, Cr w w' p a0 len cap vH [c0] vD ds ∧ ds.length ≤ 4 ∧ ∀ d ∈ ds, NewH d := by
  have hp := hc.1
  have HC : Hid (Cur w p a0 len cap) := hc
  clear hc
  have m1 : Hid True := trivial
  have m2 : Hid True := trivial
  go_enter Try.func88, Try.ntmps88
  go_upto_region 2 with (first | (clear m1; refine wpList_alloc_v rfl 92 rfl _ zeroCr ?_; intro b2 w1 hb2 hw1 hB1 hV1; have hz1 := hB1.size; have hc1 := cur_below HC.out hB1 hp; have hg1 : w.grownBy w1 (some p) := gb_below (World.grownBy.refl _ _) hB1 (Nat.le_refl _)) | (go_at_call 45; refine (specNewHeap_any _).mono ?_; rintro er w2 ⟨v2, rfl, ho2, hB2⟩; have hz2 := hB2.size; obtain ⟨g, cg, rfl, hg1', hg2', -⟩ := ho2.form (by simp)) | (refine wpList_alloc_v rfl 92 rfl _ zeroCr ?_; intro b3 w3 hb3 hw3 hB3 hV3; have hz3 := hB3.size) | (clear m2; refine wpList_store_v rfl 92 _ _ rfl b3 [.slice (some ⟨g, 0, none⟩) 1 cg, .slice none 0 0] rfl rfl sizeCr hV3 rfl (by simp [Value.oneCell']) ?_; intro w4 hO4 hV4; have hz4 := hO4.1) | (fail))
  have cn4 : Cn w1 w4 b3 p a0 len cap (.slice (some ⟨g, 0, none⟩) 1 cg) [c0] (.slice none 0 0) [] := ⟨hV4, ((ho2.below hB3 (Nat.le_refl _)).keep fun j j1 j2 => hO4.2.1 j (by omega)).wide (Nat.le_refl _) (by omega), ownH_none _ _ _, fun j hj => (by cases hj; show g ≠ b3; omega), fun j hj => (by cases hj), fun j _ hj => (by cases hj), by omega, cur_only (cur_below (cur_below hc1 hB2 (by omega)) hB3 (by omega)) hO4 (by omega), gb_only (gb_below (gb_below (World.grownBy.refl _ _) hB2 (Nat.le_refl _)) hB3 (by omega)) hO4 (by omega), by omega⟩
  go_wp2_with (first | (go_at_call 54; refine (below_from w4 w4 p a0 len cap _ (by omega) cn4.cur (World.grownBy.refl _ _)).mono ?_; rintro er w5 ⟨x5, rfl, x50, x51, hc5, hg5⟩; have cn5 := cn4.drawn hg5 hc5) | (fail))
  obtain ⟨m0, rfl⟩ : ∃ m : Nat, x5 = m := ⟨x5.toNat, by omega⟩
  go_loopw [4] (fun n wr => ∃ (m : Nat) (ds : List Hd) (vD : Value), n = .int .i64 m ∧ ds.length + m ≤ 4 ∧ (∀ d ∈ ds, NewH d) ∧ Cn w1 wr b3 p a0 len cap (.slice (some ⟨g, 0, none⟩) 1 cg) [c0] vD ds) (fun n _ => (intOf n).toNat)
  case atStart => exact ⟨m0, [], _, rfl, by simp; omega, by simp, cn5⟩
  case round =>
    obtain ⟨m, ds, vD, rfl, hm, hnew, cn⟩ := hrel
    obtain ⟨va, vc, rfl⟩ := cn.hands.len
    have CN : Hid (Cn w1 wr b3 p a0 len cap (.slice (some ⟨g, 0, none⟩) 1 cg) [c0] (.slice va ds.length vc) ds) := cn
    have NW : Hid (∀ d ∈ ds, NewH d) := hnew
    have hcr1 := cn.crew.cell 1 (by simp)
    simp only [List.getElem_cons_succ, List.getElem_cons_zero] at hcr1
    have HV1 : Hid (VBlk w1 b2 92 [.slice none 0 0, .slice none 0 0]) := hV1
    have HG1 : Hid (w.grownBy w1 (some p)) := hg1
    clear cn hnew cn4 cn5 hV1 hg1 hc1 hg5 hc5 hV4 hO4 hV3 hB3 hB2 ho2
    by_cases hpos : 0 < m
    · have hpos' : (0 : Int) < m := by omega
      go_wp2
      refine wp_region_held_drew (S := fun _ => True) (by kernel_rfl) trivial (fun hHeld => ?_)
      refine takeW 0 13 (.pointer (some ⟨b3, 1, none⟩)) rfl (by kernel_rfl) (by kernel_rfl) (by kernel_rfl) (fun _ _ _ h => h) (by kernel_rfl) (fun w' hS => by go_simp) hHeld ?_
      go_frame
      refine takeW 2 15 (.pointer (some ⟨p, 0, none⟩)) rfl (by kernel_rfl) (by kernel_rfl) (by kernel_rfl) (fun _ _ _ h => h) (by kernel_rfl) (fun w' hS => by go_simp) hHeld ?_
      go_frame
      have cnd := CN.out.below (Below.refl _ _).drew
      refine wpAnyH_ready (rs := [1, 3]) (by kernel_rfl) (by simp) ?_
      refine AllReadyH.cons rfl (fun K hK => ?_) ( AllReadyH.cons rfl (fun K hK => ?_) AllReadyH.nil)
      · have hcr := cnd.crew.cell 1 (by simp)
        simp only [List.getElem_cons_succ, List.getElem_cons_zero] at hcr
        go_simp
        refine hK.out _ _ trivial (fun _ => ?_)
        try go_frame
        clear hcr
        refine wpAnyH_ready (rs := [3]) (by kernel_rfl) (by simp) ?_
        refine AllReadyH.cons rfl (fun K hK => ?_) AllReadyH.nil
        go_simp
        go_at_call 83
        refine (l5DrawHand_any wr.drew p a0 len cap cnd.cur).mono ?_
        rintro er w6 ⟨d6, rfl, hn6, hc6, hg6⟩
        have cn6 := cnd.drawn hg6 hc6
        obtain ⟨k, x, y, s, l, e, o, t⟩ := d6
        dsimp only [hv]
        refine hK.out _ _ trivial (fun _ => ?_)
        try go_frame
        refine wpAnyH_ready (rs := [4]) (by kernel_rfl) (by simp) ?_
        refine AllReadyH.cons rfl (fun K hK => ?_) AllReadyH.nil
        go_simp
        have hB7 : Below w6.heap.size w6 (w6.alloc (.cells #[.int .i64 k, .int .i64 x, .int .i64 y, .int .i64 s, .int .i64 l, .int .i64 e, .int .i64 o, .int .i64 t] 29)) := (Below.refl _ _).alloc (Nat.le_refl _) _
        have hr7 : VBlk (w6.alloc (.cells #[.int .i64 k, .int .i64 x, .int .i64 y, .int .i64 s, .int .i64 l, .int .i64 e, .int .i64 o, .int .i64 t] 29)) w6.heap.size 29 (hv ⟨k, x, y, s, l, e, o, t⟩) := heap_alloc_new _ _
        obtain ⟨w7, hw7⟩ : ∃ w7, w6.alloc (.cells #[.int .i64 k, .int .i64 x, .int .i64 y, .int .i64 s, .int .i64 l, .int .i64 e, .int .i64 o, .int .i64 t] 29) = w7 := ⟨_, rfl⟩
        rw [hw7] at hB7 hr7 ⊢
        have cn7 := cn6.below hB7
        refine hK.out _ _ trivial (fun _ => ?_)
        try go_frame
        refine wpAnyH_ready (rs := [5]) (by kernel_rfl) (by simp) ?_
        refine AllReadyH.cons rfl (fun K3 hK3 => ?_) AllReadyH.nil
        refine step_append_h rfl _ _ 90 rfl Try.underlying90 w1.heap.size w7.heap.size (.slice va ds.length vc) ds rfl cn7.hands cn7.z w6.heap.size ⟨k, x, y, s, l, e, o, t⟩ rfl hr7.range (by omega) ?_
        intro v8 w8 ho8 hg8
        obtain ⟨va8, vc8, rfl⟩ := ho8.len
        have crew8 : VBlk w8 b3 92 [.slice (some ⟨g, 0, none⟩) 1 cg, .slice va ds.length vc] := cn7.crew.of (hg8.block b3 cn7.crew.lt (fun q => cn7.db b3 q.symm rfl))
        refine hK3.out _ _ trivial (fun _ => ?_)
        try go_frame
        refine takeW 6 19 (.pointer (some ⟨b3, 1, none⟩)) rfl (by kernel_rfl) (by kernel_rfl) (by kernel_rfl) (fun _ _ _ h => h) (by kernel_rfl) (fun w' hS => by go_simp) trivial ?_
        go_frame
        refine wpAnyH_ready (rs := [7]) (by kernel_rfl) (by simp) ?_
        refine AllReadyH.cons rfl (fun K4 hK4 => ?_) AllReadyH.nil
        refine step_store_1 rfl _ _ rfl b3 1 va8 (ds ++ [(⟨k, x, y, s, l, e, o, t⟩ : Hd)]).length vc8 rfl rfl crew8 (by simp) ?_
        intro w9 hO9 hV9
        have cn9 := cn7.appended hg8 ho8 hO9 hV9
        refine hK4.out _ _ trivial (fun _ => ?_)
        refine wpAnyH_done (by kernel_rfl) ?_ _
        go_wp2
        go_roundw
        case rel => exact ⟨m - 1, ds ++ [⟨k, x, y, s, l, e, o, t⟩], _, by congr 1; omega, by simp; omega, fun d hd => by rcases List.mem_append.1 hd with q | q; (· exact NW.out d q); (· rw [List.mem_singleton.1 q]; exact hn6), cn9⟩
        case measure => simp [intOf]; omega
      · go_simp
        go_at_call 83
        refine (l5DrawHand_any wr.drew p a0 len cap cnd.cur).mono ?_
        rintro er w6 ⟨d6, rfl, hn6, hc6, hg6⟩
        have cn6 := cnd.drawn hg6 hc6
        obtain ⟨k, x, y, s, l, e, o, t⟩ := d6
        dsimp only [hv]
        refine hK.out _ _ trivial (fun _ => ?_)
        try go_frame
        refine wpAnyH_ready (rs := [1, 4]) (by kernel_rfl) (by simp) ?_
        refine AllReadyH.cons rfl (fun K hK => ?_) ( AllReadyH.cons rfl (fun K hK => ?_) AllReadyH.nil)
        · have hcr := cn6.crew.cell 1 (by simp)
          simp only [List.getElem_cons_succ, List.getElem_cons_zero] at hcr
          go_simp
          refine hK.out _ _ trivial (fun _ => ?_)
          try go_frame
          clear hcr
          refine wpAnyH_ready (rs := [4]) (by kernel_rfl) (by simp) ?_
          refine AllReadyH.cons rfl (fun K hK => ?_) AllReadyH.nil
          go_simp
          have hB7 : Below w6.heap.size w6 (w6.alloc (.cells #[.int .i64 k, .int .i64 x, .int .i64 y, .int .i64 s, .int .i64 l, .int .i64 e, .int .i64 o, .int .i64 t] 29)) := (Below.refl _ _).alloc (Nat.le_refl _) _
          have hr7 : VBlk (w6.alloc (.cells #[.int .i64 k, .int .i64 x, .int .i64 y, .int .i64 s, .int .i64 l, .int .i64 e, .int .i64 o, .int .i64 t] 29)) w6.heap.size 29 (hv ⟨k, x, y, s, l, e, o, t⟩) := heap_alloc_new _ _
          obtain ⟨w7, hw7⟩ : ∃ w7, w6.alloc (.cells #[.int .i64 k, .int .i64 x, .int .i64 y, .int .i64 s, .int .i64 l, .int .i64 e, .int .i64 o, .int .i64 t] 29) = w7 := ⟨_, rfl⟩
          rw [hw7] at hB7 hr7 ⊢
          have cn7 := cn6.below hB7
          refine hK.out _ _ trivial (fun _ => ?_)
          try go_frame
          refine wpAnyH_ready (rs := [5]) (by kernel_rfl) (by simp) ?_
          refine AllReadyH.cons rfl (fun K3 hK3 => ?_) AllReadyH.nil
          refine step_append_h rfl _ _ 90 rfl Try.underlying90 w1.heap.size w7.heap.size (.slice va ds.length vc) ds rfl cn7.hands cn7.z w6.heap.size ⟨k, x, y, s, l, e, o, t⟩ rfl hr7.range (by omega) ?_
          intro v8 w8 ho8 hg8
          obtain ⟨va8, vc8, rfl⟩ := ho8.len
          have crew8 : VBlk w8 b3 92 [.slice (some ⟨g, 0, none⟩) 1 cg, .slice va ds.length vc] := cn7.crew.of (hg8.block b3 cn7.crew.lt (fun q => cn7.db b3 q.symm rfl))
          refine hK3.out _ _ trivial (fun _ => ?_)
          try go_frame
          refine takeW 6 19 (.pointer (some ⟨b3, 1, none⟩)) rfl (by kernel_rfl) (by kernel_rfl) (by kernel_rfl) (fun _ _ _ h => h) (by kernel_rfl) (fun w' hS => by go_simp) trivial ?_
          go_frame
          refine wpAnyH_ready (rs := [7]) (by kernel_rfl) (by simp) ?_
          refine AllReadyH.cons rfl (fun K4 hK4 => ?_) AllReadyH.nil
          refine step_store_1 rfl _ _ rfl b3 1 va8 (ds ++ [(⟨k, x, y, s, l, e, o, t⟩ : Hd)]).length vc8 rfl rfl crew8 (by simp) ?_
          intro w9 hO9 hV9
          have cn9 := cn7.appended hg8 ho8 hO9 hV9
          refine hK4.out _ _ trivial (fun _ => ?_)
          refine wpAnyH_done (by kernel_rfl) ?_ _
          go_wp2
          go_roundw
          case rel => exact ⟨m - 1, ds ++ [⟨k, x, y, s, l, e, o, t⟩], _, by congr 1; omega, by simp; omega, fun d hd => by rcases List.mem_append.1 hd with q | q; (· exact NW.out d q); (· rw [List.mem_singleton.1 q]; exact hn6), cn9⟩
          case measure => simp [intOf]; omega
        · go_simp
          have hB7 : Below w6.heap.size w6 (w6.alloc (.cells #[.int .i64 k, .int .i64 x, .int .i64 y, .int .i64 s, .int .i64 l, .int .i64 e, .int .i64 o, .int .i64 t] 29)) := (Below.refl _ _).alloc (Nat.le_refl _) _
          have hr7 : VBlk (w6.alloc (.cells #[.int .i64 k, .int .i64 x, .int .i64 y, .int .i64 s, .int .i64 l, .int .i64 e, .int .i64 o, .int .i64 t] 29)) w6.heap.size 29 (hv ⟨k, x, y, s, l, e, o, t⟩) := heap_alloc_new _ _
          obtain ⟨w7, hw7⟩ : ∃ w7, w6.alloc (.cells #[.int .i64 k, .int .i64 x, .int .i64 y, .int .i64 s, .int .i64 l, .int .i64 e, .int .i64 o, .int .i64 t] 29) = w7 := ⟨_, rfl⟩
          rw [hw7] at hB7 hr7 ⊢
          have cn7 := cn6.below hB7
          refine hK.out _ _ trivial (fun _ => ?_)
          try go_frame
          refine wpAnyH_ready (rs := [1]) (by kernel_rfl) (by simp) ?_
          refine AllReadyH.cons rfl (fun K hK => ?_) AllReadyH.nil
          have hcr := cn7.crew.cell 1 (by simp)
          simp only [List.getElem_cons_succ, List.getElem_cons_zero] at hcr
          go_simp
          refine hK.out _ _ trivial (fun _ => ?_)
          try go_frame
          clear hcr
          refine wpAnyH_ready (rs := [5]) (by kernel_rfl) (by simp) ?_
          refine AllReadyH.cons rfl (fun K3 hK3 => ?_) AllReadyH.nil
          refine step_append_h rfl _ _ 90 rfl Try.underlying90 w1.heap.size w7.heap.size (.slice va ds.length vc) ds rfl cn7.hands cn7.z w6.heap.size ⟨k, x, y, s, l, e, o, t⟩ rfl hr7.range (by omega) ?_
          intro v8 w8 ho8 hg8
          obtain ⟨va8, vc8, rfl⟩ := ho8.len
          have crew8 : VBlk w8 b3 92 [.slice (some ⟨g, 0, none⟩) 1 cg, .slice va ds.length vc] := cn7.crew.of (hg8.block b3 cn7.crew.lt (fun q => cn7.db b3 q.symm rfl))
          refine hK3.out _ _ trivial (fun _ => ?_)
          try go_frame
          refine takeW 6 19 (.pointer (some ⟨b3, 1, none⟩)) rfl (by kernel_rfl) (by kernel_rfl) (by kernel_rfl) (fun _ _ _ h => h) (by kernel_rfl) (fun w' hS => by go_simp) trivial ?_
          go_frame
          refine wpAnyH_ready (rs := [7]) (by kernel_rfl) (by simp) ?_
          refine AllReadyH.cons rfl (fun K4 hK4 => ?_) AllReadyH.nil
          refine step_store_1 rfl _ _ rfl b3 1 va8 (ds ++ [(⟨k, x, y, s, l, e, o, t⟩ : Hd)]).length vc8 rfl rfl crew8 (by simp) ?_
          intro w9 hO9 hV9
          have cn9 := cn7.appended hg8 ho8 hO9 hV9
          refine hK4.out _ _ trivial (fun _ => ?_)
          refine wpAnyH_done (by kernel_rfl) ?_ _
          go_wp2
          go_roundw
          case rel => exact ⟨m - 1, ds ++ [⟨k, x, y, s, l, e, o, t⟩], _, by congr 1; omega, by simp; omega, fun d hd => by rcases List.mem_append.1 hd with q | q; (· exact NW.out d q); (· rw [List.mem_singleton.1 q]; exact hn6), cn9⟩
          case measure => simp [intOf]; omega
    · have hpos' : ¬ ((0 : Int) < m) := by omega
      have hl4 : ds.length ≤ 4 := by omega
      clear hm hpos
      have hcr0 := CN.out.crew.cell 0 (by simp)
      simp only [List.getElem_cons_zero] at hcr0
      by_cases h2 : 1 < ds.length
      · have h2' : ((1 : Int) < (ds.length : Int)) := by omega
        go_wp2_with (first | (go_at_call 84; refine (once_from wr wr p a0 len cap _ (by omega) CN.out.cur (World.grownBy.refl _ _)).mono ?_; rintro er w6 ⟨y6, rfl, hc6, hg6⟩; have cn6 := CN.out.drawn hg6 hc6; have hcr60 := cn6.crew.cell 0 (by simp); have hcr61 := cn6.crew.cell 1 (by simp); simp only [List.getElem_cons_zero, List.getElem_cons_succ] at hcr60 hcr61; cases y6) | (refine wpList_store_v rfl 92 _ _ rfl b2 [.slice (some ⟨g, 0, none⟩) 1 cg, .slice va ds.length vc] rfl rfl sizeCr (HV1.out.of (cn6.gb.block b2 hw1 (fun q => by cases q; omega))) rfl (by simp [Value.oneCell']) ?_; intro wA hOA hVA; have hzA := hOA.1) | (fail))
        · exact row_retv rfl rfl hVA Try.underlying92 sizeCr rfl ⟨.slice (some ⟨g, 0, none⟩) 1 cg, .slice va ds.length vc, rfl, ds, ⟨((cn6.heap.keep fun j j1 j2 => hOA.2.1 j (by omega)).wide (by omega) (by omega)), ((cn6.hands.keep fun j j1 j2 => hOA.2.1 j (by omega)).wide (by omega) (by omega)), cn6.hd, cur_only cn6.cur hOA (by omega), gb_only (gb_trans HG1.out cn6.gb) hOA (by omega)⟩, hl4, NW.out⟩
        · obtain ⟨q, cq, sp, e9, hq1, hq2, hq3, hVq, hcq1, hcq2, hcq3⟩ := cn6.hands.form (by omega)
          cases e9
          match ds, h2 with
          | d0 :: d1 :: r, _ =>
            have y1 := hVq.cell 1 (by simp [hvs, hv])
            have y9 := hVq.cell 9 (by simp [hvs, hv])
            have yf : w6.frozen? ⟨q, 9, none⟩ = false := hVq.frozen _
            have ey1 : Hid ((hvs (d0 :: d1 :: r) ++ sp)[1]'(by simp [hvs, hv]) = .int .i64 d0.key) := by unfold Hid; simp [hvs, hv]
            rw [ey1.out] at y1
            have hVq' : VBlk (w6.setCell ⟨q, 9, none⟩ (.int .i64 d0.key)) q 29 (hvs (d0 :: { d1 with key := d0.key } :: r) ++ sp) := by
              have := hVq.set 9 (.int .i64 d0.key)
              rw [show (hvs (d0 :: d1 :: r) ++ sp).set 9 (.int .i64 d0.key) = hvs (d0 :: { d1 with key := d0.key } :: r) ++ sp by simp [hvs, hv]] at this
              exact this
            have hO6 := only_set w6 q 9 (.int .i64 d0.key)
            have hdq : ∀ k, k = q → k ≠ b3 := fun k hk => by subst hk; exact cn6.db _ rfl
            have crew7 : VBlk (w6.setCell ⟨q, 9, none⟩ (.int .i64 d0.key)) b3 92 [.slice (some ⟨g, 0, none⟩) 1 cg, .slice (some ⟨q, 0, none⟩) (d0 :: d1 :: r).length vc] := cn6.crew.of (hO6.2.1 b3 (fun z => hdq b3 z rfl))
            have hng : g ≠ q := fun z => cn6.hd g rfl (by rw [z]; rfl)
            have cn7 : Cn w1 (w6.setCell ⟨q, 9, none⟩ (.int .i64 d0.key)).drew b3 p a0 len cap (.slice (some ⟨g, 0, none⟩) 1 cg) [c0] (.slice (some ⟨q, 0, none⟩) (d0 :: { d1 with key := d0.key } :: r).length vc) (d0 :: { d1 with key := d0.key } :: r) :=
              Cn.below ⟨crew7, (own_keepB cn6.heap fun k hk => hO6.2.1 k (by cases hk; exact hng)).wide (Nat.le_refl _) (Nat.le_of_eq hO6.1.symm), (ownH_of hVq' hq1 (by simpa using hq3) hcq1 hcq2 (by simpa [hvs_len] using hcq3)), cn6.hb, cn6.db, cn6.hd, cn6.blo, cur_only cn6.cur hO6 (by omega), gb_only cn6.gb hO6 hq1, cn6.pw⟩ (Below.refl _ _).drew
            have new7 : ∀ d ∈ (d0 :: { d1 with key := d0.key } :: r : List Hd), NewH d := by
              intro d hd
              have n0 := NW.out d0 (by simp)
              have n1 := NW.out d1 (by simp)
              rcases List.mem_cons.1 hd with z | z
              · rw [z]; exact n0
              · rcases List.mem_cons.1 z with z | z
                · rw [z]; exact ⟨n1.kind, n0.key, n1.value, n1.step, n1.left, n1.here, n1.own, n1.told⟩
                · exact NW.out d (by simp [z])
            have l7 : (d0 :: { d1 with key := d0.key } :: r : List Hd).length ≤ 4 := by simpa using hl4
            have C7 : Hid (Cn w1 (w6.setCell ⟨q, 9, none⟩ (.int .i64 d0.key)).drew b3 p a0 len cap (.slice (some ⟨g, 0, none⟩) 1 cg) [c0] (.slice (some ⟨q, 0, none⟩) (d0 :: { d1 with key := d0.key } :: r).length vc) (d0 :: { d1 with key := d0.key } :: r)) := cn7
            have N7 : Hid (∀ d ∈ (d0 :: { d1 with key := d0.key } :: r : List Hd), NewH d) := new7
            obtain ⟨w7, hw7⟩ : ∃ w7, (w6.setCell ⟨q, 9, none⟩ (.int .i64 d0.key)).drew = w7 := ⟨_, rfl⟩
            have R7 := hw7
            go_region
            rw [hw7] at C7
            clear new7 cn7 crew7 hVq' hVq y1 y9 yf hw7 R7 hcr60 hcr61 hO6
            have hcr70 := C7.out.crew.cell 0 (by simp)
            have hcr71 := C7.out.crew.cell 1 (by simp)
            simp only [List.getElem_cons_zero, List.getElem_cons_succ] at hcr70 hcr71
            go_wp2_with (first | (refine wpList_store_v rfl 92 _ _ rfl b2 [.slice (some ⟨g, 0, none⟩) 1 cg, .slice (some ⟨q, 0, none⟩) (d0 :: { d1 with key := d0.key } :: r).length vc] rfl rfl sizeCr (HV1.out.of (C7.out.gb.block b2 hw1 (fun q => by cases q; omega))) rfl (by simp [Value.oneCell']) ?_; intro wE hOE hVE; have hzE := hOE.1) | (fail))
            exact row_retv rfl rfl hVE Try.underlying92 sizeCr rfl ⟨.slice (some ⟨g, 0, none⟩) 1 cg, .slice (some ⟨q, 0, none⟩) (d0 :: { d1 with key := d0.key } :: r).length vc, rfl, (d0 :: { d1 with key := d0.key } :: r), ⟨((C7.out.heap.keep fun j j1 j2 => hOE.2.1 j (by omega)).wide (by omega) (by omega)), ((C7.out.hands.keep fun j j1 j2 => hOE.2.1 j (by omega)).wide (by omega) (by omega)), C7.out.hd, cur_only C7.out.cur hOE (by omega), gb_only (gb_trans HG1.out C7.out.gb) hOE (by omega)⟩, l7, N7.out⟩
      · have h2' : ¬ ((1 : Int) < (ds.length : Int)) := by omega
        go_wp2_with (first | (refine wpList_store_v rfl 92 _ _ rfl b2 [.slice (some ⟨g, 0, none⟩) 1 cg, .slice va ds.length vc] rfl rfl sizeCr (HV1.out.of (CN.out.gb.block b2 hw1 (fun q => by cases q; omega))) rfl (by simp [Value.oneCell']) ?_; intro wB hOB hVB; have hzB := hOB.1) | (fail))
        exact row_retv rfl rfl hVB Try.underlying92 sizeCr rfl ⟨.slice (some ⟨g, 0, none⟩) 1 cg, .slice va ds.length vc, rfl, ds, ⟨((CN.out.heap.keep fun j j1 j2 => hOB.2.1 j (by omega)).wide (by omega) (by omega)), ((CN.out.hands.keep fun j j1 j2 => hOB.2.1 j (by omega)).wide (by omega) (by omega)), CN.out.hd, cur_only CN.out.cur hOB (by omega), gb_only (gb_trans HG1.out CN.out.gb) hOB (by omega)⟩, hl4, NW.out⟩
end Go.Proofs.Ytodpbghkjnlfdaa.draw
/- A crew that is right stays so, whoever is picked: plain mathematics. -/
namespace Go.Proofs.Ytodpbghkjnlfdaa.ce
open Go.ChangeShapes Go.WideShapes Go.ChangeAt Go.RowKit
set_option linter.unusedVariables false

/-- what a pick makes of heap and hands -/
def pickH (H : List C) (ds : List Hd) (i : Nat) (hi : i < ds.length) : List C := if ds[i].step = 5 then H else (move H ds[i]).1
def pickD (H : List C) (ds : List Hd) (i : Nat) (hi : i < ds.length) : List Hd := if ds[i].step = 5 then ds else ds.set i (move H ds[i]).2
/-- no two hands have the same cell of their own -/
def apart (ds : List Hd) : Prop := ∀ i k (hi : i < ds.length) (hk : k < ds.length), k ≠ i → 0 ≤ ds[i].own → ds[k].own ≠ ds[i].own
structure CrewOk (H : List C) (ds : List Hd) : Prop where
  heap : heapOk H
  le : ds.length ≤ 4
  hands : ∀ d ∈ ds, OkH H d
  apart : apart ds
/-- a move leaves a hand its own cell, or gives it a new one -/
theorem move_own (H : List C) (d : Hd) : (move H d).2.own = d.own ∨ (move H d).2.own = (H.length : Int) ∧ d.own < 0 ∧ (move H d).1.length = H.length + 1 := by
  unfold move
  split
  · exact .inl rfl
  split
  · unfold moveW
    split
    · exact .inl rfl
    split
    · split <;> exact .inl rfl
    · exact .inl rfl
  split
  · unfold moveA
    split
    · exact .inl rfl
    split
    · exact .inl rfl
    split
    · unfold movePut
      split
      · rename_i ho
        split
        · exact .inl rfl
        · rename_i hf
          refine .inr ?_
          have hok : heapOk H := Decidable.byContradiction fun q => hf (by unfold freshN; rw [if_neg q]; omega)
          have hfo : freshOk H d.key d.value d.here := Decidable.byContradiction fun q => hf (by unfold freshN; rw [if_pos hok, if_neg q]; omega)
          refine ⟨?_, ho, ?_⟩
          · show freshN H d.key d.value d.here = _
            unfold freshN; rw [if_pos hok, if_pos hfo]
          · show (freshH H d.key d.value d.here).length = _
            unfold freshH; rw [if_pos hok, if_pos hfo]; simp
      · exact .inl rfl
    · exact .inl rfl
  split
  · unfold moveL
    split <;> exact .inl rfl
  split
  · unfold moveM
    split <;> exact .inl rfl
  · exact .inl rfl
theorem own_lt {H : List C} {d : Hd} (h : OkH H d) : d.own < (H.length : Int) ∧ -1 ≤ d.own := by
  rcases h.own with q | q
  · exact ⟨by omega, by omega⟩
  · exact ⟨q.2.1.2, by have := q.2.1.1; omega⟩
theorem crew_pick {H : List C} {ds : List Hd} (c : CrewOk H ds) (i : Nat) (hi : i < ds.length) : CrewOk (pickH H ds i hi) (pickD H ds i hi) := by
  unfold pickH pickD
  by_cases h5 : ds[i].step = 5
  · rw [if_pos h5, if_pos h5]; exact c
  · rw [if_neg h5, if_neg h5]
    have ok := c.hands _ (List.getElem_mem hi)
    have kp := move_keeps c.heap ok
    have others : ∀ k (hk : k < ds.length), k ≠ i → OkH (move H ds[i]).1 ds[k] := fun k hk hne => by
      refine move_others c.heap ok (c.hands _ (List.getElem_mem hk)) ?_
      by_cases h0 : 0 ≤ ds[k].own
      · exact .inr fun q => c.apart k i hk hi (Ne.symm hne) h0 q.symm
      · have := (own_lt (c.hands _ (List.getElem_mem hk))).2
        exact .inl (by omega)
    refine ⟨kp.heap, by rw [List.length_set]; exact c.le, fun d hd => ?_, ?_⟩
    · obtain ⟨k, hk, rfl⟩ := List.getElem_of_mem hd
      have hk' : k < ds.length := by rw [List.length_set] at hk; exact hk
      rw [List.getElem_set]
      split
      · exact kp.hand
      · rename_i hne; exact others k hk' (fun q => hne q.symm)
    · intro a b ha hb hne h0
      have ha' : a < ds.length := by rw [List.length_set] at ha; exact ha
      have hb' : b < ds.length := by rw [List.length_set] at hb; exact hb
      rw [List.getElem_set] at h0 ⊢
      rw [List.getElem_set]
      have mo := move_own H ds[i]
      have lt : ∀ k (hk : k < ds.length), ds[k].own < (H.length : Int) := fun k hk => (own_lt (c.hands _ (List.getElem_mem hk))).1
      split
      · rename_i e1
        subst e1
        rw [if_neg hne] at h0
        rw [if_neg hne]
        rcases mo with q | q
        · rw [q]; exact c.apart a i ha' hi hne h0
        · rw [q.1]; have := lt a ha'; omega
      · rename_i e1
        split
        · rename_i e2
          subst e2
          rw [if_pos rfl] at h0
          rcases mo with q | q
          · rw [q] at h0 ⊢; exact c.apart i b hi hb' hne h0
          · rw [q.1]; have := lt b hb'; omega
        · rename_i e2
          rw [if_neg e2] at h0
          exact c.apart a b ha' hb' hne h0
end Go.Proofs.Ytodpbghkjnlfdaa.ce
/- The model's pick in a crew's own variable. -/
namespace Go.Proofs.Ytodpbghkjnlfdaa.draw
open Go.ChangeShapes Go.WideShapes Go.ChangeAt Go.RowKit
open Go.Proofs.Ytodpbghkjnlfdaa.ce
set_option linter.unusedVariables false

theorem pick_cn {w0 w w2 w3 : World} {b p g q cg cq i g2 cap2 : Nat} {a0 : Option Addr} {len cap : Nat} {H H2 : List C} {ds : List Hd} {sp : List Value} {d2 : Hd} (c : Cn w0 w b p a0 len cap (.slice (some ⟨g, 0, none⟩) H.length cg) H (.slice (some ⟨q, 0, none⟩) ds.length cq) ds) (hi : i < ds.length)
    (hVq : VBlk w q 29 (hvs ds ++ sp)) (hq1 : w0.heap.size ≤ q) (hcq1 : ds.length ≤ cq) (hcq2 : cq ≤ maxLen) (hcq3 : (hvs ds ++ sp).length = cq * 8)
    (me : Me w2 (b + 1) g2 q (i * 8) 29 (hvs (ds.take i)) (hvs (ds.drop (i + 1)) ++ sp) (.slice (some ⟨g2, 0, none⟩) H2.length cap2) H2 d2) (mv : Mw (b + 1) q w.drew w2) (hO : Only b w2 w3) (hV : VBlk w3 b 92 [.slice (some ⟨g2, 0, none⟩) H2.length cap2, .slice (some ⟨q, 0, none⟩) ds.length cq]) :
    Cn w0 w3 b p a0 len cap (.slice (some ⟨g2, 0, none⟩) H2.length cap2) H2 (.slice (some ⟨q, 0, none⟩) ds.length cq) (ds.set i d2) := by
  have hp := c.pw
  have hb := c.blo
  have hz := c.z
  have hqb : q ≠ b := c.db q rfl
  have hgl := me.glo
  have hgw := me.gw
  have hsz : w.heap.size ≤ w2.heap.size := mv.size
  have hz3 := hO.1
  have hB : Below w0.heap.size w w2 := by
    have := mv.below (B := w0.heap.size) (by omega) hq1
    exact ⟨this.os, this.tape, this.output, this.size, this.block⟩
  have hqw : q < w.heap.size := (c.hands.lo q rfl).2.2
  have hrow : VBlk w3 q 29 (hvs (ds.set i d2) ++ sp) := by
    have h8 := me.hand
    rw [Nat.mul_comm i 8] at h8
    exact (HA.to_row hi h8).of (hO.2.1 q hqb)
  have own3 : ce.Own w3 w0.heap.size w3.heap.size (.slice (some ⟨g2, 0, none⟩) H2.length cap2) H2 := (own_keepB me.own fun k hk => hO.2.1 k (by cases hk; show g2 ≠ b; omega)).wide (by omega) (by omega)
  have hands3 : OwnH w3 w0.heap.size w3.heap.size (.slice (some ⟨q, 0, none⟩) (ds.set i d2).length cq) (ds.set i d2) := ownH_of hrow hq1 (by omega) (by simpa using hcq1) hcq2 (by simpa [hvs_len] using hcq3)
  rw [List.length_set] at hands3
  exact ⟨hV, own3, hands3, fun k hk => (by cases hk; show g2 ≠ b; omega), fun k hk => (by cases hk; exact hqb), fun k h1 h2 => apart_hd own3 hands3 k h1 h2, hb, cur_only (cur_below c.cur hB hp) hO (by omega), gb_only (gb_below c.gb hB (Nat.le_refl _)) hO hb, hp⟩

set_option maxRecDepth 100000 in
set_option maxHeartbeats 2000000 in
theorem l6Pick_any (w0 w : World) (b p : Nat) (a0 : Option Addr) (len cap : Nat) (vH : Value) (H : List C) (vD : Value) (ds : List Hd) (c : Cn w0 w b p a0 len cap vH H vD ds) (hgb : ∀ g, vH.ownBlock = some g → b < g) (hlen : 1 ≤ H.length ∧ H.length ≤ 40) (hl : ds.length ≤ 1000) (i : Nat) (hi : i < ds.length) (bd : Bd H.length ds[i]) :
    Calls Try.prog 90 #[.pointer (some ⟨b, 0, none⟩), .int .i64 (i : Int)] w fun e w' => ∃ y : Bool, e = .returned (.bool y) ∧ ∃ vH', Cn w0 w' b p a0 len cap vH' (pickH H ds i hi) vD (pickD H ds i hi) ∧ ∀ g, vH'.ownBlock = some g → b < g := by
  obtain ⟨q, cq, sp, rfl, hq1, hq2, hq3, hVq, hcq1, hcq2, hcq3⟩ := c.hands.form (by omega)
  obtain ⟨g, cg, rfl, hg1, hg2, -⟩ := c.heap.form hlen.1
  have hha := HA.of_row hVq i hi
  have hcr0 := c.crew.cell 0 (by simp)
  have hcr1 := c.crew.cell 1 (by simp)
  simp only [List.getElem_cons_zero, List.getElem_cons_succ] at hcr0 hcr1
  obtain ⟨d, hd⟩ : ∃ d, ds[i] = d := ⟨_, rfl⟩
  rw [hd] at hha bd
  have CN : Hid (Cn w0 w b p a0 len cap (.slice (some ⟨g, 0, none⟩) H.length cg) H (.slice (some ⟨q, 0, none⟩) ds.length cq) ds) := c
  have BD : Hid (Bd H.length d) := bd
  have VQ : Hid (VBlk w q 29 (hvs ds ++ sp)) := hVq
  have HAH : Hid (HA w q (8 * i) 29 (hvs (ds.take i)) (hvs (ds.drop (i + 1)) ++ sp) d) := hha
  have hi' : (i : Int) < (ds.length : Int) := by omega
  have hst := hha.cell 3 (by omega)
  have hst' : w.cell? ⟨q, i * 8 + 3, none⟩ = some (.int .i64 d.step) := by rw [Nat.mul_comm i 8]; exact hst
  have hbg : b < g := hgb g rfl
  have GL : Hid (1 ≤ H.length ∧ H.length ≤ 40) := hlen
  have hqb : b ≠ q := fun z => c.db q rfl z.symm
  have hgq : g ≠ q := fun z => c.hd g rfl (by rw [z]; rfl)
  have hbw : b < w.heap.size := c.crew.lt
  clear hst c bd hVq hha hgb
  by_cases h5 : d.step = 5
  · have g5 : (d.step == 5) = true := by simpa using h5
    have e1 : Hid (pickH H ds i hi = H) := if_pos (by rw [hd]; exact h5)
    have e2 : Hid (pickD H ds i hi = ds) := if_pos (by rw [hd]; exact h5)
    rw [e1.out, e2.out]
    clear h5 hd
    go_enter Try.func90, Try.ntmps90
    go_wp2
    go_ret
    exact ⟨_, rfl, _, CN.out, fun k hk => by cases hk; exact hbg⟩
  · have g5 : (d.step == 5) = false := by simpa using h5
    have e1 : Hid (pickH H ds i hi = (ce.move H d).1) := by unfold Hid pickH; rw [if_neg (by rw [hd]; exact h5), hd]
    have e2 : Hid (pickD H ds i hi = ds.set i (ce.move H d).2) := by unfold Hid pickD; rw [if_neg (by rw [hd]; exact h5), hd]
    rw [e1.out, e2.out]
    clear h5 hd
    go_enter Try.func90, Try.ntmps90
    go_wp2
    refine wp_region_held_drew (S := fun _ => True) (by kernel_rfl) trivial (fun hHeld => ?_)
    refine takeW 0 27 (.pointer (some ⟨b, 0, none⟩)) rfl (by kernel_rfl) (by kernel_rfl) (by kernel_rfl) (fun _ _ _ h => h) (by kernel_rfl) (fun w' hS => by go_simp) hHeld ?_
    go_frame
    refine takeW 1 28 (.pointer (some ⟨b, 0, none⟩)) rfl (by kernel_rfl) (by kernel_rfl) (by kernel_rfl) (fun _ _ _ h => h) (by kernel_rfl) (fun w' hS => by go_simp) hHeld ?_
    go_frame
    refine takeW 2 29 (.pointer (some ⟨b, 0, none⟩)) rfl (by kernel_rfl) (by kernel_rfl) (by kernel_rfl) (fun _ _ _ h => h) (by kernel_rfl) (fun w' hS => by go_simp) hHeld ?_
    go_frame
    refine takeW 3 30 (.pointer (some ⟨b, 0, none⟩)) rfl (by kernel_rfl) (by kernel_rfl) (by kernel_rfl) (fun _ _ _ h => h) (by kernel_rfl) (fun w' hS => by go_simp) hHeld ?_
    go_frame
    refine takeW 5 32 (.pointer (some ⟨b, 0, none⟩)) rfl (by kernel_rfl) (by kernel_rfl) (by kernel_rfl) (fun _ _ _ h => h) (by kernel_rfl) (fun w' hS => by go_simp) hHeld ?_
    go_frame
    refine takeW 6 33 (.pointer (some ⟨b, 0, none⟩)) rfl (by kernel_rfl) (by kernel_rfl) (by kernel_rfl) (fun _ _ _ h => h) (by kernel_rfl) (fun w' hS => by go_simp) hHeld ?_
    go_frame
    refine takeW 7 34 (.pointer (some ⟨b, 1, none⟩)) rfl (by kernel_rfl) (by kernel_rfl) (by kernel_rfl) (fun _ _ _ h => h) (by kernel_rfl) (fun w' hS => by go_simp) hHeld ?_
    go_frame
    refine takeW 9 36 (.int .i64 (i : Int)) rfl (by kernel_rfl) (by kernel_rfl) (by kernel_rfl) (fun _ _ _ h => h) (by kernel_rfl) (fun w' hS => by go_simp) hHeld ?_
    go_frame
    have hcr0d : w.drew.cell? ⟨b, 0, none⟩ = some (.slice (some ⟨g, 0, none⟩) H.length cg) := hcr0
    have hcr1d : w.drew.cell? ⟨b, 1, none⟩ = some (.slice (some ⟨q, 0, none⟩) ds.length cq) := hcr1
    refine wpAnyH_ready (rs := [4, 8]) (by kernel_rfl) (by simp) ?_
    refine AllReadyH.cons rfl (fun K hK => ?_) ( AllReadyH.cons rfl (fun K hK => ?_) AllReadyH.nil)
    · go_simp
      refine hK.out _ _ trivial (fun _ => ?_)
      try go_frame
      refine wpAnyH_ready (rs := [8]) (by kernel_rfl) (by simp) ?_
      refine AllReadyH.cons rfl (fun K hK => ?_) AllReadyH.nil
      go_simp
      refine hK.out _ _ trivial (fun _ => ?_)
      try go_frame
      refine takeW 10 37 (.pointer (some ⟨q, i * 8, none⟩)) rfl (by kernel_rfl) (by kernel_rfl) (by kernel_rfl) (fun _ _ _ h => h) (by kernel_rfl) (fun w' hS => by go_simp) trivial ?_
      go_frame
      refine wpAnyH_ready (rs := [11]) (by kernel_rfl) (by simp) ?_
      refine AllReadyH.cons rfl (fun K hK => ?_) AllReadyH.nil
      go_simp
      go_at_call 47
      have me : Me w.drew (b + 1) g q (i * 8) 29 (hvs (ds.take i)) (hvs (ds.drop (i + 1)) ++ sp) (.slice (some ⟨g, 0, none⟩) H.length cg) H d := ⟨own_block CN.out.heap, by omega, hgq, by show g < w.heap.size; omega, by rw [Nat.mul_comm i 8]; exact ⟨HAH.out.blk, HAH.out.off⟩, by show b + 1 ≤ w.heap.size; exact hbw, GL.out⟩
      refine (l5MoveA H d (.slice (some ⟨g, 0, none⟩) H.length cg) (b + 1) g q (i * 8) 29 _ _ w.drew me BD.out).mono ?_
      rintro er w2 ⟨v2, g2, rfl, me2, mv2⟩
      obtain ⟨cap2, rfl⟩ := me2.form
      have crew2 : VBlk w2 b 92 [.slice (some ⟨g, 0, none⟩) H.length cg, .slice (some ⟨q, 0, none⟩) ds.length cq] := CN.out.crew.of (mv2.block b (by omega) hqb)
      refine hK.out _ _ trivial (fun _ => ?_)
      try go_frame
      refine takeW 12 39 (.pointer (some ⟨b, 0, none⟩)) rfl (by kernel_rfl) (by kernel_rfl) (by kernel_rfl) (fun _ _ _ h => h) (by kernel_rfl) (fun w' hS => by go_simp) trivial ?_
      go_frame
      refine takeW 13 40 (.pointer (some ⟨b, 0, none⟩)) rfl (by kernel_rfl) (by kernel_rfl) (by kernel_rfl) (fun _ _ _ h => h) (by kernel_rfl) (fun w' hS => by go_simp) trivial ?_
      go_frame
      refine wpAnyH_ready (rs := [14]) (by kernel_rfl) (by simp) ?_
      refine AllReadyH.cons rfl (fun K2 hK2 => ?_) AllReadyH.nil
      refine step_store_c rfl _ _ rfl b 0 (some ⟨g2, 0, none⟩) (ce.move H d).1.length cap2 rfl rfl crew2 (by simp) ?_
      intro w3 hO3 hV3
      refine hK2.out _ _ trivial (fun _ => ?_)
      refine wpAnyH_done (by kernel_rfl) ?_ _
      go_wp2
      go_ret
      exact ⟨_, rfl, _, pick_cn CN.out hi VQ.out hq1 hcq1 hcq2 hcq3 me2 mv2 hO3 hV3, fun k hk => by cases hk; have := me2.glo; show b < g2; omega⟩
    · go_simp
      refine hK.out _ _ trivial (fun _ => ?_)
      try go_frame
      refine takeW 10 37 (.pointer (some ⟨q, i * 8, none⟩)) rfl (by kernel_rfl) (by kernel_rfl) (by kernel_rfl) (fun _ _ _ h => h) (by kernel_rfl) (fun w' hS => by go_simp) trivial ?_
      go_frame
      refine wpAnyH_ready (rs := [4]) (by kernel_rfl) (by simp) ?_
      refine AllReadyH.cons rfl (fun K hK => ?_) AllReadyH.nil
      go_simp
      refine hK.out _ _ trivial (fun _ => ?_)
      try go_frame
      refine wpAnyH_ready (rs := [11]) (by kernel_rfl) (by simp) ?_
      refine AllReadyH.cons rfl (fun K hK => ?_) AllReadyH.nil
      go_simp
      go_at_call 47
      have me : Me w.drew (b + 1) g q (i * 8) 29 (hvs (ds.take i)) (hvs (ds.drop (i + 1)) ++ sp) (.slice (some ⟨g, 0, none⟩) H.length cg) H d := ⟨own_block CN.out.heap, by omega, hgq, by show g < w.heap.size; omega, by rw [Nat.mul_comm i 8]; exact ⟨HAH.out.blk, HAH.out.off⟩, by show b + 1 ≤ w.heap.size; exact hbw, GL.out⟩
      refine (l5MoveA H d (.slice (some ⟨g, 0, none⟩) H.length cg) (b + 1) g q (i * 8) 29 _ _ w.drew me BD.out).mono ?_
      rintro er w2 ⟨v2, g2, rfl, me2, mv2⟩
      obtain ⟨cap2, rfl⟩ := me2.form
      have crew2 : VBlk w2 b 92 [.slice (some ⟨g, 0, none⟩) H.length cg, .slice (some ⟨q, 0, none⟩) ds.length cq] := CN.out.crew.of (mv2.block b (by omega) hqb)
      refine hK.out _ _ trivial (fun _ => ?_)
      try go_frame
      refine takeW 12 39 (.pointer (some ⟨b, 0, none⟩)) rfl (by kernel_rfl) (by kernel_rfl) (by kernel_rfl) (fun _ _ _ h => h) (by kernel_rfl) (fun w' hS => by go_simp) trivial ?_
      go_frame
      refine takeW 13 40 (.pointer (some ⟨b, 0, none⟩)) rfl (by kernel_rfl) (by kernel_rfl) (by kernel_rfl) (fun _ _ _ h => h) (by kernel_rfl) (fun w' hS => by go_simp) trivial ?_
      go_frame
      refine wpAnyH_ready (rs := [14]) (by kernel_rfl) (by simp) ?_
      refine AllReadyH.cons rfl (fun K2 hK2 => ?_) AllReadyH.nil
      refine step_store_c rfl _ _ rfl b 0 (some ⟨g2, 0, none⟩) (ce.move H d).1.length cap2 rfl rfl crew2 (by simp) ?_
      intro w3 hO3 hV3
      refine hK2.out _ _ trivial (fun _ => ?_)
      refine wpAnyH_done (by kernel_rfl) ?_ _
      go_wp2
      go_ret
      exact ⟨_, rfl, _, pick_cn CN.out hi VQ.out hq1 hcq1 hcq2 hcq3 me2 mv2 hO3 hV3, fun k hk => by cases hk; have := me2.glo; show b < g2; omega⟩
end Go.Proofs.Ytodpbghkjnlfdaa.draw
/- What the laws draw: a crew under way. -/
namespace Go.Proofs.Ytodpbghkjnlfdaa.draw
open Go.ChangeShapes Go.WideShapes Go.ChangeAt Go.RowKit
open Go.Proofs.Ytodpbghkjnlfdaa.ce
set_option linter.unusedVariables false

/-- heap and hands that may be moved -/
structure Fit (H : List C) (ds : List Hd) : Prop where
  good : ce.good H
  le : ds.length ≤ 4
  bd : ∀ d ∈ ds, Bd H.length d
theorem Fit.pick {H : List C} {ds : List Hd} (f : Fit H ds) (i : Nat) (hi : i < ds.length) : Fit (pickH H ds i hi) (pickD H ds i hi) ∧ (pickD H ds i hi).length = ds.length := by
  unfold pickH pickD
  by_cases h5 : ds[i].step = 5
  · rw [if_pos h5, if_pos h5]; exact ⟨f, rfl⟩
  · rw [if_neg h5, if_neg h5]
    have hb := move_bd f.good (f.bd _ (List.getElem_mem hi))
    refine ⟨⟨hb.good, by rw [List.length_set]; exact f.le, fun d hd => ?_⟩, by rw [List.length_set]⟩
    rcases List.mem_or_eq_of_mem_set hd with q | q
    · exact (f.bd d q).le hb.le
    · rw [q]; exact hb.bd

set_option maxRecDepth 100000 in
set_option maxHeartbeats 2000000 in
theorem l6Draw_any (w : World) (p : Nat) (a0 : Option Addr) (len cap : Nat) (hc : Cur w p a0 len cap) :
    Calls Try.prog 82 #[.pointer (some ⟨p, 0, none⟩)] w fun e w' => ∃ vH vD, e = .returned (.agg #[vH, vD]) ∧ ∃ H ds, Cr w w' p a0 len cap vH H vD ds ∧ Fit H ds := by
  have hp := hc.1
  have HC : Hid (Cur w p a0 len cap) := hc
  clear hc
  have m1 : Hid True := trivial
  have m2 : Hid True := trivial
  go_enter Try.func82, Try.ntmps82
  go_upto_region 3 with (first | (clear m1; refine wpList_alloc_v rfl 92 rfl _ zeroCr ?_; intro b2 w1 hb2 hw1 hB1 hV1; have hz1 := hB1.size; have hc1 := cur_below HC.out hB1 hp; have hg1 : w.grownBy w1 (some p) := gb_below (World.grownBy.refl _ _) hB1 (Nat.le_refl _)) | (go_at_call 88; refine (l6New_any _ p a0 len cap hc1).mono ?_; rintro er w2 ⟨vH2, vD, rfl, ds, cr2, hl4, hnew⟩; have hz2 := cr2.gb.size; obtain ⟨va, vc, rfl⟩ := cr2.hands.len; obtain ⟨gH, cH, rfl, -, -, -⟩ := cr2.heap.form (by simp)) | (refine wpList_alloc_v rfl 92 rfl _ zeroCr ?_; intro b3 w3 hb3 hw3 hB3 hV3; have hz3 := hB3.size) | (clear m2; refine wpList_store_v rfl 92 _ _ rfl b3 [.slice (some ⟨gH, 0, none⟩) 1 cH, .slice va ds.length vc] rfl rfl sizeCr hV3 rfl (by simp [Value.oneCell']) ?_; intro w4 hO4 hV4; have hz4 := hO4.1; have hc4 := cur_only (cur_below cr2.cur hB3 cr2.cur.1) hO4 (by have := cr2.cur.1; omega)) | (go_at_call 89; refine (l3Draw_any w4 p a0 len cap hc4).mono ?_; rintro er w5 ⟨v5, rfl, H5, ds5⟩; have hz5 := ds5.gb.size; obtain ⟨g, cg, rfl, hgl, hgh, -⟩ := ds5.own.form ds5.good.1.1) | (refine wpList_store_1 rfl _ _ rfl b3 0 (some ⟨g, 0, none⟩) H5.length cg rfl rfl (hV4.of (ds5.gb.block b3 (by omega) (fun q => by cases q; omega))) (by simp) ?_; intro w6 hO6 hV6; have hz6 := hO6.1) | (fail))
  have hands5 : OwnH w5 w1.heap.size w2.heap.size (.slice va ds.length vc) ds := ((cr2.hands.below hB3 (Nat.le_refl _)).keep fun j j1 j2 => hO4.2.1 j (by omega)).keep fun j j1 j2 => ds5.gb.block j (by omega) (fun q => by cases q; omega)
  have hands6 : OwnH w6 w1.heap.size w6.heap.size (.slice va ds.length vc) ds := (hands5.keep fun j j1 j2 => hO6.2.1 j (by omega)).wide (Nat.le_refl _) (by omega)
  have heap6 : ce.Own w6 w1.heap.size w6.heap.size (.slice (some ⟨g, 0, none⟩) H5.length cg) H5 := (ds5.own.keep fun j j1 j2 => hO6.2.1 j (by omega)).wide (by omega) (by omega)
  have gb4 : w1.grownBy w4 (some p) := gb_only (gb_below cr2.gb hB3 (by omega)) hO4 (by omega)
  have cn6 : Cn w1 w6 b3 p a0 len cap (.slice (some ⟨g, 0, none⟩) H5.length cg) H5 (.slice va ds.length vc) ds := ⟨hV6, heap6, hands6, fun k hk => apart_hb heap6 hV6 k hk, fun k hk => apart_db hands6 hV6 k hk, fun k h1 h2 => apart_hd heap6 hands6 k h1 h2, by omega, cur_only ds5.cur hO6 (by omega), gb_only (gb_trans gb4 ds5.gb) hO6 (by omega), by omega⟩
  have ft6 : Fit H5 ds := ⟨ds5.good, hl4, fun d hd => (hnew d hd).bd _ ds5.good.1.1⟩
  have hgb6 : b3 < g := by omega
  have HV1 : Hid (VBlk w1 b2 92 [.slice none 0 0, .slice none 0 0]) := hV1
  have HG1 : Hid (w.grownBy w1 (some p)) := hg1
  clear hands5 hands6 heap6 hV1 hg1 hc1 cr2 hnew hB3 hV3 hV4 hc4 hO4 hV6 hO6 gb4
  go_wp2_with (first | (go_at_call 54; refine (below_from w6 w6 p a0 len cap _ (by omega) cn6.cur (World.grownBy.refl _ _)).mono ?_; rintro er w7 ⟨x7, rfl, x70, x71, hc7, hg7⟩; have cn7 := cn6.drawn hg7 hc7) | (fail))
  obtain ⟨m0, rfl⟩ : ∃ m : Nat, x7 = m := ⟨x7.toNat, by omega⟩
  obtain ⟨N, hN⟩ := hid_ex ds.length
  rw [hN.out] at cn7 hl4
  go_loopw [4] (fun n wr => ∃ (m : Nat) (H : List C) (vH : Value) (es : List Hd), n = .int .i64 m ∧ m ≤ 49 ∧ es.length = N ∧ Fit H es ∧ Cn w1 wr b3 p a0 len cap vH H (.slice va N vc) es ∧ ∀ k, vH.ownBlock = some k → b3 < k) (fun n _ => (intOf n).toNat)
  case atStart => exact ⟨m0, H5, _, ds, rfl, by omega, hN.out, ft6, cn7, fun k hk => by cases hk; exact hgb6⟩
  case round =>
    obtain ⟨m, H, vH, es, rfl, hm, hes, ft, cn, hgb⟩ := hrel
    have CN : Hid (Cn w1 wr b3 p a0 len cap vH H (.slice va N vc) es) := cn
    have FT : Hid (Fit H es) := ft
    have GB : Hid (∀ k, vH.ownBlock = some k → b3 < k) := hgb
    have HE : Hid (es.length = N) := hes
    obtain ⟨gv, cv', rfl, -, -, -⟩ := cn.heap.form ft.good.1.1
    have hcr0 := cn.crew.cell 0 (by simp)
    have hcr1 := cn.crew.cell 1 (by simp)
    simp only [List.getElem_cons_zero, List.getElem_cons_succ] at hcr0 hcr1
    clear cn ft hgb hes cn6 cn7 ft6 ds5
    by_cases hpos : 0 < m
    · have hpos' : (0 : Int) < m := by omega
      by_cases hN0 : 0 < N
      · have hN0' : (0 : Int) < (N : Int) := by omega
        have hN1 : (N : Int) ≤ 4 := by omega
        go_wp2_with (first | (go_at_call 54; refine (below_from wr wr p a0 len cap _ (by omega) CN.out.cur (World.grownBy.refl _ _)).mono ?_; rintro er w8 ⟨x8, rfl, x80, x81, hc8, hg8⟩; have cn8 := CN.out.drawn hg8 hc8; obtain ⟨i, rfl⟩ : ∃ i : Nat, x8 = i := ⟨x8.toNat, by omega⟩; have hi : i < es.length := (by rw [HE.out]; omega)) | (go_at_call 90; refine (l6Pick_any w1 w8 b3 p a0 len cap _ H _ es cn8 GB.out FT.out.good.1 (by have := FT.out.le; omega) i hi (FT.out.bd _ (List.getElem_mem hi))).mono ?_; rintro er w9 ⟨y9, rfl, vH9, cn9, hgb9⟩) | (fail))
        go_roundw
        case rel => exact ⟨m - 1, _, vH9, _, by congr 1; omega, by omega, by rw [(FT.out.pick i hi).2, HE.out], (FT.out.pick i hi).1, cn9, hgb9⟩
        case measure => simp [intOf]; omega
      · have hN0' : ¬ ((0 : Int) < (N : Int)) := by omega
        go_wp2_with (first | (refine wpList_store_v rfl 92 _ _ rfl b2 [.slice (some ⟨gv, 0, none⟩) H.length cv', .slice va N vc] rfl rfl sizeCr (HV1.out.of (CN.out.gb.block b2 hw1 (fun q => by cases q; omega))) rfl (by simp [Value.oneCell']) ?_; intro wA hOA hVA; have hzA := hOA.1) | (fail))
        exact row_retv rfl rfl hVA Try.underlying92 sizeCr rfl ⟨.slice (some ⟨gv, 0, none⟩) H.length cv', .slice va N vc, rfl, H, es, ⟨((CN.out.heap.keep fun j j1 j2 => hOA.2.1 j (by omega)).wide (by omega) (by omega)), ((CN.out.hands.keep fun j j1 j2 => hOA.2.1 j (by omega)).wide (by omega) (by omega)), CN.out.hd, cur_only CN.out.cur hOA (by omega), gb_only (gb_trans HG1.out CN.out.gb) hOA (by omega)⟩, FT.out⟩
    · have hpos' : ¬ ((0 : Int) < m) := by omega
      go_wp2_with (first | (refine wpList_store_v rfl 92 _ _ rfl b2 [.slice (some ⟨gv, 0, none⟩) H.length cv', .slice va N vc] rfl rfl sizeCr (HV1.out.of (CN.out.gb.block b2 hw1 (fun q => by cases q; omega))) rfl (by simp [Value.oneCell']) ?_; intro wB hOB hVB; have hzB := hOB.1) | (fail))
      exact row_retv rfl rfl hVB Try.underlying92 sizeCr rfl ⟨.slice (some ⟨gv, 0, none⟩) H.length cv', .slice va N vc, rfl, H, es, ⟨((CN.out.heap.keep fun j j1 j2 => hOB.2.1 j (by omega)).wide (by omega) (by omega)), ((CN.out.hands.keep fun j j1 j2 => hOB.2.1 j (by omega)).wide (by omega) (by omega)), CN.out.hd, cur_only CN.out.cur hOB (by omega), gb_only (gb_trans HG1.out CN.out.gb) hOB (by omega)⟩, FT.out⟩
end Go.Proofs.Ytodpbghkjnlfdaa.draw
/- What the laws draw: a heap and a hand beside it. -/
namespace Go.Proofs.Ytodpbghkjnlfdaa.draw
open Go.ChangeShapes Go.WideShapes Go.ChangeAt Go.RowKit
open Go.Proofs.Ytodpbghkjnlfdaa.ce
set_option linter.unusedVariables false

/-- a heap in a crew's variable, a hand in its own -/
structure Ls (w0 w : World) (b3 b4 b6 p : Nat) (a0 : Option Addr) (len cap : Nat) (vH : Value) (H : List C) (vD : Value) (d : Hd) : Prop where
  crew : VBlk w b4 92 [vH, vD]
  heap : ce.Own w w0.heap.size w.heap.size vH H
  hand : HB w b6 d
  res : HB w b3 ⟨0, 0, 0, 0, 0, 0, 0, 0⟩
  lo : w0.heap.size ≤ b3 ∧ w0.heap.size ≤ b4 ∧ w0.heap.size ≤ b6
  ne : b3 ≠ b4 ∧ b3 ≠ b6 ∧ b4 ≠ b6
  hb : ∀ k, vH.ownBlock = some k → k ≠ b3 ∧ k ≠ b6
  cur : Cur w p a0 len cap
  gb : w0.grownBy w (some p)
  pw : p < w0.heap.size
theorem Ls.drawn {w0 w w' : World} {b3 b4 b6 p : Nat} {a0 : Option Addr} {len cap : Nat} {vH vD : Value} {H : List C} {d : Hd} (c : Ls w0 w b3 b4 b6 p a0 len cap vH H vD d) (g : w.grownBy w' (some p)) (hc : Cur w' p a0 len cap) : Ls w0 w' b3 b4 b6 p a0 len cap vH H vD d := by
  have hp := c.pw
  obtain ⟨l3, l4, l6⟩ := c.lo
  refine ⟨c.crew.of (g.block b4 c.crew.lt (fun e => by cases e; omega)), (own_keepB c.heap fun k hk => ?_).wide (Nat.le_refl _) g.size, c.hand.of (g.block b6 c.hand.lt (fun e => by cases e; omega)), c.res.of (g.block b3 c.res.lt (fun e => by cases e; omega)), c.lo, c.ne, c.hb, hc, gb_trans c.gb g, hp⟩
  have := own_lo c.heap k hk
  exact g.block k this.2.2 (fun e => by cases e; omega)
theorem Ls.turn {w0 w w' : World} {b3 b4 b6 p : Nat} {a0 : Option Addr} {len cap : Nat} {vH vD : Value} {H : List C} {d d' : Hd} (c : Ls w0 w b3 b4 b6 p a0 len cap vH H vD d) (hO : Only b6 w w') (hb : HB w' b6 d') : Ls w0 w' b3 b4 b6 p a0 len cap vH H vD d' := by
  have hp := c.pw
  obtain ⟨l3, l4, l6⟩ := c.lo
  obtain ⟨n1, n2, n3⟩ := c.ne
  exact ⟨c.crew.of (hO.2.1 b4 n3), (own_keepB c.heap fun k hk => hO.2.1 k (c.hb k hk).2).wide (Nat.le_refl _) (Nat.le_of_eq hO.1.symm), hb, c.res.of (hO.2.1 b3 n2), c.lo, c.ne, c.hb, cur_only c.cur hO (by omega), gb_only c.gb hO l6, hp⟩
theorem apart_ch {w : World} {lo hi : Nat} {vH : Value} {H : List C} {b : Nat} {d : Hd} (o : ce.Own w lo hi vH H) (hc : HB w b d) (q : Nat) (hq : vH.ownBlock = some q) : q ≠ b := by
  rintro rfl
  obtain ⟨c2, e2⟩ := own_type o q hq
  have := hc.blk
  unfold VBlk at this
  rw [this] at e2
  simp only [Option.some.injEq, Obj.cells.injEq] at e2
  exact absurd e2.2.1 (by decide)

theorem row_cells {w : World} {q : Nat} {ds : List Hd} {sp : List Value} (h : VBlk w q 29 (hvs ds ++ sp)) (i : Nat) (hi : i < ds.length) {k x y s l e o t : Int} (hd : ds[i] = ⟨k, x, y, s, l, e, o, t⟩) :
    w.cell? ⟨q, i * 8, none⟩ = some (.int .i64 k) ∧ w.cell? ⟨q, i * 8 + 1, none⟩ = some (.int .i64 x) ∧ w.cell? ⟨q, i * 8 + 2, none⟩ = some (.int .i64 y) ∧ w.cell? ⟨q, i * 8 + 3, none⟩ = some (.int .i64 s) ∧ w.cell? ⟨q, i * 8 + 4, none⟩ = some (.int .i64 l) ∧ w.cell? ⟨q, i * 8 + 5, none⟩ = some (.int .i64 e) ∧ w.cell? ⟨q, i * 8 + 6, none⟩ = some (.int .i64 o) ∧ w.cell? ⟨q, i * 8 + 7, none⟩ = some (.int .i64 t) := by
  have ha := HA.of_row h i hi
  rw [hd, Nat.mul_comm 8 i] at ha
  exact ha.cells

set_option maxRecDepth 100000 in
set_option maxHeartbeats 4000000 in
theorem l5Draw_any (w : World) (p : Nat) (a0 : Option Addr) (len cap : Nat) (hc : Cur w p a0 len cap) :
    Calls Try.prog 75 #[.pointer (some ⟨p, 0, none⟩)] w fun er w' => ∃ (v : Value) (d : Hd), er = .returned (.tuple #[v, .agg (hv d).toArray]) ∧ ∃ H, ce.Own w' w.heap.size w'.heap.size v H ∧ (1 ≤ H.length ∧ H.length ≤ 40) ∧ Cur w' p a0 len cap ∧ w.grownBy w' (some p) := by
  have hp := hc.1
  have HC : Hid (Cur w p a0 len cap) := hc
  clear hc
  go_enter Try.func75, Try.ntmps75
  go_upto_region 2 with (first | (refine wpList_alloc_v rfl 29 rfl _ zeroH ?_; intro b3 w1 hb3 hw1 hB1 hV1; have hz1 := hB1.size; have hc1 := cur_below HC.out hB1 hp) | (go_at_call 82; refine (l6Draw_any _ p a0 len cap hc1).mono ?_; rintro er w2 ⟨vH2, vD, rfl, H, ds, cr2, ft⟩; have hz2 := cr2.gb.size; obtain ⟨va, vc, rfl⟩ := cr2.hands.len; obtain ⟨g, cg, rfl, hgl, hgh, -⟩ := cr2.heap.form ft.good.1.1) | (refine wpList_alloc_v rfl 92 rfl _ zeroCr ?_; intro b4 w3 hb4 hw3 hB3 hV3; have hz3 := hB3.size) | (refine wpList_store_v rfl 92 _ _ rfl b4 [.slice (some ⟨g, 0, none⟩) H.length cg, .slice va ds.length vc] rfl rfl sizeCr hV3 rfl (by simp [Value.oneCell']) ?_; intro w4 hO4 hV4; have hz4 := hO4.1) | (fail))
  have hc4 : Cur w4 p a0 len cap := cur_only (cur_below cr2.cur hB3 cr2.cur.1) hO4 (by have := cr2.cur.1; omega)
  have gb4 : w1.grownBy w4 (some p) := gb_only (gb_below cr2.gb hB3 (by omega)) hO4 (by omega)
  have heap4 : ce.Own w4 w1.heap.size w2.heap.size (.slice (some ⟨g, 0, none⟩) H.length cg) H := (cr2.heap.below hB3 (Nat.le_refl _)).keep fun j j1 j2 => hO4.2.1 j (by omega)
  have hands4 : OwnH w4 w1.heap.size w2.heap.size (.slice va ds.length vc) ds := (cr2.hands.below hB3 (Nat.le_refl _)).keep fun j j1 j2 => hO4.2.1 j (by omega)
  have res4 : HB w4 b3 ⟨0, 0, 0, 0, 0, 0, 0, 0⟩ := ⟨hV1.of (gb4.block b3 hw1 (fun q => by cases q; omega))⟩
  have gbw : w.grownBy w1 (some p) := gb_below (World.grownBy.refl _ _) hB1 (Nat.le_refl _)
  have gbw4 : w.grownBy w4 (some p) := gb_trans gbw gb4
  have hln := ft.good.1
  have hl4 := ft.le
  have hcr0 := hV4.cell 0 (by simp)
  have hcr1 := hV4.cell 1 (by simp)
  simp only [List.getElem_cons_zero, List.getElem_cons_succ] at hcr0 hcr1
  have C4 : Hid (Cur w4 p a0 len cap ∧ w.grownBy w4 (some p)) := ⟨hc4, gbw4⟩
  have H4 : Hid (ce.Own w4 w1.heap.size w2.heap.size (.slice (some ⟨g, 0, none⟩) H.length cg) H) := heap4
  have D4 : Hid (OwnH w4 w1.heap.size w2.heap.size (.slice va ds.length vc) ds) := hands4
  have R4 : Hid (HB w4 b3 ⟨0, 0, 0, 0, 0, 0, 0, 0⟩) := res4
  have V4 : Hid (VBlk w4 b4 92 [.slice (some ⟨g, 0, none⟩) H.length cg, .slice va ds.length vc]) := hV4
  clear hc4 gb4 heap4 hands4 res4 gbw gbw4 hV4 hO4 hV3 hB3 cr2 ft hV1 hc1
  by_cases h0 : ds.length = 0
  · have h0' : ((ds.length : Int) == 0) = true := by simp [h0]
    go_wp2
    refine wp_region_held_drew (S := fun w' => w'.cell? ⟨b4, 0, none⟩ = some (.slice (some ⟨g, 0, none⟩) H.length cg)) (by kernel_rfl) hcr0 (fun hHeld => ?_)
    refine takeW 0 14 (.pointer (some ⟨b4, 0, none⟩)) rfl (by kernel_rfl) (by kernel_rfl) (by kernel_rfl) (fun _ _ _ h => h) (by kernel_rfl) (fun w' hS => by go_simp) hHeld ?_
    go_frame
    refine takeW 1 15 (.slice (some ⟨g, 0, none⟩) H.length cg) rfl (by kernel_rfl) (by kernel_rfl) (by kernel_rfl) (fun _ _ _ h => h) (by kernel_rfl) (fun w' hS => by go_simp) hHeld ?_
    go_frame
    refine takeW 2 16 (.pointer (some ⟨p, 0, none⟩)) rfl (by kernel_rfl) (by kernel_rfl) (by kernel_rfl) (fun _ _ _ h => h) (by kernel_rfl) (fun w' hS => by go_simp) hHeld ?_
    go_frame
    refine wpAnyH_ready (rs := [3]) (by kernel_rfl) (by simp) ?_
    refine AllReadyH.cons rfl (fun K hK => ?_) AllReadyH.nil
    go_simp
    go_at_call 83
    refine (l5DrawHand_any w4.drew p a0 len cap (cur_below C4.out.1 ((Below.refl w4.heap.size w4).drew) C4.out.1.1)).mono ?_
    rintro er w5 ⟨d5, rfl, hn5, hc5, hg5⟩
    have hz5 : w4.heap.size ≤ w5.heap.size := hg5.size
    obtain ⟨k, x, y, s, l, e, o, t⟩ := d5
    have hcr5 : w5.cell? ⟨b4, 0, none⟩ = some (.slice (some ⟨g, 0, none⟩) H.length cg) := (World.cell?_of_block (w := w4.drew) (w' := w5) (a := ⟨b4, 0, none⟩) (hg5.block b4 (by show b4 < w4.heap.size; omega) (fun q => by cases q; omega))).trans hcr0
    dsimp only [hv]
    refine hK.out _ _ hcr5 (fun hHeld5 => ?_)
    try go_frame
    refine takeW 4 2 (.slice (some ⟨g, 0, none⟩) H.length cg) rfl (by kernel_rfl) (by kernel_rfl) (by kernel_rfl) (fun _ _ _ h => h) (by kernel_rfl) (fun w' hS => by go_simp) hHeld5 ?_
    go_frame
    refine wpAnyH_ready (rs := [5]) (by kernel_rfl) (by simp) ?_
    refine AllReadyH.cons rfl (fun K2 hK2 => ?_) AllReadyH.nil
    refine step_store_v rfl 29 _ _ rfl b3 (hv ⟨k, x, y, s, l, e, o, t⟩) rfl rfl sizeH (R4.out.blk.of (hg5.block b3 (by show b3 < w4.heap.size; omega) (fun q => by cases q; omega))) rfl (hv_one _) ?_
    intro w6 hO6 hV6
    have hz6 := hO6.1
    refine hK2.out _ _ ((World.cell?_of_block (w := w5) (w' := w6) (a := ⟨b4, 0, none⟩) (hO6.2.1 b4 (by omega))).trans hcr5) (fun _ => ?_)
    refine wpAnyH_done (by kernel_rfl) ?_ _
    go_wp2
    have heap6 : ce.Own w6 w1.heap.size w2.heap.size (.slice (some ⟨g, 0, none⟩) H.length cg) H := (H4.out.keep (w' := w5) fun j j1 j2 => hg5.block j (by show j < w4.heap.size; omega) (fun q => by cases q; omega)).keep fun j j1 j2 => hO6.2.1 j (by omega)
    exact row_tmp_cell rfl rfl rfl hV6 Try.underlying29 sizeH rfl ⟨_, ⟨k, x, y, s, l, e, o, t⟩, rfl, H, heap6.wide (by omega) (by omega), hln, cur_only hc5 hO6 (by omega), gb_only (gb_trans (gb_below C4.out.2 ((Below.refl w4.heap.size w4).drew) C4.out.2.size) hg5) hO6 hb3⟩
  · have h0' : ((ds.length : Int) == 0) = false := by rw [beq_eq_false_iff_ne]; omega
    obtain ⟨q, cq, sp, e9, hq1, hq2, hq3, hVq, -, -, -⟩ := D4.out.form (by omega)
    cases e9
    have VQ : Hid (VBlk w4 q 29 (hvs ds ++ sp)) := hVq
    have hq4 : q ≠ b4 := by omega
    clear hVq D4
    go_wp2
    go_cut [6] (fun p6 wc => ∃ (b6 : Nat) (d : Hd), p6 = .pointer (some ⟨b6, 0, none⟩) ∧ Ls w wc b3 b4 b6 p a0 len cap (.slice (some ⟨g, 0, none⟩) H.length cg) H (.slice (some ⟨q, 0, none⟩) ds.length vc) d)
    case first =>
      refine wp_region_held_drew (S := fun w' => VBlk w' q 29 (hvs ds ++ sp) ∧ w'.cell? ⟨b4, 1, none⟩ = some (.slice (some ⟨q, 0, none⟩) ds.length vc)) (by kernel_rfl) ⟨VQ.out.drew, hcr1⟩ (fun hHeld => ?_)
      refine takeW 0 18 (.pointer (some ⟨b4, 1, none⟩)) rfl (by kernel_rfl) (by kernel_rfl) (by kernel_rfl) (fun _ _ _ h => h) (by kernel_rfl) (fun w' hS => by go_simp) hHeld ?_
      go_frame
      refine takeW 1 19 (.slice (some ⟨q, 0, none⟩) ds.length vc) rfl (by kernel_rfl) (by kernel_rfl) (by kernel_rfl) (fun _ _ _ h => h) (by kernel_rfl) (fun w' hS => by have z := hS.2; go_simp) hHeld ?_
      go_frame
      refine takeW 2 20 (.pointer (some ⟨p, 0, none⟩)) rfl (by kernel_rfl) (by kernel_rfl) (by kernel_rfl) (fun _ _ _ h => h) (by kernel_rfl) (fun w' hS => by go_simp) hHeld ?_
      go_frame
      refine takeW 3 21 (.int .i64 (ds.length : Int)) rfl (by kernel_rfl) (by kernel_rfl) (by kernel_rfl) (fun _ _ _ h => h) (by kernel_rfl) (fun w' hS => by go_simp) hHeld ?_
      go_frame
      refine wpAnyH_ready (rs := [4, 7]) (by kernel_rfl) (by simp) ?_
      refine consM rfl (fun K hK => ?_) (consM rfl (fun K hK => ?_) AllReadyH.nil)
      · have hHeldX := hHeld
        have cX : Cur w4.drew p a0 len cap := cur_below C4.out.1 ((Below.refl w4.heap.size w4).drew) C4.out.1.1
        have hzd : w4.drew.heap.size = w4.heap.size := rfl
        go_simp
        go_at_call 54
        refine (below_from w4.drew w4.drew p a0 len cap _ (by omega) cX (World.grownBy.refl _ _)).mono ?_
        rintro er w5 ⟨x9, rfl, x90, x91, cY, hgY⟩
        have hzY : w4.drew.heap.size ≤ w5.heap.size := hgY.size
        obtain ⟨i, rfl⟩ : ∃ i : Nat, x9 = i := ⟨x9.toNat, by omega⟩
        have hi : i < ds.length := by omega
        have hi' : (i : Int) < (ds.length : Int) := x91
        obtain ⟨d, hd⟩ : ∃ d, ds[i] = d := ⟨_, rfl⟩
        obtain ⟨k, x, y, s, l, e, o, t⟩ := d
        have kY : ∀ j, w4.drew.heap.size > j → j ≠ p → w5.heap[j]? = w4.drew.heap[j]? := fun j j1 j2 => hgY.block j j1 (fun z => by cases z; exact j2 rfl)
        have S5 : VBlk w5 q 29 (hvs ds ++ sp) ∧ w5.cell? ⟨b4, 1, none⟩ = some (.slice (some ⟨q, 0, none⟩) ds.length vc) := ⟨hHeldX.1.of (kY q (by show q < w4.drew.heap.size; omega) (by omega)), (World.cell?_of_block (w := w4.drew) (w' := w5) (a := ⟨b4, 1, none⟩) (kY b4 (by show b4 < w4.drew.heap.size; omega) (by omega))).trans hHeldX.2⟩
        refine hK.out _ _ S5 (fun _ => ?_)
        try go_frame
        refine takeW 5 23 (.pointer (some ⟨q, i * 8, none⟩)) rfl (by kernel_rfl) (by kernel_rfl) (by kernel_rfl) (fun _ _ _ h => h) (by kernel_rfl) (fun w' hS => by go_simp) S5 ?_
        go_frame
        refine takeW 6 24 (.agg #[.int .i64 k, .int .i64 x, .int .i64 y, .int .i64 s, .int .i64 l, .int .i64 e, .int .i64 o, .int .i64 t]) rfl (by kernel_rfl) (by kernel_rfl) (by kernel_rfl) (fun _ _ _ h => h) (by kernel_rfl) (fun w' hS => by obtain ⟨z0, z1, z2, z3, z4, z5, z6, z7⟩ := row_cells hS.1 i hi hd; go_simp) S5 ?_
        go_frame
        refine wpAnyH_ready (rs := [7]) (by kernel_rfl) (by simp) ?_
        refine consM rfl (fun K2 hK2 => ?_) AllReadyH.nil
        refine step_alloc_v (a := ⟨_, []⟩) rfl 29 rfl _ zeroH ?_
        intro b6 w6 hb6 hw6 hB6 hV6
        have hz6 := hB6.size
        have S6 : VBlk w6 q 29 (hvs ds ++ sp) ∧ w6.cell? ⟨b4, 1, none⟩ = some (.slice (some ⟨q, 0, none⟩) ds.length vc) := ⟨S5.1.of (hB6.block q (by omega)), (World.cell?_of_block (w := w5) (w' := w6) (a := ⟨b4, 1, none⟩) (hB6.block b4 (by omega))).trans S5.2⟩
        refine hK2.out _ _ S6 (fun _ => ?_)
        try go_frame
        refine wpAnyH_ready (rs := [8]) (by kernel_rfl) (by simp) ?_
        refine consM rfl (fun K3 hK3 => ?_) AllReadyH.nil
        refine step_store_v (a := ⟨_, []⟩) rfl 29 _ _ rfl b6 (hv ⟨k, x, y, s, l, e, o, t⟩) rfl rfl sizeH hV6 rfl (hv_one _) ?_
        intro w7 hO7 hV7
        have hz7 := hO7.1
        have heap6 : ce.Own w6 w1.heap.size w2.heap.size (.slice (some ⟨g, 0, none⟩) H.length cg) H := (H4.out.keep (w' := w5) fun j j1 j2 => kY j (by show j < w4.heap.size; omega) (by omega)).below hB6 (by omega)
        have lsF : Ls w w7 b3 b4 b6 p a0 len cap (.slice (some ⟨g, 0, none⟩) H.length cg) H (.slice (some ⟨q, 0, none⟩) ds.length vc) ⟨k, x, y, s, l, e, o, t⟩ := ⟨((V4.out.of (w' := w5) (kY b4 (by show b4 < w4.heap.size; omega) (by omega))).of (hB6.block b4 (by omega))).of (hO7.2.1 b4 (by omega)), (heap6.keep fun j j1 j2 => hO7.2.1 j (by omega)).wide (by omega) (by omega), ⟨hV7⟩, ((R4.out.of (w' := w5) (kY b3 (by show b3 < w4.heap.size; omega) (by omega))).of (hB6.block b3 (by omega))).of (hO7.2.1 b3 (by omega)), ⟨by omega, by omega, by omega⟩, ⟨by omega, by omega, by omega⟩, fun k hk => (by cases hk; exact ⟨by show g ≠ b3; omega, by show g ≠ b6; omega⟩), cur_only (cur_below cY hB6 cY.1) hO7 (by omega), gb_only (gb_below (gb_trans (gb_below C4.out.2 ((Below.refl w4.heap.size w4).drew) C4.out.2.size) hgY) hB6 (by omega)) hO7 (by omega), hp⟩
        refine hK3.out _ _ ⟨S6.1.of (hO7.2.1 q (by omega)), (World.cell?_of_block (w := w6) (w' := w7) (a := ⟨b4, 1, none⟩) (hO7.2.1 b4 (by omega))).trans S6.2⟩ (fun _ => ?_)
        refine wpAnyH_done (by kernel_rfl) ?_ _
        go_wp2
        go_meet
        case rel => exact ⟨b6, ⟨k, x, y, s, l, e, o, t⟩, rfl, lsF⟩
      · refine step_alloc_v (a := ⟨_, []⟩) rfl 29 rfl _ zeroH ?_
        intro b6 w5 hb6 hw5 hB5 hV5
        have hz5 : w4.heap.size ≤ w5.heap.size := hB5.size
        have hb6' : w4.heap.size ≤ b6 := hb6
        have hHeldX : VBlk w5 q 29 (hvs ds ++ sp) ∧ w5.cell? ⟨b4, 1, none⟩ = some (.slice (some ⟨q, 0, none⟩) ds.length vc) := ⟨hHeld.1.of (hB5.block q (by show q < w4.heap.size; omega)), (World.cell?_of_block (w := w4.drew) (w' := w5) (a := ⟨b4, 1, none⟩) (hB5.block b4 (by show b4 < w4.heap.size; omega))).trans hHeld.2⟩
        refine hK.out _ _ hHeldX (fun _ => ?_)
        try go_frame
        have cX : Cur w5 p a0 len cap := cur_below (cur_below C4.out.1 ((Below.refl w4.heap.size w4).drew) C4.out.1.1) hB5 (by show p < w4.heap.size; omega)
        refine wpAnyH_ready (rs := [4]) (by kernel_rfl) (by simp) ?_
        refine consM rfl (fun K2 hK2 => ?_) AllReadyH.nil
        go_simp
        go_at_call 54
        refine (below_from w5 w5 p a0 len cap _ (by omega) cX (World.grownBy.refl _ _)).mono ?_
        rintro er w6 ⟨x9, rfl, x90, x91, cY, hgY⟩
        have hzY : w5.heap.size ≤ w6.heap.size := hgY.size
        obtain ⟨i, rfl⟩ : ∃ i : Nat, x9 = i := ⟨x9.toNat, by omega⟩
        have hi : i < ds.length := by omega
        have hi' : (i : Int) < (ds.length : Int) := x91
        obtain ⟨d, hd⟩ : ∃ d, ds[i] = d := ⟨_, rfl⟩
        obtain ⟨k, x, y, s, l, e, o, t⟩ := d
        have kY : ∀ j, w5.heap.size > j → j ≠ p → w6.heap[j]? = w5.heap[j]? := fun j j1 j2 => hgY.block j j1 (fun z => by cases z; exact j2 rfl)
        have S6 : VBlk w6 q 29 (hvs ds ++ sp) ∧ w6.cell? ⟨b4, 1, none⟩ = some (.slice (some ⟨q, 0, none⟩) ds.length vc) := ⟨hHeldX.1.of (kY q (by show q < w5.heap.size; omega) (by omega)), (World.cell?_of_block (w := w5) (w' := w6) (a := ⟨b4, 1, none⟩) (kY b4 (by show b4 < w5.heap.size; omega) (by omega))).trans hHeldX.2⟩
        refine hK2.out _ _ S6 (fun _ => ?_)
        try go_frame
        refine takeW 5 23 (.pointer (some ⟨q, i * 8, none⟩)) rfl (by kernel_rfl) (by kernel_rfl) (by kernel_rfl) (fun _ _ _ h => h) (by kernel_rfl) (fun w' hS => by go_simp) S6 ?_
        go_frame
        refine takeW 6 24 (.agg #[.int .i64 k, .int .i64 x, .int .i64 y, .int .i64 s, .int .i64 l, .int .i64 e, .int .i64 o, .int .i64 t]) rfl (by kernel_rfl) (by kernel_rfl) (by kernel_rfl) (fun _ _ _ h => h) (by kernel_rfl) (fun w' hS => by obtain ⟨z0, z1, z2, z3, z4, z5, z6, z7⟩ := row_cells hS.1 i hi hd; go_simp) S6 ?_
        go_frame
        refine wpAnyH_ready (rs := [8]) (by kernel_rfl) (by simp) ?_
        refine consM rfl (fun K3 hK3 => ?_) AllReadyH.nil
        refine step_store_v (a := ⟨_, []⟩) rfl 29 _ _ rfl b6 (hv ⟨k, x, y, s, l, e, o, t⟩) rfl rfl sizeH (hV5.of (kY b6 hw5 (by omega))) rfl (hv_one _) ?_
        intro w7 hO7 hV7
        have hz7 := hO7.1
        have heap5 : ce.Own w5 w1.heap.size w2.heap.size (.slice (some ⟨g, 0, none⟩) H.length cg) H := H4.out.keep (w' := w5) fun j j1 j2 => hB5.block j (by show j < w4.heap.size; omega)
        have heap6 : ce.Own w6 w1.heap.size w2.heap.size (.slice (some ⟨g, 0, none⟩) H.length cg) H := heap5.keep (w' := w6) fun j j1 j2 => kY j (by omega) (by omega)
        have lsF : Ls w w7 b3 b4 b6 p a0 len cap (.slice (some ⟨g, 0, none⟩) H.length cg) H (.slice (some ⟨q, 0, none⟩) ds.length vc) ⟨k, x, y, s, l, e, o, t⟩ := ⟨((V4.out.of (w' := w5) (hB5.block b4 (by show b4 < w4.heap.size; omega))).of (kY b4 (by omega) (by omega))).of (hO7.2.1 b4 (by omega)), (heap6.keep fun j j1 j2 => hO7.2.1 j (by omega)).wide (by omega) (by omega), ⟨hV7⟩, ((R4.out.of (w' := w5) (hB5.block b3 (by show b3 < w4.heap.size; omega))).of (kY b3 (by omega) (by omega))).of (hO7.2.1 b3 (by omega)), ⟨by omega, by omega, by omega⟩, ⟨by omega, by omega, by omega⟩, fun k hk => (by cases hk; exact ⟨by show g ≠ b3; omega, by show g ≠ b6; omega⟩), cur_only cY hO7 (by omega), gb_only (gb_trans (gb_below (gb_below C4.out.2 ((Below.refl w4.heap.size w4).drew) C4.out.2.size) hB5 (by have := C4.out.2.size; show w.heap.size ≤ w4.heap.size; omega)) hgY) hO7 (by omega), hp⟩
        refine hK3.out _ _ ⟨S6.1.of (hO7.2.1 q (by omega)), (World.cell?_of_block (w := w6) (w' := w7) (a := ⟨b4, 1, none⟩) (hO7.2.1 b4 (by omega))).trans S6.2⟩ (fun _ => ?_)
        refine wpAnyH_done (by kernel_rfl) ?_ _
        go_wp2
        go_meet
        case rel => exact ⟨b6, ⟨k, x, y, s, l, e, o, t⟩, rfl, lsF⟩
    case rest =>
      rename World => w8
      obtain ⟨b6, d8, rfl, ls8⟩ := hcut
      obtain ⟨k, x, y, s, l, e, o, t⟩ := d8
      go_upto_if 26 with (first | (go_at_call 84; refine (once_from w8 w8 p a0 len cap _ (by omega) ls8.cur (World.grownBy.refl _ _)).mono ?_; rintro er w9 ⟨y9, rfl, hc9, hg9⟩; have ls9 := ls8.drawn hg9 hc9) | (fail))
      go_cut [6] (fun p6 wc => p6 = .pointer (some ⟨b6, 0, none⟩) ∧ ∃ d, Ls w wc b3 b4 b6 p a0 len cap (.slice (some ⟨g, 0, none⟩) H.length cg) H (.slice (some ⟨q, 0, none⟩) ds.length vc) d)
      case first =>
        cases y9
        · go_wp2
          go_meet
          case rel => exact ⟨rfl, _, ls9⟩
        go_wp2_with (first | (go_at_call 54; refine (below_from w9 w9 p a0 len cap _ (by omega) ls9.cur (World.grownBy.refl _ _)).mono ?_; rintro er w10 ⟨x10, rfl, x100, x101, hc10, hg10⟩; have ls10 := ls9.drawn hg10 hc10; rcases (by omega : x10 = 0 ∨ x10 = 1 ∨ x10 = 2 ∨ x10 = 3 ∨ x10 = 4) with k0 | k1 | k2 | k3 | k4) | (clear k0; go_at_call 53; refine (from_from w10 w10 p a0 len cap _ _ (by omega) (by omega) (by omega) ls10.cur (World.grownBy.refl _ _)).mono ?_; rintro er w11 ⟨x11, rfl, -, -, hc11, hg11⟩; have ls11 := ls10.drawn hg11 hc11) | (clear k1; go_at_call 85; refine (drawAt_from w10 w10 p a0 len cap ls10.cur (World.grownBy.refl _ _)).mono ?_; rintro er w11 ⟨x11, rfl, -, -, hc11, hg11⟩; have ls11 := ls10.drawn hg11 hc11) | (clear k2; go_at_call 85; refine (drawAt_from w10 w10 p a0 len cap ls10.cur (World.grownBy.refl _ _)).mono ?_; rintro er w11 ⟨x11, rfl, -, -, hc11, hg11⟩; have ls11 := ls10.drawn hg11 hc11) | (clear k3; go_at_call 85; refine (drawAt_from w10 w10 p a0 len cap ls10.cur (World.grownBy.refl _ _)).mono ?_; rintro er w11 ⟨x11, rfl, -, -, hc11, hg11⟩; have ls11 := ls10.drawn hg11 hc11) | (clear k4; go_at_call 53; refine (from_from w10 w10 p a0 len cap _ _ (by omega) (by omega) (by omega) ls10.cur (World.grownBy.refl _ _)).mono ?_; rintro er w11 ⟨x11, rfl, -, -, hc11, hg11⟩; have ls11 := ls10.drawn hg11 hc11) | (refine wpList_store_f rfl _ _ rfl b6 3 x11 rfl rfl ⟨k, x, y, x11, l, e, o, t⟩ (by omega) ls11.hand rfl ?_; intro w12 hO12 hb12; have ls12 := ls11.turn hO12 hb12) | (refine wpList_store_f rfl _ _ rfl b6 4 x11 rfl rfl ⟨k, x, y, s, x11, e, o, t⟩ (by omega) ls11.hand rfl ?_; intro w12 hO12 hb12; have ls12 := ls11.turn hO12 hb12) | (refine wpList_store_f rfl _ _ rfl b6 5 x11 rfl rfl ⟨k, x, y, s, l, x11, o, t⟩ (by omega) ls11.hand rfl ?_; intro w12 hO12 hb12; have ls12 := ls11.turn hO12 hb12) | (refine wpList_store_f rfl _ _ rfl b6 6 x11 rfl rfl ⟨k, x, y, s, l, e, x11, t⟩ (by omega) ls11.hand rfl ?_; intro w12 hO12 hb12; have ls12 := ls11.turn hO12 hb12) | (refine wpList_store_f rfl _ _ rfl b6 7 x11 rfl rfl ⟨k, x, y, s, l, e, o, x11⟩ (by omega) ls11.hand rfl ?_; intro w12 hO12 hb12; have ls12 := ls11.turn hO12 hb12) | (fail))
        all_goals (go_meet; case rel => exact ⟨rfl, _, ls12⟩)
      case rest =>
        rename World => w13
        obtain ⟨rfl, d9, ls9⟩ := hcut
        obtain ⟨k9, x9, y9, s9, l9, e9, o9, t9⟩ := d9
        have hcr9 := ls9.crew.cell 0 (by simp)
        simp only [List.getElem_cons_zero] at hcr9
        obtain ⟨c0, c1, c2, c3, c4, c5, c6, c7⟩ := ls9.hand.cells
        obtain ⟨q0, q1, q2, q3, q4, q5, q6, q7⟩ := ls9.res.cells
        obtain ⟨f0, f1, f2, f3, f4, f5, f6, f7⟩ := ls9.res.fz
        have LS9 : Hid (Ls w w13 b3 b4 b6 p a0 len cap (.slice (some ⟨g, 0, none⟩) H.length cg) H (.slice (some ⟨q, 0, none⟩) ds.length vc) ⟨k9, x9, y9, s9, l9, e9, o9, t9⟩) := ls9
        obtain ⟨n1, n2, n3⟩ := ls9.ne
        have n4 := Ne.symm n1
        have n5 := Ne.symm n2
        clear ls9 ls8
        go_wp2
        go_region
        go_wp2
        obtain ⟨hb8, hO8⟩ := fill8 LS9.out.res k9 x9 y9 s9 l9 e9 o9 t9
        exact row_tmp_cell rfl rfl rfl hb8.blk Try.underlying29 sizeH rfl ⟨_, ⟨k9, x9, y9, s9, l9, e9, o9, t9⟩, rfl, H, (own_keepB LS9.out.heap fun k hk => hO8.2.1 k (LS9.out.hb k hk).1).wide (Nat.le_refl _) (by have := hO8.1; omega), hln, cur_only LS9.out.cur hO8 (by omega), gb_only LS9.out.gb hO8 hb3⟩
end Go.Proofs.Ytodpbghkjnlfdaa.draw
/- What DrawParentOf draws: whatever the bytes, a number from -1 to 40000; nothing that was there is written. -/
namespace Go.Proofs.Ytodpbghkjnlfdaa.draw
open Go.ChangeShapes Go.WideShapes Go.ChangeAt Go.RowKit
set_option linter.unusedVariables false

theorem cur_drew {w : World} {p : Nat} {a0 : Option Addr} {len cap : Nat} (h : Cur w p a0 len cap) : Cur w.drew p a0 len cap := h
theorem gb_drew {w w' : World} {r : Option Nat} (h : w.grownBy w' r) : w.grownBy w'.drew r := ⟨h.os, h.tape, h.output, h.size, h.block⟩

theorem below_reg (w0 w : World) (p : Nat) (a0 : Option Addr) (len cap : Nat) (n : Int) (hn : 1 ≤ n) (hc : Cur w p a0 len cap) (hg : w0.grownBy w (some p)) :
    Calls Try.prog 54 #[.pointer (some ⟨p, 0, none⟩), .int .i64 n] w fun e w' => ∃ x : Int, e = .returned (.int .i64 x) ∧ 0 ≤ x ∧ x < n ∧ Cur w' p a0 len cap ∧ w0.grownBy w' (some p) ∧ p < w'.heap.size ∧ w.heap.size ≤ w'.heap.size ∧
      (∀ b o, b < w.heap.size → p < b → w'.cell? ⟨b, o, none⟩ = w.cell? ⟨b, o, none⟩) :=
  (below_from w w p a0 len cap n hn hc (World.grownBy.refl _ _)).mono fun e w' ⟨x, h1, h2, h3, h4, h5⟩ => ⟨x, h1, h2, h3, h4, gb_trans hg h5, h4.1, h5.size, fun b o hb hne => gb_cell h5 hb (by omega) o⟩

def lit (x : Int) : Int := [0, 1, 2, 3, 5, 32767, 32768, -1].getD x.toNat 0
theorem lit_bd (x : Int) : -1 ≤ lit x ∧ lit x ≤ 32768 := by
  unfold lit
  rcases h : x.toNat with _ | _ | _ | _ | _ | _ | _ | _ | n <;> simp

end Go.Proofs.Ytodpbghkjnlfdaa.draw
/- What the laws of chapter 5 draw. -/
namespace Go.Proofs.Ytodpbghkjnlfdaa.draw
open Go.ChangeShapes Go.WideShapes Go.ChangeAt Go.RowKit
open Go.Proofs.Ytodpbghkjnlfdaa.ce
set_option linter.unusedVariables false

theorem code_at {w w1 : World} {a0 : Option Addr} {len : Nat} (h : CodeAt w a0 len) (hB : Below w.heap.size w w1) : CodeAt w1 a0 len := by
  refine ⟨h.1, ?_⟩
  rcases h.2 with h0 | ⟨b, off, e, hl, hc⟩
  · exact .inl h0
  · refine .inr ⟨b, off, e, Nat.lt_of_lt_of_le hl hB.size, fun k hk => ?_⟩
    obtain ⟨c, hcell, h1, h2⟩ := hc k hk
    exact ⟨c, by rw [hB.cell hl]; exact hcell, h1, h2⟩
/-- a heap and a hand have been drawn -/
structure Dh (w w' : World) (v : Value) (H : List C) : Prop where
  own : ce.Own w' w.heap.size w'.heap.size v H
  len : 1 ≤ H.length ∧ H.length ≤ 40
  bel : Below w.heap.size w w'

set_option maxHeartbeats 1000000 in
theorem drawHandOk_any (w : World) (a0 : Option Addr) (len cap : Nat) (hcode : CodeAt w a0 len) :
    Calls Try.prog 51 #[.slice a0 len cap] w fun er w' => ∃ (v : Value) (d : Hd), er = .returned (.tuple #[v, .agg (hv d).toArray]) ∧ ∃ H, Dh w w' v H := by
  have HC : Hid (CodeAt w a0 len) := hcode
  clear hcode
  go_enter Try.func51, Try.ntmps51
  go_wp2_with (first | (refine wpList_alloc_v rfl 29 rfl _ zeroH ?_; intro b3 w1 hb3 hw1 hB1 hV1; have hz1 := hB1.size) | (go_at_call 52; refine (new_cur _ _ _ _ (code_at HC.out hB1)).mono ?_; rintro er w2 ⟨p, rfl, hp, hc2, hB2⟩; have hz2 := hB2.size) | (go_at_call 75; refine (l5Draw_any _ p a0 len cap hc2).mono ?_; rintro er w3 ⟨v3, d3, rfl, H, ho3, hl3, hc3, hg3⟩; have hz3 := hg3.size; obtain ⟨k, x, y, s, l, e, o, t⟩ := d3; dsimp only [hv]) | (refine wpList_store_v rfl 29 _ _ rfl b3 (hv ⟨k, x, y, s, l, e, o, t⟩) rfl rfl sizeH ((hV1.below hB2 (by omega)).of (hg3.block b3 (by omega) (fun q => by cases q; omega))) rfl (hv_one _) ?_; intro w4 hO4 hV4; have hz4 := hO4.1) | (fail))
  have hB3 : Below w.heap.size w w3 := Below.grown (hB1.trans (hB2.mono hz1)) hg3 (by omega) (fun k hk => by cases hk; omega)
  exact row_tmp_cell rfl rfl rfl hV4 Try.underlying29 sizeH rfl ⟨_, ⟨k, x, y, s, l, e, o, t⟩, rfl, H, (ho3.keep fun j j1 j2 => hO4.2.1 j (by omega)).wide (by omega) (by omega), hl3, hB3.trans (hO4.2.2 _ hb3)⟩

set_option maxHeartbeats 1000000 in
theorem drawMoved_any (w : World) (a0 : Option Addr) (len cap : Nat) (hcode : CodeAt w a0 len) :
    Calls Try.prog 25 #[.slice a0 len cap] w fun er w' => ∃ (v : Value) (d : Hd), er = .returned (.tuple #[v, .agg (hv d).toArray]) ∧ ∃ H, Dh w w' v H := by
  have HC : Hid (CodeAt w a0 len) := hcode
  clear hcode
  go_enter Try.func25, Try.ntmps25
  go_wp2_with (first | (refine wpList_alloc_v rfl 29 rfl _ zeroH ?_; intro b3 w1 hb3 hw1 hB1 hV1; have hz1 := hB1.size) | (go_at_call 51; refine (drawHandOk_any _ _ _ _ (code_at HC.out hB1)).mono ?_; rintro er w2 ⟨v2, d2, rfl, H, dh2⟩; have hz2 := dh2.bel.size; obtain ⟨k, x, y, s, l, e, o, t⟩ := d2; dsimp only [hv]) | (refine wpList_store_v rfl 29 _ _ rfl b3 (hv ⟨k, x, y, s, l, e, o, t⟩) rfl rfl sizeH (hV1.below dh2.bel (by omega)) rfl (hv_one _) ?_; intro w4 hO4 hV4; have hz4 := hO4.1) | (fail))
  exact row_tmp_cell rfl rfl rfl hV4 Try.underlying29 sizeH rfl ⟨_, ⟨k, x, y, s, l, e, o, t⟩, rfl, H, (dh2.own.keep fun j j1 j2 => hO4.2.1 j (by omega)).wide (by omega) (by omega), dh2.len, (hB1.trans (dh2.bel.mono hz1)).trans (hO4.2.2 _ hb3)⟩

set_option maxHeartbeats 1000000 in
theorem drawAlone_any (w : World) (a0 : Option Addr) (len cap : Nat) (hcode : CodeAt w a0 len) :
    Calls Try.prog 32 #[.slice a0 len cap] w fun er w' => ∃ (v : Value) (d : Hd), er = .returned (.tuple #[v, .agg (hv d).toArray]) ∧ ∃ H, Dh w w' v H := by
  have HC : Hid (CodeAt w a0 len) := hcode
  clear hcode
  go_enter Try.func32, Try.ntmps32
  go_wp2_with (first | (refine wpList_alloc_v rfl 29 rfl _ zeroH ?_; intro b3 w1 hb3 hw1 hB1 hV1; have hz1 := hB1.size) | (go_at_call 51; refine (drawHandOk_any _ _ _ _ (code_at HC.out hB1)).mono ?_; rintro er w2 ⟨v2, d2, rfl, H, dh2⟩; have hz2 := dh2.bel.size; obtain ⟨k, x, y, s, l, e, o, t⟩ := d2; dsimp only [hv]) | (refine wpList_store_v rfl 29 _ _ rfl b3 (hv ⟨k, x, y, s, l, e, o, t⟩) rfl rfl sizeH (hV1.below dh2.bel (by omega)) rfl (hv_one _) ?_; intro w4 hO4 hV4; have hz4 := hO4.1) | (fail))
  exact row_tmp_cell rfl rfl rfl hV4 Try.underlying29 sizeH rfl ⟨_, ⟨k, x, y, s, l, e, o, t⟩, rfl, H, (dh2.own.keep fun j j1 j2 => hO4.2.1 j (by omega)).wide (by omega) (by omega), dh2.len, (hB1.trans (dh2.bel.mono hz1)).trans (hO4.2.2 _ hb3)⟩

def litN (x : Int) : Int := [0, 1, 7, 65535, 65536].getD x.toNat 0
set_option maxHeartbeats 1000000 in
theorem drawNewHand_any (w : World) (a0 : Option Addr) (len cap : Nat) (hcode : CodeAt w a0 len) :
    Calls Try.prog 26 #[.slice a0 len cap] w fun er w' => ∃ (k x y : Int), er = .returned (.tuple #[.int .i64 k, .int .i64 x, .int .i64 y]) ∧ Below w.heap.size w w' := by
  have hlit : ∀ x : Int, 0 ≤ x → x < 5 → (#[Value.int .i64 0, .int .i64 1, .int .i64 7, .int .i64 65535, .int .i64 65536] : Array Value)[x.toNat]? = some (.int .i64 (litN x)) := by
    intro x h0 h1
    unfold litN
    rcases h : x.toNat with _ | _ | _ | _ | _ | n
    all_goals first | rfl | omega
  have hlit2 : ∀ (x : Int) (h : x.toNat < [Value.int .i64 0, .int .i64 1, .int .i64 7, .int .i64 65535, .int .i64 65536].length), ([Value.int .i64 0, .int .i64 1, .int .i64 7, .int .i64 65535, .int .i64 65536])[x.toNat]'h = .int .i64 (litN x) := by
    intro x h
    have h8 : x.toNat < 5 := h
    by_cases h0 : 0 ≤ x
    · have e := hlit x h0 (by omega)
      simp only [List.getElem?_toArray] at e
      rw [List.getElem?_eq_getElem h] at e
      exact Option.some.inj e
    · have e : x.toNat = 0 := by omega
      simp only [e, litN]; rfl
  go_enter Try.func26, Try.ntmps26
  go_wp2_with (first | (go_at_call 52; refine (new_cur _ _ _ _ hcode).mono ?_; rintro e w0 ⟨p, rfl, hp, hc0, hB0⟩) | (go_at_call 53; refine (from_from w0 w0 p a0 len cap _ _ (by omega) (by omega) (by omega) hc0 (World.grownBy.refl _ _)).mono ?_; rintro e w1 ⟨k1, rfl, -, -, hc, hg01⟩; have hB : Below w.heap.size w w1 := Below.grown hB0 hg01 hB0.size (fun k hk => by cases hk; exact hp)) | (fail))
  have hg := World.grownBy.refl w1 (some p)
  have hp1 := hc.1
  clear hcode hc0 hB0 hg01
  have hmark : Hid (0 = 0) := rfl
  go_region_with (first | (go_at_call 54; have hm2 := hmark; clear hm2 hmark; refine (below_reg w1 _ p a0 len cap _ (by omega) (by first | assumption | exact cur_drew (cur_alloc hc _) | exact cur_drew hc | exact cur_alloc (by assumption) _) (by first | assumption | exact gb_drew (gb_alloc hg _) | exact gb_drew hg | exact gb_alloc (by assumption) _)).mono ?_; rintro e w2 ⟨x, rfl, hx0, hx1, hc2, hg2, hpw2, hsw2, hcell2⟩; first | (have hL : w2.cell? ⟨w1.heap.size, x.toNat, none⟩ = some (.int .i64 (litN x)) := (by rw [hcell2 w1.heap.size x.toNat (by simp) hp1]; simp only [World.cell?_drew, World.cell?_alloc_new]; exact hlit x hx0 hx1)) | skip; clear hcell2) | (go_at_call 54; refine (below_reg w1 _ p a0 len cap _ (by omega) (by first | assumption | exact cur_drew (cur_alloc hc _) | exact cur_drew hc | exact cur_alloc (by assumption) _) (by first | assumption | exact gb_drew (gb_alloc hg _) | exact gb_drew hg | exact gb_alloc (by assumption) _)).mono ?_; rintro e w3 ⟨y, rfl, hy0, hy1, hc3, hg3, hpw3, hsw3, hcell3⟩; first | (have hL3 : w3.cell? ⟨w1.heap.size, x.toNat, none⟩ = some (.int .i64 (litN x)) := (by rw [hcell3 w1.heap.size x.toNat (by simp at hsw2; omega) hp1]; exact hL)) | (have hL3 : w3.cell? ⟨w2.heap.size, x.toNat, none⟩ = some (.int .i64 (litN x)) := (by rw [hcell3 w2.heap.size x.toNat (by simp) hpw2]; simp only [World.cell?_alloc_new]; exact hlit x hx0 hx1)) | skip; clear hcell3) | (fail))
  all_goals
    go_wp2
    refine bodyPost_ret (results_tmp3 rfl _ _ _) rfl ?_
    refine ⟨_, _, _, rfl, ?_⟩
    first | exact hB.grown hg3 hB.size (fun k hk => by cases hk; exact hp) | exact hB.grown (gb_alloc hg3 _) hB.size (fun k hk => by cases hk; exact hp)
end Go.Proofs.Ytodpbghkjnlfdaa.draw
