/- Texts laid together: Ok5 Cw1 Cw5 Cw6 Cw8 Cw2 In4 Mb1 Cp1 Cp3 Cp4 Pl1. -/
import Derived.Test.YthjkhghlhjndmaaOk41
import Derived.Test.YthjkhghlhjndmaaOk42
import Derived.Test.YthjkhghlhjndmaaOk43
import Derived.Test.YthjkhghlhjndmaaOk44
import Derived.Test.YthjkhghlhjndmaaMg07
import Derived.Test.YthjkhghlhjndmaaMg08
import Derived.Test.YthjkhghlhjndmaaMg04
import Derived.Test.YthjkhghlhjndmaaRows
import Derived.Stop.Asserts
import Derived.Scope
import Derived.WalkMore
/- Contracts: l5Ok, HandOk. -/
namespace Go.Proofs.Ythjkhghlhjndmaa.ce
open Go.ChangeShapes Go.WideShapes Go.ChangeAt Go.RowKit
set_option linter.unusedVariables false

theorem l5Ok_any (H : List C) (hok : heapOk H) (d : Hd) (v : Value) (hi : Nat) (w : World) (hh : hi ≤ w.heap.size) (r : Rd w hi v H) :
    Calls Try.prog 45 #[v, .agg (hv d).toArray] w fun er w' => er = .returned (.bool (okB H d)) ∧ Below w.heap.size w w' := by
  obtain ⟨k, x, y, s, l, e, o, t⟩ := d
  by_cases hr : (1 ≤ k ∧ k ≤ 3) ∧ (1 ≤ x ∧ x ≤ 65535) ∧ (0 ≤ s ∧ s ≤ 5)
  · obtain ⟨hk, hx, hs⟩ := hr
    rcases (by omega : s = 0 ∨ s = 1 ∨ s = 2 ∨ s = 3 ∨ s = 4 ∨ s = 5) with rfl | rfl | rfl | rfl | rfl | rfl
    · exact ok_idle0 H hok k x y l e o t v hi w hh r hk hx
    · exact ok_way1 H hok k x y l e o t v hi w hh r hk hx
    · exact ok_way2 H hok k x y l e o t v hi w hh r hk hx
    · exact ok_way3 H hok k x y l e o t v hi w hh r hk hx
    · exact ok_way4 H hok k x y l e o t v hi w hh r hk hx
    · exact ok_idle5 H hok k x y l e o t v hi w hh r hk hx
  · exact ok_range H hok k x y s l e o t v hi w hh r hr

noncomputable def handB (H : List C) (d : Hd) : Bool := if heapOk H then okB H d else false
theorem handB_pos {H : List C} {d : Hd} (h : heapOk H) : handB H d = okB H d := if_pos h
theorem handB_neg {H : List C} {d : Hd} (h : ¬ heapOk H) : handB H d = false := if_neg h

theorem specHandOk_any (H : List C) (d : Hd) (v : Value) (hi : Nat) (w : World) (hh : hi ≤ w.heap.size) (r : Rd w hi v H) :
    Calls Try.prog 39 #[v, .agg (hv d).toArray] w fun er w' => er = .returned (.bool (handB H d)) ∧ Below w.heap.size w w' := by
  obtain ⟨a, cap, rfl⟩ := r.form
  have R : Hid (Rd w hi (.slice a H.length cap) H) := r
  clear r
  obtain ⟨k, x, y, s, l, e, o, t⟩ := d
  by_cases hok : heapOk H
  · have HK : Hid (decide (heapOk H) = true) := decide_eq_true hok
    have HO : Hid (heapOk H) := hok
    obtain ⟨z, hz⟩ := hid_ex (okB H ⟨k, x, y, s, l, e, o, t⟩)
    rw [handB_pos hok, hz.out]
    clear hok
    go_enter Try.func39, Try.ntmps39
    go_wp2_with (first | (refine wpList_box_v rfl 58 _ rfl (hv ⟨k, x, y, s, l, e, o, t⟩) rfl ?_; intro b3 w1 hb3 hw1 hB1 hV1; have hb : HB w1 b3 ⟨k, x, y, s, l, e, o, t⟩ := ⟨hV1⟩; have hz1 := hB1.size) | (go_at_call 38; refine (specHeapOk_any H _ hi _ (by omega) (R.out.below hB1 hh)).mono ?_; rintro er w2 ⟨rfl, hB2⟩; rw [HK.out]; have hz2 := hB2.size; have hb2 := hb.of (hB2.block b3 hw1); obtain ⟨c0, c1, c2, c3, c4, c5, c6, c7⟩ := hb2.cells) | (go_at_call 45; refine (l5Ok_any H HO.out ⟨k, x, y, s, l, e, o, t⟩ _ hi _ (by omega) ((R.out.below hB1 hh).below hB2 (by omega))).mono ?_; rintro er w3 ⟨rfl, hB3⟩; rw [hz.out]) | (fail))
    go_ret
    exact ⟨rfl, (hB1.trans (hB2.mono hz1)).trans (hB3.mono (by omega))⟩
  · have HK : Hid (decide (heapOk H) = false) := decide_eq_false hok
    rw [handB_neg hok]
    clear hok
    go_enter Try.func39, Try.ntmps39
    go_wp2_with (first | (refine wpList_box_v rfl 58 _ rfl (hv ⟨k, x, y, s, l, e, o, t⟩) rfl ?_; intro b3 w1 hb3 hw1 hB1 hV1; have hb : HB w1 b3 ⟨k, x, y, s, l, e, o, t⟩ := ⟨hV1⟩; have hz1 := hB1.size) | (go_at_call 38; refine (specHeapOk_any H _ hi _ (by omega) (R.out.below hB1 hh)).mono ?_; rintro er w2 ⟨rfl, hB2⟩; rw [HK.out]; have hz2 := hB2.size) | (fail))
    go_ret
    exact ⟨rfl, hB1.trans (hB2.mono hz1)⟩
end Go.Proofs.Ythjkhghlhjndmaa.ce
/- Contract: the model's CrewOk. -/
namespace Go.Proofs.Ythjkhghlhjndmaa.ce
open Go.ChangeShapes Go.WideShapes Go.ChangeAt Go.RowKit
set_option linter.unusedVariables false

set_option maxRecDepth 100000 in
set_option maxHeartbeats 4000000 in
theorem specCrewOk_any (H : List C) (ds : List Hd) (vH vD : Value) (hi : Nat) (w : World) (hh : hi ≤ w.heap.size) (rH : Rd w hi vH H) (rD : RdH w hi vD ds) :
    Calls Try.prog 12 #[.agg #[vH, vD]] w fun e w' => e = .returned (.bool (crewB H ds)) ∧ Below w.heap.size w w' := by
  have hl := rD.len
  obtain ⟨a, cap, rfl⟩ := rH.form
  obtain ⟨c, dc, rfl⟩ := rD.form
  have RH : Hid (Rd w hi (.slice a H.length cap) H) := rH
  have RD : Hid (RdH w hi (.slice c ds.length dc) ds) := rD
  clear rH rD
  obtain ⟨z, hz⟩ := hid_ex (crewB H ds)
  rw [hz.out]
  by_cases hok : heapOk H
  case neg =>
    have HK : Hid (decide (heapOk H) = false) := decide_eq_false hok
    have ez : z = false := by rw [← hz.out]; exact crewB_false fun q => hok q.heap
    subst ez
    clear hok
    go_enter Try.func12, Try.ntmps12
    go_wp2_with (first | (refine wpList_box_v rfl 31 _ rfl [.slice a H.length cap, .slice c ds.length dc] rfl ?_; intro b1 w1 hb1 hw1 hB1 hV1; have hz1 := hB1.size; have cr0 := hV1.cell 0 (by simp); have cr1 := hV1.cell 1 (by simp); simp only [List.getElem_cons_zero, List.getElem_cons_succ] at cr0 cr1) | (go_at_call 38; refine (specHeapOk_any H _ hi _ (by omega) (RH.out.below hB1 hh)).mono ?_; rintro er w2 ⟨rfl, hB2⟩; rw [HK.out]; have hz2 := hB2.size; have hV2 : VBlk w2 b1 31 [.slice a H.length cap, .slice c ds.length dc] := hV1.of (hB2.block b1 hw1); clear cr0 cr1; have cr0 := hV2.cell 0 (by simp); have cr1 := hV2.cell 1 (by simp); simp only [List.getElem_cons_zero, List.getElem_cons_succ] at cr0 cr1; have hB : Below w.heap.size w w2 := hB1.trans (hB2.mono hz1)) | (fail))
    go_ret
    exact ⟨rfl, hB⟩
  have HK : Hid (decide (heapOk H) = true) := decide_eq_true hok
  have HO : Hid (heapOk H) := hok
  by_cases hl4 : 4 < ds.length
  · have hl4' : (4 : Int) < (ds.length : Int) := by omega
    have ez : z = false := by rw [← hz.out]; exact crewB_false fun q => by have := q.le; omega
    subst ez
    clear hok
    go_enter Try.func12, Try.ntmps12
    go_wp2_with (first | (refine wpList_box_v rfl 31 _ rfl [.slice a H.length cap, .slice c ds.length dc] rfl ?_; intro b1 w1 hb1 hw1 hB1 hV1; have hz1 := hB1.size; have cr0 := hV1.cell 0 (by simp); have cr1 := hV1.cell 1 (by simp); simp only [List.getElem_cons_zero, List.getElem_cons_succ] at cr0 cr1) | (go_at_call 38; refine (specHeapOk_any H _ hi _ (by omega) (RH.out.below hB1 hh)).mono ?_; rintro er w2 ⟨rfl, hB2⟩; rw [HK.out]; have hz2 := hB2.size; have hV2 : VBlk w2 b1 31 [.slice a H.length cap, .slice c ds.length dc] := hV1.of (hB2.block b1 hw1); clear cr0 cr1; have cr0 := hV2.cell 0 (by simp); have cr1 := hV2.cell 1 (by simp); simp only [List.getElem_cons_zero, List.getElem_cons_succ] at cr0 cr1; have hB : Below w.heap.size w w2 := hB1.trans (hB2.mono hz1)) | (fail))
    go_ret
    exact ⟨rfl, hB⟩
  have hl4' : ¬ ((4 : Int) < (ds.length : Int)) := by omega
  have CF : Hid (CrewOk H ds ↔ FirstOk H ds ds.length) := crew_first hok (by omega)
  clear hok
  go_enter Try.func12, Try.ntmps12
  go_wp2_with (first | (refine wpList_box_v rfl 31 _ rfl [.slice a H.length cap, .slice c ds.length dc] rfl ?_; intro b1 w1 hb1 hw1 hB1 hV1; have hz1 := hB1.size; have cr0 := hV1.cell 0 (by simp); have cr1 := hV1.cell 1 (by simp); simp only [List.getElem_cons_zero, List.getElem_cons_succ] at cr0 cr1) | (go_at_call 38; refine (specHeapOk_any H _ hi _ (by omega) (RH.out.below hB1 hh)).mono ?_; rintro er w2 ⟨rfl, hB2⟩; rw [HK.out]; have hz2 := hB2.size; have hV2 : VBlk w2 b1 31 [.slice a H.length cap, .slice c ds.length dc] := hV1.of (hB2.block b1 hw1); clear cr0 cr1; have cr0 := hV2.cell 0 (by simp); have cr1 := hV2.cell 1 (by simp); simp only [List.getElem_cons_zero, List.getElem_cons_succ] at cr0 cr1; have hB : Below w.heap.size w w2 := hB1.trans (hB2.mono hz1)) | (fail))
  have V2 : Hid (VBlk w2 b1 31 [.slice a H.length cap, .slice c ds.length dc]) := hV2
  have HB2 : Hid (Below w.heap.size w w2) := hB
  clear hV1 hV2 hB1 hB2 cr0 cr1
  go_loopw [3] (fun i wr => ∃ n : Nat, i = .int .i64 n ∧ n ≤ ds.length ∧ Hid (FirstOk H ds n) ∧ Below w2.heap.size w2 wr) (fun i _ => ds.length - (intOf i).toNat)
  case atStart => exact ⟨0, rfl, by omega, first_zero H ds, Below.refl _ _⟩
  case round =>
    obtain ⟨n, rfl, hn, FO, hBr⟩ := hrel
    have hzr := hBr.size
    have hbw : b1 < w2.heap.size := V2.out.lt
    have hVr : VBlk wr b1 31 [.slice a H.length cap, .slice c ds.length dc] := V2.out.of (hBr.block b1 hbw)
    have cr0 := hVr.cell 0 (by simp)
    have cr1 := hVr.cell 1 (by simp)
    simp only [List.getElem_cons_zero, List.getElem_cons_succ] at cr0 cr1
    have hBwr : Below w.heap.size w wr := HB2.out.trans (hBr.mono (by omega))
    by_cases hlt : n < ds.length
    · have hlt' : (n : Int) < (ds.length : Int) := by omega
      obtain ⟨d, hd⟩ : ∃ d, ds[n] = d := ⟨_, rfl⟩
      obtain ⟨k, x, y, s, l, e, o, t⟩ := d
      obtain ⟨b, off, rfl, hb, g0, g1, g2, g3, g4, g5, g6, g7⟩ := (RD.out.below hBwr hh).cell n hlt hd
      have HDD : Hid (ds[n] = ⟨k, x, y, s, l, e, o, t⟩) := hd
      clear hd
      go_wp2
      have S0 : wr.drew.cell? ⟨b1, 0, none⟩ = some (.slice a H.length cap) ∧ wr.drew.cell? ⟨b1, 1, none⟩ = some (.slice (some ⟨b, off, none⟩) ds.length dc) ∧ wr.drew.cell? ⟨b, off + n * 8, none⟩ = some (.int .i64 k) ∧ wr.drew.cell? ⟨b, off + n * 8 + 1, none⟩ = some (.int .i64 x) ∧ wr.drew.cell? ⟨b, off + n * 8 + 2, none⟩ = some (.int .i64 y) ∧ wr.drew.cell? ⟨b, off + n * 8 + 3, none⟩ = some (.int .i64 s) ∧ wr.drew.cell? ⟨b, off + n * 8 + 4, none⟩ = some (.int .i64 l) ∧ wr.drew.cell? ⟨b, off + n * 8 + 5, none⟩ = some (.int .i64 e) ∧ wr.drew.cell? ⟨b, off + n * 8 + 6, none⟩ = some (.int .i64 o) ∧ wr.drew.cell? ⟨b, off + n * 8 + 7, none⟩ = some (.int .i64 t) := ⟨cr0, cr1, g0, g1, g2, g3, g4, g5, g6, g7⟩
      obtain ⟨yk, hyk⟩ := hid_ex (okB H ⟨k, x, y, s, l, e, o, t⟩)
      go_region_held3 (fun w' => w'.cell? ⟨b1, 0, none⟩ = some (.slice a H.length cap) ∧ w'.cell? ⟨b1, 1, none⟩ = some (.slice (some ⟨b, off, none⟩) ds.length dc) ∧ w'.cell? ⟨b, off + n * 8, none⟩ = some (.int .i64 k) ∧ w'.cell? ⟨b, off + n * 8 + 1, none⟩ = some (.int .i64 x) ∧ w'.cell? ⟨b, off + n * 8 + 2, none⟩ = some (.int .i64 y) ∧ w'.cell? ⟨b, off + n * 8 + 3, none⟩ = some (.int .i64 s) ∧ w'.cell? ⟨b, off + n * 8 + 4, none⟩ = some (.int .i64 l) ∧ w'.cell? ⟨b, off + n * 8 + 5, none⟩ = some (.int .i64 e) ∧ w'.cell? ⟨b, off + n * 8 + 6, none⟩ = some (.int .i64 o) ∧ w'.cell? ⟨b, off + n * 8 + 7, none⟩ = some (.int .i64 t)) (first | assumption | exact S0 | (fail)) (first | (go_at_call 45; refine (l5Ok_any H HO.out ⟨k, x, y, s, l, e, o, t⟩ _ hi wr.drew (by show hi ≤ wr.heap.size; omega) (RH.out.below hBwr hh).drew).mono ?_; rintro er w3 ⟨he, hB3⟩; rw [hyk.out] at he; subst he; have hz3 : wr.heap.size ≤ w3.heap.size := hB3.size; have hV3 : VBlk w3 b1 31 [.slice a H.length cap, .slice (some ⟨b, off, none⟩) ds.length dc] := hVr.drew.of (hB3.block b1 (by show b1 < wr.heap.size; omega)); have p0 := hV3.cell 0 (by simp); have p1 := hV3.cell 1 (by simp); simp only [List.getElem_cons_zero, List.getElem_cons_succ] at p0 p1; have hBw3 : Below w.heap.size w w3 := hBwr.drew.trans (hB3.mono (by show w.heap.size ≤ wr.heap.size; omega)); obtain ⟨b9, off9, e9, hb9, q0, q1, q2, q3, q4, q5, q6, q7⟩ := (RD.out.below hBw3 hh).cell n hlt HDD.out; cases e9; have S3 := And.intro p0 (And.intro p1 (And.intro q0 (And.intro q1 (And.intro q2 (And.intro q3 (And.intro q4 (And.intro q5 (And.intro q6 q7))))))))) | (fail))
      clear S0
      cases yk with
      | false =>
        have ez : z = false := by
          rw [← hz.out]
          refine crewB_false fun q => ?_
          have := okB_true (q.hands _ (List.getElem_mem hlt))
          rw [HDD.out, hyk.out] at this
          cases this
        subst ez
        go_wp2
        go_ret
        exact ⟨rfl, hBw3⟩
      | true =>
        have OKN : Hid (OkH H ds[n]) := by unfold Hid; rw [HDD.out]; exact okB_iff.1 hyk.out
        have V3 : Hid (VBlk w3 b1 31 [.slice a H.length cap, .slice (some ⟨b, off, none⟩) ds.length dc]) := hV3
        clear S3 p0 p1 q0 q1 q2 q3 q4 q5 q6 q7 g0 g1 g2 g3 g4 g5 g6 g7 cr0 cr1 hV3 hVr
        go_wp2
        go_loopw [4] (fun kk wz => ∃ m : Nat, kk = .int .i64 m ∧ m ≤ n ∧ Hid (∀ j (hj : j < ds.length), j < m → 0 ≤ o → ds[j].own ≠ o) ∧ Below w3.heap.size w3 wz) (fun kk _ => n - (intOf kk).toNat)
        case atStart => exact ⟨0, rfl, by omega, fun j hj h => by omega, Below.refl _ _⟩
        case round =>
          obtain ⟨m, rfl, hm, AP, hBz⟩ := hrel
          rename World => wz
          have hzz := hBz.size
          have hbw3 : b1 < w3.heap.size := V3.out.lt
          have hVz : VBlk wz b1 31 [.slice a H.length cap, .slice (some ⟨b, off, none⟩) ds.length dc] := V3.out.of (hBz.block b1 hbw3)
          have cr1 := hVz.cell 1 (by simp)
          simp only [List.getElem_cons_zero, List.getElem_cons_succ] at cr1
          have hBwz : Below w.heap.size w wz := hBw3.trans (hBz.mono (by have := hBw3.size; omega))
          by_cases hmn : m < n
          · have hmn' : (m : Int) < (n : Int) := by omega
            have hml : m < ds.length := by omega
            have hml' : (m : Int) < (ds.length : Int) := by omega
            obtain ⟨b8, off8, e8, hb8, -, -, -, -, -, -, u6, -⟩ := (RD.out.below hBwz hh).cell n hlt HDD.out
            cases e8
            obtain ⟨dm, hdm⟩ : ∃ d, ds[m] = d := ⟨_, rfl⟩
            obtain ⟨km, xm, ym, sm, lm, em, om, tm⟩ := dm
            obtain ⟨b7, off7, e7, hb7, -, -, -, -, -, -, v6, -⟩ := (RD.out.below hBwz hh).cell m hml hdm
            cases e7
            have HDM : Hid (ds[m].own = om) := by unfold Hid; rw [hdm]
            clear hdm
            by_cases ho : o ≥ 0
            · have go0 : decide (o ≥ 0) = true := decide_eq_true ho
              by_cases heq : om = o
              · have ge : (om == o) = true := by simpa using heq
                have ez : z = false := by
                  rw [← hz.out]
                  refine crewB_false fun q => ?_
                  refine q.apart n m hlt hml (by omega) ?_ ?_
                  · rw [HDD.out]; exact ho
                  · rw [HDM.out, HDD.out]; exact heq
                subst ez
                clear heq ho
                go_wp2
                try go_frame
                go_big_quiet (fail)
                go_wp2
                go_ret
                exact ⟨rfl, hBwz.trans (below_drewN _ _)⟩
              · have ge : (om == o) = false := by simpa using heq
                have AP2 : Hid (∀ j (hj : j < ds.length), j < m + 1 → 0 ≤ o → ds[j].own ≠ o) := fun j hj hjm h0 => by
                  by_cases ej : j = m
                  · subst ej; rw [HDM.out]; exact heq
                  · exact AP.out j hj (by omega) h0
                clear heq ho
                go_wp2
                try go_frame
                go_big_quiet (fail)
                go_wp2
                go_roundw
                case rel => exact ⟨m + 1, by go_num, by omega, AP2, hBz.trans (below_drewN _ _)⟩
                case measure => simp [intOf]; omega
            · have go0 : decide (o ≥ 0) = false := decide_eq_false ho
              have AP2 : Hid (∀ j (hj : j < ds.length), j < m + 1 → 0 ≤ o → ds[j].own ≠ o) := fun j hj hjm h0 => absurd h0 ho
              clear ho
              go_wp2
              try go_frame
              go_big_quiet (fail)
              go_wp2
              go_roundw
              case rel => exact ⟨m + 1, by go_num, by omega, AP2, hBz.trans (below_drewN _ _)⟩
              case measure => simp [intOf]; omega
          · have hmn' : ¬ ((m : Int) < (n : Int)) := by omega
            have emn : m = n := by omega
            have FO2 : Hid (FirstOk H ds (n + 1)) := first_succ hlt FO.out OKN.out (fun j hj hjn h0 => by rw [HDD.out] at h0 ⊢; exact AP.out j hj (by omega) h0)
            have hBwz2 : Below w2.heap.size w2 wz := (hBr.drew.trans (hB3.mono (by show w2.heap.size ≤ wr.heap.size; omega))).trans (hBz.mono (by omega))
            go_wp2
            go_roundw
            case rel => exact ⟨n + 1, by go_num, by omega, FO2, hBwz2⟩
            case measure => simp [intOf]; omega
    · have hlt' : ¬ ((n : Int) < (ds.length : Int)) := by omega
      have en : n = ds.length := by omega
      have ez : z = true := by rw [← hz.out]; exact crewB_true (CF.out.2 (by rw [← en]; exact FO.out))
      subst ez
      go_wp2
      go_ret
      exact ⟨rfl, hBwr⟩
end Go.Proofs.Ythjkhghlhjndmaa.ce
/- Contract: the model's Picked. -/
namespace Go.Proofs.Ythjkhghlhjndmaa.ce
open Go.ChangeShapes Go.WideShapes Go.ChangeAt Go.RowKit
set_option linter.unusedVariables false

theorem own_slice {w : World} {lo hi : Nat} {v : Value} {X : List C} (o : Own w lo hi v X) : ∃ a cap, v = .slice a X.length cap := by
  rcases o.row.2 with ⟨rfl, h⟩ | ⟨g, cap, cur, rfl, -⟩
  · exact ⟨none, 0, by rw [h]⟩
  · exact ⟨_, cap, rfl⟩
theorem cx_new {w3 w4 w5 w6 : World} {b5 : Nat} {vH vD : Value} {H : List C} {ds : List Hd} (oH : Own w4 w3.heap.size w4.heap.size vH H) (oD : OwnH w4 w3.heap.size w4.heap.size vD ds) (hB5 : Below w4.heap.size w4 w5) (hb5 : w4.heap.size ≤ b5) (hO6 : Only b5 w5 w6) (hV6 : VBlk w6 b5 31 [vH, vD]) (h34 : w3.heap.size ≤ w4.heap.size) : Cx w3 w6 b5 vH H vD ds := by
  have hz5 := hB5.size
  have hz6 := hO6.1
  have own6 : Own w6 w3.heap.size w6.heap.size vH H := (oH.keep fun j j1 j2 => (hO6.2.1 j (by omega)).trans (hB5.block j (by omega))).wide (by omega) (by omega)
  have hands6 : OwnH w6 w3.heap.size w6.heap.size vD ds := (oD.keep fun j j1 j2 => (hO6.2.1 j (by omega)).trans (hB5.block j (by omega))).wide (by omega) (by omega)
  exact ⟨hV6, own6, hands6, fun g hg => by have := (own_lo oH g hg).2.1; omega, fun q hq => by have := (oD.lo q hq).2.1; omega, fun k h1 h2 => apart_hd own6 hands6 k h1 h2, by omega⟩

set_option maxRecDepth 100000 in
set_option maxHeartbeats 2000000 in
theorem specPicked_any (H : List C) (ds : List Hd) (vH vD : Value) (hi : Nat) (w : World) (hh : hi ≤ w.heap.size) (rH : Rd w hi vH H) (rD : RdH w hi vD ds) (hn : NilOk vD) (who : Int) (hok : CrewOk H ds) :
    Calls Try.prog 24 #[.agg #[vH, vD], .int .i64 who] w fun e w' => ∃ vH' vD', e = .returned (.tuple #[.agg #[vH', vD'], .bool (pickBZ ds who)]) ∧ Own w' w.heap.size w'.heap.size vH' (pickHZ H ds who) ∧ OwnH w' w.heap.size w'.heap.size vD' (pickDZ H ds who) ∧ Below w.heap.size w w' := by
  obtain ⟨a, cap, rfl⟩ := rH.form
  obtain ⟨c, dc, rfl⟩ := rD.form
  have RH : Hid (Rd w hi (.slice a H.length cap) H) := rH
  have RD : Hid (RdH w hi (.slice c ds.length dc) ds) := rD
  have NIL : Hid (NilOk (.slice c ds.length dc)) := hn
  have OK : Hid (CrewOk H ds) := hok
  have KB : Hid (crewB H ds = true) := crewB_true hok
  clear rH rD hn hok
  go_enter Try.func24, Try.ntmps24
  have BOX : True := trivial
  go_wp2_with (first | (refine wpList_box_v rfl 31 _ rfl [.slice a H.length cap, .slice c ds.length dc] rfl ?_; intro b1 w1 hb1 hw1 hB1 hV1; have hz1 := hB1.size) | (clear BOX; refine wpList_alloc_v rfl 31 rfl _ zeroCr ?_; intro b2 w2 hb2 hw2 hB2 hV2; have hz2 := hB2.size; have hV1' := hV1.of (hB2.block b1 hw1); have cr0 := hV1'.cell 0 (by simp); have cr1 := hV1'.cell 1 (by simp); simp only [List.getElem_cons_zero, List.getElem_cons_succ] at cr0 cr1; have hB12 : Below w.heap.size w w2 := hB1.trans (hB2.mono hz1)) | (go_at_call 12; refine (specCrewOk_any H ds _ _ hi _ (by omega) (RH.out.below hB12 hh) (RD.out.below hB12 hh)).mono ?_; rintro er w3 ⟨rfl, hB3⟩; rw [KB.out]; have hz3 := hB3.size; clear cr0 cr1; have hV3 := hV1'.of (hB3.block b1 (by omega)); have cr0 := hV3.cell 0 (by simp); have cr1 := hV3.cell 1 (by simp); simp only [List.getElem_cons_zero, List.getElem_cons_succ] at cr0 cr1; have hB13 : Below w.heap.size w w3 := hB12.trans (hB3.mono (by omega))) | (go_at_call 52; refine (l6Copy_any H ds _ _ hi _ (by omega) (RH.out.below hB13 hh) (RD.out.below hB13 hh) NIL.out OK.out.heap.1 OK.out.le).mono ?_; rintro er w4 ⟨vH4, vD4, rfl, oH4, oD4, hB4⟩; have hz4 := hB4.size; obtain ⟨g4, c4, rfl, hg4, hg4', -⟩ := oH4.form OK.out.heap.1.1; obtain ⟨a4, d4, rfl⟩ := oD4.len) | (refine wpList_alloc_v rfl 31 rfl _ zeroCr ?_; intro b5 w5 hb5 hw5 hB5 hV5; have hz5 := hB5.size) | (refine wpList_store_v rfl 31 _ _ rfl b5 [.slice (some ⟨g4, 0, none⟩) H.length c4, .slice a4 ds.length d4] rfl rfl sizeCr hV5 rfl (by simp [Value.oneCell']) ?_; intro w6 hO6 hV6; have hz6 := hO6.1; have CX : Hid (Cx w3 w6 b5 (.slice (some ⟨g4, 0, none⟩) H.length c4) H (.slice a4 ds.length d4) ds) := cx_new oH4 oD4 hB5 hb5 hO6 hV6 hz4) | (go_at_call 61; refine (l6PickX w3 w6 b5 _ H _ ds CX.out OK.out.heap.1 (by have := OK.out.le; omega) who (fun d hd => (OK.out.hands d hd).bd OK.out.heap.1.1)).mono ?_; rintro er w7 ⟨rfl, vH7, cx7, hB7⟩; have hz7 := hB7.size; obtain ⟨a7, c7, rfl⟩ := own_slice cx7.heap; clear cr0 cr1; have cr0 := cx7.crew.cell 0 (by simp); have cr1 := cx7.crew.cell 1 (by simp); simp only [List.getElem_cons_zero, List.getElem_cons_succ] at cr0 cr1; have hV7 : VBlk w7 b2 31 [.slice none 0 0, .slice none 0 0] := ((((hV2.of (hB3.block b2 (by omega))).of (hB4.block b2 (by omega))).of (hB5.block b2 (by omega))).of (hO6.2.1 b2 (by omega))).of (hB7.block b2 (by omega))) | (refine wpList_store_v rfl 31 _ _ rfl b2 [.slice a7 (pickHZ H ds who).length c7, .slice a4 ds.length d4] rfl rfl sizeCr hV7 rfl (by simp [Value.oneCell']) ?_; intro w8 hO8 hV8; have hz8 := hO8.1) | (fail))
  refine row_cell_tmp rfl rfl rfl hV8 Try.underlying31 sizeCr rfl ⟨_, _, rfl, (cx7.heap.keep fun j j1 j2 => hO8.2.1 j (by omega)).wide (by omega) (by omega), (cx7.hands.keep fun j j1 j2 => hO8.2.1 j (by omega)).wide (by omega) (by omega), ?_⟩
  exact ((((hB13.trans (hB4.mono (by omega))).trans (hB5.mono (by omega))).trans (hO6.2.2 _ (by omega))).trans (hB7.mono (by omega))).trans (hO8.2.2 _ (by omega))

set_option maxRecDepth 100000 in
set_option maxHeartbeats 2000000 in
theorem specPicked_no (H : List C) (ds : List Hd) (vH vD : Value) (hi : Nat) (w : World) (hh : hi ≤ w.heap.size) (rH : Rd w hi vH H) (rD : RdH w hi vD ds) (who : Int) (hok : ¬ CrewOk H ds) :
    Calls Try.prog 24 #[.agg #[vH, vD], .int .i64 who] w fun e w' => e = .returned (.tuple #[.agg #[.slice none 0 0, .slice none 0 0], .bool false]) ∧ Below w.heap.size w w' := by
  obtain ⟨a, cap, rfl⟩ := rH.form
  obtain ⟨c, dc, rfl⟩ := rD.form
  have RH : Hid (Rd w hi (.slice a H.length cap) H) := rH
  have RD : Hid (RdH w hi (.slice c ds.length dc) ds) := rD
  have KB : Hid (crewB H ds = false) := crewB_false hok
  clear rH rD hok
  go_enter Try.func24, Try.ntmps24
  have BOX : True := trivial
  go_wp2_with (first | (refine wpList_box_v rfl 31 _ rfl [.slice a H.length cap, .slice c ds.length dc] rfl ?_; intro b1 w1 hb1 hw1 hB1 hV1; have hz1 := hB1.size) | (clear BOX; refine wpList_alloc_v rfl 31 rfl _ zeroCr ?_; intro b2 w2 hb2 hw2 hB2 hV2; have hz2 := hB2.size; have hV1' := hV1.of (hB2.block b1 hw1); have cr0 := hV1'.cell 0 (by simp); have cr1 := hV1'.cell 1 (by simp); simp only [List.getElem_cons_zero, List.getElem_cons_succ] at cr0 cr1; have hB12 : Below w.heap.size w w2 := hB1.trans (hB2.mono hz1)) | (go_at_call 12; refine (specCrewOk_any H ds _ _ hi _ (by omega) (RH.out.below hB12 hh) (RD.out.below hB12 hh)).mono ?_; rintro er w3 ⟨rfl, hB3⟩; rw [KB.out]; have hz3 := hB3.size; have hV3 := hV2.of (hB3.block b2 (by omega)); clear cr0 cr1; have hB13 : Below w.heap.size w w3 := hB12.trans (hB3.mono (by omega))) | (refine wpList_store_v rfl 31 _ _ rfl b2 [.slice none 0 0, .slice none 0 0] rfl rfl sizeCr hV3 rfl (by simp [Value.oneCell']) ?_; intro w6 hO6 hV6; have hz6 := hO6.1) | (fail))
  refine row_cell_tmp rfl rfl rfl hV6 Try.underlying31 sizeCr rfl ⟨rfl, ?_⟩
  exact hB13.trans (hO6.2.2 _ (by omega))
end Go.Proofs.Ythjkhghlhjndmaa.ce
/- Contract: the model's Ran. -/
namespace Go.Proofs.Ythjkhghlhjndmaa.ce
open Go.ChangeShapes Go.WideShapes Go.ChangeAt Go.RowKit
set_option linter.unusedVariables false

theorem runP_cons (H : List C) (ds : List Hd) (q : Int) (qs : List Int) : runP H ds (q :: qs) = runP (pickHZ H ds q) (pickDZ H ds q) qs := by
  rw [runP]
  by_cases h : 0 ≤ q ∧ q < (ds.length : Int)
  · rw [dif_pos h]; unfold pickHZ pickDZ; rw [dif_pos h, dif_pos h]
  · rw [dif_neg h]; unfold pickHZ pickDZ; rw [dif_neg h, dif_neg h]
theorem runP_snoc : ∀ (xs : List Int) (H : List C) (ds : List Hd) (q : Int), runP H ds (xs ++ [q]) = (pickHZ (runP H ds xs).1 (runP H ds xs).2 q, pickDZ (runP H ds xs).1 (runP H ds xs).2 q)
  | [], H, ds, q => by rw [List.nil_append, runP_cons]; rfl
  | x :: xs, H, ds, q => by rw [List.cons_append, runP_cons, runP_snoc, runP_cons]

set_option maxRecDepth 100000 in
set_option maxHeartbeats 2000000 in
theorem specRan_any (H : List C) (ds : List Hd) (qs : List Int) (vH vD vQ : Value) (hi : Nat) (w : World) (hh : hi ≤ w.heap.size) (rH : Rd w hi vH H) (rD : RdH w hi vD ds) (rQ : RdI w hi vQ qs) (hn : NilOk vD) (hok : CrewOk H ds) (hq : qs.length ≤ 300) :
    Calls Try.prog 26 #[.agg #[vH, vD], vQ] w fun e w' => ∃ vH' vD', e = .returned (.agg #[vH', vD']) ∧ Own w' w.heap.size w'.heap.size vH' (runP H ds qs).1 ∧ OwnH w' w.heap.size w'.heap.size vD' (runP H ds qs).2 ∧ Below w.heap.size w w' := by
  obtain ⟨a, cap, rfl⟩ := rH.form
  obtain ⟨c, dc, rfl⟩ := rD.form
  obtain ⟨x, xc, rfl⟩ := rQ.form
  have RH : Hid (Rd w hi (.slice a H.length cap) H) := rH
  have RD : Hid (RdH w hi (.slice c ds.length dc) ds) := rD
  have RQ : Hid (RdI w hi (.slice x qs.length xc) qs) := rQ
  have NIL : Hid (NilOk (.slice c ds.length dc)) := hn
  have OK : Hid (CrewOk H ds) := hok
  have KB : Hid (crewB H ds = true) := crewB_true hok
  have hq' : ¬ ((300 : Int) < (qs.length : Int)) := by omega
  clear rH rD rQ hn hok
  go_enter Try.func26, Try.ntmps26
  have BOX : True := trivial
  go_wp2_with (first | (refine wpList_box_v rfl 31 _ rfl [.slice a H.length cap, .slice c ds.length dc] rfl ?_; intro b1 w1 hb1 hw1 hB1 hV1; have hz1 := hB1.size) | (clear BOX; refine wpList_alloc_v rfl 31 rfl _ zeroCr ?_; intro b2 w2 hb2 hw2 hB2 hV2; have hz2 := hB2.size; have hV1' := hV1.of (hB2.block b1 hw1); have cr0 := hV1'.cell 0 (by simp); have cr1 := hV1'.cell 1 (by simp); simp only [List.getElem_cons_zero, List.getElem_cons_succ] at cr0 cr1; have hB12 : Below w.heap.size w w2 := hB1.trans (hB2.mono hz1)) | (go_at_call 12; refine (specCrewOk_any H ds _ _ hi _ (by omega) (RH.out.below hB12 hh) (RD.out.below hB12 hh)).mono ?_; rintro er w3 ⟨rfl, hB3⟩; rw [KB.out]; have hz3 := hB3.size; clear cr0 cr1; have hV3 := hV1'.of (hB3.block b1 (by omega)); have cr0 := hV3.cell 0 (by simp); have cr1 := hV3.cell 1 (by simp); simp only [List.getElem_cons_zero, List.getElem_cons_succ] at cr0 cr1; have hB13 : Below w.heap.size w w3 := hB12.trans (hB3.mono (by omega))) | (go_at_call 52; refine (l6Copy_any H ds _ _ hi _ (by omega) (RH.out.below hB13 hh) (RD.out.below hB13 hh) NIL.out OK.out.heap.1 OK.out.le).mono ?_; rintro er w4 ⟨vH4, vD4, rfl, oH4, oD4, hB4⟩; have hz4 := hB4.size; obtain ⟨g4, c4, rfl, hg4, hg4', -⟩ := oH4.form OK.out.heap.1.1; obtain ⟨a4, d4, rfl⟩ := oD4.len) | (refine wpList_alloc_v rfl 31 rfl _ zeroCr ?_; intro b5 w5 hb5 hw5 hB5 hV5; have hz5 := hB5.size) | (refine wpList_store_v rfl 31 _ _ rfl b5 [.slice (some ⟨g4, 0, none⟩) H.length c4, .slice a4 ds.length d4] rfl rfl sizeCr hV5 rfl (by simp [Value.oneCell']) ?_; intro w6 hO6 hV6; have hz6 := hO6.1; have CX : Hid (Cx w3 w6 b5 (.slice (some ⟨g4, 0, none⟩) H.length c4) H (.slice a4 ds.length d4) ds) := cx_new oH4 oD4 hB5 hb5 hO6 hV6 hz4) | (fail))
  have V2 : Hid (VBlk w6 b2 31 [.slice none 0 0, .slice none 0 0]) := (((hV2.of (hB3.block b2 (by omega))).of (hB4.block b2 (by omega))).of (hB5.block b2 (by omega))).of (hO6.2.1 b2 (by omega))
  have HB6 : Hid (Below w.heap.size w w6) := ((hB13.trans (hB4.mono (by omega))).trans (hB5.mono (by omega))).trans (hO6.2.2 _ (by omega))
  have h36 : w3.heap.size ≤ w6.heap.size := by omega
  have h03 : w.heap.size ≤ w3.heap.size := by omega
  have hb23 : b2 < w3.heap.size ∧ w.heap.size ≤ b2 := by omega
  have HC : ∀ n, Hid (CrewOk (runP H ds (qs.take n)).1 (runP H ds (qs.take n)).2) := fun n => crew_run _ _ _ OK.out
  clear cr0 cr1 hV1 hV1' hV2 hV3 hV5 hV6 oH4 oD4 hB1 hB2 hB3 hB4 hB5 hO6 hB12 hB13 hz1 hz2 hz3 hz4 hz5 hz6 hw1 hw2 hw5 hb1 hb2 hg4 hg4'
  go_loopw [6] (fun i wr => ∃ (n : Nat) (vH' : Value), i = .int .i64 n ∧ n ≤ qs.length ∧ Hid (Cx w3 wr b5 vH' (runP H ds (qs.take n)).1 (.slice a4 ds.length d4) (runP H ds (qs.take n)).2) ∧ Below w3.heap.size w6 wr) (fun i _ => qs.length - (intOf i).toNat)
  case atStart => exact ⟨0, _, rfl, by omega, CX, Below.refl _ _⟩
  case round =>
    obtain ⟨n, vH', rfl, hn, CN, hBr⟩ := hrel
    have hzr := hBr.size
    have hBwr : Below w.heap.size w wr := HB6.out.trans (hBr.mono (by omega))
    by_cases hlt : n < qs.length
    · have hlt' : (n : Int) < (qs.length : Int) := by omega
      obtain ⟨bq, oq, rfl, hbq, gq⟩ := (RQ.out.below hBwr hh).cell n hlt
      have hC := HC n
      have hT : Hid (runP H ds (qs.take (n + 1)) = (pickHZ (runP H ds (qs.take n)).1 (runP H ds (qs.take n)).2 qs[n], pickDZ (runP H ds (qs.take n)).1 (runP H ds (qs.take n)).2 qs[n])) := by unfold Hid; rw [← runP_snoc, List.take_succ_eq_append_getElem hlt]
      obtain ⟨Z, hZ⟩ := hid_ex (runP H ds (qs.take n))
      obtain ⟨z, hz⟩ := hid_ex qs[n]
      rw [hz.out] at gq
      rw [hZ.out] at CN hC
      unfold Hid at hT
      rw [hZ.out, hz.out] at hT
      have HT : Hid (runP H ds (qs.take (n + 1)) = (pickHZ Z.1 Z.2 z, pickDZ Z.1 Z.2 z)) := hT
      clear hT
      go_wp2_with (first | (go_at_call 61; refine (l6PickX w3 wr b5 _ Z.1 _ Z.2 CN.out hC.out.heap.1 (by have := hC.out.le; omega) z (fun d hd => (hC.out.hands d hd).bd hC.out.heap.1.1)).mono ?_; rintro er w7 ⟨rfl, vH7, cx7, hB7⟩; have hz7 := hB7.size; have C7 : Hid (Cx w3 w7 b5 vH7 (pickHZ Z.1 Z.2 z) (.slice a4 ds.length d4) (pickDZ Z.1 Z.2 z)) := cx7; clear cx7) | (fail))
      go_roundw
      case rel => exact ⟨n + 1, vH7, by go_num, by omega, (by rw [HT.out]; exact C7), hBr.trans hB7⟩
      case measure => simp [intOf]; omega
    · have hlt' : ¬ ((n : Int) < (qs.length : Int)) := by omega
      have en : n = qs.length := by omega
      subst en
      rw [List.take_length] at CN
      obtain ⟨a7, c7, rfl⟩ := own_slice CN.out.heap
      have cr0 := CN.out.crew.cell 0 (by simp)
      have cr1 := CN.out.crew.cell 1 (by simp)
      simp only [List.getElem_cons_zero, List.getElem_cons_succ] at cr0 cr1
      have hV7 : VBlk wr b2 31 [.slice none 0 0, .slice none 0 0] := V2.out.of (hBr.block b2 (by omega))
      go_wp2_with (first | (refine wpList_store_v rfl 31 _ _ rfl b2 [.slice a7 (runP H ds qs).1.length c7, .slice a4 ds.length d4] rfl rfl sizeCr hV7 rfl (by simp [Value.oneCell']) ?_; intro w8 hO8 hV8; have hz8 := hO8.1) | (fail))
      refine row_retv rfl rfl hV8 Try.underlying31 sizeCr rfl ⟨_, _, rfl, (CN.out.heap.keep fun j j1 j2 => hO8.2.1 j (by omega)).wide (by omega) (by omega), (CN.out.hands.keep fun j j1 j2 => hO8.2.1 j (by omega)).wide (by omega) (by omega), ?_⟩
      exact hBwr.trans (hO8.2.2 _ (by omega))

set_option maxRecDepth 100000 in
set_option maxHeartbeats 2000000 in
theorem specRan_no (H : List C) (ds : List Hd) (qs : List Int) (vH vD vQ : Value) (hi : Nat) (w : World) (hh : hi ≤ w.heap.size) (rH : Rd w hi vH H) (rD : RdH w hi vD ds) (rQ : RdI w hi vQ qs) (hok : ¬ (CrewOk H ds ∧ qs.length ≤ 300)) :
    Calls Try.prog 26 #[.agg #[vH, vD], vQ] w fun e w' => e = .returned (.agg #[.slice none 0 0, .slice none 0 0]) ∧ Below w.heap.size w w' := by
  obtain ⟨a, cap, rfl⟩ := rH.form
  obtain ⟨c, dc, rfl⟩ := rD.form
  have hl := rQ.len
  obtain ⟨x, xc, rfl⟩ := rQ.form
  have RH : Hid (Rd w hi (.slice a H.length cap) H) := rH
  have RD : Hid (RdH w hi (.slice c ds.length dc) ds) := rD
  clear rH rD rQ
  cases hK : crewB H ds with
  | false =>
    have KB : Hid (crewB H ds = false) := hK
    clear hok hK
    go_enter Try.func26, Try.ntmps26
    have BOX : True := trivial
    go_wp2_with (first | (refine wpList_box_v rfl 31 _ rfl [.slice a H.length cap, .slice c ds.length dc] rfl ?_; intro b1 w1 hb1 hw1 hB1 hV1; have hz1 := hB1.size) | (clear BOX; refine wpList_alloc_v rfl 31 rfl _ zeroCr ?_; intro b2 w2 hb2 hw2 hB2 hV2; have hz2 := hB2.size; have hV1' := hV1.of (hB2.block b1 hw1); have cr0 := hV1'.cell 0 (by simp); have cr1 := hV1'.cell 1 (by simp); simp only [List.getElem_cons_zero, List.getElem_cons_succ] at cr0 cr1; have hB12 : Below w.heap.size w w2 := hB1.trans (hB2.mono hz1)) | (go_at_call 12; refine (specCrewOk_any H ds _ _ hi _ (by omega) (RH.out.below hB12 hh) (RD.out.below hB12 hh)).mono ?_; rintro er w3 ⟨rfl, hB3⟩; rw [KB.out]; have hz3 := hB3.size; have hV3 := hV2.of (hB3.block b2 (by omega)); clear cr0 cr1; have hB13 : Below w.heap.size w w3 := hB12.trans (hB3.mono (by omega))) | (refine wpList_store_v rfl 31 _ _ rfl b2 [.slice none 0 0, .slice none 0 0] rfl rfl sizeCr hV3 rfl (by simp [Value.oneCell']) ?_; intro w6 hO6 hV6; have hz6 := hO6.1) | (fail))
    refine row_retv rfl rfl hV6 Try.underlying31 sizeCr rfl ⟨rfl, ?_⟩
    exact hB13.trans (hO6.2.2 _ (by omega))
  | true =>
    have KB : Hid (crewB H ds = true) := hK
    have hq' : (300 : Int) < (qs.length : Int) := by
      have := crewB_iff.1 hK
      by_cases z : qs.length ≤ 300
      · exact absurd ⟨this, z⟩ hok
      · omega
    clear hok hK
    go_enter Try.func26, Try.ntmps26
    have BOX : True := trivial
    go_wp2_with (first | (refine wpList_box_v rfl 31 _ rfl [.slice a H.length cap, .slice c ds.length dc] rfl ?_; intro b1 w1 hb1 hw1 hB1 hV1; have hz1 := hB1.size) | (clear BOX; refine wpList_alloc_v rfl 31 rfl _ zeroCr ?_; intro b2 w2 hb2 hw2 hB2 hV2; have hz2 := hB2.size; have hV1' := hV1.of (hB2.block b1 hw1); have cr0 := hV1'.cell 0 (by simp); have cr1 := hV1'.cell 1 (by simp); simp only [List.getElem_cons_zero, List.getElem_cons_succ] at cr0 cr1; have hB12 : Below w.heap.size w w2 := hB1.trans (hB2.mono hz1)) | (go_at_call 12; refine (specCrewOk_any H ds _ _ hi _ (by omega) (RH.out.below hB12 hh) (RD.out.below hB12 hh)).mono ?_; rintro er w3 ⟨rfl, hB3⟩; rw [KB.out]; have hz3 := hB3.size; have hV3 := hV2.of (hB3.block b2 (by omega)); clear cr0 cr1; have hB13 : Below w.heap.size w w3 := hB12.trans (hB3.mono (by omega))) | (refine wpList_store_v rfl 31 _ _ rfl b2 [.slice none 0 0, .slice none 0 0] rfl rfl sizeCr hV3 rfl (by simp [Value.oneCell']) ?_; intro w6 hO6 hV6; have hz6 := hO6.1) | (fail))
    refine row_retv rfl rfl hV6 Try.underlying31 sizeCr rfl ⟨rfl, ?_⟩
    exact hB13.trans (hO6.2.2 _ (by omega))
end Go.Proofs.Ythjkhghlhjndmaa.ce
/- The model's Picked and Ran of whatever crew. -/
namespace Go.Proofs.Ythjkhghlhjndmaa.ce
open Go.ChangeShapes Go.WideShapes Go.ChangeAt Go.RowKit
set_option linter.unusedVariables false

open Classical in
noncomputable def pkB (H : List C) (ds : List Hd) (who : Int) : Bool := if CrewOk H ds then pickBZ ds who else false
open Classical in
noncomputable def pkH (H : List C) (ds : List Hd) (who : Int) : List C := if CrewOk H ds then pickHZ H ds who else []
open Classical in
noncomputable def pkD (H : List C) (ds : List Hd) (who : Int) : List Hd := if CrewOk H ds then pickDZ H ds who else []
open Classical in
noncomputable def rnH (H : List C) (ds : List Hd) (qs : List Int) : List C := if CrewOk H ds ∧ qs.length ≤ 300 then (runP H ds qs).1 else []
open Classical in
noncomputable def rnD (H : List C) (ds : List Hd) (qs : List Int) : List Hd := if CrewOk H ds ∧ qs.length ≤ 300 then (runP H ds qs).2 else []
theorem crew_pickZ {H : List C} {ds : List Hd} (c : CrewOk H ds) (who : Int) : CrewOk (pickHZ H ds who) (pickDZ H ds who) := by
  unfold pickHZ pickDZ
  by_cases h : 0 ≤ who ∧ who < (ds.length : Int)
  · rw [dif_pos h, dif_pos h]; exact crew_pick c _ _
  · rw [dif_neg h, dif_neg h]; exact c
theorem CrewOk.small {H : List C} {ds : List Hd} (c : CrewOk H ds) : H.length ≤ 1048576 ∧ ds.length ≤ 1048576 := by
  have h1 := c.heap.1.2
  have h2 := c.le
  omega
theorem pk_small (H : List C) (ds : List Hd) (who : Int) : (pkH H ds who).length ≤ 1048576 ∧ (pkD H ds who).length ≤ 1048576 := by
  unfold pkH pkD
  by_cases c : CrewOk H ds
  · rw [if_pos c, if_pos c]; exact (crew_pickZ c who).small
  · rw [if_neg c, if_neg c]; simp
theorem rn_small (H : List C) (ds : List Hd) (qs : List Int) : (rnH H ds qs).length ≤ 1048576 ∧ (rnD H ds qs).length ≤ 1048576 := by
  unfold rnH rnD
  by_cases c : CrewOk H ds ∧ qs.length ≤ 300
  · rw [if_pos c, if_pos c]; exact (crew_run qs H ds c.1).small
  · rw [if_neg c, if_neg c]; simp
theorem specPicked_all (H : List C) (ds : List Hd) (vH vD : Value) (hi : Nat) (w : World) (hh : hi ≤ w.heap.size) (rH : Rd w hi vH H) (rD : RdH w hi vD ds) (hn : NilOk vD) (who : Int) :
    Calls Try.prog 24 #[.agg #[vH, vD], .int .i64 who] w fun e w' => ∃ vH' vD', e = .returned (.tuple #[.agg #[vH', vD'], .bool (pkB H ds who)]) ∧ Own w' w.heap.size w'.heap.size vH' (pkH H ds who) ∧ OwnH w' w.heap.size w'.heap.size vD' (pkD H ds who) ∧ Below w.heap.size w w' := by
  unfold pkB pkH pkD
  by_cases c : CrewOk H ds
  · rw [if_pos c, if_pos c, if_pos c]; exact specPicked_any H ds vH vD hi w hh rH rD hn who c
  · rw [if_neg c, if_neg c, if_neg c]
    refine (specPicked_no H ds vH vD hi w hh rH rD who c).mono ?_
    rintro e w' ⟨rfl, hB⟩
    exact ⟨_, _, rfl, own_none _ _ _, ownH_none _ _ _, hB⟩
theorem specRan_all (H : List C) (ds : List Hd) (qs : List Int) (vH vD vQ : Value) (hi : Nat) (w : World) (hh : hi ≤ w.heap.size) (rH : Rd w hi vH H) (rD : RdH w hi vD ds) (rQ : RdI w hi vQ qs) (hn : NilOk vD) :
    Calls Try.prog 26 #[.agg #[vH, vD], vQ] w fun e w' => ∃ vH' vD', e = .returned (.agg #[vH', vD']) ∧ Own w' w.heap.size w'.heap.size vH' (rnH H ds qs) ∧ OwnH w' w.heap.size w'.heap.size vD' (rnD H ds qs) ∧ Below w.heap.size w w' := by
  unfold rnH rnD
  by_cases c : CrewOk H ds ∧ qs.length ≤ 300
  · rw [if_pos c, if_pos c]; exact specRan_any H ds qs vH vD vQ hi w hh rH rD rQ hn c.1 c.2
  · rw [if_neg c, if_neg c]
    refine (specRan_no H ds qs vH vD vQ hi w hh rH rD rQ c).mono ?_
    rintro e w' ⟨rfl, hB⟩
    exact ⟨_, _, rfl, own_none _ _ _, ownH_none _ _ _, hB⟩
end Go.Proofs.Ythjkhghlhjndmaa.ce
/- Contract: the model's AllDone. -/
namespace Go.Proofs.Ythjkhghlhjndmaa.ce
open Go.ChangeShapes Go.WideShapes Go.ChangeAt Go.RowKit
set_option linter.unusedVariables false

def allDone (ds : List Hd) : Prop := ∀ d ∈ ds, d.step = 5
open Classical in
noncomputable def allB (H : List C) (ds : List Hd) : Bool := if allDone ds then crewB H ds else false
open Classical in
theorem allB_pos {H : List C} {ds : List Hd} (h : allDone ds) : allB H ds = crewB H ds := by unfold allB; exact if_pos h
open Classical in
theorem allB_neg {H : List C} {ds : List Hd} (h : ¬ allDone ds) : allB H ds = false := by unfold allB; exact if_neg h

set_option maxRecDepth 100000 in
set_option maxHeartbeats 4000000 in
theorem specAllDone_any (H : List C) (ds : List Hd) (vH vD : Value) (hi : Nat) (w : World) (hh : hi ≤ w.heap.size) (rH : Rd w hi vH H) (rD : RdH w hi vD ds) :
    Calls Try.prog 31 #[.agg #[vH, vD]] w fun e w' => e = .returned (.bool (allB H ds)) ∧ Below w.heap.size w w' := by
  have hl := rD.len
  obtain ⟨a, cap, rfl⟩ := rH.form
  obtain ⟨c, dc, rfl⟩ := rD.form
  have RH : Hid (Rd w hi (.slice a H.length cap) H) := rH
  have RD : Hid (RdH w hi (.slice c ds.length dc) ds) := rD
  clear rH rD
  obtain ⟨z, hz⟩ := hid_ex (allB H ds)
  rw [hz.out]
  go_enter Try.func31, Try.ntmps31
  go_wp2_with (first | (refine wpList_box_v rfl 31 _ rfl [.slice a H.length cap, .slice c ds.length dc] rfl ?_; intro b1 w1 hb1 hw1 hB1 hV1; have hz1 := hB1.size; have cr0 := hV1.cell 0 (by simp); have cr1 := hV1.cell 1 (by simp); simp only [List.getElem_cons_zero, List.getElem_cons_succ] at cr0 cr1) | (fail))
  have V1 : Hid (VBlk w1 b1 31 [.slice a H.length cap, .slice c ds.length dc]) := hV1
  have HB1 : Hid (Below w.heap.size w w1) := hB1
  have RH1 : Hid (Rd w1 hi (.slice a H.length cap) H) := RH.out.below hB1 hh
  have RD1 : Hid (RdH w1 hi (.slice c ds.length dc) ds) := RD.out.below hB1 hh
  clear hV1 hB1
  go_loop [3] (fun i => ∃ n : Nat, i = .int .i64 n ∧ n ≤ ds.length ∧ Hid (∀ j (hj : j < ds.length), j < n → ds[j].step = 5)) (fun i => ds.length - (intOf i).toNat)
  case atStart => exact ⟨0, rfl, by omega, fun j hj h => by omega⟩
  case round =>
    obtain ⟨n, rfl, hn, FD⟩ := hrel
    by_cases hlt : n < ds.length
    · have hlt' : (n : Int) < (ds.length : Int) := by omega
      obtain ⟨d, hd⟩ : ∃ d, ds[n] = d := ⟨_, rfl⟩
      obtain ⟨k, x, y, s, l, e, o, t⟩ := d
      obtain ⟨b, off, rfl, hb, g0, g1, g2, g3, g4, g5, g6, g7⟩ := RD1.out.cell n hlt hd
      have HDD : Hid (ds[n].step = s) := by unfold Hid; rw [hd]
      clear hd g0 g1 g2 g4 g5 g6 g7
      by_cases h5 : s = 5
      · have q5 : (s != 5) = false := by simp [h5]
        have FD2 : Hid (∀ j (hj : j < ds.length), j < n + 1 → ds[j].step = 5) := fun j hj hjn => by
          by_cases ej : j = n
          · subst ej; rw [HDD.out]; exact h5
          · exact FD.out j hj (by omega)
        clear h5
        go_wp2
        go_round
        case rel => exact ⟨n + 1, by go_num, by omega, FD2⟩
        case measure => simp [intOf]; omega
      · have q5 : (s != 5) = true := by simp [h5]
        have ez : z = false := by
          rw [← hz.out]
          refine allB_neg fun q => h5 ?_
          rw [← HDD.out]; exact q _ (List.getElem_mem hlt)
        subst ez
        clear h5
        go_wp2
        go_ret
        exact ⟨rfl, HB1.out⟩
    · have hlt' : ¬ ((n : Int) < (ds.length : Int)) := by omega
      have en : n = ds.length := by omega
      have ez : Hid (crewB H ds = z) := by
        unfold Hid
        rw [← hz.out, allB_pos]
        intro d hd
        obtain ⟨j, hj, rfl⟩ := List.getElem_of_mem hd
        exact FD.out j hj (by omega)
      go_wp2_with (first | (go_at_call 12; refine (specCrewOk_any H ds _ _ hi _ (by have := HB1.out.size; omega) RH1.out RD1.out).mono ?_; rintro er w2 ⟨he, hB2⟩; rw [ez.out] at he; subst he) | (fail))
      go_ret
      exact ⟨rfl, HB1.out.trans (hB2.mono HB1.out.size)⟩
end Go.Proofs.Ythjkhghlhjndmaa.ce
/- Rows of int64 among a law's arguments: copied, marked from whatever number on, opened. -/
namespace Go.Proofs.Ythjkhghlhjndmaa.ce
open Go.ChangeShapes Go.WideShapes Go.ChangeAt Go.RowKit
open Go.Deep Go.Joins
set_option linter.unusedVariables false

theorem wpList_make_i {o : Oper} {a : Act} {w : World} {ops : Array Oper} {rest : List Oper} {Q : Exit → Act → World → Prop} (hgd : o.guard = none) (l c : Operand) (t : TypeId) (ho : o.op = .makeSlice t l c) (ht : Try.prog.underlying t = some (.slice 2)) (n : Nat) (hn : n ≤ 1048576) (hl : a.eval l = .int .i64 n) (hc : a.eval c = .int .i64 n)
    (h : ∀ b w', w.heap.size ≤ b → b < w'.heap.size → Below w.heap.size w w' → (∃ X, w'.ownsRow w.heap.size 2 1 (.slice (some ⟨b, 0, none⟩) n n) n X ∧ ∃ xs, X = ivs xs) → wpList Try.prog ops Q rest (a.put o.dst (.slice (some ⟨b, 0, none⟩) n n)) w') : wpList Try.prog ops Q (o :: rest) a w := by
  obtain ⟨i0, hi0, hz0, hz1, hz2⟩ := infoI
  refine wpList_make_full _ hgd l c t ho w.heap.size 2 i0 _ 1 ht hi0 hz0 hz1 .i64 .i64 n n n hl hc rfl rfl (by rw [hz2]; omega) (by unfold maxLen; omega) (Nat.le_refl _) ?_
  intro w1 h1 h2
  have hb : Below w.heap.size w w1 := below_grown h2 (Nat.le_refl _) (fun k hk => by cases hk)
  refine h _ w1 (Nat.le_refl _) (h1.lt _ rfl).2 hb ⟨_, h1, List.replicate n 0, ?_⟩
  simp [ivs, Value.cells, toList_madeCells_one]
theorem toInts_any (xs : List Int) (v : Value) (hi : Nat) (w : World) (hh : hi ≤ w.heap.size) (r : RdI w hi v xs) (h2 : xs.length ≤ 1048576) :
    Calls Try.prog 27 #[v] w fun e w' => ∃ v', e = .returned v' ∧ OwnI w' w.heap.size w'.heap.size v' xs ∧ Below w.heap.size w w' := by
  obtain ⟨a, cap, rfl⟩ := r.form
  have R : Hid (RdI w hi (.slice a xs.length cap) xs) := r
  clear r
  go_enter Try.func27, Try.ntmps27
  go_wp2_with (first | (refine wpList_make_i rfl _ _ 45 rfl Try.underlying45 xs.length h2 rfl rfl ?_; intro g w1 hg1 hg2 hB1 hR1) | (fail))
  obtain ⟨X, hX, ys, rfl⟩ := hR1
  have hyl : ys.length = xs.length := by have := hX.1; rw [ivs_len] at this; omega
  have ho1 : OwnI w1 w.heap.size (g + 1) (.slice (some ⟨g, 0, none⟩) xs.length xs.length) ys := ⟨by rw [hyl]; exact hX, fun k hk => by cases hk; exact Nat.lt_succ_self _⟩
  go_loopw [4] (fun v wr => ∃ i : Nat, i ≤ xs.length ∧ v = .int .i64 i ∧ Hid (OwnI wr w.heap.size (g + 1) (.slice (some ⟨g, 0, none⟩) xs.length xs.length) (xs.take i ++ ys.drop i)) ∧ Below w.heap.size w wr ∧ g < wr.heap.size) (fun v _ => xs.length - (intOf v).toNat)
  case atStart => exact ⟨0, by omega, rfl, by unfold Hid; simpa using ho1, hB1, hg2⟩
  case round =>
    obtain ⟨i, hi1, rfl, ho, hBr, hgr⟩ := hrel
    by_cases hlt : i < xs.length
    · obtain ⟨b, off, rfl, hb, c0⟩ := (R.out.below hBr hh).cell i hlt
      obtain ⟨z, hz⟩ := hid_ex xs[i]
      rw [hz.out] at c0
      have hil : Hid (i < (xs.take i ++ ys.drop i).length) := by unfold Hid; simp; omega
      obtain ⟨b', off', e', -, d0⟩ := ho.out.rd.cell i hil.out
      cases e'
      simp only [Nat.zero_add] at d0
      have f0 := ho.out.frozen i
      have hlt' : (i : Int) < xs.length := by omega
      go_wp2
      go_roundw
      case rel =>
        have h1 := ho.out.set i z
        have e : (xs.take i ++ ys.drop i).set i z = xs.take (i + 1) ++ ys.drop (i + 1) := by
          have hl : (xs.take i).length = i := by simp; omega
          rw [List.set_append_right _ _ (by rw [hl]; omega), hl, Nat.sub_self, List.drop_eq_getElem_cons (by omega), List.set_cons_zero, List.take_succ_eq_append_getElem hlt, hz.out]
          simp
        rw [e] at h1
        exact ⟨i + 1, by omega, by go_num, h1, hBr.trans ((only_set _ _ _ _).2.2 _ hg1), by rw [(only_set _ _ _ _).1]; exact hgr⟩
      case measure => simp [intOf]; omega
    · have ei : i = xs.length := by omega
      have ho' : OwnI wr w.heap.size (g + 1) (.slice (some ⟨g, 0, none⟩) xs.length xs.length) xs := by
        have := ho.out
        rw [ei, List.take_length, ← hyl, List.drop_length, List.append_nil, hyl] at this
        exact this
      clear ho
      go_wp2
      go_ret
      exact ⟨_, rfl, ho'.wide (Nat.le_refl _) hgr, hBr⟩

theorem markIntsK_any (xs : List Int) (v : Value) (lo hi : Nat) (w : World) (own : OwnI w lo hi v xs) (h2 : xs.length ≤ 1048576) (k0 : Int) (hk0 : 0 ≤ k0) (hk1 : k0 ≤ 33554432) :
    Calls Try.prog 30 #[v, .int .i64 k0] w fun e w' => e = .returned (.int .i64 (k0 + (xs.length : Int))) ∧ OwnI w' lo hi v (imarks k0 xs.length) ∧ Within lo hi w w' := by
  obtain ⟨a, cap, rfl⟩ := own.rd.form
  have hA : Hid (1 ≤ xs.length → ∃ g, a = some ⟨g, 0, none⟩ ∧ lo ≤ g ∧ g < hi) := fun h => by
    obtain ⟨g, cap', e, h1, h2, -⟩ := own.form h
    cases e
    exact ⟨g, rfl, h1, h2⟩
  have O : Hid (OwnI w lo hi (.slice a xs.length cap) xs) := own
  clear own
  go_enter Try.func30, Try.ntmps30
  go_wp2
  go_loopw [1, 5] (fun q v' wr => ∃ i : Nat, i ≤ xs.length ∧ v' = .int .i64 i ∧ q = .int .i64 (k0 + (i : Int)) ∧ Hid (OwnI wr lo hi (.slice a xs.length cap) (imarks k0 i ++ xs.drop i)) ∧ Within lo hi w wr) (fun _ v' _ => xs.length - (intOf v').toNat)
  case atStart => exact ⟨0, by omega, rfl, by simp, by simpa [imarks] using O, Within.refl _ _ _⟩
  case round =>
    obtain ⟨i, hi1, rfl, rfl, ho, hW⟩ := hrel
    by_cases hlt : i < xs.length
    · obtain ⟨g, rfl, hg1, hg2⟩ := hA.out (by omega)
      have hil : Hid (i < (imarks k0 i ++ xs.drop i).length) := by unfold Hid; simp [imarks_len]; omega
      obtain ⟨b', off', e', -, d0⟩ := ho.out.rd.cell i hil.out
      cases e'
      simp only [Nat.zero_add] at d0
      have f0 := ho.out.frozen i
      have hlt' : (i : Int) < xs.length := by omega
      go_wp2
      go_roundw
      case rel =>
        have h1 := ho.out.set i (k0 + (i : Int))
        have e : (imarks k0 i ++ xs.drop i).set i (k0 + (i : Int)) = imarks k0 (i + 1) ++ xs.drop (i + 1) := by
          rw [List.set_append_right _ _ (by rw [imarks_len]; omega), imarks_len, Nat.sub_self, List.drop_eq_getElem_cons hlt, List.set_cons_zero, imarks_succ]
          simp
        rw [e] at h1
        exact ⟨i + 1, by omega, by go_num, by go_num, h1, hW.setCell hg1 hg2 _⟩
      case measure => simp [intOf]; omega
    · have ei : i = xs.length := by omega
      have ho' : OwnI wr lo hi (.slice a xs.length cap) (imarks k0 xs.length) := by
        have := ho.out
        rw [ei, List.drop_length, List.append_nil] at this
        exact this
      clear ho
      go_wp2
      go_ret
      exact ⟨by first | rfl | (rw [ei]; rfl), ho', hW⟩

theorem rdi_of_trod {H : Type} {enc : TypeId × Value → H} {w : World} {n : Nat} {v : Value} {x : DataW H × List MemPlace} (h : DataW.trod enc Try.prog w 0 (fun _ => true) true n 45 [v] = some x) : ∃ L, RdI w w.heap.size v L := by
  rcases open_slice Try.underlying45 h with ⟨hcs, -⟩ | ⟨a, len, cap, m, n', D, Pl, hcs, -, hl, hm, hmm, -, hrow⟩
  · obtain rfl : v = .slice none 0 0 := by simpa using hcs
    exact ⟨[], none, 0, rfl, Nat.le_refl _, Nat.zero_le _, fun h => absurd rfl h⟩
  · obtain rfl : v = .slice (some a) len cap := by simpa using hcs
    rw [cellsI] at hrow
    have hlm : len ≤ m := by rw [hmm]; simp; exact hl
    have hex : ∀ i, i < len → ∃ c : Int, w.cells? 0 (a.add (i * 1)) 1 = some [.int .i64 c] := fun i hi => by
      obtain ⟨cs', h1, h2⟩ := hrow i (by omega)
      obtain ⟨k, e0, -, -⟩ := DataW.trod_int Try.underlying2 h2
      rw [e0] at h1
      exact ⟨k, h1⟩
    obtain ⟨F, hF⟩ := choose_lt hex
    refine ⟨(List.range len).map F, some a, cap, by simp, by simpa using hl, hm, fun hn => ?_⟩
    have h0 : 0 < len := by
      rcases Nat.eq_zero_or_pos len with e | e
      · subst e; exact absurd rfl hn
      · exact e
    have hc : ∀ i, i < len → w.cell? (a.add i) = some (.int .i64 (F i)) := fun i hi => by
      obtain ⟨h1, h2, h3⟩ := World.cells?_some (hF i hi)
      have := h3 0 (by omega)
      rw [Nat.mul_one] at this
      have e : (a.add i).add 0 = a.add i := by obtain ⟨b, o, s⟩ := a; cases s <;> simp [Addr.add]
      rw [e] at this
      exact this
    have hspot : a.spot = none := by
      have h5 : (a.add 0).spot = none := World.cell?_spot (hc 0 h0)
      obtain ⟨b, o, s⟩ := a
      cases s with
      | none => rfl
      | some s => simp [Addr.add] at h5
    have hlt : a.block < w.heap.size := by
      have := hc 0 h0
      rw [add_none hspot] at this
      exact World.block_lt_of_cell? w ⟨a.block, a.off + 0, none⟩ this
    refine ⟨a.block, a.off, by obtain ⟨b, o, s⟩ := a; simp at hspot; subst hspot; rfl, hlt, fun k u hk => ?_⟩
    have hkl : k < len := by
      have := (List.getElem?_eq_some_iff.1 hk).1
      rw [ivs_len] at this
      simpa using this
    rw [ivs_get _ k (by simpa using hkl)] at hk
    have := hc k hkl
    rw [add_none hspot] at this
    rw [this]
    simpa using hk
set_option maxRecDepth 100000 in
/-- numbers among the arguments -/
theorem open_ints {H : Type} {enc : TypeId × Value → H} {W : World} {r : Reach} {b0 : Nat} {v : Value} {d : DataW H} {p : List MemPlace} (hw : Value.okWide Try.prog W r b0 45 v) (h : DataW.Trod enc Try.prog W 0 (fun _ => true) true 45 v d p) :
    ∃ L, RdI W W.heap.size v L := by
  obtain ⟨a, len, cap, rfl⟩ := okWide_slice Try.underlying45 hw
  obtain ⟨m, hm⟩ := h
  exact rdi_of_trod (n := m) (by simpa [Value.cells] using hm)
end Go.Proofs.Ythjkhghlhjndmaa.ce
/- Members: hands behind an interface, in rows that are read, owned, appended to, stored into. -/
namespace Go.Proofs.Ythjkhghlhjndmaa.ce
open Go.ChangeShapes Go.WideShapes Go.ChangeAt Go.RowKit
set_option linter.unusedVariables false

/-- a hand behind the interface: at work, or at rest -/
def mvT (d : Hd) : TypeId := if d.step = 5 then 125 else 126
def mv (d : Hd) : Value := .iface (mvT d) (.agg (hv d).toArray)
def mvs (xs : List Hd) : List Value := xs.map mv
theorem mvs_len (xs : List Hd) : (mvs xs).length = xs.length := by simp [mvs]
theorem mvs_append (xs ys : List Hd) : mvs (xs ++ ys) = mvs xs ++ mvs ys := by simp [mvs]
theorem mvs_get (xs : List Hd) (i : Nat) (hi : i < xs.length) : (mvs xs)[i]? = some (mv xs[i]) := by simp [mvs, hi]
theorem mv_one (d : Hd) : (mv d).oneCell' = true := rfl
theorem mvs_one (xs : List Hd) : ∀ v ∈ mvs xs, v.oneCell' = true := by
  intro v hv
  obtain ⟨x, -, rfl⟩ := List.mem_map.1 hv
  rfl

/-- the members xs are read at the slice v, in blocks under hi -/
structure RdM (w : World) (hi : Nat) (v : Value) (xs : List Hd) : Prop where
  fits : ∃ a cap, v = .slice a xs.length cap ∧ xs.length ≤ cap ∧ cap ≤ maxLen ∧ (xs ≠ [] → ∃ b off, a = some ⟨b, off, none⟩ ∧ b < hi ∧ w.rangeAt b off (mvs xs))
theorem RdM.keep {w w' : World} {hi : Nat} {v : Value} {xs : List Hd} (r : RdM w hi v xs) (s : ∀ k, k < hi → w'.heap[k]? = w.heap[k]?) : RdM w' hi v xs := by
  obtain ⟨a, cap, e, h1, h2, h3⟩ := r.fits
  refine ⟨a, cap, e, h1, h2, fun hn => ?_⟩
  obtain ⟨b, off, e2, h4, h5⟩ := h3 hn
  exact ⟨b, off, e2, h4, range_of h5 (s b h4)⟩
theorem RdM.below {w w' : World} {hi B : Nat} {v : Value} {xs : List Hd} (r : RdM w hi v xs) (hb : Below B w w') (hB : hi ≤ B) : RdM w' hi v xs := r.keep fun k hk => hb.block k (by omega)
theorem RdM.drew {w : World} {hi : Nat} {v : Value} {xs : List Hd} (r : RdM w hi v xs) : RdM w.drew hi v xs := r.keep fun k hk => rfl
theorem RdM.drewN {w : World} {hi : Nat} {v : Value} {xs : List Hd} (r : RdM w hi v xs) (n : Nat) : RdM (w.drewN n) hi v xs := r.keep fun k hk => rfl
theorem RdM.wide {w : World} {hi hi' : Nat} {v : Value} {xs : List Hd} (r : RdM w hi v xs) (hh : hi ≤ hi') : RdM w hi' v xs := by
  obtain ⟨a, cap, e, h1, h2, h3⟩ := r.fits
  refine ⟨a, cap, e, h1, h2, fun hn => ?_⟩
  obtain ⟨b, off, e2, h4, h5⟩ := h3 hn
  exact ⟨b, off, e2, by omega, h5⟩
theorem RdM.form {w : World} {hi : Nat} {v : Value} {xs : List Hd} (r : RdM w hi v xs) : ∃ a cap, v = .slice a xs.length cap := by
  obtain ⟨a, cap, e, -⟩ := r.fits
  exact ⟨a, cap, e⟩
theorem RdM.len {w : World} {hi : Nat} {v : Value} {xs : List Hd} (r : RdM w hi v xs) : xs.length ≤ 9223372036854775807 := by
  obtain ⟨a, cap, e, h1, h2, h3⟩ := r.fits
  unfold maxLen at h2; omega
theorem RdM.cell {w : World} {hi n cap : Nat} {a : Option Addr} {xs : List Hd} (r : RdM w hi (.slice a n cap) xs) (i : Nat) (hi' : i < xs.length) : ∃ b off, a = some ⟨b, off, none⟩ ∧ b < hi ∧ w.cell? ⟨b, off + i, none⟩ = some (mv xs[i]) := by
  obtain ⟨a', cap', e, h1, h2, h3⟩ := r.fits
  cases e
  obtain ⟨b, off, rfl, h4, h5⟩ := h3 (by intro e; subst e; simp at hi')
  exact ⟨b, off, rfl, h4, h5 i _ (mvs_get xs i hi')⟩

/-- the members xs lie in a row of their own in a block from lo up to hi -/
structure OwnM (w : World) (lo hi : Nat) (v : Value) (xs : List Hd) : Prop where
  row : w.ownsRow lo 87 1 v xs.length (mvs xs)
  top : ∀ g, v.ownBlock = some g → g < hi
theorem OwnM.keep {w w' : World} {lo hi : Nat} {v : Value} {xs : List Hd} (o : OwnM w lo hi v xs) (s : ∀ k, lo ≤ k → k < hi → w'.heap[k]? = w.heap[k]?) : OwnM w' lo hi v xs := by
  refine ⟨⟨o.row.1, ?_⟩, o.top⟩
  rcases o.row.2 with h | ⟨g, cap, cur, rfl, hg, hb, h⟩
  · exact .inl h
  · exact .inr ⟨g, cap, cur, rfl, hg, by rw [s g hg (o.top g rfl)]; exact hb, h⟩
theorem OwnM.below {w w' : World} {lo hi B : Nat} {v : Value} {xs : List Hd} (o : OwnM w lo hi v xs) (hb : Below B w w') (hB : hi ≤ B) : OwnM w' lo hi v xs := o.keep fun k _ h2 => hb.block k (by omega)
theorem OwnM.wide {w : World} {lo hi lo' hi' : Nat} {v : Value} {xs : List Hd} (o : OwnM w lo hi v xs) (h1 : lo' ≤ lo) (h2 : hi ≤ hi') : OwnM w lo' hi' v xs := by
  refine ⟨⟨o.row.1, ?_⟩, fun g hg => by have := o.top g hg; omega⟩
  rcases o.row.2 with h | ⟨g, cap, cur, rfl, hg, hb, h⟩
  · exact .inl h
  · exact .inr ⟨g, cap, cur, rfl, by omega, hb, h⟩
theorem OwnM.form {w : World} {lo hi : Nat} {v : Value} {xs : List Hd} (o : OwnM w lo hi v xs) (hn : 1 ≤ xs.length) :
    ∃ g cap, v = .slice (some ⟨g, 0, none⟩) xs.length cap ∧ lo ≤ g ∧ g < hi ∧ g < w.heap.size := by
  rcases o.row.2 with ⟨_, h0⟩ | ⟨g, cap, cur, rfl, hg, hb, hc1, hc2, hc3, htk⟩
  · omega
  · exact ⟨g, cap, rfl, hg, o.top g rfl, (Array.getElem?_eq_some_iff.1 hb).1⟩
theorem OwnM.rd {w : World} {lo hi : Nat} {v : Value} {xs : List Hd} (o : OwnM w lo hi v xs) : RdM w hi v xs := by
  rcases o.row.2 with ⟨rfl, h0⟩ | ⟨g, cap, cur, rfl, hg, hb, hc1, hc2, hc3, htk⟩
  · have e := List.eq_nil_of_length_eq_zero h0
    subst e
    exact ⟨none, 0, rfl, Nat.le_refl _, Nat.zero_le _, fun h => absurd rfl h⟩
  · refine ⟨some ⟨g, 0, none⟩, cap, rfl, hc1, hc2, fun _ => ⟨g, 0, rfl, o.top g rfl, fun j u hj => ?_⟩⟩
    rw [cell_of_row _ _ _ _ _ _ hb]
    rw [← htk, List.getElem?_take] at hj
    split at hj
    · simpa using hj
    · cases hj
theorem ownM_none (w : World) (lo hi : Nat) : OwnM w lo hi (.slice none 0 0) [] := ⟨World.ownsRow_nil w lo _ 1, fun g h => by cases h⟩
theorem ownM_empty (w : World) : OwnM (w.alloc (.cells #[] 87)) w.heap.size (w.heap.size + 1) (.slice (some ⟨w.heap.size, 0, none⟩) 0 0) [] :=
  ⟨⟨rfl, .inr ⟨w.heap.size, 0, #[], rfl, Nat.le_refl _, heap_alloc_new _ _, Nat.le_refl _, by unfold maxLen; omega, rfl, rfl⟩⟩, fun g hg => by cases hg; exact Nat.lt_succ_self _⟩
theorem OwnM.len {w : World} {lo hi n cap : Nat} {a : Option Addr} {xs : List Hd} (o : OwnM w lo hi (.slice a n cap) xs) : n = xs.length := by
  rcases o.row.2 with ⟨e, h0⟩ | ⟨g, cap', cur, e, -⟩
  · cases e; omega
  · cases e; rfl
theorem OwnM.set {w : World} {lo hi g n cap : Nat} {xs : List Hd} (o : OwnM w lo hi (.slice (some ⟨g, 0, none⟩) n cap) xs) (i : Nat) (x : Hd) :
    OwnM (w.setCell ⟨g, i, none⟩ (mv x)) lo hi (.slice (some ⟨g, 0, none⟩) n cap) (xs.set i x) := by
  have e := o.len
  subst e
  have := (o.row.stored i (mv x)).1
  rw [show (mvs xs).set i (mv x) = mvs (xs.set i x) by simp [mvs, List.map_set]] at this
  exact ⟨by rw [List.length_set]; exact this, o.top⟩
theorem OwnM.frozen {w : World} {lo hi g n cap : Nat} {xs : List Hd} (o : OwnM w lo hi (.slice (some ⟨g, 0, none⟩) n cap) xs) (j : Nat) : w.frozen? ⟨g, j, none⟩ = false := by
  have e := o.len
  subst e
  exact o.row.frozenAt j

theorem OwnM.keepB {w w' : World} {lo hi : Nat} {v : Value} {ds : List Hd} (o : OwnM w lo hi v ds) (s : ∀ k, v.ownBlock = some k → w'.heap[k]? = w.heap[k]?) : OwnM w' lo hi v ds := by
  refine ⟨⟨o.row.1, ?_⟩, o.top⟩
  rcases o.row.2 with h | ⟨g, cap, cur, rfl, hg, hb, h⟩
  · exact .inl h
  · exact .inr ⟨g, cap, cur, rfl, hg, by rw [s g rfl]; exact hb, h⟩
theorem OwnM.lo {w : World} {lo hi : Nat} {v : Value} {ds : List Hd} (o : OwnM w lo hi v ds) (g : Nat) (hg : v.ownBlock = some g) : lo ≤ g ∧ g < hi ∧ g < w.heap.size := by
  rcases o.row.2 with ⟨rfl, -⟩ | ⟨g', cap, cur, rfl, hg', hb, h⟩
  · cases hg
  · cases hg
    exact ⟨hg', o.top _ rfl, (Array.getElem?_eq_some_iff.1 hb).1⟩
theorem OwnM.type {w : World} {lo hi : Nat} {v : Value} {ds : List Hd} (o : OwnM w lo hi v ds) (q : Nat) (hq : v.ownBlock = some q) : ∃ cur, w.heap[q]? = some (.cells cur 87 (0, 0)) := by
  rcases o.row.2 with ⟨rfl, -⟩ | ⟨g', cap, cur, rfl, hg', hb, h⟩
  · cases hq
  · cases hq; exact ⟨cur, hb⟩
theorem apart_hm {w : World} {lo hi lo' hi' : Nat} {vH vD : Value} {H : List C} {ds : List Hd} (o : Own w lo hi vH H) (o' : OwnM w lo' hi' vD ds) (g : Nat) (h1 : vH.ownBlock = some g) (h2 : vD.ownBlock = some g) : False := by
  obtain ⟨c1, e1⟩ := own_type o g h1
  obtain ⟨c2, e2⟩ := o'.type g h2
  rw [e1] at e2
  simp only [Option.some.injEq, Obj.cells.injEq] at e2
  exact absurd e2.2.1 (by decide)
theorem apart_mb {w : World} {lo hi : Nat} {vD : Value} {ds : List Hd} {b : Nat} {vs : List Value} (o : OwnM w lo hi vD ds) (hc : VBlk w b 78 vs) (q : Nat) (hq : vD.ownBlock = some q) : q ≠ b := by
  rintro rfl
  obtain ⟨c2, e2⟩ := o.type q hq
  unfold VBlk at hc
  rw [hc] at e2
  simp only [Option.some.injEq, Obj.cells.injEq] at e2
  exact absurd e2.2.1 (by decide)
theorem apart_ht {w : World} {lo hi : Nat} {vH : Value} {H : List C} {b : Nat} {vs : List Value} (o : Own w lo hi vH H) (hc : VBlk w b 78 vs) (q : Nat) (hq : vH.ownBlock = some q) : q ≠ b := by
  rintro rfl
  obtain ⟨c2, e2⟩ := own_type o q hq
  unfold VBlk at hc
  rw [hc] at e2
  simp only [Option.some.injEq, Obj.cells.injEq] at e2
  exact absurd e2.2.1 (by decide)
theorem infoM : ∃ i : TypeInfo, Try.prog.info? 87 = some i ∧ i.zero = some .nilIface ∧ i.size = 1 ∧ i.bytes = 16 := by
  have h : (Try.prog.info? 87).map (fun i => (i.zero, i.size, i.bytes)) = some (some .nilIface, 1, 16) := by kernel_rfl
  obtain ⟨i, hi, hz⟩ := Option.map_eq_some_iff.1 h
  simp only [Prod.mk.injEq] at hz
  exact ⟨i, hi, hz.1, hz.2.1, hz.2.2⟩
theorem sizeT : (Try.prog.info? 78).map (·.size) = some 2 := by kernel_rfl
theorem zeroT (w : World) : (zeroValue 78).run Try.prog w = .ok (.agg [Value.slice none 0 0, .slice none 0 0].toArray) w := Try.zeroValue78 w
/-- one member more -/
theorem wpList_append_m {o : Oper} {a : Act} {w : World} {ops : Array Oper} {rest : List Oper} {Q : Exit → Act → World → Prop} (hgd : o.guard = none) (s x : Operand) (t : TypeId) (ho : o.op = .call { callee := .builtin .append, args := #[s, x], argTypes := #[t, t] }) (ht : Try.prog.underlying t = some (.slice 87))
    (lo hi : Nat) (v : Value) (ds : List Hd) (hs : a.eval s = v) (hown : OwnM w lo hi v ds) (hlo : lo ≤ w.heap.size) (b : Nat) (d : Hd) (hx : a.eval x = .slice (some ⟨b, 0, none⟩) 1 1) (hr : w.rangeAt b 0 [mv d]) (hlen : ds.length ≤ 1000)
    (h : ∀ v' w', OwnM w' lo w'.heap.size v' (ds ++ [d]) → w.grownBy w' v.ownBlock → wpList Try.prog ops Q rest (a.put o.dst v') w') : wpList Try.prog ops Q (o :: rest) a w := by
  obtain ⟨i0, hi0, hz0, hz1, hz2⟩ := infoM
  refine wpList_append_own _ hgd s x t ho lo 87 i0 _ 1 16 ht hi0 hz0 hz1 hz2 rfl (by decide) v ds.length (mvs ds) hs hown.row ⟨b, 0, none⟩ 1 1 [mv d] hx rfl (fun j u hj => by rw [Addr.add_mid]; exact hr j u hj) (fun u hu => by rw [List.mem_singleton.1 hu]; exact mv_one d) (by unfold maxLen; omega) (by omega) hlo ?_
  intro v' w' h2 h3 h4
  rw [show mvs ds ++ [mv d] = mvs (ds ++ [d]) by simp [mvs]] at h2
  exact h v' w' ⟨by rw [List.length_append]; exact h2, fun g hg => (h2.lt g hg).2⟩ h3
theorem step_append_m {o : Oper} {a : Act} {w : World} {ops : Array Oper} {K : Act → World → Prop} {Q : Exit → Act → World → Prop} {E : Prop} (hgd : o.guard = none) (s x : Operand) (t : TypeId) (ho : o.op = .call { callee := .builtin .append, args := #[s, x], argTypes := #[t, t] }) (ht : Try.prog.underlying t = some (.slice 87))
    (lo hi : Nat) (v : Value) (ds : List Hd) (hs : a.eval s = v) (hown : OwnM w lo hi v ds) (hlo : lo ≤ w.heap.size) (b : Nat) (d : Hd) (hx : a.eval x = .slice (some ⟨b, 0, none⟩) 1 1) (hr : w.rangeAt b 0 [mv d]) (hlen : ds.length ≤ 1000)
    (h : ∀ v' w', OwnM w' lo w'.heap.size v' (ds ++ [d]) → w.grownBy w' v.ownBlock → K (a.put o.dst v') w') :
    if Region.wanted o (yielded ops a.tmps) = true then Oper.wp Try.prog o a w K Q else E := by
  have hw : Region.wanted o (yielded ops a.tmps) = true := by simp [Region.wanted, hgd]
  rw [if_pos hw]
  obtain ⟨i0, hi0, hz0, hz1, hz2⟩ := infoM
  refine wp_append_own w s x t ho lo 87 i0 _ 1 16 ht hi0 hz0 hz1 hz2 rfl (by decide) v ds.length (mvs ds) hs hown.row ⟨b, 0, none⟩ 1 1 [mv d] hx rfl (fun j u hj => by rw [Addr.add_mid]; exact hr j u hj) (fun u hu => by rw [List.mem_singleton.1 hu]; exact mv_one d) (by unfold maxLen; omega) (by omega) hlo ?_
  intro v' w' h2 h3 h4
  rw [show mvs ds ++ [mv d] = mvs (ds ++ [d]) by simp [mvs]] at h2
  exact h v' w' ⟨by rw [List.length_append]; exact h2, fun g hg => (h2.lt g hg).2⟩ h3
end Go.Proofs.Ythjkhghlhjndmaa.ce
/- The program's members: a hand behind an interface, whether it is done, the hand in it. -/
namespace Go.Proofs.Ythjkhghlhjndmaa.ce
open Go.ChangeShapes Go.WideShapes Go.ChangeAt Go.RowKit
set_option linter.unusedVariables false

theorem mvDone {d : Hd} (h : d.step = 5) : mv d = .iface 125 (.agg (hv d).toArray) := by unfold mv mvT; rw [if_pos h]
theorem mvWork {d : Hd} (h : d.step ≠ 5) : mv d = .iface 126 (.agg (hv d).toArray) := by unfold mv mvT; rw [if_neg h]

set_option maxHeartbeats 1000000 in
theorem memberOf_any (d : Hd) (w : World) : Calls Try.prog 89 #[.agg (hv d).toArray] w fun e w' => e = .returned (mv d) ∧ Below w.heap.size w w' := by
  by_cases h5 : d.step = 5
  · rw [mvDone h5]
    obtain ⟨k, x, y, s, l, e, o, t⟩ := d
    have g5 : (s == 5) = true := by simpa using h5
    clear h5
    go_enter Try.func89, Try.ntmps89
    go_wp2_with (first | (refine wpList_box_v rfl 58 _ rfl (hv ⟨k, x, y, s, l, e, o, t⟩) rfl ?_; intro b1 w1 hb1 hw1 hB1 hV1; have hb : HB w1 b1 ⟨k, x, y, s, l, e, o, t⟩ := ⟨hV1⟩; obtain ⟨c0, c1, c2, c3, c4, c5, c6, c7⟩ := hb.cells) | (fail))
    go_ret
    exact ⟨rfl, hB1⟩
  · rw [mvWork h5]
    obtain ⟨k, x, y, s, l, e, o, t⟩ := d
    have g5 : (s == 5) = false := by simpa using h5
    clear h5
    go_enter Try.func89, Try.ntmps89
    go_wp2_with (first | (refine wpList_box_v rfl 58 _ rfl (hv ⟨k, x, y, s, l, e, o, t⟩) rfl ?_; intro b1 w1 hb1 hw1 hB1 hV1; have hb : HB w1 b1 ⟨k, x, y, s, l, e, o, t⟩ := ⟨hV1⟩; obtain ⟨c0, c1, c2, c3, c4, c5, c6, c7⟩ := hb.cells) | (fail))
    go_ret
    exact ⟨rfl, hB1⟩

/-- a hand at rest is no mover, one at work is -/
theorem assertR (v : Value) (xT : TypeId) (w : World) : (Instr.typeAssert (.iface 125 v) xT 114 true).run Try.prog w = .ok (.tuple #[.nilIface, .bool false]) w := run_typeAssert_lacksB Try.underlying114 (by kernel_rfl) (by kernel_rfl) v xT w
theorem assertW (v : Value) (xT : TypeId) (w : World) : (Instr.typeAssert (.iface 126 v) xT 114 true).run Try.prog w = .ok (.tuple #[.iface 126 v, .bool true]) w := run_typeAssert_hasB Try.underlying114 (by kernel_rfl) v xT w

theorem isDone_any (d : Hd) (w : World) : Calls Try.prog 63 #[mv d] w fun e w' => e = .returned (.bool (decide (d.step = 5))) ∧ w' = w := by
  have hR := assertR
  have hW := assertW
  by_cases h5 : d.step = 5
  · rw [mvDone h5, decide_eq_true h5]
    obtain ⟨v, hv'⟩ := hid_ex (Value.agg (hv d).toArray)
    rw [hv'.out]
    clear h5
    go_enter Try.func63, Try.ntmps63
    go_wp2
    go_ret
    exact ⟨rfl, rfl⟩
  · rw [mvWork h5, decide_eq_false h5]
    obtain ⟨v, hv'⟩ := hid_ex (Value.agg (hv d).toArray)
    rw [hv'.out]
    clear h5
    go_enter Try.func63, Try.ntmps63
    go_wp2
    go_ret
    exact ⟨rfl, rfl⟩

set_option maxHeartbeats 1000000 in
theorem handR_any (d : Hd) (w : World) : Calls Try.prog 126 #[.agg (hv d).toArray] w fun e w' => e = .returned (.agg (hv d).toArray) ∧ Below w.heap.size w w' := by
  obtain ⟨k, x, y, s, l, e, o, t⟩ := d
  go_enter Try.func126, Try.ntmps126
  go_wp2_with (first | (refine wpList_box_v rfl 125 _ rfl (hv ⟨k, x, y, s, l, e, o, t⟩) rfl ?_; intro b1 w1 hb1 hw1 hB1 hV1; have hz1 := hB1.size) | (refine wpList_alloc_v rfl 58 rfl _ zeroH ?_; intro b2 w2 hb2 hw2 hB2 hV2; have hz2 := hB2.size; have hV1' := hV1.below hB2 hw1; have c0 := hV1'.cell 0 (by simp [hv]); have c1 := hV1'.cell 1 (by simp [hv]); have c2 := hV1'.cell 2 (by simp [hv]); have c3 := hV1'.cell 3 (by simp [hv]); have c4 := hV1'.cell 4 (by simp [hv]); have c5 := hV1'.cell 5 (by simp [hv]); have c6 := hV1'.cell 6 (by simp [hv]); have c7 := hV1'.cell 7 (by simp [hv]); simp only [hv, List.getElem_cons_zero, List.getElem_cons_succ] at c0 c1 c2 c3 c4 c5 c6 c7) | (refine wpList_store_v rfl 58 _ _ rfl b2 (hv ⟨k, x, y, s, l, e, o, t⟩) rfl rfl sizeH hV2 rfl (hv_one _) ?_; intro w3 hO3 hV3; have hz3 := hO3.1) | (fail))
  refine row_retv rfl rfl hV3 Try.underlying58 sizeH rfl ⟨rfl, ?_⟩
  exact (hB1.trans (hB2.mono hz1)).trans (hO3.2.2 _ (by omega))
set_option maxHeartbeats 1000000 in
theorem handW_any (d : Hd) (w : World) : Calls Try.prog 127 #[.agg (hv d).toArray] w fun e w' => e = .returned (.agg (hv d).toArray) ∧ Below w.heap.size w w' := by
  obtain ⟨k, x, y, s, l, e, o, t⟩ := d
  go_enter Try.func127, Try.ntmps127
  go_wp2_with (first | (refine wpList_box_v rfl 126 _ rfl (hv ⟨k, x, y, s, l, e, o, t⟩) rfl ?_; intro b1 w1 hb1 hw1 hB1 hV1; have hz1 := hB1.size) | (refine wpList_alloc_v rfl 58 rfl _ zeroH ?_; intro b2 w2 hb2 hw2 hB2 hV2; have hz2 := hB2.size; have hV1' := hV1.below hB2 hw1; have c0 := hV1'.cell 0 (by simp [hv]); have c1 := hV1'.cell 1 (by simp [hv]); have c2 := hV1'.cell 2 (by simp [hv]); have c3 := hV1'.cell 3 (by simp [hv]); have c4 := hV1'.cell 4 (by simp [hv]); have c5 := hV1'.cell 5 (by simp [hv]); have c6 := hV1'.cell 6 (by simp [hv]); have c7 := hV1'.cell 7 (by simp [hv]); simp only [hv, List.getElem_cons_zero, List.getElem_cons_succ] at c0 c1 c2 c3 c4 c5 c6 c7) | (refine wpList_store_v rfl 58 _ _ rfl b2 (hv ⟨k, x, y, s, l, e, o, t⟩) rfl rfl sizeH hV2 rfl (hv_one _) ?_; intro w3 hO3 hV3; have hz3 := hO3.1) | (fail))
  refine row_retv rfl rfl hV3 Try.underlying58 sizeH rfl ⟨rfl, ?_⟩
  exact (hB1.trans (hB2.mono hz1)).trans (hO3.2.2 _ (by omega))
end Go.Proofs.Ythjkhghlhjndmaa.ce
/- The program's teamOf: a crew in memory of its own, its hands behind an interface. -/
namespace Go.Proofs.Ythjkhghlhjndmaa.ce
open Go.ChangeShapes Go.WideShapes Go.ChangeAt Go.RowKit
set_option linter.unusedVariables false

/-- a team lies in its variable b; beside it a spare variable b2 -/
structure Tm (w0 w : World) (b b2 : Nat) (vH : Value) (H : List C) (vM : Value) (ds : List Hd) : Prop where
  team : VBlk w b 78 [vH, vM]
  spare : VBlk w b2 78 [.slice none 0 0, .slice none 0 0]
  heap : Own w w0.heap.size w.heap.size vH H
  mem : OwnM w w0.heap.size w.heap.size vM ds
  blo : w0.heap.size ≤ b
  blo2 : w0.heap.size ≤ b2
  bel : Below w0.heap.size w0 w
theorem apart_mh {w : World} {lo hi : Nat} {vD : Value} {ds : List Hd} {b : Nat} {d : Hd} (o : OwnM w lo hi vD ds) (hc : HB w b d) (q : Nat) (hq : vD.ownBlock = some q) : q ≠ b := by
  rintro rfl
  obtain ⟨c2, e2⟩ := o.type q hq
  have hc' := hc.blk
  unfold VBlk at hc'
  rw [hc'] at e2
  simp only [Option.some.injEq, Obj.cells.injEq] at e2
  exact absurd e2.2.1 (by decide)
/-- a block that is none of the team's -/
structure Fresh0 (w0 w : World) (q : Nat) (vH vM : Value) (b b2 : Nat) : Prop where
  b : q ≠ b
  b2 : q ≠ b2
  h : ∀ k, vH.ownBlock = some k → k ≠ q
  m : ∀ k, vM.ownBlock = some k → k ≠ q
  lo : w0.heap.size ≤ q
theorem Tm.lo {w0 w : World} {b b2 : Nat} {vH vM : Value} {H : List C} {ds : List Hd} (c : Tm w0 w b b2 vH H vM ds) : w0.heap.size ≤ w.heap.size := c.bel.size
theorem Tm.below {w0 w w' : World} {b b2 : Nat} {vH vM : Value} {H : List C} {ds : List Hd} (c : Tm w0 w b b2 vH H vM ds) (hB : Below w.heap.size w w') : Tm w0 w' b b2 vH H vM ds :=
  ⟨c.team.below hB c.team.lt, c.spare.below hB c.spare.lt, (c.heap.below hB (Nat.le_refl _)).wide (Nat.le_refl _) hB.size, (c.mem.below hB (Nat.le_refl _)).wide (Nat.le_refl _) hB.size, c.blo, c.blo2, c.bel.trans (hB.mono c.lo)⟩
theorem Tm.below' {w0 w w' : World} {b b2 q : Nat} {vH vM : Value} {H : List C} {ds : List Hd} (c : Tm w0 w b b2 vH H vM ds) (hO : Only q w w') (hq : Fresh0 w0 w q vH vM b b2) : Tm w0 w' b b2 vH H vM ds :=
  ⟨c.team.of (hO.2.1 b (Ne.symm hq.b)), c.spare.of (hO.2.1 b2 (Ne.symm hq.b2)), (own_keepB c.heap fun k hk => hO.2.1 k (hq.h k hk)).wide (Nat.le_refl _) (Nat.le_of_eq hO.1.symm), (c.mem.keepB fun k hk => hO.2.1 k (hq.m k hk)).wide (Nat.le_refl _) (Nat.le_of_eq hO.1.symm), c.blo, c.blo2, c.bel.trans (hO.2.2 _ hq.lo)⟩
theorem Tm.appended {w0 w w' w'' : World} {b b2 : Nat} {vH vM v' : Value} {H : List C} {ds ds' : List Hd} (c : Tm w0 w b b2 vH H vM ds) (g : w.grownBy w' vM.ownBlock) (ho : OwnM w' w0.heap.size w'.heap.size v' ds') (hO : Only b w' w'') (hc : VBlk w'' b 78 [vH, v']) (hne : b2 ≠ b) : Tm w0 w'' b b2 vH H v' ds' := by
  have hz := g.size
  have hz2 := hO.1
  have own' : Own w' w0.heap.size w'.heap.size vH H := (own_keepB c.heap fun k hk => g.block k (own_lo c.heap k hk).2.2 (fun q => apart_hm c.heap c.mem k hk q.symm)).wide (Nat.le_refl _) hz
  have team' : VBlk w' b 78 [vH, vM] := c.team.of (g.block b c.team.lt (fun z => apart_mb c.mem c.team b z.symm rfl))
  have spare' : VBlk w' b2 78 [.slice none 0 0, .slice none 0 0] := c.spare.of (g.block b2 c.spare.lt (fun z => apart_mb c.mem c.spare b2 z.symm rfl))
  have hB1 : Below w0.heap.size w w' := Below.grown (Below.refl _ w) g c.lo (fun k hk => (c.mem.lo k hk).1)
  refine ⟨hc, spare'.of (hO.2.1 b2 hne), (own_keepB own' fun k hk => hO.2.1 k (apart_ht own' team' k hk)).wide (Nat.le_refl _) (by omega), (ho.keepB fun k hk => hO.2.1 k (apart_mb ho team' k hk)).wide (Nat.le_refl _) (by omega), c.blo, c.blo2, (c.bel.trans hB1).trans (hO.2.2 _ c.blo)⟩
theorem step_store_m {o : Oper} {a : Act} {w : World} {ops : Array Oper} {K : Act → World → Prop} {Q : Exit → Act → World → Prop} {E : Prop} (hgd : o.guard = none) (x y : Operand) (ho : o.op = .store 76 x y) (b j : Nat) (va : Option Addr) (vn vc : Nat) (hx : a.eval x = .pointer (some ⟨b, j, none⟩)) (hy : a.eval y = .slice va vn vc)
    {t : TypeId} {vs : List Value} (hb : VBlk w b t vs) (hj : j < vs.length)
    (h : ∀ w', Only b w w' → VBlk w' b t (vs.set j (.slice va vn vc)) → K (a.put o.dst undef) w') :
    if Region.wanted o (yielded ops a.tmps) = true then Oper.wp Try.prog o a w K Q else E := by
  have hw : Region.wanted o (yielded ops a.tmps) = true := by simp [Region.wanted, hgd]
  rw [if_pos hw]
  have hc := hb.cell j hj
  have hf : w.frozen? ⟨b, j, none⟩ = false := hb.frozen _
  have hr : (execOp a.eval o).run Try.prog w = .ok .skip (w.setCell ⟨b, j, none⟩ (.slice va vn vc)) := by
    unfold execOp
    simp only [ho, hx, hy]
    simp [go_sem, hc, hf]
  unfold Oper.wp
  rw [hr]
  exact h _ (only_set _ _ _ _) (hb.set j _)

set_option maxRecDepth 100000 in
set_option maxHeartbeats 2000000 in
theorem teamOf_any (H : List C) (ds : List Hd) (vH0 vD : Value) (hi : Nat) (w : World) (hh : hi ≤ w.heap.size) (rH : Rd w hi vH0 H) (rD : RdH w hi vD ds) (hlen : 1 ≤ H.length ∧ H.length ≤ 40) (hl : ds.length ≤ 4) :
    Calls Try.prog 55 #[.agg #[vH0, vD]] w fun e w' => ∃ vH vM, e = .returned (.agg #[vH, vM]) ∧ Own w' w.heap.size w'.heap.size vH H ∧ OwnM w' w.heap.size w'.heap.size vM ds ∧ Below w.heap.size w w' := by
  obtain ⟨a, cap, rfl⟩ := rH.form
  obtain ⟨c, dc, rfl⟩ := rD.form
  have RH : Hid (Rd w hi (.slice a H.length cap) H) := rH
  have RD : Hid (RdH w hi (.slice c ds.length dc) ds) := rD
  have h1 := hlen.1
  have h2 : H.length ≤ 1048576 := by omega
  clear rH rD hlen
  have m1 : Hid True := trivial
  have m2 : Hid True := trivial
  have m3 : Hid True := trivial
  go_enter Try.func55, Try.ntmps55
  go_wp2_with (first | (clear m1; refine wpList_box_v rfl 31 _ rfl [.slice a H.length cap, .slice c ds.length dc] rfl ?_; intro b1 w1 hb1 hw1 hB1 hV1; have hz1 := hB1.size) | (clear m2; refine wpList_alloc_v rfl 78 rfl _ zeroT ?_; intro b2 w2 hb2 hw2 hB2 hV2; have hz2 := hB2.size; have hV12 := hV1.of (hB2.block b1 hw1); have cr0 := hV12.cell 0 (by simp); have cr1 := hV12.cell 1 (by simp); simp only [List.getElem_cons_zero, List.getElem_cons_succ] at cr0 cr1; have hB12 : Below w.heap.size w w2 := hB1.trans (hB2.mono hz1)) | (go_at_call 88; refine (copied_any H _ hi _ (by omega) (RH.out.below hB12 hh) h1 h2).mono ?_; rintro er w3 ⟨v3, rfl, o3, hB3⟩; have hz3 := hB3.size; obtain ⟨a3, c3, rfl⟩ := o3.rd.form) | (refine wpList_alloc_v rfl 78 rfl _ zeroT ?_; intro b3 w4 hb3 hw4 hB4 hV4; have hz4 := hB4.size) | (clear m3; refine wpList_store_v rfl 78 _ _ rfl b3 [.slice a3 H.length c3, .slice none 0 0] rfl rfl sizeT hV4 rfl (by simp [Value.oneCell']) ?_; intro w5 hO5 hV5; have hz5 := hO5.1; clear cr0 cr1; have hV15 := ((hV12.of (hB3.block b1 (by omega))).of (hB4.block b1 (by omega))).of (hO5.2.1 b1 (by omega)); have cr0 := hV15.cell 0 (by simp); have cr1 := hV15.cell 1 (by simp); simp only [List.getElem_cons_zero, List.getElem_cons_succ] at cr0 cr1; obtain ⟨vH, hvH⟩ := hid_ex (Value.slice a3 H.length c3); have TM5 : Tm w w5 b3 b2 (.slice a3 H.length c3) H (.slice none 0 0) [] := ⟨hV5, ((hV2.of (hB3.block b2 (by omega))).of (hB4.block b2 (by omega))).of (hO5.2.1 b2 (by omega)), ((o3.below hB4 (Nat.le_refl _)).keep fun j j1 j2 => hO5.2.1 j (by omega)).wide (by omega) (by omega), ownM_none _ _ _, by omega, by omega, ((hB12.trans (hB3.mono (by omega))).trans (hB4.mono (by omega))).trans (hO5.2.2 _ (by omega))⟩; rw [hvH.out] at TM5) | (fail))
  have h23 : b2 ≠ b3 := by omega
  have hEND : ∃ p q r, vH = .slice p q r := ⟨_, _, _, hvH.out.symm⟩
  clear hvH hV5 hO5 hV4 hB4 o3 hB3 hV2 hB2 hV1 hB1 hV12 hV15 hB12
  go_loopw [13] (fun v' wr => ∃ i : Nat, i ≤ ds.length ∧ v' = .int .i64 i ∧ ∃ vM, Tm w wr b3 b2 vH H vM (ds.take i)) (fun v' _ => ds.length - (intOf v').toNat)
  case atStart => exact ⟨0, by omega, rfl, _, TM5⟩
  case round =>
    obtain ⟨i, hi1, rfl, vM, tm⟩ := hrel
    clear TM5 cr0 cr1
    by_cases hlt : i < ds.length
    · have hlt' : (i : Int) < (ds.length : Int) := by omega
      obtain ⟨d, hd⟩ := hid_ex (ds[i])
      have HT : Hid (ds.take (i + 1) = ds.take i ++ [d]) := by unfold Hid; rw [List.take_succ_eq_append_getElem hlt, hd.out]
      obtain ⟨k, x, y, s, l, e, o, t⟩ := d
      obtain ⟨cb, coff, rfl, hcb, d0, d1, d2, d3, d4, d5, d6, d7⟩ := (RD.out.below tm.bel hh).cell i hlt hd.out
      have TM0 : Hid (Tm w wr b3 b2 vH H vM (ds.take i)) := tm
      obtain ⟨T, hT⟩ : ∃ T, Hid (mv ⟨k, x, y, s, l, e, o, t⟩ = .iface T (.agg #[.int .i64 k, .int .i64 x, .int .i64 y, .int .i64 s, .int .i64 l, .int .i64 e, .int .i64 o, .int .i64 t])) := ⟨mvT _, rfl⟩
      have LEN : Hid ((ds.take i).length ≤ 1000) := by unfold Hid; simp; omega
      clear tm hd
      go_wp2_with (first | (refine wpList_alloc_v rfl 58 rfl _ zeroH ?_; intro b5 wz hb5 hwz hBz hVz; have hzz := hBz.size) | (refine wpList_store_v rfl 58 _ _ rfl b5 (hv ⟨k, x, y, s, l, e, o, t⟩) rfl rfl sizeH hVz rfl (hv_one _) ?_; intro wa hOa hVa; have hza := hOa.1) | (fail))
      have hb5' : HB wa b5 ⟨k, x, y, s, l, e, o, t⟩ := ⟨hVa⟩
      have TM : Hid (Tm w wa b3 b2 vH H vM (ds.take i)) := (TM0.out.below hBz).below' hOa ⟨(by have := TM0.out.team.lt; omega), (by have := TM0.out.spare.lt; omega), fun k hk => (by have := (own_lo TM0.out.heap k hk).2.2; omega), fun k hk => (by have := (TM0.out.mem.lo k hk).2.2; omega), (by have := TM0.out.lo; omega)⟩
      obtain ⟨va, vc, rfl⟩ := TM.out.mem.rd.form
      obtain ⟨L, hL⟩ := hid_ex (ds.take i)
      rw [hL.out] at TM HT LEN
      have hL1 := LEN.out
      obtain ⟨n, hn⟩ := hid_ex L.length
      rw [hn.out] at TM
      have hb5 : HB wa b5 ⟨k, x, y, s, l, e, o, t⟩ := hb5'
      have hB : Below w.heap.size w wa := TM.out.bel
      have h35 : b3 < b5 := by have := TM0.out.team.lt; omega
      clear hb5' hVa hOa hVz hBz d0 d1 d2 d3 d4 d5 d6 d7 TM0
      refine wp_region_held_drew (S := fun w' => HB w' b5 ⟨k, x, y, s, l, e, o, t⟩) (by kernel_rfl) hb5.drew (fun hHeld => ?_)
      refine takeW 0 17 (.pointer (some ⟨b3, 1, none⟩)) rfl (by kernel_rfl) (by kernel_rfl) (by kernel_rfl) (fun _ _ _ h => h) (by kernel_rfl) (fun w' hS => by go_simp) hHeld ?_
      go_frame
      refine takeW 2 19 (.agg #[.int .i64 k, .int .i64 x, .int .i64 y, .int .i64 s, .int .i64 l, .int .i64 e, .int .i64 o, .int .i64 t]) rfl (by kernel_rfl) (by kernel_rfl) (by kernel_rfl) (fun _ _ _ h => h) (by kernel_rfl) (fun w' hS => by obtain ⟨c0, c1, c2, c3, c4, c5, c6, c7⟩ := hS.cells; go_simp) hHeld ?_
      go_frame
      have tmd := TM.out.below (Below.refl wa.heap.size wa).drew
      have hbd : HB wa.drew b5 ⟨k, x, y, s, l, e, o, t⟩ := hb5.drew
      have hBd : Below w.heap.size w wa.drew := hB.drew
      refine wpAnyH_ready (rs := [1, 3]) (by kernel_rfl) (by simp) ?_
      refine AllReadyH.cons rfl (fun K hK => ?_) ( AllReadyH.cons rfl (fun K hK => ?_) AllReadyH.nil)
      · have hcr := tmd.team.cell 1 (by simp)
        simp only [List.getElem_cons_succ, List.getElem_cons_zero] at hcr
        go_simp
        refine hK.out _ _ hbd (fun _ => ?_)
        try go_frame
        clear hcr
        refine wpAnyH_ready (rs := [3]) (by kernel_rfl) (by simp) ?_
        refine AllReadyH.cons rfl (fun K hK => ?_) AllReadyH.nil
        go_simp
        go_at_call 89
        refine (memberOf_any ⟨k, x, y, s, l, e, o, t⟩ wa.drew).mono ?_
        rintro er w6 ⟨he, hB6⟩
        rw [hT.out] at he
        subst he
        have tm6 := tmd.below hB6
        have hb6 : HB w6 b5 ⟨k, x, y, s, l, e, o, t⟩ := hbd.of (hB6.block b5 hbd.lt)
        refine hK.out _ _ hb6 (fun _ => ?_)
        try go_frame
        refine wpAnyH_ready (rs := [4]) (by kernel_rfl) (by simp) ?_
        refine AllReadyH.cons rfl (fun K hK => ?_) AllReadyH.nil
        go_simp
        have hB7 : Below w6.heap.size w6 (w6.alloc (.cells #[.iface T (.agg #[.int .i64 k, .int .i64 x, .int .i64 y, .int .i64 s, .int .i64 l, .int .i64 e, .int .i64 o, .int .i64 t])] 87)) := (Below.refl _ _).alloc (Nat.le_refl _) _
        have hr7 : VBlk (w6.alloc (.cells #[.iface T (.agg #[.int .i64 k, .int .i64 x, .int .i64 y, .int .i64 s, .int .i64 l, .int .i64 e, .int .i64 o, .int .i64 t])] 87)) w6.heap.size 87 [mv ⟨k, x, y, s, l, e, o, t⟩] := by rw [hT.out]; exact heap_alloc_new _ _
        obtain ⟨w7, hw7⟩ : ∃ w7, w6.alloc (.cells #[.iface T (.agg #[.int .i64 k, .int .i64 x, .int .i64 y, .int .i64 s, .int .i64 l, .int .i64 e, .int .i64 o, .int .i64 t])] 87) = w7 := ⟨_, rfl⟩
        rw [hw7] at hB7 hr7 ⊢
        have tm7 := tm6.below hB7
        have hb7 : HB w7 b5 ⟨k, x, y, s, l, e, o, t⟩ := hb6.of (hB7.block b5 hb6.lt)
        refine hK.out _ _ hb7 (fun _ => ?_)
        try go_frame
        refine wpAnyH_ready (rs := [5]) (by kernel_rfl) (by simp) ?_
        refine AllReadyH.cons rfl (fun K3 hK3 => ?_) AllReadyH.nil
        refine step_append_m rfl _ _ 76 rfl Try.underlying76 w.heap.size w7.heap.size (.slice va n vc) L rfl tm7.mem tm7.lo w6.heap.size ⟨k, x, y, s, l, e, o, t⟩ rfl hr7.range hL1 ?_
        intro v8 w8 ho8 hg8
        obtain ⟨va8, vc8, rfl⟩ := ho8.rd.form
        have hb8 : HB w8 b5 ⟨k, x, y, s, l, e, o, t⟩ := hb7.of (hg8.block b5 hb7.lt (fun z => apart_mh tm7.mem hb7 b5 z.symm rfl))
        have team8 : VBlk w8 b3 78 [vH, .slice va n vc] := tm7.team.of (hg8.block b3 tm7.team.lt (fun z => apart_mb tm7.mem tm7.team b3 z.symm rfl))
        have spare8 : VBlk w8 b2 78 [.slice none 0 0, .slice none 0 0] := tm7.spare.of (hg8.block b2 tm7.spare.lt (fun z => apart_mb tm7.mem tm7.spare b2 z.symm rfl))
        refine hK3.out _ _ hb8 (fun _ => ?_)
        try go_frame
        refine takeW 6 23 (.pointer (some ⟨b3, 1, none⟩)) rfl (by kernel_rfl) (by kernel_rfl) (by kernel_rfl) (fun _ _ _ h => h) (by kernel_rfl) (fun w' hS => by go_simp) hb8 ?_
        go_frame
        refine wpAnyH_ready (rs := [7]) (by kernel_rfl) (by simp) ?_
        refine AllReadyH.cons rfl (fun K4 hK4 => ?_) AllReadyH.nil
        refine step_store_m rfl _ _ rfl b3 1 va8 (L ++ [(⟨k, x, y, s, l, e, o, t⟩ : Hd)]).length vc8 rfl rfl team8 (by simp) ?_
        intro w9 hO9 hV9
        have tm9 := tm7.appended hg8 ho8 hO9 hV9 h23
        have hb9 : HB w9 b5 ⟨k, x, y, s, l, e, o, t⟩ := hb8.of (hO9.2.1 b5 (by omega))
        refine hK4.out _ _ hb9 (fun _ => ?_)
        refine wpAnyH_done (by kernel_rfl) ?_ _
        go_wp2
        go_roundw
        case rel => exact ⟨i + 1, by omega, by go_num, _, by rw [HT.out]; exact tm9⟩
        case measure => simp [intOf]; omega
      · go_simp
        go_at_call 89
        refine (memberOf_any ⟨k, x, y, s, l, e, o, t⟩ wa.drew).mono ?_
        rintro er w6 ⟨he, hB6⟩
        rw [hT.out] at he
        subst he
        have tm6 := tmd.below hB6
        have hb6 : HB w6 b5 ⟨k, x, y, s, l, e, o, t⟩ := hbd.of (hB6.block b5 hbd.lt)
        refine hK.out _ _ hb6 (fun _ => ?_)
        try go_frame
        refine wpAnyH_ready (rs := [1, 4]) (by kernel_rfl) (by simp) ?_
        refine AllReadyH.cons rfl (fun K hK => ?_) ( AllReadyH.cons rfl (fun K hK => ?_) AllReadyH.nil)
        · have hcr := tm6.team.cell 1 (by simp)
          simp only [List.getElem_cons_succ, List.getElem_cons_zero] at hcr
          go_simp
          refine hK.out _ _ hb6 (fun _ => ?_)
          try go_frame
          clear hcr
          refine wpAnyH_ready (rs := [4]) (by kernel_rfl) (by simp) ?_
          refine AllReadyH.cons rfl (fun K hK => ?_) AllReadyH.nil
          go_simp
          have hB7 : Below w6.heap.size w6 (w6.alloc (.cells #[.iface T (.agg #[.int .i64 k, .int .i64 x, .int .i64 y, .int .i64 s, .int .i64 l, .int .i64 e, .int .i64 o, .int .i64 t])] 87)) := (Below.refl _ _).alloc (Nat.le_refl _) _
          have hr7 : VBlk (w6.alloc (.cells #[.iface T (.agg #[.int .i64 k, .int .i64 x, .int .i64 y, .int .i64 s, .int .i64 l, .int .i64 e, .int .i64 o, .int .i64 t])] 87)) w6.heap.size 87 [mv ⟨k, x, y, s, l, e, o, t⟩] := by rw [hT.out]; exact heap_alloc_new _ _
          obtain ⟨w7, hw7⟩ : ∃ w7, w6.alloc (.cells #[.iface T (.agg #[.int .i64 k, .int .i64 x, .int .i64 y, .int .i64 s, .int .i64 l, .int .i64 e, .int .i64 o, .int .i64 t])] 87) = w7 := ⟨_, rfl⟩
          rw [hw7] at hB7 hr7 ⊢
          have tm7 := tm6.below hB7
          have hb7 : HB w7 b5 ⟨k, x, y, s, l, e, o, t⟩ := hb6.of (hB7.block b5 hb6.lt)
          refine hK.out _ _ hb7 (fun _ => ?_)
          try go_frame
          refine wpAnyH_ready (rs := [5]) (by kernel_rfl) (by simp) ?_
          refine AllReadyH.cons rfl (fun K3 hK3 => ?_) AllReadyH.nil
          refine step_append_m rfl _ _ 76 rfl Try.underlying76 w.heap.size w7.heap.size (.slice va n vc) L rfl tm7.mem tm7.lo w6.heap.size ⟨k, x, y, s, l, e, o, t⟩ rfl hr7.range hL1 ?_
          intro v8 w8 ho8 hg8
          obtain ⟨va8, vc8, rfl⟩ := ho8.rd.form
          have hb8 : HB w8 b5 ⟨k, x, y, s, l, e, o, t⟩ := hb7.of (hg8.block b5 hb7.lt (fun z => apart_mh tm7.mem hb7 b5 z.symm rfl))
          have team8 : VBlk w8 b3 78 [vH, .slice va n vc] := tm7.team.of (hg8.block b3 tm7.team.lt (fun z => apart_mb tm7.mem tm7.team b3 z.symm rfl))
          have spare8 : VBlk w8 b2 78 [.slice none 0 0, .slice none 0 0] := tm7.spare.of (hg8.block b2 tm7.spare.lt (fun z => apart_mb tm7.mem tm7.spare b2 z.symm rfl))
          refine hK3.out _ _ hb8 (fun _ => ?_)
          try go_frame
          refine takeW 6 23 (.pointer (some ⟨b3, 1, none⟩)) rfl (by kernel_rfl) (by kernel_rfl) (by kernel_rfl) (fun _ _ _ h => h) (by kernel_rfl) (fun w' hS => by go_simp) hb8 ?_
          go_frame
          refine wpAnyH_ready (rs := [7]) (by kernel_rfl) (by simp) ?_
          refine AllReadyH.cons rfl (fun K4 hK4 => ?_) AllReadyH.nil
          refine step_store_m rfl _ _ rfl b3 1 va8 (L ++ [(⟨k, x, y, s, l, e, o, t⟩ : Hd)]).length vc8 rfl rfl team8 (by simp) ?_
          intro w9 hO9 hV9
          have tm9 := tm7.appended hg8 ho8 hO9 hV9 h23
          have hb9 : HB w9 b5 ⟨k, x, y, s, l, e, o, t⟩ := hb8.of (hO9.2.1 b5 (by omega))
          refine hK4.out _ _ hb9 (fun _ => ?_)
          refine wpAnyH_done (by kernel_rfl) ?_ _
          go_wp2
          go_roundw
          case rel => exact ⟨i + 1, by omega, by go_num, _, by rw [HT.out]; exact tm9⟩
          case measure => simp [intOf]; omega
        · go_simp
          have hB7 : Below w6.heap.size w6 (w6.alloc (.cells #[.iface T (.agg #[.int .i64 k, .int .i64 x, .int .i64 y, .int .i64 s, .int .i64 l, .int .i64 e, .int .i64 o, .int .i64 t])] 87)) := (Below.refl _ _).alloc (Nat.le_refl _) _
          have hr7 : VBlk (w6.alloc (.cells #[.iface T (.agg #[.int .i64 k, .int .i64 x, .int .i64 y, .int .i64 s, .int .i64 l, .int .i64 e, .int .i64 o, .int .i64 t])] 87)) w6.heap.size 87 [mv ⟨k, x, y, s, l, e, o, t⟩] := by rw [hT.out]; exact heap_alloc_new _ _
          obtain ⟨w7, hw7⟩ : ∃ w7, w6.alloc (.cells #[.iface T (.agg #[.int .i64 k, .int .i64 x, .int .i64 y, .int .i64 s, .int .i64 l, .int .i64 e, .int .i64 o, .int .i64 t])] 87) = w7 := ⟨_, rfl⟩
          rw [hw7] at hB7 hr7 ⊢
          have tm7 := tm6.below hB7
          have hb7 : HB w7 b5 ⟨k, x, y, s, l, e, o, t⟩ := hb6.of (hB7.block b5 hb6.lt)
          refine hK.out _ _ hb7 (fun _ => ?_)
          try go_frame
          refine wpAnyH_ready (rs := [1]) (by kernel_rfl) (by simp) ?_
          refine AllReadyH.cons rfl (fun K hK => ?_) AllReadyH.nil
          have hcr := tm7.team.cell 1 (by simp)
          simp only [List.getElem_cons_succ, List.getElem_cons_zero] at hcr
          go_simp
          refine hK.out _ _ hb7 (fun _ => ?_)
          try go_frame
          clear hcr
          refine wpAnyH_ready (rs := [5]) (by kernel_rfl) (by simp) ?_
          refine AllReadyH.cons rfl (fun K3 hK3 => ?_) AllReadyH.nil
          refine step_append_m rfl _ _ 76 rfl Try.underlying76 w.heap.size w7.heap.size (.slice va n vc) L rfl tm7.mem tm7.lo w6.heap.size ⟨k, x, y, s, l, e, o, t⟩ rfl hr7.range hL1 ?_
          intro v8 w8 ho8 hg8
          obtain ⟨va8, vc8, rfl⟩ := ho8.rd.form
          have hb8 : HB w8 b5 ⟨k, x, y, s, l, e, o, t⟩ := hb7.of (hg8.block b5 hb7.lt (fun z => apart_mh tm7.mem hb7 b5 z.symm rfl))
          have team8 : VBlk w8 b3 78 [vH, .slice va n vc] := tm7.team.of (hg8.block b3 tm7.team.lt (fun z => apart_mb tm7.mem tm7.team b3 z.symm rfl))
          have spare8 : VBlk w8 b2 78 [.slice none 0 0, .slice none 0 0] := tm7.spare.of (hg8.block b2 tm7.spare.lt (fun z => apart_mb tm7.mem tm7.spare b2 z.symm rfl))
          refine hK3.out _ _ hb8 (fun _ => ?_)
          try go_frame
          refine takeW 6 23 (.pointer (some ⟨b3, 1, none⟩)) rfl (by kernel_rfl) (by kernel_rfl) (by kernel_rfl) (fun _ _ _ h => h) (by kernel_rfl) (fun w' hS => by go_simp) hb8 ?_
          go_frame
          refine wpAnyH_ready (rs := [7]) (by kernel_rfl) (by simp) ?_
          refine AllReadyH.cons rfl (fun K4 hK4 => ?_) AllReadyH.nil
          refine step_store_m rfl _ _ rfl b3 1 va8 (L ++ [(⟨k, x, y, s, l, e, o, t⟩ : Hd)]).length vc8 rfl rfl team8 (by simp) ?_
          intro w9 hO9 hV9
          have tm9 := tm7.appended hg8 ho8 hO9 hV9 h23
          have hb9 : HB w9 b5 ⟨k, x, y, s, l, e, o, t⟩ := hb8.of (hO9.2.1 b5 (by omega))
          refine hK4.out _ _ hb9 (fun _ => ?_)
          refine wpAnyH_done (by kernel_rfl) ?_ _
          go_wp2
          go_roundw
          case rel => exact ⟨i + 1, by omega, by go_num, _, by rw [HT.out]; exact tm9⟩
          case measure => simp [intOf]; omega
    · have hlt' : ¬ ((i : Int) < (ds.length : Int)) := by omega
      have ei : ds.take i = ds := List.take_of_length_le (by omega)
      rw [ei] at tm
      obtain ⟨p1, p2, p3, rfl⟩ := hEND
      obtain ⟨va, vc, rfl⟩ := tm.mem.rd.form
      have c0 := tm.team.cell 0 (by simp)
      have c1 := tm.team.cell 1 (by simp)
      simp only [List.getElem_cons_zero, List.getElem_cons_succ] at c0 c1
      go_wp2_with (first | (refine wpList_store_v rfl 78 _ _ rfl b2 [.slice p1 p2 p3, .slice va ds.length vc] rfl rfl sizeT tm.spare rfl (by simp [Value.oneCell']) ?_; intro wy hOy hVy; have hzy := hOy.1) | (fail))
      refine row_retv rfl rfl hVy Try.underlying78 sizeT rfl ⟨_, _, rfl, ?_, ?_, ?_⟩
      · exact (own_keepB tm.heap fun k hk => hOy.2.1 k (apart_ht tm.heap tm.spare k hk)).wide (Nat.le_refl _) (by omega)
      · exact (tm.mem.keepB fun k hk => hOy.2.1 k (apart_mb tm.mem tm.spare k hk)).wide (Nat.le_refl _) (by omega)
      · exact tm.bel.trans (hOy.2.2 _ tm.blo2)
end Go.Proofs.Ythjkhghlhjndmaa.ce
/- The program's crew: a team's heap, its hands in a new row. -/
namespace Go.Proofs.Ythjkhghlhjndmaa.ce
open Go.ChangeShapes Go.WideShapes Go.ChangeAt Go.RowKit
set_option linter.unusedVariables false

/-- the hand in a member, whatever its kind -/
theorem hand_of (d : Hd) : ∃ T F, mv d = .iface T (.agg (hv d).toArray) ∧ (∀ w : World, (method 263 T (.agg (hv d).toArray) "loop.example/g00401/impl.hand").run Try.prog w = .ok (F, .agg (hv d).toArray) w) ∧ (∀ (args : Array Value) (w : World), (callFunc F args).run Try.prog w = .ok (.enter F args) w) ∧ ∀ w : World, Calls Try.prog F #[.agg (hv d).toArray] w fun e w' => e = .returned (.agg (hv d).toArray) ∧ Below w.heap.size w w' := by
  by_cases h5 : d.step = 5
  · exact ⟨125, 126, mvDone h5, fun w => by kernel_rfl, fun args w => by kernel_rfl, fun w => handR_any d w⟩
  · exact ⟨126, 127, mvWork h5, fun w => by kernel_rfl, fun args w => by kernel_rfl, fun w => handW_any d w⟩
/-- a crew in its variable b beside a spare one b2, while its hands are laid -/
structure Ck (w0 w : World) (b b2 : Nat) (vH vD : Value) (ds : List Hd) : Prop where
  crew : VBlk w b 31 [vH, vD]
  spare : VBlk w b2 31 [.slice none 0 0, .slice none 0 0]
  hands : OwnH w w0.heap.size w.heap.size vD ds
  blo : w0.heap.size ≤ b
  blo2 : w0.heap.size ≤ b2
  bel : Below w0.heap.size w0 w
theorem Ck.below {w0 w w' : World} {b b2 : Nat} {vH vD : Value} {ds : List Hd} (c : Ck w0 w b b2 vH vD ds) (hB : Below w.heap.size w w') : Ck w0 w' b b2 vH vD ds :=
  ⟨c.crew.below hB c.crew.lt, c.spare.below hB c.spare.lt, (c.hands.below hB (Nat.le_refl _)).wide (Nat.le_refl _) hB.size, c.blo, c.blo2, c.bel.trans (hB.mono c.bel.size)⟩
theorem Ck.appended {w0 w w' w'' : World} {b b2 : Nat} {vH vD v' : Value} {ds ds' : List Hd} (c : Ck w0 w b b2 vH vD ds) (g : w.grownBy w' vD.ownBlock) (ho : OwnH w' w0.heap.size w'.heap.size v' ds') (hO : Only b w' w'') (hc : VBlk w'' b 31 [vH, v']) (hne : b2 ≠ b) : Ck w0 w'' b b2 vH v' ds' := by
  have hz := g.size
  have hz2 := hO.1
  have crew' : VBlk w' b 31 [vH, vD] := c.crew.of (g.block b c.crew.lt (fun z => apart_db c.hands c.crew b z.symm rfl))
  have spare' : VBlk w' b2 31 [.slice none 0 0, .slice none 0 0] := c.spare.of (g.block b2 c.spare.lt (fun z => apart_db c.hands c.spare b2 z.symm rfl))
  have hB1 : Below w0.heap.size w w' := Below.grown (Below.refl _ w) g c.bel.size (fun k hk => (c.hands.lo k hk).1)
  exact ⟨hc, spare'.of (hO.2.1 b2 hne), (ho.keepB fun k hk => hO.2.1 k (apart_db ho crew' k hk)).wide (Nat.le_refl _) (by omega), c.blo, c.blo2, (c.bel.trans hB1).trans (hO.2.2 _ c.blo)⟩

set_option maxRecDepth 100000 in
set_option maxHeartbeats 2000000 in
theorem crew_any (ds : List Hd) (ha : Option Addr) (hn hc : Nat) (vM : Value) (hi : Nat) (w : World) (hh : hi ≤ w.heap.size) (rM : RdM w hi vM ds) (hl : ds.length ≤ 4) :
    Calls Try.prog 56 #[.agg #[.slice ha hn hc, vM]] w fun e w' => ∃ vD, e = .returned (.agg #[.slice ha hn hc, vD]) ∧ OwnH w' w.heap.size w'.heap.size vD ds ∧ Below w.heap.size w w' := by
  obtain ⟨c, dc, rfl⟩ := rM.form
  have RM : Hid (RdM w hi (.slice c ds.length dc) ds) := rM
  clear rM
  have m1 : Hid True := trivial
  have m2 : Hid True := trivial
  have m3 : Hid True := trivial
  go_enter Try.func56, Try.ntmps56
  go_wp2_with (first | (clear m1; refine wpList_box_v rfl 78 _ rfl [.slice ha hn hc, .slice c ds.length dc] rfl ?_; intro b1 w1 hb1 hw1 hB1 hV1; have hz1 := hB1.size) | (clear m2; refine wpList_alloc_v rfl 31 rfl _ zeroCr ?_; intro b2 w2 hb2 hw2 hB2 hV2; have hz2 := hB2.size; have hV12 := hV1.of (hB2.block b1 hw1); have cr0 := hV12.cell 0 (by simp); have cr1 := hV12.cell 1 (by simp); simp only [List.getElem_cons_zero, List.getElem_cons_succ] at cr0 cr1; have hB12 : Below w.heap.size w w2 := hB1.trans (hB2.mono hz1)) | (refine wpList_alloc_v rfl 31 rfl _ zeroCr ?_; intro b3 w4 hb3 hw4 hB4 hV4; have hz4 := hB4.size) | (clear m3; refine wpList_store_v rfl 31 _ _ rfl b3 [.slice ha hn hc, .slice none 0 0] rfl rfl sizeCr hV4 rfl (by simp [Value.oneCell']) ?_; intro w5 hO5 hV5; have hz5 := hO5.1; clear cr0 cr1; have hV15 := (hV12.of (hB4.block b1 (by omega))).of (hO5.2.1 b1 (by omega)); have cr0 := hV15.cell 0 (by simp); have cr1 := hV15.cell 1 (by simp); simp only [List.getElem_cons_zero, List.getElem_cons_succ] at cr0 cr1; obtain ⟨vH, hvH⟩ := hid_ex (Value.slice ha hn hc); have CK5 : Ck w w5 b3 b2 (.slice ha hn hc) (.slice none 0 0) [] := ⟨hV5, (hV2.of (hB4.block b2 (by omega))).of (hO5.2.1 b2 (by omega)), ownH_none _ _ _, by omega, by omega, (hB12.trans (hB4.mono (by omega))).trans (hO5.2.2 _ (by omega))⟩; rw [hvH.out] at CK5) | (fail))
  have h23 : b2 ≠ b3 := by omega
  clear hV5 hO5 hV4 hB4 hV2 hB2 hV1 hB1 hV12 hV15 hB12
  go_loopw [12] (fun v' wr => ∃ i : Nat, i ≤ ds.length ∧ v' = .int .i64 i ∧ ∃ vD, Ck w wr b3 b2 vH vD (ds.take i)) (fun v' _ => ds.length - (intOf v').toNat)
  case atStart => exact ⟨0, by omega, rfl, _, CK5⟩
  case round =>
    obtain ⟨i, hi1, rfl, vD, tm⟩ := hrel
    clear CK5 cr0 cr1
    by_cases hlt : i < ds.length
    · have hlt' : (i : Int) < (ds.length : Int) := by omega
      obtain ⟨d, hd⟩ := hid_ex (ds[i])
      have HT : Hid (ds.take (i + 1) = ds.take i ++ [d]) := by unfold Hid; rw [List.take_succ_eq_append_getElem hlt, hd.out]
      obtain ⟨cb, coff, rfl, hcb, d00⟩ := (RM.out.below tm.bel hh).cell i hlt
      rw [hd.out] at d00
      obtain ⟨T, F, hT, hM0, hN0, hC0⟩ := hand_of d
      rw [hT] at d00
      obtain ⟨k, x, y, s, l, e, o, t⟩ := d
      have hM : Hid (∀ w : World, (method 263 T (.agg #[.int .i64 k, .int .i64 x, .int .i64 y, .int .i64 s, .int .i64 l, .int .i64 e, .int .i64 o, .int .i64 t]) "loop.example/g00401/impl.hand").run Try.prog w = .ok (F, .agg #[.int .i64 k, .int .i64 x, .int .i64 y, .int .i64 s, .int .i64 l, .int .i64 e, .int .i64 o, .int .i64 t]) w) := hM0
      have hC : Hid (∀ w : World, Calls Try.prog F #[.agg #[.int .i64 k, .int .i64 x, .int .i64 y, .int .i64 s, .int .i64 l, .int .i64 e, .int .i64 o, .int .i64 t]] w fun er w' => er = .returned (.agg #[.int .i64 k, .int .i64 x, .int .i64 y, .int .i64 s, .int .i64 l, .int .i64 e, .int .i64 o, .int .i64 t]) ∧ Below w.heap.size w w') := hC0
      have hN : Hid (∀ (args : Array Value) (w : World), (callFunc F args).run Try.prog w = .ok (.enter F args) w) := hN0
      have d0 : wr.cell? ⟨cb, coff + i, none⟩ = some (.iface T (.agg #[.int .i64 k, .int .i64 x, .int .i64 y, .int .i64 s, .int .i64 l, .int .i64 e, .int .i64 o, .int .i64 t])) := d00
      have CW0 : Hid (Ck w wr b3 b2 vH vD (ds.take i)) := tm
      have LEN : Hid ((ds.take i).length ≤ 1000) := by unfold Hid; simp; omega
      clear tm hd hT hM0 hC0 hN0 d00
      obtain ⟨va, vc, rfl⟩ := CW0.out.hands.len
      obtain ⟨L, hL⟩ := hid_ex (ds.take i)
      have CW : Hid (Ck w wr b3 b2 vH (.slice va (ds.take i).length vc) (ds.take i)) := CW0
      rw [hL.out] at CW HT LEN
      have hL1 := LEN.out
      obtain ⟨n, hn'⟩ := hid_ex L.length
      rw [hn'.out] at CW
      clear CW0
      go_wp2
      refine wp_region_held_drew (S := fun _ => True) (by kernel_rfl) trivial (fun hHeld => ?_)
      refine takeW 0 16 (.pointer (some ⟨b3, 1, none⟩)) rfl (by kernel_rfl) (by kernel_rfl) (by kernel_rfl) (fun _ _ _ h => h) (by kernel_rfl) (fun w' hS => by go_simp) hHeld ?_
      go_frame
      refine takeW 2 18 (.iface T (.agg #[.int .i64 k, .int .i64 x, .int .i64 y, .int .i64 s, .int .i64 l, .int .i64 e, .int .i64 o, .int .i64 t])) rfl (by kernel_rfl) (by kernel_rfl) (by kernel_rfl) (fun _ _ _ h => h) (by kernel_rfl) (fun w' hS => by go_simp) hHeld ?_
      go_frame
      have tmd := CW.out.below (Below.refl wr.heap.size wr).drew
      refine wpAnyH_ready (rs := [1, 3]) (by kernel_rfl) (by simp) ?_
      refine AllReadyH.cons rfl (fun K hK => ?_) ( AllReadyH.cons rfl (fun K hK => ?_) AllReadyH.nil)
      · have hcr := tmd.crew.cell 1 (by simp)
        simp only [List.getElem_cons_succ, List.getElem_cons_zero] at hcr
        go_simp
        refine hK.out _ _ trivial (fun _ => ?_)
        try go_frame
        clear hcr
        refine wpAnyH_ready (rs := [3]) (by kernel_rfl) (by simp) ?_
        refine AllReadyH.cons rfl (fun K hK => ?_) AllReadyH.nil
        have hme := hM.out
        have hne := hN.out
        go_simp
        refine (hC.out wr.drew).mono ?_
        rintro er w6 ⟨rfl, hB6⟩
        have tm6 := tmd.below hB6
        refine hK.out _ _ trivial (fun _ => ?_)
        try go_frame
        clear hme hne
        refine wpAnyH_ready (rs := [4]) (by kernel_rfl) (by simp) ?_
        refine AllReadyH.cons rfl (fun K hK => ?_) AllReadyH.nil
        go_simp
        have hB7 : Below w6.heap.size w6 (w6.alloc (.cells #[.int .i64 k, .int .i64 x, .int .i64 y, .int .i64 s, .int .i64 l, .int .i64 e, .int .i64 o, .int .i64 t] 58)) := (Below.refl _ _).alloc (Nat.le_refl _) _
        have hr7 : VBlk (w6.alloc (.cells #[.int .i64 k, .int .i64 x, .int .i64 y, .int .i64 s, .int .i64 l, .int .i64 e, .int .i64 o, .int .i64 t] 58)) w6.heap.size 58 (hv ⟨k, x, y, s, l, e, o, t⟩) := heap_alloc_new _ _
        obtain ⟨w7, hw7⟩ : ∃ w7, w6.alloc (.cells #[.int .i64 k, .int .i64 x, .int .i64 y, .int .i64 s, .int .i64 l, .int .i64 e, .int .i64 o, .int .i64 t] 58) = w7 := ⟨_, rfl⟩
        rw [hw7] at hB7 hr7 ⊢
        have tm7 := tm6.below hB7
        refine hK.out _ _ trivial (fun _ => ?_)
        try go_frame
        refine wpAnyH_ready (rs := [5]) (by kernel_rfl) (by simp) ?_
        refine AllReadyH.cons rfl (fun K3 hK3 => ?_) AllReadyH.nil
        refine step_append_h rfl _ _ 29 rfl Try.underlying29 w.heap.size w7.heap.size (.slice va n vc) L rfl tm7.hands tm7.bel.size w6.heap.size ⟨k, x, y, s, l, e, o, t⟩ rfl hr7.range hL1 ?_
        intro v8 w8 ho8 hg8
        obtain ⟨va8, vc8, rfl⟩ := ho8.len
        have crew8 : VBlk w8 b3 31 [vH, .slice va n vc] := tm7.crew.of (hg8.block b3 tm7.crew.lt (fun z => apart_db tm7.hands tm7.crew b3 z.symm rfl))
        refine hK3.out _ _ trivial (fun _ => ?_)
        try go_frame
        refine takeW 6 22 (.pointer (some ⟨b3, 1, none⟩)) rfl (by kernel_rfl) (by kernel_rfl) (by kernel_rfl) (fun _ _ _ h => h) (by kernel_rfl) (fun w' hS => by go_simp) trivial ?_
        go_frame
        refine wpAnyH_ready (rs := [7]) (by kernel_rfl) (by simp) ?_
        refine AllReadyH.cons rfl (fun K4 hK4 => ?_) AllReadyH.nil
        refine step_store_1 rfl _ _ rfl b3 1 va8 (L ++ [(⟨k, x, y, s, l, e, o, t⟩ : Hd)]).length vc8 rfl rfl crew8 (by simp) ?_
        intro w9 hO9 hV9
        have tm9 := tm7.appended hg8 ho8 hO9 hV9 h23
        refine hK4.out _ _ trivial (fun _ => ?_)
        refine wpAnyH_done (by kernel_rfl) ?_ _
        go_wp2
        go_roundw
        case rel => exact ⟨i + 1, by omega, by go_num, _, by rw [HT.out]; exact tm9⟩
        case measure => simp [intOf]; omega
      · have hme := hM.out
        have hne := hN.out
        go_simp
        refine (hC.out wr.drew).mono ?_
        rintro er w6 ⟨rfl, hB6⟩
        have tm6 := tmd.below hB6
        refine hK.out _ _ trivial (fun _ => ?_)
        try go_frame
        clear hme hne
        refine wpAnyH_ready (rs := [1, 4]) (by kernel_rfl) (by simp) ?_
        refine AllReadyH.cons rfl (fun K hK => ?_) ( AllReadyH.cons rfl (fun K hK => ?_) AllReadyH.nil)
        · have hcr := tm6.crew.cell 1 (by simp)
          simp only [List.getElem_cons_succ, List.getElem_cons_zero] at hcr
          go_simp
          refine hK.out _ _ trivial (fun _ => ?_)
          try go_frame
          clear hcr
          refine wpAnyH_ready (rs := [4]) (by kernel_rfl) (by simp) ?_
          refine AllReadyH.cons rfl (fun K hK => ?_) AllReadyH.nil
          go_simp
          have hB7 : Below w6.heap.size w6 (w6.alloc (.cells #[.int .i64 k, .int .i64 x, .int .i64 y, .int .i64 s, .int .i64 l, .int .i64 e, .int .i64 o, .int .i64 t] 58)) := (Below.refl _ _).alloc (Nat.le_refl _) _
          have hr7 : VBlk (w6.alloc (.cells #[.int .i64 k, .int .i64 x, .int .i64 y, .int .i64 s, .int .i64 l, .int .i64 e, .int .i64 o, .int .i64 t] 58)) w6.heap.size 58 (hv ⟨k, x, y, s, l, e, o, t⟩) := heap_alloc_new _ _
          obtain ⟨w7, hw7⟩ : ∃ w7, w6.alloc (.cells #[.int .i64 k, .int .i64 x, .int .i64 y, .int .i64 s, .int .i64 l, .int .i64 e, .int .i64 o, .int .i64 t] 58) = w7 := ⟨_, rfl⟩
          rw [hw7] at hB7 hr7 ⊢
          have tm7 := tm6.below hB7
          refine hK.out _ _ trivial (fun _ => ?_)
          try go_frame
          refine wpAnyH_ready (rs := [5]) (by kernel_rfl) (by simp) ?_
          refine AllReadyH.cons rfl (fun K3 hK3 => ?_) AllReadyH.nil
          refine step_append_h rfl _ _ 29 rfl Try.underlying29 w.heap.size w7.heap.size (.slice va n vc) L rfl tm7.hands tm7.bel.size w6.heap.size ⟨k, x, y, s, l, e, o, t⟩ rfl hr7.range hL1 ?_
          intro v8 w8 ho8 hg8
          obtain ⟨va8, vc8, rfl⟩ := ho8.len
          have crew8 : VBlk w8 b3 31 [vH, .slice va n vc] := tm7.crew.of (hg8.block b3 tm7.crew.lt (fun z => apart_db tm7.hands tm7.crew b3 z.symm rfl))
          refine hK3.out _ _ trivial (fun _ => ?_)
          try go_frame
          refine takeW 6 22 (.pointer (some ⟨b3, 1, none⟩)) rfl (by kernel_rfl) (by kernel_rfl) (by kernel_rfl) (fun _ _ _ h => h) (by kernel_rfl) (fun w' hS => by go_simp) trivial ?_
          go_frame
          refine wpAnyH_ready (rs := [7]) (by kernel_rfl) (by simp) ?_
          refine AllReadyH.cons rfl (fun K4 hK4 => ?_) AllReadyH.nil
          refine step_store_1 rfl _ _ rfl b3 1 va8 (L ++ [(⟨k, x, y, s, l, e, o, t⟩ : Hd)]).length vc8 rfl rfl crew8 (by simp) ?_
          intro w9 hO9 hV9
          have tm9 := tm7.appended hg8 ho8 hO9 hV9 h23
          refine hK4.out _ _ trivial (fun _ => ?_)
          refine wpAnyH_done (by kernel_rfl) ?_ _
          go_wp2
          go_roundw
          case rel => exact ⟨i + 1, by omega, by go_num, _, by rw [HT.out]; exact tm9⟩
          case measure => simp [intOf]; omega
        · go_simp
          have hB7 : Below w6.heap.size w6 (w6.alloc (.cells #[.int .i64 k, .int .i64 x, .int .i64 y, .int .i64 s, .int .i64 l, .int .i64 e, .int .i64 o, .int .i64 t] 58)) := (Below.refl _ _).alloc (Nat.le_refl _) _
          have hr7 : VBlk (w6.alloc (.cells #[.int .i64 k, .int .i64 x, .int .i64 y, .int .i64 s, .int .i64 l, .int .i64 e, .int .i64 o, .int .i64 t] 58)) w6.heap.size 58 (hv ⟨k, x, y, s, l, e, o, t⟩) := heap_alloc_new _ _
          obtain ⟨w7, hw7⟩ : ∃ w7, w6.alloc (.cells #[.int .i64 k, .int .i64 x, .int .i64 y, .int .i64 s, .int .i64 l, .int .i64 e, .int .i64 o, .int .i64 t] 58) = w7 := ⟨_, rfl⟩
          rw [hw7] at hB7 hr7 ⊢
          have tm7 := tm6.below hB7
          refine hK.out _ _ trivial (fun _ => ?_)
          try go_frame
          refine wpAnyH_ready (rs := [1]) (by kernel_rfl) (by simp) ?_
          refine AllReadyH.cons rfl (fun K hK => ?_) AllReadyH.nil
          have hcr := tm7.crew.cell 1 (by simp)
          simp only [List.getElem_cons_succ, List.getElem_cons_zero] at hcr
          go_simp
          refine hK.out _ _ trivial (fun _ => ?_)
          try go_frame
          clear hcr
          refine wpAnyH_ready (rs := [5]) (by kernel_rfl) (by simp) ?_
          refine AllReadyH.cons rfl (fun K3 hK3 => ?_) AllReadyH.nil
          refine step_append_h rfl _ _ 29 rfl Try.underlying29 w.heap.size w7.heap.size (.slice va n vc) L rfl tm7.hands tm7.bel.size w6.heap.size ⟨k, x, y, s, l, e, o, t⟩ rfl hr7.range hL1 ?_
          intro v8 w8 ho8 hg8
          obtain ⟨va8, vc8, rfl⟩ := ho8.len
          have crew8 : VBlk w8 b3 31 [vH, .slice va n vc] := tm7.crew.of (hg8.block b3 tm7.crew.lt (fun z => apart_db tm7.hands tm7.crew b3 z.symm rfl))
          refine hK3.out _ _ trivial (fun _ => ?_)
          try go_frame
          refine takeW 6 22 (.pointer (some ⟨b3, 1, none⟩)) rfl (by kernel_rfl) (by kernel_rfl) (by kernel_rfl) (fun _ _ _ h => h) (by kernel_rfl) (fun w' hS => by go_simp) trivial ?_
          go_frame
          refine wpAnyH_ready (rs := [7]) (by kernel_rfl) (by simp) ?_
          refine AllReadyH.cons rfl (fun K4 hK4 => ?_) AllReadyH.nil
          refine step_store_1 rfl _ _ rfl b3 1 va8 (L ++ [(⟨k, x, y, s, l, e, o, t⟩ : Hd)]).length vc8 rfl rfl crew8 (by simp) ?_
          intro w9 hO9 hV9
          have tm9 := tm7.appended hg8 ho8 hO9 hV9 h23
          refine hK4.out _ _ trivial (fun _ => ?_)
          refine wpAnyH_done (by kernel_rfl) ?_ _
          go_wp2
          go_roundw
          case rel => exact ⟨i + 1, by omega, by go_num, _, by rw [HT.out]; exact tm9⟩
          case measure => simp [intOf]; omega
    · have hlt' : ¬ ((i : Int) < (ds.length : Int)) := by omega
      have ei : ds.take i = ds := List.take_of_length_le (by omega)
      rw [ei] at tm
      rw [← hvH.out] at tm
      obtain ⟨va, vc, rfl⟩ := tm.hands.len
      have c0 := tm.crew.cell 0 (by simp)
      have c1 := tm.crew.cell 1 (by simp)
      simp only [List.getElem_cons_zero, List.getElem_cons_succ] at c0 c1
      go_wp2_with (first | (refine wpList_store_v rfl 31 _ _ rfl b2 [.slice ha hn hc, .slice va ds.length vc] rfl rfl sizeCr tm.spare rfl (by simp [Value.oneCell']) ?_; intro wy hOy hVy; have hzy := hOy.1) | (fail))
      refine row_retv rfl rfl hVy Try.underlying31 sizeCr rfl ⟨_, rfl, ?_, ?_⟩
      · exact (tm.hands.keepB fun k hk => hOy.2.1 k (apart_db tm.hands tm.spare k hk)).wide (Nat.le_refl _) (by omega)
      · exact tm.bel.trans (hOy.2.2 _ tm.blo2)
end Go.Proofs.Ythjkhghlhjndmaa.ce
/- A law for a scope with many labels: a jump is as good as the walk of what stands at its label. -/
namespace Go.Proofs.Ythjkhghlhjndmaa.ce
set_option linter.unusedVariables false
variable {P : Program}

/-- how a run inside the scope c may leave a code of it: by an exit that Q allows, or by a jump from which the run comes to such an exit of the scope -/
def Scoped (P : Program) (c : Code) (Q : Exit → Act → World → Prop) : Exit → Act → World → Prop
  | .goto l, a, w => ∃ rest, findLabel c l = some rest ∧ ∀ b k cs, ∃ e a' w', Q e a' w' ∧ Arrives P (lone (b.at a (.code rest :: .inScope c :: k)) cs w) b k cs e a' w'
  | e, a, w => Q e a w

theorem scoped_ret {c : Code} {Q : Exit → Act → World → Prop} {a : Act} {w : World} (h : Q .ret a w) : Scoped P c Q .ret a w := h

theorem arrives_scope {c code : Code} {Q : Exit → Act → World → Prop} {a : Act} {w : World} (h : code.wp P (Scoped P c Q) a w) (b : Frame) (k : List Item) (cs : List Frame) :
    ∃ e a' w', Q e a' w' ∧ Arrives P (lone (b.at a (.code code :: .inScope c :: k)) cs w) b k cs e a' w' := by
  obtain ⟨e, a₁, w₁, hq, harr⟩ := h b (.inScope c :: k) cs
  cases e with
  | normal => exact ⟨.normal, a₁, w₁, hq, Steps.trans harr (.one step_inScope)⟩
  | exit id => exact ⟨.exit id, a₁, w₁, hq, fun k' hk => harr k' (by simp [exitTo, hk])⟩
  | goto l' =>
    obtain ⟨rest, hf, hr⟩ := hq
    have hg : gotoIn l' (.inScope c :: k) = some (.code rest :: .inScope c :: k) := by simp [gotoIn, hf]
    obtain ⟨e₂, a₂, w₂, hq₂, harr₂⟩ := hr b k cs
    exact ⟨e₂, a₂, w₂, hq₂, .of_steps (harr _ hg) harr₂⟩
  | ret => exact ⟨_, a₁, w₁, hq, harr⟩
  | panic ch => exact ⟨_, a₁, w₁, hq, harr⟩
  | outgrown => exact ⟨_, a₁, w₁, hq, harr⟩

/-- a jump to a label is as good as the walk of what stands there -/
theorem scoped_goto {c rest : Code} {l : Nat} {Q : Exit → Act → World → Prop} {a : Act} {w : World} (hf : findLabel c l = some rest) (h : rest.wp P (Scoped P c Q) a w) : Scoped P c Q (.goto l) a w :=
  ⟨rest, hf, fun b k cs => arrives_scope h b k cs⟩

/-- the scope itself -/
theorem wp_scope_all {c : Code} {Q : Exit → Act → World → Prop} {a : Act} {w : World} (h : c.wp P (Scoped P c Q) a w) : (Code.scope c).wp P Q a w := by
  intro b k cs
  obtain ⟨e, a₁, w₁, hq, harr⟩ := arrives_scope h b k cs
  refine ⟨e, a₁, w₁, hq, ?_⟩
  exact .of_steps (.one step_scope) harr
end Go.Proofs.Ythjkhghlhjndmaa.ce
