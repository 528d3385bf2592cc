/- Contracts: the program's leftRight, hereRight. -/
import Derived.Test.YtnjeepmbkogaeaaIh2
import Derived.Test.YtnjeepmbkogaeaaRg1
import Derived.Deep.RegionHeld3
import Derived.BigQuiet
namespace Go.Proofs.Ytnjeepmbkogaeaa.ce
open Go.ChangeShapes Go.WideShapes Go.ChangeAt Go.RowKit
set_option linter.unusedVariables false

def leftB (H : List C) (x s l : Int) : Bool := if s = 0 ∨ s = 5 then decide (l = -1) else decide (wlk H l ∧ (nth H l).key < x)

set_option maxHeartbeats 1000000 in
theorem leftRight_any (H : List C) (hok : heapOk H) (d : Hd) (v : Value) (hi : Nat) (w : World) (hh : hi ≤ w.heap.size) (r : Rd w hi v H) :
    Calls Try.prog 41 #[v, .agg (hv d).toArray] w fun e w' => e = .returned (.bool (leftB H d.key d.step d.left)) ∧ Below w.heap.size w w' := by
  have hl := r.len
  obtain ⟨a, cap, rfl⟩ := r.form
  have R : Hid (Rd w hi (.slice a H.length cap) H) := r
  have HO : Hid (heapOk H) := hok
  clear r hok
  obtain ⟨k, x, y, s, l, e, o, t⟩ := d
  obtain ⟨z, hz⟩ := hid_ex (leftB H x s l)
  show Calls Try.prog 41 _ w fun e w' => e = .returned (.bool (leftB H x s l)) ∧ Below w.heap.size w w'
  rw [hz.out]
  by_cases hs : s = 0 ∨ s = 5
  · have SS : Hid (decide (s = 0 ∨ s = 5) = true) := decide_eq_true hs
    have ez : (l == -1) = z := by rw [← hz.out, ibeq]; simp [leftB, hs]
    clear hs
    go_enter Try.func41, Try.ntmps41
    go_wp2_with (first | (refine wpList_box_v rfl 29 _ rfl (hv ⟨k, x, y, s, l, e, o, t⟩) rfl ?_; intro b1 w1 hb1 hw1 hB1 hV1; have hz1 := hB1.size; have hb : HB w1 b1 ⟨k, x, y, s, l, e, o, t⟩ := ⟨hV1⟩; obtain ⟨c0, c1, c2, c3, c4, c5, c6, c7⟩ := hb.cells) | (go_at_call 62; refine (standsNowhere_any ⟨k, x, y, s, l, e, o, t⟩ _).mono ?_; rintro er w2 ⟨rfl, hB2⟩; rw [SS.out]; have hz2 := hB2.size; replace hb := hb.of (hB2.block b1 hw1); clear c0 c1 c2 c3 c4 c5 c6 c7; obtain ⟨c0, c1, c2, c3, c4, c5, c6, c7⟩ := hb.cells; have hB : Below w.heap.size w w2 := hB1.trans (hB2.mono hz1); clear hB1 hB2) | (fail))
    go_ret
    exact ⟨by simp, hB⟩
  · have SS : Hid (decide (s = 0 ∨ s = 5) = false) := decide_eq_false hs
    by_cases hp : wlk H l
    · have WW : Hid (decide (wlk H l) = true) := decide_eq_true hp
      obtain ⟨i, rfl⟩ : ∃ i : Nat, l = i := ⟨l.toNat, by have := hp.1.1; omega⟩
      have hi1 : i < H.length := by have := hp.1.2; omega
      have hi1' : (i : Int) < H.length := by omega
      have en := nth_nat H i hi1
      obtain ⟨b, off, rfl, hbh, e0, -, -, -⟩ := R.out.cell i hi1
      obtain ⟨kk, hkk⟩ := hid_ex (H[i].key)
      rw [hkk.out] at e0
      have ez : decide (kk < x) = z := by rw [← hz.out]; simp [leftB, hs, hp, en, hkk.out]
      clear hs hp
      go_enter Try.func41, Try.ntmps41
      go_wp2_with (first | (refine wpList_box_v rfl 29 _ rfl (hv ⟨k, x, y, s, (i : Int), e, o, t⟩) rfl ?_; intro b1 w1 hb1 hw1 hB1 hV1; have hz1 := hB1.size; have hb : HB w1 b1 ⟨k, x, y, s, (i : Int), e, o, t⟩ := ⟨hV1⟩; obtain ⟨c0, c1, c2, c3, c4, c5, c6, c7⟩ := hb.cells) | (go_at_call 62; refine (standsNowhere_any ⟨k, x, y, s, (i : Int), e, o, t⟩ _).mono ?_; rintro er w2 ⟨rfl, hB2⟩; rw [SS.out]; have hz2 := hB2.size; replace hb := hb.of (hB2.block b1 hw1); clear c0 c1 c2 c3 c4 c5 c6 c7; obtain ⟨c0, c1, c2, c3, c4, c5, c6, c7⟩ := hb.cells; have hB : Below w.heap.size w w2 := hB1.trans (hB2.mono hz1); clear hB1 hB2) | (fail))
      have e2 : w2.drew.cell? ⟨b, off + i * 4, none⟩ = some (.int .i64 kk) := (World.cell?_of_block (w := w) (w' := w2.drew) (a := ⟨b, off + i * 4, none⟩) (hB.drew.block b (by omega))).trans e0
      have S0 : w2.drew.cell? ⟨b1, 4, none⟩ = some (.int .i64 (i : Int)) ∧ w2.drew.cell? ⟨b1, 1, none⟩ = some (.int .i64 x) ∧ w2.drew.cell? ⟨b, off + i * 4, none⟩ = some (.int .i64 kk) := ⟨c4, c1, e2⟩
      go_region_held3 (fun w' => w'.cell? ⟨b1, 4, none⟩ = some (.int .i64 (i : Int)) ∧ w'.cell? ⟨b1, 1, none⟩ = some (.int .i64 x) ∧ w'.cell? ⟨b, off + i * 4, none⟩ = some (.int .i64 kk)) (first | assumption | exact S0 | (fail)) (first | (go_at_call 63; refine (walkable_any H HO.out (i : Int) _ hi w2.drew (by show hi ≤ w2.heap.size; omega) (R.out.below hB.drew hh)).mono ?_; rintro er w3 ⟨rfl, hB3⟩; rw [WW.out]; have hb3 := hb.of (w' := w3) (hB3.block b1 (by show b1 < w2.heap.size; omega)); obtain ⟨f0, f1, f2, f3, f4, f5, f6, f7⟩ := hb3.cells; have e3 := (World.cell?_of_block (w := w2.drew) (w' := w3) (a := ⟨b, off + i * 4, none⟩) (hB3.block b (by show b < w2.heap.size; omega))).trans e2; have S4 := And.intro f4 (And.intro f1 e3)) | (fail))
      go_wp2
      go_ret
      exact ⟨by simp, hB.drew.trans (hB3.mono (by show w.heap.size ≤ w2.heap.size; omega))⟩
    · have WW : Hid (decide (wlk H l) = false) := decide_eq_false hp
      have ez : z = false := by rw [← hz.out]; simp [leftB, hs, hp]
      clear hs hp
      subst ez
      go_enter Try.func41, Try.ntmps41
      go_wp2_with (first | (refine wpList_box_v rfl 29 _ rfl (hv ⟨k, x, y, s, l, e, o, t⟩) rfl ?_; intro b1 w1 hb1 hw1 hB1 hV1; have hz1 := hB1.size; have hb : HB w1 b1 ⟨k, x, y, s, l, e, o, t⟩ := ⟨hV1⟩; obtain ⟨c0, c1, c2, c3, c4, c5, c6, c7⟩ := hb.cells) | (go_at_call 62; refine (standsNowhere_any ⟨k, x, y, s, l, e, o, t⟩ _).mono ?_; rintro er w2 ⟨rfl, hB2⟩; rw [SS.out]; have hz2 := hB2.size; replace hb := hb.of (hB2.block b1 hw1); clear c0 c1 c2 c3 c4 c5 c6 c7; obtain ⟨c0, c1, c2, c3, c4, c5, c6, c7⟩ := hb.cells; have hB : Below w.heap.size w w2 := hB1.trans (hB2.mono hz1); clear hB1 hB2) | (fail))
      refine wp_region_held_drew (S := fun w' => w'.cell? ⟨b1, 4, none⟩ = some (.int .i64 l)) (by kernel_rfl) c4 (fun hHeld => ?_)
      refine takeW 0 10 (.slice a H.length cap) rfl (by kernel_rfl) (by kernel_rfl) (by kernel_rfl) (fun _ _ _ h => h) (by kernel_rfl) (fun w' hS => by go_simp) hHeld ?_
      go_frame
      refine takeW 1 11 (.pointer (some ⟨b1, 4, none⟩)) rfl (by kernel_rfl) (by kernel_rfl) (by kernel_rfl) (fun _ _ _ h => h) (by kernel_rfl) (fun w' hS => by go_simp) hHeld ?_
      go_frame
      refine takeW 2 12 (.int .i64 l) rfl (by kernel_rfl) (by kernel_rfl) (by kernel_rfl) (fun _ _ _ h => h) (by kernel_rfl) (fun w' hS => by go_simp) hHeld ?_
      go_frame
      refine wpAnyH_ready (rs := [3]) (by kernel_rfl) (by simp) ?_
      refine AllReadyH.cons rfl (fun K hK => ?_) AllReadyH.nil
      go_simp
      go_at_call 63
      refine (walkable_any H HO.out l _ hi w2.drew (by show hi ≤ w2.heap.size; omega) (R.out.below hB.drew hh)).mono ?_
      rintro er w3 ⟨rfl, hB3⟩
      rw [WW.out]
      have hS3 : w3.cell? ⟨b1, 4, none⟩ = some (.int .i64 l) := (World.cell?_of_block (w := w2.drew) (w' := w3) (a := ⟨b1, 4, none⟩) (hB3.block b1 (by show b1 < w2.heap.size; omega))).trans c4
      refine hK.out _ _ hS3 (fun _ => ?_)
      refine takeW 4 14 (.bool false) rfl (by kernel_rfl) (by kernel_rfl) (by kernel_rfl) (fun _ _ _ h => h) (by kernel_rfl) (fun w' hS => by go_simp) hS3 ?_
      go_frame
      refine takeU 5 15 rfl (by kernel_rfl) (by kernel_rfl) (by kernel_rfl) (fun _ _ _ h => h) (by kernel_rfl) hS3 ?_
      go_frame
      refine takeU 6 16 rfl (by kernel_rfl) (by kernel_rfl) (by kernel_rfl) (fun _ _ _ h => h) (by kernel_rfl) hS3 ?_
      go_frame
      refine takeU 7 17 rfl (by kernel_rfl) (by kernel_rfl) (by kernel_rfl) (fun _ _ _ h => h) (by kernel_rfl) hS3 ?_
      go_frame
      refine takeU 8 18 rfl (by kernel_rfl) (by kernel_rfl) (by kernel_rfl) (fun _ _ _ h => h) (by kernel_rfl) hS3 ?_
      go_frame
      refine takeU 9 19 rfl (by kernel_rfl) (by kernel_rfl) (by kernel_rfl) (fun _ _ _ h => h) (by kernel_rfl) hS3 ?_
      go_frame
      refine takeU 10 20 rfl (by kernel_rfl) (by kernel_rfl) (by kernel_rfl) (fun _ _ _ h => h) (by kernel_rfl) hS3 ?_
      go_frame
      refine takeU 11 21 rfl (by kernel_rfl) (by kernel_rfl) (by kernel_rfl) (fun _ _ _ h => h) (by kernel_rfl) hS3 ?_
      go_frame
      refine takeU 12 22 rfl (by kernel_rfl) (by kernel_rfl) (by kernel_rfl) (fun _ _ _ h => h) (by kernel_rfl) hS3 ?_
      go_frame
      refine takeU 13 23 rfl (by kernel_rfl) (by kernel_rfl) (by kernel_rfl) (fun _ _ _ h => h) (by kernel_rfl) hS3 ?_
      go_frame
      refine takeW 14 24 (.bool false) rfl (by kernel_rfl) (by kernel_rfl) (by kernel_rfl) (fun _ _ _ h => h) (by kernel_rfl) (fun w' hS => by go_simp) hS3 ?_
      go_frame
      refine takeW 15 4 (.bool false) rfl (by kernel_rfl) (by kernel_rfl) (by kernel_rfl) (fun _ _ _ h => h) (by kernel_rfl) (fun w' hS => by go_simp) hS3 ?_
      go_frame
      refine wpAnyH_done (by kernel_rfl) ?_ _
      go_wp2
      go_ret
      exact ⟨rfl, hB.drew.trans (hB3.mono (by show w.heap.size ≤ w2.heap.size; omega))⟩
end Go.Proofs.Ytnjeepmbkogaeaa.ce
