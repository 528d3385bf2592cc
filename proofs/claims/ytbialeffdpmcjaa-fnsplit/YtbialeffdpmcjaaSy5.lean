/- Contracts: a copy of a split, the model's and the program's. -/
import Derived.Test.YtbialeffdpmcjaaSy4
namespace Go.Proofs.Ytbialeffdpmcjaa.sx
open Go.ChangeShapes Go.WideShapes Go.ChangeAt Go.RowKit
open Go.Proofs.Ytbialeffdpmcjaa.ce
set_option linter.unusedVariables false

set_option maxRecDepth 100000 in
set_option maxHeartbeats 2000000 in
theorem l7Copy_any (n : Int) (ks : List Int) (v : Value) (hi : Nat) (w : World) (hh : hi ≤ w.heap.size) (r : RdI w hi v ks) (h1 : 1 ≤ ks.length) (h2 : ks.length ≤ 1000000) :
    Calls Try.prog 53 #[.agg #[.int .i64 n, v]] w fun e w' => ∃ v', e = .returned (.agg #[.int .i64 n, v']) ∧ OwnI w' w.heap.size w'.heap.size v' ks ∧ Below w.heap.size w w' := by
  obtain ⟨a, cap, rfl⟩ := r.form
  have R : Hid (RdS w hi (.slice a ks.length cap) ks) := r.start h1
  clear r
  have m1 : Hid True := trivial
  go_enter Try.func53, Try.ntmps53
  go_wp2_with (first | (clear m1; refine wpList_box_v rfl 27 _ rfl [.int .i64 n, .slice a ks.length cap] rfl ?_; intro b1 w1 hb1 hw1 hB1 hV1; have hz1 := hB1.size) | (refine wpList_alloc_v rfl 27 rfl _ zeroSp ?_; intro b2 w2 hb2 hw2 hB2 hV2; have hz2 := hB2.size; obtain ⟨c0, c1⟩ := sp_cells (hV1.of (hB2.block b1 hw1)); have hB12 : Below w.heap.size w w2 := hB1.trans (hB2.mono hz1)) | (fail))
  refine wp_region_held_drew (S := fun w' => w'.cell? ⟨b1, 0, none⟩ = some (.int .i64 n) ∧ w'.cell? ⟨b1, 1, none⟩ = some (.slice a ks.length cap)) (by kernel_rfl) ⟨c0, c1⟩ (fun hHeld => ?_)
  refine takeW 0 3 (.pointer (some ⟨b1, 0, none⟩)) rfl (by kernel_rfl) (by kernel_rfl) (by kernel_rfl) (fun _ _ _ h => h) (by kernel_rfl) (fun w' hS => by go_simp) hHeld ?_
  go_frame
  refine takeW 1 4 (.int .i64 n) rfl (by kernel_rfl) (by kernel_rfl) (by kernel_rfl) (fun _ _ _ h => h) (by kernel_rfl) (fun w' hS => by have z := hS.1; go_simp) hHeld ?_
  go_frame
  refine takeW 2 5 (.pointer (some ⟨b1, 1, none⟩)) rfl (by kernel_rfl) (by kernel_rfl) (by kernel_rfl) (fun _ _ _ h => h) (by kernel_rfl) (fun w' hS => by go_simp) hHeld ?_
  go_frame
  refine takeW 3 6 (.slice a ks.length cap) rfl (by kernel_rfl) (by kernel_rfl) (by kernel_rfl) (fun _ _ _ h => h) (by kernel_rfl) (fun w' hS => by have z := hS.2; go_simp) hHeld ?_
  go_frame
  have hBX : Below w2.heap.size w2 w2.drew := (Below.refl _ _).drew
  have hzd : w2.heap.size ≤ w2.drew.heap.size := Nat.le_refl _
  refine wpAnyH_ready (rs := [4]) (by kernel_rfl) (by simp) ?_
  refine AllReadyH.cons rfl (fun K hK => ?_) AllReadyH.nil
  go_simp
  go_at_call 81
  refine (l1Copy_any ks _ hi w2.drew (by omega) ((R.out.below hB12 hh).below hBX (by omega)) (by omega)).mono ?_
  rintro er Xc ⟨v5, rfl, ho5, hBY⟩
  obtain ⟨a5, n5, k5, rfl⟩ := own_slice ho5
  have hzY : w2.drew.heap.size ≤ Xc.heap.size := hBY.size
  replace hBX : Below w2.heap.size w2 Xc := hBX.trans (hBY.mono (by omega))
  have hzX : w2.heap.size ≤ Xc.heap.size := hBX.size
  have hHeldX : Xc.cell? ⟨b1, 0, none⟩ = some (.int .i64 n) ∧ Xc.cell? ⟨b1, 1, none⟩ = some (.slice a ks.length cap) := ⟨(World.cell?_of_block (w := w2) (w' := Xc) (a := ⟨b1, 0, none⟩) (hBX.block b1 (by omega))).trans c0, (World.cell?_of_block (w := w2) (w' := Xc) (a := ⟨b1, 1, none⟩) (hBX.block b1 (by omega))).trans c1⟩
  refine hK.out _ _ hHeldX (fun _ => ?_)
  try go_frame
  refine takeW 5 8 (.agg #[.int .i64 n, .slice a5 n5 k5]) rfl (by kernel_rfl) (by kernel_rfl) (by kernel_rfl) (fun _ _ _ h => h) (by kernel_rfl) (fun w' hS => by go_simp) hHeldX ?_
  go_frame
  refine wpAnyH_ready (rs := [6]) (by kernel_rfl) (by simp) ?_
  refine AllReadyH.cons rfl (fun K hK => ?_) AllReadyH.nil
  refine step_store_v rfl 27 _ _ rfl b2 [.int .i64 n, .slice a5 n5 k5] rfl rfl sizeSp (hV2.of (hBX.block b2 (by omega))) rfl (by simp [Value.oneCell']) ?_
  intro w9 hO9 hV9
  have hz9 := hO9.1
  refine hK.out _ _ ⟨(World.cell?_of_block (w := Xc) (w' := w9) (a := ⟨b1, 0, none⟩) (hO9.2.1 b1 (by omega))).trans hHeldX.1, (World.cell?_of_block (w := Xc) (w' := w9) (a := ⟨b1, 1, none⟩) (hO9.2.1 b1 (by omega))).trans hHeldX.2⟩ (fun _ => ?_)
  refine wpAnyH_done (by kernel_rfl) ?_ _
  go_wp2
  exact row_retv rfl rfl hV9 Try.underlying27 sizeSp rfl ⟨_, rfl, (ho5.keep fun j j1 j2 => hO9.2.1 j (by omega)).wide (by omega) (by omega), (hB12.trans (hBX.mono (by omega))).trans (hO9.2.2 _ (by omega))⟩

set_option maxRecDepth 100000 in
set_option maxHeartbeats 2000000 in
theorem spCopied_any (n : Int) (ks : List Int) (v : Value) (hi : Nat) (w : World) (hh : hi ≤ w.heap.size) (r : RdI w hi v ks) (h1 : 1 ≤ ks.length) (h2 : ks.length ≤ 1000000) :
    Calls Try.prog 56 #[.agg #[.int .i64 n, v]] w fun e w' => ∃ v', e = .returned (.agg #[.int .i64 n, v']) ∧ OwnI w' w.heap.size w'.heap.size v' ks ∧ Below w.heap.size w w' := by
  obtain ⟨a, cap, rfl⟩ := r.form
  have R : Hid (RdS w hi (.slice a ks.length cap) ks) := r.start h1
  clear r
  have m1 : Hid True := trivial
  go_enter Try.func56, Try.ntmps56
  go_wp2_with (first | (clear m1; refine wpList_box_v rfl 27 _ rfl [.int .i64 n, .slice a ks.length cap] rfl ?_; intro b1 w1 hb1 hw1 hB1 hV1; have hz1 := hB1.size) | (refine wpList_alloc_v rfl 27 rfl _ zeroSp ?_; intro b2 w2 hb2 hw2 hB2 hV2; have hz2 := hB2.size; obtain ⟨c0, c1⟩ := sp_cells (hV1.of (hB2.block b1 hw1)); have hB12 : Below w.heap.size w w2 := hB1.trans (hB2.mono hz1)) | (fail))
  refine wp_region_held_drew (S := fun w' => w'.cell? ⟨b1, 0, none⟩ = some (.int .i64 n) ∧ w'.cell? ⟨b1, 1, none⟩ = some (.slice a ks.length cap)) (by kernel_rfl) ⟨c0, c1⟩ (fun hHeld => ?_)
  refine takeW 0 3 (.pointer (some ⟨b1, 0, none⟩)) rfl (by kernel_rfl) (by kernel_rfl) (by kernel_rfl) (fun _ _ _ h => h) (by kernel_rfl) (fun w' hS => by go_simp) hHeld ?_
  go_frame
  refine takeW 1 4 (.int .i64 n) rfl (by kernel_rfl) (by kernel_rfl) (by kernel_rfl) (fun _ _ _ h => h) (by kernel_rfl) (fun w' hS => by have z := hS.1; go_simp) hHeld ?_
  go_frame
  refine takeW 2 5 (.pointer (some ⟨b1, 1, none⟩)) rfl (by kernel_rfl) (by kernel_rfl) (by kernel_rfl) (fun _ _ _ h => h) (by kernel_rfl) (fun w' hS => by go_simp) hHeld ?_
  go_frame
  refine takeW 3 6 (.slice a ks.length cap) rfl (by kernel_rfl) (by kernel_rfl) (by kernel_rfl) (fun _ _ _ h => h) (by kernel_rfl) (fun w' hS => by have z := hS.2; go_simp) hHeld ?_
  go_frame
  have hBX : Below w2.heap.size w2 w2.drew := (Below.refl _ _).drew
  have hzd : w2.heap.size ≤ w2.drew.heap.size := Nat.le_refl _
  refine wpAnyH_ready (rs := [4]) (by kernel_rfl) (by simp) ?_
  refine AllReadyH.cons rfl (fun K hK => ?_) AllReadyH.nil
  go_simp
  go_at_call 84
  refine (clone_any ks _ hi w2.drew (by omega) ((R.out.below hB12 hh).below hBX (by omega)) (by omega)).mono ?_
  rintro er Xc ⟨v5, rfl, ho5, hBY⟩
  obtain ⟨a5, n5, k5, rfl⟩ := own_slice ho5
  have hzY : w2.drew.heap.size ≤ Xc.heap.size := hBY.size
  replace hBX : Below w2.heap.size w2 Xc := hBX.trans (hBY.mono (by omega))
  have hzX : w2.heap.size ≤ Xc.heap.size := hBX.size
  have hHeldX : Xc.cell? ⟨b1, 0, none⟩ = some (.int .i64 n) ∧ Xc.cell? ⟨b1, 1, none⟩ = some (.slice a ks.length cap) := ⟨(World.cell?_of_block (w := w2) (w' := Xc) (a := ⟨b1, 0, none⟩) (hBX.block b1 (by omega))).trans c0, (World.cell?_of_block (w := w2) (w' := Xc) (a := ⟨b1, 1, none⟩) (hBX.block b1 (by omega))).trans c1⟩
  refine hK.out _ _ hHeldX (fun _ => ?_)
  try go_frame
  refine takeW 5 8 (.agg #[.int .i64 n, .slice a5 n5 k5]) rfl (by kernel_rfl) (by kernel_rfl) (by kernel_rfl) (fun _ _ _ h => h) (by kernel_rfl) (fun w' hS => by go_simp) hHeldX ?_
  go_frame
  refine wpAnyH_ready (rs := [6]) (by kernel_rfl) (by simp) ?_
  refine AllReadyH.cons rfl (fun K hK => ?_) AllReadyH.nil
  refine step_store_v rfl 27 _ _ rfl b2 [.int .i64 n, .slice a5 n5 k5] rfl rfl sizeSp (hV2.of (hBX.block b2 (by omega))) rfl (by simp [Value.oneCell']) ?_
  intro w9 hO9 hV9
  have hz9 := hO9.1
  refine hK.out _ _ ⟨(World.cell?_of_block (w := Xc) (w' := w9) (a := ⟨b1, 0, none⟩) (hO9.2.1 b1 (by omega))).trans hHeldX.1, (World.cell?_of_block (w := Xc) (w' := w9) (a := ⟨b1, 1, none⟩) (hO9.2.1 b1 (by omega))).trans hHeldX.2⟩ (fun _ => ?_)
  refine wpAnyH_done (by kernel_rfl) ?_ _
  go_wp2
  exact row_retv rfl rfl hV9 Try.underlying27 sizeSp rfl ⟨_, rfl, (ho5.keep fun j j1 j2 => hO9.2.1 j (by omega)).wide (by omega) (by omega), (hB12.trans (hBX.mono (by omega))).trans (hO9.2.2 _ (by omega))⟩
end Go.Proofs.Ytbialeffdpmcjaa.sx
