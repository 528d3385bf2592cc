/- Contracts: the program's has and with: a key is looked for, a key is put in. -/
import Derived.Test.YtbialeffdpmcjaaSy7
namespace Go.Proofs.Ytbialeffdpmcjaa.sx
open Go.ChangeShapes Go.WideShapes Go.ChangeAt Go.RowKit
open Go.Proofs.Ytbialeffdpmcjaa.ce
set_option linter.unusedVariables false

theorem spHas_any (n : Int) (ks : List Int) (key : Int) (hs : ks.Pairwise (· < ·)) (h1 : 1 ≤ ks.length) (h2 : ks.length ≤ 1000000) (v : Value) (hi : Nat) (w : World) (hh : hi ≤ w.heap.size) (r : RdI w hi v ks) :
    Calls Try.prog 63 #[.agg #[.int .i64 n, v], .int .i64 key] w fun e w' => e = .returned (.bool (isAt ks key)) ∧ Below w.heap.size w w' := by
  obtain ⟨a, cap, rfl⟩ := r.form
  have R : Hid (RdS w hi (.slice a ks.length cap) ks) := r.start h1
  have HS : Hid (ks.Pairwise (· < ·)) := hs
  clear r hs
  obtain ⟨P, hP⟩ := hid_ex (pos key ks)
  obtain ⟨z, hz⟩ := hid_ex (isAt ks key)
  rw [hz.out]
  go_enter Try.func63, Try.ntmps63
  go_wp2_with (first | (refine wpList_box_v rfl 27 _ rfl [.int .i64 n, .slice a ks.length cap] rfl ?_; intro b1 w1 hb1 hw1 hB1 hV1; obtain ⟨c0, c1⟩ := sp_cells hV1) | (go_at_call 87; refine (search_any ks key HS.out h2 _ hi _ (R.out.below hB1 hh)).mono ?_; rintro er wq ⟨rfl, hq⟩; subst wq; rw [hP.out, hz.out]) | (fail))
  go_ret
  exact ⟨rfl, hB1⟩

theorem cat3 (xs : List Int) (key : Int) (b off cap c g o k : Nat) (p : Nat) : cat [⟨b, off, cap, xs.take p⟩, ⟨c, 0, 1, [key]⟩, ⟨g, o, k, xs.drop p⟩] = xs.take p ++ key :: xs.drop p := by
  simp [cat]

set_option maxRecDepth 100000 in
set_option maxHeartbeats 4000000 in
theorem spWith_any (n : Int) (ks : List Int) (key : Int) (hs : ks.Pairwise (· < ·)) (h1 : 1 ≤ ks.length) (h2 : ks.length ≤ 900000) (v : Value) (hi : Nat) (w : World) (hh : hi ≤ w.heap.size) (r : RdI w hi v ks) :
    Calls Try.prog 65 #[.agg #[.int .i64 n, v], .int .i64 key] w fun e w' => ∃ v', e = .returned (.agg #[.int .i64 n, v']) ∧ OwnI w' w.heap.size w'.heap.size v' (ins ks key) ∧ Below w.heap.size w w' := by
  have RI : Hid (RdI w hi v ks) := r
  have R0 := r.start h1
  obtain ⟨g, o, cap, rfl, hc1, hc2, hgh⟩ := R0.form
  have R : Hid (RdS w hi (.slice (some ⟨g, o, none⟩) ks.length cap) ks) := R0
  have HS : Hid (ks.Pairwise (· < ·)) := hs
  clear r hs R0
  have m1 : Hid True := trivial
  have m2 : Hid True := trivial
  have hpl := pos_le key ks
  cases hz : isAt ks key with
  | true =>
    rw [ins_yes hz]
    go_enter Try.func65, Try.ntmps65
    go_wp2_with (first | (clear m1; refine wpList_box_v rfl 27 _ rfl [.int .i64 n, .slice (some ⟨g, o, none⟩) ks.length cap] rfl ?_; intro b1 w1 hb1 hw1 hB1 hV1; have hz1 := hB1.size) | (clear m2; refine wpList_alloc_v rfl 27 rfl _ zeroSp ?_; intro b2 w2 hb2 hw2 hB2 hV2; have hz2 := hB2.size; obtain ⟨c0, c1⟩ := sp_cells (hV1.of (hB2.block b1 hw1)); have hB12 : Below w.heap.size w w2 := hB1.trans (hB2.mono hz1)) | (go_at_call 87; refine (search_any ks key HS.out (by omega) _ hi _ (R.out.below hB12 hh)).mono ?_; rintro er wq ⟨rfl, hq⟩; subst wq; rw [hz]) | (go_at_call 56; refine (spCopied_any n ks _ hi _ (by omega) (RI.out.below hB12 hh) h1 (by omega)).mono ?_; rintro er w3 ⟨v3, rfl, o3, hB3⟩; have hz3 := hB3.size; obtain ⟨a3, n3, k3, rfl⟩ := own_slice o3) | (refine wpList_store_v rfl 27 _ _ rfl b2 [.int .i64 n, .slice a3 n3 k3] rfl rfl sizeSp (hV2.of (hB3.block b2 hw2)) rfl (by simp [Value.oneCell']) ?_; intro w4 hO4 hV4; have hz4 := hO4.1) | (fail))
    refine row_retv rfl rfl hV4 Try.underlying27 sizeSp rfl ⟨_, rfl, (o3.keep fun j j1 j2 => hO4.2.1 j (by omega)).wide (by omega) (by omega), ?_⟩
    exact (hB12.trans (hB3.mono (by omega))).trans (hO4.2.2 _ (by omega))
  | false =>
    rw [ins_no (by rw [hz]; exact Bool.false_ne_true)]
    obtain ⟨p, hp⟩ := hid_ex (pos key ks)
    rw [hp.out] at hpl ⊢
    have hp1 : (p : Int) ≤ (ks.length : Int) := by omega
    have hp2 : (p : Int) ≤ (cap : Int) := by omega
    have hp3 : (ks.length : Int) ≤ (cap : Int) := by omega
    have htl : (ks.take p).length = p := by rw [List.length_take]; omega
    have hdl : (ks.drop p).length = ks.length - p := List.length_drop
    go_enter Try.func65, Try.ntmps65
    go_wp2_with (first | (clear m1; refine wpList_box_v rfl 27 _ rfl [.int .i64 n, .slice (some ⟨g, o, none⟩) ks.length cap] rfl ?_; intro b1 w1 hb1 hw1 hB1 hV1; have hz1 := hB1.size) | (clear m2; refine wpList_alloc_v rfl 27 rfl _ zeroSp ?_; intro b2 w2 hb2 hw2 hB2 hV2; have hz2 := hB2.size; obtain ⟨c0, c1⟩ := sp_cells (hV1.of (hB2.block b1 hw1)); have hB12 : Below w.heap.size w w2 := hB1.trans (hB2.mono hz1)) | (go_at_call 87; refine (search_any ks key HS.out (by omega) _ hi _ (R.out.below hB12 hh)).mono ?_; rintro er wq ⟨rfl, hq⟩; subst wq; rw [hz, hp.out]) | (fail))
    -- the rest, from p on: at the capacity's end it begins where the slice does
    have R2 := R.out.below hB12 hh
    by_cases hpc : p < cap
    · have hpc' : (p : Int) < (cap : Int) := by omega
      have RD := R2.drop p hpl
      refine wp_region_held_drew (S := fun w' => (w'.cell? ⟨b1, 0, none⟩ = some (.int .i64 n) ∧ w'.cell? ⟨b1, 1, none⟩ = some (.slice (some ⟨g, o, none⟩) ks.length cap))) (by kernel_rfl) ⟨c0, c1⟩ (fun hHeld => ?_)
      refine takeW 0 17 (.pointer (some ⟨b1, 0, none⟩)) rfl (by kernel_rfl) (by kernel_rfl) (by kernel_rfl) (fun _ _ _ h => h) (by kernel_rfl) (fun w' hS => by go_simp) hHeld ?_
      go_frame
      refine takeW 1 18 (.int .i64 n) rfl (by kernel_rfl) (by kernel_rfl) (by kernel_rfl) (fun _ _ _ h => h) (by kernel_rfl) (fun w' hS => by have z := hS.1; go_simp) hHeld ?_
      go_frame
      refine takeW 2 19 (.pointer (some ⟨b1, 1, none⟩)) rfl (by kernel_rfl) (by kernel_rfl) (by kernel_rfl) (fun _ _ _ h => h) (by kernel_rfl) (fun w' hS => by go_simp) hHeld ?_
      go_frame
      refine takeW 3 20 (.slice (some ⟨g, o, none⟩) ks.length cap) rfl (by kernel_rfl) (by kernel_rfl) (by kernel_rfl) (fun _ _ _ h => h) (by kernel_rfl) (fun w' hS => by have z := hS.2; go_simp) hHeld ?_
      go_frame
      refine takeW 4 21 (.int .i64 (p : Int)) rfl (by kernel_rfl) (by kernel_rfl) (by kernel_rfl) (fun _ _ _ h => h) (by kernel_rfl) (fun w' hS => by go_simp) hHeld ?_
      go_frame
      refine takeW 5 22 (.slice (some ⟨g, o, none⟩) p cap) rfl (by kernel_rfl) (by kernel_rfl) (by kernel_rfl) (fun _ _ _ h => h) (by kernel_rfl) (fun w' hS => by go_simp) hHeld ?_
      go_frame
      refine takeW 6 23 (.int .i64 key) rfl (by kernel_rfl) (by kernel_rfl) (by kernel_rfl) (fun _ _ _ h => h) (by kernel_rfl) (fun w' hS => by go_simp) hHeld ?_
      go_frame
      refine takeW 8 25 (.pointer (some ⟨b1, 1, none⟩)) rfl (by kernel_rfl) (by kernel_rfl) (by kernel_rfl) (fun _ _ _ h => h) (by kernel_rfl) (fun w' hS => by go_simp) hHeld ?_
      go_frame
      refine takeW 9 26 (.slice (some ⟨g, o, none⟩) ks.length cap) rfl (by kernel_rfl) (by kernel_rfl) (by kernel_rfl) (fun _ _ _ h => h) (by kernel_rfl) (fun w' hS => by have z := hS.2; go_simp) hHeld ?_
      go_frame
      refine takeW 10 27 (.int .i64 (p : Int)) rfl (by kernel_rfl) (by kernel_rfl) (by kernel_rfl) (fun _ _ _ h => h) (by kernel_rfl) (fun w' hS => by go_simp) hHeld ?_
      go_frame
      refine takeW 11 28 (.slice (some ⟨g, o + p, none⟩) (ks.length - p) (cap - p)) rfl (by kernel_rfl) (by kernel_rfl) (by kernel_rfl) (fun _ _ _ h => h) (by kernel_rfl) (fun w' hS => by go_simp; try (intro hq; omega)) hHeld ?_
      go_frame
      have hBX : Below w2.heap.size w2 w2.drew := (Below.refl _ _).drew
      refine wpAnyH_ready (rs := [7]) (by kernel_rfl) (by simp) ?_
      refine AllReadyH.cons rfl (fun K hK => ?_) AllReadyH.nil
      go_simp
      obtain ⟨Xa, hXa⟩ : ∃ Y, (w2.alloc (.cells #[.int .i64 key] 2)).drew = Y := ⟨_, rfl⟩
      have hBa : Below w2.heap.size w2 Xa := by rw [← hXa]; exact ((Below.refl _ _).alloc (Nat.le_refl _) _).drew
      have hza : Xa.heap.size = w2.heap.size + 1 := by rw [← hXa]; simp
      have hVa : VBlk Xa w2.heap.size 2 (ivs [key]) := by rw [← hXa]; exact heap_alloc_new _ _
      rw [hXa]
      have hHa : (Xa.cell? ⟨b1, 0, none⟩ = some (.int .i64 n) ∧ Xa.cell? ⟨b1, 1, none⟩ = some (.slice (some ⟨g, o, none⟩) ks.length cap)) := ⟨(World.cell?_of_block (w := w2) (w' := Xa) (a := ⟨b1, 0, none⟩) (hBa.block b1 (by omega))).trans c0, (World.cell?_of_block (w := w2) (w' := Xa) (a := ⟨b1, 1, none⟩) (hBa.block b1 (by omega))).trans c1⟩
      refine hK.out _ _ hHa (fun _ => ?_)
      try go_frame
      refine wpAnyH_ready (rs := [12]) (by kernel_rfl) (by simp) ?_
      refine AllReadyH.cons rfl (fun K hK => ?_) AllReadyH.nil
      go_simp
      obtain ⟨Xb, hXb⟩ : ∃ Y, Xa.alloc (.cells #[.slice (some ⟨g, o, none⟩) p cap, .slice (some ⟨w2.heap.size, 0, none⟩) 1 1, .slice (some ⟨g, o + p, none⟩) (ks.length - p) (cap - p)] 22) = Y := ⟨_, rfl⟩
      have hBb : Below Xa.heap.size Xa Xb := by rw [← hXb]; exact (Below.refl _ _).alloc (Nat.le_refl _) _
      have hzb : Xb.heap.size = Xa.heap.size + 1 := by rw [← hXb]; simp
      have hB2b : Below w2.heap.size w2 Xb := hBa.trans (hBb.mono (by omega))
      have hVb : VBlk Xb Xa.heap.size 22 [.slice (some ⟨g, o, none⟩) p cap, .slice (some ⟨w2.heap.size, 0, none⟩) 1 1, .slice (some ⟨g, o + p, none⟩) (ks.length - p) (cap - p)] := by rw [← hXb]; exact heap_alloc_new _ _
      rw [hXb]
      have hHb : (Xb.cell? ⟨b1, 0, none⟩ = some (.int .i64 n) ∧ Xb.cell? ⟨b1, 1, none⟩ = some (.slice (some ⟨g, o, none⟩) ks.length cap)) := ⟨(World.cell?_of_block (w := w2) (w' := Xb) (a := ⟨b1, 0, none⟩) (hB2b.block b1 (by omega))).trans c0, (World.cell?_of_block (w := w2) (w' := Xb) (a := ⟨b1, 1, none⟩) (hB2b.block b1 (by omega))).trans c1⟩
      refine hK.out _ _ hHb (fun _ => ?_)
      try go_frame
      refine wpAnyH_ready (rs := [13]) (by kernel_rfl) (by simp) ?_
      refine AllReadyH.cons rfl (fun K hK => ?_) AllReadyH.nil
      go_simp
      go_at_call 89
      have hcat := cat3 ks key g o cap w2.heap.size g (o + p) (cap - p) p
      refine (concat_any [⟨g, o, cap, ks.take p⟩, ⟨w2.heap.size, 0, 1, [key]⟩, ⟨g, o + p, cap - p, ks.drop p⟩] (by simp) (by rw [hcat, List.length_append, List.length_cons]; omega) (by rw [hcat, List.length_append, List.length_cons, htl, hdl]; omega) (w2.heap.size + 1) Xb.heap.size Xb (Nat.le_refl _) (by rw [hza] at hVb; simpa [Sl.val, htl, hdl] using hVb) ?rds).mono ?_
      case rds =>
        intro s hs
        simp only [List.mem_cons, List.not_mem_nil, or_false] at hs
        rcases hs with rfl | rfl | rfl
        · have := (((R.out.below hB12 hh).take p hpl).below hB2b (by omega)).wide (hi' := Xb.heap.size) (by omega)
          simpa [Sl.val, htl] using this
        · exact ⟨w2.heap.size, 0, 1, rfl, by simp, by unfold maxLen; omega, by show w2.heap.size < Xb.heap.size; omega, (hVa.of (hBb.block _ (by omega))).range⟩
        · have := (RD.below hB2b (by omega)).wide (hi' := Xb.heap.size) (by omega)
          simpa [Sl.val, hdl] using this
      rw [hcat]
      rintro er Xc ⟨v5, rfl, ho5, hBY⟩
      obtain ⟨a5, n5, k5, rfl⟩ := own_slice ho5
      have hzY : Xb.heap.size ≤ Xc.heap.size := hBY.size
      have hB2c : Below w2.heap.size w2 Xc := hB2b.trans (hBY.mono (by omega))
      have hHc : (Xc.cell? ⟨b1, 0, none⟩ = some (.int .i64 n) ∧ Xc.cell? ⟨b1, 1, none⟩ = some (.slice (some ⟨g, o, none⟩) ks.length cap)) := ⟨(World.cell?_of_block (w := w2) (w' := Xc) (a := ⟨b1, 0, none⟩) (hB2c.block b1 (by omega))).trans c0, (World.cell?_of_block (w := w2) (w' := Xc) (a := ⟨b1, 1, none⟩) (hB2c.block b1 (by omega))).trans c1⟩
      refine hK.out _ _ hHc (fun _ => ?_)
      try go_frame
      refine takeW 14 31 (.agg #[.int .i64 n, .slice a5 n5 k5]) rfl (by kernel_rfl) (by kernel_rfl) (by kernel_rfl) (fun _ _ _ h => h) (by kernel_rfl) (fun w' hS => by go_simp) hHc ?_
      go_frame
      refine wpAnyH_ready (rs := [15]) (by kernel_rfl) (by simp) ?_
      refine AllReadyH.cons rfl (fun K hK => ?_) AllReadyH.nil
      refine step_store_v rfl 27 _ _ rfl b2 [.int .i64 n, .slice a5 n5 k5] rfl rfl sizeSp (hV2.of (hB2c.block b2 (by omega))) rfl (by simp [Value.oneCell']) ?_
      intro w9 hO9 hV9
      have hz9 := hO9.1
      refine hK.out _ _ ⟨(World.cell?_of_block (w := Xc) (w' := w9) (a := ⟨b1, 0, none⟩) (hO9.2.1 b1 (by omega))).trans hHc.1, (World.cell?_of_block (w := Xc) (w' := w9) (a := ⟨b1, 1, none⟩) (hO9.2.1 b1 (by omega))).trans hHc.2⟩ (fun _ => ?_)
      refine wpAnyH_done (by kernel_rfl) ?_ _
      go_wp2
      exact row_retv rfl rfl hV9 Try.underlying27 sizeSp rfl ⟨_, rfl, (ho5.keep fun j j1 j2 => hO9.2.1 j (by omega)).wide (by omega) (by omega), (hB12.trans (hB2c.mono (by omega))).trans (hO9.2.2 _ (by omega))⟩
    · obtain rfl : cap = p := by omega
      have hl0 : ks.length = cap := by omega
      replace hdl : (ks.drop cap).length = 0 := by omega
      have RD : RdS w2 hi (.slice (some ⟨g, o, none⟩) 0 0) (ks.drop cap) := by
        have e2 : ks.drop cap = [] := List.drop_eq_nil_of_le (by omega)
        refine ⟨g, o, 0, by rw [hdl], by rw [e2]; simp, Nat.zero_le _, hgh, by rw [e2]; intro j u hj; simp [ivs] at hj⟩
      refine wp_region_held_drew (S := fun w' => (w'.cell? ⟨b1, 0, none⟩ = some (.int .i64 n) ∧ w'.cell? ⟨b1, 1, none⟩ = some (.slice (some ⟨g, o, none⟩) ks.length cap))) (by kernel_rfl) ⟨c0, c1⟩ (fun hHeld => ?_)
      refine takeW 0 17 (.pointer (some ⟨b1, 0, none⟩)) rfl (by kernel_rfl) (by kernel_rfl) (by kernel_rfl) (fun _ _ _ h => h) (by kernel_rfl) (fun w' hS => by go_simp) hHeld ?_
      go_frame
      refine takeW 1 18 (.int .i64 n) rfl (by kernel_rfl) (by kernel_rfl) (by kernel_rfl) (fun _ _ _ h => h) (by kernel_rfl) (fun w' hS => by have z := hS.1; go_simp) hHeld ?_
      go_frame
      refine takeW 2 19 (.pointer (some ⟨b1, 1, none⟩)) rfl (by kernel_rfl) (by kernel_rfl) (by kernel_rfl) (fun _ _ _ h => h) (by kernel_rfl) (fun w' hS => by go_simp) hHeld ?_
      go_frame
      refine takeW 3 20 (.slice (some ⟨g, o, none⟩) ks.length cap) rfl (by kernel_rfl) (by kernel_rfl) (by kernel_rfl) (fun _ _ _ h => h) (by kernel_rfl) (fun w' hS => by have z := hS.2; go_simp) hHeld ?_
      go_frame
      refine takeW 4 21 (.int .i64 (cap : Int)) rfl (by kernel_rfl) (by kernel_rfl) (by kernel_rfl) (fun _ _ _ h => h) (by kernel_rfl) (fun w' hS => by go_simp) hHeld ?_
      go_frame
      refine takeW 5 22 (.slice (some ⟨g, o, none⟩) cap cap) rfl (by kernel_rfl) (by kernel_rfl) (by kernel_rfl) (fun _ _ _ h => h) (by kernel_rfl) (fun w' hS => by go_simp) hHeld ?_
      go_frame
      refine takeW 6 23 (.int .i64 key) rfl (by kernel_rfl) (by kernel_rfl) (by kernel_rfl) (fun _ _ _ h => h) (by kernel_rfl) (fun w' hS => by go_simp) hHeld ?_
      go_frame
      refine takeW 8 25 (.pointer (some ⟨b1, 1, none⟩)) rfl (by kernel_rfl) (by kernel_rfl) (by kernel_rfl) (fun _ _ _ h => h) (by kernel_rfl) (fun w' hS => by go_simp) hHeld ?_
      go_frame
      refine takeW 9 26 (.slice (some ⟨g, o, none⟩) ks.length cap) rfl (by kernel_rfl) (by kernel_rfl) (by kernel_rfl) (fun _ _ _ h => h) (by kernel_rfl) (fun w' hS => by have z := hS.2; go_simp) hHeld ?_
      go_frame
      refine takeW 10 27 (.int .i64 (cap : Int)) rfl (by kernel_rfl) (by kernel_rfl) (by kernel_rfl) (fun _ _ _ h => h) (by kernel_rfl) (fun w' hS => by go_simp) hHeld ?_
      go_frame
      refine takeW 11 28 (.slice (some ⟨g, o, none⟩) (0) (0)) rfl (by kernel_rfl) (by kernel_rfl) (by kernel_rfl) (fun _ _ _ h => h) (by kernel_rfl) (fun w' hS => by go_simp; try (intro hq; omega)) hHeld ?_
      go_frame
      have hBX : Below w2.heap.size w2 w2.drew := (Below.refl _ _).drew
      refine wpAnyH_ready (rs := [7]) (by kernel_rfl) (by simp) ?_
      refine AllReadyH.cons rfl (fun K hK => ?_) AllReadyH.nil
      go_simp
      obtain ⟨Xa, hXa⟩ : ∃ Y, (w2.alloc (.cells #[.int .i64 key] 2)).drew = Y := ⟨_, rfl⟩
      have hBa : Below w2.heap.size w2 Xa := by rw [← hXa]; exact ((Below.refl _ _).alloc (Nat.le_refl _) _).drew
      have hza : Xa.heap.size = w2.heap.size + 1 := by rw [← hXa]; simp
      have hVa : VBlk Xa w2.heap.size 2 (ivs [key]) := by rw [← hXa]; exact heap_alloc_new _ _
      rw [hXa]
      have hHa : (Xa.cell? ⟨b1, 0, none⟩ = some (.int .i64 n) ∧ Xa.cell? ⟨b1, 1, none⟩ = some (.slice (some ⟨g, o, none⟩) ks.length cap)) := ⟨(World.cell?_of_block (w := w2) (w' := Xa) (a := ⟨b1, 0, none⟩) (hBa.block b1 (by omega))).trans c0, (World.cell?_of_block (w := w2) (w' := Xa) (a := ⟨b1, 1, none⟩) (hBa.block b1 (by omega))).trans c1⟩
      refine hK.out _ _ hHa (fun _ => ?_)
      try go_frame
      refine wpAnyH_ready (rs := [12]) (by kernel_rfl) (by simp) ?_
      refine AllReadyH.cons rfl (fun K hK => ?_) AllReadyH.nil
      go_simp
      obtain ⟨Xb, hXb⟩ : ∃ Y, Xa.alloc (.cells #[.slice (some ⟨g, o, none⟩) cap cap, .slice (some ⟨w2.heap.size, 0, none⟩) 1 1, .slice (some ⟨g, o, none⟩) (0) (0)] 22) = Y := ⟨_, rfl⟩
      have hBb : Below Xa.heap.size Xa Xb := by rw [← hXb]; exact (Below.refl _ _).alloc (Nat.le_refl _) _
      have hzb : Xb.heap.size = Xa.heap.size + 1 := by rw [← hXb]; simp
      have hB2b : Below w2.heap.size w2 Xb := hBa.trans (hBb.mono (by omega))
      have hVb : VBlk Xb Xa.heap.size 22 [.slice (some ⟨g, o, none⟩) cap cap, .slice (some ⟨w2.heap.size, 0, none⟩) 1 1, .slice (some ⟨g, o, none⟩) (0) (0)] := by rw [← hXb]; exact heap_alloc_new _ _
      rw [hXb]
      have hHb : (Xb.cell? ⟨b1, 0, none⟩ = some (.int .i64 n) ∧ Xb.cell? ⟨b1, 1, none⟩ = some (.slice (some ⟨g, o, none⟩) ks.length cap)) := ⟨(World.cell?_of_block (w := w2) (w' := Xb) (a := ⟨b1, 0, none⟩) (hB2b.block b1 (by omega))).trans c0, (World.cell?_of_block (w := w2) (w' := Xb) (a := ⟨b1, 1, none⟩) (hB2b.block b1 (by omega))).trans c1⟩
      refine hK.out _ _ hHb (fun _ => ?_)
      try go_frame
      refine wpAnyH_ready (rs := [13]) (by kernel_rfl) (by simp) ?_
      refine AllReadyH.cons rfl (fun K hK => ?_) AllReadyH.nil
      go_simp
      go_at_call 89
      have hcat := cat3 ks key g o cap w2.heap.size g (o) (0) cap
      refine (concat_any [⟨g, o, cap, ks.take cap⟩, ⟨w2.heap.size, 0, 1, [key]⟩, ⟨g, o, 0, ks.drop cap⟩] (by simp) (by rw [hcat, List.length_append, List.length_cons]; omega) (by rw [hcat, List.length_append, List.length_cons, htl, hdl]; omega) (w2.heap.size + 1) Xb.heap.size Xb (Nat.le_refl _) (by rw [hza] at hVb; simpa [Sl.val, htl, hdl] using hVb) ?rds).mono ?_
      case rds =>
        intro s hs
        simp only [List.mem_cons, List.not_mem_nil, or_false] at hs
        rcases hs with rfl | rfl | rfl
        · have := (((R.out.below hB12 hh).take cap hpl).below hB2b (by omega)).wide (hi' := Xb.heap.size) (by omega)
          simpa [Sl.val, htl] using this
        · exact ⟨w2.heap.size, 0, 1, rfl, by simp, by unfold maxLen; omega, by show w2.heap.size < Xb.heap.size; omega, (hVa.of (hBb.block _ (by omega))).range⟩
        · have := (RD.below hB2b (by omega)).wide (hi' := Xb.heap.size) (by omega)
          simpa [Sl.val, hdl] using this
      rw [hcat]
      rintro er Xc ⟨v5, rfl, ho5, hBY⟩
      obtain ⟨a5, n5, k5, rfl⟩ := own_slice ho5
      have hzY : Xb.heap.size ≤ Xc.heap.size := hBY.size
      have hB2c : Below w2.heap.size w2 Xc := hB2b.trans (hBY.mono (by omega))
      have hHc : (Xc.cell? ⟨b1, 0, none⟩ = some (.int .i64 n) ∧ Xc.cell? ⟨b1, 1, none⟩ = some (.slice (some ⟨g, o, none⟩) ks.length cap)) := ⟨(World.cell?_of_block (w := w2) (w' := Xc) (a := ⟨b1, 0, none⟩) (hB2c.block b1 (by omega))).trans c0, (World.cell?_of_block (w := w2) (w' := Xc) (a := ⟨b1, 1, none⟩) (hB2c.block b1 (by omega))).trans c1⟩
      refine hK.out _ _ hHc (fun _ => ?_)
      try go_frame
      refine takeW 14 31 (.agg #[.int .i64 n, .slice a5 n5 k5]) rfl (by kernel_rfl) (by kernel_rfl) (by kernel_rfl) (fun _ _ _ h => h) (by kernel_rfl) (fun w' hS => by go_simp) hHc ?_
      go_frame
      refine wpAnyH_ready (rs := [15]) (by kernel_rfl) (by simp) ?_
      refine AllReadyH.cons rfl (fun K hK => ?_) AllReadyH.nil
      refine step_store_v rfl 27 _ _ rfl b2 [.int .i64 n, .slice a5 n5 k5] rfl rfl sizeSp (hV2.of (hB2c.block b2 (by omega))) rfl (by simp [Value.oneCell']) ?_
      intro w9 hO9 hV9
      have hz9 := hO9.1
      refine hK.out _ _ ⟨(World.cell?_of_block (w := Xc) (w' := w9) (a := ⟨b1, 0, none⟩) (hO9.2.1 b1 (by omega))).trans hHc.1, (World.cell?_of_block (w := Xc) (w' := w9) (a := ⟨b1, 1, none⟩) (hO9.2.1 b1 (by omega))).trans hHc.2⟩ (fun _ => ?_)
      refine wpAnyH_done (by kernel_rfl) ?_ _
      go_wp2
      exact row_retv rfl rfl hV9 Try.underlying27 sizeSp rfl ⟨_, rfl, (ho5.keep fun j j1 j2 => hO9.2.1 j (by omega)).wide (by omega) (by omega), (hB12.trans (hB2c.mono (by omega))).trans (hO9.2.2 _ (by omega))⟩
end Go.Proofs.Ytbialeffdpmcjaa.sx
