/- Contracts: the program's inChain and walkable. -/
import Derived.Test.YtnjeepmbkogaeaaIt3
import Derived.Test.YtnjeepmbkogaeaaHdMath2
namespace Go.Proofs.Ytnjeepmbkogaeaa.it
open Go.RowKit Go.Shelf Go.Proofs.Ytnjeepmbkogaeaa.ce
set_option linter.unusedVariables false
attribute [local go_sem] Oper.semAt_some

theorem boxed_below {W W' : World} {n B : Nat} {t : TypeId} {v : Value} (h : Boxed W B t v) (hb : Below n W W') (hn : B < n) : Boxed W' B t v := (hb.block B hn).trans h

set_option maxRecDepth 100000 in
set_option maxHeartbeats 2000000 in
theorem inChain_any (H : List C) (hok : heapOk H) (p : Int) (v : Value) (hi : Nat) (w : World) (hh : hi ≤ w.heap.size) (r : Rd w hi v H) :
    Calls Try.prog 65 #[v, .int .i64 p] w fun e w' => e = .returned (.bool (decide (p ∈ chain H))) ∧ Below w.heap.size w w' := by
  obtain ⟨a, cap, rfl⟩ := r.form
  have R : Hid (Rd w hi (.slice a H.length cap) H) := r
  clear r
  obtain ⟨z, hz⟩ := hid_ex (decide (p ∈ chain H))
  rw [hz.out]
  have h2 : H.length ≤ 1048576 := by have := hok.1.2; omega
  have U : Hid (Up H) := up_ok hok
  clear hok
  have hB0 : Below w.heap.size w ((w.alloc (.cells #[.int .i64 p] 2)).alloc (.cells #[.bool false] 4)) := ((Below.refl _ w).alloc (Nat.le_refl _) _).alloc (by simp) _
  have bK := (Boxed.new w 2 (.int .i64 p)).alloc (.cells #[.bool false] 4)
  have bT := Boxed.new (w.alloc (.cells #[.int .i64 p] 2)) 4 (.bool false)
  simp only [World.size_alloc] at bT
  have bH := Boxed.new ((w.alloc (.cells #[.int .i64 p] 2)).alloc (.cells #[.bool false] 4)) T1 (.slice a H.length cap)
  simp only [World.size_alloc] at bH
  replace bK := bK.alloc (.cells #[.slice a H.length cap] T1)
  replace bT := bT.alloc (.cells #[.slice a H.length cap] T1)
  have hB2 : Below w.heap.size w (((w.alloc (.cells #[.int .i64 p] 2)).alloc (.cells #[.bool false] 4)).alloc (.cells #[.slice a H.length cap] T1)) := hB0.alloc (by simp; omega) _
  refine (callsIn_wide (n := 3)).1 ?_
  refine callsIn_of_wp_marks Try.func65 rfl trivial ?_ rfl
  simp only [Try.ntmps65, List.size_toArray, List.length_cons, List.length_nil, Nat.reduceAdd, Nat.reduceSub, Array.replicate_succ, Array.replicate_zero, List.push_toArray, List.append_toArray, List.nil_append, List.cons_append]
  gi_wp2_with (first | (refine ⟨trivial, ?_⟩; gi_at_call 78; refine (callsIn_wide.2 (chained_any _ _ _ _ rfl _)).mono ?_; rintro e w2 ⟨rfl, rfl⟩) | (fail))
  obtain ⟨W0, hW0⟩ : ∃ W0, ((w.alloc (.cells #[.int .i64 p] 2)).alloc (.cells #[.bool false] 4)).alloc (.cells #[.slice a H.length cap] T1) = W0 := ⟨_, rfl⟩
  have hsz : W0.heap.size = w.heap.size + 1 + 1 + 1 := by rw [← hW0]; simp
  rw [hW0] at bK bT bH hB2 ⊢
  refine range_law 3 (w := W0) (gf := 86) (lb := #[.pointer (some ⟨w.heap.size + 1 + 1, 0, none⟩)]) rfl (enters_of Try.func86 (by kernel_rfl) rfl)
    (chained1_seq H U.out h2 _ hi w.heap.size (w.heap.size + 1 + 1) W0 (by omega) hh bH (R.out.below hB2 hh) 2) (by omega) (Below.refl _ _) (fun _ => rfl)
    (fun pre W => (p ∉ pre.map Prod.fst ∧ Boxed W w.heap.size 2 (.int .i64 p) ∧ Boxed W (w.heap.size + 1) 4 (.bool false)) ∧ Below w.heap.size w W)
    (fun pre W => (p ∈ pre.map Prod.fst ∧ Boxed W (w.heap.size + 1) 4 (.bool true)) ∧ Below w.heap.size w W)
    (OwnFrom.and (Own.from (fun s X Y row hs hg hr => ⟨hs.1, boxed_own _ _ (fun _ : List (Int × C) => Value.int .i64 p) s X Y row hs.2.1 hg hr, boxed_own _ _ (fun _ : List (Int × C) => Value.bool false) s X Y row hs.2.2 hg hr⟩) _) (ownFrom_below (Nat.le_refl _) (by omega)))
    (OwnFrom.and (Own.from (fun s X Y row hs hg hr => ⟨hs.1, boxed_own _ _ (fun _ : List (Int × C) => Value.bool true) s X Y row hs.2 hg hr⟩) _) (ownFrom_below (Nat.le_refl _) (by omega)))
    ⟨⟨by simp, bK, bT⟩, hB2⟩ ?round ?done ?stop
  case round =>
    rintro l pre x rest W hx hlt -
    obtain ⟨q, k, u, n, g⟩ := x
    dsimp only [encL]
    gi_wp2
    refine ⟨grown_refl _, ?_⟩
    rintro Wb - - ⟨⟨hno, hk, ht⟩, hB⟩
    have hkc := hk.cell
    have htf := ht.frozen
    have htc := ht.cell
    by_cases hke : q = p
    · have hkb : (q == p) = true := by simpa using hke
      gi_wp2
      exact ⟨(KeepsOthers.setCell _ _ _).from _, ⟨by simp [hke], ht.set _⟩, hB.setCell (p := ⟨w.heap.size + 1, 0, none⟩) (by simp) _⟩
    · have hkb : (q == p) = false := by simpa using hke
      gi_wp2
      refine ⟨KeepsFrom.refl _ _, Kp.refl _, ⟨?_, hk, ht⟩, hB⟩
      rw [List.map_append, List.mem_append]
      rintro (h | h)
      · exact hno h
      · simp at h; exact hke h.symm
  case done =>
    rintro D W hD ⟨⟨hno, hk, ht⟩, hB⟩ hK
    have ey : Hid (z = false) := by unfold Hid; rw [← hz.out]; rw [links_fst] at hno; exact decide_eq_false hno
    have htc := ht.cell
    have htf := ht.frozen
    have hK' := (KeepsOthers.setCell W ⟨w.heap.size + 1, 0, none⟩ (.bool false)).same D _ hK rfl
    gi_wp2
    refine ⟨by simp, .inl ⟨_, _, rfl, run_takeDeferred hK', ?_⟩⟩
    have hc6 := ((boxed_own _ _ (fun _ : Unit => Value.bool false)).putObj (s := ()) (.deferred none) (ht.set (.bool false)) hK' rfl).cell
    refine ⟨.bool false, ?_, by rw [ey.out], below_put _ (hB.setCell (p := ⟨w.heap.size + 1, 0, none⟩) (by simp) _) (by omega) hK'⟩
    simp [results, Try.f65, go_sem, hc6]
  case stop =>
    rintro D pre rest W hx hD ⟨⟨hin, ht⟩, hB⟩ hK
    have ey : Hid (z = true) := by
      unfold Hid; rw [← hz.out]
      have := congrArg (List.map Prod.fst) hx
      rw [links_fst, List.map_append] at this
      exact decide_eq_true (by rw [this]; exact List.mem_append_left _ hin)
    gi_wp2
    refine ⟨by simp, .inl ⟨_, _, rfl, run_takeDeferred hK, ?_⟩⟩
    have hc6 := ((boxed_own _ _ (fun _ : Unit => Value.bool true)).putObj (s := ()) (.deferred none) ht hK rfl).cell
    refine ⟨.bool true, ?_, by rw [ey.out], below_put _ hB (by omega) hK⟩
    simp [results, Try.f65, go_sem, hc6]
end Go.Proofs.Ytnjeepmbkogaeaa.it
