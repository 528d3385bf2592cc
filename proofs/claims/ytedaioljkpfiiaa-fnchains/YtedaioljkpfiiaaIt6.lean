/- Contract: the program's ValueAt. -/
import Derived.Test.YtedaioljkpfiiaaIt5
namespace Go.Proofs.Ytedaioljkpfiiaa.it
open Go.RowKit Go.Shelf Go.Proofs.Ytedaioljkpfiiaa.ce
set_option linter.unusedVariables false
attribute [local go_sem] Oper.semAt_some

theorem Boxed.below {W W' : World} {n B : Nat} {t : TypeId} {v : Value} (h : Boxed W B t v) (hb : Below n W W') (hn : B < n) : Boxed W' B t v := (hb.block B hn).trans h
theorem findC_none {key : Int} {xs : List C} (h : ∀ c ∈ xs, c.key ≠ key) : xs.find? (fun c => c.key == key) = none := List.find?_eq_none.2 fun c hc => by simpa using h c hc
theorem findC_some {key : Int} {pre rest : List C} {c : C} (h : ∀ x ∈ pre, x.key ≠ key) (hc : c.key = key) : (pre ++ c :: rest).find? (fun c => c.key == key) = some c := by
  rw [List.find?_append, findC_none h]
  simp [hc]

set_option maxRecDepth 100000 in
set_option maxHeartbeats 2000000 in
theorem implValueAt_any (H : List C) (key : Int) (v : Value) (hi : Nat) (w : World) (hh : hi ≤ w.heap.size) (r : Rd w hi v H) :
    Calls Try.prog 20 #[v, .int .i64 key] w fun e w' => e = .returned (.tuple #[.int .i64 (valueL H key).1, .bool (valueL H key).2]) ∧ Below w.heap.size w w' := by
  obtain ⟨a, cap, rfl⟩ := r.form
  have R : Hid (Rd w hi (.slice a H.length cap) H) := r
  clear r
  have hB0 : Below w.heap.size w (((w.alloc (.cells #[.int .i64 key] 2)).alloc (.cells #[.int .i64 0] 2)).alloc (.cells #[.bool false] 4)) := (((Below.refl _ w).alloc (Nat.le_refl _) _).alloc (by simp) _).alloc (by simp; omega) _
  have bK := ((Boxed.new w 2 (.int .i64 key)).alloc (.cells #[.int .i64 0] 2)).alloc (.cells #[.bool false] 4)
  have bV := (Boxed.new (w.alloc (.cells #[.int .i64 key] 2)) 2 (.int .i64 0)).alloc (.cells #[.bool false] 4)
  have bT := Boxed.new ((w.alloc (.cells #[.int .i64 key] 2)).alloc (.cells #[.int .i64 0] 2)) 4 (.bool false)
  simp only [World.size_alloc] at bV bT
  have hs0 : (((w.alloc (.cells #[.int .i64 key] 2)).alloc (.cells #[.int .i64 0] 2)).alloc (.cells #[.bool false] 4)).heap.size = w.heap.size + 1 + 1 + 1 := by simp
  by_cases hok : heapOk H
  · have HK : Hid (decide (heapOk H) = true) := decide_eq_true hok
    have eL : Hid (valueL H key = valueAt H key) := if_pos hok
    rw [eL.out]
    have h2 : H.length ≤ 1048576 := by have := hok.1.2; omega
    have U : Hid (Up H) := up_ok hok
    clear hok
    have hs0' : Hid ((((w.alloc (.cells #[.int .i64 key] 2)).alloc (.cells #[.int .i64 0] 2)).alloc (.cells #[.bool false] 4)).heap.size = w.heap.size + 1 + 1 + 1) := hs0
    clear hs0
    refine (callsIn_wide (n := 5)).1 ?_
    refine callsIn_of_wp_marks Try.func20 rfl trivial ?_ rfl
    simp only [Try.ntmps20, List.size_toArray, List.length_cons, List.length_nil, Nat.reduceAdd, Nat.reduceSub, Array.replicate_succ, Array.replicate_zero, List.push_toArray, List.append_toArray, List.nil_append, List.cons_append]
    gi_wp2_with (first | (refine ⟨trivial, ?_⟩; gi_at_call 32; refine (callsIn_wide.2 (implHeapOk_any H _ hi _ (by rw [hs0'.out]; omega) (R.out.below hB0 hh))).mono ?_; rintro e w1 ⟨rfl, hB1⟩; rw [HK.out]; rw [hs0'.out] at hB1; have hz1 : w.heap.size + 1 + 1 + 1 ≤ w1.heap.size := (by have := hB1.size; rw [hs0'.out] at this; exact this)) | (refine ⟨trivial, ?_⟩; gi_at_call 36; refine (callsIn_wide.2 (living_any _ _ _ _ rfl _)).mono ?_; rintro e w2 ⟨rfl, rfl⟩) | (fail))
    replace bK := Boxed.below bK hB1 (by omega)
    replace bV := Boxed.below bV hB1 (by omega)
    replace bT := Boxed.below bT hB1 (by omega)
    have hBw : Below w.heap.size w w1 := hB0.trans (hB1.mono (by omega))
    have bH := Boxed.new w1 T1 (.slice a H.length cap)
    replace bK := bK.alloc (.cells #[.slice a H.length cap] T1)
    replace bV := bV.alloc (.cells #[.slice a H.length cap] T1)
    replace bT := bT.alloc (.cells #[.slice a H.length cap] T1)
    have hB2 : Below w.heap.size w (w1.alloc (.cells #[.slice a H.length cap] T1)) := hBw.alloc (by omega) _
    obtain ⟨W0, hW0⟩ : ∃ W0, w1.alloc (.cells #[.slice a H.length cap] T1) = W0 := ⟨_, rfl⟩
    have hsz : W0.heap.size = w1.heap.size + 1 := by rw [← hW0]; simp
    rw [hW0] at bK bV bT bH hB2 ⊢
    refine range_law 5 (w := W0) (gf := 45) (lb := #[.pointer (some ⟨w1.heap.size, 0, none⟩)]) rfl (enters_of Try.func45 (by kernel_rfl) rfl)
      (living1_seq H U.out h2 _ hi w.heap.size w1.heap.size W0 (by omega) hh bH (R.out.below hB2 hh) 4 (by omega)) (by omega) (Below.refl _ _) (fun _ => rfl)
      (fun pre W => ((∀ c ∈ pre, c.key ≠ key) ∧ Boxed W w.heap.size 2 (.int .i64 key) ∧ Boxed W (w.heap.size + 1) 2 (.int .i64 0) ∧ Boxed W (w.heap.size + 1 + 1) 4 (.bool false)) ∧ Below w.heap.size w W)
      (fun pre W => (∃ A c, pre = A ++ [c] ∧ (∀ x ∈ A, x.key ≠ key) ∧ c.key = key ∧ Boxed W (w.heap.size + 1) 2 (.int .i64 c.value) ∧ Boxed W (w.heap.size + 1 + 1) 4 (.bool true)) ∧ Below w.heap.size w W)
      (OwnFrom.and (Own.from (fun s X Y row hs hg hr => ⟨hs.1, boxed_own _ _ (fun _ : List C => Value.int .i64 key) s X Y row hs.2.1 hg hr, boxed_own _ _ (fun _ : List C => Value.int .i64 0) s X Y row hs.2.2.1 hg hr, boxed_own _ _ (fun _ : List C => Value.bool false) s X Y row hs.2.2.2 hg hr⟩) _) (ownFrom_below (Nat.le_refl _) (by omega)))
      (OwnFrom.and (Own.from (fun s X Y row hs hg hr => by
        obtain ⟨A, c, e, h1, h2, h3, h4⟩ := hs
        exact ⟨A, c, e, h1, h2, boxed_own _ _ (fun _ : List C => Value.int .i64 c.value) s X Y row h3 hg hr, boxed_own _ _ (fun _ : List C => Value.bool true) s X Y row h4 hg hr⟩) _) (ownFrom_below (Nat.le_refl _) (by omega)))
      ⟨⟨by simp, bK, bV, bT⟩, hB2⟩ ?round ?done ?stop
    case round =>
      rintro l pre x rest W hx hlt -
      obtain ⟨k, z, n, g⟩ := x
      dsimp only [encC]
      gi_wp2
      refine ⟨World.grownBy_alloc W _ none, ?_⟩
      rintro Wb - hsame ⟨⟨hno, hk, hv, ht⟩, hB⟩
      have hV : VBlk Wb W.heap.size 45 [.int .i64 k, .int .i64 z, .int .i64 n, .bool g] := (hsame _ (by omega)).trans (heap_alloc_new _ _)
      have c0 := hV.cell 0 (by simp)
      have c1 := hV.cell 1 (by simp)
      simp only [List.getElem_cons_zero, List.getElem_cons_succ] at c0 c1
      clear hsame
      have hkc := hk.cell
      have hvc := hv.cell
      have hvf := hv.frozen
      by_cases hke : k = key
      · have hkb : (k == key) = true := by simpa using hke
        have ht2 := ht.other (B' := w.heap.size + 1) (by omega) (.int .i64 z)
        have htc := ht2.cell
        have htf := ht2.frozen
        gi_wp2
        exact ⟨((KeepsOthers.setCell _ _ _).trans (KeepsOthers.setCell _ _ _)).from _, ⟨pre, ⟨k, z, n, g⟩, rfl, hno, hke, (hv.set _).other (by omega) _, ht2.set _⟩, (hB.setCell (p := ⟨w.heap.size + 1, 0, none⟩) (by simp) _).setCell (p := ⟨w.heap.size + 1 + 1, 0, none⟩) (by simp; omega) _⟩
      · have hkb : (k == key) = false := by simpa using hke
        gi_wp2
        refine ⟨KeepsFrom.refl _ _, Kp.refl _, ⟨fun c hc => ?_, hk, hv, ht⟩, hB⟩
        rcases List.mem_append.1 hc with hc | hc
        · exact hno c hc
        · rw [List.mem_singleton.1 hc]; exact hke
    case done =>
      rintro D W hD ⟨⟨hno, hk, hv, ht⟩, hB⟩ hK
      have ey : Hid (valueAt H key = (0, false)) := by unfold Hid; rw [lives_value U.out, findC_none hno]
      have ht2 := ht.other (B' := w.heap.size + 1) (by omega) (.int .i64 0)
      have hvc := hv.cell
      have hvf := hv.frozen
      have htc := ht2.cell
      have htf := ht2.frozen
      have hK' := ((KeepsOthers.setCell W ⟨w.heap.size + 1, 0, none⟩ (.int .i64 0)).trans (KeepsOthers.setCell _ ⟨w.heap.size + 1 + 1, 0, none⟩ (.bool false))).same D _ hK rfl
      gi_wp2
      refine ⟨by simp, .inl ⟨_, _, rfl, run_takeDeferred hK', ?_⟩⟩
      have hc5 := ((boxed_own _ _ (fun _ : Unit => Value.int .i64 0)).putObj (s := ()) (.deferred none) ((hv.set (.int .i64 0)).other (B' := w.heap.size + 1 + 1) (by omega) (.bool false)) hK' rfl).cell
      have hc6 := ((boxed_own _ _ (fun _ : Unit => Value.bool false)).putObj (s := ()) (.deferred none) (ht2.set (.bool false)) hK' rfl).cell
      refine ⟨.tuple #[.int .i64 0, .bool false], ?_, by rw [ey.out], below_put _ ((hB.setCell (p := ⟨w.heap.size + 1, 0, none⟩) (by simp) _).setCell (p := ⟨w.heap.size + 1 + 1, 0, none⟩) (by simp; omega) _) (by omega) hK'⟩
      simp [results, Try.f20, go_sem, hc5, hc6]
    case stop =>
      rintro D pre rest W hx hD ⟨⟨A, c, rfl, hno, hc, hv, ht⟩, hB⟩ hK
      have ey : Hid (valueAt H key = (c.value, true)) := by unfold Hid; rw [lives_value U.out, hx, List.append_assoc, List.singleton_append, findC_some hno hc]
      gi_wp2
      refine ⟨by simp, .inl ⟨_, _, rfl, run_takeDeferred hK, ?_⟩⟩
      have hc5 := ((boxed_own _ _ (fun _ : Unit => Value.int .i64 c.value)).putObj (s := ()) (.deferred none) hv hK rfl).cell
      have hc6 := ((boxed_own _ _ (fun _ : Unit => Value.bool true)).putObj (s := ()) (.deferred none) ht hK rfl).cell
      refine ⟨.tuple #[.int .i64 c.value, .bool true], ?_, by rw [ey.out], below_put _ hB (by omega) hK⟩
      simp [results, Try.f20, go_sem, hc5, hc6]
  · have HK : Hid (decide (heapOk H) = false) := decide_eq_false hok
    have eL : Hid (valueL H key = (0, false)) := if_neg hok
    rw [eL.out]
    clear hok
    have hs0' : Hid ((((w.alloc (.cells #[.int .i64 key] 2)).alloc (.cells #[.int .i64 0] 2)).alloc (.cells #[.bool false] 4)).heap.size = w.heap.size + 1 + 1 + 1) := hs0
    clear hs0
    refine (callsIn_wide (n := 5)).1 ?_
    refine callsIn_of_wp_marks Try.func20 rfl trivial ?_ rfl
    simp only [Try.ntmps20, List.size_toArray, List.length_cons, List.length_nil, Nat.reduceAdd, Nat.reduceSub, Array.replicate_succ, Array.replicate_zero, List.push_toArray, List.append_toArray, List.nil_append, List.cons_append]
    gi_wp2_with (first | (refine ⟨trivial, ?_⟩; gi_at_call 32; refine (callsIn_wide.2 (implHeapOk_any H _ hi _ (by rw [hs0'.out]; omega) (R.out.below hB0 hh))).mono ?_; rintro e w1 ⟨rfl, hB1⟩; rw [HK.out]; rw [hs0'.out] at hB1; replace bV := Boxed.below bV hB1 (by omega); replace bT := Boxed.below bT hB1 (by omega); have hvc := bV.cell; have hvf := bV.frozen; have ht2 := bT.other (B' := w.heap.size + 1) (by omega) (.int .i64 0); have htc := ht2.cell; have htf := ht2.frozen) | (fail))
    have hBw : Below w.heap.size w w1 := hB0.trans (hB1.mono (by omega))
    have hc5 := ((bV.set (.int .i64 0)).other (B' := w.heap.size + 1 + 1) (by omega) (.bool false)).cell
    have hc6 := (ht2.set (.bool false)).cell
    refine ⟨.tuple #[.int .i64 0, .bool false], ?_, rfl, (hBw.setCell (p := ⟨w.heap.size + 1, 0, none⟩) (by simp) _).setCell (p := ⟨w.heap.size + 1 + 1, 0, none⟩) (by simp; omega) _⟩
    simp [results, Try.f20, go_sem, hc5, hc6]
end Go.Proofs.Ytedaioljkpfiiaa.it
