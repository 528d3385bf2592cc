/- Contracts: the program's Living and ValueAt. -/
import Derived.Test.YtedaioljkpfiiaaIt4
namespace Go.Proofs.Ytedaioljkpfiiaa.it
open Go.RowKit Go.Shelf Go.Proofs.Ytedaioljkpfiiaa.ce
set_option linter.unusedVariables false
attribute [local go_sem] Oper.semAt_some

theorem livesOf_links (H : List C) : ∀ L : List Int, 0 ∉ L → livesOf (links H L) = (L.filter fun x => !(nth H x).gone).map (nth H)
  | [], _ => rfl
  | y :: L, h => by
    have hy : y ≠ 0 := fun e => h (by rw [e]; exact List.mem_cons_self)
    have ih := livesOf_links H L (fun hm => h (List.mem_cons_of_mem _ hm))
    unfold livesOf links at ih ⊢
    cases hg : (nth H y).gone with
    | true => simpa [hy, hg] using ih
    | false => simpa [hy, hg] using ih
theorem lives_eq {H : List C} (u : Up H) {M : List Int} (hM : chain H = 0 :: M) : lives H = (M.filter fun x => !(nth H x).gone).map (nth H) := by
  have hn : (chain H).Nodup := pairwise_ne (ch_rises u (.inr (has_zero u)) (chain_ch u)).2
  rw [hM] at hn
  have h0 : 0 ∉ M := (List.nodup_cons.1 hn).1
  unfold lives
  rw [hM, ← livesOf_links H M h0]
  simp [links, livesOf]
theorem lives_keys {H : List C} (u : Up H) : (lives H).map C.key = living H := by
  obtain ⟨M, hM, -⟩ := chain_head u
  rw [lives_eq u hM]
  unfold living
  rw [hM]
  simp [List.map_map, Function.comp_def]
theorem lives_value {H : List C} (u : Up H) (key : Int) : valueAt H key = match (lives H).find? (fun c => c.key == key) with | some c => (c.value, true) | none => (0, false) := by
  obtain ⟨M, hM, -⟩ := chain_head u
  rw [lives_eq u hM, valueAt_find hM, List.find?_map, List.find?_filter]
  have e2 : (M.find? fun a => decide ((!(nth H a).gone) = true ∧ ((fun c : C => c.key == key) ∘ nth H) a = true)) = M.find? (hit H key) := by
    congr 1
    funext a
    simp [hit]
    rfl
  rw [e2]
  cases M.find? (hit H key) <;> rfl
theorem lives_len {H : List C} (u : Up H) : (lives H).length ≤ 65536 := by
  have h1 := chain_len u
  have h2 : (lives H).length ≤ (chain H).length := by
    unfold lives livesOf
    rw [List.length_map]
    refine Nat.le_trans (List.length_filter_le _ _) ?_
    simp [links]
  omega

set_option maxRecDepth 100000 in
set_option maxHeartbeats 2000000 in
theorem implLiving_any (H : List C) (v : Value) (hi : Nat) (w : World) (hh : hi ≤ w.heap.size) (r : Rd w hi v H) :
    Calls Try.prog 18 #[v] w fun e w' => ∃ v', e = .returned v' ∧ OwnI w' w.heap.size w'.heap.size v' (livingL H) ∧ Below w.heap.size w w' := by
  obtain ⟨a, cap, rfl⟩ := r.form
  have R : Hid (Rd w hi (.slice a H.length cap) H) := r
  clear r
  by_cases hok : heapOk H
  · have HK : Hid (decide (heapOk H) = true) := decide_eq_true hok
    have eL : Hid (livingL H = living H) := if_pos hok
    rw [eL.out]
    have h2 : H.length ≤ 1048576 := by have := hok.1.2; omega
    have U : Hid (Up H) := up_ok hok
    have hcl : (lives H).length ≤ 65536 := lives_len (up_ok hok)
    clear hok
    refine (callsIn_wide (n := 5)).1 ?_
    refine callsIn_of_wp_marks Try.func18 rfl trivial ?_ rfl
    simp only [Try.ntmps18, List.size_toArray, List.length_cons, List.length_nil, Nat.reduceAdd, Nat.reduceSub, Array.replicate_succ, Array.replicate_zero, List.push_toArray, List.append_toArray, List.nil_append, List.cons_append]
    gi_wp2_with (first | (refine ⟨trivial, ?_⟩; gi_at_call 32; refine (callsIn_wide.2 (implHeapOk_any H _ hi _ hh R.out)).mono ?_; rintro e w1 ⟨rfl, hB1⟩; rw [HK.out]; have hz1 := hB1.size) | (refine ⟨trivial, ?_⟩; gi_at_call 36; refine (callsIn_wide.2 (living_any _ _ _ _ rfl _)).mono ?_; rintro e w2 ⟨rfl, rfl⟩) | (fail))
    have bN := Boxed.new w1 24 (.slice none 0 0)
    have bH := Boxed.new (w1.alloc (.cells #[.slice none 0 0] 24)) T1 (.slice a H.length cap)
    rw [World.size_alloc] at bH
    replace bN := bN.alloc (.cells #[.slice a H.length cap] T1)
    have hB2 : Below w.heap.size w ((w1.alloc (.cells #[.slice none 0 0] 24)).alloc (.cells #[.slice a H.length cap] T1)) := (hB1.alloc hz1 _).alloc (by simp; omega) _
    obtain ⟨W0, hW0⟩ : ∃ W0, (w1.alloc (.cells #[.slice none 0 0] 24)).alloc (.cells #[.slice a H.length cap] T1) = W0 := ⟨_, rfl⟩
    have hsz : W0.heap.size = w1.heap.size + 2 := by rw [← hW0]; simp
    rw [hW0] at bN bH hB2 ⊢
    obtain ⟨i0, hi0, hz0, hz1', hz2⟩ := infoI
    refine range_law 5 (w := W0) (gf := 45) (lb := #[.pointer (some ⟨w1.heap.size + 1, 0, none⟩)]) rfl (enters_of Try.func45 (by kernel_rfl) rfl)
      (living1_seq H U.out h2 _ hi w.heap.size (w1.heap.size + 1) W0 (by omega) hh bH (R.out.below hB2 hh) 4 (by omega)) (by omega) (Below.refl _ _) (fun _ => rfl)
      (fun pre W => (∃ vv, Boxed W w1.heap.size 24 vv ∧ W.ownsRow w.heap.size 2 1 vv pre.length (ivs (pre.map C.key)) ∧ True) ∧ Below w.heap.size w W)
      (fun _ _ => False)
      (OwnFrom.and (Own.from (holdsRow_own w.heap.size w1.heap.size 24 2 1 (fun pre : List C => pre.length) (fun pre : List C => ivs (pre.map C.key)) (fun _ _ => True)) _) (ownFrom_below (Nat.le_refl _) (by omega)))
      (fun _ _ _ _ h _ _ => h)
      ⟨⟨_, bN, World.ownsRow_nil W0 _ _ 1, trivial⟩, hB2⟩ ?round ?done ?stop
    case round =>
      rintro l pre x rest W hx hlt -
      have hpl : pre.length + 1 ≤ 65536 := by have := congrArg List.length hx; simp at this; omega
      obtain ⟨k, z, n, g⟩ := x
      dsimp only [encC]
      gi_wp2
      refine ⟨World.grownBy_alloc W _ none, ?_⟩
      rintro Wb - hsame ⟨⟨vv, hv, hrow, -⟩, hB⟩
      have hV : VBlk Wb W.heap.size 45 [.int .i64 k, .int .i64 z, .int .i64 n, .bool g] := (hsame _ (by omega)).trans (heap_alloc_new _ _)
      have c0 := hV.cell 0 (by simp)
      simp only [List.getElem_cons_zero] at c0
      clear hsame
      have hvc := hv.cell
      gi_wp2_with (gi_at_builtin; refine wpListIn_append_own _ rfl _ _ 24 rfl w.heap.size 2 i0 (.int .i64 0) 1 8 Try.underlying24 hi0 hz0 hz1' hz2 rfl (by decide) _ _ _ rfl (hrow.alloc _) ⟨Wb.heap.size, 0, none⟩ 1 1 [.int .i64 k] rfl rfl (cell_one_new _ _ _) (by simp [Value.oneCell']) (by unfold maxLen; omega) (by omega) (by have := hB.size; simp; omega) ?_; intro v' w3 hown' hgrow _; obtain ⟨g', cap', rfl⟩ := ownsRow_succ hown'; obtain ⟨hv1, hv2, hr2, hk2, hb2⟩ := hv.appended (by decide) hrow hB.size hz1 hown' hgrow; have hc1 := hv1.cell; have hf1 := hv1.frozen)
      refine ⟨hk2.from _, Kp.appended hv hrow hgrow hb2 (by decide) (by decide) (by decide) (by decide), ⟨_, hv2, ?_, trivial⟩, hB.trans hb2⟩
      simpa [ivs] using hr2
    case done =>
      rintro D W hD ⟨⟨vv, hv, hrow, -⟩, hB⟩ hK
      have hvc := hv.cell
      gi_wp2
      refine ⟨by simp, .inl ⟨_, _, rfl, run_takeDeferred hK, ?_⟩⟩
      refine ⟨_, results_tmp rfl _ _ _, _, rfl, ⟨?_, fun g hg => ?_⟩, below_put _ hB (by omega) hK⟩
      · have := ownsRow_putObj hrow (.deferred none) hK rfl
        rw [← List.length_map (f := C.key), lives_keys U.out] at this
        exact this
      · have := (hrow.lt g hg).2
        simpa using this
    case stop =>
      rintro D pre rest W - - h -
      exact h.elim
  · have HK : Hid (decide (heapOk H) = false) := decide_eq_false hok
    have eL : Hid (livingL H = []) := if_neg hok
    rw [eL.out]
    clear hok
    refine (callsIn_wide (n := 3)).1 ?_
    refine callsIn_of_wp_marks Try.func18 rfl trivial ?_ rfl
    simp only [Try.ntmps18, List.size_toArray, List.length_cons, List.length_nil, Nat.reduceAdd, Nat.reduceSub, Array.replicate_succ, Array.replicate_zero, List.push_toArray, List.append_toArray, List.nil_append, List.cons_append]
    gi_wp2_with (first | (refine ⟨trivial, ?_⟩; gi_at_call 32; refine (callsIn_wide.2 (implHeapOk_any H _ hi _ hh R.out)).mono ?_; rintro e w1 ⟨rfl, hB1⟩; rw [HK.out]; have hz1 := hB1.size) | (fail))
    refine ⟨_, results_tmp rfl _ _ _, _, rfl, ownI_none _ _ _, hB1⟩
end Go.Proofs.Ytedaioljkpfiiaa.it
