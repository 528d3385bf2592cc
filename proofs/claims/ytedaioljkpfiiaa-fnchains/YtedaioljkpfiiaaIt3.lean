/- Contracts: the program's Chain and Gone. -/
import Derived.Test.YtedaioljkpfiiaaIt2
import Derived.Test.YtedaioljkpfiiaaSp6
import Derived.RangeFuncBox
import Derived.Maps.AppendAt
namespace Go.Proofs.Ytedaioljkpfiiaa.it
open Go.RowKit Go.Shelf Go.Proofs.Ytedaioljkpfiiaa.ce
set_option linter.unusedVariables false
attribute [local go_sem] Oper.semAt_some

theorem links_fst (H : List C) (L : List Int) : (links H L).map Prod.fst = L := by simp [links, List.map_map, Function.comp_def]

theorem Kp.appended {W w1 : World} {n₀ B : Nat} {t e : TypeId} {size : Nat} {v v' : Value} {k : Nat} {xs : List Value} {tmp : Obj} (hv : Boxed W B t v) (hrow : W.ownsRow n₀ e size v k xs) (hgrow : (W.alloc tmp).grownBy w1 v.ownBlock)
    (hb : Below n₀ W (w1.setCell ⟨B, 0, none⟩ v')) (h1 : T1 ≠ e) (h2 : T2 ≠ e) (h3 : T1 ≠ t) (h4 : T2 ≠ t) : Kp T1 T2 n₀ W (w1.setCell ⟨B, 0, none⟩ v') := by
  refine ⟨hb, fun j s u hs hj => ?_⟩
  have hse : s ≠ e := by rcases hs with rfl | rfl; (· exact h1); (· exact h2)
  have hst : s ≠ t := by rcases hs with rfl | rfl; (· exact h3); (· exact h4)
  refine ((hj.alloc tmp).kept hgrow (hj.not_row hse hrow)).other (fun e' => ?_) _
  subst e'
  have := (show W.heap[j]? = _ from hj).symm.trans hv
  simp at this
  exact hst this.2
theorem grown_refl (W : World) : W.grownBy W none := ⟨rfl, rfl, rfl, Nat.le_refl _, fun _ _ _ => rfl⟩
/-- a block is turned at the function's end that was not there at its beginning -/
theorem below_put {n₀ : Nat} {w W : World} {D : Nat} {o : Obj} (o' : Obj) (hB : Below n₀ w W) (hn : n₀ ≤ D) (hD : W.heap[D]? = some o) : Below n₀ w (W.putObj D o') :=
  hB.trans ((Below.refl n₀ W).grown (grownBy_putObj' W D o') (by have := (Array.getElem?_eq_some_iff.1 hD).1; omega) (fun k e => by cases e; exact hn))

set_option maxRecDepth 100000 in
set_option maxHeartbeats 2000000 in
theorem implChain_any (H : List C) (v : Value) (hi : Nat) (w : World) (hh : hi ≤ w.heap.size) (r : Rd w hi v H) :
    Calls Try.prog 11 #[v] w fun e w' => ∃ v', e = .returned v' ∧ OwnI w' w.heap.size w'.heap.size v' (chainL H) ∧ Below w.heap.size w w' := by
  obtain ⟨a, cap, rfl⟩ := r.form
  have R : Hid (Rd w hi (.slice a H.length cap) H) := r
  clear r
  by_cases hok : heapOk H
  · have HK : Hid (decide (heapOk H) = true) := decide_eq_true hok
    have eL : Hid (chainL H = chain H) := if_pos hok
    rw [eL.out]
    have h2 : H.length ≤ 1048576 := by have := hok.1.2; omega
    have U : Hid (Up H) := up_ok hok
    have hcl : (chain H).length ≤ 65536 := chain_len (up_ok hok)
    clear hok
    refine (callsIn_wide (n := 3)).1 ?_
    refine callsIn_of_wp_marks Try.func11 rfl trivial ?_ rfl
    simp only [Try.ntmps11, List.size_toArray, List.length_cons, List.length_nil, Nat.reduceAdd, Nat.reduceSub, Array.replicate_succ, Array.replicate_zero, List.push_toArray, List.append_toArray, List.nil_append, List.cons_append]
    gi_wp2_with (first | (refine ⟨trivial, ?_⟩; gi_at_call 32; refine (callsIn_wide.2 (implHeapOk_any H _ hi _ hh R.out)).mono ?_; rintro e w1 ⟨rfl, hB1⟩; rw [HK.out]; have hz1 := hB1.size) | (refine ⟨trivial, ?_⟩; gi_at_call 33; refine (callsIn_wide.2 (chained_any _ _ _ _ rfl _)).mono ?_; rintro e w2 ⟨rfl, rfl⟩) | (fail))
    have bN := Boxed.new w1 24 (.slice none 0 0)
    have bH := Boxed.new (w1.alloc (.cells #[.slice none 0 0] 24)) T1 (.slice a H.length cap)
    rw [World.size_alloc] at bH
    replace bN := bN.alloc (.cells #[.slice a H.length cap] T1)
    have hB2 : Below w.heap.size w ((w1.alloc (.cells #[.slice none 0 0] 24)).alloc (.cells #[.slice a H.length cap] T1)) := (hB1.alloc hz1 _).alloc (by simp; omega) _
    obtain ⟨W0, hW0⟩ : ∃ W0, (w1.alloc (.cells #[.slice none 0 0] 24)).alloc (.cells #[.slice a H.length cap] T1) = W0 := ⟨_, rfl⟩
    have hsz : W0.heap.size = w1.heap.size + 2 := by rw [← hW0]; simp
    rw [hW0] at bN bH hB2 ⊢
    obtain ⟨i0, hi0, hz0, hz1', hz2⟩ := infoI
    refine range_law 3 (w := W0) (gf := 44) (lb := #[.pointer (some ⟨w1.heap.size + 1, 0, none⟩)]) rfl (enters_of Try.func44 (by kernel_rfl) rfl)
      (chained1_seq H U.out h2 _ hi w.heap.size (w1.heap.size + 1) W0 (by omega) hh bH (R.out.below hB2 hh) 2) (by omega) (Below.refl _ _) (fun _ => rfl)
      (fun pre W => (∃ vv, Boxed W w1.heap.size 24 vv ∧ W.ownsRow w.heap.size 2 1 vv pre.length (ivs (pre.map Prod.fst)) ∧ True) ∧ Below w.heap.size w W)
      (fun _ _ => False)
      (OwnFrom.and (Own.from (holdsRow_own w.heap.size w1.heap.size 24 2 1 (fun pre : List (Int × C) => pre.length) (fun pre : List (Int × C) => ivs (pre.map Prod.fst)) (fun _ _ => True)) _) (ownFrom_below (Nat.le_refl _) (by omega)))
      (fun _ _ _ _ h _ _ => h)
      ⟨⟨_, bN, World.ownsRow_nil W0 _ _ 1, trivial⟩, hB2⟩ ?round ?done ?stop
    case round =>
      rintro l pre x rest W hx hlt -
      have hpl : pre.length + 1 ≤ 65536 := by have := congrArg List.length hx; simp [links] at this; omega
      dsimp only [encL]
      gi_wp2
      refine ⟨grown_refl _, ?_⟩
      rintro Wb - - ⟨⟨vv, hv, hrow, -⟩, hB⟩
      have hvc := hv.cell
      gi_wp2_with (gi_at_builtin; refine wpListIn_append_own _ rfl _ _ 24 rfl w.heap.size 2 i0 (.int .i64 0) 1 8 Try.underlying24 hi0 hz0 hz1' hz2 rfl (by decide) _ _ _ rfl (hrow.alloc _) ⟨Wb.heap.size, 0, none⟩ 1 1 [.int .i64 x.1] rfl rfl (cell_one_new _ _ _) (by simp [Value.oneCell']) (by unfold maxLen; omega) (by omega) (by have := hB.size; simp; omega) ?_; intro v' w3 hown' hgrow _; obtain ⟨g', cap', rfl⟩ := ownsRow_succ hown'; obtain ⟨hv1, hv2, hr2, hk2, hb2⟩ := hv.appended (by decide) hrow hB.size hz1 hown' hgrow; have hc1 := hv1.cell; have hf1 := hv1.frozen)
      refine ⟨hk2.from _, Kp.appended hv hrow hgrow hb2 (by decide) (by decide) (by decide) (by decide), ⟨_, hv2, ?_, trivial⟩, hB.trans hb2⟩
      simpa [ivs] using hr2
    case done =>
      rintro D W hD ⟨⟨vv, hv, hrow, -⟩, hB⟩ hK
      have hvc := hv.cell
      gi_wp2
      refine ⟨by simp, .inl ⟨_, _, rfl, run_takeDeferred hK, ?_⟩⟩
      refine ⟨_, results_tmp rfl _ _ _, _, rfl, ⟨?_, fun g hg => ?_⟩, below_put _ hB (by omega) hK⟩
      · have := ownsRow_putObj hrow (.deferred none) hK rfl
        rw [links_fst, show (links H (chain H)).length = (chain H).length by simp [links]] at this
        exact this
      · have := (hrow.lt g hg).2
        simpa using this
    case stop =>
      rintro D pre rest W - - h -
      exact h.elim
  · have HK : Hid (decide (heapOk H) = false) := decide_eq_false hok
    have eL : Hid (chainL H = []) := if_neg hok
    rw [eL.out]
    clear hok
    refine (callsIn_wide (n := 3)).1 ?_
    refine callsIn_of_wp_marks Try.func11 rfl trivial ?_ rfl
    simp only [Try.ntmps11, List.size_toArray, List.length_cons, List.length_nil, Nat.reduceAdd, Nat.reduceSub, Array.replicate_succ, Array.replicate_zero, List.push_toArray, List.append_toArray, List.nil_append, List.cons_append]
    gi_wp2_with (first | (refine ⟨trivial, ?_⟩; gi_at_call 32; refine (callsIn_wide.2 (implHeapOk_any H _ hi _ hh R.out)).mono ?_; rintro e w1 ⟨rfl, hB1⟩; rw [HK.out]; have hz1 := hB1.size) | (fail))
    refine ⟨_, results_tmp rfl _ _ _, _, rfl, ownI_none _ _ _, hB1⟩

theorem Kp.setBox {W : World} {n₀ B : Nat} {t : TypeId} {v : Value} (u : Value) (hv : Boxed W B t v) (hn : n₀ ≤ B) (h3 : T1 ≠ t) (h4 : T2 ≠ t) : Kp T1 T2 n₀ W (W.setCell ⟨B, 0, none⟩ u) :=
  Kp.grown (grownBy_setCell' W B u) (by have := hv.lt; omega) (fun k e => by
    cases e
    refine ⟨hn, fun s x hs hx => ?_⟩
    have := (show W.heap[B]? = _ from hx).symm.trans hv
    simp at this
    rcases hs with rfl | rfl
    · exact h3 this.2
    · exact h4 this.2)
def cnt (pre : List (Int × C)) : Nat := (pre.filter fun x => x.2.gone).length
theorem cnt_gone (pre : List (Int × C)) (x : Int × C) (h : x.2.gone = true) : cnt (pre ++ [x]) = cnt pre + 1 := by simp [cnt, List.filter_append, h]
theorem cnt_live (pre : List (Int × C)) (x : Int × C) (h : x.2.gone = false) : cnt (pre ++ [x]) = cnt pre := by simp [cnt, List.filter_append, h]
theorem cnt_links (H : List C) (L : List Int) : cnt (links H L) = goneC H L := by simp [cnt, links, goneC, List.filter_map, Function.comp_def]
theorem cnt_len (pre : List (Int × C)) : cnt pre ≤ pre.length := List.length_filter_le _ _

set_option maxRecDepth 100000 in
set_option maxHeartbeats 2000000 in
theorem implGone_any (H : List C) (v : Value) (hi : Nat) (w : World) (hh : hi ≤ w.heap.size) (r : Rd w hi v H) :
    Calls Try.prog 22 #[v] w fun e w' => e = .returned (.int .i64 (goneL H)) ∧ Below w.heap.size w w' := by
  obtain ⟨a, cap, rfl⟩ := r.form
  have R : Hid (Rd w hi (.slice a H.length cap) H) := r
  clear r
  by_cases hok : heapOk H
  · have HK : Hid (decide (heapOk H) = true) := decide_eq_true hok
    have eL : Hid (goneL H = (goneC H (chain H) : Int)) := if_pos hok
    rw [eL.out]
    have h2 : H.length ≤ 1048576 := by have := hok.1.2; omega
    have U : Hid (Up H) := up_ok hok
    have hcl : (chain H).length ≤ 65536 := chain_len (up_ok hok)
    clear hok
    refine (callsIn_wide (n := 3)).1 ?_
    refine callsIn_of_wp_marks Try.func22 rfl trivial ?_ rfl
    simp only [Try.ntmps22, List.size_toArray, List.length_cons, List.length_nil, Nat.reduceAdd, Nat.reduceSub, Array.replicate_succ, Array.replicate_zero, List.push_toArray, List.append_toArray, List.nil_append, List.cons_append]
    gi_wp2_with (first | (refine ⟨trivial, ?_⟩; gi_at_call 32; refine (callsIn_wide.2 (implHeapOk_any H _ hi _ hh R.out)).mono ?_; rintro e w1 ⟨rfl, hB1⟩; rw [HK.out]; have hz1 := hB1.size) | (refine ⟨trivial, ?_⟩; gi_at_call 33; refine (callsIn_wide.2 (chained_any _ _ _ _ rfl _)).mono ?_; rintro e w2 ⟨rfl, rfl⟩) | (fail))
    have bN := Boxed.new w1 2 (.int .i64 0)
    have bH := Boxed.new (w1.alloc (.cells #[.int .i64 0] 2)) T1 (.slice a H.length cap)
    rw [World.size_alloc] at bH
    replace bN := bN.alloc (.cells #[.slice a H.length cap] T1)
    have hB2 : Below w.heap.size w ((w1.alloc (.cells #[.int .i64 0] 2)).alloc (.cells #[.slice a H.length cap] T1)) := (hB1.alloc hz1 _).alloc (by simp; omega) _
    obtain ⟨W0, hW0⟩ : ∃ W0, (w1.alloc (.cells #[.int .i64 0] 2)).alloc (.cells #[.slice a H.length cap] T1) = W0 := ⟨_, rfl⟩
    have hsz : W0.heap.size = w1.heap.size + 2 := by rw [← hW0]; simp
    rw [hW0] at bN bH hB2 ⊢
    refine range_law 3 (w := W0) (gf := 44) (lb := #[.pointer (some ⟨w1.heap.size + 1, 0, none⟩)]) rfl (enters_of Try.func44 (by kernel_rfl) rfl)
      (chained1_seq H U.out h2 _ hi w.heap.size (w1.heap.size + 1) W0 (by omega) hh bH (R.out.below hB2 hh) 2) (by omega) (Below.refl _ _) (fun _ => rfl)
      (fun pre W => Boxed W w1.heap.size 2 (.int .i64 (cnt pre : Int)) ∧ Below w.heap.size w W)
      (fun _ _ => False)
      (OwnFrom.and (Own.from (boxed_own _ _ (fun pre : List (Int × C) => Value.int .i64 (cnt pre : Int))) _) (ownFrom_below (Nat.le_refl _) (by omega)))
      (fun _ _ _ _ h _ _ => h)
      ⟨bN, hB2⟩ ?round ?done ?stop
    case round =>
      rintro l pre x rest W hx hlt -
      have hpl : pre.length + 1 ≤ 65536 := by have := congrArg List.length hx; simp [links] at this; omega
      have hcn := cnt_len pre
      obtain ⟨p, k, z, n, g⟩ := x
      dsimp only [encL]
      gi_wp2
      refine ⟨World.grownBy_alloc W _ none, ?_⟩
      rintro Wb - hsame ⟨hv, hB⟩
      have hV : VBlk Wb W.heap.size 45 [.int .i64 k, .int .i64 z, .int .i64 n, .bool g] := (hsame _ (by omega)).trans (heap_alloc_new _ _)
      have c3 := hV.cell 3 (by simp)
      simp only [List.getElem_cons_zero, List.getElem_cons_succ] at c3
      clear hsame
      have hvc := hv.cell
      have hvf := hv.frozen
      cases g with
      | true =>
        have e : Hid (cnt (pre ++ [(p, ⟨k, z, n, true⟩)]) = cnt pre + 1) := cnt_gone _ _ rfl
        gi_wp2
        refine ⟨(KeepsOthers.setCell _ _ _).from _, Kp.setBox _ hv hz1 (by decide) (by decide), ?_, hB.setCell (p := ⟨w1.heap.size, 0, none⟩) hz1 _⟩
        rw [e.out]
        exact hv.set _
      | false =>
        have e : Hid (cnt (pre ++ [(p, ⟨k, z, n, false⟩)]) = cnt pre) := cnt_live _ _ rfl
        gi_wp2
        refine ⟨KeepsFrom.refl _ _, Kp.refl _, ?_, hB⟩
        rw [e.out]
        exact hv
    case done =>
      rintro D W hD ⟨hv, hB⟩ hK
      have hvc := hv.cell
      rw [cnt_links] at hvc
      gi_wp2
      refine ⟨by simp, .inl ⟨_, _, rfl, run_takeDeferred hK, ?_⟩⟩
      exact ⟨_, results_tmp rfl _ _ _, rfl, below_put _ hB (by omega) hK⟩
    case stop =>
      rintro D pre rest W - - h -
      exact h.elim
  · have HK : Hid (decide (heapOk H) = false) := decide_eq_false hok
    have eL : Hid (goneL H = -1) := if_neg hok
    rw [eL.out]
    clear hok
    refine (callsIn_wide (n := 3)).1 ?_
    refine callsIn_of_wp_marks Try.func22 rfl trivial ?_ rfl
    simp only [Try.ntmps22, List.size_toArray, List.length_cons, List.length_nil, Nat.reduceAdd, Nat.reduceSub, Array.replicate_succ, Array.replicate_zero, List.push_toArray, List.append_toArray, List.nil_append, List.cons_append]
    gi_wp2_with (first | (refine ⟨trivial, ?_⟩; gi_at_call 32; refine (callsIn_wide.2 (implHeapOk_any H _ hi _ hh R.out)).mono ?_; rintro e w1 ⟨rfl, hB1⟩; rw [HK.out]; have hz1 := hB1.size) | (fail))
    exact ⟨_, results_tmp rfl _ _ _, rfl, hB1⟩
end Go.Proofs.Ytedaioljkpfiiaa.it
