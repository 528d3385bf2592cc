/- Texts laid together: Mo5 Pl12 Cp2 Cp5 Cp6 Cp7 Cw7 Cp8 Cp9. -/
import Derived.Test.YthjkhghlhjndmaaMg14
import Derived.Test.YthjkhghlhjndmaaMg21
import Derived.Test.YthjkhghlhjndmaaMg08
import Derived.Test.YthjkhghlhjndmaaMg20
import Derived.Test.YthjkhghlhjndmaaMg07
import Derived.Test.YthjkhghlhjndmaaMg04
/- Contracts: the model's Moved and Alone. -/
namespace Go.Proofs.Ythjkhghlhjndmaa.ce
open Go.ChangeShapes Go.WideShapes Go.ChangeAt Go.RowKit
set_option linter.unusedVariables false

def zeroD : Hd := ⟨0, 0, 0, 0, 0, 0, 0, 0⟩
noncomputable def movedP (H : List C) (d : Hd) : List C × Hd := if handB H d = true then move H d else ([], zeroD)
noncomputable def aloneP (H : List C) (d : Hd) : List C × Hd := if handB H d = true then alone 400 H d else ([], zeroD)
theorem handB_iff {H : List C} {d : Hd} : handB H d = true ↔ heapOk H ∧ OkH H d := by
  unfold handB
  by_cases h : heapOk H
  · rw [if_pos h, okB_iff]; exact ⟨fun q => ⟨h, q⟩, fun q => q.2⟩
  · rw [if_neg h]; exact ⟨fun q => (by cases q), fun q => absurd q.1 h⟩

theorem movedP_le (H : List C) (d : Hd) : (movedP H d).1.length ≤ 1048576 := by
  unfold movedP
  split
  · rename_i h
    obtain ⟨h1, h2⟩ := handB_iff.1 h
    have := (move_keeps h1 h2).heap.1.2
    omega
  · simp
theorem aloneP_le (H : List C) (d : Hd) : (aloneP H d).1.length ≤ 1048576 := by
  unfold aloneP
  split
  · rename_i h
    obtain ⟨h1, h2⟩ := handB_iff.1 h
    have := (alone_keeps 400 h1 h2).1.1.2
    omega
  · simp
end Go.Proofs.Ythjkhghlhjndmaa.ce
/- Contracts: the program's Moved and Alone answer as the model's. -/
namespace Go.Proofs.Ythjkhghlhjndmaa.ce
open Go.ChangeShapes Go.WideShapes Go.ChangeAt Go.RowKit
set_option linter.unusedVariables false

theorem runC_alone : ∀ (n : Nat) (H : List C) (d : Hd), runC n H d = alone n H d
  | 0, _, _ => rfl
  | n + 1, H, d => by
    by_cases h5 : d.step = 5
    · rw [runC_done (n + 1) H d h5, alone_done (n + 1) H d h5]
    · rw [alone_go n H d h5]; exact runC_alone n _ _
theorem playC_moved (H : List C) (d : Hd) : playC 1 H d = movedP H d := by
  unfold playC movedP
  split
  · rfl
  · rfl
theorem playC_alone (H : List C) (d : Hd) : playC 400 H d = aloneP H d := by
  unfold playC aloneP
  rw [runC_alone]
  rfl
theorem implMoved_any (H : List C) (d : Hd) (v : Value) (hi : Nat) (w : World) (hh : hi ≤ w.heap.size) (r : Rd w hi v H) :
    Calls Try.prog 129 #[v, .agg (hv d).toArray] w fun e w' => ∃ v', e = .returned (.tuple #[v', .agg (hv (movedP H d).2).toArray]) ∧ Own w' w.heap.size w'.heap.size v' (movedP H d).1 ∧ Below w.heap.size w w' := by
  rw [← playC_moved]; exact implMoved_any' H d v hi w hh r
end Go.Proofs.Ythjkhghlhjndmaa.ce
/- The program's moved: one move of a hand at work. -/
namespace Go.Proofs.Ythjkhghlhjndmaa.ce
open Go.ChangeShapes Go.WideShapes Go.ChangeAt Go.RowKit
set_option linter.unusedVariables false

set_option maxRecDepth 100000 in
set_option maxHeartbeats 1000000 in
theorem movedW_any (H : List C) (d : Hd) (v : Value) (hi : Nat) (w : World) (hh : hi ≤ w.heap.size) (r : Rd w hi v H) :
    Calls Try.prog 128 #[.agg (hv d).toArray, v] w fun e w' => ∃ v', e = .returned (.tuple #[v', mv (movedP H d).2]) ∧ Own w' w.heap.size w'.heap.size v' (movedP H d).1 ∧ Below w.heap.size w w' := by
  obtain ⟨a, cap, rfl⟩ := r.form
  have R : Hid (Rd w hi (.slice a H.length cap) H) := r
  clear r
  obtain ⟨k, x, y, s, l, e, o, t⟩ := d
  obtain ⟨⟨L, ⟨k9, x9, y9, s9, l9, e9, o9, t9⟩⟩, PZ⟩ := hid_ex (movedP H ⟨k, x, y, s, l, e, o, t⟩)
  rw [PZ.out]
  obtain ⟨M, hM⟩ := hid_ex (mv ⟨k9, x9, y9, s9, l9, e9, o9, t9⟩)
  show Calls _ _ _ _ fun e w' => ∃ v', e = .returned (.tuple #[v', mv ⟨k9, x9, y9, s9, l9, e9, o9, t9⟩]) ∧ Own w' w.heap.size w'.heap.size v' L ∧ Below w.heap.size w w'
  rw [hM.out]
  go_enter Try.func128, Try.ntmps128
  go_wp2_with (first | (refine wpList_box_v rfl 126 _ rfl (hv ⟨k, x, y, s, l, e, o, t⟩) rfl ?_; intro b1 w1 hb1 hw1 hB1 hV1; have hz1 := hB1.size; have c0 := hV1.cell 0 (by simp [hv]); have c1 := hV1.cell 1 (by simp [hv]); have c2 := hV1.cell 2 (by simp [hv]); have c3 := hV1.cell 3 (by simp [hv]); have c4 := hV1.cell 4 (by simp [hv]); have c5 := hV1.cell 5 (by simp [hv]); have c6 := hV1.cell 6 (by simp [hv]); have c7 := hV1.cell 7 (by simp [hv]); simp only [hv, List.getElem_cons_zero, List.getElem_cons_succ] at c0 c1 c2 c3 c4 c5 c6 c7) | (go_at_call 129; refine (implMoved_any H ⟨k, x, y, s, l, e, o, t⟩ _ hi _ (by omega) (R.out.below hB1 hh)).mono ?_; rintro er w2 ⟨v', he, hO', hB2⟩; rw [PZ.out] at he hO'; subst he; dsimp only [hv]; have hz2 := hB2.size; clear c0 c1 c2 c3 c4 c5 c6 c7) | (refine wpList_alloc_v rfl 58 rfl _ zeroH ?_; intro b6 w3 hb6 hw3 hB3 hV3; have hz3 := hB3.size) | (refine wpList_store_v rfl 58 _ _ rfl b6 (hv ⟨k9, x9, y9, s9, l9, e9, o9, t9⟩) rfl rfl sizeH hV3 rfl (hv_one _) ?_; intro w4 hO4 hV4; have hz4 := hO4.1; have hb4 : HB w4 b6 ⟨k9, x9, y9, s9, l9, e9, o9, t9⟩ := ⟨hV4⟩; obtain ⟨c0, c1, c2, c3, c4, c5, c6, c7⟩ := hb4.cells) | (go_at_call 89; refine (memberOf_any ⟨k9, x9, y9, s9, l9, e9, o9, t9⟩ _).mono ?_; rintro er w5 ⟨he, hB5⟩; rw [hM.out] at he; subst he; have hz5 := hB5.size) | (fail))
  go_ret2
  exact ⟨_, rfl, ((((hO'.below hB3 (Nat.le_refl _)).keep fun j j1 j2 => hO4.2.1 j (by omega)).below hB5 (by omega))).wide (by omega) (by omega), (((hB1.trans (hB2.mono hz1)).trans (hB3.mono (by omega))).trans (hO4.2.2 _ (by omega))).trans (hB5.mono (by omega))⟩
end Go.Proofs.Ythjkhghlhjndmaa.ce
/- The program's pick in a team's own variable: exactly, whoever is asked for. -/
namespace Go.Proofs.Ythjkhghlhjndmaa.ce
open Go.ChangeShapes Go.WideShapes Go.ChangeAt Go.RowKit
set_option linter.unusedVariables false

/-- a team lies in its variable b; its heap and its members are rows of their own -/
structure Tx (w0 w : World) (b : Nat) (vH : Value) (H : List C) (vM : Value) (ds : List Hd) : Prop where
  team : VBlk w b 78 [vH, vM]
  heap : Own w w0.heap.size w.heap.size vH H
  mem : OwnM w w0.heap.size w.heap.size vM ds
  blo : w0.heap.size ≤ b
theorem step_store_mm {o : Oper} {a : Act} {w : World} {ops : Array Oper} {K : Act → World → Prop} {Q : Exit → Act → World → Prop} {E : Prop} (hgd : o.guard = none) (x y : Operand) (ho : o.op = .store 87 x y) (q i : Nat) (M : Value) (hx : a.eval x = .pointer (some ⟨q, i, none⟩)) (hy : a.eval y = M)
    {d' : Hd} (hM : mv d' = M) {lo hi n cq : Nat} {ds : List Hd} (ow : OwnM w lo hi (.slice (some ⟨q, 0, none⟩) n cq) ds) (hi' : i < ds.length)
    (h : ∀ w', Only q w w' → OwnM w' lo hi (.slice (some ⟨q, 0, none⟩) n cq) (ds.set i d') → K (a.put o.dst undef) w') :
    if Region.wanted o (yielded ops a.tmps) = true then Oper.wp Try.prog o a w K Q else E := by
  have hw : Region.wanted o (yielded ops a.tmps) = true := by simp [Region.wanted, hgd]
  rw [if_pos hw]
  subst hM
  obtain ⟨b', off, e, hb', hc⟩ := ow.rd.cell i hi'
  cases e
  have hf : w.frozen? ⟨q, i, none⟩ = false := ow.frozen _
  rw [Nat.zero_add] at hc
  have hr : (execOp a.eval o).run Try.prog w = .ok .skip (w.setCell ⟨q, i, none⟩ (mv d')) := by
    unfold execOp mv
    simp only [ho, hx, hy]
    simp [go_sem, hc, hf, mv]
  unfold Oper.wp
  rw [hr]
  exact h _ (only_set _ _ _ _) (ow.set i d')

set_option maxRecDepth 100000 in
set_option maxHeartbeats 2000000 in
theorem pick_any (w0 w : World) (b : Nat) (vH : Value) (H : List C) (vM : Value) (ds : List Hd) (c : Tx w0 w b vH H vM ds) (hok : CrewOk H ds) (who : Int) :
    Calls Try.prog 62 #[.pointer (some ⟨b, 0, none⟩), .int .i64 who] w fun e w' => e = .returned (.bool (pickBZ ds who)) ∧ ∃ vH', Tx w0 w' b vH' (pickHZ H ds who) vM (pickDZ H ds who) ∧ Below w0.heap.size w w' := by
  have hcr0 := c.team.cell 0 (by simp)
  have hcr1 := c.team.cell 1 (by simp)
  simp only [List.getElem_cons_zero, List.getElem_cons_succ] at hcr0 hcr1
  obtain ⟨va, vc, evd⟩ := c.mem.rd.form
  by_cases hr : 0 ≤ who ∧ who < (ds.length : Int)
  case neg =>
    have e1 : Hid (pickHZ H ds who = H) := dif_neg hr
    have e2 : Hid (pickDZ H ds who = ds) := dif_neg hr
    have e3 : Hid (pickBZ ds who = false) := dif_neg hr
    rw [e1.out, e2.out, e3.out]
    subst evd
    have CN : Hid (Tx w0 w b vH H (.slice va ds.length vc) ds) := c
    have h4 := hok.le
    clear c hok
    by_cases h0 : who < 0
    · go_enter Try.func62, Try.ntmps62
      go_wp2
      go_ret
      first | exact ⟨rfl, _, CN.out, Below.refl _ _⟩ | exact ⟨rfl, ⟨_, CN.out⟩, Below.refl _ _⟩
    · have h1 : who ≥ (ds.length : Int) := by omega
      have h1' : ¬ who < (ds.length : Int) := by omega
      go_enter Try.func62, Try.ntmps62
      go_wp2
      go_ret
      first | exact ⟨rfl, _, CN.out, Below.refl _ _⟩ | exact ⟨rfl, ⟨_, CN.out⟩, Below.refl _ _⟩
  obtain ⟨i, rfl⟩ : ∃ i : Nat, who = i := ⟨who.toNat, by omega⟩
  have hi : i < ds.length := by omega
  have eH : pickHZ H ds (i : Int) = pickH H ds i hi := by unfold pickHZ; rw [dif_pos hr]; rfl
  have eD : pickDZ H ds (i : Int) = pickD H ds i hi := by unfold pickDZ; rw [dif_pos hr]; rfl
  have eB : pickBZ ds (i : Int) = decide (ds[i].step ≠ 5) := by unfold pickBZ; rw [dif_pos hr]; rfl
  rw [eH, eD, eB]
  clear eH eD eB hr evd va vc
  obtain ⟨q, cq, rfl, hq1, hq2, hq3⟩ := c.mem.form (by omega)
  obtain ⟨g, cg, rfl, hg1, hg2, -⟩ := c.heap.form hok.heap.1.1
  obtain ⟨q', off, e, hqq, hcm⟩ := c.mem.rd.cell i hi
  cases e
  rw [Nat.zero_add] at hcm
  obtain ⟨d, hd⟩ : ∃ d, ds[i] = d := ⟨_, rfl⟩
  have okd : OkH H d := by rw [← hd]; exact hok.hands _ (List.getElem_mem hi)
  rw [hd] at hcm
  have hi2 : (i : Int) < (ds.length : Int) := by omega
  have hi3 : ¬ ((i : Int) < 0) := by omega
  have hi4 : ¬ ((i : Int) ≥ (ds.length : Int)) := by omega
  have hl4 := hok.le
  have hR := assertR
  have hW := assertW
  have MP : Hid (movedP H d = ce.move H d) := by unfold Hid movedP; rw [if_pos (handB_iff.2 ⟨hok.heap, okd⟩)]
  by_cases h5 : d.step = 5
  · rw [mvDone h5] at hcm
    have e1 : Hid (pickH H ds i hi = H) := if_pos (by rw [hd]; exact h5)
    have e2 : Hid (pickD H ds i hi = ds) := if_pos (by rw [hd]; exact h5)
    have e3 : Hid (decide (ds[i].step ≠ 5) = false) := decide_eq_false (by rw [hd]; exact fun z => z h5)
    rw [e1.out, e2.out, e3.out]
    have CN : Hid (Tx w0 w b (.slice (some ⟨g, 0, none⟩) H.length cg) H (.slice (some ⟨q, 0, none⟩) ds.length cq) ds) := c
    obtain ⟨V, hV⟩ := hid_ex (Value.agg (hv d).toArray)
    rw [hV.out] at hcm
    clear c h5 hd MP okd hok
    go_enter Try.func62, Try.ntmps62
    go_wp2
    go_ret
    first | exact ⟨rfl, _, CN.out, Below.refl _ _⟩ | exact ⟨rfl, ⟨_, CN.out⟩, Below.refl _ _⟩
  · rw [mvWork h5] at hcm
    have e1 : Hid (pickH H ds i hi = (ce.move H d).1) := by unfold Hid pickH; rw [if_neg (by rw [hd]; exact h5), hd]
    have e2 : Hid (pickD H ds i hi = ds.set i (ce.move H d).2) := by unfold Hid pickD; rw [if_neg (by rw [hd]; exact h5), hd]
    have e3 : Hid (decide (ds[i].step ≠ 5) = true) := decide_eq_true (by rw [hd]; exact h5)
    rw [e1.out, e2.out, e3.out]
    clear h5 hd e1 e2 e3 okd hok
    obtain ⟨k, x, y, s, l, e, o, t⟩ := d
    obtain ⟨⟨L, ⟨k9, x9, y9, s9, l9, e9, o9, t9⟩⟩, PZ0⟩ := hid_ex (ce.move H ⟨k, x, y, s, l, e, o, t⟩)
    have PZ : Hid (movedP H ⟨k, x, y, s, l, e, o, t⟩ = (L, ⟨k9, x9, y9, s9, l9, e9, o9, t9⟩)) := by unfold Hid; rw [MP.out]; exact PZ0.out
    rw [PZ0.out]
    obtain ⟨M, hM⟩ := hid_ex (mv ⟨k9, x9, y9, s9, l9, e9, o9, t9⟩)
    have TX0 : Hid (Tx w0 w b (.slice (some ⟨g, 0, none⟩) H.length cg) H (.slice (some ⟨q, 0, none⟩) ds.length cq) ds) := c
    have hm : ∀ w : World, (method 263 126 (.agg #[.int .i64 k, .int .i64 x, .int .i64 y, .int .i64 s, .int .i64 l, .int .i64 e, .int .i64 o, .int .i64 t]) "loop.example/g00401/impl.moved").run Try.prog w = .ok (128, .agg #[.int .i64 k, .int .i64 x, .int .i64 y, .int .i64 s, .int .i64 l, .int .i64 e, .int .i64 o, .int .i64 t]) w := fun _ => by kernel_rfl
    have hna : ∀ w : World, (nilAhead 263 126 (.agg #[.int .i64 k, .int .i64 x, .int .i64 y, .int .i64 s, .int .i64 l, .int .i64 e, .int .i64 o, .int .i64 t]) "loop.example/g00401/impl.moved").run Try.prog w = .ok (some false) w := fun _ => by kernel_rfl
    replace hcm : w.cell? ⟨q, i, none⟩ = some (.iface 126 (.agg #[.int .i64 k, .int .i64 x, .int .i64 y, .int .i64 s, .int .i64 l, .int .i64 e, .int .i64 o, .int .i64 t])) := hcm
    have hi' : i < ds.length := hi
    obtain ⟨n, hn⟩ := hid_ex ds.length
    have TX : Hid (Tx w0 w b (.slice (some ⟨g, 0, none⟩) H.length cg) H (.slice (some ⟨q, 0, none⟩) ds.length cq) ds) := TX0
    rw [hn.out] at hi2 hi4 hcr1 TX hl4
    show Calls _ _ _ _ fun e w' => e = .returned (.bool true) ∧ ∃ vH', Tx w0 w' b vH' L (.slice (some ⟨q, 0, none⟩) ds.length cq) (ds.set i ⟨k9, x9, y9, s9, l9, e9, o9, t9⟩) ∧ Below w0.heap.size w w'
    rw [hn.out]
    clear c MP TX0 PZ0
    go_enter Try.func62, Try.ntmps62
    go_wp2
    refine wp_region_held_drew (S := fun w' => w'.cell? ⟨b, 1, none⟩ = some (.slice (some ⟨q, 0, none⟩) n cq)) (by kernel_rfl) hcr1 (fun hHeld => ?_)
    refine takeW 0 31 (.pointer (some ⟨b, 0, none⟩)) rfl (by kernel_rfl) (by kernel_rfl) (by kernel_rfl) (fun _ _ _ h => h) (by kernel_rfl) (fun w' hS => by go_simp) hHeld ?_
    go_frame
    refine takeW 1 32 (.pointer (some ⟨b, 0, none⟩)) rfl (by kernel_rfl) (by kernel_rfl) (by kernel_rfl) (fun _ _ _ h => h) (by kernel_rfl) (fun w' hS => by go_simp) hHeld ?_
    go_frame
    refine takeW 2 33 (.pointer (some ⟨b, 0, none⟩)) rfl (by kernel_rfl) (by kernel_rfl) (by kernel_rfl) (fun _ _ _ h => h) (by kernel_rfl) (fun w' hS => by go_simp) hHeld ?_
    go_frame
    refine takeW 3 34 (.pointer (some ⟨b, 1, none⟩)) rfl (by kernel_rfl) (by kernel_rfl) (by kernel_rfl) (fun _ _ _ h => h) (by kernel_rfl) (fun w' hS => by go_simp) hHeld ?_
    go_frame
    refine takeW 4 35 (.slice (some ⟨q, 0, none⟩) n cq) rfl (by kernel_rfl) (by kernel_rfl) (by kernel_rfl) (fun _ _ _ h => h) (by kernel_rfl) (fun w' hS => by go_simp) hHeld ?_
    go_frame
    refine takeW 5 36 (.int .i64 (i : Int)) rfl (by kernel_rfl) (by kernel_rfl) (by kernel_rfl) (fun _ _ _ h => h) (by kernel_rfl) (fun w' hS => by go_simp) hHeld ?_
    go_frame
    refine takeW 6 37 (.iface 126 (.agg #[.int .i64 k, .int .i64 x, .int .i64 y, .int .i64 s, .int .i64 l, .int .i64 e, .int .i64 o, .int .i64 t])) rfl (by kernel_rfl) (by kernel_rfl) (by kernel_rfl) (fun _ _ _ h => h) (by kernel_rfl) (fun w' hS => by go_simp) hHeld ?_
    go_frame
    refine takeW 7 38 (.pointer (some ⟨b, 0, none⟩)) rfl (by kernel_rfl) (by kernel_rfl) (by kernel_rfl) (fun _ _ _ h => h) (by kernel_rfl) (fun w' hS => by go_simp) hHeld ?_
    go_frame
    refine takeW 8 39 (.pointer (some ⟨b, 0, none⟩)) rfl (by kernel_rfl) (by kernel_rfl) (by kernel_rfl) (fun _ _ _ h => h) (by kernel_rfl) (fun w' hS => by go_simp) hHeld ?_
    go_frame
    refine takeW 9 40 (.pointer (some ⟨b, 0, none⟩)) rfl (by kernel_rfl) (by kernel_rfl) (by kernel_rfl) (fun _ _ _ h => h) (by kernel_rfl) (fun w' hS => by go_simp) hHeld ?_
    go_frame
    refine takeW 11 42 (.func (.method "loop.example/g00401/impl.moved") #[.iface 126 (.agg #[.int .i64 k, .int .i64 x, .int .i64 y, .int .i64 s, .int .i64 l, .int .i64 e, .int .i64 o, .int .i64 t])] #[]) rfl (by kernel_rfl) (by kernel_rfl) (by kernel_rfl) (fun _ _ _ h => h) (by kernel_rfl) (fun w' hS => by go_simp) hHeld ?_
    go_frame
    refine takeW 12 43 (.func (.method "loop.example/g00401/impl.moved") #[.iface 126 (.agg #[.int .i64 k, .int .i64 x, .int .i64 y, .int .i64 s, .int .i64 l, .int .i64 e, .int .i64 o, .int .i64 t])] #[]) rfl (by kernel_rfl) (by kernel_rfl) (by kernel_rfl) (fun _ _ _ h => h) (by kernel_rfl) (fun w' hS => by go_simp) hHeld ?_
    go_frame
    refine takeW 13 44 (.iface 126 (.agg #[.int .i64 k, .int .i64 x, .int .i64 y, .int .i64 s, .int .i64 l, .int .i64 e, .int .i64 o, .int .i64 t])) rfl (by kernel_rfl) (by kernel_rfl) (by kernel_rfl) (fun _ _ _ h => h) (by kernel_rfl) (fun w' hS => by go_simp) hHeld ?_
    go_frame
    have hcr0d : w.drew.cell? ⟨b, 0, none⟩ = some (.slice (some ⟨g, 0, none⟩) H.length cg) := hcr0
    refine wpAnyH_ready (rs := [10]) (by kernel_rfl) (by simp) ?_
    refine AllReadyH.cons rfl (fun K hK => ?_) AllReadyH.nil
    go_simp
    refine hK.out _ _ hcr1 (fun _ => ?_)
    try go_frame
    refine wpAnyH_ready (rs := [14]) (by kernel_rfl) (by simp) ?_
    refine AllReadyH.cons rfl (fun K hK => ?_) AllReadyH.nil
    go_simp
    go_at_call 128
    refine (movedW_any H ⟨k, x, y, s, l, e, o, t⟩ _ w.heap.size w.drew (Nat.le_refl _) TX.out.heap.rd.drew).mono ?_
    rintro er w2 ⟨v2, he, o2, hB2⟩
    rw [PZ.out] at he o2
    obtain ⟨a2, c2, rfl⟩ := o2.rd.form
    have he : er = .returned (.tuple #[.slice a2 L.length c2, M]) := by rw [he, ← hM.out]
    subst he
    have hz2 : w.heap.size ≤ w2.heap.size := hB2.size
    have team2 : VBlk w2 b 78 [.slice (some ⟨g, 0, none⟩) H.length cg, .slice (some ⟨q, 0, none⟩) n cq] := TX.out.team.of (hB2.block b TX.out.team.lt)
    have mem2 : OwnM w2 w0.heap.size w2.heap.size (.slice (some ⟨q, 0, none⟩) n cq) ds := (TX.out.mem.keep fun k _ h2 => hB2.block k h2).wide (Nat.le_refl _) hz2
    have hs2 : w2.cell? ⟨b, 1, none⟩ = some (.slice (some ⟨q, 0, none⟩) n cq) := team2.cell 1 (by simp)
    refine hK.out _ _ hs2 (fun _ => ?_)
    try go_frame
    refine takeW 15 30 (.tuple #[.slice a2 L.length c2, M]) rfl (by kernel_rfl) (by kernel_rfl) (by kernel_rfl) (fun _ _ _ h => h) (by kernel_rfl) (fun w' hS => by go_simp) hs2 ?_
    go_frame
    refine takeW 16 46 (.slice a2 L.length c2) rfl (by kernel_rfl) (by kernel_rfl) (by kernel_rfl) (fun _ _ _ h => h) (by kernel_rfl) (fun w' hS => by go_simp) hs2 ?_
    go_frame
    refine takeW 17 47 (M) rfl (by kernel_rfl) (by kernel_rfl) (by kernel_rfl) (fun _ _ _ h => h) (by kernel_rfl) (fun w' hS => by go_simp) hs2 ?_
    go_frame
    refine takeW 18 48 (.pointer (some ⟨b, 0, none⟩)) rfl (by kernel_rfl) (by kernel_rfl) (by kernel_rfl) (fun _ _ _ h => h) (by kernel_rfl) (fun w' hS => by go_simp) hs2 ?_
    go_frame
    refine takeW 19 49 (.pointer (some ⟨b, 0, none⟩)) rfl (by kernel_rfl) (by kernel_rfl) (by kernel_rfl) (fun _ _ _ h => h) (by kernel_rfl) (fun w' hS => by go_simp) hs2 ?_
    go_frame
    refine wpAnyH_ready (rs := [20]) (by kernel_rfl) (by simp) ?_
    refine AllReadyH.cons rfl (fun K2 hK2 => ?_) AllReadyH.nil
    refine step_store_c rfl _ _ rfl b 0 a2 L.length c2 rfl rfl team2 (by simp) ?_
    intro w3 hO3 hV3
    have hz3 := hO3.1
    have hs3 : w3.cell? ⟨b, 1, none⟩ = some (.slice (some ⟨q, 0, none⟩) n cq) := hV3.cell 1 (by simp)
    have mem3 : OwnM w3 w0.heap.size w3.heap.size (.slice (some ⟨q, 0, none⟩) n cq) ds := (mem2.keepB fun k hk => hO3.2.1 k (apart_mb mem2 team2 k hk)).wide (Nat.le_refl _) (by omega)
    refine hK2.out _ _ hs3 (fun _ => ?_)
    try go_frame
    refine takeW 21 50 (.pointer (some ⟨q, i, none⟩)) rfl (by kernel_rfl) (by kernel_rfl) (by kernel_rfl) (fun _ _ _ h => h) (by kernel_rfl) (fun w' hS => by go_simp) hs3 ?_
    go_frame
    refine wpAnyH_ready (rs := [22]) (by kernel_rfl) (by simp) ?_
    refine AllReadyH.cons rfl (fun K4 hK4 => ?_) AllReadyH.nil
    refine step_store_mm rfl _ _ rfl q i M rfl rfl (d' := ⟨k9, x9, y9, s9, l9, e9, o9, t9⟩) hM.out mem3 hi' ?_
    intro w4 hO4 mem4
    have hz4 := hO4.1
    have own3 : Own w3 w0.heap.size w3.heap.size (.slice a2 L.length c2) L := (own_keepB o2 fun k hk => hO3.2.1 k (by have := (own_lo o2 k hk).1; have := TX.out.team.lt; have e9 : w.drew.heap.size = w.heap.size := rfl; omega)).wide (by have := TX.out.blo; have := TX.out.team.lt; have e9 : w.drew.heap.size = w.heap.size := rfl; omega) (by omega)
    have tx4 : Tx w0 w4 b (.slice a2 L.length c2) L (.slice (some ⟨q, 0, none⟩) n cq) (ds.set i ⟨k9, x9, y9, s9, l9, e9, o9, t9⟩) := ⟨hV3.of (hO4.2.1 b (Ne.symm (apart_mb mem3 hV3 q rfl))), (own_keepB own3 fun k hk => hO4.2.1 k (fun z => apart_hm own3 mem3 k hk (by rw [z]; rfl))).wide (Nat.le_refl _) (by omega), mem4.wide (Nat.le_refl _) (by omega), TX.out.blo⟩
    have hs4 : w4.cell? ⟨b, 1, none⟩ = some (.slice (some ⟨q, 0, none⟩) n cq) := tx4.team.cell 1 (by simp)
    have hB4 : Below w0.heap.size w w4 := (((Below.refl w.heap.size w).drew.mono (by have := TX.out.blo; have := TX.out.team.lt; omega)).trans ((hB2.mono (by have := TX.out.blo; have := TX.out.team.lt; have e9 : w.drew.heap.size = w.heap.size := rfl; omega)))).trans ((hO3.2.2 _ TX.out.blo).trans (hO4.2.2 _ hq1))
    refine hK4.out _ _ hs4 (fun _ => ?_)
    refine wpAnyH_done (by kernel_rfl) ?_ _
    go_wp2
    go_ret
    first | exact ⟨rfl, _, tx4, hB4⟩ | exact ⟨rfl, ⟨_, tx4⟩, hB4⟩
end Go.Proofs.Ythjkhghlhjndmaa.ce
/- The program's ownTaken and CrewOk. -/
namespace Go.Proofs.Ythjkhghlhjndmaa.ce
open Go.ChangeShapes Go.WideShapes Go.ChangeAt Go.RowKit
set_option linter.unusedVariables false

theorem RdH.take {w : World} {hi cap : Nat} {a : Option Addr} {ds : List Hd} (r : RdH w hi (.slice a ds.length cap) ds) (n : Nat) (hn : n ≤ ds.length) : RdH w hi (.slice a n cap) (ds.take n) := by
  obtain ⟨a', cap', e, h1, h2, h3⟩ := r.fits
  cases e
  have hl : (ds.take n).length = n := by simp; omega
  refine ⟨a, cap, by rw [hl], by rw [hl]; omega, h2, fun hne => ?_⟩
  obtain ⟨b, off, e2, h4, h5⟩ := h3 (by rintro rfl; simp at hne)
  refine ⟨b, off, e2, h4, fun j v hj => h5 j v ?_⟩
  have ea : hvs ds = hvs (ds.take n) ++ hvs (ds.drop n) := by rw [← hvs_append, List.take_append_drop]
  rw [ea, List.getElem?_append_left (List.getElem?_eq_some_iff.1 hj).1]
  exact hj
/-- is the cell that of another hand? -/
def takenB (ds : List Hd) (own : Int) : Bool := decide (own ≠ -1 ∧ ∃ d ∈ ds, d.own = own)
theorem taken_iff {ds : List Hd} {n : Nat} (hn : n < ds.length) (h1 : -1 ≤ ds[n].own) :
    (takenB (ds.take n) ds[n].own = true → ¬ (∀ k (hk : k < ds.length), k < n → 0 ≤ ds[n].own → ds[k].own ≠ ds[n].own)) ∧ (¬ (∀ k (hk : k < ds.length), k < n → 0 ≤ ds[n].own → ds[k].own ≠ ds[n].own) → takenB (ds.take n) ds[n].own = true) := by
  unfold takenB
  rw [decide_eq_true_iff]
  constructor
  · rintro ⟨hne, d, hd, e⟩ hall
    obtain ⟨k, hk, rfl⟩ := List.getElem_of_mem hd
    have hk' : k < n := by simp at hk; omega
    rw [List.getElem_take] at e
    exact hall k (by omega) hk' (by omega) e
  · intro q
    by_cases h : ∃ k, ∃ hk : k < ds.length, k < n ∧ 0 ≤ ds[n].own ∧ ds[k].own = ds[n].own
    · obtain ⟨k, hk, hkn, h0, e⟩ := h
      exact ⟨by omega, ds[k], List.mem_take_iff_getElem.2 ⟨k, by omega, rfl⟩, e⟩
    · exact absurd (fun k hk hkn h0 e => h ⟨k, hk, hkn, h0, e⟩) q

set_option maxHeartbeats 1000000 in
theorem ownTaken_any (ds : List Hd) (v : Value) (own : Int) (hi : Nat) (w : World) (hh : hi ≤ w.heap.size) (r : RdH w hi v ds) :
    Calls Try.prog 49 #[v, .int .i64 own] w fun e w' => e = .returned (.bool (takenB ds own)) ∧ Below w.heap.size w w' := by
  have hl := r.len
  obtain ⟨c, dc, rfl⟩ := r.form
  have RD : Hid (RdH w hi (.slice c ds.length dc) ds) := r
  clear r
  obtain ⟨z, hz⟩ := hid_ex (takenB ds own)
  rw [hz.out]
  go_enter Try.func49, Try.ntmps49
  go_wp2
  go_loopw [9] (fun v' wr => ∃ i : Nat, i ≤ ds.length ∧ v' = .int .i64 i ∧ Hid (∀ j (hj : j < ds.length), j < i → own ≠ -1 → ds[j].own ≠ own) ∧ Below w.heap.size w wr) (fun v' _ => ds.length - (intOf v').toNat)
  case atStart => exact ⟨0, by omega, rfl, fun j _ h => by omega, Below.refl _ _⟩
  case round =>
    obtain ⟨i, hi1, rfl, ALL, hBr⟩ := hrel
    have hzr := hBr.size
    by_cases hlt : i < ds.length
    · have hlt' : (i : Int) < (ds.length : Int) := by omega
      obtain ⟨d, hd⟩ := hid_ex (ds[i])
      obtain ⟨k, x, y, s, l, e, o, t⟩ := d
      obtain ⟨cb, coff, rfl, hcb, d0, d1, d2, d3, d4, d5, d6, d7⟩ := (RD.out.below hBr hh).cell i hlt hd.out
      by_cases hm : own = -1
      · have g1 : (own != -1) = false := by simp [hm]
        have HM : Hid (own = -1) := hm
        clear hm
        go_wp2_with (first | (refine wpList_alloc_v rfl 58 rfl _ zeroH ?_; intro b5 wz hb5 hwz hBz hVz; have hzz := hBz.size) | (refine wpList_store_v rfl 58 _ _ rfl b5 (hv ⟨k, x, y, s, l, e, o, t⟩) rfl rfl sizeH hVz rfl (hv_one _) ?_; intro wa hOa hVa; have hza := hOa.1; have hb6 : HB wa b5 ⟨k, x, y, s, l, e, o, t⟩ := ⟨hVa⟩; clear d0 d1 d2 d3 d4 d5 d6 d7; obtain ⟨c0, c1, c2, c3, c4, c5, c6, c7⟩ := hb6.cells) | (fail))
        go_roundw
        case rel => exact ⟨i + 1, by omega, by go_num, fun j _ _ q => absurd HM.out q, (hBr.trans (hBz.mono (by omega))).trans (hOa.2.2 _ (by omega))⟩
        case measure => simp [intOf]; omega
      · have g1 : (own != -1) = true := by simp [hm]
        by_cases he : o = own
        · have g2 : (o == own) = true := by simp [he]
          have ez : z = true := by rw [← hz.out]; unfold takenB; exact decide_eq_true ⟨hm, ds[i], List.getElem_mem _, by rw [hd.out]; exact he⟩
          subst ez
          clear he
          go_wp2_with (first | (refine wpList_alloc_v rfl 58 rfl _ zeroH ?_; intro b5 wz hb5 hwz hBz hVz; have hzz := hBz.size) | (refine wpList_store_v rfl 58 _ _ rfl b5 (hv ⟨k, x, y, s, l, e, o, t⟩) rfl rfl sizeH hVz rfl (hv_one _) ?_; intro wa hOa hVa; have hza := hOa.1; have hb6 : HB wa b5 ⟨k, x, y, s, l, e, o, t⟩ := ⟨hVa⟩; clear d0 d1 d2 d3 d4 d5 d6 d7; obtain ⟨c0, c1, c2, c3, c4, c5, c6, c7⟩ := hb6.cells) | (fail))
          go_ret
          exact ⟨rfl, (hBr.trans (hBz.mono (by omega))).trans (hOa.2.2 _ (by omega))⟩
        · have g2 : (o == own) = false := by simp [he]
          have AL2 : Hid (∀ j (hj : j < ds.length), j < i + 1 → own ≠ -1 → ds[j].own ≠ own) := fun j hj hji q => by
            by_cases ej : j = i
            · subst ej; rw [hd.out]; exact he
            · exact ALL.out j hj (by omega) q
          go_wp2_with (first | (refine wpList_alloc_v rfl 58 rfl _ zeroH ?_; intro b5 wz hb5 hwz hBz hVz; have hzz := hBz.size) | (refine wpList_store_v rfl 58 _ _ rfl b5 (hv ⟨k, x, y, s, l, e, o, t⟩) rfl rfl sizeH hVz rfl (hv_one _) ?_; intro wa hOa hVa; have hza := hOa.1; have hb6 : HB wa b5 ⟨k, x, y, s, l, e, o, t⟩ := ⟨hVa⟩; clear d0 d1 d2 d3 d4 d5 d6 d7; obtain ⟨c0, c1, c2, c3, c4, c5, c6, c7⟩ := hb6.cells) | (fail))
          go_roundw
          case rel => exact ⟨i + 1, by omega, by go_num, AL2, (hBr.trans (hBz.mono (by omega))).trans (hOa.2.2 _ (by omega))⟩
          case measure => simp [intOf]; omega
    · have hlt' : ¬ ((i : Int) < (ds.length : Int)) := by omega
      have ez : z = false := by rw [← hz.out]; unfold takenB; exact decide_eq_false (by rintro ⟨q, d, hd, e⟩; obtain ⟨j, hj, rfl⟩ := List.getElem_of_mem hd; exact ALL.out j hj (by omega) q e)
      subst ez
      go_wp2
      go_ret
      exact ⟨rfl, hBr⟩

set_option maxRecDepth 100000 in
set_option maxHeartbeats 2000000 in
theorem implCrewOk_any (H : List C) (ds : List Hd) (vH vD : Value) (hi : Nat) (w : World) (hh : hi ≤ w.heap.size) (rH : Rd w hi vH H) (rD : RdH w hi vD ds) :
    Calls Try.prog 14 #[.agg #[vH, vD]] w fun e w' => e = .returned (.bool (crewB H ds)) ∧ Below w.heap.size w w' := by
  have hl := rD.len
  obtain ⟨a, cap, rfl⟩ := rH.form
  obtain ⟨c, dc, rfl, hdc, hdm, -⟩ := rD.fits
  have RH : Hid (Rd w hi (.slice a H.length cap) H) := rH
  have RD : Hid (RdH w hi (.slice c ds.length dc) ds) := rD
  clear rH rD
  obtain ⟨z, hz⟩ := hid_ex (crewB H ds)
  rw [hz.out]
  by_cases hok : heapOk H
  case neg =>
    have HK : Hid (decide (heapOk H) = false) := decide_eq_false hok
    have ez : z = false := by rw [← hz.out]; exact crewB_false fun q => hok q.heap
    subst ez
    clear hok
    go_enter Try.func14, Try.ntmps14
    go_wp2_with (first | (refine wpList_box_v rfl 31 _ rfl [.slice a H.length cap, .slice c ds.length dc] rfl ?_; intro b1 w1 hb1 hw1 hB1 hV1; have hz1 := hB1.size; have cr0 := hV1.cell 0 (by simp); have cr1 := hV1.cell 1 (by simp); simp only [List.getElem_cons_zero, List.getElem_cons_succ] at cr0 cr1) | (go_at_call 47; refine (implHeapOk_any H _ hi _ (by omega) (RH.out.below hB1 hh)).mono ?_; rintro er w2 ⟨rfl, hB2⟩; rw [HK.out]; have hz2 := hB2.size; have hV2 : VBlk w2 b1 31 [.slice a H.length cap, .slice c ds.length dc] := hV1.of (hB2.block b1 hw1); clear cr0 cr1; have cr0 := hV2.cell 0 (by simp); have cr1 := hV2.cell 1 (by simp); simp only [List.getElem_cons_zero, List.getElem_cons_succ] at cr0 cr1; have hB : Below w.heap.size w w2 := hB1.trans (hB2.mono hz1)) | (fail))
    go_ret
    exact ⟨rfl, hB⟩
  have HK : Hid (decide (heapOk H) = true) := decide_eq_true hok
  have HO : Hid (heapOk H) := hok
  by_cases hl4 : 4 < ds.length
  · have hl4' : (4 : Int) < (ds.length : Int) := by omega
    have ez : z = false := by rw [← hz.out]; exact crewB_false fun q => by have := q.le; omega
    subst ez
    clear hok
    go_enter Try.func14, Try.ntmps14
    go_wp2_with (first | (refine wpList_box_v rfl 31 _ rfl [.slice a H.length cap, .slice c ds.length dc] rfl ?_; intro b1 w1 hb1 hw1 hB1 hV1; have hz1 := hB1.size; have cr0 := hV1.cell 0 (by simp); have cr1 := hV1.cell 1 (by simp); simp only [List.getElem_cons_zero, List.getElem_cons_succ] at cr0 cr1) | (go_at_call 47; refine (implHeapOk_any H _ hi _ (by omega) (RH.out.below hB1 hh)).mono ?_; rintro er w2 ⟨rfl, hB2⟩; rw [HK.out]; have hz2 := hB2.size; have hV2 : VBlk w2 b1 31 [.slice a H.length cap, .slice c ds.length dc] := hV1.of (hB2.block b1 hw1); clear cr0 cr1; have cr0 := hV2.cell 0 (by simp); have cr1 := hV2.cell 1 (by simp); simp only [List.getElem_cons_zero, List.getElem_cons_succ] at cr0 cr1; have hB : Below w.heap.size w w2 := hB1.trans (hB2.mono hz1)) | (fail))
    go_ret
    exact ⟨rfl, hB⟩
  have hl4' : ¬ ((4 : Int) < (ds.length : Int)) := by omega
  have CF : Hid (CrewOk H ds ↔ FirstOk H ds ds.length) := crew_first hok (by omega)
  clear hok
  go_enter Try.func14, Try.ntmps14
  go_wp2_with (first | (refine wpList_box_v rfl 31 _ rfl [.slice a H.length cap, .slice c ds.length dc] rfl ?_; intro b1 w1 hb1 hw1 hB1 hV1; have hz1 := hB1.size; have cr0 := hV1.cell 0 (by simp); have cr1 := hV1.cell 1 (by simp); simp only [List.getElem_cons_zero, List.getElem_cons_succ] at cr0 cr1) | (go_at_call 47; refine (implHeapOk_any H _ hi _ (by omega) (RH.out.below hB1 hh)).mono ?_; rintro er w2 ⟨rfl, hB2⟩; rw [HK.out]; have hz2 := hB2.size; have hV2 : VBlk w2 b1 31 [.slice a H.length cap, .slice c ds.length dc] := hV1.of (hB2.block b1 hw1); clear cr0 cr1; have cr0 := hV2.cell 0 (by simp); have cr1 := hV2.cell 1 (by simp); simp only [List.getElem_cons_zero, List.getElem_cons_succ] at cr0 cr1; have hB : Below w.heap.size w w2 := hB1.trans (hB2.mono hz1)) | (fail))
  have V2 : Hid (VBlk w2 b1 31 [.slice a H.length cap, .slice c ds.length dc]) := hV2
  have HB2 : Hid (Below w.heap.size w w2) := hB
  have h12 : w.heap.size ≤ b1 := by omega
  clear hV1 hV2 hB1 hB2 cr0 cr1 hB
  go_loopw [18] (fun i wr => ∃ n : Nat, i = .int .i64 n ∧ n ≤ ds.length ∧ Hid (FirstOk H ds n) ∧ Below w2.heap.size w2 wr) (fun i _ => ds.length - (intOf i).toNat)
  case atStart => exact ⟨0, rfl, by omega, first_zero H ds, Below.refl _ _⟩
  case round =>
    obtain ⟨n, rfl, hn, FO, hBr⟩ := hrel
    have hzr := hBr.size
    have hbw : b1 < w2.heap.size := V2.out.lt
    have hVr : VBlk wr b1 31 [.slice a H.length cap, .slice c ds.length dc] := V2.out.of (hBr.block b1 hbw)
    have cr0 := hVr.cell 0 (by simp)
    have cr1 := hVr.cell 1 (by simp)
    simp only [List.getElem_cons_zero, List.getElem_cons_succ] at cr0 cr1
    have hBwr : Below w.heap.size w wr := HB2.out.trans (hBr.mono (by omega))
    by_cases hlt : n < ds.length
    · have hlt' : (n : Int) < (ds.length : Int) := by omega
      obtain ⟨d, hd⟩ : ∃ d, ds[n] = d := ⟨_, rfl⟩
      obtain ⟨k, x, y, s, l, e, o, t⟩ := d
      obtain ⟨cb, coff, rfl, hb, g0, g1, g2, g3, g4, g5, g6, g7⟩ := (RD.out.below hBwr hh).cell n hlt hd
      have HDD : Hid (ds[n] = ⟨k, x, y, s, l, e, o, t⟩) := hd
      clear hd
      have hnc : n ≤ dc := by omega
      have hnc' : (n : Int) ≤ (dc : Int) := by omega
      go_wp2_with (first | (refine wpList_alloc_v rfl 58 rfl _ zeroH ?_; intro b4 wz hb4' hwz hBz hVz; have hzz := hBz.size) | (refine wpList_store_v rfl 58 _ _ rfl b4 (hv ⟨k, x, y, s, l, e, o, t⟩) rfl rfl sizeH hVz rfl (hv_one _) ?_; intro wa hOa hVa'; have hza := hOa.1; have hb4 : HB wa b4 ⟨k, x, y, s, l, e, o, t⟩ := ⟨hVa'⟩; clear g0 g1 g2 g3 g4 g5 g6 g7) | (fail))
      have hBa : Below w.heap.size w wa := (hBwr.trans (hBz.mono (by omega))).trans (hOa.2.2 _ (by omega))
      have hVa : VBlk wa b1 31 [.slice a H.length cap, .slice (some ⟨cb, coff, none⟩) ds.length dc] := (hVr.of (hBz.block b1 (by omega))).of (hOa.2.1 b1 (by omega))
      obtain ⟨yk, hyk⟩ := hid_ex (handB H ⟨k, x, y, s, l, e, o, t⟩)
      have hyk2 : Hid (okB H ⟨k, x, y, s, l, e, o, t⟩ = yk) := by unfold Hid; rw [← handB_pos HO.out]; exact hyk.out
      obtain ⟨tk, htk⟩ := hid_ex (takenB (ds.take n) o)
      clear cr0 cr1 hVr hVa'
      refine wp_region_held_drew (S := fun w' => VBlk w' b1 31 [.slice a H.length cap, .slice (some ⟨cb, coff, none⟩) ds.length dc] ∧ HB w' b4 ⟨k, x, y, s, l, e, o, t⟩) (by kernel_rfl) ⟨hVa.drew, hb4.drew⟩ (fun hHeld => ?_)
      refine takeW 0 23 (.pointer (some ⟨b1, 0, none⟩)) rfl (by kernel_rfl) (by kernel_rfl) (by kernel_rfl) (fun _ _ _ h => h) (by kernel_rfl) (fun w' hS => by go_simp) hHeld ?_
      go_frame
      refine takeW 1 24 (.slice a H.length cap) rfl (by kernel_rfl) (by kernel_rfl) (by kernel_rfl) (fun _ _ _ h => h) (by kernel_rfl) (fun w' hS => by obtain ⟨hS1, hS2⟩ := hS; have cr0 := hS1.cell 0 (by simp); have cr1 := hS1.cell 1 (by simp); simp only [List.getElem_cons_zero, List.getElem_cons_succ] at cr0 cr1; go_simp) hHeld ?_
      go_frame
      refine takeW 2 25 (.agg #[.int .i64 k, .int .i64 x, .int .i64 y, .int .i64 s, .int .i64 l, .int .i64 e, .int .i64 o, .int .i64 t]) rfl (by kernel_rfl) (by kernel_rfl) (by kernel_rfl) (fun _ _ _ h => h) (by kernel_rfl) (fun w' hS => by obtain ⟨hS1, hS2⟩ := hS; obtain ⟨c0, c1, c2, c3, c4, c5, c6, c7⟩ := hS2.cells; go_simp) hHeld ?_
      go_frame
      refine wpAnyH_ready (rs := [3]) (by kernel_rfl) (by simp) ?_
      refine AllReadyH.cons rfl (fun K hK => ?_) AllReadyH.nil
      go_simp
      go_at_call 48
      refine (implHandOk_any H ⟨k, x, y, s, l, e, o, t⟩ _ hi wa.drew (by show hi ≤ wa.heap.size; omega) (RH.out.below hBa hh).drew).mono ?_
      rintro er w4 ⟨he, hB4⟩
      rw [hyk.out] at he
      subst he
      have hz4 : wa.heap.size ≤ w4.heap.size := hB4.size
      have hV4 : VBlk w4 b1 31 [.slice a H.length cap, .slice (some ⟨cb, coff, none⟩) ds.length dc] := hVa.of (hB4.block b1 (by show b1 < wa.heap.size; omega))
      have hb5 : HB w4 b4 ⟨k, x, y, s, l, e, o, t⟩ := hb4.of (hB4.block b4 hb4.lt)
      have hBw : Below w.heap.size w w4 := hBa.drew.trans (hB4.mono (by show w.heap.size ≤ wa.heap.size; omega))
      cases yk with
      | false =>
        refine hK.out _ _ ⟨hV4, hb5⟩ (fun hH4 => ?_)
        try go_frame
        refine takeW 4 27 (.bool true) rfl (by kernel_rfl) (by kernel_rfl) (by kernel_rfl) (fun _ _ _ h => h) (by kernel_rfl) (fun w' hS => by go_simp) hH4 ?_
        go_frame
        refine takeW 5 28 (.bool true) rfl (by kernel_rfl) (by kernel_rfl) (by kernel_rfl) (fun _ _ _ h => h) (by kernel_rfl) (fun w' hS => by go_simp) hH4 ?_
        go_frame
        refine takeU 6 29 rfl (by kernel_rfl) (by kernel_rfl) (by kernel_rfl) (fun _ _ _ h => h) (by kernel_rfl) hH4 ?_
        go_frame
        refine takeU 7 30 rfl (by kernel_rfl) (by kernel_rfl) (by kernel_rfl) (fun _ _ _ h => h) (by kernel_rfl) hH4 ?_
        go_frame
        refine takeU 8 31 rfl (by kernel_rfl) (by kernel_rfl) (by kernel_rfl) (fun _ _ _ h => h) (by kernel_rfl) hH4 ?_
        go_frame
        refine takeU 9 32 rfl (by kernel_rfl) (by kernel_rfl) (by kernel_rfl) (fun _ _ _ h => h) (by kernel_rfl) hH4 ?_
        go_frame
        refine takeU 10 33 rfl (by kernel_rfl) (by kernel_rfl) (by kernel_rfl) (fun _ _ _ h => h) (by kernel_rfl) hH4 ?_
        go_frame
        refine takeU 11 34 rfl (by kernel_rfl) (by kernel_rfl) (by kernel_rfl) (fun _ _ _ h => h) (by kernel_rfl) hH4 ?_
        go_frame
        refine takeU 12 35 rfl (by kernel_rfl) (by kernel_rfl) (by kernel_rfl) (fun _ _ _ h => h) (by kernel_rfl) hH4 ?_
        go_frame
        refine takeW 13 36 (.bool true) rfl (by kernel_rfl) (by kernel_rfl) (by kernel_rfl) (fun _ _ _ h => h) (by kernel_rfl) (fun w' hS => by go_simp) hH4 ?_
        go_frame
        refine wpAnyH_done (by kernel_rfl) ?_ _
        have ez : z = false := by rw [← hz.out]; exact crewB_false fun q => by have := okB_iff.2 (q.hands _ (List.getElem_mem hlt)); rw [HDD.out, hyk2.out] at this; cases this
        subst ez
        go_wp2
        go_ret
        exact ⟨rfl, hBw⟩
      | true =>
        refine hK.out _ _ ⟨hV4, hb5⟩ (fun hH4 => ?_)
        try go_frame
        refine takeW 4 27 (.bool false) rfl (by kernel_rfl) (by kernel_rfl) (by kernel_rfl) (fun _ _ _ h => h) (by kernel_rfl) (fun w' hS => by go_simp) hH4 ?_
        go_frame
        refine takeW 5 28 (.bool false) rfl (by kernel_rfl) (by kernel_rfl) (by kernel_rfl) (fun _ _ _ h => h) (by kernel_rfl) (fun w' hS => by go_simp) hH4 ?_
        go_frame
        refine takeW 6 29 (.pointer (some ⟨b1, 1, none⟩)) rfl (by kernel_rfl) (by kernel_rfl) (by kernel_rfl) (fun _ _ _ h => h) (by kernel_rfl) (fun w' hS => by go_simp) hH4 ?_
        go_frame
        refine takeW 7 30 (.slice (some ⟨cb, coff, none⟩) ds.length dc) rfl (by kernel_rfl) (by kernel_rfl) (by kernel_rfl) (fun _ _ _ h => h) (by kernel_rfl) (fun w' hS => by obtain ⟨hS1, hS2⟩ := hS; have cr0 := hS1.cell 0 (by simp); have cr1 := hS1.cell 1 (by simp); simp only [List.getElem_cons_zero, List.getElem_cons_succ] at cr0 cr1; go_simp) hH4 ?_
        go_frame
        refine takeW 8 31 (.int .i64 (n : Int)) rfl (by kernel_rfl) (by kernel_rfl) (by kernel_rfl) (fun _ _ _ h => h) (by kernel_rfl) (fun w' hS => by go_simp) hH4 ?_
        go_frame
        refine takeW 9 32 (.slice (some ⟨cb, coff, none⟩) n dc) rfl (by kernel_rfl) (by kernel_rfl) (by kernel_rfl) (fun _ _ _ h => h) (by kernel_rfl) (fun w' hS => by go_simp) hH4 ?_
        go_frame
        refine takeW 10 33 (.pointer (some ⟨b4, 6, none⟩)) rfl (by kernel_rfl) (by kernel_rfl) (by kernel_rfl) (fun _ _ _ h => h) (by kernel_rfl) (fun w' hS => by go_simp) hH4 ?_
        go_frame
        refine takeW 11 34 (.int .i64 o) rfl (by kernel_rfl) (by kernel_rfl) (by kernel_rfl) (fun _ _ _ h => h) (by kernel_rfl) (fun w' hS => by obtain ⟨hS1, hS2⟩ := hS; obtain ⟨c0, c1, c2, c3, c4, c5, c6, c7⟩ := hS2.cells; go_simp) hH4 ?_
        go_frame
        refine wpAnyH_ready (rs := [12]) (by kernel_rfl) (by simp) ?_
        refine AllReadyH.cons rfl (fun K2 hK2 => ?_) AllReadyH.nil
        go_simp
        go_at_call 49
        refine (ownTaken_any (ds.take n) _ o hi w4 (by omega) ((RD.out.below hBw hh).take n (by omega))).mono ?_
        rintro er w5 ⟨he, hB5⟩
        rw [htk.out] at he
        subst he
        have hz5 : w4.heap.size ≤ w5.heap.size := hB5.size
        refine hK2.out _ _ ⟨hV4.of (hB5.block b1 hV4.lt), hb5.of (hB5.block b4 hb5.lt)⟩ (fun hH5 => ?_)
        try go_frame
        refine takeW 13 36 (.bool tk) rfl (by kernel_rfl) (by kernel_rfl) (by kernel_rfl) (fun _ _ _ h => h) (by kernel_rfl) (fun w' hS => by go_simp) hH5 ?_
        go_frame
        refine wpAnyH_done (by kernel_rfl) ?_ _
        have okd : OkH H ds[n] := by rw [HDD.out]; exact okB_iff.1 hyk2.out
        have TI := taken_iff (n := n) (ds := ds) hlt (own_lt okd).2
        have htk2 : Hid (takenB (ds.take n) ds[n].own = tk) := by unfold Hid; rw [HDD.out]; exact htk.out
        cases tk with
        | true =>
          have ez : z = false := by rw [← hz.out]; exact crewB_false fun q => TI.1 htk2.out ((CF.out.1 q) n hlt (by omega)).2
          subst ez
          go_wp2
          go_ret
          exact ⟨rfl, hBw.trans (hB5.mono (by omega))⟩
        | false =>
          have FN : Hid (FirstOk H ds (n + 1)) := first_succ hlt FO.out okd (Decidable.byContradiction fun q => by have := TI.2 q; rw [htk2.out] at this; cases this)
          go_wp2
          go_roundw
          case rel => exact ⟨n + 1, by go_num, by omega, FN, ((((hBz.trans (hOa.2.2 _ (by omega))).mono (by omega)).drew.trans (hB4.mono (by show w2.heap.size ≤ wa.heap.size; omega))).trans (hB5.mono (by omega))) |> hBr.trans⟩
          case measure => simp [intOf]; omega
    · have hlt' : ¬ ((n : Int) < (ds.length : Int)) := by omega
      have ez : z = true := by rw [← hz.out]; exact crewB_true (CF.out.2 (by rw [show ds.length = n by omega]; exact FO.out))
      subst ez
      go_wp2
      go_ret
      exact ⟨rfl, hBwr⟩
end Go.Proofs.Ythjkhghlhjndmaa.ce
/- The program's AllDone and Picked. -/
namespace Go.Proofs.Ythjkhghlhjndmaa.ce
open Go.ChangeShapes Go.WideShapes Go.ChangeAt Go.RowKit
set_option linter.unusedVariables false

theorem tx_new {w3 w4 w5 w6 : World} {b : Nat} {vH vM : Value} {H : List C} {ds : List Hd} (oH : Own w4 w3.heap.size w4.heap.size vH H) (oM : OwnM w4 w3.heap.size w4.heap.size vM ds) (hB5 : Below w4.heap.size w4 w5) (hb5 : w4.heap.size ≤ b) (hO6 : Only b w5 w6) (hV6 : VBlk w6 b 78 [vH, vM]) (h34 : w3.heap.size ≤ w4.heap.size) : Tx w3 w6 b vH H vM ds := by
  have hz5 := hB5.size
  have hz6 := hO6.1
  exact ⟨hV6, (oH.keep fun j j1 j2 => (hO6.2.1 j (by omega)).trans (hB5.block j (by omega))).wide (by omega) (by omega), (oM.keep fun j j1 j2 => (hO6.2.1 j (by omega)).trans (hB5.block j (by omega))).wide (by omega) (by omega), by omega⟩
theorem fieldT (a b : Option Addr) (m n c d : Nat) (w : World) : (Instr.field 78 (.agg #[.slice a m c, .slice b n d]) 1).run Try.prog w = .ok (.slice b n d) w := by kernel_rfl
theorem allB_no {H : List C} {ds : List Hd} (h : ¬ CrewOk H ds) : allB H ds = false := by
  by_cases q : allDone ds
  · rw [allB_pos q]; exact crewB_false h
  · exact allB_neg q

set_option maxRecDepth 100000 in
set_option maxHeartbeats 2000000 in
theorem implAllDone_any (H : List C) (ds : List Hd) (vH vD : Value) (hi : Nat) (w : World) (hh : hi ≤ w.heap.size) (rH : Rd w hi vH H) (rD : RdH w hi vD ds) :
    Calls Try.prog 32 #[.agg #[vH, vD]] w fun e w' => e = .returned (.bool (allB H ds)) ∧ Below w.heap.size w w' := by
  obtain ⟨a, cap, rfl⟩ := rH.form
  obtain ⟨c, dc, rfl⟩ := rD.form
  have RH : Hid (Rd w hi (.slice a H.length cap) H) := rH
  have RD : Hid (RdH w hi (.slice c ds.length dc) ds) := rD
  clear rH rD
  have m1 : Hid True := trivial
  have m2 : Hid True := trivial
  have m3 : Hid True := trivial
  have m4 : Hid True := trivial
  have m5 : Hid True := trivial
  have m6 : Hid True := trivial
  obtain ⟨z, hz⟩ := hid_ex (allB H ds)
  rw [hz.out]
  by_cases hok : CrewOk H ds
  case neg =>
    have KB : Hid (crewB H ds = false) := crewB_false hok
    have ez : z = false := by rw [← hz.out]; exact allB_no hok
    subst ez
    clear hok
    go_enter Try.func32, Try.ntmps32
    go_wp2_with (first | (clear m1; refine wpList_box_v rfl 31 _ rfl [.slice a H.length cap, .slice c ds.length dc] rfl ?_; intro b1 w1 hb1 hw1 hB1 hV1; have hz1 := hB1.size; have cr0 := hV1.cell 0 (by simp); have cr1 := hV1.cell 1 (by simp); simp only [List.getElem_cons_zero, List.getElem_cons_succ] at cr0 cr1; have hB : Below w.heap.size w w1 := hB1) | (clear m3; go_at_call 14; refine (implCrewOk_any H ds _ _ hi _ (by omega) (RH.out.below hB hh) (RD.out.below hB hh)).mono ?_; rintro er w3 ⟨rfl, hB3⟩; rw [KB.out]; have hz3 := hB3.size; clear cr0 cr1; replace hV1 := hV1.of (hB3.block b1 (by omega)); have cr0 := hV1.cell 0 (by simp); have cr1 := hV1.cell 1 (by simp); simp only [List.getElem_cons_zero, List.getElem_cons_succ] at cr0 cr1; replace hB := hB.trans (hB3.mono (by omega))) | (fail))
    go_ret
    exact ⟨rfl, hB⟩
  have KB : Hid (crewB H ds = true) := crewB_true hok
  have OK : Hid (CrewOk H ds) := hok
  have hl4 := hok.le
  have hfi := fieldT
  clear hok
  go_enter Try.func32, Try.ntmps32
  go_wp2_with (first | (clear m1; refine wpList_box_v rfl 31 _ rfl [.slice a H.length cap, .slice c ds.length dc] rfl ?_; intro b1 w1 hb1 hw1 hB1 hV1; have hz1 := hB1.size; have cr0 := hV1.cell 0 (by simp); have cr1 := hV1.cell 1 (by simp); simp only [List.getElem_cons_zero, List.getElem_cons_succ] at cr0 cr1; have hB : Below w.heap.size w w1 := hB1) | (clear m3; go_at_call 14; refine (implCrewOk_any H ds _ _ hi _ (by omega) (RH.out.below hB hh) (RD.out.below hB hh)).mono ?_; rintro er w3 ⟨rfl, hB3⟩; rw [KB.out]; have hz3 := hB3.size; clear cr0 cr1; replace hV1 := hV1.of (hB3.block b1 (by omega)); have cr0 := hV1.cell 0 (by simp); have cr1 := hV1.cell 1 (by simp); simp only [List.getElem_cons_zero, List.getElem_cons_succ] at cr0 cr1; replace hB := hB.trans (hB3.mono (by omega))) | (clear m4; go_at_call 55; refine (teamOf_any H ds _ _ hi _ (by omega) (RH.out.below hB hh) (RD.out.below hB hh) OK.out.heap.1 OK.out.le).mono ?_; rintro er w4 ⟨vH4, vM4, rfl, oH4, oM4, hB4⟩; have hz4 := hB4.size; obtain ⟨gH, cH, rfl, hgH, hgH', -⟩ := oH4.form OK.out.heap.1.1; obtain ⟨aM, cM, rfl⟩ := oM4.rd.form; replace hB := hB.trans (hB4.mono (by omega))) | (fail))
  have RM : Hid (RdM w4 w4.heap.size (.slice aM ds.length cM) ds) := oM4.rd
  clear oH4 oM4 cr0 cr1
  go_loopw [12] (fun v' wr => ∃ i : Nat, i ≤ ds.length ∧ v' = .int .i64 i ∧ Hid (∀ j (hj : j < ds.length), j < i → ds[j].step = 5) ∧ wr = w4) (fun v' _ => ds.length - (intOf v').toNat)
  case atStart => exact ⟨0, by omega, rfl, fun j _ h => by omega, rfl⟩
  case round =>
    obtain ⟨i, hi1, rfl, ALL, hwr⟩ := hrel
    subst hwr
    by_cases hlt : i < ds.length
    · have hlt' : (i : Int) < (ds.length : Int) := by omega
      obtain ⟨cb, coff, rfl, hcb, d0⟩ := RM.out.cell i hlt
      obtain ⟨d, hd⟩ := hid_ex (ds[i])
      rw [hd.out] at d0
      obtain ⟨M, hM⟩ := hid_ex (mv d)
      have MT : ∃ T V, M = .iface T V := ⟨_, _, hM.out.symm⟩
      obtain ⟨T, V, rfl⟩ := MT
      rw [hM.out] at d0
      obtain ⟨y, hy⟩ := hid_ex (decide (d.step = 5))
      cases y with
      | false =>
        have h5 : d.step ≠ 5 := of_decide_eq_false hy.out
        have ez : z = false := by rw [← hz.out]; exact allB_neg fun q => h5 (by rw [← hd.out]; exact q _ (List.getElem_mem hlt))
        subst ez
        clear h5
        go_wp2_with (first | (go_at_call 63; rw [← hM.out]; refine (isDone_any d _).mono ?_; rintro er wq ⟨he, hq⟩; subst wq; rw [hy.out] at he; subst he) | (fail))
        go_ret
        exact ⟨rfl, hB⟩
      | true =>
        have h5 : d.step = 5 := of_decide_eq_true hy.out
        have AL2 : Hid (∀ j (hj : j < ds.length), j < i + 1 → ds[j].step = 5) := fun j hj hji => by
          by_cases ej : j = i
          · subst ej; rw [hd.out]; exact h5
          · exact ALL.out j hj (by omega)
        clear h5
        go_wp2_with (first | (go_at_call 63; rw [← hM.out]; refine (isDone_any d _).mono ?_; rintro er wq ⟨he, hq⟩; subst wq; rw [hy.out] at he; subst he) | (fail))
        go_roundw
        case rel => first | exact ⟨i + 1, by omega, by go_num, AL2, rfl⟩ | exact ⟨i + 1, by omega, by go_num, AL2, trivial⟩
        case measure => simp [intOf]; omega
    · have hlt' : ¬ ((i : Int) < (ds.length : Int)) := by omega
      have ez : z = true := by rw [← hz.out, allB_pos (fun d hd => by obtain ⟨j, hj, rfl⟩ := List.getElem_of_mem hd; exact ALL.out j hj (by omega))]; exact KB.out
      subst ez
      go_wp2
      go_ret
      exact ⟨rfl, hB⟩

set_option maxRecDepth 100000 in
set_option maxHeartbeats 2000000 in
theorem implPicked_no (H : List C) (ds : List Hd) (vH vD : Value) (hi : Nat) (w : World) (hh : hi ≤ w.heap.size) (rH : Rd w hi vH H) (rD : RdH w hi vD ds) (who : Int) (hok : ¬ CrewOk H ds) :
    Calls Try.prog 25 #[.agg #[vH, vD], .int .i64 who] w fun e w' => e = .returned (.tuple #[.agg #[.slice none 0 0, .slice none 0 0], .bool false]) ∧ Below w.heap.size w w' := by
  obtain ⟨a, cap, rfl⟩ := rH.form
  obtain ⟨c, dc, rfl⟩ := rD.form
  have RH : Hid (Rd w hi (.slice a H.length cap) H) := rH
  have RD : Hid (RdH w hi (.slice c ds.length dc) ds) := rD
  clear rH rD
  have m1 : Hid True := trivial
  have m2 : Hid True := trivial
  have m3 : Hid True := trivial
  have m4 : Hid True := trivial
  have m5 : Hid True := trivial
  have m6 : Hid True := trivial
  have KB : Hid (crewB H ds = false) := crewB_false hok
  clear hok
  go_enter Try.func25, Try.ntmps25
  go_wp2_with (first | (clear m1; refine wpList_box_v rfl 31 _ rfl [.slice a H.length cap, .slice c ds.length dc] rfl ?_; intro b1 w1 hb1 hw1 hB1 hV1; have hz1 := hB1.size; have cr0 := hV1.cell 0 (by simp); have cr1 := hV1.cell 1 (by simp); simp only [List.getElem_cons_zero, List.getElem_cons_succ] at cr0 cr1; have hB : Below w.heap.size w w1 := hB1) | (clear m2; refine wpList_alloc_v rfl 31 rfl _ zeroCr ?_; intro b2 w2 hb2 hw2 hB2 hV2; have hz2 := hB2.size; clear cr0 cr1; replace hV1 := hV1.of (hB2.block b1 (by omega)); have cr0 := hV1.cell 0 (by simp); have cr1 := hV1.cell 1 (by simp); simp only [List.getElem_cons_zero, List.getElem_cons_succ] at cr0 cr1; replace hB := hB.trans (hB2.mono (by omega))) | (clear m3; go_at_call 14; refine (implCrewOk_any H ds _ _ hi _ (by omega) (RH.out.below hB hh) (RD.out.below hB hh)).mono ?_; rintro er w3 ⟨rfl, hB3⟩; rw [KB.out]; have hz3 := hB3.size; clear cr0 cr1; replace hV1 := hV1.of (hB3.block b1 (by omega)); have cr0 := hV1.cell 0 (by simp); have cr1 := hV1.cell 1 (by simp); simp only [List.getElem_cons_zero, List.getElem_cons_succ] at cr0 cr1; replace hB := hB.trans (hB3.mono (by omega))) | (refine wpList_store_v rfl 31 _ _ rfl b2 [.slice none 0 0, .slice none 0 0] rfl rfl sizeCr (hV2.of (hB3.block b2 (by omega))) rfl (by simp [Value.oneCell']) ?_; intro w9 hO9 hV9; have hz9 := hO9.1) | (fail))
  exact row_cell_tmp rfl rfl rfl hV9 Try.underlying31 sizeCr rfl ⟨rfl, hB.trans (hO9.2.2 _ (by omega))⟩

set_option maxRecDepth 100000 in
set_option maxHeartbeats 2000000 in
theorem implPicked_any (H : List C) (ds : List Hd) (vH vD : Value) (hi : Nat) (w : World) (hh : hi ≤ w.heap.size) (rH : Rd w hi vH H) (rD : RdH w hi vD ds) (who : Int) (hok : CrewOk H ds) :
    Calls Try.prog 25 #[.agg #[vH, vD], .int .i64 who] w fun e w' => ∃ vH' vD', e = .returned (.tuple #[.agg #[vH', vD'], .bool (pickBZ ds who)]) ∧ Own w' w.heap.size w'.heap.size vH' (pickHZ H ds who) ∧ OwnH w' w.heap.size w'.heap.size vD' (pickDZ H ds who) ∧ Below w.heap.size w w' := by
  obtain ⟨a, cap, rfl⟩ := rH.form
  obtain ⟨c, dc, rfl⟩ := rD.form
  have RH : Hid (Rd w hi (.slice a H.length cap) H) := rH
  have RD : Hid (RdH w hi (.slice c ds.length dc) ds) := rD
  clear rH rD
  have m1 : Hid True := trivial
  have m2 : Hid True := trivial
  have m3 : Hid True := trivial
  have m4 : Hid True := trivial
  have m5 : Hid True := trivial
  have m6 : Hid True := trivial
  have KB : Hid (crewB H ds = true) := crewB_true hok
  have OK : Hid (CrewOk H ds) := hok
  have LE : Hid ((pickDZ H ds who).length ≤ 4) := (crew_pickZ hok who).le
  have LE1 : Hid (1 ≤ (pickHZ H ds who).length) := (crew_pickZ hok who).heap.1.1
  clear hok
  obtain ⟨HH, hHH⟩ := hid_ex (pickHZ H ds who)
  obtain ⟨DD, hDD⟩ := hid_ex (pickDZ H ds who)
  obtain ⟨z, hz⟩ := hid_ex (pickBZ ds who)
  rw [hHH.out] at LE1
  rw [hDD.out] at LE
  rw [hHH.out, hDD.out, hz.out]
  go_enter Try.func25, Try.ntmps25
  go_wp2_with (first | (clear m1; refine wpList_box_v rfl 31 _ rfl [.slice a H.length cap, .slice c ds.length dc] rfl ?_; intro b1 w1 hb1 hw1 hB1 hV1; have hz1 := hB1.size; have cr0 := hV1.cell 0 (by simp); have cr1 := hV1.cell 1 (by simp); simp only [List.getElem_cons_zero, List.getElem_cons_succ] at cr0 cr1; have hB : Below w.heap.size w w1 := hB1) | (clear m2; refine wpList_alloc_v rfl 31 rfl _ zeroCr ?_; intro b2 w2 hb2 hw2 hB2 hV2; have hz2 := hB2.size; clear cr0 cr1; replace hV1 := hV1.of (hB2.block b1 (by omega)); have cr0 := hV1.cell 0 (by simp); have cr1 := hV1.cell 1 (by simp); simp only [List.getElem_cons_zero, List.getElem_cons_succ] at cr0 cr1; replace hB := hB.trans (hB2.mono (by omega))) | (clear m3; go_at_call 14; refine (implCrewOk_any H ds _ _ hi _ (by omega) (RH.out.below hB hh) (RD.out.below hB hh)).mono ?_; rintro er w3 ⟨rfl, hB3⟩; rw [KB.out]; have hz3 := hB3.size; clear cr0 cr1; replace hV1 := hV1.of (hB3.block b1 (by omega)); have cr0 := hV1.cell 0 (by simp); have cr1 := hV1.cell 1 (by simp); simp only [List.getElem_cons_zero, List.getElem_cons_succ] at cr0 cr1; replace hB := hB.trans (hB3.mono (by omega))) | (clear m4; go_at_call 55; refine (teamOf_any H ds _ _ hi _ (by omega) (RH.out.below hB hh) (RD.out.below hB hh) OK.out.heap.1 OK.out.le).mono ?_; rintro er w4 ⟨vH4, vM4, rfl, oH4, oM4, hB4⟩; have hz4 := hB4.size; obtain ⟨gH, cH, rfl, hgH, hgH', -⟩ := oH4.form OK.out.heap.1.1; obtain ⟨aM, cM, rfl⟩ := oM4.rd.form; replace hB := hB.trans (hB4.mono (by omega))) | (clear m5; refine wpList_alloc_v rfl 78 rfl _ zeroT ?_; intro b6 w5 hb6 hw5 hB5 hV5; have hz5 := hB5.size) | (clear m6; refine wpList_store_v rfl 78 _ _ rfl b6 [.slice (some ⟨gH, 0, none⟩) H.length cH, .slice aM ds.length cM] rfl rfl sizeT hV5 rfl (by simp [Value.oneCell']) ?_; intro w6 hO6 hV6; have hz6 := hO6.1; have TX6 : Tx w3 w6 b6 (.slice (some ⟨gH, 0, none⟩) H.length cH) H (.slice aM ds.length cM) ds := tx_new oH4 oM4 hB5 hb6 hO6 hV6 (by omega); have hB6 : Below w.heap.size w w6 := (hB.trans (hB5.mono (by omega))).trans (hO6.2.2 _ (by omega)); have hV26 := (((hV2.of (hB3.block b2 (by omega))).of (hB4.block b2 (by omega))).of (hB5.block b2 (by omega))).of (hO6.2.1 b2 (by omega))) | (go_at_call 62; refine (pick_any w3 w6 b6 _ H _ ds TX6 OK.out who).mono ?_; rintro er w7 ⟨he, vH7, tx7, hB7⟩; rw [hz.out] at he; subst he; rw [hHH.out, hDD.out] at tx7; have hz7 := hB7.size; obtain ⟨g7, c7, rfl, hg7, hg7', -⟩ := tx7.heap.form LE1.out; have ct0 := tx7.team.cell 0 (by simp); have ct1 := tx7.team.cell 1 (by simp); simp only [List.getElem_cons_zero, List.getElem_cons_succ] at ct0 ct1) | (go_at_call 56; refine (crew_any (DD) _ _ _ _ w7.heap.size _ (Nat.le_refl _) tx7.mem.rd (by exact LE.out)).mono ?_; rintro er w8 ⟨vD8, rfl, oD8, hB8⟩; have hz8 := hB8.size; obtain ⟨aD, cD, rfl⟩ := oD8.len) | (refine wpList_store_v rfl 31 _ _ rfl b2 [.slice (some ⟨g7, 0, none⟩) HH.length c7, .slice aD DD.length cD] rfl rfl sizeCr ((hV26.of (hB7.block b2 (by omega))).of (hB8.block b2 (by omega))) rfl (by simp [Value.oneCell']) ?_; intro w9 hO9 hV9; have hz9 := hO9.1) | (fail))
  refine row_cell_tmp rfl rfl rfl hV9 Try.underlying31 sizeCr rfl ⟨_, _, rfl, ?_, ?_, ?_⟩
  · exact ((tx7.heap.keep fun j j1 j2 => hB8.block j j2).keep fun j j1 j2 => hO9.2.1 j (by omega)).wide (by omega) (by omega)
  · exact (oD8.keep fun j j1 j2 => hO9.2.1 j (by omega)).wide (by omega) (by omega)
  · exact ((hB6.trans (hB7.mono (by omega))).trans (hB8.mono (by omega))).trans (hO9.2.2 _ (by omega))
end Go.Proofs.Ythjkhghlhjndmaa.ce
/- The model's NewCrew. -/
namespace Go.Proofs.Ythjkhghlhjndmaa.ce
open Go.ChangeShapes Go.WideShapes Go.ChangeAt Go.RowKit
set_option linter.unusedVariables false

/-- hands that may begin at a new heap -/
def NewOk (ds : List Hd) : Prop := CrewOk [c0] ds ∧ ∀ d ∈ ds, d.step = 0
open Classical in
noncomputable def nwB (ds : List Hd) : Bool := decide (NewOk ds)
open Classical in
noncomputable def nwH (ds : List Hd) : List C := if NewOk ds then [c0] else []
open Classical in
noncomputable def nwD (ds : List Hd) : List Hd := if NewOk ds then ds else []
theorem nw_yes {ds : List Hd} (h : NewOk ds) : nwB ds = true ∧ nwH ds = [c0] ∧ nwD ds = ds := by unfold nwB nwH nwD; simp [h]
theorem nw_no {ds : List Hd} (h : ¬ NewOk ds) : nwB ds = false ∧ nwH ds = [] ∧ nwD ds = [] := by unfold nwB nwH nwD; simp [h]
theorem nw_small (ds : List Hd) : (nwH ds).length ≤ 1048576 ∧ (nwD ds).length ≤ 1048576 := by
  by_cases h : NewOk ds
  · obtain ⟨-, e1, e2⟩ := nw_yes h
    rw [e1, e2]
    exact h.1.small
  · obtain ⟨-, e1, e2⟩ := nw_no h
    rw [e1, e2]
    simp
end Go.Proofs.Ythjkhghlhjndmaa.ce
/- The program's Ran and NewCrew; the model's NewCrew. -/
namespace Go.Proofs.Ythjkhghlhjndmaa.ce
open Go.ChangeShapes Go.WideShapes Go.ChangeAt Go.RowKit
set_option linter.unusedVariables false

set_option maxRecDepth 100000 in
set_option maxHeartbeats 2000000 in
theorem implRan_no (H : List C) (ds : List Hd) (vH vD : Value) (hi : Nat) (w : World) (hh : hi ≤ w.heap.size) (rH : Rd w hi vH H) (rD : RdH w hi vD ds) (qs : List Int) (vQ : Value) (rQ : RdI w hi vQ qs) (hok : ¬ (CrewOk H ds ∧ qs.length ≤ 300)) :
    Calls Try.prog 28 #[.agg #[vH, vD], vQ] w fun e w' => e = .returned (.agg #[.slice none 0 0, .slice none 0 0]) ∧ Below w.heap.size w w' := by
  have hlq := rQ.len
  obtain ⟨a, cap, rfl⟩ := rH.form
  obtain ⟨c, dc, rfl⟩ := rD.form
  have RH : Hid (Rd w hi (.slice a H.length cap) H) := rH
  have RD : Hid (RdH w hi (.slice c ds.length dc) ds) := rD
  clear rH rD
  have m1 : Hid True := trivial
  have m2 : Hid True := trivial
  have m3 : Hid True := trivial
  have m4 : Hid True := trivial
  have m5 : Hid True := trivial
  have m6 : Hid True := trivial
  obtain ⟨x, xc, rfl⟩ := rQ.form
  have RQ : Hid (RdI w hi (.slice x qs.length xc) qs) := rQ
  clear rQ
  by_cases hc : CrewOk H ds
  · have KB : Hid (crewB H ds = true) := crewB_true hc
    have hq : (300 : Int) < (qs.length : Int) := by
      have : ¬ qs.length ≤ 300 := fun q => hok ⟨hc, q⟩
      omega
    clear hok hc
    go_enter Try.func28, Try.ntmps28
    go_wp2_with (first | (clear m1; refine wpList_box_v rfl 31 _ rfl [.slice a H.length cap, .slice c ds.length dc] rfl ?_; intro b1 w1 hb1 hw1 hB1 hV1; have hz1 := hB1.size; have cr0 := hV1.cell 0 (by simp); have cr1 := hV1.cell 1 (by simp); simp only [List.getElem_cons_zero, List.getElem_cons_succ] at cr0 cr1; have hB : Below w.heap.size w w1 := hB1) | (clear m2; refine wpList_alloc_v rfl 31 rfl _ zeroCr ?_; intro b2 w2 hb2 hw2 hB2 hV2; have hz2 := hB2.size; clear cr0 cr1; replace hV1 := hV1.of (hB2.block b1 (by omega)); have cr0 := hV1.cell 0 (by simp); have cr1 := hV1.cell 1 (by simp); simp only [List.getElem_cons_zero, List.getElem_cons_succ] at cr0 cr1; replace hB := hB.trans (hB2.mono (by omega))) | (clear m3; go_at_call 14; refine (implCrewOk_any H ds _ _ hi _ (by omega) (RH.out.below hB hh) (RD.out.below hB hh)).mono ?_; rintro er w3 ⟨rfl, hB3⟩; rw [KB.out]; have hz3 := hB3.size; clear cr0 cr1; replace hV1 := hV1.of (hB3.block b1 (by omega)); have cr0 := hV1.cell 0 (by simp); have cr1 := hV1.cell 1 (by simp); simp only [List.getElem_cons_zero, List.getElem_cons_succ] at cr0 cr1; replace hB := hB.trans (hB3.mono (by omega))) | (refine wpList_store_v rfl 31 _ _ rfl b2 [.slice none 0 0, .slice none 0 0] rfl rfl sizeCr (hV2.of (hB3.block b2 (by omega))) rfl (by simp [Value.oneCell']) ?_; intro w9 hO9 hV9; have hz9 := hO9.1) | (fail))
    exact row_retv rfl rfl hV9 Try.underlying31 sizeCr rfl ⟨rfl, hB.trans (hO9.2.2 _ (by omega))⟩
  · have KB : Hid (crewB H ds = false) := crewB_false hc
    clear hok hc
    go_enter Try.func28, Try.ntmps28
    go_wp2_with (first | (clear m1; refine wpList_box_v rfl 31 _ rfl [.slice a H.length cap, .slice c ds.length dc] rfl ?_; intro b1 w1 hb1 hw1 hB1 hV1; have hz1 := hB1.size; have cr0 := hV1.cell 0 (by simp); have cr1 := hV1.cell 1 (by simp); simp only [List.getElem_cons_zero, List.getElem_cons_succ] at cr0 cr1; have hB : Below w.heap.size w w1 := hB1) | (clear m2; refine wpList_alloc_v rfl 31 rfl _ zeroCr ?_; intro b2 w2 hb2 hw2 hB2 hV2; have hz2 := hB2.size; clear cr0 cr1; replace hV1 := hV1.of (hB2.block b1 (by omega)); have cr0 := hV1.cell 0 (by simp); have cr1 := hV1.cell 1 (by simp); simp only [List.getElem_cons_zero, List.getElem_cons_succ] at cr0 cr1; replace hB := hB.trans (hB2.mono (by omega))) | (clear m3; go_at_call 14; refine (implCrewOk_any H ds _ _ hi _ (by omega) (RH.out.below hB hh) (RD.out.below hB hh)).mono ?_; rintro er w3 ⟨rfl, hB3⟩; rw [KB.out]; have hz3 := hB3.size; clear cr0 cr1; replace hV1 := hV1.of (hB3.block b1 (by omega)); have cr0 := hV1.cell 0 (by simp); have cr1 := hV1.cell 1 (by simp); simp only [List.getElem_cons_zero, List.getElem_cons_succ] at cr0 cr1; replace hB := hB.trans (hB3.mono (by omega))) | (refine wpList_store_v rfl 31 _ _ rfl b2 [.slice none 0 0, .slice none 0 0] rfl rfl sizeCr (hV2.of (hB3.block b2 (by omega))) rfl (by simp [Value.oneCell']) ?_; intro w9 hO9 hV9; have hz9 := hO9.1) | (fail))
    exact row_retv rfl rfl hV9 Try.underlying31 sizeCr rfl ⟨rfl, hB.trans (hO9.2.2 _ (by omega))⟩

set_option maxRecDepth 100000 in
set_option maxHeartbeats 2000000 in
theorem implRan_any (H : List C) (ds : List Hd) (vH vD : Value) (hi : Nat) (w : World) (hh : hi ≤ w.heap.size) (rH : Rd w hi vH H) (rD : RdH w hi vD ds) (qs : List Int) (vQ : Value) (rQ : RdI w hi vQ qs) (hok : CrewOk H ds) (hq : qs.length ≤ 300) :
    Calls Try.prog 28 #[.agg #[vH, vD], vQ] w fun e w' => ∃ vH' vD', e = .returned (.agg #[vH', vD']) ∧ Own w' w.heap.size w'.heap.size vH' ((runP H ds qs).1) ∧ OwnH w' w.heap.size w'.heap.size vD' ((runP H ds qs).2) ∧ Below w.heap.size w w' := by
  obtain ⟨a, cap, rfl⟩ := rH.form
  obtain ⟨c, dc, rfl⟩ := rD.form
  have RH : Hid (Rd w hi (.slice a H.length cap) H) := rH
  have RD : Hid (RdH w hi (.slice c ds.length dc) ds) := rD
  clear rH rD
  have m1 : Hid True := trivial
  have m2 : Hid True := trivial
  have m3 : Hid True := trivial
  have m4 : Hid True := trivial
  have m5 : Hid True := trivial
  have m6 : Hid True := trivial
  obtain ⟨x, xc, rfl⟩ := rQ.form
  have RQ : Hid (RdI w hi (.slice x qs.length xc) qs) := rQ
  clear rQ
  have KB : Hid (crewB H ds = true) := crewB_true hok
  have OK : Hid (CrewOk H ds) := hok
  have hq' : ¬ ((300 : Int) < (qs.length : Int)) := by omega
  have HC : ∀ n, Hid (CrewOk (runP H ds (qs.take n)).1 (runP H ds (qs.take n)).2) := fun n => crew_run _ _ _ OK.out
  clear hok
  go_enter Try.func28, Try.ntmps28
  go_wp2_with (first | (clear m1; refine wpList_box_v rfl 31 _ rfl [.slice a H.length cap, .slice c ds.length dc] rfl ?_; intro b1 w1 hb1 hw1 hB1 hV1; have hz1 := hB1.size; have cr0 := hV1.cell 0 (by simp); have cr1 := hV1.cell 1 (by simp); simp only [List.getElem_cons_zero, List.getElem_cons_succ] at cr0 cr1; have hB : Below w.heap.size w w1 := hB1) | (clear m2; refine wpList_alloc_v rfl 31 rfl _ zeroCr ?_; intro b2 w2 hb2 hw2 hB2 hV2; have hz2 := hB2.size; clear cr0 cr1; replace hV1 := hV1.of (hB2.block b1 (by omega)); have cr0 := hV1.cell 0 (by simp); have cr1 := hV1.cell 1 (by simp); simp only [List.getElem_cons_zero, List.getElem_cons_succ] at cr0 cr1; replace hB := hB.trans (hB2.mono (by omega))) | (clear m3; go_at_call 14; refine (implCrewOk_any H ds _ _ hi _ (by omega) (RH.out.below hB hh) (RD.out.below hB hh)).mono ?_; rintro er w3 ⟨rfl, hB3⟩; rw [KB.out]; have hz3 := hB3.size; clear cr0 cr1; replace hV1 := hV1.of (hB3.block b1 (by omega)); have cr0 := hV1.cell 0 (by simp); have cr1 := hV1.cell 1 (by simp); simp only [List.getElem_cons_zero, List.getElem_cons_succ] at cr0 cr1; replace hB := hB.trans (hB3.mono (by omega))) | (clear m4; go_at_call 55; refine (teamOf_any H ds _ _ hi _ (by omega) (RH.out.below hB hh) (RD.out.below hB hh) OK.out.heap.1 OK.out.le).mono ?_; rintro er w4 ⟨vH4, vM4, rfl, oH4, oM4, hB4⟩; have hz4 := hB4.size; obtain ⟨gH, cH, rfl, hgH, hgH', -⟩ := oH4.form OK.out.heap.1.1; obtain ⟨aM, cM, rfl⟩ := oM4.rd.form; replace hB := hB.trans (hB4.mono (by omega))) | (clear m5; refine wpList_alloc_v rfl 78 rfl _ zeroT ?_; intro b6 w5 hb6 hw5 hB5 hV5; have hz5 := hB5.size) | (clear m6; refine wpList_store_v rfl 78 _ _ rfl b6 [.slice (some ⟨gH, 0, none⟩) H.length cH, .slice aM ds.length cM] rfl rfl sizeT hV5 rfl (by simp [Value.oneCell']) ?_; intro w6 hO6 hV6; have hz6 := hO6.1; have TX6 : Tx w3 w6 b6 (.slice (some ⟨gH, 0, none⟩) H.length cH) H (.slice aM ds.length cM) ds := tx_new oH4 oM4 hB5 hb6 hO6 hV6 (by omega); have hB6 : Below w.heap.size w w6 := (hB.trans (hB5.mono (by omega))).trans (hO6.2.2 _ (by omega)); have hV26 := (((hV2.of (hB3.block b2 (by omega))).of (hB4.block b2 (by omega))).of (hB5.block b2 (by omega))).of (hO6.2.1 b2 (by omega))) | (fail))
  have V2 : Hid (VBlk w6 b2 31 [.slice none 0 0, .slice none 0 0]) := hV26
  have HB6 : Hid (Below w.heap.size w w6) := hB6
  have TX : Hid (Tx w3 w6 b6 (.slice (some ⟨gH, 0, none⟩) H.length cH) H (.slice aM ds.length cM) ds) := TX6
  have h36 : w3.heap.size ≤ w6.heap.size := by omega
  have h03 : w.heap.size ≤ w3.heap.size := by omega
  have hb23 : b2 < w3.heap.size ∧ w.heap.size ≤ b2 := by omega
  obtain ⟨n0, hn0⟩ := hid_ex ds.length
  clear cr0 cr1 hV1 hV2 hV5 hV6 hV26 oH4 oM4 hB1 hB2 hB3 hB4 hB5 hO6 hB hB6 TX6 hz1 hz2 hz3 hz4 hz5 hz6 hw1 hw2 hw5 hb1 hb2
  go_loopw [21] (fun i wr => ∃ (n : Nat) (vH' : Value), i = .int .i64 n ∧ n ≤ qs.length ∧ Hid (Tx w3 wr b6 vH' (runP H ds (qs.take n)).1 (.slice aM ds.length cM) (runP H ds (qs.take n)).2) ∧ Below w3.heap.size w6 wr) (fun i _ => qs.length - (intOf i).toNat)
  case atStart => exact ⟨0, _, rfl, by omega, TX, Below.refl _ _⟩
  case round =>
    obtain ⟨n, vH', rfl, hn, CN, hBr⟩ := hrel
    have hzr := hBr.size
    have hBwr : Below w.heap.size w wr := HB6.out.trans (hBr.mono (by omega))
    by_cases hlt : n < qs.length
    · have hlt' : (n : Int) < (qs.length : Int) := by omega
      obtain ⟨bq, oq, rfl, hbq, gq⟩ := (RQ.out.below hBwr hh).cell n hlt
      have hC := HC n
      have hT : Hid (runP H ds (qs.take (n + 1)) = (pickHZ (runP H ds (qs.take n)).1 (runP H ds (qs.take n)).2 qs[n], pickDZ (runP H ds (qs.take n)).1 (runP H ds (qs.take n)).2 qs[n])) := by unfold Hid; rw [← runP_snoc, List.take_succ_eq_append_getElem hlt]
      obtain ⟨Z, hZ⟩ := hid_ex (runP H ds (qs.take n))
      obtain ⟨z, hz⟩ := hid_ex qs[n]
      rw [hz.out] at gq
      rw [hZ.out] at CN hC
      unfold Hid at hT
      rw [hZ.out, hz.out] at hT
      have HT : Hid (runP H ds (qs.take (n + 1)) = (pickHZ Z.1 Z.2 z, pickDZ Z.1 Z.2 z)) := hT
      clear hT
      go_wp2_with (first | (go_at_call 62; refine (pick_any w3 wr b6 _ Z.1 _ Z.2 CN.out hC.out z).mono ?_; rintro er w7 ⟨rfl, vH7, cx7, hB7⟩; have hz7 := hB7.size; have C7 : Hid (Tx w3 w7 b6 vH7 (pickHZ Z.1 Z.2 z) (.slice aM ds.length cM) (pickDZ Z.1 Z.2 z)) := cx7; clear cx7) | (fail))
      go_roundw
      case rel => exact ⟨n + 1, vH7, by go_num, by omega, (by rw [HT.out]; exact C7), hBr.trans hB7⟩
      case measure => simp [intOf]; omega
    · have hlt' : ¬ ((n : Int) < (qs.length : Int)) := by omega
      have en : n = qs.length := by omega
      subst en
      have hC := HC qs.length
      rw [List.take_length] at CN hC
      have LE : Hid ((runP H ds qs).2.length ≤ 4) := hC.out.le
      obtain ⟨a7, c7, rfl⟩ := own_slice CN.out.heap
      have cr0 := CN.out.team.cell 0 (by simp)
      have cr1 := CN.out.team.cell 1 (by simp)
      simp only [List.getElem_cons_zero, List.getElem_cons_succ] at cr0 cr1
      have hV7 : VBlk wr b2 31 [.slice none 0 0, .slice none 0 0] := V2.out.of (hBr.block b2 (by omega))
      go_wp2_with (first | (go_at_call 56; refine (crew_any ((runP H ds qs).2) _ _ _ _ wr.heap.size _ (Nat.le_refl _) CN.out.mem.rd (by exact LE.out)).mono ?_; rintro er w8 ⟨vD8, rfl, oD8, hB8⟩; have hz8 := hB8.size; obtain ⟨aD, cD, rfl⟩ := oD8.len) | (refine wpList_store_v rfl 31 _ _ rfl b2 [.slice a7 (runP H ds qs).1.length c7, .slice aD (runP H ds qs).2.length cD] rfl rfl sizeCr (hV7.of (hB8.block b2 (by omega))) rfl (by simp [Value.oneCell']) ?_; intro w9 hO9 hV9; have hz9 := hO9.1) | (fail))
      refine row_retv rfl rfl hV9 Try.underlying31 sizeCr rfl ⟨_, _, rfl, ?_, ?_, ?_⟩
      · exact ((CN.out.heap.keep fun j j1 j2 => hB8.block j j2).keep fun j j1 j2 => hO9.2.1 j (by omega)).wide (by omega) (by omega)
      · exact (oD8.keep fun j j1 j2 => hO9.2.1 j (by omega)).wide (by omega) (by omega)
      · exact (hBwr.trans (hB8.mono (by omega))).trans (hO9.2.2 _ (by omega))

set_option maxRecDepth 100000 in
set_option maxHeartbeats 2000000 in
theorem implNewCrew_all (ds : List Hd) (vD : Value) (hi : Nat) (w : World) (hh : hi ≤ w.heap.size) (rD : RdH w hi vD ds) (hn : NilOk vD) :
    Calls Try.prog 19 #[vD] w fun e w' => ∃ vH' vD', e = .returned (.tuple #[.agg #[vH', vD'], .bool (nwB ds)]) ∧ Own w' w.heap.size w'.heap.size vH' (nwH ds) ∧ OwnH w' w.heap.size w'.heap.size vD' (nwD ds) ∧ Below w.heap.size w w' := by
  have hl := rD.len
  obtain ⟨c, dc, rfl⟩ := rD.form
  have RD : Hid (RdH w hi (.slice c ds.length dc) ds) := rD
  have NIL : Hid (NilOk (.slice c ds.length dc)) := hn
  clear rD hn
  have m1 : Hid True := trivial
  have m2 : Hid True := trivial
  have m3 : Hid True := trivial
  have m4 : Hid True := trivial
  by_cases hok : CrewOk [c0] ds
  case neg =>
    have KB : Hid (crewB [c0] ds = false) := crewB_false hok
    obtain ⟨n1, n2, n3⟩ := nw_no (ds := ds) (fun q => hok q.1)
    rw [n1, n2, n3]
    clear hok n1 n2 n3
    go_enter Try.func19, Try.ntmps19
    go_wp2_with (first | (clear m1; refine wpList_alloc_v rfl 31 rfl _ zeroCr ?_; intro b2 w1 hb2 hw1 hB1 hV2; have hz1 := hB1.size) | (go_at_call 54; refine (implNewHeap_any _).mono ?_; rintro er w2 ⟨v2, rfl, o2, hB2⟩; have hz2 := hB2.size; obtain ⟨g, cg, rfl, hg1, hg2, -⟩ := o2.form (by simp)) | (clear m2; refine wpList_alloc_v rfl 31 rfl _ zeroCr ?_; intro b4 w3 hb4 hw3 hB3 hV4; have hz3 := hB3.size) | (clear m3; refine wpList_store_v rfl 31 _ _ rfl b4 [.slice (some ⟨g, 0, none⟩) 1 cg, .slice c ds.length dc] rfl rfl sizeCr hV4 rfl (by simp [Value.oneCell']) ?_; intro w4 hO4 hW4; have hz4 := hO4.1; have o4 : Own w4 w1.heap.size w2.heap.size (.slice (some ⟨g, 0, none⟩) 1 cg) [c0] := (o2.below hB3 (Nat.le_refl _)).keep fun j j1 j2 => hO4.2.1 j (by omega); have hB : Below w.heap.size w w4 := ((hB1.trans (hB2.mono (by omega))).trans (hB3.mono (by omega))).trans (hO4.2.2 _ (by omega)); have hV24 := ((hV2.of (hB2.block b2 (by omega))).of (hB3.block b2 (by omega))).of (hO4.2.1 b2 (by omega)); have cr0 := hW4.cell 0 (by simp); have cr1 := hW4.cell 1 (by simp); simp only [List.getElem_cons_zero, List.getElem_cons_succ] at cr0 cr1) | (clear m4; go_at_call 14; refine (implCrewOk_any [c0] ds _ _ w4.heap.size _ (Nat.le_refl _) (o4.rd.wide (by omega)) ((RD.out.below hB hh).wide (by omega))).mono ?_; rintro er w5 ⟨rfl, hB5⟩; rw [KB.out]; have hz5 := hB5.size; replace hV24 := hV24.of (hB5.block b2 (by omega)); clear cr0 cr1; replace hW4 := hW4.of (hB5.block b4 (by omega)); have cr0 := hW4.cell 0 (by simp); have cr1 := hW4.cell 1 (by simp); simp only [List.getElem_cons_zero, List.getElem_cons_succ] at cr0 cr1; replace o4 := o4.below hB5 (by omega); replace hB := hB.trans (hB5.mono (by omega))) | (refine wpList_store_v rfl 31 _ _ rfl b2 [.slice none 0 0, .slice none 0 0] rfl rfl sizeCr (hV24) rfl (by simp [Value.oneCell']) ?_; intro w9 hO9 hV9; have hz9 := hO9.1) | (fail))
    exact row_cell_tmp rfl rfl rfl hV9 Try.underlying31 sizeCr rfl ⟨_, _, rfl, own_none _ _ _, ownH_none _ _ _, hB.trans (hO9.2.2 _ (by omega))⟩
  have KB : Hid (crewB [c0] ds = true) := crewB_true hok
  have OK : Hid (CrewOk [c0] ds) := hok
  have LE : Hid (ds.length ≤ 4) := hok.le
  have hl4 := hok.le
  clear hok
  go_enter Try.func19, Try.ntmps19
  go_wp2_with (first | (clear m1; refine wpList_alloc_v rfl 31 rfl _ zeroCr ?_; intro b2 w1 hb2 hw1 hB1 hV2; have hz1 := hB1.size) | (go_at_call 54; refine (implNewHeap_any _).mono ?_; rintro er w2 ⟨v2, rfl, o2, hB2⟩; have hz2 := hB2.size; obtain ⟨g, cg, rfl, hg1, hg2, -⟩ := o2.form (by simp)) | (clear m2; refine wpList_alloc_v rfl 31 rfl _ zeroCr ?_; intro b4 w3 hb4 hw3 hB3 hV4; have hz3 := hB3.size) | (clear m3; refine wpList_store_v rfl 31 _ _ rfl b4 [.slice (some ⟨g, 0, none⟩) 1 cg, .slice c ds.length dc] rfl rfl sizeCr hV4 rfl (by simp [Value.oneCell']) ?_; intro w4 hO4 hW4; have hz4 := hO4.1; have o4 : Own w4 w1.heap.size w2.heap.size (.slice (some ⟨g, 0, none⟩) 1 cg) [c0] := (o2.below hB3 (Nat.le_refl _)).keep fun j j1 j2 => hO4.2.1 j (by omega); have hB : Below w.heap.size w w4 := ((hB1.trans (hB2.mono (by omega))).trans (hB3.mono (by omega))).trans (hO4.2.2 _ (by omega)); have hV24 := ((hV2.of (hB2.block b2 (by omega))).of (hB3.block b2 (by omega))).of (hO4.2.1 b2 (by omega)); have cr0 := hW4.cell 0 (by simp); have cr1 := hW4.cell 1 (by simp); simp only [List.getElem_cons_zero, List.getElem_cons_succ] at cr0 cr1) | (clear m4; go_at_call 14; refine (implCrewOk_any [c0] ds _ _ w4.heap.size _ (Nat.le_refl _) (o4.rd.wide (by omega)) ((RD.out.below hB hh).wide (by omega))).mono ?_; rintro er w5 ⟨rfl, hB5⟩; rw [KB.out]; have hz5 := hB5.size; replace hV24 := hV24.of (hB5.block b2 (by omega)); clear cr0 cr1; replace hW4 := hW4.of (hB5.block b4 (by omega)); have cr0 := hW4.cell 0 (by simp); have cr1 := hW4.cell 1 (by simp); simp only [List.getElem_cons_zero, List.getElem_cons_succ] at cr0 cr1; replace o4 := o4.below hB5 (by omega); replace hB := hB.trans (hB5.mono (by omega))) | (fail))
  have h45 : b2 < w5.heap.size ∧ b4 < w5.heap.size ∧ w.heap.size ≤ b2 ∧ w2.heap.size ≤ w5.heap.size := by omega
  clear cr0 cr1
  go_loopw [16] (fun v' wr => ∃ n : Nat, n ≤ ds.length ∧ v' = .int .i64 n ∧ Hid (∀ j (hj : j < ds.length), j < n → ds[j].step = 0) ∧ Below w5.heap.size w5 wr) (fun v' _ => ds.length - (intOf v').toNat)
  case atStart => exact ⟨0, by omega, rfl, fun j _ h => by omega, Below.refl _ _⟩
  case round =>
    obtain ⟨n, hn1, rfl, ALL, hBr⟩ := hrel
    have hzr := hBr.size
    have hBwr : Below w.heap.size w wr := hB.trans (hBr.mono (by omega))
    by_cases hlt : n < ds.length
    · have hlt' : (n : Int) < (ds.length : Int) := by omega
      obtain ⟨d, hd⟩ := hid_ex (ds[n])
      obtain ⟨k, x, y, s, l, e, o, t⟩ := d
      obtain ⟨cb, coff, rfl, hcb, g0, g1, g2, g3, g4, g5, g6, g7⟩ := (RD.out.below hBwr hh).cell n hlt hd.out
      by_cases h0 : s = 0
      · have z0 : (s != 0) = false := by simp [h0]
        have AL2 : Hid (∀ j (hj : j < ds.length), j < n + 1 → ds[j].step = 0) := fun j hj hji => by
          by_cases ej : j = n
          · subst ej; rw [hd.out]; exact h0
          · exact ALL.out j hj (by omega)
        clear h0
        go_wp2_with (first | (refine wpList_alloc_v rfl 58 rfl _ zeroH ?_; intro b6 wz hb6 hwz hBz hVz; have hzz := hBz.size) | (refine wpList_store_v rfl 58 _ _ rfl b6 (hv ⟨k, x, y, s, l, e, o, t⟩) rfl rfl sizeH hVz rfl (hv_one _) ?_; intro wa hOa hVa; have hza := hOa.1; have hb7 : HB wa b6 ⟨k, x, y, s, l, e, o, t⟩ := ⟨hVa⟩; clear g0 g1 g2 g3 g4 g5 g6 g7; obtain ⟨c0, c1, c2, c3, c4, c5, c6, c7⟩ := hb7.cells) | (fail))
        go_roundw
        case rel => exact ⟨n + 1, by omega, by go_num, AL2, (hBr.trans (hBz.mono (by omega))).trans (hOa.2.2 _ (by omega))⟩
        case measure => simp [intOf]; omega
      · have z0 : (s != 0) = true := by simp [h0]
        obtain ⟨n1, n2, n3⟩ := nw_no (ds := ds) (fun q => h0 (by have := q.2 _ (List.getElem_mem hlt); rw [hd.out] at this; exact this))
        have N1 : Hid (nwB ds = false) := n1
        have N2 : Hid (nwH ds = []) := n2
        have N3 : Hid (nwD ds = []) := n3
        clear h0 n1 n2 n3
        go_wp2_with (first | (refine wpList_alloc_v rfl 58 rfl _ zeroH ?_; intro b6 wz hb6 hwz hBz hVz; have hzz := hBz.size) | (refine wpList_store_v rfl 58 _ _ rfl b6 (hv ⟨k, x, y, s, l, e, o, t⟩) rfl rfl sizeH hVz rfl (hv_one _) ?_; intro wa hOa hVa; have hza := hOa.1; have hb7 : HB wa b6 ⟨k, x, y, s, l, e, o, t⟩ := ⟨hVa⟩; clear g0 g1 g2 g3 g4 g5 g6 g7; obtain ⟨c0, c1, c2, c3, c4, c5, c6, c7⟩ := hb7.cells) | (refine wpList_store_v rfl 31 _ _ rfl b2 [.slice none 0 0, .slice none 0 0] rfl rfl sizeCr (((hV24.of (hBr.block b2 (by omega))).of (hBz.block b2 (by omega))).of (hOa.2.1 b2 (by omega))) rfl (by simp [Value.oneCell']) ?_; intro w9 hO9 hV9; have hz9 := hO9.1) | (fail))
        refine row_cell_tmp rfl rfl rfl hV9 Try.underlying31 sizeCr rfl ?_
        rw [N1.out, N2.out, N3.out]
        exact ⟨_, _, rfl, own_none _ _ _, ownH_none _ _ _, (((hB.trans (hBr.mono (by omega))).trans (hBz.mono (by omega))).trans (hOa.2.2 _ (by omega))).trans (hO9.2.2 _ (by omega))⟩
    · have hlt' : ¬ ((n : Int) < (ds.length : Int)) := by omega
      obtain ⟨n1, n2, n3⟩ := nw_yes (ds := ds) ⟨OK.out, fun d hd => by obtain ⟨j, hj, rfl⟩ := List.getElem_of_mem hd; exact ALL.out j hj (by omega)⟩
      have N1 : Hid (nwB ds = true) := n1
      have N2 : Hid (nwH ds = [c0]) := n2
      have N3 : Hid (nwD ds = ds) := n3
      clear n1 n2 n3
      have or := o4.below hBr (by omega)
      have hVr2 := hV24.of (hBr.block b2 (by omega))
      have hVr4 := hW4.of (hBr.block b4 (by omega))
      have cr0 := hVr4.cell 0 (by simp)
      have cr1 := hVr4.cell 1 (by simp)
      simp only [List.getElem_cons_zero, List.getElem_cons_succ] at cr0 cr1
      go_wp2_with (first | (go_at_call 55; refine (teamOf_any [c0] ds _ _ wr.heap.size _ (Nat.le_refl _) (or.rd.wide (by omega)) ((RD.out.below hBwr hh).wide (by omega)) (by simp) LE.out).mono ?_; rintro er w7 ⟨vH7, vM7, rfl, oH7, oM7, hB7⟩; have hz7 := hB7.size; obtain ⟨g7, c7, rfl, hg7, hg7', -⟩ := oH7.form (by simp); obtain ⟨aM, cM, rfl⟩ := oM7.rd.form) | (go_at_call 56; refine (crew_any ds _ _ _ _ w7.heap.size _ (Nat.le_refl _) oM7.rd LE.out).mono ?_; rintro er w8 ⟨vD8, rfl, oD8, hB8⟩; have hz8 := hB8.size; obtain ⟨aD, cD, rfl⟩ := oD8.len; have oH8 := oH7.below hB8 (Nat.le_refl _); have hV28 := (hVr2.of (hB7.block b2 (by omega))).of (hB8.block b2 (by omega)); have hBf : Below w.heap.size w w8 := (hBwr.trans (hB7.mono (by omega))).trans (hB8.mono (by omega))) | (refine wpList_store_v rfl 31 _ _ rfl b2 [.slice (some ⟨g7, 0, none⟩) 1 c7, .slice aD ds.length cD] rfl rfl sizeCr hV28 rfl (by simp [Value.oneCell']) ?_; intro w9 hO9 hV9; have hz9 := hO9.1) | (fail))
      refine row_cell_tmp rfl rfl rfl hV9 Try.underlying31 sizeCr rfl ?_
      rw [N1.out, N2.out, N3.out]
      exact ⟨_, _, rfl, (oH8.keep fun j j1 j2 => hO9.2.1 j (by omega)).wide (by omega) (by omega), (oD8.keep fun j j1 j2 => hO9.2.1 j (by omega)).wide (by omega) (by omega), hBf.trans (hO9.2.2 _ (by omega))⟩

set_option maxRecDepth 100000 in
set_option maxHeartbeats 2000000 in
theorem specNewCrew_all (ds : List Hd) (vD : Value) (hi : Nat) (w : World) (hh : hi ≤ w.heap.size) (rD : RdH w hi vD ds) (hn : NilOk vD) :
    Calls Try.prog 17 #[vD] w fun e w' => ∃ vH' vD', e = .returned (.tuple #[.agg #[vH', vD'], .bool (nwB ds)]) ∧ Own w' w.heap.size w'.heap.size vH' (nwH ds) ∧ OwnH w' w.heap.size w'.heap.size vD' (nwD ds) ∧ Below w.heap.size w w' := by
  have hl := rD.len
  obtain ⟨c, dc, rfl⟩ := rD.form
  have RD : Hid (RdH w hi (.slice c ds.length dc) ds) := rD
  have NIL : Hid (NilOk (.slice c ds.length dc)) := hn
  clear rD hn
  have m1 : Hid True := trivial
  have m2 : Hid True := trivial
  have m3 : Hid True := trivial
  have m4 : Hid True := trivial
  by_cases hok : CrewOk [c0] ds
  case neg =>
    have KB : Hid (crewB [c0] ds = false) := crewB_false hok
    obtain ⟨n1, n2, n3⟩ := nw_no (ds := ds) (fun q => hok q.1)
    rw [n1, n2, n3]
    clear hok n1 n2 n3
    go_enter Try.func17, Try.ntmps17
    go_wp2_with (first | (clear m1; refine wpList_alloc_v rfl 31 rfl _ zeroCr ?_; intro b2 w1 hb2 hw1 hB1 hV2; have hz1 := hB1.size) | (go_at_call 51; refine (specNewHeap_any _).mono ?_; rintro er w2 ⟨v2, rfl, o2, hB2⟩; have hz2 := hB2.size; obtain ⟨g, cg, rfl, hg1, hg2, -⟩ := o2.form (by simp)) | (clear m2; refine wpList_alloc_v rfl 31 rfl _ zeroCr ?_; intro b4 w3 hb4 hw3 hB3 hV4; have hz3 := hB3.size) | (clear m3; refine wpList_store_v rfl 31 _ _ rfl b4 [.slice (some ⟨g, 0, none⟩) 1 cg, .slice c ds.length dc] rfl rfl sizeCr hV4 rfl (by simp [Value.oneCell']) ?_; intro w4 hO4 hW4; have hz4 := hO4.1; have o4 : Own w4 w1.heap.size w2.heap.size (.slice (some ⟨g, 0, none⟩) 1 cg) [c0] := (o2.below hB3 (Nat.le_refl _)).keep fun j j1 j2 => hO4.2.1 j (by omega); have hB : Below w.heap.size w w4 := ((hB1.trans (hB2.mono (by omega))).trans (hB3.mono (by omega))).trans (hO4.2.2 _ (by omega)); have hV24 := ((hV2.of (hB2.block b2 (by omega))).of (hB3.block b2 (by omega))).of (hO4.2.1 b2 (by omega)); have cr0 := hW4.cell 0 (by simp); have cr1 := hW4.cell 1 (by simp); simp only [List.getElem_cons_zero, List.getElem_cons_succ] at cr0 cr1) | (clear m4; go_at_call 12; refine (specCrewOk_any [c0] ds _ _ w4.heap.size _ (Nat.le_refl _) (o4.rd.wide (by omega)) ((RD.out.below hB hh).wide (by omega))).mono ?_; rintro er w5 ⟨rfl, hB5⟩; rw [KB.out]; have hz5 := hB5.size; replace hV24 := hV24.of (hB5.block b2 (by omega)); clear cr0 cr1; replace hW4 := hW4.of (hB5.block b4 (by omega)); have cr0 := hW4.cell 0 (by simp); have cr1 := hW4.cell 1 (by simp); simp only [List.getElem_cons_zero, List.getElem_cons_succ] at cr0 cr1; replace o4 := o4.below hB5 (by omega); replace hB := hB.trans (hB5.mono (by omega))) | (refine wpList_store_v rfl 31 _ _ rfl b2 [.slice none 0 0, .slice none 0 0] rfl rfl sizeCr (hV24) rfl (by simp [Value.oneCell']) ?_; intro w9 hO9 hV9; have hz9 := hO9.1) | (fail))
    exact row_cell_tmp rfl rfl rfl hV9 Try.underlying31 sizeCr rfl ⟨_, _, rfl, own_none _ _ _, ownH_none _ _ _, hB.trans (hO9.2.2 _ (by omega))⟩
  have KB : Hid (crewB [c0] ds = true) := crewB_true hok
  have OK : Hid (CrewOk [c0] ds) := hok
  have LE : Hid (ds.length ≤ 4) := hok.le
  have hl4 := hok.le
  clear hok
  go_enter Try.func17, Try.ntmps17
  go_wp2_with (first | (clear m1; refine wpList_alloc_v rfl 31 rfl _ zeroCr ?_; intro b2 w1 hb2 hw1 hB1 hV2; have hz1 := hB1.size) | (go_at_call 51; refine (specNewHeap_any _).mono ?_; rintro er w2 ⟨v2, rfl, o2, hB2⟩; have hz2 := hB2.size; obtain ⟨g, cg, rfl, hg1, hg2, -⟩ := o2.form (by simp)) | (clear m2; refine wpList_alloc_v rfl 31 rfl _ zeroCr ?_; intro b4 w3 hb4 hw3 hB3 hV4; have hz3 := hB3.size) | (clear m3; refine wpList_store_v rfl 31 _ _ rfl b4 [.slice (some ⟨g, 0, none⟩) 1 cg, .slice c ds.length dc] rfl rfl sizeCr hV4 rfl (by simp [Value.oneCell']) ?_; intro w4 hO4 hW4; have hz4 := hO4.1; have o4 : Own w4 w1.heap.size w2.heap.size (.slice (some ⟨g, 0, none⟩) 1 cg) [c0] := (o2.below hB3 (Nat.le_refl _)).keep fun j j1 j2 => hO4.2.1 j (by omega); have hB : Below w.heap.size w w4 := ((hB1.trans (hB2.mono (by omega))).trans (hB3.mono (by omega))).trans (hO4.2.2 _ (by omega)); have hV24 := ((hV2.of (hB2.block b2 (by omega))).of (hB3.block b2 (by omega))).of (hO4.2.1 b2 (by omega)); have cr0 := hW4.cell 0 (by simp); have cr1 := hW4.cell 1 (by simp); simp only [List.getElem_cons_zero, List.getElem_cons_succ] at cr0 cr1) | (clear m4; go_at_call 12; refine (specCrewOk_any [c0] ds _ _ w4.heap.size _ (Nat.le_refl _) (o4.rd.wide (by omega)) ((RD.out.below hB hh).wide (by omega))).mono ?_; rintro er w5 ⟨rfl, hB5⟩; rw [KB.out]; have hz5 := hB5.size; replace hV24 := hV24.of (hB5.block b2 (by omega)); clear cr0 cr1; replace hW4 := hW4.of (hB5.block b4 (by omega)); have cr0 := hW4.cell 0 (by simp); have cr1 := hW4.cell 1 (by simp); simp only [List.getElem_cons_zero, List.getElem_cons_succ] at cr0 cr1; replace o4 := o4.below hB5 (by omega); replace hB := hB.trans (hB5.mono (by omega))) | (fail))
  have h45 : b2 < w5.heap.size ∧ b4 < w5.heap.size ∧ w.heap.size ≤ b2 ∧ w2.heap.size ≤ w5.heap.size := by omega
  clear cr0 cr1
  go_loopw [5] (fun v' wr => ∃ n : Nat, n ≤ ds.length ∧ v' = .int .i64 n ∧ Hid (∀ j (hj : j < ds.length), j < n → ds[j].step = 0) ∧ Below w5.heap.size w5 wr) (fun v' _ => ds.length - (intOf v').toNat)
  case atStart => exact ⟨0, by omega, rfl, fun j _ h => by omega, Below.refl _ _⟩
  case round =>
    obtain ⟨n, hn1, rfl, ALL, hBr⟩ := hrel
    have hzr := hBr.size
    have hBwr : Below w.heap.size w wr := hB.trans (hBr.mono (by omega))
    by_cases hlt : n < ds.length
    · have hlt' : (n : Int) < (ds.length : Int) := by omega
      obtain ⟨d, hd⟩ := hid_ex (ds[n])
      obtain ⟨k, x, y, s, l, e, o, t⟩ := d
      obtain ⟨cb, coff, rfl, hcb, g0, g1, g2, g3, g4, g5, g6, g7⟩ := (RD.out.below hBwr hh).cell n hlt hd.out
      by_cases h0 : s = 0
      · have z0 : (s != 0) = false := by simp [h0]
        have AL2 : Hid (∀ j (hj : j < ds.length), j < n + 1 → ds[j].step = 0) := fun j hj hji => by
          by_cases ej : j = n
          · subst ej; rw [hd.out]; exact h0
          · exact ALL.out j hj (by omega)
        clear h0
        go_wp2_with (first | (fail))
        go_roundw
        case rel => exact ⟨n + 1, by omega, by go_num, AL2, hBr⟩
        case measure => simp [intOf]; omega
      · have z0 : (s != 0) = true := by simp [h0]
        obtain ⟨n1, n2, n3⟩ := nw_no (ds := ds) (fun q => h0 (by have := q.2 _ (List.getElem_mem hlt); rw [hd.out] at this; exact this))
        have N1 : Hid (nwB ds = false) := n1
        have N2 : Hid (nwH ds = []) := n2
        have N3 : Hid (nwD ds = []) := n3
        clear h0 n1 n2 n3
        go_wp2_with (first | (refine wpList_store_v rfl 31 _ _ rfl b2 [.slice none 0 0, .slice none 0 0] rfl rfl sizeCr (hV24.of (hBr.block b2 (by omega))) rfl (by simp [Value.oneCell']) ?_; intro w9 hO9 hV9; have hz9 := hO9.1) | (fail))
        refine row_cell_tmp rfl rfl rfl hV9 Try.underlying31 sizeCr rfl ?_
        rw [N1.out, N2.out, N3.out]
        exact ⟨_, _, rfl, own_none _ _ _, ownH_none _ _ _, (hB.trans (hBr.mono (by omega))).trans (hO9.2.2 _ (by omega))⟩
    · have hlt' : ¬ ((n : Int) < (ds.length : Int)) := by omega
      obtain ⟨n1, n2, n3⟩ := nw_yes (ds := ds) ⟨OK.out, fun d hd => by obtain ⟨j, hj, rfl⟩ := List.getElem_of_mem hd; exact ALL.out j hj (by omega)⟩
      have N1 : Hid (nwB ds = true) := n1
      have N2 : Hid (nwH ds = [c0]) := n2
      have N3 : Hid (nwD ds = ds) := n3
      clear n1 n2 n3
      have or := o4.below hBr (by omega)
      have hVr2 := hV24.of (hBr.block b2 (by omega))
      have hVr4 := hW4.of (hBr.block b4 (by omega))
      have cr0 := hVr4.cell 0 (by simp)
      have cr1 := hVr4.cell 1 (by simp)
      simp only [List.getElem_cons_zero, List.getElem_cons_succ] at cr0 cr1
      go_wp2_with (first | (go_at_call 52; refine (l6Copy_any [c0] ds _ _ wr.heap.size _ (Nat.le_refl _) (or.rd.wide (by omega)) ((RD.out.below hBwr hh).wide (by omega)) NIL.out (by simp) LE.out).mono ?_; rintro er w8 ⟨vH8, vD8, rfl, oH7, oD8, hB8⟩; have hz8 := hB8.size; have hw7 : wr.heap.size ≤ w8.heap.size := hz8; obtain ⟨g7, c7, rfl, hg7, hg7', -⟩ := oH7.form (by simp); obtain ⟨aD, cD, rfl⟩ := oD8.len; have oH8 := oH7; have hV28 := hVr2.of (hB8.block b2 (by omega)); have hBf : Below w.heap.size w w8 := hBwr.trans (hB8.mono (by omega))) | (refine wpList_store_v rfl 31 _ _ rfl b2 [.slice (some ⟨g7, 0, none⟩) 1 c7, .slice aD ds.length cD] rfl rfl sizeCr hV28 rfl (by simp [Value.oneCell']) ?_; intro w9 hO9 hV9; have hz9 := hO9.1) | (fail))
      refine row_cell_tmp rfl rfl rfl hV9 Try.underlying31 sizeCr rfl ?_
      rw [N1.out, N2.out, N3.out]
      exact ⟨_, _, rfl, (oH8.keep fun j j1 j2 => hO9.2.1 j (by omega)).wide (by omega) (by omega), (oD8.keep fun j j1 j2 => hO9.2.1 j (by omega)).wide (by omega) (by omega), hBf.trans (hO9.2.2 _ (by omega))⟩
end Go.Proofs.Ythjkhghlhjndmaa.ce
/- The program's Picked and Ran of whatever crew. -/
namespace Go.Proofs.Ythjkhghlhjndmaa.ce
open Go.ChangeShapes Go.WideShapes Go.ChangeAt Go.RowKit
set_option linter.unusedVariables false

theorem implPicked_all (H : List C) (ds : List Hd) (vH vD : Value) (hi : Nat) (w : World) (hh : hi ≤ w.heap.size) (rH : Rd w hi vH H) (rD : RdH w hi vD ds) (hn : NilOk vD) (who : Int) :
    Calls Try.prog 25 #[.agg #[vH, vD], .int .i64 who] w fun e w' => ∃ vH' vD', e = .returned (.tuple #[.agg #[vH', vD'], .bool (pkB H ds who)]) ∧ Own w' w.heap.size w'.heap.size vH' (pkH H ds who) ∧ OwnH w' w.heap.size w'.heap.size vD' (pkD H ds who) ∧ Below w.heap.size w w' := by
  unfold pkB pkH pkD
  by_cases c : CrewOk H ds
  · rw [if_pos c, if_pos c, if_pos c]; exact implPicked_any H ds vH vD hi w hh rH rD who c
  · rw [if_neg c, if_neg c, if_neg c]
    refine (implPicked_no H ds vH vD hi w hh rH rD who c).mono ?_
    rintro e w' ⟨rfl, hB⟩
    exact ⟨_, _, rfl, own_none _ _ _, ownH_none _ _ _, hB⟩
theorem implRan_all (H : List C) (ds : List Hd) (qs : List Int) (vH vD vQ : Value) (hi : Nat) (w : World) (hh : hi ≤ w.heap.size) (rH : Rd w hi vH H) (rD : RdH w hi vD ds) (rQ : RdI w hi vQ qs) (hn : NilOk vD) :
    Calls Try.prog 28 #[.agg #[vH, vD], vQ] w fun e w' => ∃ vH' vD', e = .returned (.agg #[vH', vD']) ∧ Own w' w.heap.size w'.heap.size vH' (rnH H ds qs) ∧ OwnH w' w.heap.size w'.heap.size vD' (rnD H ds qs) ∧ Below w.heap.size w w' := by
  unfold rnH rnD
  by_cases c : CrewOk H ds ∧ qs.length ≤ 300
  · rw [if_pos c, if_pos c]; exact implRan_any H ds vH vD hi w hh rH rD qs vQ rQ c.1 c.2
  · rw [if_neg c, if_neg c]
    refine (implRan_no H ds vH vD hi w hh rH rD qs vQ rQ c).mono ?_
    rintro e w' ⟨rfl, hB⟩
    exact ⟨_, _, rfl, own_none _ _ _, ownH_none _ _ _, hB⟩
end Go.Proofs.Ythjkhghlhjndmaa.ce
