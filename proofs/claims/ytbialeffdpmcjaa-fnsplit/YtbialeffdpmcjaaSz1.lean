/- Contracts: the program's opened: doors are opened one by one. -/
import Derived.Test.YtbialeffdpmcjaaSy9
namespace Go.Proofs.Ytbialeffdpmcjaa.sx
open Go.RowKit Go.Shelf Go.Proofs.Ytbialeffdpmcjaa.ce Go.Proofs.Ytbialeffdpmcjaa.it
set_option linter.unusedVariables false
attribute [local go_sem] Oper.semAt_some

theorem grow_cells {X Y : World} {row : Option Nat} (hg : X.grownBy Y row) (hr : ∀ r, row = some r → ∃ o : Obj, X.heap[r]? = some o ∧ o.isCells = false) {k : Nat} {cs : Array Value} {t : TypeId} {fz : Nat × Nat} (h : X.heap[k]? = some (.cells cs t fz)) : Y.heap[k]? = X.heap[k]? :=
  hg.block k (Array.getElem?_eq_some_iff.1 h).1 (fun e => by
    obtain ⟨o, ho, hc⟩ := hr k e.symm
    rw [h] at ho
    cases ho
    cases hc)
theorem VBlk.grow {X Y : World} {row : Option Nat} (hg : X.grownBy Y row) (hr : ∀ r, row = some r → ∃ o : Obj, X.heap[r]? = some o ∧ o.isCells = false) {b : Nat} {t : TypeId} {vs : List Value} (h : ce.VBlk X b t vs) : ce.VBlk Y b t vs := h.of (grow_cells hg hr h)
theorem OwnI.grow {X Y : World} {row : Option Nat} (hg : X.grownBy Y row) (hr : ∀ r, row = some r → ∃ o : Obj, X.heap[r]? = some o ∧ o.isCells = false) {lo : Nat} {v : Value} {xs : List Int} (h : ce.OwnI X lo X.heap.size v xs) : ce.OwnI Y lo Y.heap.size v xs := by
  refine ⟨⟨h.row.1, ?_⟩, fun g hg' => by have := h.top g hg'; have := hg.size; omega⟩
  rcases h.row.2 with q | ⟨g, cap, cur, rfl, hl, hb, q⟩
  · exact .inl q
  · exact .inr ⟨g, cap, cur, rfl, hl, by rw [grow_cells hg hr hb]; exact hb, q⟩
theorem grown_same (W : World) : W.grownBy W none := ⟨rfl, rfl, rfl, Nat.le_refl _, fun _ _ _ => rfl⟩

/-- what holds between two doors -/
structure Opn (w : World) (hi : Nat) (n : Int) (ks : List Int) (v0 : Value) (b2 b4 : Nat) (pre : List Int) (W : World) : Prop where
  var : ∃ v, ce.VBlk W b2 27 [.int .i64 n, v] ∧ ((pre = [] ∧ v = v0) ∨ ce.OwnI W w.heap.size W.heap.size v (pre.foldl (fun ks d => ins ks (mk d)) ks))
  res : ce.VBlk W b4 27 [.int .i64 0, .slice none 0 0]
  low : Below w.heap.size w W
  ok : SOk n (pre.foldl (fun ks d => ins ks (mk d)) ks)
theorem Opn.from {w : World} {hi : Nat} {n : Int} {ks : List Int} {v0 : Value} {b2 b4 B : Nat} (hB : w.heap.size ≤ B) : OwnFrom B (Opn w hi n ks v0 b2 b4) := by
  rintro s X Y row ⟨⟨v, hv, ho⟩, hr, hl, hk⟩ hg hrow
  have hrow' : ∀ r, row = some r → ∃ o : Obj, X.heap[r]? = some o ∧ o.isCells = false := fun r e => (hrow r e).2
  refine ⟨⟨v, VBlk.grow hg hrow' hv, ?_⟩, VBlk.grow hg hrow' hr, hl.grown hg hl.size (fun k e => by have := (hrow k e).1; omega), hk⟩
  rcases ho with h | h
  · exact .inl h
  · exact .inr (OwnI.grow hg hrow' h)
theorem doorsL_mem {x : Int} : ∀ {f : Nat} {b : Int}, b ≤ 32767 → x ∈ doorsL f b → 0 ≤ x ∧ x ≤ b
  | 0, b, _, h => by simp [doorsL] at h
  | f + 1, b, hb, h => by
    by_cases h0 : b < 0
    · rw [doorsL_neg h0] at h; simp at h
    · rw [doorsL_cons (by omega), List.mem_cons] at h
      rcases h with rfl | h
      · omega
      · by_cases hz : b = 0
        · subst hz
          rw [parent_zero, doorsL_neg (by omega)] at h
          simp at h
        · have hp := parent_lt (b := b) (by omega) hb
          have := doorsL_mem (f := f) (b := parent b) (by omega) h
          omega
theorem tn_keeps {b B : Nat} {W W' : World} {t : TypeId} {vs : List Value} (h : Tn b W W') (hv : ce.VBlk W b t vs) : KeepsFrom B W W' :=
  ⟨h.size, fun k o _ hk ho => by
    rw [h.keep k (Array.getElem?_eq_some_iff.1 hk).1 (fun e => by subst e; rw [hv] at hk; cases hk; cases ho)]
    exact hk⟩
theorem tn_kp {b n₀ : Nat} {W W' : World} {vs : List Value} (h : Tn b W W') (hv : ce.VBlk W b 27 vs) (hb : n₀ ≤ b) (hn : n₀ ≤ W.heap.size) : Kp TI TI n₀ W W' :=
  ⟨h.low n₀ hb hn, fun k t v ht hk => by
    have hk' : W.heap[k]? = some (.cells #[v] t (0, 0)) := hk
    have : W'.heap[k]? = W.heap[k]? := h.keep k (Array.getElem?_eq_some_iff.1 hk').1 (fun e => by
      subst e
      rw [hv] at hk'
      have : t = TI := by rcases ht with e | e <;> exact e
      subst this
      injection hk' with e1
      injection e1 with e2 e3 e4
      exact absurd e3 (by decide))
    exact this.trans hk'⟩

set_option maxRecDepth 100000 in
set_option maxHeartbeats 4000000 in
theorem spOpened_any (n : Int) (ks : List Int) (b : Int) (hok : SOk n ks) (hb0 : 0 ≤ b) (hb1 : b < n) (v : Value) (hi : Nat) (w : World) (hh : hi ≤ w.heap.size) (r : RdI w hi v ks) :
    Calls Try.prog 57 #[.agg #[.int .i64 n, v], .int .i64 b] w fun e w' => ∃ v', e = .returned (.agg #[.int .i64 n, v']) ∧ OwnI w' w.heap.size w'.heap.size v' (opn b.toNat ks b) ∧ Below w.heap.size w w' := by
  obtain ⟨a, cap, rfl⟩ := r.form
  have R : Hid (RdI w hi (.slice a ks.length cap) ks) := r
  have OK : Hid (SOk n ks) := hok
  have hn64 := hok.bd
  have hmix : Try.prog.follows .mixedOrders = true := by kernel_rfl
  clear r hok
  refine (callsIn_wide (n := 3)).1 ?_
  refine callsIn_of_wp_marks Try.func57 rfl trivial ?_ rfl
  simp only [Try.ntmps57, List.size_toArray, List.length_cons, List.length_nil, Nat.reduceAdd, Nat.reduceSub, Array.replicate_succ, Array.replicate_zero, List.push_toArray, List.append_toArray, List.nil_append, List.cons_append]
  gi_wp2_with (first | (refine ⟨trivial, ?_⟩; gi_at_call 85; refine (callsIn_wide.2 (openedWith_any _ _)).mono ?_; rintro er w2 ⟨rfl, rfl⟩) | (fail))
  obtain ⟨W0, hW0⟩ : ∃ W0, ((w.alloc (.cells #[.int .i64 n, .slice a ks.length cap] 27)).alloc (.cells #[.int .i64 0, .slice none 0 0] 27)).alloc (.cells #[.int .i64 b] TI) = W0 := ⟨_, rfl⟩
  have hsz : W0.heap.size = w.heap.size + 3 := by rw [← hW0]; simp
  have hB0 : Below w.heap.size w W0 := by rw [← hW0]; exact (((Below.refl _ w).alloc (Nat.le_refl _) _).alloc (by simp) _).alloc (by simp; omega) _
  have hV2 : ce.VBlk W0 w.heap.size 27 [.int .i64 n, .slice a ks.length cap] := by
    rw [← hW0]; unfold ce.VBlk; rw [heap_alloc_old _ _ (by simp; omega), heap_alloc_old _ _ (by simp)]; exact heap_alloc_new _ _
  have hV4 : ce.VBlk W0 (w.heap.size + 1) 27 [.int .i64 0, .slice none 0 0] := by
    rw [← hW0]; unfold ce.VBlk; rw [heap_alloc_old _ _ (by simp)]
    have := heap_alloc_new (w.alloc (.cells #[.int .i64 n, .slice a ks.length cap] 27)) (.cells #[.int .i64 0, .slice none 0 0] 27)
    rw [World.size_alloc] at this
    exact this
  have hbB : Boxed W0 (w.heap.size + 1 + 1) TI (.int .i64 b) := by
    rw [← hW0]
    have := Boxed.new ((w.alloc (.cells #[.int .i64 n, .slice a ks.length cap] 27)).alloc (.cells #[.int .i64 0, .slice none 0 0] 27)) TI (.int .i64 b)
    rw [World.size_alloc, World.size_alloc] at this
    exact this
  rw [hW0]
  clear hW0
  refine range_law 3 (w := W0) (gf := 92) (lb := #[.pointer (some ⟨w.heap.size + 1 + 1, 0, none⟩)]) rfl (enters_of Try.func92 (by kernel_rfl) rfl)
    (opened1_seq b hb0 (by omega) w.heap.size (w.heap.size + 1 + 1) W0 hbB 2) (by omega) (Below.refl _ _) (fun _ => rfl)
    (Opn w hi n ks (.slice a ks.length cap) w.heap.size (w.heap.size + 1))
    (fun _ _ => False)
    (Opn.from (by omega))
    (fun _ _ _ _ h _ _ => h)
    ⟨⟨_, hV2, .inl ⟨rfl, rfl⟩⟩, hV4, hB0, OK.out⟩ ?round ?done ?stop
  case round =>
    rintro l pre x rest W hx hlt -
    have hxb := doorsL_mem (x := x) (f := b.toNat + 1) (b := b) (by omega) (by rw [hx]; simp)
    dsimp only [encD]
    gi_wp2
    refine ⟨grown_same _, ?_⟩
    rintro Wb hWs - ⟨⟨u, hv, ho⟩, hr4, hB, hk⟩
    have hfold : Hid ((pre ++ [x]).foldl (fun ks d => ins ks (mk d)) ks = ins (pre.foldl (fun ks d => ins ks (mk d)) ks) (mk x)) := by unfold Hid; simp
    obtain ⟨L, hL⟩ := hid_ex (pre.foldl (fun ks d => ins ks (mk d)) ks)
    rw [hL.out] at ho hk hfold
    have hBs := hB.size
    have hu : RdI Wb Wb.heap.size u L := by
      rcases ho with ⟨e1, e2⟩ | h
      · subst e2
        have : L = ks := by rw [← hL.out, e1]; rfl
        rw [this]
        exact (R.out.below hB hh).wide (by omega)
      · exact h.rd
    clear ho
    obtain ⟨au, nu, cu, rfl⟩ : ∃ a n c, u = .slice a n c := by obtain ⟨a, c, e⟩ := hu.form; exact ⟨a, _, c, e⟩
    have U : Hid (RdI Wb Wb.heap.size (.slice au nu cu) L) := hu
    have K : Hid (SOk n L) := hk
    have hlL := hk.len
    have hlL1 := hk.pos
    clear hu hk
    have ek : keyB x 0 = mk x := by rw [keyB_yes x 0 (by omega) (by omega)]; unfold mk; omega
    obtain ⟨c0, c1⟩ := sp_cells hv
    have f0 := hv.frozen 0
    have f1 := hv.frozen 1
    have hbl := hv.lt
    gi_wp2
    gi_region_with_o (first | (refine ⟨trivial, ?_⟩; gi_at_call 50; refine (CallsIn.inRound l (callsIn_wide.2 (implMarkKey_any _ _))).mono ?_; rintro er wq ⟨rfl, hq⟩; subst wq; rw [ek]) | (refine ⟨trivial, ?_⟩; gi_at_call 65; refine (CallsIn.inRound l (callsIn_wide.2 (spWith_any n L (mk x) K.out.rise hlL1 (by omega) (.slice au nu cu) Wb.heap.size Wb.drew (Nat.le_refl _) U.out.drew))).mono ?_; rintro er w3 ⟨v3, rfl, o3, hB3⟩; have hz3 : Wb.heap.size ≤ w3.heap.size := hB3.size; have hv3 : ce.VBlk w3 w.heap.size 27 [.int .i64 n, .slice au nu cu] := hv.of (hB3.block w.heap.size hbl); obtain ⟨d0, d1⟩ := sp_cells hv3; have g0 := hv3.frozen 0; have g1 := hv3.frozen 1; obtain ⟨a3, n3, k3, rfl⟩ := own_slice o3) | (fail))
    all_goals
      have hT : Tn w.heap.size Wb ((w3.setCell ⟨w.heap.size, 0, none⟩ (.int .i64 n)).setCell ⟨w.heap.size, 1, none⟩ (.slice a3 n3 k3)) := (((Tn.refl _ _).drew.trans (Tn.of_below hB3)).trans (Tn.only (only_set _ _ _ _))).trans (Tn.only (only_set _ _ _ _))
      refine ⟨tn_keeps hT hv, tn_kp hT hv (Nat.le_refl _) hBs, ⟨_, (hv3.set 0 (.int .i64 n)).set 1 (.slice a3 n3 k3), .inr ?_⟩, hr4.of (hT.keep _ hr4.lt (by omega)), hB.trans (hT.low _ (Nat.le_refl _) hBs), ?_⟩
      · rw [hfold.out]
        refine (o3.keep fun j j1 j2 => ?_).wide hBs (by simp)
        have j3 : Wb.heap.size ≤ j := j1
        rw [Below.heap_setCell _ _ _ _ (show j ≠ w.heap.size by omega), Below.heap_setCell _ _ _ _ (show j ≠ w.heap.size by omega)]
      · rw [hfold.out]
        exact ins_ok K.out (mk_ok hxb.1 (by omega) hn64.2)
  case done =>
    rintro D W hD ⟨⟨u, hv, ho⟩, hr4, hB, hk⟩ hK
    have hne : doorsL (b.toNat + 1) b ≠ [] := by rw [doorsL_cons hb0]; simp
    have hf := opn_fold b.toNat ks b OK.out.head hb0 (by omega) (by omega)
    rw [hf] at ho
    have hO : OwnI W w.heap.size W.heap.size u (opn b.toNat ks b) := by
      rcases ho with ⟨e, -⟩ | h
      · exact absurd e hne
      · exact h
    clear ho hf hk
    obtain ⟨au, nu, cu, rfl⟩ := own_slice hO
    have HO : Hid (OwnI W w.heap.size W.heap.size (.slice au nu cu) (opn b.toNat ks b)) := hO
    clear hO
    obtain ⟨c0, c1⟩ := sp_cells hv
    obtain ⟨d0, d1⟩ := sp_cells hr4
    have f0 := hr4.frozen 0
    have f1 := hr4.frozen 1
    gi_wp2
    obtain ⟨X, hX⟩ : ∃ X, (W.setCell ⟨w.heap.size + 1, 0, none⟩ (.int .i64 n)).setCell ⟨w.heap.size + 1, 1, none⟩ (.slice au nu cu) = X := ⟨_, rfl⟩
    have hOx : Only (w.heap.size + 1) W X := by rw [← hX]; exact (only_set _ _ _ _).trans (only_set _ _ _ _)
    have hVx : ce.VBlk X (w.heap.size + 1) 27 [.int .i64 n, .slice au nu cu] := by rw [← hX]; exact (hr4.set 0 (.int .i64 n)).set 1 (.slice au nu cu)
    have hDx : X.heap[D]? = some (.deferred (some [])) := (hOx.2.1 D (by omega)).trans hK
    have hDl := (Array.getElem?_eq_some_iff.1 hK).1
    rw [hX]
    clear hX
    refine ⟨by simp, .inl ⟨_, _, rfl, run_takeDeferred hDx, ?_⟩⟩
    have hVy : ce.VBlk (X.putObj D (.deferred none)) (w.heap.size + 1) 27 [.int .i64 n, .slice au nu cu] := hVx.of (World.putObj_heap_other (by omega))
    have hbs := hB.size
    have hXs := hOx.1
    refine ⟨_, results_cell_row rfl _ _ (w.heap.size + 1) 27 _ _ _ rfl hVy Try.underlying27 rfl (by rw [sizeSp]; simp), _, rfl, ?_, ?_⟩
    · have o1 := ownI_ne HO.out hr4
      have o2 := HO.out.tn o1 (Nat.le_refl _) (Tn.only hOx)
      refine ⟨⟨o2.row.1, ?_⟩, fun g hg => by have := o2.top g hg; simp; omega⟩
      rcases o2.row.2 with q | ⟨g, cap, cur, e, hl, hb, q⟩
      · exact .inl q
      · exact .inr ⟨g, cap, cur, e, hl, by rw [World.putObj_heap_other (show g ≠ D from fun e' => by subst e'; rw [hDx] at hb; cases hb)]; exact hb, q⟩
    · refine (hB.trans (hOx.2.2 _ (by omega))).trans ((Below.refl _ X).grown (grownBy_putObj' X D (.deferred none)) (by omega) (fun k e => by cases e; omega))
  case stop =>
    rintro D pre rest W - - h -
    exact h.elim
end Go.Proofs.Ytbialeffdpmcjaa.sx
