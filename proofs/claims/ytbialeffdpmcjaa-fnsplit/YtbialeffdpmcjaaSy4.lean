/- Contracts: the model's chapter 7: where a key is, a key is put in, doors are opened, a copy. -/
import Derived.Test.YtbialeffdpmcjaaSy2
import Derived.Test.YtbialeffdpmcjaaRg2
import Derived.Laws.AppendOwnNone
namespace Go.Proofs.Ytbialeffdpmcjaa.sx
open Go.ChangeShapes Go.WideShapes Go.ChangeAt Go.RowKit
open Go.Proofs.Ytbialeffdpmcjaa.ce
set_option linter.unusedVariables false

/-- numbers that a call made are appended to numbers that it made -/
theorem wpList_append_ii {o : Oper} {a : Act} {w : World} {ops : Array Oper} {rest : List Oper} {Q : Exit → Act → World → Prop} (hgd : o.guard = none) (s x : Operand) (t : TypeId) (ho : o.op = .call { callee := .builtin .append, args := #[s, x], argTypes := #[t, t] }) (ht : Try.prog.underlying t = some (.slice 2))
    (lo hi : Nat) (v : Value) (xs : List Int) (hs : a.eval s = v) (hown : OwnI w lo hi v xs) (hlo : lo ≤ w.heap.size) (lo2 hi2 : Nat) (vx : Value) (ys : List Int) (hx : a.eval x = vx) (hxo : OwnI w lo2 hi2 vx ys) (hlen : xs.length + ys.length ≤ 1048576)
    (h : ∀ v' w', OwnI w' lo w'.heap.size v' (xs ++ ys) → Below lo w w' → wpList Try.prog ops Q rest (a.put o.dst v') w') : wpList Try.prog ops Q (o :: rest) a w := by
  rcases hxo.row.2 with ⟨rfl, h0⟩ | ⟨g, cap, cur, rfl, hg, hb, hc1, hc2, hc3, htk⟩
  · have e := List.eq_nil_of_length_eq_zero h0
    subst e
    obtain ⟨i0, hi0, hz0, hz1, hz2⟩ := infoI
    refine wpList_append_own_none hgd s x t ho lo 2 i0 1 ht hi0 v xs.length (ivs xs) hs hown.row hx ?_
    have := h v w ⟨by simpa using hown.row, fun g hg => (hown.row.lt g hg).2⟩ (Below.refl _ _)
    exact this
  · have r := hxo.rd
    refine wpList_append_i hgd s x t ho ht lo hi v xs hs hown hlo g 0 ys.length cap ys hx rfl ?_ hlen h
    intro j u hj
    rw [cell_of_row _ _ _ _ _ _ hb]
    rw [← htk, List.getElem?_take] at hj
    split at hj
    · simpa using hj
    · cases hj

theorem pos_cases (key : Int) (ks : List Int) (i : Nat) (hi : i ≤ pos key ks) : (i < pos key ks ∧ ∃ h : i < ks.length, ks[i] < key) ∨ (i = pos key ks ∧ ks.length ≤ i) ∨ (i = pos key ks ∧ ∃ h : i < ks.length, key ≤ ks[i]) := by
  have hl := pos_le key ks
  by_cases h1 : i < pos key ks
  · exact .inl ⟨h1, by omega, pos_lt key ks i (by omega) h1⟩
  · have e : i = pos key ks := by omega
    by_cases h2 : i < ks.length
    · refine .inr (.inr ⟨e, h2, ?_⟩)
      subst e
      exact pos_ge key ks h2
    · exact .inr (.inl ⟨e, by omega⟩)
theorem isAt_end {ks : List Int} {key : Int} (h : ks.length ≤ pos key ks) : isAt ks key = false := by
  unfold isAt; rw [List.getElem?_eq_none h]; rfl
theorem isAt_in {ks : List Int} {key : Int} {i : Nat} (e : i = pos key ks) (h : i < ks.length) : isAt ks key = (ks[i] == key) := by
  subst e
  unfold isAt; rw [List.getElem?_eq_getElem h]
  by_cases he : ks[pos key ks] = key <;> simp [he]

set_option maxRecDepth 100000 in
set_option maxHeartbeats 2000000 in
theorem l7Find_any (n : Int) (ks : List Int) (key : Int) (v : Value) (hi : Nat) (w : World) (hh : hi ≤ w.heap.size) (r : RdI w hi v ks) :
    Calls Try.prog 59 #[.agg #[.int .i64 n, v], .int .i64 key] w fun e w' => e = .returned (.tuple #[.int .i64 (pos key ks : Nat), .bool (isAt ks key)]) ∧ Below w.heap.size w w' := by
  have hl := r.len
  obtain ⟨a, cap, rfl⟩ := r.form
  have R : Hid (RdI w hi (.slice a ks.length cap) ks) := r
  clear r
  obtain ⟨P, hP⟩ := hid_ex (pos key ks)
  obtain ⟨z, hz⟩ := hid_ex (isAt ks key)
  rw [hP.out, hz.out]
  have BX : Hid True := trivial
  go_enter Try.func59, Try.ntmps59
  go_wp2_with (first | (clear BX; refine wpList_box_v rfl 27 _ rfl [.int .i64 n, .slice a ks.length cap] rfl ?_; intro b1 w1 hb1 hw1 hB1 hV1; obtain ⟨c0, c1⟩ := sp_cells hV1; have hR1 := R.out.below hB1 hh) | (fail))
  go_loop [6] (fun p => ∃ i : Nat, p = .int .i64 i ∧ i ≤ ks.length ∧ Hid (i ≤ pos key ks)) (fun p => ks.length + 1 - (intOf p).toNat)
  case atStart => exact ⟨0, rfl, by omega, Nat.zero_le _⟩
  case round =>
    obtain ⟨i, rfl, hi1, hip⟩ := hrel
    rcases pos_cases key ks i hip.out with ⟨h1, h2, h3⟩ | ⟨h1, h2⟩ | ⟨h1, h2, h3⟩
    · have hp2 : Hid (i + 1 ≤ pos key ks) := h1
      obtain ⟨b, off, rfl, hbh, d1⟩ := hR1.cell i h2
      obtain ⟨k, hk⟩ := hid_ex (ks[i])
      rw [hk.out] at d1 h3
      have hlt' : (i : Int) < (ks.length : Int) := by omega
      clear h1
      go_wp2
      go_round
      case rel => exact ⟨i + 1, by go_num, by omega, hp2⟩
      case measure => simp [intOf]; omega
    · have ez : z = false := by rw [← hz.out]; exact isAt_end (by omega)
      have eP : P = i := by rw [← hP.out, h1]
      subst ez
      subst eP
      have hlt' : ¬ (P : Int) < (ks.length : Int) := by omega
      have hlt2 : decide (P < ks.length) = false := decide_eq_false (by omega)
      clear h1 hR1
      go_wp2
      go_big_quiet (fail)
      go_wp2
      go_ret2
      exact ⟨rfl, hB1.trans (below_drewN _ _)⟩
    · have ez : (ks[i] == key) = z := by rw [← hz.out]; exact (isAt_in h1 h2).symm
      have eP : P = i := by rw [← hP.out, h1]
      subst eP
      obtain ⟨b, off, rfl, hbh, d1⟩ := hR1.cell P h2
      obtain ⟨k, hk⟩ := hid_ex (ks[P])
      rw [hk.out] at d1 h3 ez
      have hlt' : (P : Int) < (ks.length : Int) := by omega
      have hlt2 : decide (P < ks.length) = true := decide_eq_true (by omega)
      have h4 : decide (k < key) = false := decide_eq_false (by omega)
      clear h1 hR1
      go_wp2
      go_big_quiet (fail)
      go_wp2
      go_ret2
      exact ⟨by first | rfl | simp [ez], hB1.trans (below_drewN _ _)⟩

/-- of the blocks that were there only b may be turned -/
structure Tn (b : Nat) (w w' : World) : Prop where
  size : w.heap.size ≤ w'.heap.size
  keep : ∀ k, k < w.heap.size → k ≠ b → w'.heap[k]? = w.heap[k]?
  low : ∀ B, B ≤ b → B ≤ w.heap.size → Below B w w'
theorem Tn.refl (b : Nat) (w : World) : Tn b w w := ⟨Nat.le_refl _, fun _ _ _ => rfl, fun _ _ _ => Below.refl _ _⟩
theorem Tn.trans {b : Nat} {x y z : World} (h : Tn b x y) (k : Tn b y z) : Tn b x z := ⟨Nat.le_trans h.size k.size, fun j hj hn => (k.keep j (Nat.lt_of_lt_of_le hj h.size) hn).trans (h.keep j hj hn), fun B h1 h2 => (h.low B h1 h2).trans (k.low B h1 (Nat.le_trans h2 h.size))⟩
theorem Tn.of_below {b : Nat} {w w' : World} (h : Below w.heap.size w w') : Tn b w w' := ⟨h.size, fun k hk _ => h.block k hk, fun B _ h2 => h.mono h2⟩
theorem Tn.only {b : Nat} {w w' : World} (h : Only b w w') : Tn b w w' := ⟨Nat.le_of_eq h.1.symm, fun k _ hn => h.2.1 k hn, fun B h1 _ => h.2.2 B h1⟩
theorem Tn.drew {b : Nat} {w w' : World} (h : Tn b w w') : Tn b w w'.drew := h.trans (Tn.of_below ((Below.refl _ _).drew))

theorem ownI_ne {w : World} {lo hi b : Nat} {v : Value} {xs : List Int} {vs : List Value} (o : OwnI w lo hi v xs) (h : VBlk w b 27 vs) : v.ownBlock ≠ some b := by
  intro e
  rcases o.row.2 with ⟨rfl, -⟩ | ⟨g, cap, cur, rfl, hg, hb, -⟩
  · cases e
  · cases e
    have := hb.symm.trans h
    simp at this
theorem _root_.Go.Proofs.Ytbialeffdpmcjaa.ce.OwnI.tn {w w' : World} {lo hi b : Nat} {v : Value} {xs : List Int} (o : OwnI w lo hi v xs) (hn : v.ownBlock ≠ some b) (hh : hi ≤ w.heap.size) (h : Tn b w w') : OwnI w' lo hi v xs := by
  refine ⟨⟨o.row.1, ?_⟩, o.top⟩
  rcases o.row.2 with q | ⟨g, cap, cur, rfl, hg, hb, q⟩
  · exact .inl q
  · have ht := o.top g rfl
    exact .inr ⟨g, cap, cur, rfl, hg, by rw [h.keep g (by omega) (fun e => hn (by rw [e]; rfl))]; exact hb, q⟩
theorem wpList_skip {P : Program} {ops : Array Oper} {rest : List Oper} {o : Oper} {a : Act} {w : World} {Q : Exit → Act → World → Prop} (hgd : o.guard = none) {w' : World} (hr : (execOp a.eval o).run P w = .ok .skip w') (h : wpList P ops Q rest (a.put o.dst undef) w') : wpList P ops Q (o :: rest) a w :=
  wpList_plain hgd fun K hK => by unfold Oper.wp; rw [hr]; exact hK _ _ h
theorem wpList_store_k {o : Oper} {a : Act} {w : World} {ops : Array Oper} {rest : List Oper} {Q : Exit → Act → World → Prop} (hgd : o.guard = none) (x y : Operand) (ho : o.op = .store 22 x y) (b j : Nat) (va : Option Addr) (vn vc : Nat) (hx : a.eval x = .pointer (some ⟨b, j, none⟩)) (hy : a.eval y = .slice va vn vc)
    {t : TypeId} {vs : List Value} (hb : VBlk w b t vs) (hj : j < vs.length)
    (h : ∀ w', Only b w w' → VBlk w' b t (vs.set j (.slice va vn vc)) → wpList Try.prog ops Q rest (a.put o.dst undef) w') : wpList Try.prog ops Q (o :: rest) a w := by
  have hc := hb.cell j hj
  have hf : w.frozen? ⟨b, j, none⟩ = false := hb.frozen _
  refine wpList_skip hgd (w' := w.setCell ⟨b, j, none⟩ (.slice va vn vc)) ?_ (h _ (only_set _ _ _ _) (hb.set j _))
  unfold execOp
  simp only [ho, hx, hy]
  simp [go_sem, hc, hf]
theorem own_slice {w : World} {lo hi : Nat} {v : Value} {xs : List Int} (o : OwnI w lo hi v xs) : ∃ a n k, v = .slice a n k := by
  obtain ⟨a, cap, e⟩ := o.rd.form
  exact ⟨a, _, cap, e⟩
theorem ins_len_ge (ks : List Int) (key : Int) : ks.length ≤ (ins ks key).length := by
  unfold ins
  split
  · omega
  · simp; omega

/-- the rest of a slice, from p on: at its capacity's end it begins where the slice does -/
theorem drop_two {w : World} {hi g n cap : Nat} {xs : List Int} (r : RdS w hi (.slice (some ⟨g, 0, none⟩) n cap) xs) {p : Nat} (hp : p ≤ xs.length) :
    (p < cap ∧ Hid (RdS w hi (.slice (some ⟨g, p, none⟩) (n - p) (cap - p)) (xs.drop p))) ∨ (p = cap ∧ Hid (RdS w hi (.slice (some ⟨g, 0, none⟩) 0 0) (xs.drop p))) := by
  have hd := r.drop p hp
  rw [Nat.zero_add] at hd
  obtain ⟨b', off', cap', e, h1, h2, h4, h5⟩ := r.fits
  cases e
  by_cases hpc : p < cap
  · exact .inl ⟨hpc, hd⟩
  · have e : p = cap := by omega
    have e2 : xs.drop p = [] := List.drop_eq_nil_of_le (by omega)
    refine .inr ⟨e, ⟨g, 0, 0, ?_, ?_, Nat.zero_le _, h4, ?_⟩⟩
    · rw [e2]; rfl
    · rw [e2]; simp
    · rw [e2]; intro j u hj; simp [ivs] at hj

set_option maxRecDepth 100000 in
set_option maxHeartbeats 2000000 in
theorem l7Put_any (n : Int) (ks : List Int) (key : Int) (v : Value) (b lo hi : Nat) (w : World) (hlo : lo ≤ w.heap.size) (hh : hi ≤ w.heap.size) (h1 : 1 ≤ ks.length) (h2 : ks.length ≤ 1000000) (own : OwnI w lo hi v ks) (hV : VBlk w b 27 [.int .i64 n, v]) :
    Calls Try.prog 61 #[.pointer (some ⟨b, 0, none⟩), .int .i64 key] w fun e w' => ∃ v', e = .returned (.bool (!isAt ks key)) ∧ OwnI w' lo w'.heap.size v' (ins ks key) ∧ VBlk w' b 27 [.int .i64 n, v'] ∧ Tn b w w' := by
  have hne := ownI_ne own hV
  have hbl := hV.lt
  obtain ⟨g, cap, rfl, hg1, hg2, hg3⟩ := own.form h1
  have hcap : ks.length ≤ cap ∧ cap ≤ 9223372036854775807 := by
    obtain ⟨a', cap', e, q1, q2, -⟩ := own.rd.fits
    cases e
    unfold maxLen at q2
    omega
  have O : Hid (OwnI w lo hi (.slice (some ⟨g, 0, none⟩) ks.length cap) ks) := own
  clear own
  obtain ⟨c0, c1⟩ := sp_cells hV
  have hpl := pos_le key ks
  cases hz : isAt ks key with
  | true =>
    rw [ins_yes hz]
    go_enter Try.func61, Try.ntmps61
    go_wp2_with (first | (go_at_call 59; refine (l7Find_any n ks key _ hi _ hh O.out.rd).mono ?_; rintro er w1 ⟨rfl, hB1⟩; rw [hz]) | (fail))
    go_ret
    have hT : Tn b w w1 := Tn.of_below hB1
    exact ⟨_, rfl, (O.out.below hB1 hh).wide (Nat.le_refl _) (by have := hB1.size; omega), hV.of (hB1.block b hbl), hT⟩
  | false =>
    rw [ins_no (by rw [hz]; exact Bool.false_ne_true)]
    obtain ⟨p, hp⟩ := hid_ex (pos key ks)
    rw [hp.out] at hpl ⊢
    have hp1 : (p : Int) ≤ (ks.length : Int) := by omega
    have hp2 : (p : Int) ≤ (cap : Int) := by omega
    have hp3 : (ks.length : Int) ≤ (cap : Int) := by omega
    have hdl : (ks.drop p).length = ks.length - p := List.length_drop
    have htl : (ks.take p).length = p := by rw [List.length_take]; omega
    have m1 : Hid True := trivial
    have m2 : Hid True := trivial
    have m3 : Hid True := trivial
    have m4 : Hid True := trivial
    go_enter Try.func61, Try.ntmps61
    go_wp2_with (first | (go_at_call 59; refine (l7Find_any n ks key _ hi _ hh O.out.rd).mono ?_; rintro er w1 ⟨rfl, hB1⟩; rw [hz, hp.out]; have hz1 := hB1.size; have hV1 := hV.of (hB1.block b hbl); clear c0 c1; obtain ⟨c0, c1⟩ := sp_cells hV1; have R1 : RdS w1 hi (.slice (some ⟨g, 0, none⟩) ks.length cap) ks := ((O.out.below hB1 hh).rd).start h1; rcases drop_two R1 hpl with ⟨hpc, RD⟩ | ⟨hpc, RD⟩; rotate_left; (subst hpc; have hpe : ks.length = p := (by omega)); rotate_left) | (clear m1; go_at_call 81; refine (l1Copy_any (ks.drop p) _ hi _ (by omega) RD.out (by omega)).mono ?_; rintro er w2 ⟨v2, rfl, o2, hB2⟩; have hz2 := hB2.size; have hV2 := hV1.of (hB2.block b (by omega)); clear c0 c1; obtain ⟨c0, c1⟩ := sp_cells hV2; have R2 := (R1.below hB2 (by omega)).take p hpl) | (clear m2; go_at_call 81; refine (l1Copy_any (ks.take p) _ hi _ (by omega) R2 (by omega)).mono ?_; rintro er w3 ⟨v3, rfl, o3, hB3⟩; have hz3 := hB3.size; have hV3 := hV2.of (hB3.block b (by omega)); clear c0 c1; obtain ⟨c0, c1⟩ := sp_cells hV3; replace o2 := o2.below hB3 (Nat.le_refl _)) | (clear m3; at_builtin; refine wpList_append_i rfl _ _ 22 rfl Try.underlying22 w2.heap.size _ _ (ks.take p) rfl (o3.below ((Below.refl w3.heap.size w3).alloc (Nat.le_refl _) _) (Nat.le_refl _)) (by simp; omega) w3.heap.size 0 1 1 [key] rfl rfl (one_range w3 _) (by omega) ?_; intro v4 w4 o4 hB4; have hB34 : Below w2.heap.size w3 w4 := ((Below.refl w3.heap.size w3).alloc (Nat.le_refl _) _ |>.mono hz3).trans hB4; have hz4 := hB34.size; have hV4 := hV3.of (hB34.block b (by omega)); clear c0 c1; obtain ⟨c0, c1⟩ := sp_cells hV4; replace o2 := o2.below hB34 (Nat.le_refl _)) | (clear m4; at_builtin; refine wpList_append_ii rfl _ _ 22 rfl Try.underlying22 w2.heap.size _ _ (ks.take p ++ [key]) rfl o4 (by omega) _ _ _ (ks.drop p) rfl o2 (by simp; omega) ?_; intro v5 w5 o5 hB5; have hz5 := hB5.size; have hV5 := hV4.of (hB5.block b (by omega)); clear c0 c1; obtain ⟨c0, c1⟩ := sp_cells hV5; obtain ⟨a5, n5, k5, rfl⟩ := own_slice o5) | (refine wpList_store_k rfl _ _ rfl b 1 a5 n5 k5 rfl rfl hV5 (by simp) ?_; intro w6 hO6 hV6; have hz6 := hO6.1) | (fail))
    all_goals
      go_ret
      have hB25 : Below w2.heap.size w2 w5 := (hB3.trans hB34).trans hB5
      have hT1 : Tn b w w1 := Tn.of_below hB1
      have hT2 : Tn b w1 w2 := Tn.of_below hB2
      have hT5 : Tn b w2 w5 := Tn.of_below hB25
      have o6 := (o5.keep (w' := w6) fun k k1 k2 => hO6.2.1 k (by omega)).wide (lo' := lo) (hi' := w6.heap.size) (by omega) (by omega)
      rw [List.append_assoc] at o6
      exact ⟨_, rfl, o6, hV6, ((hT1.trans hT2).trans hT5).trans (Tn.only hO6)⟩

set_option maxRecDepth 100000 in
set_option maxHeartbeats 2000000 in
theorem l7Open_any (n : Int) (ks : List Int) (b0 : Int) (v : Value) (b lo hi : Nat) (w : World) (hlo : lo ≤ w.heap.size) (hh : hi ≤ w.heap.size) (h1 : 1 ≤ ks.length) (h2 : ks.length + b0.toNat ≤ 900000) (hb : b0 ≤ 32767) (own : OwnI w lo hi v ks) (hV : VBlk w b 27 [.int .i64 n, v]) :
    Calls Try.prog 54 #[.pointer (some ⟨b, 0, none⟩), .int .i64 b0] w fun e w' => (∃ u, e = .returned u) ∧ ∃ v', OwnI w' lo w'.heap.size v' (opn b0.toNat ks b0) ∧ VBlk w' b 27 [.int .i64 n, v'] ∧ Tn b w w' := by
  have O : Hid (OwnI w lo hi v ks) := own
  have V : Hid (VBlk w b 27 [.int .i64 n, v]) := hV
  clear own hV
  go_enter Try.func54, Try.ntmps54
  go_wp2
  go_loopw [1] (fun p wr => ∃ (c : Int) (f : Nat) (L : List Int) (u : Value), p = .int .i64 c ∧ Hid (opn f L c = opn b0.toNat ks b0) ∧ c ≤ f ∧ c ≤ 32767 ∧ 1 ≤ L.length ∧ L.length + f ≤ 900000 ∧ lo ≤ wr.heap.size ∧ Hid (OwnI wr lo wr.heap.size u L) ∧ Hid (VBlk wr b 27 [.int .i64 n, u]) ∧ Hid (Tn b w wr)) (fun p _ => (intOf p).toNat)
  case atStart => exact ⟨b0, b0.toNat, ks, v, rfl, (rfl : opn b0.toNat ks b0 = _), by omega, hb, h1, h2, hlo, (O.out.wide (Nat.le_refl _) hh : OwnI w lo w.heap.size v ks), V, Tn.refl _ _⟩
  case round =>
    obtain ⟨c, f, L, u, rfl, hO, hcf, hc, hl1, hl2, hlo', ho, hv, hT⟩ := hrel
    by_cases h0 : 0 < c
    · obtain ⟨f', rfl⟩ : ∃ f', f = f' + 1 := ⟨f - 1, by omega⟩
      have hO2 : Hid (opn f' (ins L (mk c)) (parent c) = opn b0.toNat ks b0) := by unfold Hid; rw [← hO.out, opn_step h0]
      have hp := parent_lt (b := c) (by omega) hc
      have ek : keyB c 0 = mk c := by rw [keyB_yes c 0 (by omega) hc]; unfold mk; omega
      have hle := ins_len L (mk c)
      have hge := ins_len_ge L (mk c)
      go_wp2_with (first | (go_at_call 42; refine (specMarkKey_any _ _).mono ?_; rintro e wq ⟨rfl, hq⟩; subst wq; rw [ek]) | (go_at_call 61; refine (l7Put_any n L (mk c) u b lo wr.heap.size wr hlo' (Nat.le_refl _) hl1 (by omega) ho.out hv.out).mono ?_; rintro e w2 ⟨u2, rfl, o2, v2, t2⟩; have hz2 := t2.size; have T2 : Hid (Tn b w w2) := hT.out.trans t2) | (go_at_call 82; refine (specParentOf_any _ _).mono ?_; rintro e wq ⟨rfl, hq⟩; subst wq) | (fail))
      go_roundw
      case rel => exact ⟨parent c, f', ins L (mk c), u2, rfl, hO2, by omega, by omega, by omega, by omega, by omega, o2, v2, T2⟩
      case measure => simp [intOf]; omega
    · have eO : Hid (L = opn b0.toNat ks b0) := by unfold Hid; rw [← hO.out, opn_stop h0]
      go_wp2
      go_end0
      exact ⟨⟨_, rfl⟩, u, by rw [← eO.out]; exact ho.out, hv.out, hT.out⟩
end Go.Proofs.Ytbialeffdpmcjaa.sx
