/- Contracts: the model's rings in their variable: who joins, who is used; a text is cut out. -/
import Derived.Test.YtgcgofnjaipndaaRo4
namespace Go.Proofs.Ytgcgofnjaipndaa.rg
open Go.ChangeShapes Go.WideShapes Go.ChangeAt Go.RowKit
open Go.Proofs.Ytgcgofnjaipndaa.ce Go.Proofs.Ytgcgofnjaipndaa.ro
set_option linter.unusedVariables false

/-- of the blocks that were there only b, and from lo on rows of texts and truths, may be turned -/
structure Tn (lo b : Nat) (w w' : World) : Prop where
  os : w'.os = w.os
  tape : w'.tape = w.tape
  output : w'.output = w.output
  size : w.heap.size ≤ w'.heap.size
  low : ∀ k, k < lo → k ≠ b → w'.heap[k]? = w.heap[k]?
  keep : ∀ (k : Nat) (cur : Array Value) (t : TypeId) (f : Nat × Nat), w.heap[k]? = some (.cells cur t f) → k ≠ b → t ≠ 9 → t ≠ 4 → w'.heap[k]? = w.heap[k]?
theorem Tn.refl (lo b : Nat) (w : World) : Tn lo b w w := ⟨rfl, rfl, rfl, Nat.le_refl _, fun _ _ _ => rfl, fun _ _ _ _ _ _ _ _ => rfl⟩
theorem Tn.trans {lo b : Nat} {x y z : World} (h : Tn lo b x y) (k : Tn lo b y z) : Tn lo b x z :=
  ⟨k.os.trans h.os, k.tape.trans h.tape, k.output.trans h.output, Nat.le_trans h.size k.size, fun j h1 h2 => (k.low j h1 h2).trans (h.low j h1 h2), fun j cur t f hj h1 h2 h3 => (k.keep j cur t f (by rw [h.keep j cur t f hj h1 h2 h3]; exact hj) h1 h2 h3).trans (h.keep j cur t f hj h1 h2 h3)⟩
theorem Tn.of_below {lo b : Nat} {w w' : World} (h : Below w.heap.size w w') (hl : lo ≤ w.heap.size) : Tn lo b w w' := ⟨h.os, h.tape, h.output, h.size, fun k h1 _ => h.block k (by omega), fun k cur t f hk _ _ _ => h.block k (Array.getElem?_eq_some_iff.1 hk).1⟩
theorem Tn.of_ty {lo b : Nat} {t : TypeId} {w w' : World} (h : Ty lo t w w') (ht : t = 9 ∨ t = 4) : Tn lo b w w' := ⟨h.low.os, h.low.tape, h.low.output, h.low.size, fun k h1 _ => h.low.block k h1, fun k cur t' f hk _ h1 h2 => h.keep k cur t' f hk (by rcases ht with rfl | rfl <;> assumption)⟩
theorem Tn.of_only {lo b : Nat} {w w' : World} (h : Only b w w') : Tn lo b w w' := by
  have h0 := h.2.2 0 (Nat.zero_le _)
  exact ⟨h0.os, h0.tape, h0.output, h0.size, fun k _ h2 => h.2.1 k h2, fun k cur t f _ h2 _ _ => h.2.1 k h2⟩
theorem Tn.below {lo b B : Nat} {w w' : World} (h : Tn lo b w w') (h1 : B ≤ lo) (h2 : B ≤ b) : Below B w w' := ⟨h.os, h.tape, h.output, h.size, fun k hk => h.low k (by omega) (by omega)⟩
theorem Tn.vblk {lo b b' : Nat} {w w' : World} {t : TypeId} {vs : List Value} (h : Tn lo b w w') (hb : VBlk w b' t vs) (hn : b' ≠ b) (h1 : t ≠ 9) (h2 : t ≠ 4) : VBlk w' b' t vs := hb.of (h.keep b' _ t _ hb hn h1 h2)

section laws
variable {ops : Array Oper} {rest : List Oper} {o : Oper} {a : Act} {w : World} {Q : Exit → Act → World → Prop} {K : Act → World → Prop} {X : Prop}
theorem wpList_store_ss (hgd : o.guard = none) (x y : Operand) (ho : o.op = .store 23 x y) (b j : Nat) (va : Option Addr) (vn vc : Nat) (hx : a.eval x = .pointer (some ⟨b, j, none⟩)) (hy : a.eval y = .slice va vn vc)
    {t : TypeId} {vs : List Value} (hb : VBlk w b t vs) (hj : j < vs.length)
    (h : ∀ w', Only b w w' → VBlk w' b t (vs.set j (.slice va vn vc)) → wpList Try.prog ops Q rest (a.put o.dst undef) w') : wpList Try.prog ops Q (o :: rest) a w := by
  have hc := hb.cell j hj
  have hf : w.frozen? ⟨b, j, none⟩ = false := hb.frozen _
  refine wpList_skp hgd (w' := w.setCell ⟨b, j, none⟩ (.slice va vn vc)) ?_ (h _ (only_set _ _ _ _) (hb.set j _))
  unfold execOp
  simp only [ho, hx, hy]
  simp [go_sem, hc, hf]
theorem wpList_store_bs (hgd : o.guard = none) (x y : Operand) (ho : o.op = .store 24 x y) (b j : Nat) (va : Option Addr) (vn vc : Nat) (hx : a.eval x = .pointer (some ⟨b, j, none⟩)) (hy : a.eval y = .slice va vn vc)
    {t : TypeId} {vs : List Value} (hb : VBlk w b t vs) (hj : j < vs.length)
    (h : ∀ w', Only b w w' → VBlk w' b t (vs.set j (.slice va vn vc)) → wpList Try.prog ops Q rest (a.put o.dst undef) w') : wpList Try.prog ops Q (o :: rest) a w := by
  have hc := hb.cell j hj
  have hf : w.frozen? ⟨b, j, none⟩ = false := hb.frozen _
  refine wpList_skp hgd (w' := w.setCell ⟨b, j, none⟩ (.slice va vn vc)) ?_ (h _ (only_set _ _ _ _) (hb.set j _))
  unfold execOp
  simp only [ho, hx, hy]
  simp [go_sem, hc, hf]
theorem wpList_store_n (hgd : o.guard = none) (x y : Operand) (ho : o.op = .store 2 x y) (b j : Nat) (z : Int) (hx : a.eval x = .pointer (some ⟨b, j, none⟩)) (hy : a.eval y = .int .i64 z)
    {t : TypeId} {vs : List Value} (hb : VBlk w b t vs) (hj : j < vs.length)
    (h : ∀ w', Only b w w' → VBlk w' b t (vs.set j (.int .i64 z)) → wpList Try.prog ops Q rest (a.put o.dst undef) w') : wpList Try.prog ops Q (o :: rest) a w := by
  have hc := hb.cell j hj
  have hf : w.frozen? ⟨b, j, none⟩ = false := hb.frozen _
  refine wpList_skp hgd (w' := w.setCell ⟨b, j, none⟩ (.int .i64 z)) ?_ (h _ (only_set _ _ _ _) (hb.set j _))
  unfold execOp
  simp only [ho, hx, hy]
  simp [go_sem, hc, hf]
/-- a truth is stored into a row of one's own -/
theorem wpList_store_tb (hgd : o.guard = none) (x y : Operand) (ho : o.op = .store 4 x y) (g i : Nat) (z : Bool) (hx : a.eval x = .pointer (some ⟨g, i, none⟩)) (hy : a.eval y = .bool z)
    {lo hi n cap : Nat} {xs : List Bool} (own : Own encB w lo hi (.slice (some ⟨g, 0, none⟩) n cap) xs) (hj : i < xs.length)
    (h : ∀ w', Own encB w' lo hi (.slice (some ⟨g, 0, none⟩) n cap) (xs.set i z) → Ty lo 4 w w' → wpList Try.prog ops Q rest (a.put o.dst undef) w') : wpList Try.prog ops Q (o :: rest) a w := by
  obtain ⟨g', e, hg, hc, hf⟩ := ownB_cell own i hj
  cases e
  have hT : Ty lo 4 w (w.setCell ⟨g, i, none⟩ (.bool z)) := by
    rcases own.row with ⟨rfl, -⟩ | ⟨g2, cap2, cur, e2, -, hb, -⟩
    · simp at hj
    · cases e2
      exact ⟨(only_set w g i _).2.2 _ hg.1, fun k cur' t' f hk hn => (only_set w g i _).2.1 k fun e => by
        rw [e, hb] at hk
        simp at hk
        exact hn hk.2.1.symm⟩
  refine wpList_skp hgd (w' := w.setCell ⟨g, i, none⟩ (.bool z)) ?_ (h _ (ownB_set own i hj z) hT)
  unfold execOp
  simp only [ho, hx, hy]
  simp [go_sem, hc, hf]
end laws

theorem rdS_rest {w : World} {b off n cap : Nat} {xs : List ByteArray} (r : Rd encS w (.slice (some ⟨b, off, none⟩) n cap) xs) (m : Nat) (hm : m ≤ xs.length) :
    Rd encS w (.slice (if cap = m then some ⟨b, off, none⟩ else some ⟨b, off + m, none⟩) (n - m) (cap - m)) (xs.drop m) := by
  rcases r.rest m hm with ⟨h1, h2⟩ | ⟨h1, h2, h3, h4⟩
  · rw [if_neg (by omega)]
    simpa [encS] using h2.out
  · rw [if_pos h1.symm, h1, h2, h1, Nat.sub_self, ← h1]
    exact h4.out
theorem rdB_rest {w : World} {b off n cap : Nat} {xs : List Bool} (r : Rd encB w (.slice (some ⟨b, off, none⟩) n cap) xs) (m : Nat) (hm : m ≤ xs.length) :
    Rd encB w (.slice (if cap = m then some ⟨b, off, none⟩ else some ⟨b, off + m, none⟩) (n - m) (cap - m)) (xs.drop m) := by
  rcases r.rest m hm with ⟨h1, h2⟩ | ⟨h1, h2, h3, h4⟩
  · rw [if_neg (by omega)]
    simpa [encB] using h2.out
  · rw [if_pos h1.symm, h1, h2, h1, Nat.sub_self, ← h1]
    exact h4.out

theorem bl_alloc {w w' : World} {o : Obj} (h : Below w.heap.size w w') : Below w.heap.size w (w'.alloc o) := h.alloc h.size _
theorem bl_alloc_drew {w w' : World} {o : Obj} (h : Below w.heap.size w w'.drew) : Below w.heap.size w (w'.alloc o).drew := bl_alloc (w' := w'.drew) h
/-- one text is cut out -/
theorem l1Cut_any (N : List ByteArray) (v : Value) (i : Nat) (w : World) (r : Rd encS w v N) (hi : i < N.length) (hN : N.length ≤ 1000000) :
    Calls Try.prog 68 #[v, .int .i64 i] w fun e w' => ∃ v', e = .returned v' ∧ Own encS w' w.heap.size w'.heap.size v' (N.take i ++ N.drop (i + 1)) ∧ Below w.heap.size w w' := by
  obtain ⟨a, cap, rfl⟩ := r.form
  obtain ⟨b, off, rfl, hb, -⟩ := rdS_cell r i hi
  obtain ⟨-, hc1, hc2⟩ := r.cap
  obtain ⟨p, hp⟩ := hid_ex (i + 1)
  have RT := r.take i (by omega)
  have RR := rdS_rest r (i + 1) (by omega)
  clear r
  rw [hp.out] at RR ⊢
  have hpi : Hid (p = i + 1) := hp.out.symm
  have i0 : (0 : Int) ≤ (i : Int) := by omega
  have i1 : (i : Int) ≤ (cap : Int) := by omega
  have p1 : (p : Int) ≤ (N.length : Int) := by have := hpi.out; omega
  have p2 : (p : Int) ≤ (cap : Int) := by have := hpi.out; omega
  have p3 : p ≤ N.length := by omega
  have i3 : (N.length : Int) ≤ (cap : Int) := by omega
  have i4 : IntKind.i64.wrap ((i : Int) + 1) = (p : Int) := by rw [IntKind.wrap_i64]; have := hpi.out; omega
  have hlt : (N.take i).length ≤ 1000 + i := by rw [List.length_take]; omega
  have hld : (N.drop p).length ≤ N.length - p := by rw [List.length_drop]; omega
  have hip := hpi.out
  clear hp
  replace hip : i < p := by omega
  have RD : Hid (Rd encS w _ (N.drop p)) := RR
  clear RR
  go_enter Try.func68, Try.ntmps68
  go_wp2
  go_region_held3 (fun w' => Below w.heap.size w w') (first | with_reducible assumption | exact (Below.refl _ _).drew | with_reducible exact bl_alloc (by assumption) | with_reducible exact bl_alloc_drew (by assumption) | (fail)) (first | (refine step_append_g infoS rfl _ _ 23 rfl Try.underlying23 w.heap.size 0 _ [] rfl (own_zero _ _ _ _ _) (Below.size (by with_reducible assumption)) _ (N.take i) rfl (RT.grow (by with_reducible assumption)) (by simp; omega) ?_; intro v5 W5 o5 hT5; rw [List.nil_append] at o5; have hB5 : Below w.heap.size w W5 := Below.trans (by with_reducible assumption) hT5.low) | (refine step_append_g infoS rfl _ _ 23 rfl Try.underlying23 w.heap.size _ _ (N.take i) rfl o5 (Below.size hB5) _ (N.drop p) rfl (RD.out.grow hB5) (by omega) ?_; intro v6 W6 o6 hT6; have hB6 : Below w.heap.size w W6 := hB5.trans hT6.low) | (fail))
  go_wp2
  all_goals
    go_ret
    exact ⟨_, rfl, o6, hB6⟩

theorem mayB_false1 {r : Rg} {s : ByteArray} (h : nameB s = false) : mayB r s = false := by unfold mayB; rw [h]; rfl
theorem mayB_false2 {r : Rg} {s : ByteArray} (h : 0 ≤ posS s r.N) : mayB r s = false := by unfold mayB; rw [decide_eq_false (by omega)]; simp
theorem mayB_false3 {r : Rg} {s : ByteArray} (h : r.N.length = 20) : mayB r s = false := by unfold mayB; rw [h]; simp
theorem mayB_true {r : Rg} {s : ByteArray} (h1 : nameB s = true) (h2 : ¬ 0 ≤ posS s r.N) (h3 : ¬ r.N.length = 20) : mayB r s = true := by
  unfold mayB; rw [h1, decide_eq_true (by omega)]; simpa using h3
/-- what a ring is behind a try to join -/
def joinR (r : Rg) (s : ByteArray) : Rg := if mayB r s = true then joined r s else r

set_option maxRecDepth 100000 in
set_option maxHeartbeats 1000000 in
theorem l8Join_any (r : Rg) (s : ByteArray) (hs : s.size ≤ 9223372036854775807) (vN vU : Value) (b lo hi : Nat) (w : World) (own : OwnR w lo hi vN vU r) (hV : VBlk w b 29 [vN, vU, .int .i64 r.A]) (hlo : lo ≤ w.heap.size) (hN : r.N.length ≤ 1000000) (hU : r.U.length ≤ 1000000) :
    Calls Try.prog 47 #[.pointer (some ⟨b, 0, none⟩), .string s] w fun e w' => e = .returned (.bool (mayB r s)) ∧ ∃ vN' vU', OwnR w' lo w'.heap.size vN' vU' (joinR r s) ∧ VBlk w' b 29 [vN', vU', .int .i64 r.A] ∧ Tn lo b w w' := by
  obtain ⟨N, U, A⟩ := r
  obtain ⟨a, n, cap, rfl⟩ := own.n.slice
  obtain ⟨c, m, dc, rfl⟩ := own.u.slice
  have hn : Hid (n = N.length) := own.n.rd.cap.1
  have O : Hid (OwnR w lo hi (.slice a n cap) (.slice c m dc) ⟨N, U, A⟩) := own
  have hbl := hV.lt
  have V : Hid (VBlk w b 29 [.slice a n cap, .slice c m dc, .int .i64 A]) := hV
  obtain ⟨c0, c1, c2⟩ := cells3 hV
  dsimp only at hN hU ⊢
  clear own hV
  obtain ⟨y, hy⟩ := hid_ex (mayB ⟨N, U, A⟩ s)
  obtain ⟨p, hp⟩ := hid_ex (posS s N)
  cases hnm : nameB s with
  | false =>
    have ey := hy.out.symm.trans (mayB_false1 (r := ⟨N, U, A⟩) hnm)
    unfold joinR
    rw [hy.out, ey, if_neg Bool.false_ne_true]
    go_enter Try.func47, Try.ntmps47
    go_wp2_with (first | (go_at_call 11; refine (specNameOk_any _ hs _).mono ?_; rintro e wq ⟨rfl, hq⟩; subst wq; rw [hnm]) | (fail))
    go_ret
    exact ⟨rfl, _, _, O.out.top, V.out, Tn.refl _ _ _⟩
  | true =>
    by_cases hp0 : 0 ≤ p
    · have ey := hy.out.symm.trans (mayB_false2 (r := ⟨N, U, A⟩) (by rw [hp.out]; exact hp0))
      have hpg : p ≥ 0 := hp0
      unfold joinR
      rw [hy.out, ey, if_neg Bool.false_ne_true]
      go_enter Try.func47, Try.ntmps47
      go_wp2_with (first | (go_at_call 11; refine (specNameOk_any _ hs _).mono ?_; rintro e wq ⟨rfl, hq⟩; subst wq; rw [hnm]) | (go_at_call 66; refine (l1At_any N _ _ _ O.out.n.rd).mono ?_; rintro e wq ⟨rfl, hq⟩; subst wq; rw [hp.out]) | (fail))
      go_ret
      exact ⟨rfl, _, _, O.out.top, V.out, Tn.refl _ _ _⟩
    · have hpg : ¬ p ≥ 0 := hp0
      by_cases h20 : n = 20
      · have ey := hy.out.symm.trans (mayB_false3 (r := ⟨N, U, A⟩) (hn.out.symm.trans h20))
        have h20b : ((n : Int) == 20) = true := by simp; omega
        unfold joinR
        rw [hy.out, ey, if_neg Bool.false_ne_true]
        clear h20
        go_enter Try.func47, Try.ntmps47
        go_wp2_with (first | (go_at_call 11; refine (specNameOk_any _ hs _).mono ?_; rintro e wq ⟨rfl, hq⟩; subst wq; rw [hnm]) | (go_at_call 66; refine (l1At_any N _ _ _ O.out.n.rd).mono ?_; rintro e wq ⟨rfl, hq⟩; subst wq; rw [hp.out]) | (fail))
        go_ret
        exact ⟨rfl, _, _, O.out.top, V.out, Tn.refl _ _ _⟩
      · have ey := hy.out.symm.trans (mayB_true (r := ⟨N, U, A⟩) hnm (by rw [hp.out]; exact hp0) (fun q => h20 (hn.out.trans q)))
        have h20b : ((n : Int) == 20) = false := by simp; omega
        unfold joinR
        rw [hy.out, ey, if_pos rfl]
        unfold joined
        dsimp only
        have m1 : Hid True := trivial
        have m2 : Hid True := trivial
        go_enter Try.func47, Try.ntmps47
        go_wp2_with (first | (go_at_call 11; refine (specNameOk_any _ hs _).mono ?_; rintro e wq ⟨rfl, hq⟩; subst wq; rw [hnm]) | (go_at_call 66; refine (l1At_any N _ _ _ O.out.n.rd).mono ?_; rintro e wq ⟨rfl, hq⟩; subst wq; rw [hp.out]) | (clear m1; at_builtin; refine wpList_append_g infoS rfl _ _ 23 rfl Try.underlying23 lo _ _ N rfl (O.out.n.grow ((Below.refl _ _).alloc (Nat.le_refl _) _)) (by simp; omega) _ [s] rfl (rd_new (E := encS) w s #[.string s] rfl) (by simp; omega) ?_; intro v1 w1 o1 hT1; have hBa : Below w.heap.size w (w.alloc (.cells #[.string s] 9)) := (Below.refl _ _).alloc (Nat.le_refl _) _; have V1 := hT1.vblk (vblk_grow V.out hBa) (by decide); have u1 := hT1.own (O.out.u.grow hBa) (by decide); have T1 : Tn lo b w w1 := (Tn.of_below hBa hlo).trans (Tn.of_ty hT1 (.inl rfl)); have hz1 := T1.size; obtain ⟨a1, n1, k1, rfl⟩ := o1.slice) | (refine wpList_store_ss rfl _ _ rfl b 0 a1 n1 k1 rfl rfl V1 (by simp) ?_; intro w2 hO2 V2; replace o1 := o1.only hO2 V1 (by decide); replace u1 := u1.only hO2 V1 (by decide); have T2 : Tn lo b w w2 := T1.trans (Tn.of_only hO2); have hz2 := T2.size; clear c0 c1 c2; obtain ⟨c0, c1, c2⟩ := cells3 V2) | (clear m2; at_builtin; refine wpList_append_g infoB rfl _ _ 24 rfl Try.underlying24 lo _ _ U rfl (u1.grow ((Below.refl _ _).alloc (Nat.le_refl _) _)) (by simp; omega) _ [false] rfl (rd_new (E := encB) w2 false #[.bool false] rfl) (by simp; omega) ?_; intro v3 w3 u3 hT3; have hBa3 : Below w2.heap.size w2 (w2.alloc (.cells #[.bool false] 4)) := (Below.refl _ _).alloc (Nat.le_refl _) _; have V3 := hT3.vblk (vblk_grow V2 hBa3) (by decide); have o3 := hT3.own (o1.grow hBa3) (by decide); have T3 : Tn lo b w w3 := (T2.trans (Tn.of_below hBa3 (by omega))).trans (Tn.of_ty hT3 (.inr rfl)); obtain ⟨a3, n3, k3, rfl⟩ := u3.slice) | (refine wpList_store_bs rfl _ _ rfl b 1 a3 n3 k3 rfl rfl V3 (by simp) ?_; intro w4 hO4 V4; replace o3 := o3.only hO4 V3 (by decide); replace u3 := u3.only hO4 V3 (by decide); have T4 : Tn lo b w w4 := T3.trans (Tn.of_only hO4)) | (fail))
        go_ret
        exact ⟨rfl, _, _, ⟨o3.top, u3.top⟩, V4, T4⟩

/-- what a ring is behind a use -/
theorem used_no {r : Rg} {s : ByteArray} (h : ¬ 0 ≤ posS s r.N) : used r s = r := if_neg h
theorem used_yes {r : Rg} {s : ByteArray} (h : 0 ≤ posS s r.N) : used r s = ⟨r.N, r.U.set (posS s r.N).toNat true, r.A⟩ := if_pos h

set_option maxRecDepth 100000 in
set_option maxHeartbeats 1000000 in
theorem l8Use_any (r : Rg) (s : ByteArray) (vN vU : Value) (b lo hi : Nat) (w : World) (own : OwnR w lo hi vN vU r) (hV : VBlk w b 29 [vN, vU, .int .i64 r.A]) (hNU : r.U.length = r.N.length) :
    Calls Try.prog 56 #[.pointer (some ⟨b, 0, none⟩), .string s] w fun e w' => (∃ u, e = .returned u) ∧ OwnR w' lo hi vN vU (used r s) ∧ VBlk w' b 29 [vN, vU, .int .i64 r.A] ∧ Tn lo b w w' := by
  obtain ⟨N, U, A⟩ := r
  obtain ⟨a, n, cap, rfl⟩ := own.n.slice
  obtain ⟨c, m, dc, rfl⟩ := own.u.slice
  have hm : Hid (m = U.length) := own.u.rd.cap.1
  have O : Hid (OwnR w lo hi (.slice a n cap) (.slice c m dc) ⟨N, U, A⟩) := own
  have V : Hid (VBlk w b 29 [.slice a n cap, .slice c m dc, .int .i64 A]) := hV
  obtain ⟨c0, c1, c2⟩ := cells3 hV
  dsimp only at hNU ⊢
  clear own hV
  have hbd := posS_bd s N
  have hy1 := @used_yes ⟨N, U, A⟩ s
  have hy2 := @used_no ⟨N, U, A⟩ s
  dsimp only at hy1 hy2
  obtain ⟨p, hp⟩ := hid_ex (posS s N)
  rw [hp.out] at hbd hy1 hy2
  by_cases hp0 : 0 ≤ p
  · rw [hy1 hp0]
    clear hy1 hy2
    obtain ⟨i, rfl⟩ : ∃ i : Nat, p = i := ⟨p.toNat, by omega⟩
    have hiU : i < U.length := by omega
    have hm2 : (i : Int) < (m : Int) := by have := hm.out; omega
    have hp1 : ¬ (i : Int) < 0 := by omega
    obtain ⟨g, rfl, hg, d0, f0⟩ := ownB_cell O.out.u i hiU
    rw [Int.toNat_natCast]
    go_enter Try.func56, Try.ntmps56
    go_wp2_with (first | (go_at_call 66; refine (l1At_any N _ _ _ O.out.n.rd).mono ?_; rintro e wq ⟨rfl, hq⟩; subst wq; rw [hp.out]) | (refine wpList_store_tb rfl _ _ rfl g i true rfl rfl O.out.u hiU ?_; intro w1 u1 hT1) | (fail))
    go_ret
    exact ⟨⟨_, rfl⟩, ⟨hT1.own O.out.n (by decide), u1⟩, hT1.vblk V.out (by decide), Tn.of_ty hT1 (.inr rfl)⟩
  · rw [hy2 hp0]
    clear hy1 hy2
    have hp1 : p < 0 := by omega
    go_enter Try.func56, Try.ntmps56
    go_wp2_with (first | (go_at_call 66; refine (l1At_any N _ _ _ O.out.n.rd).mono ?_; rintro e wq ⟨rfl, hq⟩; subst wq; rw [hp.out]) | (fail))
    go_ret
    exact ⟨⟨_, rfl⟩, O.out, V.out, Tn.refl _ _ _⟩
end Go.Proofs.Ytgcgofnjaipndaa.rg
