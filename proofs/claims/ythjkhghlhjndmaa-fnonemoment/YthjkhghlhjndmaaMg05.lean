/- Texts laid together: He1 He2. -/
import Derived.Test.YthjkhghlhjndmaaMg04
/- A hand at whatever place of a row, and the model's two functions that end its step or begin anew. -/
namespace Go.Proofs.Ythjkhghlhjndmaa.ce
open Go.ChangeShapes Go.WideShapes Go.ChangeAt Go.RowKit
set_option linter.unusedVariables false

/-- the hand d lies in block q from cell o on, between A and B -/
structure HA (w : World) (q o : Nat) (t : TypeId) (A B : List Value) (d : Hd) : Prop where
  blk : VBlk w q t (A ++ hv d ++ B)
  off : A.length = o
theorem hv_len (d : Hd) : (hv d).length = 8 := rfl
theorem HA.cell {w : World} {q o : Nat} {t : TypeId} {A B : List Value} {d : Hd} (h : HA w q o t A B d) (j : Nat) (hj : j < 8) : w.cell? ⟨q, o + j, none⟩ = some ((hv d)[j]'(by rw [hv_len]; exact hj)) := by
  have e := h.off
  subst e
  have h1 := h.blk.cell (A.length + j) (by simp [hv_len]; omega)
  rw [h1]
  congr 1
  rw [List.getElem_append_left (by simp [hv_len]; omega), List.getElem_append_right (by omega)]
  congr 1
  omega
theorem HA.cells {w : World} {q f : Nat} {ty : TypeId} {A B : List Value} {k x y s l h o t : Int} (b : HA w q f ty A B ⟨k, x, y, s, l, h, o, t⟩) :
    w.cell? ⟨q, f, none⟩ = some (.int .i64 k) ∧ w.cell? ⟨q, f + 1, none⟩ = some (.int .i64 x) ∧ w.cell? ⟨q, f + 2, none⟩ = some (.int .i64 y) ∧ w.cell? ⟨q, f + 3, none⟩ = some (.int .i64 s) ∧ w.cell? ⟨q, f + 4, none⟩ = some (.int .i64 l) ∧ w.cell? ⟨q, f + 5, none⟩ = some (.int .i64 h) ∧ w.cell? ⟨q, f + 6, none⟩ = some (.int .i64 o) ∧ w.cell? ⟨q, f + 7, none⟩ = some (.int .i64 t) :=
  ⟨b.cell 0 (by omega), b.cell 1 (by omega), b.cell 2 (by omega), b.cell 3 (by omega), b.cell 4 (by omega), b.cell 5 (by omega), b.cell 6 (by omega), b.cell 7 (by omega)⟩
theorem HA.fz {w : World} {q f : Nat} {ty : TypeId} {A B : List Value} {d : Hd} (b : HA w q f ty A B d) :
    w.frozen? ⟨q, f, none⟩ = false ∧ w.frozen? ⟨q, f + 1, none⟩ = false ∧ w.frozen? ⟨q, f + 2, none⟩ = false ∧ w.frozen? ⟨q, f + 3, none⟩ = false ∧ w.frozen? ⟨q, f + 4, none⟩ = false ∧ w.frozen? ⟨q, f + 5, none⟩ = false ∧ w.frozen? ⟨q, f + 6, none⟩ = false ∧ w.frozen? ⟨q, f + 7, none⟩ = false :=
  ⟨b.blk.frozen _, b.blk.frozen _, b.blk.frozen _, b.blk.frozen _, b.blk.frozen _, b.blk.frozen _, b.blk.frozen _, b.blk.frozen _⟩
theorem HA.set {w : World} {q f : Nat} {ty : TypeId} {A B : List Value} {d : Hd} (b : HA w q f ty A B d) (j : Nat) (hj : j < 8) (z : Int) (d' : Hd) (h : (hv d).set j (.int .i64 z) = hv d') : HA (w.setCell ⟨q, f + j, none⟩ (.int .i64 z)) q f ty A B d' := by
  refine ⟨?_, b.off⟩
  have h1 := b.blk.set (f + j) (.int .i64 z)
  rw [List.set_append_left _ _ (by simp [b.off, hv_len]; omega), List.set_append_right _ _ (by rw [b.off]; omega), b.off, show f + j - f = j by omega, h] at h1
  exact h1
theorem HA.of {w w' : World} {q f : Nat} {ty : TypeId} {A B : List Value} {d : Hd} (b : HA w q f ty A B d) (e : w'.heap[q]? = w.heap[q]?) : HA w' q f ty A B d := ⟨b.blk.of e, b.off⟩
theorem HA.lt {w : World} {q f : Nat} {ty : TypeId} {A B : List Value} {d : Hd} (b : HA w q f ty A B d) : q < w.heap.size := b.blk.lt
theorem HB.ha {w : World} {q : Nat} {d : Hd} (b : HB w q d) : HA w q 0 58 [] [] d := ⟨by simpa using b.blk, rfl⟩
theorem HA.hb {w : World} {q : Nat} {d : Hd} (b : HA w q 0 58 [] [] d) : HB w q d := ⟨by simpa using b.blk⟩

theorem l5StartA (d : Hd) (q f : Nat) (ty : TypeId) (A B : List Value) (w : World) (b : HA w q f ty A B d) :
    Calls Try.prog 101 #[.pointer (some ⟨q, f, none⟩)] w fun e w' => e = .returned (.tuple #[]) ∧ HA w' q f ty A B (startD d) ∧ Only q w w' := by
  obtain ⟨k, x, y, s, l, hh, o, t⟩ := d
  obtain ⟨c0, c1, c2, c3, c4, c5, c6, c7⟩ := b.cells
  obtain ⟨f0, f1, f2, f3, f4, f5, f6, f7⟩ := b.fz
  have BB : Hid (HA w q f ty A B ⟨k, x, y, s, l, hh, o, t⟩) := b
  clear b
  go_enter Try.func101, Try.ntmps101
  go_wp2
  go_end0
  exact ⟨rfl, ((BB.out.set 3 (by omega) 0 ⟨k, x, y, 0, l, hh, o, t⟩ rfl).set 4 (by omega) (-1) ⟨k, x, y, 0, -1, hh, o, t⟩ rfl).set 5 (by omega) (-1) ⟨k, x, y, 0, -1, -1, o, t⟩ rfl, ((only_set w q _ _).trans (only_set _ q _ _)).trans (only_set _ q _ _)⟩
theorem l5DoneA (d : Hd) (yes : Bool) (q f : Nat) (ty : TypeId) (A B : List Value) (w : World) (b : HA w q f ty A B d) :
    Calls Try.prog 102 #[.pointer (some ⟨q, f, none⟩), .bool yes] w fun e w' => e = .returned (.tuple #[]) ∧ HA w' q f ty A B (doneD d yes) ∧ Only q w w' := by
  obtain ⟨k, x, y, s, l, hh, o, t⟩ := d
  obtain ⟨c0, c1, c2, c3, c4, c5, c6, c7⟩ := b.cells
  obtain ⟨f0, f1, f2, f3, f4, f5, f6, f7⟩ := b.fz
  have BB : Hid (HA w q f ty A B ⟨k, x, y, s, l, hh, o, t⟩) := b
  clear b
  cases yes
  · go_enter Try.func102, Try.ntmps102
    go_wp2
    go_end0
    exact ⟨rfl, (((BB.out.set 3 (by omega) 5 ⟨k, x, y, 5, l, hh, o, t⟩ rfl).set 4 (by omega) (-1) ⟨k, x, y, 5, -1, hh, o, t⟩ rfl).set 5 (by omega) (-1) ⟨k, x, y, 5, -1, -1, o, t⟩ rfl).set 7 (by omega) 2 ⟨k, x, y, 5, -1, -1, o, 2⟩ rfl, (((only_set w q _ _).trans (only_set _ q _ _)).trans (only_set _ q _ _)).trans (only_set _ q _ _)⟩
  · go_enter Try.func102, Try.ntmps102
    go_wp2
    go_end0
    exact ⟨rfl, ((((BB.out.set 3 (by omega) 5 ⟨k, x, y, 5, l, hh, o, t⟩ rfl).set 4 (by omega) (-1) ⟨k, x, y, 5, -1, hh, o, t⟩ rfl).set 5 (by omega) (-1) ⟨k, x, y, 5, -1, -1, o, t⟩ rfl).set 7 (by omega) 2 ⟨k, x, y, 5, -1, -1, o, 2⟩ rfl).set 7 (by omega) 1 ⟨k, x, y, 5, -1, -1, o, 1⟩ rfl, ((((only_set w q _ _).trans (only_set _ q _ _)).trans (only_set _ q _ _)).trans (only_set _ q _ _)).trans (only_set _ q _ _)⟩

/-- a row in one block -/
theorem Own.at {w : World} {lo hi : Nat} {v : Value} {H : List C} (o : Own w lo hi v H) (hn : 1 ≤ H.length) : ∃ g, lo ≤ g ∧ g < hi ∧ g < w.heap.size ∧ Own w g (g + 1) v H := by
  rcases o.row.2 with ⟨_, h0⟩ | ⟨g, cap, cur, rfl, hg, hb, h⟩
  · omega
  · exact ⟨g, hg, o.top g rfl, (Array.getElem?_eq_some_iff.1 hb).1, ⟨⟨o.row.1, .inr ⟨g, cap, cur, rfl, Nat.le_refl _, hb, h⟩⟩, fun k hk => by cases hk; exact Nat.lt_succ_self _⟩⟩
/-- heap and hand as they lie while the hand moves: the heap in the one block g from lo on, the hand in block q -/
structure Me (w : World) (lo g q f : Nat) (ty : TypeId) (A B : List Value) (v : Value) (H : List C) (d : Hd) : Prop where
  own : Own w g (g + 1) v H
  glo : lo ≤ g
  gq : g ≠ q
  gw : g < w.heap.size
  hand : HA w q f ty A B d
  los : lo ≤ w.heap.size
  len : 1 ≤ H.length ∧ H.length ≤ 40
theorem Me.form {w : World} {lo g q f : Nat} {ty : TypeId} {A B : List Value} {v : Value} {H : List C} {d : Hd} (m : Me w lo g q f ty A B v H d) : ∃ cap, v = .slice (some ⟨g, 0, none⟩) H.length cap := by
  obtain ⟨g', cap, e, h1, h2, -⟩ := m.own.form m.len.1
  obtain rfl : g' = g := by omega
  exact ⟨cap, e⟩
theorem Me.after {w w' : World} {lo g q f : Nat} {ty : TypeId} {A B : List Value} {v : Value} {H : List C} {d d' : Hd} (m : Me w lo g q f ty A B v H d) (o : Only q w w') (hb : HA w' q f ty A B d') : Me w' lo g q f ty A B v H d' :=
  ⟨m.own.keep fun k h1 h2 => o.2.1 k (by have := m.gq; omega), m.glo, m.gq, by rw [o.1]; exact m.gw, hb, by rw [o.1]; exact m.los, m.len⟩
theorem Me.drewN {w : World} {lo g q f : Nat} {ty : TypeId} {A B : List Value} {v : Value} {H : List C} {d : Hd} (m : Me w lo g q f ty A B v H d) (n : Nat) : Me (w.drewN n) lo g q f ty A B v H d :=
  ⟨m.own.keep fun _ _ _ => rfl, m.glo, m.gq, m.gw, m.hand.of rfl, m.los, m.len⟩
theorem Me.drew {w : World} {lo g q f : Nat} {ty : TypeId} {A B : List Value} {v : Value} {H : List C} {d : Hd} (m : Me w lo g q f ty A B v H d) : Me w.drew lo g q f ty A B v H d :=
  ⟨m.own.keep fun _ _ _ => rfl, m.glo, m.gq, m.gw, m.hand.of rfl, m.los, m.len⟩
/-- behind a change of the row's own cells -/
theorem Me.row {w w' : World} {lo g q f : Nat} {ty : TypeId} {A B : List Value} {v : Value} {H H' : List C} {d : Hd} (m : Me w lo g q f ty A B v H d) (ow : Own w' g (g + 1) v H') (wi : Within g (g + 1) w w') (hl : H'.length = H.length) : Me w' lo g q f ty A B v H' d :=
  ⟨ow, m.glo, m.gq, Nat.lt_of_lt_of_le m.gw wi.size, m.hand.of (wi.block q m.hand.lt (by have := m.gq; omega)), Nat.le_trans m.los wi.size, by rw [hl]; exact m.len⟩
/-- of the blocks under lo only q may be turned; and no block but q that holds no cells -/
structure Mw (lo q : Nat) (w w' : World) : Prop where
  mv : Mv lo q w w'
  kind : ∀ k cur t z, k ≠ q → w.heap[k]? = some (.cells cur t z) → t ≠ 97 → w'.heap[k]? = w.heap[k]?
theorem Mw.size {lo q : Nat} {w w' : World} (h : Mw lo q w w') : w.heap.size ≤ w'.heap.size := h.mv.size
theorem Mw.block {lo q : Nat} {w w' : World} (h : Mw lo q w w') : ∀ k, k < lo → k ≠ q → w'.heap[k]? = w.heap[k]? := h.mv.block
theorem Mw.below {lo q B : Nat} {w w' : World} (h : Mw lo q w w') (h1 : B ≤ lo) (h2 : B ≤ q) : Below B w w' := ⟨h.mv.os, h.mv.tape, h.mv.output, h.mv.size, fun k hk => h.mv.block k (by omega) (by omega)⟩
theorem Mw.refl (lo q : Nat) (w : World) : Mw lo q w w := ⟨Mv.refl lo q w, fun _ _ _ _ _ _ _ => rfl⟩
theorem Mw.trans {lo q : Nat} {a b c : World} (h : Mw lo q a b) (k : Mw lo q b c) : Mw lo q a c := ⟨h.mv.trans k.mv, fun j cur t z hj e ht => (k.kind j cur t z hj ((h.kind j cur t z hj e ht).trans e) ht).trans (h.kind j cur t z hj e ht)⟩
theorem Mw.of_below {lo q B : Nat} {w w' : World} (h : Below B w w') (hB : lo ≤ B) (hs : w.heap.size ≤ B) : Mw lo q w w' := ⟨Mv.of_below h hB, fun j cur t z _ e _ => h.block j (Nat.lt_of_lt_of_le (Array.getElem?_eq_some_iff.1 e).1 hs)⟩
theorem Mw.drew {lo q : Nat} {a w : World} (h : Mw lo q a w) : Mw lo q a w.drew := ⟨h.mv.drew, h.kind⟩
theorem Mw.drewN {lo q : Nat} {a w : World} (h : Mw lo q a w) (n : Nat) : Mw lo q a (w.drewN n) := ⟨h.mv.drewN n, h.kind⟩
theorem Mw.only {lo q : Nat} {a w w' : World} (h : Mw lo q a w) (o : Only q w w') : Mw lo q a w' := ⟨h.mv.only o, fun j cur t z hj e ht => (o.2.1 j hj).trans (h.kind j cur t z hj e ht)⟩
theorem Me.typ {w : World} {lo g q f : Nat} {ty : TypeId} {A B : List Value} {v : Value} {H : List C} {d : Hd} (m : Me w lo g q f ty A B v H d) : ∃ cur z, w.heap[g]? = some (.cells cur 97 z) := by
  obtain ⟨cap, rfl⟩ := m.form
  rcases m.own.row.2 with ⟨h, -⟩ | ⟨g', cap', cur, e, -, hb, -⟩
  · cases h
  · cases e; exact ⟨cur, _, hb⟩
theorem Mw.row {lo g q : Nat} {w w' : World} (wi : Within g (g + 1) w w') (hg : lo ≤ g) (hs : lo ≤ w.heap.size) (ht : ∃ cur z, w.heap[g]? = some (.cells cur 97 z)) : Mw lo q w w' := by
  refine ⟨⟨wi.os, wi.tape, wi.output, wi.size, fun k hk _ => wi.block k (by omega) (by omega)⟩, fun j cur t z hj e hne => ?_⟩
  have hjg : j ≠ g := fun q => by
    subst q
    obtain ⟨c2, z2, e2⟩ := ht
    rw [e] at e2
    simp only [Option.some.injEq, Obj.cells.injEq] at e2
    exact hne e2.2.1
  exact wi.block j (Array.getElem?_eq_some_iff.1 e).1 (by omega)
end Go.Proofs.Ythjkhghlhjndmaa.ce
/- Contract of l5Put: what a hand that puts does where it comes to act, exactly. -/
namespace Go.Proofs.Ythjkhghlhjndmaa.ce
open Go.ChangeShapes Go.WideShapes Go.ChangeAt Go.RowKit
set_option linter.unusedVariables false

set_option maxHeartbeats 1000000 in
theorem l5PutA (H : List C) (d : Hd) (v : Value) (lo g q f : Nat) (ty : TypeId) (A B : List Value) (w : World) (m : Me w lo g q f ty A B v H d) (hown : d.own < 0 ∨ d.own < (H.length : Int)) :
    Calls Try.prog 103 #[v, .pointer (some ⟨q, f, none⟩)] w fun e w' => ∃ v' g', e = .returned v' ∧ Me w' lo g' q f ty A B v' (movePut H d).1 (movePut H d).2 ∧ Mw lo q w w' := by
  have M : Hid (Me w lo g q f ty A B v H d) := m
  have h1 := m.len.1
  have hlos := m.los
  have hglo := m.glo
  have hgw := m.gw
  have hgq := m.gq
  have hqg : q ≠ g := fun e => hgq e.symm
  have hqw := m.hand.lt
  obtain ⟨cap, rfl⟩ := m.form
  have hl := m.own.fit
  clear m
  obtain ⟨k, x, y, s, l, e, o, t⟩ := d
  obtain ⟨c0, c1, c2, c3, c4, c5, c6, c7⟩ := M.out.hand.cells
  obtain ⟨f0, f1, f2, f3, f4, f5, f6, f7⟩ := M.out.hand.fz
  simp only at hown
  by_cases hneg : o < 0
  · obtain ⟨N, hN⟩ := hid_ex (freshN H x y e)
    obtain ⟨L, hL⟩ := hid_ex (freshH H x y e)
    have two := fresh_two H x y e
    rw [hN.out, hL.out] at two
    have S0 : w.drew.cell? ⟨q, f + 1, none⟩ = some (.int .i64 x) ∧ w.drew.cell? ⟨q, f + 2, none⟩ = some (.int .i64 y) ∧ w.drew.cell? ⟨q, f + 5, none⟩ = some (.int .i64 e) := ⟨c1, c2, c5⟩
    by_cases hN1 : N < 0
    · have eM : Hid (movePut H ⟨k, x, y, s, l, e, o, t⟩ = (H, doneD ⟨k, x, y, s, l, e, o, t⟩ false)) := by unfold Hid movePut; rw [if_pos hneg]; simp only [hN.out]; rw [if_pos hN1]
      rw [eM.out]
      clear two
      go_enter Try.func103, Try.ntmps103
      go_wp2
      go_region_held3 (fun w' => w'.cell? ⟨q, f + 1, none⟩ = some (.int .i64 x) ∧ w'.cell? ⟨q, f + 2, none⟩ = some (.int .i64 y) ∧ w'.cell? ⟨q, f + 5, none⟩ = some (.int .i64 e)) (assumption) (first | (go_at_call 108; refine (specFresh_any H x y e _ (g + 1) w.drew (by show g + 1 ≤ w.heap.size; omega) M.out.own.rd.drew).mono ?_; rintro er w2 ⟨v2, her, ho2, hB2⟩; rw [hN.out] at her; subst her; have hz2 : w.heap.size ≤ w2.heap.size := hB2.size; have hb2 := M.out.hand.of (hB2.block q hqw); obtain ⟨e0, e1, e2, e3, e4, e5, e6, e7⟩ := hb2.cells; have S2 := And.intro e1 (And.intro e2 e5)) | (fail))
      go_wp2_with (first | (go_at_call 102; refine (l5DoneA _ false q f ty A B _ hb2).mono ?_; rintro er w3 ⟨rfl, hb3, hO3⟩) | (fail))
      go_ret
      have hB2' : Below w.heap.size w w2 := (Below.refl _ w).drew.trans hB2
      have m2 : Me w2 lo g q f ty A B _ H _ := ⟨M.out.own.below hB2' (by omega), hglo, hgq, by omega, hb2, by omega, M.out.len⟩
      exact ⟨_, g, rfl, m2.after hO3 hb3, (Mw.of_below hB2' (by omega) (Nat.le_refl _)).only hO3⟩
    · obtain ⟨eN, eL, hok⟩ := two.resolve_left (by omega)
      have EL : Hid (L = H ++ [cell x y e]) := eL
      have OK : Hid (heapOk (H ++ [cell x y e])) := hok
      have eM : Hid (movePut H ⟨k, x, y, s, l, e, o, t⟩ = (L, ⟨k, x, y, 3, l, e, N, t⟩)) := by unfold Hid movePut; rw [if_pos hneg]; simp only [hN.out, hL.out]; rw [if_neg hN1]
      rw [eM.out]
      clear two eN eL hok
      have hNd : decide (N < 0) = false := decide_eq_false hN1
      go_enter Try.func103, Try.ntmps103
      go_wp2
      go_region_held3 (fun w' => w'.cell? ⟨q, f + 1, none⟩ = some (.int .i64 x) ∧ w'.cell? ⟨q, f + 2, none⟩ = some (.int .i64 y) ∧ w'.cell? ⟨q, f + 5, none⟩ = some (.int .i64 e)) (assumption) (first | (go_at_call 108; refine (specFresh_any H x y e _ (g + 1) w.drew (by show g + 1 ≤ w.heap.size; omega) M.out.own.rd.drew).mono ?_; rintro er w2 ⟨v2, her, ho2, hB2⟩; rw [hN.out] at her; subst her; rw [hL.out] at ho2; have hz2 : w.heap.size ≤ w2.heap.size := hB2.size; have hb2 := M.out.hand.of (hB2.block q hqw); obtain ⟨e0, e1, e2, e3, e4, e5, e6, e7⟩ := hb2.cells; obtain ⟨j0, j1, j2, j3, j4, j5, j6, j7⟩ := hb2.fz; have S2 := And.intro e1 (And.intro e2 e5)) | (fail))
      go_wp2
      go_ret
      have hB2' : Below w.heap.size w w2 := (Below.refl _ w).drew.trans hB2
      have hLl : 1 ≤ L.length ∧ L.length ≤ 40 := by rw [EL.out]; exact OK.out.1
      obtain ⟨g', hg1, hg2, hg3, hog⟩ := ho2.at hLl.1
      have hg1' : w.heap.size ≤ g' := hg1
      have m2 : Me w2 lo g' q f ty A B v2 L ⟨k, x, y, s, l, e, o, t⟩ := ⟨hog, by omega, by omega, hg3, hb2, by omega, hLl⟩
      have hO := (only_set w2 q (f + 6) (.int .i64 N)).trans (only_set _ q (f + 3) (.int .i64 3))
      exact ⟨_, g', rfl, m2.after hO ((hb2.set 6 (by omega) N ⟨k, x, y, s, l, e, N, t⟩ rfl).set 3 (by omega) 3 ⟨k, x, y, 3, l, e, N, t⟩ rfl), (Mw.of_below hB2' (by omega) (Nat.le_refl _)).only hO⟩
  · obtain ⟨i, rfl⟩ : ∃ i : Nat, o = i := ⟨o.toNat, by omega⟩
    have eM : Hid (movePut H ⟨k, x, y, s, l, e, (i : Int), t⟩ = (swapH H i e, ⟨k, x, y, 3, l, e, i, t⟩)) := by unfold Hid movePut; rw [if_neg hneg]
    rw [eM.out]
    have hil : i < H.length := by omega
    have hil' : (i : Int) < H.length := by omega
    obtain ⟨-, -, d2, -⟩ := M.out.own.cell i hil
    have df := M.out.own.frozen (i * 4 + 2)
    have S0 : w.drew.cell? ⟨q, f + 6, none⟩ = some (.int .i64 (i : Int)) ∧ w.drew.cell? ⟨q, f + 5, none⟩ = some (.int .i64 e) := ⟨c6, c5⟩
    go_enter Try.func103, Try.ntmps103
    go_wp2
    have q5 : (w.setCell ⟨g, i * 4 + 2, none⟩ (.int .i64 e)).drew.cell? ⟨q, f + 5, none⟩ = some (.int .i64 e) := by
      show (w.setCell ⟨g, i * 4 + 2, none⟩ (.int .i64 e)).cell? ⟨q, f + 5, none⟩ = _
      rw [World.cell?_setCell_other _ _ _ _ (fun z => hgq (congrArg Addr.block z))]; exact c5
    have q6 : (w.setCell ⟨g, i * 4 + 2, none⟩ (.int .i64 e)).drew.cell? ⟨q, f + 6, none⟩ = some (.int .i64 (i : Int)) := by
      show (w.setCell ⟨g, i * 4 + 2, none⟩ (.int .i64 e)).cell? ⟨q, f + 6, none⟩ = _
      rw [World.cell?_setCell_other _ _ _ _ (fun z => hgq (congrArg Addr.block z))]; exact c6
    have S1 := And.intro q6 q5
    go_region_held3 (fun w' => w'.cell? ⟨q, f + 6, none⟩ = some (.int .i64 (i : Int)) ∧ w'.cell? ⟨q, f + 5, none⟩ = some (.int .i64 e)) (first | assumption | exact S1) (fail)
    go_wp2
    go_ret
    have wi : Within g (g + 1) w (w.setCell ⟨g, i * 4 + 2, none⟩ (.int .i64 e)) := (Within.refl g (g + 1) w).setCell (p := ⟨g, i * 4 + 2, none⟩) (Nat.le_refl g) (Nat.lt_succ_self g) _
    have m1 := (M.out.row (M.out.own.setNext i hil e) wi (swapH_len _ _ _))
    have hO := only_set (w.setCell ⟨g, i * 4 + 2, none⟩ (.int .i64 e)) q (f + 3) (.int .i64 3)
    exact ⟨_, g, rfl, (m1.after hO (m1.hand.set 3 (by omega) 3 ⟨k, x, y, 3, l, e, i, t⟩ rfl)).drew, ((Mw.row wi hglo hlos M.out.typ).only hO).drew⟩
end Go.Proofs.Ythjkhghlhjndmaa.ce
