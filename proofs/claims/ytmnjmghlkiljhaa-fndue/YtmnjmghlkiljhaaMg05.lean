/- Texts laid together: De5 Ro4 Ro11 Ro5. -/
import Derived.Test.YtmnjmghlkiljhaaDe4
import Derived.Test.YtmnjmghlkiljhaaMg00
import Derived.Deep.RegionHeld3
/- What the laws of chapter 10 draw: DrawItemOk, DrawOverAt, DrawBookOk, DrawHeavy, DrawFindItem. -/
namespace Go.Proofs.Ytmnjmghlkiljhaa.rg
open Go.ChangeShapes Go.WideShapes Go.ChangeAt Go.RowKit
open Go.Proofs.Ytmnjmghlkiljhaa.ce Go.Proofs.Ytmnjmghlkiljhaa.ro Go.Proofs.Ytmnjmghlkiljhaa.draw
set_option linter.unusedVariables false

theorem gbi_low {w w2 w3 : World} {p : Nat} (hB : Below w.heap.size w w2) (hp : w.heap.size ≤ p) (hg : w2.grownBy w3 (some p)) : Below w.heap.size w w3 := hB.grown hg hB.size (fun k hk => by cases hk; exact hp)
theorem gbi_vblk {w2 w3 : World} {p b : Nat} {t : TypeId} {vs : List Value} (hv : VBlk w2 b t vs) (hn : b ≠ p) (hg : w2.grownBy w3 (some p)) : VBlk w3 b t vs := hv.of (hg.block b hv.lt (fun e => by cases e; exact hn rfl))
theorem codei_below {w w' : World} {a0 : Option Addr} {len : Nat} (h : CodeAt w a0 len) (hB : Below w.heap.size w w') : CodeAt w' a0 len := by
  refine ⟨h.1, ?_⟩
  rcases h.2 with h0 | ⟨b, off, e, hl, hc⟩
  · exact .inl h0
  · refine .inr ⟨b, off, e, Nat.lt_of_lt_of_le hl hB.size, fun k hk => ?_⟩
    obtain ⟨c, hcell, h1, h2⟩ := hc k hk
    exact ⟨c, by rw [hB.cell hl]; exact hcell, h1, h2⟩
theorem curi_d {w : World} {p : Nat} {a0 : Option Addr} {len cap : Nat} (h : Cur w p a0 len cap) : Cur w.drew p a0 len cap := cur_drewN h 1
theorem gbi_d {w w' : World} {p : Nat} (h : w.drew.grownBy w' (some p)) : w.grownBy w' (some p) := ⟨h.os, h.tape, h.output, h.size, h.block⟩
def set5 (w : World) (b : Nat) (y0 y1 y2 y3 y4 : Value) : World := ((((w.setCell ⟨b, 0, none⟩ y0).setCell ⟨b, 1, none⟩ y1).setCell ⟨b, 2, none⟩ y2).setCell ⟨b, 3, none⟩ y3).setCell ⟨b, 4, none⟩ y4
theorem set5_only (w : World) (b : Nat) (y0 y1 y2 y3 y4 : Value) : Only b w (set5 w b y0 y1 y2 y3 y4) := only_setCells w b [y0, y1, y2, y3, y4] 0
theorem set5_blk {w : World} {b : Nat} {t : TypeId} {q0 q1 q2 q3 q4 y0 y1 y2 y3 y4 : Value} (hv : VBlk w b t [q0, q1, q2, q3, q4]) : VBlk (set5 w b y0 y1 y2 y3 y4) b t [y0, y1, y2, y3, y4] := by
  unfold set5
  simpa using ((((hv.set 0 y0).set 1 y1).set 2 y2).set 3 y3).set 4 y4
theorem keep5 {w : World} {b b' : Nat} {t : TypeId} {u0 u1 u2 u3 u4 y0 y1 y2 y3 y4 : Value} (hn : b' ≠ b) (h : VBlk w b' t [u0, u1, u2, u3, u4]) :
    (((((w.setCell ⟨b, 0, none⟩ y0).setCell ⟨b, 1, none⟩ y1).setCell ⟨b, 2, none⟩ y2).setCell ⟨b, 3, none⟩ y3).setCell ⟨b, 4, none⟩ y4).cell? ⟨b', 0, none⟩ = some u0 ∧ (((((w.setCell ⟨b, 0, none⟩ y0).setCell ⟨b, 1, none⟩ y1).setCell ⟨b, 2, none⟩ y2).setCell ⟨b, 3, none⟩ y3).setCell ⟨b, 4, none⟩ y4).cell? ⟨b', 1, none⟩ = some u1 ∧ (((((w.setCell ⟨b, 0, none⟩ y0).setCell ⟨b, 1, none⟩ y1).setCell ⟨b, 2, none⟩ y2).setCell ⟨b, 3, none⟩ y3).setCell ⟨b, 4, none⟩ y4).cell? ⟨b', 2, none⟩ = some u2 ∧ (((((w.setCell ⟨b, 0, none⟩ y0).setCell ⟨b, 1, none⟩ y1).setCell ⟨b, 2, none⟩ y2).setCell ⟨b, 3, none⟩ y3).setCell ⟨b, 4, none⟩ y4).cell? ⟨b', 3, none⟩ = some u3 ∧ (((((w.setCell ⟨b, 0, none⟩ y0).setCell ⟨b, 1, none⟩ y1).setCell ⟨b, 2, none⟩ y2).setCell ⟨b, 3, none⟩ y3).setCell ⟨b, 4, none⟩ y4).cell? ⟨b', 4, none⟩ = some u4 :=
  cells5 (w := set5 w b y0 y1 y2 y3 y4) (h.of ((set5_only w b y0 y1 y2 y3 y4).2.1 b' hn))

/-- what a law has drawn -/
structure GotB (w : World) (v : Value) (q : List It) (w' : World) : Prop where
  o : Own encIt w' w.heap.size w'.heap.size v q
  s : ∀ x ∈ q, SmI x
  l : q.length ≤ 30
  low : Below w.heap.size w w'
theorem drawBookOk_any (w : World) (a0 : Option Addr) (len cap : Nat) (hcode : CodeAt w a0 len) :
    Calls Try.prog 77 #[.slice a0 len cap] w fun e w' => ∃ v q, e = .returned v ∧ GotB w v q w' := by
  have HC : Hid (CodeAt w a0 len) := hcode
  clear hcode
  go_enter Try.func77, Try.ntmps77
  go_wp2_with (first | (go_at_call 46; refine (new_cur w _ _ _ HC.out).mono ?_; rintro e w2 ⟨p, rfl, hp, hc2, hB2⟩; have hz2 := hB2.size) | (go_at_call 72; refine (l10DrawBook_any w2 p a0 len cap hc2).mono ?_; rintro e w3 ⟨v3, q, rfl, D3, hl⟩; have hB3 := gbi_low hB2 (by omega) D3.gb) | (fail))
  go_ret
  exact ⟨_, q, rfl, ⟨D3.o.wide hz2 (Nat.le_refl _), D3.s, hl, hB3⟩⟩
end Go.Proofs.Ytmnjmghlkiljhaa.rg
/- Contracts: the model's rings: a copy; one text is cut out. -/
namespace Go.Proofs.Ytmnjmghlkiljhaa.rg
open Go.ChangeShapes Go.WideShapes Go.ChangeAt Go.RowKit
open Go.Proofs.Ytmnjmghlkiljhaa.ce Go.Proofs.Ytmnjmghlkiljhaa.ro
set_option linter.unusedVariables false

/-- while a ring is copied: the one in b1 is read, the new one lies in b2 -/
structure Cpy (w : World) (b1 b2 : Nat) (vs : List Value) (w' : World) : Prop where
  low : Below w.heap.size w w'
  src : VBlk w' b1 27 vs
  var : ∃ x y z, VBlk w' b2 27 [x, y, z]
theorem cs_of {w w' : World} {b1 b2 : Nat} {u v x : Value} (h : Cpy w b1 b2 [u, v, x] w') : w'.cell? ⟨b1, 0, none⟩ = some u ∧ w'.cell? ⟨b1, 1, none⟩ = some v ∧ w'.cell? ⟨b1, 2, none⟩ = some x ∧ Cpy w b1 b2 [u, v, x] w' :=
  ⟨(cells3 h.src).1, (cells3 h.src).2.1, (cells3 h.src).2.2, h⟩
theorem cs_alloc {w w' : World} {b1 b2 : Nat} {u v x : Value} {o : Obj} (h : w'.cell? ⟨b1, 0, none⟩ = some u ∧ w'.cell? ⟨b1, 1, none⟩ = some v ∧ w'.cell? ⟨b1, 2, none⟩ = some x ∧ Cpy w b1 b2 [u, v, x] w') :
    (w'.alloc o).cell? ⟨b1, 0, none⟩ = some u ∧ (w'.alloc o).cell? ⟨b1, 1, none⟩ = some v ∧ (w'.alloc o).cell? ⟨b1, 2, none⟩ = some x ∧ Cpy w b1 b2 [u, v, x] (w'.alloc o) := by
  obtain ⟨-, -, -, h1, h2, x, y, z, h3⟩ := h
  have hb : Below w'.heap.size w' (w'.alloc o) := (Below.refl _ _).alloc (Nat.le_refl _) _
  exact cs_of ⟨h1.alloc h1.size _, vblk_grow h2 hb, x, y, z, vblk_grow h3 hb⟩
theorem cs_alloc_drew {w w' : World} {b1 b2 : Nat} {u v x : Value} {o : Obj} (h : w'.drew.cell? ⟨b1, 0, none⟩ = some u ∧ w'.drew.cell? ⟨b1, 1, none⟩ = some v ∧ w'.drew.cell? ⟨b1, 2, none⟩ = some x ∧ Cpy w b1 b2 [u, v, x] w'.drew) :
    (w'.alloc o).drew.cell? ⟨b1, 0, none⟩ = some u ∧ (w'.alloc o).drew.cell? ⟨b1, 1, none⟩ = some v ∧ (w'.alloc o).drew.cell? ⟨b1, 2, none⟩ = some x ∧ Cpy w b1 b2 [u, v, x] (w'.alloc o).drew := cs_alloc (w' := w'.drew) (o := o) h
theorem cs_ty {w w' w'' : World} {b1 b2 lo : Nat} {t : TypeId} {u v x : Value} (hT : Ty lo t w' w'') (hlo : w.heap.size ≤ lo) (ht : 27 ≠ t) (h : w'.cell? ⟨b1, 0, none⟩ = some u ∧ w'.cell? ⟨b1, 1, none⟩ = some v ∧ w'.cell? ⟨b1, 2, none⟩ = some x ∧ Cpy w b1 b2 [u, v, x] w') :
    w''.cell? ⟨b1, 0, none⟩ = some u ∧ w''.cell? ⟨b1, 1, none⟩ = some v ∧ w''.cell? ⟨b1, 2, none⟩ = some x ∧ Cpy w b1 b2 [u, v, x] w'' := by
  obtain ⟨-, -, -, h1, h2, x, y, z, h3⟩ := h
  exact cs_of ⟨h1.trans (hT.low.mono hlo), hT.vblk h2 ht, x, y, z, hT.vblk h3 ht⟩
theorem cs_low {w w' : World} {b1 b2 : Nat} {u v x : Value} (h : w'.cell? ⟨b1, 0, none⟩ = some u ∧ w'.cell? ⟨b1, 1, none⟩ = some v ∧ w'.cell? ⟨b1, 2, none⟩ = some x ∧ Cpy w b1 b2 [u, v, x] w') : Below w.heap.size w w' := h.2.2.2.low
theorem cs_size {w w' : World} {b1 b2 : Nat} {u v x : Value} (h : w'.cell? ⟨b1, 0, none⟩ = some u ∧ w'.cell? ⟨b1, 1, none⟩ = some v ∧ w'.cell? ⟨b1, 2, none⟩ = some x ∧ Cpy w b1 b2 [u, v, x] w') : w.heap.size ≤ w'.heap.size := h.2.2.2.low.size
theorem cs_store {w w' : World} {b1 b2 : Nat} {u v x y0 y1 y2 : Value} (hn : b1 ≠ b2) (hlo : w.heap.size ≤ b2) (h : w'.cell? ⟨b1, 0, none⟩ = some u ∧ w'.cell? ⟨b1, 1, none⟩ = some v ∧ w'.cell? ⟨b1, 2, none⟩ = some x ∧ Cpy w b1 b2 [u, v, x] w') :
    (((w'.setCell ⟨b2, 0, none⟩ y0).setCell ⟨b2, 1, none⟩ y1).setCell ⟨b2, 2, none⟩ y2).cell? ⟨b1, 0, none⟩ = some u ∧ (((w'.setCell ⟨b2, 0, none⟩ y0).setCell ⟨b2, 1, none⟩ y1).setCell ⟨b2, 2, none⟩ y2).cell? ⟨b1, 1, none⟩ = some v ∧ (((w'.setCell ⟨b2, 0, none⟩ y0).setCell ⟨b2, 1, none⟩ y1).setCell ⟨b2, 2, none⟩ y2).cell? ⟨b1, 2, none⟩ = some x ∧ Cpy w b1 b2 [u, v, x] (((w'.setCell ⟨b2, 0, none⟩ y0).setCell ⟨b2, 1, none⟩ y1).setCell ⟨b2, 2, none⟩ y2) := by
  obtain ⟨-, -, -, h1, h2, x, y, z, h3⟩ := h
  have o1 := only_set w' b2 0 y0
  have o2 := only_set (w'.setCell ⟨b2, 0, none⟩ y0) b2 1 y1
  have o3 := only_set ((w'.setCell ⟨b2, 0, none⟩ y0).setCell ⟨b2, 1, none⟩ y1) b2 2 y2
  refine cs_of ⟨((h1.trans (o1.2.2 _ hlo)).trans (o2.2.2 _ hlo)).trans (o3.2.2 _ hlo), vblk_only (vblk_only (vblk_only h2 o1 hn) o2 hn) o3 hn, y0, y1, y2, ?_⟩
  have := ((h3.set 0 y0).set 1 y1).set 2 y2
  simpa using this
theorem own_store {α : Type} {E : Enc α} {w' : World} {b2 lo hi : Nat} {y0 y1 y2 v : Value} {vs : List Value} {xs : List α} (o : Own E w' lo hi v xs) (hv : VBlk w' b2 27 vs) (ht : E.t ≠ 27) : Own E (((w'.setCell ⟨b2, 0, none⟩ y0).setCell ⟨b2, 1, none⟩ y1).setCell ⟨b2, 2, none⟩ y2) lo hi v xs :=
  ((o.only (only_set _ _ _ _) hv ht).only (only_set _ _ _ _) (hv.set 0 y0) ht).only (only_set _ _ _ _) ((hv.set 0 y0).set 1 y1) ht

theorem copy_end {w' : World} {b2 : Nat} {q0 q1 q2 y0 y1 y2 : Value} (hv : VBlk w' b2 27 [q0, q1, q2]) : VBlk (((w'.setCell ⟨b2, 0, none⟩ y0).setCell ⟨b2, 1, none⟩ y1).setCell ⟨b2, 2, none⟩ y2) b2 27 [y0, y1, y2] := by simpa using ((hv.set 0 y0).set 1 y1).set 2 y2

set_option maxRecDepth 100000 in
set_option maxHeartbeats 2000000 in
theorem l8Copy_any (r : Rg) (vN vU : Value) (w : World) (h : RdR w vN vU r) (hN : r.N.length ≤ 1000000) (hU : r.U.length ≤ 1000000) :
    Calls Try.prog 106 #[.agg #[vN, vU, .int .i64 r.A]] w fun e w' => ∃ vN' vU', e = .returned (.agg #[vN', vU', .int .i64 r.A]) ∧ OwnR w' w.heap.size w'.heap.size vN' vU' r ∧ Below w.heap.size w w' := by
  obtain ⟨N, U, A⟩ := r
  obtain ⟨a, cap, rfl⟩ := h.n.form
  obtain ⟨c, dc, rfl⟩ := h.u.form
  have R : Hid (RdR w (.slice a N.length cap) (.slice c U.length dc) ⟨N, U, A⟩) := h
  clear h
  dsimp only at hN hU ⊢
  have m1 : Hid True := trivial
  go_enter Try.func106, Try.ntmps106
  go_wp2_with (first | (clear m1; refine wpList_box_v rfl 27 _ rfl [.slice a N.length cap, .slice c U.length dc, .int .i64 A] rfl ?_; intro b1 w1 hb1 hw1 hB1 hV1; have hz1 := hB1.size) | (refine wpList_alloc_v rfl 27 rfl _ zeroRg ?_; intro b2 w2 hb2 hw2 hB2 hV2; have hz2 := hB2.size; have hB12 : Below w.heap.size w w2 := hB1.trans (hB2.mono hz1)) | (fail))
  have S1 := cs_of (w := w) (b1 := b1) (b2 := b2) (w' := w2.drew) ⟨hB12.drew, hV1.of (hB2.block b1 hw1), _, _, _, hV2⟩
  have hne : b1 ≠ b2 := by omega
  have hlo : w.heap.size ≤ b2 := by omega
  go_region_held3 (fun w' => w'.cell? ⟨b1, 0, none⟩ = some (.slice a N.length cap) ∧ w'.cell? ⟨b1, 1, none⟩ = some (.slice c U.length dc) ∧ w'.cell? ⟨b1, 2, none⟩ = some (.int .i64 A) ∧ Cpy w b1 b2 [.slice a N.length cap, .slice c U.length dc, .int .i64 A] w') (first | with_reducible assumption | with_reducible exact cs_store hne hlo (by assumption) | with_reducible exact cs_alloc (by assumption) | with_reducible exact cs_alloc_drew (by assumption) | (fail)) (first | (refine step_append_g infoS rfl _ _ 24 rfl Try.underlying24 w.heap.size 0 _ [] rfl (own_zero _ _ _ _ _) (cs_size (by with_reducible assumption)) _ N rfl (R.out.n.grow (cs_low (by with_reducible assumption))) (by simp; omega) ?_; intro v5 W5 o5 hT5; rw [List.nil_append] at o5; have hS5 := cs_ty hT5 (Nat.le_refl _) (by decide) (by with_reducible assumption); (try replace o6 := hT5.own (E := encB) (by first | exact o6 | exact o6.grow ((Below.refl _ _).alloc (Nat.le_refl _) _)) (by decide)); obtain ⟨q0, q1, q2, hv⟩ := hS5.2.2.2.var; obtain ⟨g0, g1, g2⟩ := cells3 hv; have f0 := hv.frozen 0; have f1 := hv.frozen 1; have f2 := hv.frozen 2; obtain ⟨a5, n5, k5, rfl⟩ := o5.slice) | (refine step_append_g infoB rfl _ _ 25 rfl Try.underlying25 w.heap.size 0 _ [] rfl (own_zero _ _ _ _ _) (cs_size (by with_reducible assumption)) _ U rfl (R.out.u.grow (cs_low (by with_reducible assumption))) (by simp; omega) ?_; intro v6 W6 o6 hT6; rw [List.nil_append] at o6; have hS6 := cs_ty hT6 (Nat.le_refl _) (by decide) (by with_reducible assumption); (try replace o5 := hT6.own (E := encS) (by first | exact o5 | exact o5.grow ((Below.refl _ _).alloc (Nat.le_refl _) _)) (by decide)); obtain ⟨q0, q1, q2, hv⟩ := hS6.2.2.2.var; obtain ⟨g0, g1, g2⟩ := cells3 hv; have f0 := hv.frozen 0; have f1 := hv.frozen 1; have f2 := hv.frozen 2; obtain ⟨a6, n6, k6, rfl⟩ := o6.slice) | (fail))
  all_goals
    go_wp2
    exact row_retv rfl rfl (copy_end hv) Try.underlying27 sizeRg rfl ⟨_, _, rfl, ⟨(own_store o5 hv (by decide)).top, (own_store o6 hv (by decide)).top⟩, cs_low (by with_reducible assumption)⟩
end Go.Proofs.Ytmnjmghlkiljhaa.rg
/- Texts cut out of a row: what stands behind a place; the model's l1Cut. -/
namespace Go.Proofs.Ytmnjmghlkiljhaa.rg
open Go.ChangeShapes Go.WideShapes Go.ChangeAt Go.RowKit
open Go.Proofs.Ytmnjmghlkiljhaa.ce Go.Proofs.Ytmnjmghlkiljhaa.ro
set_option linter.unusedVariables false

theorem rdS_rest {w : World} {b off n cap : Nat} {xs : List ByteArray} (r : Rd encS w (.slice (some ⟨b, off, none⟩) n cap) xs) (m : Nat) (hm : m ≤ xs.length) :
    Rd encS w (.slice (if cap = m then some ⟨b, off, none⟩ else some ⟨b, off + m, none⟩) (n - m) (cap - m)) (xs.drop m) := by
  rcases r.rest m hm with ⟨h1, h2⟩ | ⟨h1, h2, h3, h4⟩
  · rw [if_neg (by omega)]
    simpa [encS] using h2.out
  · rw [if_pos h1.symm, h1, h2, h1, Nat.sub_self, ← h1]
    exact h4.out
theorem bl_alloc {w w' : World} {o : Obj} (h : Below w.heap.size w w') : Below w.heap.size w (w'.alloc o) := h.alloc h.size _
theorem bl_alloc_drew {w w' : World} {o : Obj} (h : Below w.heap.size w w'.drew) : Below w.heap.size w (w'.alloc o).drew := bl_alloc (w' := w'.drew) h
/-- one text is cut out -/
theorem l1Cut_any (N : List ByteArray) (v : Value) (i : Nat) (w : World) (r : Rd encS w v N) (hi : i < N.length) (hN : N.length ≤ 1000000) :
    Calls Try.prog 138 #[v, .int .i64 i] w fun e w' => ∃ v', e = .returned v' ∧ Own encS w' w.heap.size w'.heap.size v' (N.take i ++ N.drop (i + 1)) ∧ Below w.heap.size w w' := by
  obtain ⟨a, cap, rfl⟩ := r.form
  obtain ⟨b, off, rfl, hb, -⟩ := rdS_cell r i hi
  obtain ⟨-, hc1, hc2⟩ := r.cap
  obtain ⟨p, hp⟩ := hid_ex (i + 1)
  have RT := r.take i (by omega)
  have RR := rdS_rest r (i + 1) (by omega)
  clear r
  rw [hp.out] at RR ⊢
  have hpi : Hid (p = i + 1) := hp.out.symm
  have i0 : (0 : Int) ≤ (i : Int) := by omega
  have i1 : (i : Int) ≤ (cap : Int) := by omega
  have p1 : (p : Int) ≤ (N.length : Int) := by have := hpi.out; omega
  have p2 : (p : Int) ≤ (cap : Int) := by have := hpi.out; omega
  have p3 : p ≤ N.length := by omega
  have i3 : (N.length : Int) ≤ (cap : Int) := by omega
  have i4 : IntKind.i64.wrap ((i : Int) + 1) = (p : Int) := by rw [IntKind.wrap_i64]; have := hpi.out; omega
  have hlt : (N.take i).length ≤ 1000 + i := by rw [List.length_take]; omega
  have hld : (N.drop p).length ≤ N.length - p := by rw [List.length_drop]; omega
  have hip := hpi.out
  clear hp
  replace hip : i < p := by omega
  have RD : Hid (Rd encS w _ (N.drop p)) := RR
  clear RR
  go_enter Try.func138, Try.ntmps138
  go_wp2
  go_region_held3 (fun w' => Below w.heap.size w w') (first | with_reducible assumption | exact (Below.refl _ _).drew | with_reducible exact bl_alloc (by assumption) | with_reducible exact bl_alloc_drew (by assumption) | (fail)) (first | (refine step_append_g infoS rfl _ _ 24 rfl Try.underlying24 w.heap.size 0 _ [] rfl (own_zero _ _ _ _ _) (Below.size (by with_reducible assumption)) _ (N.take i) rfl (RT.grow (by with_reducible assumption)) (by simp; omega) ?_; intro v5 W5 o5 hT5; rw [List.nil_append] at o5; have hB5 : Below w.heap.size w W5 := Below.trans (by with_reducible assumption) hT5.low) | (refine step_append_g infoS rfl _ _ 24 rfl Try.underlying24 w.heap.size _ _ (N.take i) rfl o5 (Below.size hB5) _ (N.drop p) rfl (RD.out.grow hB5) (by omega) ?_; intro v6 W6 o6 hT6; have hB6 : Below w.heap.size w W6 := hB5.trans hT6.low) | (fail))
  go_wp2
  all_goals
    go_ret
    exact ⟨_, rfl, o6, hB6⟩
end Go.Proofs.Ytmnjmghlkiljhaa.rg
/- Contracts: the model's rings in their variable: who joins, who is used; a text is cut out. -/
namespace Go.Proofs.Ytmnjmghlkiljhaa.rg
open Go.ChangeShapes Go.WideShapes Go.ChangeAt Go.RowKit
open Go.Proofs.Ytmnjmghlkiljhaa.ce Go.Proofs.Ytmnjmghlkiljhaa.ro
set_option linter.unusedVariables false

/-- of the blocks that were there only b, and from lo on rows of texts and truths, may be turned -/
structure Tn (lo b : Nat) (w w' : World) : Prop where
  os : w'.os = w.os
  tape : w'.tape = w.tape
  output : w'.output = w.output
  size : w.heap.size ≤ w'.heap.size
  low : ∀ k, k < lo → k ≠ b → w'.heap[k]? = w.heap[k]?
  keep : ∀ (k : Nat) (cur : Array Value) (t : TypeId) (f : Nat × Nat), w.heap[k]? = some (.cells cur t f) → k ≠ b → t ≠ 9 → t ≠ 4 → w'.heap[k]? = w.heap[k]?
theorem Tn.refl (lo b : Nat) (w : World) : Tn lo b w w := ⟨rfl, rfl, rfl, Nat.le_refl _, fun _ _ _ => rfl, fun _ _ _ _ _ _ _ _ => rfl⟩
theorem Tn.trans {lo b : Nat} {x y z : World} (h : Tn lo b x y) (k : Tn lo b y z) : Tn lo b x z :=
  ⟨k.os.trans h.os, k.tape.trans h.tape, k.output.trans h.output, Nat.le_trans h.size k.size, fun j h1 h2 => (k.low j h1 h2).trans (h.low j h1 h2), fun j cur t f hj h1 h2 h3 => (k.keep j cur t f (by rw [h.keep j cur t f hj h1 h2 h3]; exact hj) h1 h2 h3).trans (h.keep j cur t f hj h1 h2 h3)⟩
theorem Tn.of_below {lo b : Nat} {w w' : World} (h : Below w.heap.size w w') (hl : lo ≤ w.heap.size) : Tn lo b w w' := ⟨h.os, h.tape, h.output, h.size, fun k h1 _ => h.block k (by omega), fun k cur t f hk _ _ _ => h.block k (Array.getElem?_eq_some_iff.1 hk).1⟩
theorem Tn.of_ty {lo b : Nat} {t : TypeId} {w w' : World} (h : Ty lo t w w') (ht : t = 9 ∨ t = 4) : Tn lo b w w' := ⟨h.low.os, h.low.tape, h.low.output, h.low.size, fun k h1 _ => h.low.block k h1, fun k cur t' f hk _ h1 h2 => h.keep k cur t' f hk (by rcases ht with rfl | rfl <;> assumption)⟩
theorem Tn.of_only {lo b : Nat} {w w' : World} (h : Only b w w') : Tn lo b w w' := by
  have h0 := h.2.2 0 (Nat.zero_le _)
  exact ⟨h0.os, h0.tape, h0.output, h0.size, fun k _ h2 => h.2.1 k h2, fun k cur t f _ h2 _ _ => h.2.1 k h2⟩
theorem Tn.below {lo b B : Nat} {w w' : World} (h : Tn lo b w w') (h1 : B ≤ lo) (h2 : B ≤ b) : Below B w w' := ⟨h.os, h.tape, h.output, h.size, fun k hk => h.low k (by omega) (by omega)⟩
theorem Tn.vblk {lo b b' : Nat} {w w' : World} {t : TypeId} {vs : List Value} (h : Tn lo b w w') (hb : VBlk w b' t vs) (hn : b' ≠ b) (h1 : t ≠ 9) (h2 : t ≠ 4) : VBlk w' b' t vs := hb.of (h.keep b' _ t _ hb hn h1 h2)

section laws
variable {ops : Array Oper} {rest : List Oper} {o : Oper} {a : Act} {w : World} {Q : Exit → Act → World → Prop} {K : Act → World → Prop} {X : Prop}
theorem wpList_store_ss (hgd : o.guard = none) (x y : Operand) (ho : o.op = .store 24 x y) (b j : Nat) (va : Option Addr) (vn vc : Nat) (hx : a.eval x = .pointer (some ⟨b, j, none⟩)) (hy : a.eval y = .slice va vn vc)
    {t : TypeId} {vs : List Value} (hb : VBlk w b t vs) (hj : j < vs.length)
    (h : ∀ w', Only b w w' → VBlk w' b t (vs.set j (.slice va vn vc)) → wpList Try.prog ops Q rest (a.put o.dst undef) w') : wpList Try.prog ops Q (o :: rest) a w := by
  have hc := hb.cell j hj
  have hf : w.frozen? ⟨b, j, none⟩ = false := hb.frozen _
  refine wpList_skp hgd (w' := w.setCell ⟨b, j, none⟩ (.slice va vn vc)) ?_ (h _ (only_set _ _ _ _) (hb.set j _))
  unfold execOp
  simp only [ho, hx, hy]
  simp [go_sem, hc, hf]
theorem wpList_store_bs (hgd : o.guard = none) (x y : Operand) (ho : o.op = .store 25 x y) (b j : Nat) (va : Option Addr) (vn vc : Nat) (hx : a.eval x = .pointer (some ⟨b, j, none⟩)) (hy : a.eval y = .slice va vn vc)
    {t : TypeId} {vs : List Value} (hb : VBlk w b t vs) (hj : j < vs.length)
    (h : ∀ w', Only b w w' → VBlk w' b t (vs.set j (.slice va vn vc)) → wpList Try.prog ops Q rest (a.put o.dst undef) w') : wpList Try.prog ops Q (o :: rest) a w := by
  have hc := hb.cell j hj
  have hf : w.frozen? ⟨b, j, none⟩ = false := hb.frozen _
  refine wpList_skp hgd (w' := w.setCell ⟨b, j, none⟩ (.slice va vn vc)) ?_ (h _ (only_set _ _ _ _) (hb.set j _))
  unfold execOp
  simp only [ho, hx, hy]
  simp [go_sem, hc, hf]
theorem wpList_store_n (hgd : o.guard = none) (x y : Operand) (ho : o.op = .store 2 x y) (b j : Nat) (z : Int) (hx : a.eval x = .pointer (some ⟨b, j, none⟩)) (hy : a.eval y = .int .i64 z)
    {t : TypeId} {vs : List Value} (hb : VBlk w b t vs) (hj : j < vs.length)
    (h : ∀ w', Only b w w' → VBlk w' b t (vs.set j (.int .i64 z)) → wpList Try.prog ops Q rest (a.put o.dst undef) w') : wpList Try.prog ops Q (o :: rest) a w := by
  have hc := hb.cell j hj
  have hf : w.frozen? ⟨b, j, none⟩ = false := hb.frozen _
  refine wpList_skp hgd (w' := w.setCell ⟨b, j, none⟩ (.int .i64 z)) ?_ (h _ (only_set _ _ _ _) (hb.set j _))
  unfold execOp
  simp only [ho, hx, hy]
  simp [go_sem, hc, hf]
/-- a truth is stored into a row of one's own -/
theorem wpList_store_tb (hgd : o.guard = none) (x y : Operand) (ho : o.op = .store 4 x y) (g i : Nat) (z : Bool) (hx : a.eval x = .pointer (some ⟨g, i, none⟩)) (hy : a.eval y = .bool z)
    {lo hi n cap : Nat} {xs : List Bool} (own : Own encB w lo hi (.slice (some ⟨g, 0, none⟩) n cap) xs) (hj : i < xs.length)
    (h : ∀ w', Own encB w' lo hi (.slice (some ⟨g, 0, none⟩) n cap) (xs.set i z) → Ty lo 4 w w' → wpList Try.prog ops Q rest (a.put o.dst undef) w') : wpList Try.prog ops Q (o :: rest) a w := by
  obtain ⟨g', e, hg, hc, hf⟩ := ownB_cell own i hj
  cases e
  have hT : Ty lo 4 w (w.setCell ⟨g, i, none⟩ (.bool z)) := by
    rcases own.row with ⟨rfl, -⟩ | ⟨g2, cap2, cur, e2, -, hb, -⟩
    · simp at hj
    · cases e2
      exact ⟨(only_set w g i _).2.2 _ hg.1, fun k cur' t' f hk hn => (only_set w g i _).2.1 k fun e => by
        rw [e, hb] at hk
        simp at hk
        exact hn hk.2.1.symm⟩
  refine wpList_skp hgd (w' := w.setCell ⟨g, i, none⟩ (.bool z)) ?_ (h _ (ownB_set own i hj z) hT)
  unfold execOp
  simp only [ho, hx, hy]
  simp [go_sem, hc, hf]
end laws

theorem rdB_rest {w : World} {b off n cap : Nat} {xs : List Bool} (r : Rd encB w (.slice (some ⟨b, off, none⟩) n cap) xs) (m : Nat) (hm : m ≤ xs.length) :
    Rd encB w (.slice (if cap = m then some ⟨b, off, none⟩ else some ⟨b, off + m, none⟩) (n - m) (cap - m)) (xs.drop m) := by
  rcases r.rest m hm with ⟨h1, h2⟩ | ⟨h1, h2, h3, h4⟩
  · rw [if_neg (by omega)]
    simpa [encB] using h2.out
  · rw [if_pos h1.symm, h1, h2, h1, Nat.sub_self, ← h1]
    exact h4.out

theorem mayB_false1 {r : Rg} {s : ByteArray} (h : nameB s = false) : mayB r s = false := by unfold mayB; rw [h]; rfl
theorem mayB_false2 {r : Rg} {s : ByteArray} (h : 0 ≤ posS s r.N) : mayB r s = false := by unfold mayB; rw [decide_eq_false (by omega)]; simp
theorem mayB_false3 {r : Rg} {s : ByteArray} (h : r.N.length = 20) : mayB r s = false := by unfold mayB; rw [h]; simp
theorem mayB_true {r : Rg} {s : ByteArray} (h1 : nameB s = true) (h2 : ¬ 0 ≤ posS s r.N) (h3 : ¬ r.N.length = 20) : mayB r s = true := by
  unfold mayB; rw [h1, decide_eq_true (by omega)]; simpa using h3
/-- what a ring is behind a try to join -/
def joinR (r : Rg) (s : ByteArray) : Rg := if mayB r s = true then joined r s else r

set_option maxRecDepth 100000 in
set_option maxHeartbeats 1000000 in
theorem l8Join_any (r : Rg) (s : ByteArray) (hs : s.size ≤ 9223372036854775807) (vN vU : Value) (b lo hi : Nat) (w : World) (own : OwnR w lo hi vN vU r) (hV : VBlk w b 27 [vN, vU, .int .i64 r.A]) (hlo : lo ≤ w.heap.size) (hN : r.N.length ≤ 1000000) (hU : r.U.length ≤ 1000000) :
    Calls Try.prog 111 #[.pointer (some ⟨b, 0, none⟩), .string s] w fun e w' => e = .returned (.bool (mayB r s)) ∧ ∃ vN' vU', OwnR w' lo w'.heap.size vN' vU' (joinR r s) ∧ VBlk w' b 27 [vN', vU', .int .i64 r.A] ∧ Tn lo b w w' := by
  obtain ⟨N, U, A⟩ := r
  obtain ⟨a, n, cap, rfl⟩ := own.n.slice
  obtain ⟨c, m, dc, rfl⟩ := own.u.slice
  have hn : Hid (n = N.length) := own.n.rd.cap.1
  have O : Hid (OwnR w lo hi (.slice a n cap) (.slice c m dc) ⟨N, U, A⟩) := own
  have hbl := hV.lt
  have V : Hid (VBlk w b 27 [.slice a n cap, .slice c m dc, .int .i64 A]) := hV
  obtain ⟨c0, c1, c2⟩ := cells3 hV
  dsimp only at hN hU ⊢
  clear own hV
  obtain ⟨y, hy⟩ := hid_ex (mayB ⟨N, U, A⟩ s)
  obtain ⟨p, hp⟩ := hid_ex (posS s N)
  cases hnm : nameB s with
  | false =>
    have ey := hy.out.symm.trans (mayB_false1 (r := ⟨N, U, A⟩) hnm)
    unfold joinR
    rw [hy.out, ey, if_neg Bool.false_ne_true]
    go_enter Try.func111, Try.ntmps111
    go_wp2_with (first | (go_at_call 25; refine (specNameOk_any _ hs _).mono ?_; rintro e wq ⟨rfl, hq⟩; subst wq; rw [hnm]) | (fail))
    go_ret
    exact ⟨rfl, _, _, O.out.top, V.out, Tn.refl _ _ _⟩
  | true =>
    by_cases hp0 : 0 ≤ p
    · have ey := hy.out.symm.trans (mayB_false2 (r := ⟨N, U, A⟩) (by rw [hp.out]; exact hp0))
      have hpg : p ≥ 0 := hp0
      unfold joinR
      rw [hy.out, ey, if_neg Bool.false_ne_true]
      go_enter Try.func111, Try.ntmps111
      go_wp2_with (first | (go_at_call 25; refine (specNameOk_any _ hs _).mono ?_; rintro e wq ⟨rfl, hq⟩; subst wq; rw [hnm]) | (go_at_call 137; refine (l1At_any N _ _ _ O.out.n.rd).mono ?_; rintro e wq ⟨rfl, hq⟩; subst wq; rw [hp.out]) | (fail))
      go_ret
      exact ⟨rfl, _, _, O.out.top, V.out, Tn.refl _ _ _⟩
    · have hpg : ¬ p ≥ 0 := hp0
      by_cases h20 : n = 20
      · have ey := hy.out.symm.trans (mayB_false3 (r := ⟨N, U, A⟩) (hn.out.symm.trans h20))
        have h20b : ((n : Int) == 20) = true := by simp; omega
        unfold joinR
        rw [hy.out, ey, if_neg Bool.false_ne_true]
        clear h20
        go_enter Try.func111, Try.ntmps111
        go_wp2_with (first | (go_at_call 25; refine (specNameOk_any _ hs _).mono ?_; rintro e wq ⟨rfl, hq⟩; subst wq; rw [hnm]) | (go_at_call 137; refine (l1At_any N _ _ _ O.out.n.rd).mono ?_; rintro e wq ⟨rfl, hq⟩; subst wq; rw [hp.out]) | (fail))
        go_ret
        exact ⟨rfl, _, _, O.out.top, V.out, Tn.refl _ _ _⟩
      · have ey := hy.out.symm.trans (mayB_true (r := ⟨N, U, A⟩) hnm (by rw [hp.out]; exact hp0) (fun q => h20 (hn.out.trans q)))
        have h20b : ((n : Int) == 20) = false := by simp; omega
        unfold joinR
        rw [hy.out, ey, if_pos rfl]
        unfold joined
        dsimp only
        have m1 : Hid True := trivial
        have m2 : Hid True := trivial
        go_enter Try.func111, Try.ntmps111
        go_wp2_with (first | (go_at_call 25; refine (specNameOk_any _ hs _).mono ?_; rintro e wq ⟨rfl, hq⟩; subst wq; rw [hnm]) | (go_at_call 137; refine (l1At_any N _ _ _ O.out.n.rd).mono ?_; rintro e wq ⟨rfl, hq⟩; subst wq; rw [hp.out]) | (clear m1; at_builtin; refine wpList_append_g infoS rfl _ _ 24 rfl Try.underlying24 lo _ _ N rfl (O.out.n.grow ((Below.refl _ _).alloc (Nat.le_refl _) _)) (by simp; omega) _ [s] rfl (rd_new (E := encS) w s #[.string s] rfl) (by simp; omega) ?_; intro v1 w1 o1 hT1; have hBa : Below w.heap.size w (w.alloc (.cells #[.string s] 9)) := (Below.refl _ _).alloc (Nat.le_refl _) _; have V1 := hT1.vblk (vblk_grow V.out hBa) (by decide); have u1 := hT1.own (O.out.u.grow hBa) (by decide); have T1 : Tn lo b w w1 := (Tn.of_below hBa hlo).trans (Tn.of_ty hT1 (.inl rfl)); have hz1 := T1.size; obtain ⟨a1, n1, k1, rfl⟩ := o1.slice) | (refine wpList_store_ss rfl _ _ rfl b 0 a1 n1 k1 rfl rfl V1 (by simp) ?_; intro w2 hO2 V2; replace o1 := o1.only hO2 V1 (by decide); replace u1 := u1.only hO2 V1 (by decide); have T2 : Tn lo b w w2 := T1.trans (Tn.of_only hO2); have hz2 := T2.size; clear c0 c1 c2; obtain ⟨c0, c1, c2⟩ := cells3 V2) | (clear m2; at_builtin; refine wpList_append_g infoB rfl _ _ 25 rfl Try.underlying25 lo _ _ U rfl (u1.grow ((Below.refl _ _).alloc (Nat.le_refl _) _)) (by simp; omega) _ [false] rfl (rd_new (E := encB) w2 false #[.bool false] rfl) (by simp; omega) ?_; intro v3 w3 u3 hT3; have hBa3 : Below w2.heap.size w2 (w2.alloc (.cells #[.bool false] 4)) := (Below.refl _ _).alloc (Nat.le_refl _) _; have V3 := hT3.vblk (vblk_grow V2 hBa3) (by decide); have o3 := hT3.own (o1.grow hBa3) (by decide); have T3 : Tn lo b w w3 := (T2.trans (Tn.of_below hBa3 (by omega))).trans (Tn.of_ty hT3 (.inr rfl)); obtain ⟨a3, n3, k3, rfl⟩ := u3.slice) | (refine wpList_store_bs rfl _ _ rfl b 1 a3 n3 k3 rfl rfl V3 (by simp) ?_; intro w4 hO4 V4; replace o3 := o3.only hO4 V3 (by decide); replace u3 := u3.only hO4 V3 (by decide); have T4 : Tn lo b w w4 := T3.trans (Tn.of_only hO4)) | (fail))
        go_ret
        exact ⟨rfl, _, _, ⟨o3.top, u3.top⟩, V4, T4⟩

/-- what a ring is behind a use -/
theorem used_no {r : Rg} {s : ByteArray} (h : ¬ 0 ≤ posS s r.N) : used r s = r := if_neg h
theorem used_yes {r : Rg} {s : ByteArray} (h : 0 ≤ posS s r.N) : used r s = ⟨r.N, r.U.set (posS s r.N).toNat true, r.A⟩ := if_pos h

set_option maxRecDepth 100000 in
set_option maxHeartbeats 1000000 in
theorem l8Use_any (r : Rg) (s : ByteArray) (vN vU : Value) (b lo hi : Nat) (w : World) (own : OwnR w lo hi vN vU r) (hV : VBlk w b 27 [vN, vU, .int .i64 r.A]) (hNU : r.U.length = r.N.length) :
    Calls Try.prog 110 #[.pointer (some ⟨b, 0, none⟩), .string s] w fun e w' => (∃ u, e = .returned u) ∧ OwnR w' lo hi vN vU (used r s) ∧ VBlk w' b 27 [vN, vU, .int .i64 r.A] ∧ Tn lo b w w' := by
  obtain ⟨N, U, A⟩ := r
  obtain ⟨a, n, cap, rfl⟩ := own.n.slice
  obtain ⟨c, m, dc, rfl⟩ := own.u.slice
  have hm : Hid (m = U.length) := own.u.rd.cap.1
  have O : Hid (OwnR w lo hi (.slice a n cap) (.slice c m dc) ⟨N, U, A⟩) := own
  have V : Hid (VBlk w b 27 [.slice a n cap, .slice c m dc, .int .i64 A]) := hV
  obtain ⟨c0, c1, c2⟩ := cells3 hV
  dsimp only at hNU ⊢
  clear own hV
  have hbd := posS_bd s N
  have hy1 := @used_yes ⟨N, U, A⟩ s
  have hy2 := @used_no ⟨N, U, A⟩ s
  dsimp only at hy1 hy2
  obtain ⟨p, hp⟩ := hid_ex (posS s N)
  rw [hp.out] at hbd hy1 hy2
  by_cases hp0 : 0 ≤ p
  · rw [hy1 hp0]
    clear hy1 hy2
    obtain ⟨i, rfl⟩ : ∃ i : Nat, p = i := ⟨p.toNat, by omega⟩
    have hiU : i < U.length := by omega
    have hm2 : (i : Int) < (m : Int) := by have := hm.out; omega
    have hp1 : ¬ (i : Int) < 0 := by omega
    obtain ⟨g, rfl, hg, d0, f0⟩ := ownB_cell O.out.u i hiU
    rw [Int.toNat_natCast]
    go_enter Try.func110, Try.ntmps110
    go_wp2_with (first | (go_at_call 137; refine (l1At_any N _ _ _ O.out.n.rd).mono ?_; rintro e wq ⟨rfl, hq⟩; subst wq; rw [hp.out]) | (refine wpList_store_tb rfl _ _ rfl g i true rfl rfl O.out.u hiU ?_; intro w1 u1 hT1) | (fail))
    go_ret
    exact ⟨⟨_, rfl⟩, ⟨hT1.own O.out.n (by decide), u1⟩, hT1.vblk V.out (by decide), Tn.of_ty hT1 (.inr rfl)⟩
  · rw [hy2 hp0]
    clear hy1 hy2
    have hp1 : p < 0 := by omega
    go_enter Try.func110, Try.ntmps110
    go_wp2_with (first | (go_at_call 137; refine (l1At_any N _ _ _ O.out.n.rd).mono ?_; rintro e wq ⟨rfl, hq⟩; subst wq; rw [hp.out]) | (fail))
    go_ret
    exact ⟨⟨_, rfl⟩, O.out, V.out, Tn.refl _ _ _⟩
end Go.Proofs.Ytmnjmghlkiljhaa.rg
