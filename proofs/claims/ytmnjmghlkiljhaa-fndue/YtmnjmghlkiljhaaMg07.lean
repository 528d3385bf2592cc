/- Texts laid together: Ro7 Ro8 Re2. -/
import Derived.Test.YtmnjmghlkiljhaaRo6
import Derived.Test.YtmnjmghlkiljhaaMg01
import Derived.Deep.LoopGhost
import Derived.Deep.DeepCutAuto
/- Contracts: the model's rings in their variable: who does not leave; the hand's turn. -/
namespace Go.Proofs.Ytmnjmghlkiljhaa.rg
open Go.ChangeShapes Go.WideShapes Go.ChangeAt Go.RowKit
open Go.Proofs.Ytmnjmghlkiljhaa.ce Go.Proofs.Ytmnjmghlkiljhaa.ro
set_option linter.unusedVariables false

theorem l8Leave_no (r : Rg) (s : ByteArray) (hp0 : posS s r.N < 0) (vN vU : Value) (b lo hi : Nat) (w : World) (own : OwnR w lo hi vN vU r) (hV : VBlk w b 27 [vN, vU, .int .i64 r.A]) :
    Calls Try.prog 113 #[.pointer (some ⟨b, 0, none⟩), .string s] w fun e w' => e = .returned (.bool false) ∧ w' = w := by
  obtain ⟨N, U, A⟩ := r
  obtain ⟨a, n, cap, rfl⟩ := own.n.slice
  have O : Hid (OwnR w lo hi (.slice a n cap) vU ⟨N, U, A⟩) := own
  obtain ⟨c0, c1, c2⟩ := cells3 hV
  dsimp only at hp0
  clear own hV
  obtain ⟨p, hp⟩ := hid_ex (posS s N)
  rw [hp.out] at hp0
  go_enter Try.func113, Try.ntmps113
  go_wp2_with (first | (go_at_call 137; refine (l1At_any N _ _ _ O.out.n.rd).mono ?_; rintro e wq ⟨rfl, hq⟩; subst wq; rw [hp.out]) | (fail))
  go_ret
  exact ⟨rfl, rfl⟩

/-- while the hand goes on: the ring in its variable -/
structure Tu (lo hi b : Nat) (w wr : World) (vN vU : Value) (N : List ByteArray) (U : List Bool) (a : Nat) : Prop where
  n : Own encS wr lo hi vN N
  u : Own encB wr lo hi vU U
  v : VBlk wr b 27 [vN, vU, .int .i64 a]
  t : Tn lo b w wr
theorem Tu.drewN {lo hi b : Nat} {w wr : World} {vN vU : Value} {N : List ByteArray} {U : List Bool} {a : Nat} (h : Tu lo hi b w wr vN vU N U a) (hl : lo ≤ w.heap.size) (k : Nat) : Tu lo hi b w (wr.drewN k) vN vU N U a :=
  ⟨h.n.grow (ce.below_drewN _ _), h.u.grow (ce.below_drewN _ _), vblk_grow h.v (ce.below_drewN _ _), h.t.trans (Tn.of_below (ce.below_drewN _ _) (Nat.le_trans hl h.t.size))⟩
theorem Tu.step {lo hi b g m dc : Nat} {w wq : World} {vN : Value} {N : List ByteArray} {U : List Bool} {a a2 : Nat} {z : Int} (h : Tu lo hi b w wq vN (.slice (some ⟨g, 0, none⟩) m dc) N U a) (ha : a < U.length) (hz : z = a2) :
    Tu lo hi b w ((wq.setCell ⟨g, a, none⟩ (.bool false)).setCell ⟨b, 2, none⟩ (.int .i64 z)).drew vN (.slice (some ⟨g, 0, none⟩) m dc) N (U.set a false) a2 := by
  subst hz
  have hT : Ty lo 4 wq (wq.setCell ⟨g, a, none⟩ (.bool false)) := by
    obtain ⟨g', e', hg, -, -⟩ := ownB_cell h.u a ha
    cases e'
    rcases h.u.row with ⟨rfl, -⟩ | ⟨g2, cap2, cur, e2, -, hb, -⟩
    · simp at ha
    · cases e2
      exact ⟨(only_set wq g a _).2.2 _ hg.1, fun k cur' t' f hk hn => (only_set wq g a _).2.1 k fun e => by
        rw [e, hb] at hk
        simp at hk
        exact hn hk.2.1.symm⟩
  have hV := hT.vblk h.v (by decide)
  have hO := only_set (wq.setCell ⟨g, a, none⟩ (.bool false)) b 2 (.int .i64 (a2 : Int))
  have hd : Below ((wq.setCell ⟨g, a, none⟩ (.bool false)).setCell ⟨b, 2, none⟩ (.int .i64 (a2 : Int))).heap.size ((wq.setCell ⟨g, a, none⟩ (.bool false)).setCell ⟨b, 2, none⟩ (.int .i64 (a2 : Int))) ((wq.setCell ⟨g, a, none⟩ (.bool false)).setCell ⟨b, 2, none⟩ (.int .i64 (a2 : Int))).drew := (Below.refl _ _).drew
  have ht := (h.t.trans (Tn.of_ty hT (.inr rfl))).trans (Tn.of_only hO)
  exact ⟨((hT.own h.n (by decide)).only hO hV (by decide)).grow hd, ((ownB_set h.u a ha false).only hO hV (by decide)).grow hd, vblk_grow (hV.set 2 (.int .i64 (a2 : Int))) hd, ⟨ht.os, ht.tape, ht.output, ht.size, ht.low, ht.keep⟩⟩
theorem own_type {w : World} {lo hi g n cap : Nat} {xs : List Bool} (o : Own encB w lo hi (.slice (some ⟨g, 0, none⟩) n cap) xs) (h : 1 ≤ xs.length) : ∃ cur, w.heap[g]? = some (.cells cur 4 (0, 0)) := by
  rcases o.row with ⟨rfl, -⟩ | ⟨g2, cap2, cur, e2, -, hb, -⟩
  · simp at h
  · cases e2
    exact ⟨cur, hb⟩
theorem get_of {U : List Bool} {a : Nat} (h : a < U.length) {x : Bool} (e : U[a] = x) : U[a]? = some x := by rw [List.getElem?_eq_getElem h, e]

end Go.Proofs.Ytmnjmghlkiljhaa.rg
/- Contracts: the model's Joins, Uses, Leaves, Turns, of whatever ring. -/
namespace Go.Proofs.Ytmnjmghlkiljhaa.rg
open Go.ChangeShapes Go.WideShapes Go.ChangeAt Go.RowKit
open Go.Proofs.Ytmnjmghlkiljhaa.ce Go.Proofs.Ytmnjmghlkiljhaa.ro
set_option linter.unusedVariables false

theorem joinR_A (r : Rg) (s : ByteArray) : (joinR r s).A = r.A := by unfold joinR; split <;> rfl
theorem used_A (r : Rg) (s : ByteArray) : (used r s).A = r.A := by unfold used; split <;> rfl
theorem left_len (r : Rg) (i : Nat) : (left r i).N.length ≤ r.N.length ∧ (left r i).U.length ≤ r.U.length := by unfold left; simp; omega

end Go.Proofs.Ytmnjmghlkiljhaa.rg
/- What the laws of chapter 8 draw, second part: a ring in its variable while it is drawn. -/
namespace Go.Proofs.Ytmnjmghlkiljhaa.rg
open Go.ChangeShapes Go.WideShapes Go.ChangeAt Go.RowKit
open Go.Proofs.Ytmnjmghlkiljhaa.ce Go.Proofs.Ytmnjmghlkiljhaa.ro Go.Proofs.Ytmnjmghlkiljhaa.draw
set_option linter.unusedVariables false

/-- small enough for whatever follows -/
structure Sm (r : Rg) : Prop where
  n : r.N.length ≤ 30
  u : r.U.length ≤ 31
  s : ∀ s ∈ r.N, s.size ≤ 2000
/-- while a ring is drawn: the cursor in p, the answer's variable b2, the ring's b3 -/
structure Dr (w : World) (p : Nat) (a0 : Option Addr) (len cap b2 b3 : Nat) (vN vU : Value) (r : Rg) (wr : World) : Prop where
  hp : p < w.heap.size
  hb : w.heap.size ≤ b2 ∧ w.heap.size ≤ b3 ∧ b2 ≠ b3
  cur : Cur wr p a0 len cap
  gb : w.grownBy wr (some p)
  n : Own encS wr w.heap.size wr.heap.size vN r.N
  u : Own encB wr w.heap.size wr.heap.size vU r.U
  v3 : VBlk wr b3 27 [vN, vU, .int .i64 r.A]
  v2 : VBlk wr b2 27 [.slice none 0 0, .slice none 0 0, .int .i64 0]
variable {w : World} {p : Nat} {a0 : Option Addr} {len cap b2 b3 : Nat} {vN vU : Value} {r : Rg} {wr w' : World}
theorem Dr.size (D : Dr w p a0 len cap b2 b3 vN vU r wr) : w.heap.size ≤ wr.heap.size := D.gb.size
/-- the cursor has gone on -/
theorem Dr.went (D : Dr w p a0 len cap b2 b3 vN vU r wr) (hc : Cur w' p a0 len cap) (hg : wr.grownBy w' (some p)) : Dr w p a0 len cap b2 b3 vN vU r w' := by
  have hp := D.hp
  have hb := D.hb
  have k : ∀ g, w.heap.size ≤ g → g < wr.heap.size → w'.heap[g]? = wr.heap[g]? := fun g h1 h2 => hg.block g h2 (fun e => by cases e; omega)
  exact ⟨D.hp, D.hb, hc, gb_trans D.gb hg, (D.n.keep fun g h1 h2 => k g h1 h2).top, (D.u.keep fun g h1 h2 => k g h1 h2).top, D.v3.of (k b3 hb.2.1 D.v3.lt), D.v2.of (k b2 hb.1 D.v2.lt)⟩
/-- new memory, and what is the ring's own, has been written -/
theorem Dr.step (D : Dr w p a0 len cap b2 b3 vN vU r wr) (hB : Below w.heap.size wr w') {vN' vU' : Value} {r' : Rg} {lo1 lo2 : Nat} (n : Own encS w' w.heap.size lo1 vN' r'.N) (u : Own encB w' w.heap.size lo2 vU' r'.U) (v3 : VBlk w' b3 27 [vN', vU', .int .i64 r'.A]) (v2 : VBlk w' b2 27 [.slice none 0 0, .slice none 0 0, .int .i64 0]) : Dr w p a0 len cap b2 b3 vN' vU' r' w' :=
  ⟨D.hp, D.hb, cur_below D.cur hB D.hp, gb_below D.gb hB (Nat.le_refl _), n.top, u.top, v3, v2⟩
theorem Dr.grow (D : Dr w p a0 len cap b2 b3 vN vU r wr) (hB : Below wr.heap.size wr w') : Dr w p a0 len cap b2 b3 vN vU r w' :=
  D.step (hB.mono D.size) (D.n.grow hB) (D.u.grow hB) (vblk_grow D.v3 hB) (vblk_grow D.v2 hB)
theorem Dr.tn (D : Dr w p a0 len cap b2 b3 vN vU r wr) {vN' vU' : Value} {r' : Rg} {lo1 : Nat} (o : OwnR w' w.heap.size lo1 vN' vU' r') (v3 : VBlk w' b3 27 [vN', vU', .int .i64 r'.A]) (t : Tn w.heap.size b3 wr w') : Dr w p a0 len cap b2 b3 vN' vU' r' w' :=
  D.step (t.below (Nat.le_refl _) D.hb.2.1) o.n o.u v3 (t.vblk D.v2 D.hb.2.2 (by decide) (by decide))
theorem Dr.setU {g n k : Nat} (D : Dr w p a0 len cap b2 b3 vN (.slice (some ⟨g, 0, none⟩) n k) r wr) (i : Nat) (hi : i < r.U.length) (x : Bool) : Dr w p a0 len cap b2 b3 vN (.slice (some ⟨g, 0, none⟩) n k) ⟨r.N, r.U.set i x, r.A⟩ (wr.setCell ⟨g, i, none⟩ (.bool x)) := by
  have hT := own_ty D.u (by omega) i (.bool x)
  exact D.step hT.low (hT.own D.n (by decide)) (ownB_set D.u i hi x) (hT.vblk D.v3 (by decide)) (hT.vblk D.v2 (by decide))
theorem Dr.only {t : TypeId} (D : Dr w p a0 len cap b2 b3 vN vU r wr) (hO : Only b3 wr w') {A : Int} (v3 : VBlk w' b3 27 [vN, vU, .int .i64 A]) : Dr w p a0 len cap b2 b3 vN vU ⟨r.N, r.U, A⟩ w' :=
  D.step (hO.2.2 _ D.hb.2.1) (D.n.only hO D.v3 (by decide)) (D.u.only hO D.v3 (by decide)) v3 (vblk_only D.v2 hO D.hb.2.2)
theorem Dr.zero (D : Dr w p a0 len cap b2 b3 vN vU r wr) (hO : Only b3 wr w') (v3 : VBlk w' b3 27 [.slice none 0 0, .slice none 0 0, .int .i64 0]) : Dr w p a0 len cap b2 b3 (.slice none 0 0) (.slice none 0 0) Rg.zero w' :=
  D.step (hO.2.2 _ D.hb.2.1) (lo1 := 0) (lo2 := 0) (own_zero _ _ _ _ _) (own_zero _ _ _ _ _) v3 (vblk_only D.v2 hO D.hb.2.2)
/-- a text is appended, and stored -/
theorem Dr.names (D : Dr w p a0 len cap b2 b3 vN vU r wr) {w1 : World} {a : Option Addr} {n k lo : Nat} {N' : List ByteArray} (hT : Ty w.heap.size 9 wr w1) (o : Own encS w1 w.heap.size lo (.slice a n k) N') (hO : Only b3 w1 w') (v3 : VBlk w' b3 27 [.slice a n k, vU, .int .i64 r.A]) : Dr w p a0 len cap b2 b3 (.slice a n k) vU ⟨N', r.U, r.A⟩ w' :=
  have V := hT.vblk D.v3 (by decide)
  D.step (hT.low.trans (hO.2.2 _ D.hb.2.1)) (o.only hO V (by decide)) ((hT.own D.u (by decide)).only hO V (by decide)) v3 (vblk_only (hT.vblk D.v2 (by decide)) hO D.hb.2.2)
theorem Dr.flags (D : Dr w p a0 len cap b2 b3 vN vU r wr) {w1 : World} {a : Option Addr} {n k lo : Nat} {U' : List Bool} (hT : Ty w.heap.size 4 wr w1) (o : Own encB w1 w.heap.size lo (.slice a n k) U') (hO : Only b3 w1 w') (v3 : VBlk w' b3 27 [vN, .slice a n k, .int .i64 r.A]) : Dr w p a0 len cap b2 b3 vN (.slice a n k) ⟨r.N, U', r.A⟩ w' :=
  have V := hT.vblk D.v3 (by decide)
  D.step (hT.low.trans (hO.2.2 _ D.hb.2.1)) ((hT.own D.n (by decide)).only hO V (by decide)) (o.only hO V (by decide)) v3 (vblk_only (hT.vblk D.v2 (by decide)) hO D.hb.2.2)
theorem cur_ad {o : Obj} (h : Cur wr p a0 len cap) : Cur (wr.alloc o).drew p a0 len cap := cur_drewN (cur_alloc h o) 1
theorem cur_d (h : Cur wr p a0 len cap) : Cur wr.drew p a0 len cap := cur_drewN h 1
theorem gb_d (h : wr.drew.grownBy w' (some p)) : wr.grownBy w' (some p) := ⟨h.os, h.tape, h.output, h.size, h.block⟩
theorem gb_ad {o : Obj} (h : (wr.alloc o).drew.grownBy w' (some p)) : wr.grownBy w' (some p) := gb_trans (gb_alloc (World.grownBy.refl _ _) o) (gb_d h)
/-- the texts of a literal -/
def odd3 : List ByteArray := [⟨#[]⟩, ⟨#[97]⟩, ⟨#[65]⟩]
theorem odd3_get (k : Nat) (hk : k < 3) : ∃ s : ByteArray, s.size ≤ 1 ∧ ∀ W : World, (W.alloc (.cells #[.string ⟨#[]⟩, .string ⟨#[97]⟩, .string ⟨#[65]⟩] 9)).cell? ⟨W.heap.size, k, none⟩ = some (.string s) := by
  match k, hk with
  | 0, _ => exact ⟨⟨#[]⟩, by decide, fun W => by simp⟩
  | 1, _ => exact ⟨⟨#[97]⟩, by decide, fun W => by simp⟩
  | 2, _ => exact ⟨⟨#[65]⟩, by decide, fun W => by simp⟩
end Go.Proofs.Ytmnjmghlkiljhaa.rg
