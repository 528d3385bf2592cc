/- Contracts: the model's rings in their variable: who does not leave; the hand's turn. -/
import Derived.Test.YtmnjmghlkiljhaaRo6
import Derived.Deep.LoopGhost
namespace Go.Proofs.Ytmnjmghlkiljhaa.rg
open Go.ChangeShapes Go.WideShapes Go.ChangeAt Go.RowKit
open Go.Proofs.Ytmnjmghlkiljhaa.ce Go.Proofs.Ytmnjmghlkiljhaa.ro
set_option linter.unusedVariables false

theorem l8Leave_no (r : Rg) (s : ByteArray) (hp0 : posS s r.N < 0) (vN vU : Value) (b lo hi : Nat) (w : World) (own : OwnR w lo hi vN vU r) (hV : VBlk w b 27 [vN, vU, .int .i64 r.A]) :
    Calls Try.prog 113 #[.pointer (some ⟨b, 0, none⟩), .string s] w fun e w' => e = .returned (.bool false) ∧ w' = w := by
  obtain ⟨N, U, A⟩ := r
  obtain ⟨a, n, cap, rfl⟩ := own.n.slice
  have O : Hid (OwnR w lo hi (.slice a n cap) vU ⟨N, U, A⟩) := own
  obtain ⟨c0, c1, c2⟩ := cells3 hV
  dsimp only at hp0
  clear own hV
  obtain ⟨p, hp⟩ := hid_ex (posS s N)
  rw [hp.out] at hp0
  go_enter Try.func113, Try.ntmps113
  go_wp2_with (first | (go_at_call 137; refine (l1At_any N _ _ _ O.out.n.rd).mono ?_; rintro e wq ⟨rfl, hq⟩; subst wq; rw [hp.out]) | (fail))
  go_ret
  exact ⟨rfl, rfl⟩

/-- while the hand goes on: the ring in its variable -/
structure Tu (lo hi b : Nat) (w wr : World) (vN vU : Value) (N : List ByteArray) (U : List Bool) (a : Nat) : Prop where
  n : Own encS wr lo hi vN N
  u : Own encB wr lo hi vU U
  v : VBlk wr b 27 [vN, vU, .int .i64 a]
  t : Tn lo b w wr
theorem Tu.drewN {lo hi b : Nat} {w wr : World} {vN vU : Value} {N : List ByteArray} {U : List Bool} {a : Nat} (h : Tu lo hi b w wr vN vU N U a) (hl : lo ≤ w.heap.size) (k : Nat) : Tu lo hi b w (wr.drewN k) vN vU N U a :=
  ⟨h.n.grow (below_drewN _ _), h.u.grow (below_drewN _ _), vblk_grow h.v (below_drewN _ _), h.t.trans (Tn.of_below (below_drewN _ _) (Nat.le_trans hl h.t.size))⟩
theorem Tu.step {lo hi b g m dc : Nat} {w wq : World} {vN : Value} {N : List ByteArray} {U : List Bool} {a a2 : Nat} {z : Int} (h : Tu lo hi b w wq vN (.slice (some ⟨g, 0, none⟩) m dc) N U a) (ha : a < U.length) (hz : z = a2) :
    Tu lo hi b w ((wq.setCell ⟨g, a, none⟩ (.bool false)).setCell ⟨b, 2, none⟩ (.int .i64 z)).drew vN (.slice (some ⟨g, 0, none⟩) m dc) N (U.set a false) a2 := by
  subst hz
  have hT : Ty lo 4 wq (wq.setCell ⟨g, a, none⟩ (.bool false)) := by
    obtain ⟨g', e', hg, -, -⟩ := ownB_cell h.u a ha
    cases e'
    rcases h.u.row with ⟨rfl, -⟩ | ⟨g2, cap2, cur, e2, -, hb, -⟩
    · simp at ha
    · cases e2
      exact ⟨(only_set wq g a _).2.2 _ hg.1, fun k cur' t' f hk hn => (only_set wq g a _).2.1 k fun e => by
        rw [e, hb] at hk
        simp at hk
        exact hn hk.2.1.symm⟩
  have hV := hT.vblk h.v (by decide)
  have hO := only_set (wq.setCell ⟨g, a, none⟩ (.bool false)) b 2 (.int .i64 (a2 : Int))
  have hd : Below ((wq.setCell ⟨g, a, none⟩ (.bool false)).setCell ⟨b, 2, none⟩ (.int .i64 (a2 : Int))).heap.size ((wq.setCell ⟨g, a, none⟩ (.bool false)).setCell ⟨b, 2, none⟩ (.int .i64 (a2 : Int))) ((wq.setCell ⟨g, a, none⟩ (.bool false)).setCell ⟨b, 2, none⟩ (.int .i64 (a2 : Int))).drew := (Below.refl _ _).drew
  have ht := (h.t.trans (Tn.of_ty hT (.inr rfl))).trans (Tn.of_only hO)
  exact ⟨((hT.own h.n (by decide)).only hO hV (by decide)).grow hd, ((ownB_set h.u a ha false).only hO hV (by decide)).grow hd, vblk_grow (hV.set 2 (.int .i64 (a2 : Int))) hd, ⟨ht.os, ht.tape, ht.output, ht.size, ht.low, ht.keep⟩⟩
theorem own_type {w : World} {lo hi g n cap : Nat} {xs : List Bool} (o : Own encB w lo hi (.slice (some ⟨g, 0, none⟩) n cap) xs) (h : 1 ≤ xs.length) : ∃ cur, w.heap[g]? = some (.cells cur 4 (0, 0)) := by
  rcases o.row with ⟨rfl, -⟩ | ⟨g2, cap2, cur, e2, -, hb, -⟩
  · simp at h
  · cases e2
    exact ⟨cur, hb⟩
theorem get_of {U : List Bool} {a : Nat} (h : a < U.length) {x : Bool} (e : U[a] = x) : U[a]? = some x := by rw [List.getElem?_eq_getElem h, e]

end Go.Proofs.Ytmnjmghlkiljhaa.rg
