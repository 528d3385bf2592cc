/- Contracts: the model's rings in their variable: who does not leave; the hand's turn. -/
import Derived.Test.YtgcgofnjaipndaaRo6
import Derived.Deep.LoopGhost
namespace Go.Proofs.Ytgcgofnjaipndaa.rg
open Go.ChangeShapes Go.WideShapes Go.ChangeAt Go.RowKit
open Go.Proofs.Ytgcgofnjaipndaa.ce Go.Proofs.Ytgcgofnjaipndaa.ro
set_option linter.unusedVariables false

theorem l8Leave_no (r : Rg) (s : ByteArray) (hp0 : posS s r.N < 0) (vN vU : Value) (b lo hi : Nat) (w : World) (own : OwnR w lo hi vN vU r) (hV : VBlk w b 29 [vN, vU, .int .i64 r.A]) :
    Calls Try.prog 58 #[.pointer (some ⟨b, 0, none⟩), .string s] w fun e w' => e = .returned (.bool false) ∧ w' = w := by
  obtain ⟨N, U, A⟩ := r
  obtain ⟨a, n, cap, rfl⟩ := own.n.slice
  have O : Hid (OwnR w lo hi (.slice a n cap) vU ⟨N, U, A⟩) := own
  obtain ⟨c0, c1, c2⟩ := cells3 hV
  dsimp only at hp0
  clear own hV
  obtain ⟨p, hp⟩ := hid_ex (posS s N)
  rw [hp.out] at hp0
  go_enter Try.func58, Try.ntmps58
  go_wp2_with (first | (go_at_call 66; refine (l1At_any N _ _ _ O.out.n.rd).mono ?_; rintro e wq ⟨rfl, hq⟩; subst wq; rw [hp.out]) | (fail))
  go_ret
  exact ⟨rfl, rfl⟩

/-- while the hand goes on: the ring in its variable -/
structure Tu (lo hi b : Nat) (w wr : World) (vN vU : Value) (N : List ByteArray) (U : List Bool) (a : Nat) : Prop where
  n : Own encS wr lo hi vN N
  u : Own encB wr lo hi vU U
  v : VBlk wr b 29 [vN, vU, .int .i64 a]
  t : Tn lo b w wr
theorem Tu.drewN {lo hi b : Nat} {w wr : World} {vN vU : Value} {N : List ByteArray} {U : List Bool} {a : Nat} (h : Tu lo hi b w wr vN vU N U a) (hl : lo ≤ w.heap.size) (k : Nat) : Tu lo hi b w (wr.drewN k) vN vU N U a :=
  ⟨h.n.grow (below_drewN _ _), h.u.grow (below_drewN _ _), vblk_grow h.v (below_drewN _ _), h.t.trans (Tn.of_below (below_drewN _ _) (Nat.le_trans hl h.t.size))⟩
theorem Tu.step {lo hi b g m dc : Nat} {w wq : World} {vN : Value} {N : List ByteArray} {U : List Bool} {a a2 : Nat} {z : Int} (h : Tu lo hi b w wq vN (.slice (some ⟨g, 0, none⟩) m dc) N U a) (ha : a < U.length) (hz : z = a2) :
    Tu lo hi b w ((wq.setCell ⟨g, a, none⟩ (.bool false)).setCell ⟨b, 2, none⟩ (.int .i64 z)).drew vN (.slice (some ⟨g, 0, none⟩) m dc) N (U.set a false) a2 := by
  subst hz
  have hT : Ty lo 4 wq (wq.setCell ⟨g, a, none⟩ (.bool false)) := by
    obtain ⟨g', e', hg, -, -⟩ := ownB_cell h.u a ha
    cases e'
    rcases h.u.row with ⟨rfl, -⟩ | ⟨g2, cap2, cur, e2, -, hb, -⟩
    · simp at ha
    · cases e2
      exact ⟨(only_set wq g a _).2.2 _ hg.1, fun k cur' t' f hk hn => (only_set wq g a _).2.1 k fun e => by
        rw [e, hb] at hk
        simp at hk
        exact hn hk.2.1.symm⟩
  have hV := hT.vblk h.v (by decide)
  have hO := only_set (wq.setCell ⟨g, a, none⟩ (.bool false)) b 2 (.int .i64 (a2 : Int))
  have hd : Below ((wq.setCell ⟨g, a, none⟩ (.bool false)).setCell ⟨b, 2, none⟩ (.int .i64 (a2 : Int))).heap.size ((wq.setCell ⟨g, a, none⟩ (.bool false)).setCell ⟨b, 2, none⟩ (.int .i64 (a2 : Int))) ((wq.setCell ⟨g, a, none⟩ (.bool false)).setCell ⟨b, 2, none⟩ (.int .i64 (a2 : Int))).drew := (Below.refl _ _).drew
  have ht := (h.t.trans (Tn.of_ty hT (.inr rfl))).trans (Tn.of_only hO)
  exact ⟨((hT.own h.n (by decide)).only hO hV (by decide)).grow hd, ((ownB_set h.u a ha false).only hO hV (by decide)).grow hd, vblk_grow (hV.set 2 (.int .i64 (a2 : Int))) hd, ⟨ht.os, ht.tape, ht.output, ht.size, ht.low, ht.keep⟩⟩
theorem own_type {w : World} {lo hi g n cap : Nat} {xs : List Bool} (o : Own encB w lo hi (.slice (some ⟨g, 0, none⟩) n cap) xs) (h : 1 ≤ xs.length) : ∃ cur, w.heap[g]? = some (.cells cur 4 (0, 0)) := by
  rcases o.row with ⟨rfl, -⟩ | ⟨g2, cap2, cur, e2, -, hb, -⟩
  · simp at h
  · cases e2
    exact ⟨cur, hb⟩
theorem get_of {U : List Bool} {a : Nat} (h : a < U.length) {x : Bool} (e : U[a] = x) : U[a]? = some x := by rw [List.getElem?_eq_getElem h, e]

set_option maxRecDepth 100000 in
set_option maxHeartbeats 2000000 in
theorem l8Turn_any (r : Rg) (vN vU : Value) (b lo hi : Nat) (w : World) (own : OwnR w lo hi vN vU r) (hV : VBlk w b 29 [vN, vU, .int .i64 r.A]) (hlo : lo ≤ w.heap.size) (h1 : 1 ≤ r.N.length) (hN : r.N.length ≤ 1000000) (hNU : r.U.length = r.N.length) (hA0 : 0 ≤ r.A) (hA1 : r.A < r.N.length) :
    Calls Try.prog 60 #[.pointer (some ⟨b, 0, none⟩)] w fun e w' => e = .returned (.string ((r.N[(turned r).2]?).getD ⟨#[]⟩)) ∧ Tu lo hi b w w' vN vU r.N (turned r).1 (turned r).2 := by
  obtain ⟨N, U, A⟩ := r
  obtain ⟨a, n, cap, rfl⟩ := own.n.slice
  obtain ⟨c, m, dc, rfl⟩ := own.u.slice
  have hn : Hid (n = N.length) := own.n.rd.cap.1
  have hm : Hid (m = U.length) := own.u.rd.cap.1
  dsimp only at h1 hN hNU hA0 hA1 ⊢
  obtain ⟨A, rfl⟩ : ∃ k : Nat, A = k := ⟨A.toNat, by omega⟩
  have O : Hid (Tu lo hi b w w (.slice a n cap) (.slice c m dc) N U A) := ⟨own.n, own.u, hV, Tn.refl _ _ _⟩
  obtain ⟨c0, c1, c2⟩ := cells3 hV
  obtain ⟨T, hT⟩ := hid_ex (turned ⟨N, U, (A : Int)⟩)
  rw [hT.out]
  obtain ⟨S, hS⟩ := hid_ex ((N[T.2]?).getD ⟨#[]⟩)
  rw [hS.out]
  replace hT : Hid (turn N.length (U.count true) U A = T) := hT
  have hn0 : ((n : Int) == 0) = false := by have := hn.out; simp; omega
  have hn1 : (n : Int) ≠ 0 := by have := hn.out; omega
  clear own hV
  go_enter Try.func60, Try.ntmps60
  go_wp2
  go_loopg [] (U.count true) (fun k wr => ∃ (U' : List Bool) (a' : Nat), k = U'.count true ∧ a' < N.length ∧ U'.length = N.length ∧ turn N.length (U'.count true) U' a' = T ∧ Tu lo hi b w wr (.slice a n cap) (.slice c m dc) N U' a')
  case atStart => exact ⟨U, A, rfl, by omega, hNU, hT.out, O.out⟩
  case round =>
    obtain ⟨U', a', hk, ha, hl, ht, t'⟩ := hrel
    have HT : Hid (turn N.length (U'.count true) U' a' = T) := ht
    have HK : Hid (gk = U'.count true) := hk
    have HL : Hid (U'.length = N.length) := hl
    have TT : Hid (Tu lo hi b w wr (.slice a n cap) (.slice c m dc) N U' a') := t'
    clear ht hk t'
    clear c0 c1 c2
    obtain ⟨c0, c1, c2⟩ := cells3 TT.out.v
    have ha2 : a' < U'.length := by omega
    obtain ⟨g, rfl, hg, d0, f0⟩ := ownB_cell TT.out.u a' ha2
    have hm1 : (a' : Int) < (m : Int) := by have := TT.out.u.rd.cap.1; omega
    have ha0 : (0 : Int) ≤ (a' : Int) := by omega
    have hbg : b ≠ g := by
      intro e
      obtain ⟨cur, hc⟩ := own_type TT.out.u (by omega)
      have q := TT.out.v
      rw [e] at q
      have := hc.symm.trans q
      simp at this
    obtain ⟨x, hx⟩ := hid_ex (U'[a'])
    have hxx := get_of ha2 hx.out
    rw [hx.out] at d0
    clear hl
    cases x with
    | false =>
      have hst := HT.out.symm.trans (turn_stop (n := N.length) (f := U'.count true) (U := U') (a := a') (by rw [hxx]; simp))
      subst hst
      obtain ⟨g2, e2, -, d2, -⟩ := ownS_cell TT.out.n a' ha
      subst e2
      have eS : S = N[a'] := by rw [← hS.out, List.getElem?_eq_getElem ha]; rfl
      subst eS
      have hn2 : (a' : Int) < (n : Int) := by have := hn.out; omega
      clear hxx
      go_wp2
      go_big_quiet (fail)
      go_wp2
      go_big_quiet (fail)
      go_wp2
      go_ret
      exact ⟨rfl, TT.out.drewN hlo _⟩
    | true =>
      have hst := turn_step (n := N.length) hxx
      have hcs := count_set hxx
      have HT2 : Hid (turn N.length ((U'.set a' false).count true) (U'.set a' false) ((a' + 1) % N.length) = T) := hst.symm.trans HT.out
      have HC : Hid ((U'.set a' false).count true < gk) := by have := HK.out; unfold Hid; omega
      clear hst hcs hxx
      go_wp2
      go_big_quiet (fail)
      go_wp2
      have TQ0 := TT.out.drewN hlo nq
      obtain ⟨wq, hwq⟩ : ∃ wq, wr.drewN nq = wq := ⟨_, rfl⟩
      rw [hwq] at TQ0 ⊢
      clear hwq
      have TQ : Hid (Tu lo hi b w wq (.slice a n cap) (.slice (some ⟨g, 0, none⟩) m dc) N U' a') := TQ0
      clear TQ0 c0 c1 c2 d0 f0
      obtain ⟨c0, c1, c2⟩ := cells3 TQ.out.v
      obtain ⟨g', e', -, d0, f0⟩ := ownB_cell TQ.out.u a' ha2
      cases e'
      have hgb : g ≠ b := fun e => hbg e.symm
      have f2 := TQ.out.v.frozen 2
      go_region_held3 (fun w' => w'.cell? ⟨b, 1, none⟩ = some (.slice (some ⟨g, 0, none⟩) m dc) ∧ w'.cell? ⟨b, 2, none⟩ = some (.int .i64 a')) (first | assumption | exact ⟨c1, c2⟩ | go_keep) (fail)
      go_wp2
      go_roundg ((U'.set a' false).count true)
      case measure => exact HC.out
      case rel =>
        have hlt : 0 < N.length := by omega
        exact ⟨U'.set a' false, (a' + 1) % N.length, rfl, Nat.mod_lt _ hlt, by rw [List.length_set]; exact HL.out, HT2.out, TQ.out.step ha2 (by rw [hn.out]; simp)⟩
end Go.Proofs.Ytgcgofnjaipndaa.rg
