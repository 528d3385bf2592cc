/- Texts laid together: Ro7 Ro8 Rp1. -/
import Derived.Test.YtapchjkiiifhdaaRo6
import Derived.Deep.LoopGhost
/- Contracts: the model's rings in their variable: who does not leave; the hand's turn. -/
namespace Go.Proofs.Ytapchjkiiifhdaa.rg
open Go.ChangeShapes Go.WideShapes Go.ChangeAt Go.RowKit
open Go.Proofs.Ytapchjkiiifhdaa.ce Go.Proofs.Ytapchjkiiifhdaa.ro
set_option linter.unusedVariables false

theorem l8Leave_no (r : Rg) (s : ByteArray) (hp0 : posS s r.N < 0) (vN vU : Value) (b lo hi : Nat) (w : World) (own : OwnR w lo hi vN vU r) (hV : VBlk w b 33 [vN, vU, .int .i64 r.A]) :
    Calls Try.prog 149 #[.pointer (some ⟨b, 0, none⟩), .string s] w fun e w' => e = .returned (.bool false) ∧ w' = w := by
  obtain ⟨N, U, A⟩ := r
  obtain ⟨a, n, cap, rfl⟩ := own.n.slice
  have O : Hid (OwnR w lo hi (.slice a n cap) vU ⟨N, U, A⟩) := own
  obtain ⟨c0, c1, c2⟩ := cells3 hV
  dsimp only at hp0
  clear own hV
  obtain ⟨p, hp⟩ := hid_ex (posS s N)
  rw [hp.out] at hp0
  go_enter Try.func149, Try.ntmps149
  go_wp2_with (first | (go_at_call 176; refine (l1At_any N _ _ _ O.out.n.rd).mono ?_; rintro e wq ⟨rfl, hq⟩; subst wq; rw [hp.out]) | (fail))
  go_ret
  exact ⟨rfl, rfl⟩

/-- while the hand goes on: the ring in its variable -/
structure Tu (lo hi b : Nat) (w wr : World) (vN vU : Value) (N : List ByteArray) (U : List Bool) (a : Nat) : Prop where
  n : Own encS wr lo hi vN N
  u : Own encB wr lo hi vU U
  v : VBlk wr b 33 [vN, vU, .int .i64 a]
  t : Tn lo b w wr
theorem Tu.drewN {lo hi b : Nat} {w wr : World} {vN vU : Value} {N : List ByteArray} {U : List Bool} {a : Nat} (h : Tu lo hi b w wr vN vU N U a) (hl : lo ≤ w.heap.size) (k : Nat) : Tu lo hi b w (wr.drewN k) vN vU N U a :=
  ⟨h.n.grow (below_drewN _ _), h.u.grow (below_drewN _ _), vblk_grow h.v (below_drewN _ _), h.t.trans (Tn.of_below (below_drewN _ _) (Nat.le_trans hl h.t.size))⟩
theorem Tu.step {lo hi b g m dc : Nat} {w wq : World} {vN : Value} {N : List ByteArray} {U : List Bool} {a a2 : Nat} {z : Int} (h : Tu lo hi b w wq vN (.slice (some ⟨g, 0, none⟩) m dc) N U a) (ha : a < U.length) (hz : z = a2) :
    Tu lo hi b w ((wq.setCell ⟨g, a, none⟩ (.bool false)).setCell ⟨b, 2, none⟩ (.int .i64 z)).drew vN (.slice (some ⟨g, 0, none⟩) m dc) N (U.set a false) a2 := by
  subst hz
  have hT : Ty lo 4 wq (wq.setCell ⟨g, a, none⟩ (.bool false)) := by
    obtain ⟨g', e', hg, -, -⟩ := ownB_cell h.u a ha
    cases e'
    rcases h.u.row with ⟨rfl, -⟩ | ⟨g2, cap2, cur, e2, -, hb, -⟩
    · simp at ha
    · cases e2
      exact ⟨(only_set wq g a _).2.2 _ hg.1, fun k cur' t' f hk hn => (only_set wq g a _).2.1 k fun e => by
        rw [e, hb] at hk
        simp at hk
        exact hn hk.2.1.symm⟩
  have hV := hT.vblk h.v (by decide)
  have hO := only_set (wq.setCell ⟨g, a, none⟩ (.bool false)) b 2 (.int .i64 (a2 : Int))
  have hd : Below ((wq.setCell ⟨g, a, none⟩ (.bool false)).setCell ⟨b, 2, none⟩ (.int .i64 (a2 : Int))).heap.size ((wq.setCell ⟨g, a, none⟩ (.bool false)).setCell ⟨b, 2, none⟩ (.int .i64 (a2 : Int))) ((wq.setCell ⟨g, a, none⟩ (.bool false)).setCell ⟨b, 2, none⟩ (.int .i64 (a2 : Int))).drew := (Below.refl _ _).drew
  have ht := (h.t.trans (Tn.of_ty hT (.inr rfl))).trans (Tn.of_only hO)
  exact ⟨((hT.own h.n (by decide)).only hO hV (by decide)).grow hd, ((ownB_set h.u a ha false).only hO hV (by decide)).grow hd, vblk_grow (hV.set 2 (.int .i64 (a2 : Int))) hd, ⟨ht.os, ht.tape, ht.output, ht.size, ht.low, ht.keep⟩⟩
theorem own_type {w : World} {lo hi g n cap : Nat} {xs : List Bool} (o : Own encB w lo hi (.slice (some ⟨g, 0, none⟩) n cap) xs) (h : 1 ≤ xs.length) : ∃ cur, w.heap[g]? = some (.cells cur 4 (0, 0)) := by
  rcases o.row with ⟨rfl, -⟩ | ⟨g2, cap2, cur, e2, -, hb, -⟩
  · simp at h
  · cases e2
    exact ⟨cur, hb⟩
theorem get_of {U : List Bool} {a : Nat} (h : a < U.length) {x : Bool} (e : U[a] = x) : U[a]? = some x := by rw [List.getElem?_eq_getElem h, e]

set_option maxRecDepth 100000 in
set_option maxHeartbeats 2000000 in
theorem l8Turn_any (r : Rg) (vN vU : Value) (b lo hi : Nat) (w : World) (own : OwnR w lo hi vN vU r) (hV : VBlk w b 33 [vN, vU, .int .i64 r.A]) (hlo : lo ≤ w.heap.size) (h1 : 1 ≤ r.N.length) (hN : r.N.length ≤ 1000000) (hNU : r.U.length = r.N.length) (hA0 : 0 ≤ r.A) (hA1 : r.A < r.N.length) :
    Calls Try.prog 153 #[.pointer (some ⟨b, 0, none⟩)] w fun e w' => e = .returned (.string ((r.N[(turned r).2]?).getD ⟨#[]⟩)) ∧ Tu lo hi b w w' vN vU r.N (turned r).1 (turned r).2 := by
  obtain ⟨N, U, A⟩ := r
  obtain ⟨a, n, cap, rfl⟩ := own.n.slice
  obtain ⟨c, m, dc, rfl⟩ := own.u.slice
  have hn : Hid (n = N.length) := own.n.rd.cap.1
  have hm : Hid (m = U.length) := own.u.rd.cap.1
  dsimp only at h1 hN hNU hA0 hA1 ⊢
  obtain ⟨A, rfl⟩ : ∃ k : Nat, A = k := ⟨A.toNat, by omega⟩
  have O : Hid (Tu lo hi b w w (.slice a n cap) (.slice c m dc) N U A) := ⟨own.n, own.u, hV, Tn.refl _ _ _⟩
  obtain ⟨c0, c1, c2⟩ := cells3 hV
  obtain ⟨T, hT⟩ := hid_ex (turned ⟨N, U, (A : Int)⟩)
  rw [hT.out]
  obtain ⟨S, hS⟩ := hid_ex ((N[T.2]?).getD ⟨#[]⟩)
  rw [hS.out]
  replace hT : Hid (turn N.length (U.count true) U A = T) := hT
  have hn0 : ((n : Int) == 0) = false := by have := hn.out; simp; omega
  have hn1 : (n : Int) ≠ 0 := by have := hn.out; omega
  clear own hV
  go_enter Try.func153, Try.ntmps153
  go_wp2
  go_loopg [] (U.count true) (fun k wr => ∃ (U' : List Bool) (a' : Nat), k = U'.count true ∧ a' < N.length ∧ U'.length = N.length ∧ turn N.length (U'.count true) U' a' = T ∧ Tu lo hi b w wr (.slice a n cap) (.slice c m dc) N U' a')
  case atStart => exact ⟨U, A, rfl, by omega, hNU, hT.out, O.out⟩
  case round =>
    obtain ⟨U', a', hk, ha, hl, ht, t'⟩ := hrel
    have HT : Hid (turn N.length (U'.count true) U' a' = T) := ht
    have HK : Hid (gk = U'.count true) := hk
    have HL : Hid (U'.length = N.length) := hl
    have TT : Hid (Tu lo hi b w wr (.slice a n cap) (.slice c m dc) N U' a') := t'
    clear ht hk t'
    clear c0 c1 c2
    obtain ⟨c0, c1, c2⟩ := cells3 TT.out.v
    have ha2 : a' < U'.length := by omega
    obtain ⟨g, rfl, hg, d0, f0⟩ := ownB_cell TT.out.u a' ha2
    have hm1 : (a' : Int) < (m : Int) := by have := TT.out.u.rd.cap.1; omega
    have ha0 : (0 : Int) ≤ (a' : Int) := by omega
    have hbg : b ≠ g := by
      intro e
      obtain ⟨cur, hc⟩ := own_type TT.out.u (by omega)
      have q := TT.out.v
      rw [e] at q
      have := hc.symm.trans q
      simp at this
    obtain ⟨x, hx⟩ := hid_ex (U'[a'])
    have hxx := get_of ha2 hx.out
    rw [hx.out] at d0
    clear hl
    cases x with
    | false =>
      have hst := HT.out.symm.trans (turn_stop (n := N.length) (f := U'.count true) (U := U') (a := a') (by rw [hxx]; simp))
      subst hst
      obtain ⟨g2, e2, -, d2, -⟩ := ownS_cell TT.out.n a' ha
      subst e2
      have eS : S = N[a'] := by rw [← hS.out, List.getElem?_eq_getElem ha]; rfl
      subst eS
      have hn2 : (a' : Int) < (n : Int) := by have := hn.out; omega
      clear hxx
      go_wp2
      go_big_quiet (fail)
      go_wp2
      go_big_quiet (fail)
      go_wp2
      go_ret
      exact ⟨rfl, TT.out.drewN hlo _⟩
    | true =>
      have hst := turn_step (n := N.length) hxx
      have hcs := count_set hxx
      have HT2 : Hid (turn N.length ((U'.set a' false).count true) (U'.set a' false) ((a' + 1) % N.length) = T) := hst.symm.trans HT.out
      have HC : Hid ((U'.set a' false).count true < gk) := by have := HK.out; unfold Hid; omega
      clear hst hcs hxx
      go_wp2
      go_big_quiet (fail)
      go_wp2
      have TQ0 := TT.out.drewN hlo nq
      obtain ⟨wq, hwq⟩ : ∃ wq, wr.drewN nq = wq := ⟨_, rfl⟩
      rw [hwq] at TQ0 ⊢
      clear hwq
      have TQ : Hid (Tu lo hi b w wq (.slice a n cap) (.slice (some ⟨g, 0, none⟩) m dc) N U' a') := TQ0
      clear TQ0 c0 c1 c2 d0 f0
      obtain ⟨c0, c1, c2⟩ := cells3 TQ.out.v
      obtain ⟨g', e', -, d0, f0⟩ := ownB_cell TQ.out.u a' ha2
      cases e'
      have hgb : g ≠ b := fun e => hbg e.symm
      have f2 := TQ.out.v.frozen 2
      go_region_held3 (fun w' => w'.cell? ⟨b, 1, none⟩ = some (.slice (some ⟨g, 0, none⟩) m dc) ∧ w'.cell? ⟨b, 2, none⟩ = some (.int .i64 a')) (first | assumption | exact ⟨c1, c2⟩ | go_keep) (fail)
      go_wp2
      go_roundg ((U'.set a' false).count true)
      case measure => exact HC.out
      case rel =>
        have hlt : 0 < N.length := by omega
        exact ⟨U'.set a' false, (a' + 1) % N.length, rfl, Nat.mod_lt _ hlt, by rw [List.length_set]; exact HL.out, HT2.out, TQ.out.step ha2 (by rw [hn.out]; simp)⟩
end Go.Proofs.Ytapchjkiiifhdaa.rg
/- Contracts: the model's Joins, Uses, Leaves, Turns, of whatever ring. -/
namespace Go.Proofs.Ytapchjkiiifhdaa.rg
open Go.ChangeShapes Go.WideShapes Go.ChangeAt Go.RowKit
open Go.Proofs.Ytapchjkiiifhdaa.ce Go.Proofs.Ytapchjkiiifhdaa.ro
set_option linter.unusedVariables false

theorem joinR_A (r : Rg) (s : ByteArray) : (joinR r s).A = r.A := by unfold joinR; split <;> rfl
theorem used_A (r : Rg) (s : ByteArray) : (used r s).A = r.A := by unfold used; split <;> rfl
theorem left_len (r : Rg) (i : Nat) : (left r i).N.length ≤ r.N.length ∧ (left r i).U.length ≤ r.U.length := by unfold left; simp; omega

theorem l8Turn_zero (r : Rg) (h0 : r.N.length = 0) (vN vU : Value) (b lo hi : Nat) (w : World) (own : OwnR w lo hi vN vU r) (hV : VBlk w b 33 [vN, vU, .int .i64 r.A]) :
    Calls Try.prog 153 #[.pointer (some ⟨b, 0, none⟩)] w fun e w' => e = .returned (.string ⟨#[]⟩) ∧ w' = w := by
  obtain ⟨a, n, cap, rfl⟩ := own.n.slice
  obtain ⟨hn, -, -⟩ := own.n.rd.cap
  obtain ⟨c0, c1, c2⟩ := cells3 hV
  have hn0 : ((n : Int) == 0) = true := by simp; omega
  clear own hV hn h0
  go_enter Try.func153, Try.ntmps153
  go_wp2
  go_ret
  exact ⟨rfl, rfl⟩

end Go.Proofs.Ytapchjkiiifhdaa.rg
/- Contracts: the program's generic ring in its variable: how many, the place of one, who joins, who is used. -/
namespace Go.Proofs.Ytapchjkiiifhdaa.rg
open Go.ChangeShapes Go.WideShapes Go.ChangeAt Go.RowKit
open Go.Proofs.Ytapchjkiiifhdaa.ce Go.Proofs.Ytapchjkiiifhdaa.ro
set_option linter.unusedVariables false

def encSeat : Enc (ByteArray × Bool) := ⟨fun s => [.string s.1, .bool s.2], 2, 191, fun _ => rfl, fun s v hv => by
  simp only [List.mem_cons, List.not_mem_nil, or_false] at hv
  rcases hv with rfl | rfl <;> rfl, by decide⟩
theorem infoSeat : Info encSeat := by
  have h : (Try.prog.info? 191).map (fun i => (i.zero, i.size, i.bytes)) = some (some (.agg #[.string ⟨#[]⟩, .bool false]), 2, 24) := by kernel_rfl
  obtain ⟨i, hi, hz⟩ := Option.map_eq_some_iff.1 h
  simp only [Prod.mk.injEq] at hz
  exact ⟨i, _, hi, hz.1, hz.2.1, by omega, rfl⟩
theorem rdT_cell {w : World} {n cap : Nat} {a : Option Addr} {xs : List (ByteArray × Bool)} (r : Rd encSeat w (.slice a n cap) xs) (i : Nat) (hi : i < xs.length) : ∃ b off, a = some ⟨b, off, none⟩ ∧ b < w.heap.size ∧ w.cell? ⟨b, off + i * 2, none⟩ = some (.string xs[i].1) ∧ w.cell? ⟨b, off + i * 2 + 1, none⟩ = some (.bool xs[i].2) := by
  obtain ⟨b, off, e, h1, h2⟩ := r.cell i 0 hi (show 0 < 2 by decide)
  obtain ⟨b', off', e', h1', h2'⟩ := r.cell i 1 hi (show 1 < 2 by decide)
  rw [e] at e'
  cases e'
  exact ⟨b, off, e, h1, by simpa [encSeat] using h2, by simpa [encSeat, Nat.add_assoc] using h2'⟩
theorem ownT_cell {w : World} {lo hi n cap : Nat} {a : Option Addr} {xs : List (ByteArray × Bool)} (o : Own encSeat w lo hi (.slice a n cap) xs) (i : Nat) (h : i < xs.length) : ∃ g, a = some ⟨g, 0, none⟩ ∧ (lo ≤ g ∧ g < hi) ∧ w.cell? ⟨g, i * 2, none⟩ = some (.string xs[i].1) ∧ w.cell? ⟨g, i * 2 + 1, none⟩ = some (.bool xs[i].2) ∧ w.frozen? ⟨g, i * 2 + 1, none⟩ = false := by
  obtain ⟨g, e, h1, h2, h3⟩ := o.cell i 0 h (show 0 < 2 by decide)
  obtain ⟨g', e', h1', h2', h3'⟩ := o.cell i 1 h (show 1 < 2 by decide)
  rw [e] at e'
  cases e'
  exact ⟨g, e, h1, by simpa [encSeat] using h2, by simpa [encSeat] using h2', by simpa [encSeat] using h3'⟩
theorem ownT_set {w : World} {lo hi g n cap : Nat} {xs : List (ByteArray × Bool)} (o : Own encSeat w lo hi (.slice (some ⟨g, 0, none⟩) n cap) xs) (i : Nat) (h : i < xs.length) (x : Bool) : Own encSeat (w.setCell ⟨g, i * 2 + 1, none⟩ (.bool x)) lo hi (.slice (some ⟨g, 0, none⟩) n cap) (xs.set i (xs[i].1, x)) := by
  have := o.set i 1 h (show 1 < 2 by decide) (.bool x) (xs[i].1, x) rfl
  simpa [encSeat] using this
theorem ownT_ty {w : World} {lo hi g n cap : Nat} {xs : List (ByteArray × Bool)} (o : Own encSeat w lo hi (.slice (some ⟨g, 0, none⟩) n cap) xs) (h : 1 ≤ xs.length) (j : Nat) (x : Value) : Ty lo 191 w (w.setCell ⟨g, j, none⟩ x) := by
  rcases o.row with ⟨rfl, -⟩ | ⟨g2, cap2, cur, e2, hg, hb, -⟩
  · simp at h
  · cases e2
    exact ⟨(only_set w g j x).2.2 _ hg.1, fun k cur' t' f hk hn => (only_set w g j x).2.1 k fun e => by
      rw [e, hb] at hk
      simp at hk
      exact hn hk.2.1.symm⟩

/-- of the blocks that were there only b, and from lo on rows of seats, may be turned -/
structure Tq (lo b : Nat) (w w' : World) : Prop where
  os : w'.os = w.os
  tape : w'.tape = w.tape
  output : w'.output = w.output
  size : w.heap.size ≤ w'.heap.size
  low : ∀ k, k < lo → k ≠ b → w'.heap[k]? = w.heap[k]?
  keep : ∀ (k : Nat) (cur : Array Value) (t : TypeId) (f : Nat × Nat), w.heap[k]? = some (.cells cur t f) → k ≠ b → t ≠ 191 → w'.heap[k]? = w.heap[k]?
theorem Tq.refl (lo b : Nat) (w : World) : Tq lo b w w := ⟨rfl, rfl, rfl, Nat.le_refl _, fun _ _ _ => rfl, fun _ _ _ _ _ _ _ => rfl⟩
theorem Tq.trans {lo b : Nat} {x y z : World} (h : Tq lo b x y) (k : Tq lo b y z) : Tq lo b x z :=
  ⟨k.os.trans h.os, k.tape.trans h.tape, k.output.trans h.output, Nat.le_trans h.size k.size, fun j h1 h2 => (k.low j h1 h2).trans (h.low j h1 h2), fun j cur t f hj h1 h2 => (k.keep j cur t f (by rw [h.keep j cur t f hj h1 h2]; exact hj) h1 h2).trans (h.keep j cur t f hj h1 h2)⟩
theorem Tq.of_below {lo b : Nat} {w w' : World} (h : Below w.heap.size w w') (hl : lo ≤ w.heap.size) : Tq lo b w w' := ⟨h.os, h.tape, h.output, h.size, fun k h1 _ => h.block k (by omega), fun k cur t f hk _ _ => h.block k (Array.getElem?_eq_some_iff.1 hk).1⟩
theorem Tq.of_ty {lo b : Nat} {w w' : World} (h : Ty lo 191 w w') : Tq lo b w w' := ⟨h.low.os, h.low.tape, h.low.output, h.low.size, fun k h1 _ => h.low.block k h1, fun k cur t' f hk _ h1 => h.keep k cur t' f hk h1⟩
theorem Tq.of_only {lo b : Nat} {w w' : World} (h : Only b w w') : Tq lo b w w' := by
  have h0 := h.2.2 0 (Nat.zero_le _)
  exact ⟨h0.os, h0.tape, h0.output, h0.size, fun k _ h2 => h.2.1 k h2, fun k cur t f _ h2 _ => h.2.1 k h2⟩
theorem Tq.below {lo b B : Nat} {w w' : World} (h : Tq lo b w w') (h1 : B ≤ lo) (h2 : B ≤ b) : Below B w w' := ⟨h.os, h.tape, h.output, h.size, fun k hk => h.low k (by omega) (by omega)⟩
theorem Tq.vblk {lo b b' : Nat} {w w' : World} {t : TypeId} {vs : List Value} (h : Tq lo b w w') (hb : VBlk w b' t vs) (hn : b' ≠ b) (h1 : t ≠ 191) : VBlk w' b' t vs := hb.of (h.keep b' _ t _ hb hn h1)

/-- a ring of seats in its variable -/
structure RV (w : World) (lo hi b : Nat) (sv : Value) (ss : List (ByteArray × Bool)) (A : Int) : Prop where
  o : Own encSeat w lo hi sv ss
  v : VBlk w b 144 [sv, .int .i64 A]
theorem RV.grow {w w' : World} {lo hi b : Nat} {sv : Value} {ss : List (ByteArray × Bool)} {A : Int} (h : RV w lo hi b sv ss A) (hb : Below w.heap.size w w') : RV w' lo hi b sv ss A := ⟨h.o.grow hb, vblk_grow h.v hb⟩
theorem RV.top {w : World} {lo hi b : Nat} {sv : Value} {ss : List (ByteArray × Bool)} {A : Int} (h : RV w lo hi b sv ss A) : RV w lo w.heap.size b sv ss A := ⟨h.o.top, h.v⟩
theorem RV.only {w w' : World} {lo hi b b' : Nat} {sv : Value} {ss : List (ByteArray × Bool)} {A : Int} {t : TypeId} {vs : List Value} (h : RV w lo hi b sv ss A) (ho : Only b' w w') (hb : VBlk w b' t vs) (h1 : 191 ≠ t) (hn : b ≠ b') : RV w' lo hi b sv ss A := ⟨h.o.only ho hb h1, vblk_only h.v ho hn⟩
theorem sizeRd : (Try.prog.info? 144).map (·.size) = some 2 := by kernel_rfl
theorem zeroRd (w : World) : (zeroValue 144).run Try.prog w = .ok (.agg [Value.slice none 0 0, .int .i64 0].toArray) w := Try.zeroValue144 w

theorem many_any (w : World) (lo hi b : Nat) (sv : Value) (ss : List (ByteArray × Bool)) (A : Int) (h : RV w lo hi b sv ss A) :
    Calls Try.prog 188 #[.pointer (some ⟨b, 0, none⟩)] w fun e w' => e = .returned (.int .i64 ss.length) ∧ w' = w := by
  obtain ⟨a, cap, rfl⟩ := h.o.rd.form
  obtain ⟨c0, c1⟩ := cells2 h.v
  clear h
  go_enter Try.func188, Try.ntmps188
  go_wp2
  go_ret
  exact ⟨rfl, rfl⟩

theorem around_any (w : World) (lo hi b : Nat) (sv : Value) (ss : List (ByteArray × Bool)) (A p : Int) (h : RV w lo hi b sv ss A) :
    Calls Try.prog 190 #[.pointer (some ⟨b, 0, none⟩), .int .i64 p] w fun e w' => e = .returned (.int .i64 (if p < ss.length then p else 0)) ∧ w' = w := by
  have H : Hid (RV w lo hi b sv ss A) := h
  clear h
  obtain ⟨z, hz⟩ := hid_ex (if p < (ss.length : Int) then p else 0)
  rw [hz.out]
  by_cases hp : p < (ss.length : Int)
  · have ez : z = p := hz.out.symm.trans (if_pos hp)
    subst ez
    have hp2 : ¬ z ≥ (ss.length : Int) := by omega
    go_enter Try.func190, Try.ntmps190
    go_wp2_with (first | (go_at_call 188; refine (many_any _ lo hi b sv ss A H.out).mono ?_; rintro e wq ⟨rfl, hq⟩; subst wq) | (fail))
    go_ret
    exact ⟨rfl, rfl⟩
  · have ez : z = 0 := hz.out.symm.trans (if_neg hp)
    subst ez
    have hp2 : p ≥ (ss.length : Int) := by omega
    go_enter Try.func190, Try.ntmps190
    go_wp2_with (first | (go_at_call 188; refine (many_any _ lo hi b sv ss A H.out).mono ?_; rintro e wq ⟨rfl, hq⟩; subst wq) | (fail))
    go_ret
    exact ⟨rfl, rfl⟩

theorem placeOf_any (s : ByteArray) (w : World) (lo hi b : Nat) (sv : Value) (ss : List (ByteArray × Bool)) (A : Int) (h : RV w lo hi b sv ss A) :
    Calls Try.prog 150 #[.pointer (some ⟨b, 0, none⟩), .string s] w fun e w' => e = .returned (.int .i64 (posS s (ss.map (·.1)))) ∧ Below w.heap.size w w' := by
  have hl := h.o.rd.len
  obtain ⟨a, cap, rfl⟩ := h.o.rd.form
  obtain ⟨c0, c1⟩ := cells2 h.v
  have H : Hid (RV w lo hi b (.slice a ss.length cap) ss A) := h
  clear h
  obtain ⟨y, hy⟩ := hid_ex (posS s (ss.map (·.1)))
  rw [hy.out]
  go_enter Try.func150, Try.ntmps150
  go_wp2
  go_loopw [12] (fun p wr => ∃ i : Nat, i ≤ ss.length ∧ p = .int .i64 i ∧ Hid (s ∉ (ss.map (·.1)).take i) ∧ Below w.heap.size w wr) (fun p _ => ss.length - (intOf p).toNat)
  case atStart => exact ⟨0, by omega, rfl, (by unfold Hid; simp), Below.refl _ _⟩
  case round =>
    obtain ⟨i, hi1, rfl, hno, hB⟩ := hrel
    by_cases hlt : i < ss.length
    · obtain ⟨g, off, rfl, hb, d0, d1⟩ := rdT_cell (H.out.o.rd.grow hB) i hlt
      have hlt' : (i : Int) < (ss.length : Int) := by omega
      have hlm : i < (ss.map (·.1)).length := by rw [List.length_map]; exact hlt
      obtain ⟨z, hz⟩ := hid_ex (ss[i].1)
      obtain ⟨x, hx⟩ := hid_ex (ss[i].2)
      have hzm : Hid ((ss.map (·.1))[i] = z) := by unfold Hid; rw [List.getElem_map]; exact hz.out
      rw [hz.out] at d0
      rw [hx.out] at d1
      by_cases he : z.toList = s.toList
      · have ey : y = i := by rw [← hy.out]; exact posS_at hlm (hzm.out.trans (str_eq he)) hno.out
        subst ey
        have hbe : (z.toList == s.toList) = true := by simpa using he
        clear he
        go_wp2
        go_ret
        exact ⟨rfl, hB.alloc hB.size _⟩
      · have hno2 : Hid (s ∉ (ss.map (·.1)).take (i + 1)) := by
          unfold Hid
          rw [List.take_succ_eq_append_getElem hlm, List.mem_append, hzm.out, List.mem_singleton]
          rintro (h | h)
          · exact hno.out h
          · exact he (by rw [h])
        have hbe : (z.toList == s.toList) = false := by simpa using he
        clear he
        go_wp2
        go_roundw
        case rel => exact ⟨i + 1, by omega, by go_num, hno2, hB.alloc hB.size _⟩
        case measure => simp [intOf]; omega
    · have hlt' : ¬ (i : Int) < (ss.length : Int) := by omega
      have ey : y = -1 := by
        have h := hno.out
        rw [List.take_of_length_le (by rw [List.length_map]; omega)] at h
        rw [← hy.out]; exact posS_no h
      subst ey
      go_wp2
      go_ret
      exact ⟨rfl, hB⟩

section laws
variable {ops : Array Oper} {rest : List Oper} {o : Oper} {a : Act} {w : World} {Q : Exit → Act → World → Prop} {K : Act → World → Prop} {X : Prop}
theorem wpList_store_ts (hgd : o.guard = none) (x y : Operand) (ho : o.op = .store 142 x y) (b j : Nat) (va : Option Addr) (vn vc : Nat) (hx : a.eval x = .pointer (some ⟨b, j, none⟩)) (hy : a.eval y = .slice va vn vc)
    {t : TypeId} {vs : List Value} (hb : VBlk w b t vs) (hj : j < vs.length)
    (h : ∀ w', Only b w w' → VBlk w' b t (vs.set j (.slice va vn vc)) → wpList Try.prog ops Q rest (a.put o.dst undef) w') : wpList Try.prog ops Q (o :: rest) a w := by
  have hc := hb.cell j hj
  have hf : w.frozen? ⟨b, j, none⟩ = false := hb.frozen _
  refine wpList_skp hgd (w' := w.setCell ⟨b, j, none⟩ (.slice va vn vc)) ?_ (h _ (only_set _ _ _ _) (hb.set j _))
  unfold execOp
  simp only [ho, hx, hy]
  simp [go_sem, hc, hf]
end laws

theorem join_any (s : ByteArray) (w : World) (lo hi b : Nat) (sv : Value) (ss : List (ByteArray × Bool)) (A : Int) (h : RV w lo hi b sv ss A) (hlo : lo ≤ w.heap.size) (hl : ss.length ≤ 1000000) :
    Calls Try.prog 178 #[.pointer (some ⟨b, 0, none⟩), .string s] w fun e w' => (∃ u, e = .returned u) ∧ (∃ sv', RV w' lo w'.heap.size b sv' (ss ++ [(s, false)]) A) ∧ Tq lo b w w' := by
  obtain ⟨a, n, cap, rfl⟩ := h.o.slice
  obtain ⟨c0, c1⟩ := cells2 h.v
  have H : Hid (RV w lo hi b (.slice a n cap) ss A) := h
  clear h
  go_enter Try.func178, Try.ntmps178
  go_wp2_with (first | (at_builtin; refine wpList_append_g infoSeat rfl _ _ 142 rfl Try.underlying142 lo _ _ ss rfl (H.out.o.grow ((Below.refl _ _).alloc (Nat.le_refl _) _)) (by simp; omega) _ [(s, false)] rfl (rd_new (E := encSeat) w (s, false) #[.string s, .bool false] rfl) (by simp; omega) ?_; intro v1 w1 o1 hT1; have hBa : Below w.heap.size w (w.alloc (.cells #[.string s, .bool false] 191)) := (Below.refl _ _).alloc (Nat.le_refl _) _; have V1 := hT1.vblk (vblk_grow H.out.v hBa) (by decide); have T1 : Tq lo b w w1 := (Tq.of_below hBa hlo).trans (Tq.of_ty hT1); obtain ⟨a1, n1, k1, rfl⟩ := o1.slice) | (refine wpList_store_ts rfl _ _ rfl b 0 a1 n1 k1 rfl rfl V1 (by simp) ?_; intro w2 hO2 V2; replace o1 := o1.only hO2 V1 (by decide); have T2 : Tq lo b w w2 := T1.trans (Tq.of_only hO2)) | (fail))
  go_end0
  exact ⟨⟨_, rfl⟩, ⟨_, o1.top, V2⟩, T2⟩

theorem use_any (i : Nat) (w : World) (lo hi b : Nat) (sv : Value) (ss : List (ByteArray × Bool)) (A : Int) (h : RV w lo hi b sv ss A) (hi' : i < ss.length) :
    Calls Try.prog 179 #[.pointer (some ⟨b, 0, none⟩), .int .i64 i] w fun e w' => (∃ u, e = .returned u) ∧ RV w' lo hi b sv (ss.set i (ss[i].1, true)) A ∧ Tq lo b w w' := by
  obtain ⟨a, cap, rfl⟩ := h.o.rd.form
  obtain ⟨c0, c1⟩ := cells2 h.v
  have H : Hid (RV w lo hi b (.slice a ss.length cap) ss A) := h
  obtain ⟨g, rfl, hg, d0, d1, f1⟩ := ownT_cell h.o i hi'
  have hlt : (i : Int) < (ss.length : Int) := by omega
  clear h
  go_enter Try.func179, Try.ntmps179
  go_wp2
  go_end0
  have hT := ownT_ty H.out.o (by omega) (i * 2 + 1) (.bool true)
  exact ⟨⟨_, rfl⟩, ⟨ownT_set H.out.o i hi' true, hT.vblk H.out.v (by decide)⟩, Tq.of_ty hT⟩
end Go.Proofs.Ytapchjkiiifhdaa.rg
