/- Texts laid together: Cq5 Hx1 Qp2 Qp3 Cq6 Cq7. -/
import Derived.Test.YtapchjkiiifhdaaCq1
import Derived.Test.YtapchjkiiifhdaaMg05
import Derived.Test.YtapchjkiiifhdaaMg00
import Derived.Test.YtapchjkiiifhdaaMg07
import Derived.Test.YtapchjkiiifhdaaMg16
import Derived.Test.YtapchjkiiifhdaaMg09
import Derived.Deep.DeepCutAuto
import Derived.Deep.LoopGhost
import Derived.Lib.MinMax
import Derived.BigQuiet
import Derived.Lib.SmallJoins
import Derived.Deep.Slices
import Derived.Deep.RegionHeld3
/- Contracts: the model's rings inside a choice: the hand's turn, and what it leaves. -/
namespace Go.Proofs.Ytapchjkiiifhdaa.rg
open Go.ChangeShapes Go.WideShapes Go.ChangeAt Go.RowKit
open Go.Proofs.Ytapchjkiiifhdaa.ce Go.Proofs.Ytapchjkiiifhdaa.ro
set_option linter.unusedVariables false
set_option linter.unusedSimpArgs false

/-- of the blocks that were there only those from lo up to hi, and b, may be turned -/
structure Tw (lo hi b : Nat) (w w' : World) : Prop where
  os : w'.os = w.os
  tape : w'.tape = w.tape
  output : w'.output = w.output
  size : w.heap.size ≤ w'.heap.size
  keep : ∀ k, k < w.heap.size → k ≠ b → (k < lo ∨ hi ≤ k) → w'.heap[k]? = w.heap[k]?
theorem Tw.refl (lo hi b : Nat) (w : World) : Tw lo hi b w w := ⟨rfl, rfl, rfl, Nat.le_refl _, fun _ _ _ _ => rfl⟩
theorem Tw.trans {lo hi b : Nat} {x y z : World} (h : Tw lo hi b x y) (k : Tw lo hi b y z) : Tw lo hi b x z :=
  ⟨k.os.trans h.os, k.tape.trans h.tape, k.output.trans h.output, Nat.le_trans h.size k.size, fun j h1 h2 h3 => (k.keep j (Nat.lt_of_lt_of_le h1 h.size) h2 h3).trans (h.keep j h1 h2 h3)⟩
theorem Tw.of_below {lo hi b : Nat} {w w' : World} (h : Below w.heap.size w w') : Tw lo hi b w w' := ⟨h.os, h.tape, h.output, h.size, fun k h1 _ _ => h.block k h1⟩
theorem Tw.of_only {lo hi b : Nat} {w w' : World} (h : Only b w w') : Tw lo hi b w w' := by
  have h0 := h.2.2 0 (Nat.zero_le _)
  exact ⟨h0.os, h0.tape, h0.output, h0.size, fun k _ h2 _ => h.2.1 k h2⟩
theorem Tw.of_in {lo hi b g : Nat} {w w' : World} (h : Only g w w') (h1 : lo ≤ g) (h2 : g < hi) : Tw lo hi b w w' := by
  have h0 := h.2.2 0 (Nat.zero_le _)
  exact ⟨h0.os, h0.tape, h0.output, h0.size, fun k _ _ h3 => h.2.1 k (by omega)⟩
theorem Tw.below {lo hi b B : Nat} {w w' : World} (h : Tw lo hi b w w') (h1 : B ≤ lo) (h2 : B ≤ b) (h3 : B ≤ w.heap.size) : Below B w w' := ⟨h.os, h.tape, h.output, h.size, fun k hk => h.keep k (by omega) (by omega) (by omega)⟩
/-- while the hand goes on: the ring in its variable -/
structure TuW (y0 y4 y5 y6 : Value) (lo hi b : Nat) (w wr : World) (vN vU : Value) (N : List ByteArray) (U : List Bool) (a : Nat) : Prop where
  n : Own encS wr lo hi vN N
  u : Own encB wr lo hi vU U
  v : VBlk wr b 36 [y0, vN, vU, .int .i64 a, y4, y5, y6]
  t : Tw lo hi b w wr
theorem TuW.drewN {y0 y4 y5 y6 : Value} {lo hi b : Nat} {w wr : World} {vN vU : Value} {N : List ByteArray} {U : List Bool} {a : Nat} (h : TuW y0 y4 y5 y6 lo hi b w wr vN vU N U a) (hl : lo ≤ w.heap.size) (k : Nat) : TuW y0 y4 y5 y6 lo hi b w (wr.drewN k) vN vU N U a :=
  ⟨h.n.grow (below_drewN _ _), h.u.grow (below_drewN _ _), vblk_grow h.v (below_drewN _ _), h.t.trans (Tw.of_below (below_drewN _ _))⟩
theorem TuW.step {y0 y4 y5 y6 : Value} {lo hi b g m dc : Nat} {w wq : World} {vN : Value} {N : List ByteArray} {U : List Bool} {a a2 : Nat} {z : Int} (h : TuW y0 y4 y5 y6 lo hi b w wq vN (.slice (some ⟨g, 0, none⟩) m dc) N U a) (ha : a < U.length) (hz : z = a2) :
    TuW y0 y4 y5 y6 lo hi b w ((wq.setCell ⟨g, a, none⟩ (.bool false)).setCell ⟨b, 3, none⟩ (.int .i64 z)).drew vN (.slice (some ⟨g, 0, none⟩) m dc) N (U.set a false) a2 := by
  subst hz
  have hT : Ty lo 4 wq (wq.setCell ⟨g, a, none⟩ (.bool false)) := by
    obtain ⟨g', e', hg, -, -⟩ := ownB_cell h.u a ha
    cases e'
    rcases h.u.row with ⟨rfl, -⟩ | ⟨g2, cap2, cur, e2, -, hb, -⟩
    · simp at ha
    · cases e2
      exact ⟨(only_set wq g a _).2.2 _ hg.1, fun k cur' t' f hk hn => (only_set wq g a _).2.1 k fun e => by
        rw [e, hb] at hk
        simp at hk
        exact hn hk.2.1.symm⟩
  have hV := hT.vblk h.v (by decide)
  have hO := only_set (wq.setCell ⟨g, a, none⟩ (.bool false)) b 3 (.int .i64 (a2 : Int))
  have hd : Below ((wq.setCell ⟨g, a, none⟩ (.bool false)).setCell ⟨b, 3, none⟩ (.int .i64 (a2 : Int))).heap.size ((wq.setCell ⟨g, a, none⟩ (.bool false)).setCell ⟨b, 3, none⟩ (.int .i64 (a2 : Int))) ((wq.setCell ⟨g, a, none⟩ (.bool false)).setCell ⟨b, 3, none⟩ (.int .i64 (a2 : Int))).drew := (Below.refl _ _).drew
  have hgg : lo ≤ g ∧ g < hi := by
    obtain ⟨g', e', hg, -, -⟩ := ownB_cell h.u a ha
    cases e'
    exact ⟨hg.1, hg.2⟩
  have ht := (h.t.trans (Tw.of_in (only_set wq g a _) hgg.1 hgg.2)).trans (Tw.of_only hO)
  exact ⟨((hT.own h.n (by decide)).only hO hV (by decide)).grow hd, ((ownB_set h.u a ha false).only hO hV (by decide)).grow hd, vblk_grow (hV.set 3 (.int .i64 (a2 : Int))) hd, ⟨ht.os, ht.tape, ht.output, ht.size, ht.keep⟩⟩

set_option maxRecDepth 100000 in
set_option maxHeartbeats 2000000 in
theorem l8TurnW_any (y0 y4 y5 y6 : Value) (r : Rg) (vN vU : Value) (b lo hi : Nat) (w : World) (own : OwnR w lo hi vN vU r) (hV : VBlk w b 36 [y0, vN, vU, .int .i64 r.A, y4, y5, y6]) (hlo : lo ≤ w.heap.size) (h1 : 1 ≤ r.N.length) (hN : r.N.length ≤ 1000000) (hNU : r.U.length = r.N.length) (hA0 : 0 ≤ r.A) (hA1 : r.A < r.N.length) :
    Calls Try.prog 153 #[.pointer (some ⟨b, 1, none⟩)] w fun e w' => e = .returned (.string ((r.N[(turned r).2]?).getD ⟨#[]⟩)) ∧ TuW y0 y4 y5 y6 lo hi b w w' vN vU r.N (turned r).1 (turned r).2 := by
  obtain ⟨N, U, A⟩ := r
  obtain ⟨a, n, cap, rfl⟩ := own.n.slice
  obtain ⟨c, m, dc, rfl⟩ := own.u.slice
  have hn : Hid (n = N.length) := own.n.rd.cap.1
  have hm : Hid (m = U.length) := own.u.rd.cap.1
  dsimp only at h1 hN hNU hA0 hA1 ⊢
  obtain ⟨A, rfl⟩ : ∃ k : Nat, A = k := ⟨A.toNat, by omega⟩
  have O : Hid (TuW y0 y4 y5 y6 lo hi b w w (.slice a n cap) (.slice c m dc) N U A) := ⟨own.n, own.u, hV, Tw.refl _ _ _ _⟩
  obtain ⟨-, c0, c1, c2, -, -, -⟩ := cells7c hV
  obtain ⟨T, hT⟩ := hid_ex (turned ⟨N, U, (A : Int)⟩)
  rw [hT.out]
  obtain ⟨S, hS⟩ := hid_ex ((N[T.2]?).getD ⟨#[]⟩)
  rw [hS.out]
  replace hT : Hid (turn N.length (U.count true) U A = T) := hT
  have hn0 : ((n : Int) == 0) = false := by have := hn.out; simp; omega
  have hn1 : (n : Int) ≠ 0 := by have := hn.out; omega
  clear own hV
  go_enter Try.func153, Try.ntmps153
  go_wp2
  go_loopg [] (U.count true) (fun k wr => ∃ (U' : List Bool) (a' : Nat), k = U'.count true ∧ a' < N.length ∧ U'.length = N.length ∧ turn N.length (U'.count true) U' a' = T ∧ TuW y0 y4 y5 y6 lo hi b w wr (.slice a n cap) (.slice c m dc) N U' a')
  case atStart => exact ⟨U, A, rfl, by omega, hNU, hT.out, O.out⟩
  case round =>
    obtain ⟨U', a', hk, ha, hl, ht, t'⟩ := hrel
    have HT : Hid (turn N.length (U'.count true) U' a' = T) := ht
    have HK : Hid (gk = U'.count true) := hk
    have HL : Hid (U'.length = N.length) := hl
    have TT : Hid (TuW y0 y4 y5 y6 lo hi b w wr (.slice a n cap) (.slice c m dc) N U' a') := t'
    clear ht hk t'
    clear c0 c1 c2
    obtain ⟨-, c0, c1, c2, -, -, -⟩ := cells7c TT.out.v
    have ha2 : a' < U'.length := by omega
    obtain ⟨g, rfl, hg, d0, f0⟩ := ownB_cell TT.out.u a' ha2
    have hm1 : (a' : Int) < (m : Int) := by have := TT.out.u.rd.cap.1; omega
    have ha0 : (0 : Int) ≤ (a' : Int) := by omega
    have hbg : b ≠ g := by
      intro e
      obtain ⟨cur, hc⟩ := own_type TT.out.u (by omega)
      have q := TT.out.v
      rw [e] at q
      have := hc.symm.trans q
      simp at this
    obtain ⟨x, hx⟩ := hid_ex (U'[a'])
    have hxx := get_of ha2 hx.out
    rw [hx.out] at d0
    clear hl
    cases x with
    | false =>
      have hst := HT.out.symm.trans (turn_stop (n := N.length) (f := U'.count true) (U := U') (a := a') (by rw [hxx]; simp))
      subst hst
      obtain ⟨g2, e2, -, d2, -⟩ := ownS_cell TT.out.n a' ha
      subst e2
      have eS : S = N[a'] := by rw [← hS.out, List.getElem?_eq_getElem ha]; rfl
      subst eS
      have hn2 : (a' : Int) < (n : Int) := by have := hn.out; omega
      clear hxx
      go_wp2
      go_big_quiet (fail)
      go_wp2
      go_big_quiet (fail)
      go_wp2
      go_ret
      exact ⟨rfl, TT.out.drewN hlo _⟩
    | true =>
      have hst := turn_step (n := N.length) hxx
      have hcs := count_set hxx
      have HT2 : Hid (turn N.length ((U'.set a' false).count true) (U'.set a' false) ((a' + 1) % N.length) = T) := hst.symm.trans HT.out
      have HC : Hid ((U'.set a' false).count true < gk) := by have := HK.out; unfold Hid; omega
      clear hst hcs hxx
      go_wp2
      go_big_quiet (fail)
      go_wp2
      have TQ0 := TT.out.drewN hlo nq
      obtain ⟨wq, hwq⟩ : ∃ wq, wr.drewN nq = wq := ⟨_, rfl⟩
      rw [hwq] at TQ0 ⊢
      clear hwq
      have TQ : Hid (TuW y0 y4 y5 y6 lo hi b w wq (.slice a n cap) (.slice (some ⟨g, 0, none⟩) m dc) N U' a') := TQ0
      clear TQ0 c0 c1 c2 d0 f0
      obtain ⟨-, c0, c1, c2, -, -, -⟩ := cells7c TQ.out.v
      obtain ⟨g', e', -, d0, f0⟩ := ownB_cell TQ.out.u a' ha2
      cases e'
      have hgb : g ≠ b := fun e => hbg e.symm
      have f2 := TQ.out.v.frozen 3
      go_region_held3 (fun w' => w'.cell? ⟨b, 2, none⟩ = some (.slice (some ⟨g, 0, none⟩) m dc) ∧ w'.cell? ⟨b, 3, none⟩ = some (.int .i64 a')) (first | assumption | exact ⟨c1, c2⟩ | go_keep) (fail)
      go_wp2
      go_roundg ((U'.set a' false).count true)
      case measure => exact HC.out
      case rel =>
        have hlt : 0 < N.length := by omega
        exact ⟨U'.set a' false, (a' + 1) % N.length, rfl, Nat.mod_lt _ hlt, by rw [List.length_set]; exact HL.out, HT2.out, TQ.out.step ha2 (by rw [hn.out]; simp)⟩

end Go.Proofs.Ytapchjkiiifhdaa.rg
/- Mathematics of choices, no Go in sight: who must go. -/
namespace Go.Proofs.Ytapchjkiiifhdaa.rg
open Go.RowKit
set_option linter.unusedVariables false

/-- nobody can go: there is none, or only the one that is let off -/
def noneGo (ns : List ByteArray) (but : ByteArray) : Bool := decide (ns.length = 0) || (decide (ns.length = 1) && decide (ns.headD ⟨#[]⟩ = but))
theorem noneGo_iff {ns : List ByteArray} {but : ByteArray} : noneGo ns but = true ↔ ns = [] ∨ ns = [but] := by
  unfold noneGo
  match ns with
  | [] => simp
  | [a] => simp
  | a :: b :: r => simp
/-- the clock's ring behind the choice -/
def vicR (r : Rg) (but : ByteArray) : Rg := tnBut but 2 (tn r)
def vicH (c : Hc) (but : ByteArray) (seed : Int) : Hc × ByteArray :=
  if noneGo (namesH c) but = true then (c, ⟨#[]⟩)
  else if c.K = 2 then (c, saS (cutR c.Q but) seed 5)
  else (⟨c.K, vicR c.R but, c.Q⟩, atN (vicR c.R but))
theorem name_ne {s : ByteArray} (h : nameB s = true) : s ≠ ⟨#[]⟩ := fun e => by
  have := (nameB_size h).1
  rw [e] at this
  exact absurd this (by decide)
theorem vicR_ok {r : Rg} (h : ROk r) {but : ByteArray} (hn : noneGo r.N but = false) : ROk (vicR r but) ∧ (vicR r but).N = r.N ∧ atN (vicR r but) ≠ but ∧ atN (vicR r but) ∈ r.N := by
  have h0 : r.N.length ≠ 0 := fun e => by
    have : noneGo r.N but = true := noneGo_iff.2 (.inl (List.length_eq_zero_iff.1 e))
    rw [hn] at this; cases this
  obtain ⟨h1, st, e1⟩ := tn_ok h h0
  have h10 : (tn r).N.length ≠ 0 := by rw [e1]; exact h0
  have key : ROk (vicR r but) ∧ (vicR r but).N = r.N ∧ atN (vicR r but) ≠ but := by
    by_cases h2 : 2 ≤ r.N.length
    · obtain ⟨a, b, c, -⟩ := tnBut_done h1 (by rw [e1]; exact h2) (tn_off h h0) but 2 (Nat.le_refl _)
      exact ⟨a, by unfold vicR; rw [b, e1], c⟩
    · have hl : r.N.length = 1 := by omega
      have hne : atN (tn r) ≠ but := fun e => by
        have hm := atN_mem h1 h10
        rw [e, e1] at hm
        have : r.N = [but] := by
          match hr : r.N, hl with
          | [a], _ => rw [hr] at hm; rw [List.mem_singleton.1 hm]
        have := noneGo_iff.2 (.inr this)
        rw [hn] at this; cases this
      have e2 : vicR r but = tn r := by unfold vicR; simp only [tnBut, if_neg hne]
      rw [e2]
      exact ⟨h1, e1, hne⟩
  refine ⟨key.1, key.2.1, key.2.2, ?_⟩
  have := atN_mem key.1 (by rw [key.2.1]; exact h0)
  rw [key.2.1] at this
  exact this
theorem saS_mem {q : List ByteArray} {s m : Int} (h : SOk q s m) : saS q s m ∈ q := by rw [saS_yes h]; exact List.getElem_mem _
/-- who must go is one that is there, never the one that is let off; none only where none can go; the names stay -/
theorem vicH_says {c : Hc} (h : HOk c) (but : ByteArray) {seed : Int} (h0 : 0 ≤ seed) (h1 : seed ≤ 1000000) :
    HOk (vicH c but seed).1 ∧ namesH (vicH c but seed).1 = namesH c ∧ ((vicH c but seed).2 = ⟨#[]⟩ → namesH c = [] ∨ namesH c = [but]) ∧ ((vicH c but seed).2 ≠ ⟨#[]⟩ → (vicH c but seed).2 ∈ namesH c ∧ (vicH c but seed).2 ≠ but) := by
  have hnm := h.names
  unfold vicH
  cases hn : noneGo (namesH c) but with
  | true =>
    rw [if_pos rfl]
    exact ⟨h, rfl, fun _ => noneGo_iff.1 hn, fun e => absurd rfl e⟩
  | false =>
    rw [if_neg (by simp)]
    have hgo : ∀ v, v ∈ namesH c → v ≠ but → ((v = ⟨#[]⟩ → namesH c = [] ∨ namesH c = [but]) ∧ (v ≠ ⟨#[]⟩ → v ∈ namesH c ∧ v ≠ but)) := fun v hv hb => ⟨fun e => absurd e (name_ne (hnm.1 v hv)), fun _ => ⟨hv, hb⟩⟩
    by_cases hk : c.K = 2
    · rw [if_pos hk]
      have e : namesH c = c.Q := by unfold namesH; rw [if_pos hk]
      have hc : cutR c.Q but = othersS c.Q but := cut_is h.q
      have hok := others_ok but h.q
      have hne : (othersS c.Q but).length ≠ 0 := fun z => by
        have z' := List.length_eq_zero_iff.1 z
        have hall : ∀ x ∈ c.Q, x = but := fun x hx => Classical.byContradiction fun hx2 => by
          have : x ∈ othersS c.Q but := by unfold othersS; simp [hx, hx2]
          rw [z'] at this; simp at this
        have : noneGo (namesH c) but = true := by
          rw [e]
          refine noneGo_iff.2 ?_
          match hq : c.Q with
          | [] => exact .inl rfl
          | [a] => exact .inr (by rw [hall a (by rw [hq]; simp)])
          | a :: b :: r =>
            have nd := h.q.2.1
            rw [hq] at nd
            have ea := hall a (by rw [hq]; simp)
            have eb := hall b (by rw [hq]; simp)
            rw [ea, eb] at nd
            simp at nd
        rw [hn] at this; cases this
      have so : SOk (cutR c.Q but) seed 5 := by
        refine saB_iff.1 ?_
        unfold saB
        rw [hc, namesB_iff.2 hok, decide_eq_true h0, decide_eq_true h1]
        have : (((othersS c.Q but).length : Int) == 0) = false := by simpa using fun z => hne (by rw [z]; rfl)
        rw [this]
        rfl
      have hm := saS_mem so
      have hm2 : saS (cutR c.Q but) seed 5 ∈ othersS c.Q but := by rw [← hc]; exact hm
      obtain ⟨a, b⟩ := hgo (saS (cutR c.Q but) seed 5) (by rw [e]; exact (others_sub c.Q but).subset hm2) (fun z => by rw [z] at hm2; exact others_gone _ _ hm2)
      exact ⟨h, rfl, a, b⟩
    · rw [if_neg hk]
      have e : namesH c = c.R.N := by unfold namesH; rw [if_neg hk]
      have hq : c.K = 1 ∧ c.Q = [] := by
        rcases h.way with w | w
        · exact w
        · exact absurd w.1 hk
      rw [e] at hn
      obtain ⟨r1, r2, r3, r4⟩ := vicR_ok h.r hn
      obtain ⟨a, b⟩ := hgo (atN (vicR c.R but)) (by rw [e]; exact r4) r3
      refine ⟨⟨r1, h.q, .inl hq⟩, ?_, a, b⟩
      rw [e]
      show (if c.K = 2 then c.Q else (vicR c.R but).N) = _
      rw [if_neg hk, r2]
end Go.Proofs.Ytapchjkiiifhdaa.rg
/- Contracts: places of a queue, and who is sampled: the model's and the program's. -/
namespace Go.Proofs.Ytapchjkiiifhdaa.rg
open Go.ChangeShapes Go.WideShapes Go.ChangeAt Go.RowKit
open Go.Proofs.Ytapchjkiiifhdaa.ce Go.Proofs.Ytapchjkiiifhdaa.ro
set_option linter.unusedVariables false

def encI : Enc Int := ⟨fun s => [.int .i64 s], 1, 2, fun _ => rfl, fun s v hv => by rw [List.mem_singleton.1 hv]; rfl, by decide⟩
theorem infoI : Info encI := by
  have h : (Try.prog.info? 2).map (fun i => (i.zero, i.size, i.bytes)) = some (some (.int .i64 0), 1, 8) := by kernel_rfl
  obtain ⟨i, hi, hz⟩ := Option.map_eq_some_iff.1 h
  simp only [Prod.mk.injEq] at hz
  exact ⟨i, _, hi, hz.1, hz.2.1, by omega, rfl⟩
theorem rdN_cell {w : World} {n cap : Nat} {a : Option Addr} {xs : List Int} (r : Rd encI w (.slice a n cap) xs) (i : Nat) (hi : i < xs.length) : ∃ b off, a = some ⟨b, off, none⟩ ∧ b < w.heap.size ∧ w.cell? ⟨b, off + i, none⟩ = some (.int .i64 xs[i]) := by
  obtain ⟨b, off, e, h1, h2⟩ := r.cell i 0 hi (show 0 < 1 by decide)
  exact ⟨b, off, e, h1, by simpa [encI] using h2⟩
theorem ownN_cell {w : World} {lo hi n cap : Nat} {a : Option Addr} {xs : List Int} (o : Own encI w lo hi (.slice a n cap) xs) (i : Nat) (h : i < xs.length) : ∃ g, a = some ⟨g, 0, none⟩ ∧ (lo ≤ g ∧ g < hi) ∧ w.cell? ⟨g, i, none⟩ = some (.int .i64 xs[i]) ∧ w.frozen? ⟨g, i, none⟩ = false := by
  obtain ⟨g, e, h1, h2, h3⟩ := o.cell i 0 h (show 0 < 1 by decide)
  exact ⟨g, e, h1, by simpa [encI] using h2, by simpa [encI] using h3⟩
theorem ownN_set {w : World} {lo hi g n cap : Nat} {xs : List Int} (o : Own encI w lo hi (.slice (some ⟨g, 0, none⟩) n cap) xs) (i : Nat) (h : i < xs.length) (x : Int) : Own encI (w.setCell ⟨g, i, none⟩ (.int .i64 x)) lo hi (.slice (some ⟨g, 0, none⟩) n cap) (xs.set i x) := by
  have := o.set i 0 h (show 0 < 1 by decide) (.int .i64 x) x rfl
  simpa [encI] using this
theorem wpList_make_int {o : Oper} {a : Act} {w : World} {ops : Array Oper} {rest : List Oper} {Q : Exit → Act → World → Prop} (hgd : o.guard = none) (l c : Operand) (t : TypeId) (ho : o.op = .makeSlice t l c) (ht : Try.prog.underlying t = some (.slice 2)) (n : Nat) (hn : n ≤ 1048576) (hl : a.eval l = .int .i64 n) (hc : a.eval c = .int .i64 n)
    (h : ∀ b w', w.heap.size ≤ b → b < w'.heap.size → Below w.heap.size w w' → Own encI w' w.heap.size w'.heap.size (.slice (some ⟨b, 0, none⟩) n n) (List.replicate n (0 : Int)) → wpList Try.prog ops Q rest (a.put o.dst (.slice (some ⟨b, 0, none⟩) n n)) w') : wpList Try.prog ops Q (o :: rest) a w := by
  have hi : (Try.prog.info? 2).map (fun i => (i.zero, i.size, i.bytes ≤ 16)) = some (some (Value.int .i64 0), 1, True) := by
    obtain ⟨i, z, h1, h2, h3, h4, h5⟩ := infoI.ex
    have : Try.prog.info? 2 = some i := h1
    have hh : (Try.prog.info? 2).map (fun i => (i.zero, i.size, decide (i.bytes ≤ 16))) = some (some (Value.int .i64 0), 1, true) := by kernel_rfl
    rw [this] at hh ⊢
    simp at hh ⊢
    exact hh
  obtain ⟨i0, hi0, hz⟩ := Option.map_eq_some_iff.1 hi
  simp only [Prod.mk.injEq, eq_iff_iff, iff_true] at hz
  refine wpList_make_full _ hgd l c t ho w.heap.size 2 i0 _ 1 ht hi0 hz.1 hz.2.1 .i64 .i64 n n n hl hc rfl rfl (by have h3 := hz.2.2; have := Nat.mul_le_mul h3 hn; omega) (by unfold maxLen; omega) (Nat.le_refl _) ?_
  intro w1 h1 h2
  have hb : Below w.heap.size w w1 := ro.below_grown h2 (Nat.le_refl _) (fun k hk => by cases hk)
  refine h _ w1 (Nat.le_refl _) (h1.lt _ rfl).2 hb (own_of ?_)
  have hr : (madeCells (Value.cells (Value.int .i64 0)) (n * 1)).toList = encI.row (List.replicate n (0 : Int)) := by
    rw [Enc.row_replicate encI (0 : Int) n (Value.int .i64 0) rfl]
    simp [Value.cells, toList_madeCells_one]
  rw [hr] at h1
  rw [List.length_replicate]
  exact h1


/-- the foremost -/
def fm (x : Int) (ys : List Int) : Int := ys.foldl min x
theorem fm_next {x : Int} {ys : List Int} {i : Nat} (hi : i < ys.length) : fm x (ys.take (i + 1)) = min (fm x (ys.take i)) ys[i] := by
  unfold fm
  rw [List.take_succ_eq_append_getElem hi, List.foldl_append]
  rfl
theorem fm_plcs {n p : Nat} (hp : p < n) : ∀ j, fm p ((plcs n p (j + 1)).drop 1) = (mins n (j + 1) n p : Nat)
  | 0 => by
    show ((p : Int)) = ((min n p : Nat) : Int)
    rw [Nat.min_eq_right (by omega)]
  | j + 1 => by
    rw [plcs_succ, List.drop_append_of_le_length (by rw [plcs_len]; omega), mins_succ]
    have h := fm_plcs hp j
    unfold fm at h ⊢
    rw [List.foldl_append, h]
    show min ((mins n (j + 1) n p : Nat) : Int) ((plc n p (j + 1) : Nat) : Int) = _
    omega

theorem foremost_any (x : Int) (ys : List Int) (a : Option Addr) (n cap : Nat) (w : World) (r : Rd encI w (.slice a n cap) ys) :
    Calls Try.prog 155 #[.int .i64 x, .slice a n cap] w fun e w' => e = .returned (.int .i64 (fm x ys)) ∧ w' = w := by
  have hl := r.len
  have hn : Hid (n = ys.length) := r.cap.1
  have hn1 : n ≤ ys.length := Nat.le_of_eq hn.out
  have hn2 : ys.length ≤ n := Nat.le_of_eq hn.out.symm
  have R : Hid (Rd encI w (.slice a n cap) ys) := r
  clear r
  obtain ⟨F, hF⟩ := hid_ex (fm x ys)
  rw [hF.out]
  go_enter Try.func155, Try.ntmps155
  go_wp2
  go_loop [0, 9] (fun u p => ∃ (i : Nat) (y : Int), i ≤ ys.length ∧ p = .int .i64 i ∧ u = .int .i64 y ∧ Hid (fm x (ys.take i) = y)) (fun _ p => ys.length - (intOf p).toNat)
  case atStart => exact ⟨0, x, by omega, rfl, rfl, (rfl : fm x [] = x)⟩
  case round =>
    obtain ⟨i, y, hi1, rfl, rfl, hy⟩ := hrel
    by_cases hlt : i < ys.length
    · obtain ⟨b, off, rfl, hb, d0⟩ := rdN_cell R.out i hlt
      have hlt' : (i : Int) < (n : Int) := by omega
      have hf := @fm_next x ys i hlt
      obtain ⟨z, hz⟩ := hid_ex (ys[i])
      rw [hz.out] at d0 hf
      rw [hy.out] at hf
      have HF : Hid (fm x (ys.take (i + 1)) = min y z) := hf
      clear hf
      go_wp2
      go_round
      case rel => exact ⟨i + 1, _, by omega, by go_num, rfl, HF⟩
      case measure => simp [intOf]; omega
    · have hlt' : ¬ (i : Int) < (n : Int) := by omega
      have e2 := hy.out
      rw [List.take_of_length_le (by omega), hF.out] at e2
      subst e2
      go_wp2
      go_ret
      exact ⟨rfl, rfl⟩

theorem placesFrom_any (s : Int) (k n p : Nat) (hs : 0 ≤ s) (hk : k ≤ 20) (hn : 0 < n) (hn2 : n ≤ 20) (hp : s.toNat % n = p) (w : World) :
    Calls Try.prog 154 #[.int .i64 s, .int .i64 k, .int .i64 n] w fun e w' => ∃ g, e = .returned (.slice (some ⟨g, 0, none⟩) k k) ∧ Own encI w' w.heap.size w'.heap.size (.slice (some ⟨g, 0, none⟩) k k) (plcs n p k) ∧ Below w.heap.size w w' := by
  have hpn : p < n := by rw [← hp]; exact Nat.mod_lt _ hn
  have hm : s.tmod (n : Int) = (p : Int) := by rw [mod_tm hs, hp]
  have hn0 : (n : Int) ≠ 0 := by omega
  have HPN : Hid (p < n) := hpn
  clear hp
  go_enter Try.func154, Try.ntmps154
  go_wp2_with (first | (refine wpList_make_int rfl _ _ 116 rfl Try.underlying116 k (by omega) rfl rfl ?_; intro g w1 hg hw1 hB1 o1) | (fail))
  have O1 : Hid (Own encI w1 w.heap.size w1.heap.size (.slice (some ⟨g, 0, none⟩) k k) (List.replicate k (0 : Int))) := o1
  clear o1
  have hz1 := hB1.size
  go_loopw [8, 17] (fun u v wr => ∃ i : Nat, i ≤ k ∧ v = .int .i64 i ∧ (∃ y : Nat, u = .int .i64 y ∧ Hid (plc n p i = y) ∧ y < n) ∧ Hid (Own encI wr w.heap.size w1.heap.size (.slice (some ⟨g, 0, none⟩) k k) (plcs n p i ++ (List.replicate k (0 : Int)).drop i)) ∧ Hid (Below w.heap.size w wr) ∧ Hid (w1.heap.size ≤ wr.heap.size)) (fun _ v _ => k - (intOf v).toNat)
  case atStart => exact ⟨0, by omega, rfl, ⟨p, by first | rfl | simp [hm], rfl, HPN.out⟩, by unfold Hid; simpa [plcs] using O1.out, hB1, Nat.le_refl _⟩
  case round =>
    obtain ⟨i, hi1, rfl, ⟨y, rfl, hy, hyn⟩, O, hB, hS⟩ := hrel
    by_cases hlt : i < k
    · obtain ⟨g', e', hg', d1, f1⟩ := ownN_cell O.out i (by simp [plcs]; omega)
      cases e'
      have hlt' : (i : Int) < (k : Int) := by omega
      have hset : Hid ((plcs n p i ++ (List.replicate k (0 : Int)).drop i).set i (y : Int) = plcs n p (i + 1) ++ (List.replicate k (0 : Int)).drop (i + 1)) := by
        unfold Hid
        rw [List.set_append_right _ _ (by rw [plcs_len]; omega), plcs_len, Nat.sub_self, List.drop_eq_getElem_cons (by simp; omega), List.set_cons_zero, plcs_succ, hy.out]
        simp
      have hnx : Hid (plc n p (i + 1) = (7 * y + 3) % n) := by unfold Hid; rw [plc_succ, hy.out]; rfl
      have hnl : (7 * y + 3) % n < n := Nat.mod_lt _ (by omega)
      obtain ⟨x, hx⟩ := hid_ex ((7 * y + 3) % n)
      rw [hx.out] at hnx hnl
      have hmx : (7 * (y : Int) + 3).tmod (n : Int) = (x : Int) := by
        rw [mod_tm (by omega), show (7 * (y : Int) + 3).toNat = 7 * y + 3 by omega, hx.out]
      have hw1 : IntKind.i64.wrap (7 * (y : Int)) = 7 * (y : Int) := by rw [IntKind.wrap_i64]; omega
      have hw2 : IntKind.i64.wrap (7 * (y : Int) + 3) = 7 * (y : Int) + 3 := by rw [IntKind.wrap_i64]; omega
      have hw3 : IntKind.i64.wrap (x : Int) = (x : Int) := by rw [IntKind.wrap_i64]; omega
      go_wp2
      go_roundw
      case rel =>
        have h1 := ownN_set O.out i (by simp [plcs]; omega) (y : Int)
        rw [hset.out] at h1
        exact ⟨i + 1, by omega, by go_num, ⟨x, rfl, hnx, hnl⟩, h1, hB.out.setCell (by omega) _, by unfold Hid; simp [World.setCell]; exact hS.out⟩
      case measure => simp [intOf]; omega
    · have hlt' : ¬ (i : Int) < (k : Int) := by omega
      have o2 := O.out
      rw [show i = k by omega, List.drop_of_length_le (by simp), List.append_nil] at o2
      clear O
      go_wp2
      go_ret
      exact ⟨g, rfl, o2.top, hB.out⟩
end Go.Proofs.Ytapchjkiiifhdaa.rg
/- Contracts: who is sampled: the model's and the program's. -/
namespace Go.Proofs.Ytapchjkiiifhdaa.rg
open Go.ChangeShapes Go.WideShapes Go.ChangeAt Go.RowKit
open Go.Proofs.Ytapchjkiiifhdaa.ce Go.Proofs.Ytapchjkiiifhdaa.ro
set_option linter.unusedVariables false

theorem l1Min_any (x y : Nat) (w : World) : Calls Try.prog 157 #[.int .i64 x, .int .i64 y] w fun e w' => e = .returned (.int .i64 (min x y : Nat)) ∧ w' = w := by
  obtain ⟨z, hz⟩ := hid_ex (min x y)
  rw [hz.out]
  by_cases h : (x : Int) < (y : Int)
  · have e : z = x := by rw [← hz.out]; exact Nat.min_eq_left (by omega)
    subst e
    go_enter Try.func157, Try.ntmps157
    go_wp2
    go_ret
    exact ⟨rfl, rfl⟩
  · have e : z = y := by rw [← hz.out]; exact Nat.min_eq_right (by omega)
    subst e
    go_enter Try.func157, Try.ntmps157
    go_wp2
    go_ret
    exact ⟨rfl, rfl⟩

theorem saB_no1 {q : List ByteArray} {s m : Int} (h : namesB q = false) : saB q s m = false := by unfold saB; rw [h]; rfl
theorem saB_no2 {q : List ByteArray} {s m : Int} (h : ((q.length : Int) == 0) = true) : saB q s m = false := by unfold saB; rw [h]; simp
theorem saB_no3 {q : List ByteArray} {s m : Int} (h : (decide (0 ≤ s) && decide (s ≤ 1000000)) = false) : saB q s m = false := by unfold saB; rw [h]; simp
theorem saB_no4 {q : List ByteArray} {s m : Int} (h : (decide (1 ≤ m) && decide (m ≤ 20)) = false) : saB q s m = false := by unfold saB; rw [h]; simp

theorem specSampled_any (q : List ByteArray) (s m : Int) (v : Value) (w : World) (r : Rd encS w v q) (hs : ∀ s ∈ q, s.size ≤ 9223372036854775807) :
    Calls Try.prog 152 #[v, .int .i64 s, .int .i64 m] w fun e w' => e = .returned (.string (saS q s m)) ∧ w' = w := by
  obtain ⟨a, cap, rfl⟩ := r.form
  have R : Hid (Rd encS w (.slice a q.length cap) q) := r
  have HS : Hid (∀ s ∈ q, s.size ≤ 9223372036854775807) := hs
  clear r hs
  cases hk : namesB q with
  | false =>
    rw [saS_no (saB_no1 hk)]
    go_enter Try.func152, Try.ntmps152
    go_wp2_with (first | (go_at_call 67; refine (specQueueOk_any q _ _ R.out HS.out).mono ?_; rintro e wq ⟨rfl, hq⟩; subst wq; rw [hk]) | (fail))
    go_ret
    exact ⟨rfl, rfl⟩
  | true =>
    cases h0 : ((q.length : Int) == 0) with
    | true =>
      rw [saS_no (saB_no2 h0)]
      go_enter Try.func152, Try.ntmps152
      go_wp2_with (first | (go_at_call 67; refine (specQueueOk_any q _ _ R.out HS.out).mono ?_; rintro e wq ⟨rfl, hq⟩; subst wq; rw [hk]) | (fail))
      go_ret
      exact ⟨rfl, rfl⟩
    | false =>
      have m1 : Hid True := trivial
      cases hi1 : (decide (0 ≤ s) && decide (s ≤ 1000000)) with
      | false =>
        rw [saS_no (saB_no3 hi1)]
        have HI1 : Hid ((decide (0 ≤ s) && decide (s ≤ 1000000)) = false) := hi1
        clear hi1
        go_enter Try.func152, Try.ntmps152
        go_wp2_with (first | (go_at_call 67; refine (specQueueOk_any q _ _ R.out HS.out).mono ?_; rintro e wq ⟨rfl, hq⟩; subst wq; rw [hk]) | (clear m1; go_at_call 91; refine (in_is _ _ _ false HI1.out _).mono ?_; rintro e wq ⟨rfl, hq⟩; subst wq) | (fail))
        go_ret
        exact ⟨rfl, rfl⟩
      | true =>
        cases hi2 : (decide (1 ≤ m) && decide (m ≤ 20)) with
        | false =>
          rw [saS_no (saB_no4 hi2)]
          have HI1 : Hid ((decide (0 ≤ s) && decide (s ≤ 1000000)) = true) := hi1
          have HI2 : Hid ((decide (1 ≤ m) && decide (m ≤ 20)) = false) := hi2
          clear hi1 hi2
          go_enter Try.func152, Try.ntmps152
          go_wp2_with (first | (go_at_call 67; refine (specQueueOk_any q _ _ R.out HS.out).mono ?_; rintro e wq ⟨rfl, hq⟩; subst wq; rw [hk]) | (clear m1; go_at_call 91; refine (in_is _ _ _ true HI1.out _).mono ?_; rintro e wq ⟨rfl, hq⟩; subst wq) | (go_at_call 91; refine (in_is _ _ _ false HI2.out _).mono ?_; rintro e wq ⟨rfl, hq⟩; subst wq) | (fail))
          go_ret
          exact ⟨rfl, rfl⟩
        | true =>
          have ok : SOk q s m := saB_iff.1 (by unfold saB; rw [hk, h0, hi1, hi2]; rfl)
          have HI1 : Hid ((decide (0 ≤ s) && decide (s ≤ 1000000)) = true) := hi1
          have HI2 : Hid ((decide (1 ≤ m) && decide (m ≤ 20)) = true) := hi2
          clear hi1 hi2
          have hlt := saI_lt ok
          rw [saS_yes ok]
          obtain ⟨F, hF⟩ : ∃ F : ByteArray, Hid (q[saI q s m]'hlt = F) := ⟨_, rfl⟩
          rw [hF.out]
          have hm0 := ok.m0
          have hm1 := ok.m1
          have hs0 := ok.s0
          have hn1 := ok.n0
          have hn2 := ok.nk.2.2
          obtain ⟨k, hk2⟩ : ∃ k : Nat, m = k := ⟨m.toNat, by omega⟩
          subst hk2
          obtain ⟨b, off, rfl, hb, dq⟩ := rdS_cell R.out (saI q s k) hlt
          rw [hF.out] at dq
          have hI : saI q s k = mins q.length k q.length (s.toNat % q.length) := rfl
          rw [hI] at dq hlt
          clear hF ok hI
          have hpl := Nat.mod_lt s.toNat hn1
          have hm : s.tmod (q.length : Int) = ((s.toNat % q.length : Nat) : Int) := mod_tm hs0
          obtain ⟨p, hp⟩ := hid_ex (s.toNat % q.length)
          rw [hp.out] at hm hpl dq hlt
          obtain ⟨n, hn⟩ := hid_ex q.length
          obtain ⟨B, hB⟩ := hid_ex (mins n k n p)
          rw [hn.out, hB.out] at dq hlt
          rw [hn.out] at hm hpl hn1 hn2 h0 R
          have hlt' : (B : Int) < (n : Int) := by omega
          have hnz : (n : Int) ≠ 0 := by omega
          rw [hn.out]
          go_enter Try.func152, Try.ntmps152
          go_wp2_with (first | (go_at_call 67; refine (specQueueOk_any q _ _ R.out HS.out).mono ?_; rintro e wq ⟨rfl, hq⟩; subst wq; rw [hk]) | (clear m1; go_at_call 91; refine (in_is _ _ _ true HI1.out _).mono ?_; rintro e wq ⟨rfl, hq⟩; subst wq) | (go_at_call 91; refine (in_is _ _ _ true HI2.out _).mono ?_; rintro e wq ⟨rfl, hq⟩; subst wq) | (fail))
          go_loop [8, 9, 10] (fun u v c => ∃ (i x y : Nat), i ≤ k ∧ c = .int .i64 i ∧ u = .int .i64 x ∧ v = .int .i64 y ∧ Hid (mins n i n p = x) ∧ Hid (plc n p i = y) ∧ y < n) (fun _ _ c => k - (intOf c).toNat)
          case atStart => exact ⟨0, n, p, by omega, rfl, rfl, by first | rfl | simp [hm], rfl, rfl, hpl⟩
          case round =>
            obtain ⟨i, x, y, hi1, rfl, rfl, rfl, hx, hy, hyn⟩ := hrel
            by_cases hlk : i < k
            · have hlk' : (i : Int) < (k : Int) := by omega
              have hnx : Hid (plc n p (i + 1) = (7 * y + 3) % n) := by unfold Hid; rw [plc_succ, hy.out]; rfl
              have hnl : (7 * y + 3) % n < n := Nat.mod_lt _ (by omega)
              obtain ⟨x', hx'⟩ := hid_ex ((7 * y + 3) % n)
              rw [hx'.out] at hnx hnl
              have hmx : (7 * (y : Int) + 3).tmod (n : Int) = (x' : Int) := by
                rw [mod_tm (by omega), show (7 * (y : Int) + 3).toNat = 7 * y + 3 by omega, hx'.out]
              have hw1 : IntKind.i64.wrap (7 * (y : Int)) = 7 * (y : Int) := by rw [IntKind.wrap_i64]; omega
              have hw2 : IntKind.i64.wrap (7 * (y : Int) + 3) = 7 * (y : Int) + 3 := by rw [IntKind.wrap_i64]; omega
              have hw3 : IntKind.i64.wrap (x' : Int) = (x' : Int) := by rw [IntKind.wrap_i64]; omega
              have hmn : mins n (i + 1) n p = min x y := by rw [mins_succ, hx.out, hy.out]
              obtain ⟨z, hz⟩ := hid_ex (min x y)
              rw [hz.out] at hmn
              have HM : Hid (mins n (i + 1) n p = z) := hmn
              clear hmn
              go_wp2_with (first | (go_at_call 157; refine (l1Min_any x y _).mono ?_; rintro e wq ⟨rfl, hq⟩; subst wq; rw [hz.out]) | (fail))
              go_round
              case rel => exact ⟨i + 1, z, x', by omega, by go_num, rfl, rfl, HM, hnx, hnl⟩
              case measure => simp [intOf]; omega
            · have hlk' : ¬ (i : Int) < (k : Int) := by omega
              have ex : x = B := by rw [← hx.out, ← hB.out, show i = k by omega]
              subst ex
              go_wp2
              go_ret
              exact ⟨rfl, rfl⟩
end Go.Proofs.Ytapchjkiiifhdaa.rg
/- Contracts: the model: who must go. -/
namespace Go.Proofs.Ytapchjkiiifhdaa.rg
open Go.ChangeShapes Go.WideShapes Go.ChangeAt Go.RowKit
open Go.Deep Go.Joins
open Go.Proofs.Ytapchjkiiifhdaa.ce Go.Proofs.Ytapchjkiiifhdaa.ro
set_option linter.unusedVariables false
set_option linter.unusedSimpArgs false

theorem tnBut_stop {but : ByteArray} {r : Rg} (h : atN r ≠ but) (f : Nat) : tnBut but f r = r := by
  cases f with
  | zero => rfl
  | succ f => simp only [tnBut, if_neg h]
/-- a choice of which one must go -/
def vcC (c : Ch) (but : ByteArray) (seed : Int) : Ch := ⟨c.K, (vicH ⟨c.K, c.R, c.Q⟩ but seed).1.R, c.Q, c.S, c.D⟩
def vcS (c : Ch) (but : ByteArray) (seed : Int) : ByteArray := (vicH ⟨c.K, c.R, c.Q⟩ but seed).2
theorem TuW.of {y0 y4 y5 y6 : Value} {lo hi b : Nat} {w : World} {vN vU : Value} {r : Rg} {a : Nat} (o : OwnR w lo hi vN vU r) (V : VBlk w b 36 [y0, vN, vU, .int .i64 a, y4, y5, y6]) : TuW y0 y4 y5 y6 lo hi b w w vN vU r.N r.U a := ⟨o.n, o.u, V, Tw.refl _ _ _ _⟩
/-- the hand is set in its variable -/
theorem TuW.put {y0 y4 y5 y6 : Value} {lo hi b : Nat} {w wq w8 : World} {vN vU : Value} {N : List ByteArray} {U : List Bool} {a a2 : Nat} (h : TuW y0 y4 y5 y6 lo hi b w wq vN vU N U a) (hO : Only b wq w8) (V : VBlk w8 b 36 [y0, vN, vU, .int .i64 a2, y4, y5, y6]) : TuW y0 y4 y5 y6 lo hi b w w8 vN vU N U a2 :=
  ⟨h.n.only hO h.v (by decide), h.u.only hO h.v (by decide), V, h.t.trans (Tw.of_only hO)⟩
theorem TuW.then {y0 y4 y5 y6 : Value} {lo hi b : Nat} {w wq w8 : World} {vN vU : Value} {N : List ByteArray} {U U2 : List Bool} {a a2 : Nat} (h : TuW y0 y4 y5 y6 lo hi b w wq vN vU N U a) (k : TuW y0 y4 y5 y6 lo hi b wq w8 vN vU N U2 a2) : TuW y0 y4 y5 y6 lo hi b w w8 vN vU N U2 a2 := ⟨k.n, k.u, k.v, h.t.trans k.t⟩
theorem szI3 : (Try.prog.info? 2).map (·.size) = some 1 := by kernel_rfl
theorem hand_mod {a' n a2 : Nat} (h : a' ≤ 1000000) (e : (a' + 1) % n = a2) : (wrap64 ((a' : Int) + 1)).tmod (n : Int) = (a2 : Int) := by
  rw [IntWalk.wrap64_in _ ⟨by omega, by omega⟩, Int.tmod_eq_emod_of_nonneg (by omega), ← e]
  simp
theorem put3 {w : World} {b : Nat} {y0 y1 y2 y3 y4 y5 y6 : Value} {v : Int} {a2 : Nat} (h : VBlk w b 36 ([y0, y1, y2, y3, y4, y5, y6].set 3 (.int .i64 v))) (e : v = a2) : VBlk w b 36 [y0, y1, y2, .int .i64 a2, y4, y5, y6] := by subst e; exact h
theorem Tw.widen {lo hi lo' hi' b : Nat} {w w' : World} (h : Tw lo hi b w w') (h1 : lo' ≤ lo) (h2 : hi ≤ hi') : Tw lo' hi' b w w' := ⟨h.os, h.tape, h.output, h.size, fun k x y z => h.keep k x y (by omega)⟩
theorem names_sz {q : List ByteArray} (h : NOk q) : ∀ s ∈ q, s.size ≤ 9223372036854775807 := fun s hs => by have := (nameB_size (h.1 s hs)).2; omega

set_option maxRecDepth 100000 in
set_option maxHeartbeats 4000000 in
theorem l16VictimK (c : Ch) (hk : c.K = 1) (hc : chB c = true) (but : ByteArray) (seed : Int) (vN vU vQ vS : Value) (b lo hi : Nat) (w : World) (o : OwnC w lo hi vN vU vQ vS c) (hlo : lo ≤ w.heap.size) (hb : b < lo ∨ hi ≤ b) (V : VBlk w b 36 [.int .i64 c.K, vN, vU, .int .i64 c.R.A, vQ, vS, .int .i64 c.D]) :
    Calls Try.prog 92 #[.pointer (some ⟨b, 0, none⟩), .string but, .int .i64 seed] w fun e w' => e = .returned (.string (vcS c but seed)) ∧ OwnC w' lo hi vN vU vQ vS (vcC c but seed) ∧ VBlk w' b 36 [.int .i64 c.K, vN, vU, .int .i64 (vcC c but seed).R.A, vQ, vS, .int .i64 c.D] ∧ Tw lo hi b w w' := by
  obtain ⟨hsk, hr, hq, hway⟩ := chB_parts hc
  have hl := chB_len hc
  clear hc hway
  obtain ⟨K, ⟨N, U, A⟩, Q, S, D⟩ := c
  dsimp only at hsk hr hq hl hk
  subst hk
  have hsn : ∀ s ∈ N, s.size ≤ 9223372036854775807 := names_sz ⟨hr.nm, hr.nd, hr.le⟩
  have R : Hid (RdC w vN vU vQ vS ⟨1, ⟨N, U, A⟩, Q, S, D⟩) := o.rd hsn (names_sz hq)
  obtain ⟨⟨aN1, nN1, kN1, rfl⟩, ⟨aU1, nU1, kU1, rfl⟩, ⟨aQ1, nQ1, kQ1, rfl⟩, ⟨aS1, nS1, kS1, rfl⟩⟩ := o.forms
  obtain ⟨⟨l1, h1, l2, h2, l3, h3, oR, oQ, oS, ⟨e1, e2, e3, e4, e5, e6⟩, e7, e8, e9⟩, sz⟩ := o
  dsimp only at oR oQ oS V
  obtain ⟨c0, c1, c2, c3, c4, c5, c6⟩ := cells7c V
  have hbl := V.lt
  have hA0 := hr.a0
  obtain ⟨A, rfl⟩ : ∃ k : Nat, A = k := ⟨A.toNat, by dsimp only at hA0; omega⟩
  have kN := fun (_ : Unit) => l16Names_any ⟨1, ⟨N, U, (A : Int)⟩, Q, S, D⟩ _ _ _ _ w R.out hl
  have KN : Hid _ := kN
  have HR : Hid (ROk ⟨N, U, (A : Int)⟩) := hr
  have HLN : Hid (N.length ≤ 1000000) := hl.2
  have HUS : Hid (U.length = N.length) := hr.us
  have HA1 : Hid ((A : Int) < max (N.length : Int) 1) := hr.a1
  clear kN hsk hq hl hsn hr hA0
  have eN : namesH ⟨1, ⟨N, U, (A : Int)⟩, Q⟩ = N := by unfold namesH; rw [if_neg (by decide : ¬ (1 : Int) = 2)]
  unfold vcS vcC vicH
  dsimp only
  rw [eN]
  have HN : Hid (namesH ⟨1, ⟨N, U, (A : Int)⟩, Q⟩ = N) := eN
  clear eN
  have hno : noneGo N but = true → ∀ x : Hc × ByteArray, (if noneGo N but = true then ((⟨1, ⟨N, U, (A : Int)⟩, Q⟩ : Hc), (⟨#[]⟩ : ByteArray)) else x) = (⟨1, ⟨N, U, (A : Int)⟩, Q⟩, ⟨#[]⟩) := fun h x => if_pos h
  obtain ⟨⟨⟨K9, ⟨N9, U9, A9⟩, Q9⟩, z9⟩, h9⟩ := hid_ex (if noneGo N but = true then ((⟨1, ⟨N, U, (A : Int)⟩, Q⟩ : Hc), (⟨#[]⟩ : ByteArray)) else if (1 : Int) = 2 then (⟨1, ⟨N, U, (A : Int)⟩, Q⟩, saS (cutR Q but) seed 5) else (⟨1, vicR ⟨N, U, (A : Int)⟩ but, Q⟩, atN (vicR ⟨N, U, (A : Int)⟩ but)))
  rw [h9.out]
  dsimp only
  go_enter Try.func92, Try.ntmps92
  go_upto_region 2 with (first | (go_at_call 89; refine (KN.out ()).mono ?_; rintro e w2 ⟨vX, rfl, oX, hB2⟩; dsimp only at oX; rw [HN.out] at oX; obtain ⟨aX, nX, kX, rfl⟩ := oX.slice; have V2 := vblk_grow V hB2; clear c0 c1 c2 c3 c4 c5 c6; obtain ⟨c0, c1, c2, c3, c4, c5, c6⟩ := cells7c V2; have hz2 := hB2.size) | (fail))
  have hX := oX.rd.cap.1
  have HZ2 : Hid (w.heap.size ≤ w2.heap.size) := hz2
  have HB2 : Hid (Below w.heap.size w w2) := hB2
  have OR2 : Hid (OwnR w2 l1 h1 (.slice aN1 nN1 kN1) (.slice aU1 nU1 kU1) ⟨N, U, (A : Int)⟩) := oR.grow hB2
  clear hB2
  rcases Nat.lt_trichotomy N.length 1 with n0 | n1 | n2
  · -- none
    have nl : N.length = 0 := by omega
    have nX0 : nX = 0 := by omega
    subst nX0
    have hq9 := h9.out
    rw [if_pos (noneGo_iff.2 (.inl (List.length_eq_zero_iff.1 nl)))] at hq9
    cases hq9
    clear nl n0 hX
    go_wp2
    go_ret
    exact ⟨rfl, ⟨⟨l1, h1, l2, h2, l3, h3, OR2.out, oQ.grow HB2.out, ownS_grow oS HB2.out, ⟨e1, e2, e3, e4, e5, e6⟩, e7, e8, e9⟩, by omega⟩, V2, Tw.of_below HB2.out⟩
  · -- one
    have nX0 : nX = 1 := by omega
    subst nX0
    obtain ⟨gX, eX, -, cX0, -⟩ := ownS_cell oX 0 (by omega)
    subst eX
    have hx : ∃ x, N = [x] := by
      obtain ⟨l, hl⟩ : ∃ l, l = N := ⟨N, rfl⟩
      match N, n1 with
      | [y], _ => exact ⟨y, rfl⟩
    obtain ⟨x, HX1⟩ := hx
    have cX1 : w2.cell? ⟨gX, 0, none⟩ = some (.string x) := by
      rw [cX0]
      simp [HX1]
    clear cX0
    have HX2 : Hid (N = [x]) := HX1
    clear HX1
    have H1 : Hid (N.length = 1) := n1
    have HL1 : Hid (1 ≤ N.length) := by unfold Hid; omega
    have HXX : Hid (N.length = 1) := n1
    clear hX n1
    by_cases hbx : x = but
    · have hq9 := h9.out
      rw [if_pos (noneGo_iff.2 (.inr (by rw [HX2.out, hbx])))] at hq9
      cases hq9
      subst hbx
      have hzz : (x.toList == x.toList) = true := by simp
      go_wp2
      go_ret
      exact ⟨rfl, ⟨⟨l1, h1, l2, h2, l3, h3, OR2.out, oQ.grow HB2.out, ownS_grow oS HB2.out, ⟨e1, e2, e3, e4, e5, e6⟩, e7, e8, e9⟩, by omega⟩, V2, Tw.of_below HB2.out⟩
    · have hb1 : (x.toList == but.toList) = false := by
        simp only [beq_eq_false_iff_ne, ne_eq]
        exact fun e => hbx (str_eq e)
      have HG : Hid (noneGo N but = false) := by
        show noneGo N but = false
        rw [HX2.out]; unfold noneGo; simp [hbx]
      clear hbx

      have hl1w : l1 ≤ w2.heap.size := by
        obtain ⟨g0, -, q0, -, -⟩ := ownS_cell OR2.out.n 0 HL1.out
        have := HZ2.out
        omega
      have HLW : Hid (l1 ≤ w2.heap.size) := hl1w
      clear hl1w
      have kT := fun (_ : Unit) => l8TurnW_any (.int .i64 1) (.slice aQ1 nQ1 kQ1) (.slice aS1 nS1 kS1) (.int .i64 D) ⟨N, U, (A : Int)⟩ (.slice aN1 nN1 kN1) (.slice aU1 nU1 kU1) b l1 h1 w2 OR2.out V2 HLW.out HL1.out HLN.out HUS.out (by dsimp only; omega) (by have := HL1.out; have := HA1.out; dsimp only; omega)
      have KT : Hid _ := kT
      clear kT
      go_upto_region 7 with (first | (go_at_call 153; refine (KT.out ()).mono ?_; rintro e w3 ⟨rfl, t3⟩; clear c0 c1 c2 c3 c4 c5 c6; have T3 : Hid (TuW (.int .i64 1) (.slice aQ1 nQ1 kQ1) (.slice aS1 nS1 kS1) (.int .i64 D) l1 h1 b w2 w3 (.slice aN1 nN1 kN1) (.slice aU1 nU1 kU1) N (turned ⟨N, U, (A : Int)⟩).1 (turned ⟨N, U, (A : Int)⟩).2) := t3; clear t3 V2) | (fail))
      have HV : Hid (ROk (vicR ⟨N, U, (A : Int)⟩ but) ∧ (vicR ⟨N, U, (A : Int)⟩ but).N = N ∧ atN (vicR ⟨N, U, (A : Int)⟩ but) ≠ but ∧ atN (vicR ⟨N, U, (A : Int)⟩ but) ∈ N) := vicR_ok HR.out HG.out
      have h9x := h9.out
      rw [if_neg (by rw [HG.out]; decide), if_neg (by decide : ¬ (1 : Int) = 2)] at h9x
      have H9 : Hid (vicR ⟨N, U, (A : Int)⟩ but = ⟨N9, U9, A9⟩ ∧ atN (vicR ⟨N, U, (A : Int)⟩ but) = z9) := ⟨congrArg (fun x => x.1.R) h9x, congrArg (fun x => x.2) h9x⟩
      clear h9x
      obtain ⟨z3, hz3⟩ := hid_ex ((N[(turned ⟨N, U, (A : Int)⟩).2]?).getD ⟨#[]⟩)
      rw [hz3.out]
      go_loopg [8] 2 (fun f s wr => ∃ (z : ByteArray) (U' : List Bool) (a' : Nat), s = .string z ∧ Hid (z = (N[a']?).getD ⟨#[]⟩) ∧ Hid (ROk ⟨N, U', (a' : Int)⟩) ∧ Hid (tnBut but f ⟨N, U', (a' : Int)⟩ = vicR ⟨N, U, (A : Int)⟩ but) ∧ Hid (TuW (.int .i64 1) (.slice aQ1 nQ1 kQ1) (.slice aS1 nS1 kS1) (.int .i64 D) l1 h1 b w2 wr (.slice aN1 nN1 kN1) (.slice aU1 nU1 kU1) N U' a'))
      case atStart => exact ⟨_, _, _, rfl, hz3.out.symm, (tn_ok HR.out (by have := HL1.out; dsimp only; omega)).1, rfl, T3.out⟩
      case round =>
        obtain ⟨z, U', a', rfl, HZ, HRO, HT, TT⟩ := hrel
        have ha : a' < N.length := by have := HRO.out.a0; have := HRO.out.a1; have := HL1.out; dsimp only at *; omega
        obtain ⟨-, c0, c1, c2, c3, c4, c5, c6⟩ : True ∧ _ := ⟨trivial, cells7c TT.out.v⟩
        by_cases hbz : z = but
        · subst hbz
          have hzz : (z.toList == z.toList) = true := by simp
          have hg : ∃ f, gk = f + 1 := by
            cases gk with
            | zero => exact absurd ((congrArg atN HT.out).symm.trans HZ.out.symm) HV.out.2.2.1
            | succ f => exact ⟨f, rfl⟩
          obtain ⟨f, hgf⟩ := hg
          have HGF : Hid (gk = f + 1) := hgf
          have hT1 := HT.out
          rw [hgf] at hT1
          have hstep : tnBut z (f + 1) ⟨N, U', (a' : Int)⟩ = tnBut z f (tn (nx ⟨N, U', (a' : Int)⟩)) := by
            have hat : atN ⟨N, U', (a' : Int)⟩ = z := HZ.out.symm
            simp only [tnBut, if_pos hat]
          rw [hstep] at hT1
          obtain ⟨a2, ha2⟩ := hid_ex ((a' + 1) % N.length)
          have eNX : nx ⟨N, U', (a' : Int)⟩ = ⟨N, U', (a2 : Int)⟩ := by
            show (⟨N, U', ((a' : Int) + 1) % (N.length : Int)⟩ : Rg) = _
            rw [← ha2.out]; simp
          have HN2 : Hid (ROk ⟨N, U', (a2 : Int)⟩) := by
            rw [← eNX]; exact nx_ok HRO.out (by have := HL1.out; dsimp only; omega)
          rw [eNX] at hT1
          have HT1 : Hid (tnBut z f (tn ⟨N, U', (a2 : Int)⟩) = vicR ⟨N, U, (A : Int)⟩ z) := hT1
          have HAL : Hid (a' ≤ 1000000) := by have := HLN.out; unfold Hid; omega
          have E2 : Hid ((a' + 1) % N.length = a2) := ha2
          rw [HXX.out] at E2
          have hlt2 : a2 < N.length := by have := HL1.out; rw [← ha2.out]; exact Nat.mod_lt _ (by omega)
          have k2 := fun w8 (t8 : TuW (.int .i64 1) (.slice aQ1 nQ1 kQ1) (.slice aS1 nS1 kS1) (.int .i64 D) l1 h1 b w2 w8 (.slice aN1 nN1 kN1) (.slice aU1 nU1 kU1) N U' a2) => l8TurnW_any (.int .i64 1) (.slice aQ1 nQ1 kQ1) (.slice aS1 nS1 kS1) (.int .i64 D) ⟨N, U', (a2 : Int)⟩ (.slice aN1 nN1 kN1) (.slice aU1 nU1 kU1) b l1 h1 w8 ⟨t8.n, t8.u⟩ t8.v (Nat.le_trans HLW.out t8.t.size) HL1.out HLN.out HN2.out.us (by dsimp only; omega) (by dsimp only; omega)
          have K2 : Hid _ := k2
          clear k2 hstep hT1 eNX hgf hlt2
          go_wp2_with (first | (refine wpList_store_cc rfl 2 _ _ rfl b 3 _ rfl rfl rfl szI3 TT.out.v (by simp) ?_; intro w8 hO8 V8x; have V8 := put3 (a2 := a2) V8x (by first | exact hand_mod HAL.out E2.out | (rw [← ha2.out, HXX.out]; simp; done)); have T8 : Hid _ := TT.out.put hO8 V8; clear V8x; clear c0 c1 c2 c3 c4 c5 c6; obtain ⟨c0, c1, c2, c3, c4, c5, c6⟩ := cells7c V8) | (go_at_call 153; refine (K2.out _ T8.out).mono ?_; rintro e w9 ⟨rfl, t9⟩; have T9 : Hid _ := T8.out.then t9; clear t9) | (fail))
          go_show
          go_roundg f
          case measure => have := HGF.out; omega
          case rel => exact ⟨_, _, _, rfl, rfl, (tn_ok HN2.out (by have := HL1.out; dsimp only; omega)).1, HT1.out, T9.out⟩
        · have hzz : (z.toList == but.toList) = false := by
            simp only [beq_eq_false_iff_ne, ne_eq]
            exact fun e => hbz (str_eq e)
          have hT2 := tnBut_stop (r := ⟨N, U', (a' : Int)⟩) (fun e => hbz (HZ.out.trans e)) gk
          have hT3 := hT2.symm.trans HT.out
          have HT4 : Hid (vicR ⟨N, U, (A : Int)⟩ but = ⟨N, U', (a' : Int)⟩) := hT3.symm
          clear hT2 hT3 hbz
          go_wp2
          go_ret
          have h4 := HT4.out
          have h9' := H9.out.1
          rw [h4] at h9'
          have ez := H9.out.2
          rw [h4] at ez
          have eR : N9 = N ∧ U9 = U' ∧ A9 = (a' : Int) := by injection h9' with p1 p2 p3; exact ⟨p1.symm, p2.symm, p3.symm⟩
          obtain ⟨rfl, rfl, rfl⟩ := eR
          have hTW := TT.out.t
          have hz9 : z = z9 := HZ.out.trans ez
          subst hz9
          exact ⟨rfl, ⟨⟨l1, h1, l2, h2, l3, h3, ⟨TT.out.n, TT.out.u⟩, (oQ.grow HB2.out).keep (fun k x y => hTW.keep k (by have := HZ2.out; omega) (by omega) (by omega)), sk.Own.keep (ownS_grow oS HB2.out) (fun k x y => hTW.keep k (by have := HZ2.out; omega) (by omega) (by omega)) hTW.size, ⟨e1, e2, e3, e4, e5, e6⟩, e7, e8, e9⟩, by have := HZ2.out; have := hTW.size; omega⟩, TT.out.v, (Tw.of_below HB2.out).trans (hTW.widen (by omega) (by omega))⟩
        done

  · -- more
    have HL1 : Hid (1 ≤ N.length) := by unfold Hid; omega
    have HG : Hid (noneGo N but = false) := by
      unfold noneGo Hid
      have a1 : decide (N.length = 0) = false := by simpa using (by omega : N.length ≠ 0)
      have a2 : decide (N.length = 1) = false := by simpa using (by omega : N.length ≠ 1)
      rw [a1, a2]; rfl
    have u0 : ((nX : Int) == 0) = false := by simp; omega
    have u1 : ((nX : Int) == 1) = false := by simp; omega
    have HXX : Hid (N.length = nX) := hX.symm
    have u2 : (nX : Int) ≠ 0 := by omega
    clear n2 hX
    · skip

      have hl1w : l1 ≤ w2.heap.size := by
        obtain ⟨g0, -, q0, -, -⟩ := ownS_cell OR2.out.n 0 HL1.out
        have := HZ2.out
        omega
      have HLW : Hid (l1 ≤ w2.heap.size) := hl1w
      clear hl1w
      have kT := fun (_ : Unit) => l8TurnW_any (.int .i64 1) (.slice aQ1 nQ1 kQ1) (.slice aS1 nS1 kS1) (.int .i64 D) ⟨N, U, (A : Int)⟩ (.slice aN1 nN1 kN1) (.slice aU1 nU1 kU1) b l1 h1 w2 OR2.out V2 HLW.out HL1.out HLN.out HUS.out (by dsimp only; omega) (by have := HL1.out; have := HA1.out; dsimp only; omega)
      have KT : Hid _ := kT
      clear kT
      go_upto_region 7 with (first | (go_at_call 153; refine (KT.out ()).mono ?_; rintro e w3 ⟨rfl, t3⟩; clear c0 c1 c2 c3 c4 c5 c6; have T3 : Hid (TuW (.int .i64 1) (.slice aQ1 nQ1 kQ1) (.slice aS1 nS1 kS1) (.int .i64 D) l1 h1 b w2 w3 (.slice aN1 nN1 kN1) (.slice aU1 nU1 kU1) N (turned ⟨N, U, (A : Int)⟩).1 (turned ⟨N, U, (A : Int)⟩).2) := t3; clear t3 V2) | (fail))
      have HV : Hid (ROk (vicR ⟨N, U, (A : Int)⟩ but) ∧ (vicR ⟨N, U, (A : Int)⟩ but).N = N ∧ atN (vicR ⟨N, U, (A : Int)⟩ but) ≠ but ∧ atN (vicR ⟨N, U, (A : Int)⟩ but) ∈ N) := vicR_ok HR.out HG.out
      have h9x := h9.out
      rw [if_neg (by rw [HG.out]; decide), if_neg (by decide : ¬ (1 : Int) = 2)] at h9x
      have H9 : Hid (vicR ⟨N, U, (A : Int)⟩ but = ⟨N9, U9, A9⟩ ∧ atN (vicR ⟨N, U, (A : Int)⟩ but) = z9) := ⟨congrArg (fun x => x.1.R) h9x, congrArg (fun x => x.2) h9x⟩
      clear h9x
      obtain ⟨z3, hz3⟩ := hid_ex ((N[(turned ⟨N, U, (A : Int)⟩).2]?).getD ⟨#[]⟩)
      rw [hz3.out]
      go_loopg [8] 2 (fun f s wr => ∃ (z : ByteArray) (U' : List Bool) (a' : Nat), s = .string z ∧ Hid (z = (N[a']?).getD ⟨#[]⟩) ∧ Hid (ROk ⟨N, U', (a' : Int)⟩) ∧ Hid (tnBut but f ⟨N, U', (a' : Int)⟩ = vicR ⟨N, U, (A : Int)⟩ but) ∧ Hid (TuW (.int .i64 1) (.slice aQ1 nQ1 kQ1) (.slice aS1 nS1 kS1) (.int .i64 D) l1 h1 b w2 wr (.slice aN1 nN1 kN1) (.slice aU1 nU1 kU1) N U' a'))
      case atStart => exact ⟨_, _, _, rfl, hz3.out.symm, (tn_ok HR.out (by have := HL1.out; dsimp only; omega)).1, rfl, T3.out⟩
      case round =>
        obtain ⟨z, U', a', rfl, HZ, HRO, HT, TT⟩ := hrel
        have ha : a' < N.length := by have := HRO.out.a0; have := HRO.out.a1; have := HL1.out; dsimp only at *; omega
        obtain ⟨-, c0, c1, c2, c3, c4, c5, c6⟩ : True ∧ _ := ⟨trivial, cells7c TT.out.v⟩
        by_cases hbz : z = but
        · subst hbz
          have hzz : (z.toList == z.toList) = true := by simp
          have hg : ∃ f, gk = f + 1 := by
            cases gk with
            | zero => exact absurd ((congrArg atN HT.out).symm.trans HZ.out.symm) HV.out.2.2.1
            | succ f => exact ⟨f, rfl⟩
          obtain ⟨f, hgf⟩ := hg
          have HGF : Hid (gk = f + 1) := hgf
          have hT1 := HT.out
          rw [hgf] at hT1
          have hstep : tnBut z (f + 1) ⟨N, U', (a' : Int)⟩ = tnBut z f (tn (nx ⟨N, U', (a' : Int)⟩)) := by
            have hat : atN ⟨N, U', (a' : Int)⟩ = z := HZ.out.symm
            simp only [tnBut, if_pos hat]
          rw [hstep] at hT1
          obtain ⟨a2, ha2⟩ := hid_ex ((a' + 1) % N.length)
          have eNX : nx ⟨N, U', (a' : Int)⟩ = ⟨N, U', (a2 : Int)⟩ := by
            show (⟨N, U', ((a' : Int) + 1) % (N.length : Int)⟩ : Rg) = _
            rw [← ha2.out]; simp
          have HN2 : Hid (ROk ⟨N, U', (a2 : Int)⟩) := by
            rw [← eNX]; exact nx_ok HRO.out (by have := HL1.out; dsimp only; omega)
          rw [eNX] at hT1
          have HT1 : Hid (tnBut z f (tn ⟨N, U', (a2 : Int)⟩) = vicR ⟨N, U, (A : Int)⟩ z) := hT1
          have HAL : Hid (a' ≤ 1000000) := by have := HLN.out; unfold Hid; omega
          have E2 : Hid ((a' + 1) % N.length = a2) := ha2
          rw [HXX.out] at E2
          have hlt2 : a2 < N.length := by have := HL1.out; rw [← ha2.out]; exact Nat.mod_lt _ (by omega)
          have k2 := fun w8 (t8 : TuW (.int .i64 1) (.slice aQ1 nQ1 kQ1) (.slice aS1 nS1 kS1) (.int .i64 D) l1 h1 b w2 w8 (.slice aN1 nN1 kN1) (.slice aU1 nU1 kU1) N U' a2) => l8TurnW_any (.int .i64 1) (.slice aQ1 nQ1 kQ1) (.slice aS1 nS1 kS1) (.int .i64 D) ⟨N, U', (a2 : Int)⟩ (.slice aN1 nN1 kN1) (.slice aU1 nU1 kU1) b l1 h1 w8 ⟨t8.n, t8.u⟩ t8.v (Nat.le_trans HLW.out t8.t.size) HL1.out HLN.out HN2.out.us (by dsimp only; omega) (by dsimp only; omega)
          have K2 : Hid _ := k2
          clear k2 hstep hT1 eNX hgf hlt2
          go_wp2_with (first | (refine wpList_store_cc rfl 2 _ _ rfl b 3 _ rfl rfl rfl szI3 TT.out.v (by simp) ?_; intro w8 hO8 V8x; have V8 := put3 (a2 := a2) V8x (by first | exact hand_mod HAL.out E2.out | (rw [← ha2.out, HXX.out]; simp; done)); have T8 : Hid _ := TT.out.put hO8 V8; clear V8x; clear c0 c1 c2 c3 c4 c5 c6; obtain ⟨c0, c1, c2, c3, c4, c5, c6⟩ := cells7c V8) | (go_at_call 153; refine (K2.out _ T8.out).mono ?_; rintro e w9 ⟨rfl, t9⟩; have T9 : Hid _ := T8.out.then t9; clear t9) | (fail))
          go_show
          go_roundg f
          case measure => have := HGF.out; omega
          case rel => exact ⟨_, _, _, rfl, rfl, (tn_ok HN2.out (by have := HL1.out; dsimp only; omega)).1, HT1.out, T9.out⟩
        · have hzz : (z.toList == but.toList) = false := by
            simp only [beq_eq_false_iff_ne, ne_eq]
            exact fun e => hbz (str_eq e)
          have hT2 := tnBut_stop (r := ⟨N, U', (a' : Int)⟩) (fun e => hbz (HZ.out.trans e)) gk
          have hT3 := hT2.symm.trans HT.out
          have HT4 : Hid (vicR ⟨N, U, (A : Int)⟩ but = ⟨N, U', (a' : Int)⟩) := hT3.symm
          clear hT2 hT3 hbz
          go_wp2
          go_ret
          have h4 := HT4.out
          have h9' := H9.out.1
          rw [h4] at h9'
          have ez := H9.out.2
          rw [h4] at ez
          have eR : N9 = N ∧ U9 = U' ∧ A9 = (a' : Int) := by injection h9' with p1 p2 p3; exact ⟨p1.symm, p2.symm, p3.symm⟩
          obtain ⟨rfl, rfl, rfl⟩ := eR
          have hTW := TT.out.t
          have hz9 : z = z9 := HZ.out.trans ez
          subst hz9
          exact ⟨rfl, ⟨⟨l1, h1, l2, h2, l3, h3, ⟨TT.out.n, TT.out.u⟩, (oQ.grow HB2.out).keep (fun k x y => hTW.keep k (by have := HZ2.out; omega) (by omega) (by omega)), sk.Own.keep (ownS_grow oS HB2.out) (fun k x y => hTW.keep k (by have := HZ2.out; omega) (by omega) (by omega)) hTW.size, ⟨e1, e2, e3, e4, e5, e6⟩, e7, e8, e9⟩, by have := HZ2.out; have := hTW.size; omega⟩, TT.out.v, (Tw.of_below HB2.out).trans (hTW.widen (by omega) (by omega))⟩
        done

set_option maxRecDepth 100000 in
set_option maxHeartbeats 4000000 in
theorem l16VictimQ (c : Ch) (hk : c.K = 2) (hc : chB c = true) (but : ByteArray) (seed : Int) (hs0 : 0 ≤ seed) (hs1 : seed ≤ 1000000) (vN vU vQ vS : Value) (b lo hi : Nat) (w : World) (o : OwnC w lo hi vN vU vQ vS c) (hlo : lo ≤ w.heap.size) (hb : b < lo ∨ hi ≤ b) (V : VBlk w b 36 [.int .i64 c.K, vN, vU, .int .i64 c.R.A, vQ, vS, .int .i64 c.D]) :
    Calls Try.prog 92 #[.pointer (some ⟨b, 0, none⟩), .string but, .int .i64 seed] w fun e w' => e = .returned (.string (vcS c but seed)) ∧ OwnC w' lo hi vN vU vQ vS (vcC c but seed) ∧ VBlk w' b 36 [.int .i64 c.K, vN, vU, .int .i64 (vcC c but seed).R.A, vQ, vS, .int .i64 c.D] ∧ Tw lo hi b w w' := by
  obtain ⟨hsk, hr, hq, hway⟩ := chB_parts hc
  have hl := chB_len hc
  clear hc hway
  obtain ⟨K, ⟨N, U, A⟩, Q, S, D⟩ := c
  dsimp only at hsk hr hq hl hk
  subst hk
  have hsn : ∀ s ∈ N, s.size ≤ 9223372036854775807 := names_sz ⟨hr.nm, hr.nd, hr.le⟩
  have R : Hid (RdC w vN vU vQ vS ⟨2, ⟨N, U, A⟩, Q, S, D⟩) := o.rd hsn (names_sz hq)
  obtain ⟨⟨aN1, nN1, kN1, rfl⟩, ⟨aU1, nU1, kU1, rfl⟩, ⟨aQ1, nQ1, kQ1, rfl⟩, ⟨aS1, nS1, kS1, rfl⟩⟩ := o.forms
  have OC : Hid _ := o
  obtain ⟨⟨l1, h1, l2, h2, l3, h3, oR, oQ, oS, ⟨e1, e2, e3, e4, e5, e6⟩, e7, e8, e9⟩, sz⟩ := o
  dsimp only at oR oQ oS V
  obtain ⟨c0, c1, c2, c3, c4, c5, c6⟩ := cells7c V
  have hbl := V.lt
  have kN := fun (_ : Unit) => l16Names_any ⟨2, ⟨N, U, A⟩, Q, S, D⟩ _ _ _ _ w R.out hl
  have KN : Hid _ := kN
  have OQ : Hid (Own encS w l2 h2 (.slice aQ1 nQ1 kQ1) Q) := oQ
  have HLQ : Hid (Q.length ≤ 1000000) := hl.1
  have HQ : Hid (NOk Q) := hq
  have HSC : Hid (∀ s ∈ cutR Q but, s.size ≤ 9223372036854775807) := fun s hs => by
    rw [cut_is hq] at hs
    exact names_sz hq s ((others_sub Q but).subset hs)
  clear kN hsk hq hl hsn hr oQ
  have eN : namesH ⟨2, ⟨N, U, A⟩, Q⟩ = Q := by unfold namesH; rw [if_pos rfl]
  unfold vcS vcC vicH
  dsimp only
  rw [eN]
  have HN : Hid (namesH ⟨2, ⟨N, U, A⟩, Q⟩ = Q) := eN
  clear eN
  obtain ⟨⟨⟨K9, ⟨N9, U9, A9⟩, Q9⟩, z9⟩, h9⟩ := hid_ex (if noneGo Q but = true then ((⟨2, ⟨N, U, A⟩, Q⟩ : Hc), (⟨#[]⟩ : ByteArray)) else if (2 : Int) = 2 then (⟨2, ⟨N, U, A⟩, Q⟩, saS (cutR Q but) seed 5) else (⟨2, vicR ⟨N, U, A⟩ but, Q⟩, atN (vicR ⟨N, U, A⟩ but)))
  rw [h9.out]
  dsimp only
  go_enter Try.func92, Try.ntmps92
  go_upto_region 2 with (first | (go_at_call 89; refine (KN.out ()).mono ?_; rintro e w2 ⟨vX, rfl, oX, hB2⟩; dsimp only at oX; rw [HN.out] at oX; obtain ⟨aX, nX, kX, rfl⟩ := oX.slice; have V2 := vblk_grow V hB2; clear c0 c1 c2 c3 c4 c5 c6; obtain ⟨c0, c1, c2, c3, c4, c5, c6⟩ := cells7c V2; have hz2 := hB2.size) | (fail))
  have hX := oX.rd.cap.1
  have HZ2 : Hid (w.heap.size ≤ w2.heap.size) := hz2
  have HB2 : Hid (Below w.heap.size w w2) := hB2
  clear hB2
  rcases Nat.lt_trichotomy Q.length 1 with n0 | n1 | n2
  · -- none
    have nl : Q.length = 0 := by omega
    have nX0 : nX = 0 := by omega
    subst nX0
    have hq9 := h9.out
    rw [if_pos (noneGo_iff.2 (.inl (List.length_eq_zero_iff.1 nl)))] at hq9
    cases hq9
    clear nl n0 hX
    go_wp2
    go_ret
    exact ⟨rfl, OC.out.grow HB2.out, V2, Tw.of_below HB2.out⟩
  · -- one
    have nX0 : nX = 1 := by omega
    subst nX0
    obtain ⟨gX, eX, -, cX0, -⟩ := ownS_cell oX 0 (by omega)
    subst eX
    have hx : ∃ x, Q = [x] := by
      obtain ⟨l, hl⟩ : ∃ l, l = Q := ⟨Q, rfl⟩
      match Q, n1 with
      | [y], _ => exact ⟨y, rfl⟩
    obtain ⟨x, HX1⟩ := hx
    have cX1 : w2.cell? ⟨gX, 0, none⟩ = some (.string x) := by
      rw [cX0]
      simp [HX1]
    clear cX0
    have HX2 : Hid (Q = [x]) := HX1
    clear HX1
    clear hX n1
    by_cases hbx : x = but
    · have hq9 := h9.out
      rw [if_pos (noneGo_iff.2 (.inr (by rw [HX2.out, hbx])))] at hq9
      cases hq9
      subst hbx
      have hzz : (x.toList == x.toList) = true := by simp
      go_wp2
      go_ret
      exact ⟨rfl, OC.out.grow HB2.out, V2, Tw.of_below HB2.out⟩
    · have hb1 : (x.toList == but.toList) = false := by
        simp only [beq_eq_false_iff_ne, ne_eq]
        exact fun e => hbx (str_eq e)
      have HG : Hid (noneGo Q but = false) := by
        show noneGo Q but = false
        rw [HX2.out]; unfold noneGo; simp [hbx]
      clear hbx
      have h9x := h9.out
      rw [if_neg (show ¬ (noneGo Q but = true) by rw [HG.out]; decide)] at h9x
      have h9y : ((⟨2, ⟨N, U, A⟩, Q⟩ : Hc), saS (cutR Q but) seed 5) = ((⟨K9, ⟨N9, U9, A9⟩, Q9⟩ : Hc), z9) := by
        rw [← h9x]; first | rfl | simp
      clear h9x
      cases h9y
      clear h9
      go_wp2_with (first | (go_at_call 148; refine (l9Without_any Q but _ _ (OQ.out.grow HB2.out).rd HLQ.out).mono ?_; rintro e w4 ⟨v4, rfl, o4, hB4⟩; obtain ⟨a4, n4, k4, rfl⟩ := o4.slice; have V4 := vblk_grow V2 hB4) | (go_at_call 152; refine (specSampled_any _ seed 5 _ _ o4.rd HSC.out).mono ?_; rintro e wq ⟨rfl, hq⟩; subst wq) | (fail))
      go_ret
      exact ⟨rfl, (OC.out.grow HB2.out).grow hB4, V4, (Tw.of_below HB2.out).trans (Tw.of_below hB4)⟩
  · -- more
    have HG : Hid (noneGo Q but = false) := by
      unfold noneGo Hid
      have a1 : decide (Q.length = 0) = false := by simpa using (by omega : Q.length ≠ 0)
      have a2 : decide (Q.length = 1) = false := by simpa using (by omega : Q.length ≠ 1)
      rw [a1, a2]; rfl
    have u0 : ((nX : Int) == 0) = false := by simp; omega
    have u1 : ((nX : Int) == 1) = false := by simp; omega
    clear n2 hX
    · skip
      have h9x := h9.out
      rw [if_neg (show ¬ (noneGo Q but = true) by rw [HG.out]; decide)] at h9x
      have h9y : ((⟨2, ⟨N, U, A⟩, Q⟩ : Hc), saS (cutR Q but) seed 5) = ((⟨K9, ⟨N9, U9, A9⟩, Q9⟩ : Hc), z9) := by
        rw [← h9x]; first | rfl | simp
      clear h9x
      cases h9y
      clear h9
      go_wp2_with (first | (go_at_call 148; refine (l9Without_any Q but _ _ (OQ.out.grow HB2.out).rd HLQ.out).mono ?_; rintro e w4 ⟨v4, rfl, o4, hB4⟩; obtain ⟨a4, n4, k4, rfl⟩ := o4.slice; have V4 := vblk_grow V2 hB4) | (go_at_call 152; refine (specSampled_any _ seed 5 _ _ o4.rd HSC.out).mono ?_; rintro e wq ⟨rfl, hq⟩; subst wq) | (fail))
      go_ret
      exact ⟨rfl, (OC.out.grow HB2.out).grow hB4, V4, (Tw.of_below HB2.out).trans (Tw.of_below hB4)⟩
set_option maxHeartbeats 4000000 in
theorem l16Victim_any (c : Ch) (hc : chB c = true) (but : ByteArray) (seed : Int) (hs0 : 0 ≤ seed) (hs1 : seed ≤ 1000000) (vN vU vQ vS : Value) (b lo hi : Nat) (w : World) (o : OwnC w lo hi vN vU vQ vS c) (hlo : lo ≤ w.heap.size) (hb : b < lo ∨ hi ≤ b) (V : VBlk w b 36 [.int .i64 c.K, vN, vU, .int .i64 c.R.A, vQ, vS, .int .i64 c.D]) :
    Calls Try.prog 92 #[.pointer (some ⟨b, 0, none⟩), .string but, .int .i64 seed] w fun e w' => e = .returned (.string (vcS c but seed)) ∧ OwnC w' lo hi vN vU vQ vS (vcC c but seed) ∧ VBlk w' b 36 [.int .i64 c.K, vN, vU, .int .i64 (vcC c but seed).R.A, vQ, vS, .int .i64 c.D] ∧ Tw lo hi b w w' := by
  obtain ⟨-, -, -, hway⟩ := chB_parts hc
  rcases hway with ⟨k1, -⟩ | ⟨k2, -⟩
  · exact l16VictimK c k1 hc but seed vN vU vQ vS b lo hi w o hlo hb V
  · exact l16VictimQ c k2 hc but seed hs0 hs1 vN vU vQ vS b lo hi w o hlo hb V
end Go.Proofs.Ytapchjkiiifhdaa.rg
/- Contracts: who must go, the model's whole. -/
namespace Go.Proofs.Ytapchjkiiifhdaa.rg
open Go.ChangeShapes Go.WideShapes Go.ChangeAt Go.RowKit
open Go.Deep Go.Joins
open Go.Proofs.Ytapchjkiiifhdaa.ce Go.Proofs.Ytapchjkiiifhdaa.ro
set_option linter.unusedVariables false
set_option linter.unusedSimpArgs false

/-- what Victim tells: the choice and the name -/
def vcX (c : Ch) (but : ByteArray) (seed : Int) : Ch × ByteArray := if (chB c && (decide (0 ≤ seed) && decide (seed ≤ 1000000))) = true then (vcC c but seed, vcS c but seed) else (Ch.zero, ⟨#[]⟩)
def PostV (c : Ch) (z : ByteArray) (w : World) (e : Ending) (w' : World) : Prop := ∃ vN vU vQ vS, e = .returned (.tuple #[.agg #[.int .i64 c.K, vN, vU, .int .i64 c.R.A, vQ, vS, .int .i64 c.D], .string z]) ∧ OwnC w' w.heap.size w'.heap.size vN vU vQ vS c ∧ Below w.heap.size w w'
theorem postV_no {w w' : World} (hB : Below w.heap.size w w') : PostV Ch.zero ⟨#[]⟩ w (.returned (.tuple #[.agg #[.int .i64 0, .slice none 0 0, .slice none 0 0, .int .i64 0, .slice none 0 0, .slice none 0 0, .int .i64 0], .string ⟨#[]⟩])) w' := ⟨_, _, _, _, rfl, ownC_zero _ _ _ (Nat.le_refl _) hB.size, hB⟩
theorem vcX_no1 {c : Ch} {but : ByteArray} {seed : Int} (h : chB c = false) : vcX c but seed = (Ch.zero, ⟨#[]⟩) := by unfold vcX; rw [h]; rfl
theorem vcX_no2 {c : Ch} {but : ByteArray} {seed : Int} (h : (decide (0 ≤ seed) && decide (seed ≤ 1000000)) = false) : vcX c but seed = (Ch.zero, ⟨#[]⟩) := by unfold vcX; rw [h, Bool.and_false]; rfl
theorem vcX_yes {c : Ch} {but : ByteArray} {seed : Int} (h : chB c = true) (h2 : (decide (0 ≤ seed) && decide (seed ≤ 1000000)) = true) : vcX c but seed = (vcC c but seed, vcS c but seed) := by unfold vcX; rw [h, h2]; rfl
set_option maxRecDepth 100000 in
set_option maxHeartbeats 4000000 in
theorem specVictim_any (c : Ch) (s : ByteArray) (seed : Int) (vN vU vQ vS : Value) (w : World) (h : RdC w vN vU vQ vS c) :
    Calls Try.prog 32 #[.agg #[.int .i64 c.K, vN, vU, .int .i64 c.R.A, vQ, vS, .int .i64 c.D], .string s, .int .i64 seed] w fun e w' => PostV (vcX c s seed).1 (vcX c s seed).2 w e w' := by
  obtain ⟨K, ⟨N, U, A⟩, Q, S, D⟩ := c
  obtain ⟨aN, cN, rfl⟩ := h.r.n.form
  obtain ⟨aU, cU, rfl⟩ := h.r.u.form
  obtain ⟨aQ, cQ, rfl⟩ := h.q.form
  obtain ⟨aS, cS, rfl⟩ := sk_form h.s

  have R : Hid (RdC w (.slice aN N.length cN) (.slice aU U.length cU) (.slice aQ Q.length cQ) (.slice aS S.length cS) ⟨K, ⟨N, U, A⟩, Q, S, D⟩) := h
  clear h
  have m1 : Hid True := trivial
  have m2 : Hid True := trivial
  obtain ⟨y, hy⟩ := hid_ex (chB ⟨K, ⟨N, U, A⟩, Q, S, D⟩)
  cases y with
  | false =>
    rw [vcX_no1 hy.out]
    dsimp only
    go_enter Try.func32, Try.ntmps32
    go_wp2_with (first | (clear m1; refine wpList_box_v rfl 36 _ rfl [.int .i64 K, .slice aN N.length cN, .slice aU U.length cU, .int .i64 A, .slice aQ Q.length cQ, .slice aS S.length cS, .int .i64 D] rfl ?_; intro b1 w1 hb1 hw1 hB1 V1; obtain ⟨c0, c1, c2, c3, c4, c5, c6⟩ := cells7c V1; have hz1 := hB1.size) | (clear m2; refine wpList_alloc_v rfl 36 rfl _ zeroCh ?_; intro b2 w2 hb2 hw2 hB2 V2; replace V1 := vblk_grow V1 hB2; clear c0 c1 c2 c3 c4 c5 c6; obtain ⟨c0, c1, c2, c3, c4, c5, c6⟩ := cells7c V1; have hB12 := hB1.trans (hB2.mono hz1); have hz2 := hB12.size) | (go_at_call 15; refine (specChoiceOk_any ⟨K, ⟨N, U, A⟩, Q, S, D⟩ _ _ _ _ _ (R.out.grow hB12) false hy).mono ?_; rintro e w3 ⟨rfl, hB3⟩; replace V2 := vblk_grow V2 hB3; have hB13 := hB12.trans (hB3.mono hz2); have hz3 := hB13.size) | (refine wpList_store_v rfl 36 _ _ rfl b2 [.int .i64 0, .slice none 0 0, .slice none 0 0, .int .i64 0, .slice none 0 0, .slice none 0 0, .int .i64 0] rfl rfl sizeCh V2 rfl (by simp [Value.oneCell']) ?_; intro w4 hO4 V4; have hB14 := hB13.trans (hO4.2.2 _ (by omega))) | (fail))
    exact row_ct (x := .string ⟨#[]⟩) rfl rfl rfl V4 Try.underlying36 sizeCh rfl (postV_no hB14)
  | true =>
    obtain ⟨i1, hi1⟩ := hid_ex (decide (0 ≤ seed) && decide (seed ≤ 1000000))
    cases i1 with
    | false =>
      have HI1 : Hid ((decide (0 ≤ seed) && decide (seed ≤ 1000000)) = false) := hi1
      rw [vcX_no2 hi1.out]
      dsimp only
      go_enter Try.func32, Try.ntmps32
      go_wp2_with (first | (clear m1; refine wpList_box_v rfl 36 _ rfl [.int .i64 K, .slice aN N.length cN, .slice aU U.length cU, .int .i64 A, .slice aQ Q.length cQ, .slice aS S.length cS, .int .i64 D] rfl ?_; intro b1 w1 hb1 hw1 hB1 V1; obtain ⟨c0, c1, c2, c3, c4, c5, c6⟩ := cells7c V1; have hz1 := hB1.size) | (clear m2; refine wpList_alloc_v rfl 36 rfl _ zeroCh ?_; intro b2 w2 hb2 hw2 hB2 V2; replace V1 := vblk_grow V1 hB2; clear c0 c1 c2 c3 c4 c5 c6; obtain ⟨c0, c1, c2, c3, c4, c5, c6⟩ := cells7c V1; have hB12 := hB1.trans (hB2.mono hz1); have hz2 := hB12.size) | (go_at_call 15; refine (specChoiceOk_any ⟨K, ⟨N, U, A⟩, Q, S, D⟩ _ _ _ _ _ (R.out.grow hB12) true hy).mono ?_; rintro e w3 ⟨rfl, hB3⟩; replace V2 := vblk_grow V2 hB3; have hB13 := hB12.trans (hB3.mono hz2); have hz3 := hB13.size) | (go_at_call 91; refine (in_is _ _ _ false HI1.out _).mono ?_; rintro e wq ⟨rfl, hq⟩; subst wq) | (refine wpList_store_v rfl 36 _ _ rfl b2 [.int .i64 0, .slice none 0 0, .slice none 0 0, .int .i64 0, .slice none 0 0, .slice none 0 0, .int .i64 0] rfl rfl sizeCh V2 rfl (by simp [Value.oneCell']) ?_; intro w4 hO4 V4; have hB14 := hB13.trans (hO4.2.2 _ (by omega))) | (fail))
      exact row_ct (x := .string ⟨#[]⟩) rfl rfl rfl V4 Try.underlying36 sizeCh rfl (postV_no hB14)
    | true =>
      rw [vcX_yes hy.out hi1.out]
      have hsm := smC_of hy.out
      have HSM : Hid (SmC ⟨K, ⟨N, U, A⟩, Q, S, D⟩) := hsm
      clear hsm
      have s0 : 0 ≤ seed ∧ seed ≤ 1000000 := by have := hi1.out; simpa using this
      obtain ⟨z2, hz2⟩ := hid_ex (vcS ⟨K, ⟨N, U, A⟩, Q, S, D⟩ s seed)
      obtain ⟨⟨K2, ⟨N2, U2, A2⟩, Q2, S2, D2⟩, hf⟩ := hid_ex (vcC ⟨K, ⟨N, U, A⟩, Q, S, D⟩ s seed)
      have kk : K2 = K ∧ D2 = D := by have h := hf.out; exact ⟨(congrArg Ch.K h).symm, (congrArg Ch.D h).symm⟩
      have kF := fun (vN' vU' vQ' vS' : Value) b lo hi w' o hlo hb V => l16Victim_any ⟨K, ⟨N, U, A⟩, Q, S, D⟩ hy.out s seed s0.1 s0.2 vN' vU' vQ' vS' b lo hi w' o hlo hb V
      rw [hf.out, hz2.out] at kF ⊢
      dsimp only
      obtain ⟨rfl, rfl⟩ := kk
      have KF : Hid _ := kF
      clear kF hf hz2 s0
      have m3 : Hid True := trivial
      have m4 : Hid True := trivial
      go_enter Try.func32, Try.ntmps32
      go_wp2_with (first | (clear m1; refine wpList_box_v rfl 36 _ rfl [.int .i64 K2, .slice aN N.length cN, .slice aU U.length cU, .int .i64 A, .slice aQ Q.length cQ, .slice aS S.length cS, .int .i64 D2] rfl ?_; intro b1 w1 hb1 hw1 hB1 V1; obtain ⟨c0, c1, c2, c3, c4, c5, c6⟩ := cells7c V1; have hz1 := hB1.size) | (clear m2; refine wpList_alloc_v rfl 36 rfl _ zeroCh ?_; intro b2 w2 hb2 hw2 hB2 V2; replace V1 := vblk_grow V1 hB2; clear c0 c1 c2 c3 c4 c5 c6; obtain ⟨c0, c1, c2, c3, c4, c5, c6⟩ := cells7c V1; have hB12 := hB1.trans (hB2.mono hz1); have hz2 := hB12.size) | (go_at_call 15; refine (specChoiceOk_any ⟨K2, ⟨N, U, A⟩, Q, S, D2⟩ _ _ _ _ _ (R.out.grow hB12) true hy).mono ?_; rintro e w3 ⟨rfl, hB3⟩; replace V1 := vblk_grow V1 hB3; replace V2 := vblk_grow V2 hB3; clear c0 c1 c2 c3 c4 c5 c6; obtain ⟨c0, c1, c2, c3, c4, c5, c6⟩ := cells7c V1; have hB13 := hB12.trans (hB3.mono hz2); have hz3 := hB13.size; have hz23 := hB3.size) | (go_at_call 91; refine (in_is _ _ _ true hi1.out _).mono ?_; rintro e wq ⟨rfl, hq⟩; subst wq) | (go_at_call 80; refine (l16Copy_any ⟨K2, ⟨N, U, A⟩, Q, S, D2⟩ HSM.out _ _ _ _ _ (R.out.grow hB13)).mono ?_; rintro e w4 ⟨vN4, vU4, vQ4, vS4, rfl, o4, hB4⟩; replace V2 := vblk_grow V2 hB4; obtain ⟨⟨aN4, nN4, kN4, rfl⟩, ⟨aU4, nU4, kU4, rfl⟩, ⟨aQ4, nQ4, kQ4, rfl⟩, ⟨aS4, nS4, kS4, rfl⟩⟩ := o4.forms; have hB14 := hB13.trans (hB4.mono hz3); have hz4 := hB14.size; have hz34 := hB4.size) | (clear m3; refine wpList_alloc_v rfl 36 rfl _ zeroCh ?_; intro b5 w5 hb5 hw5 hB5 V5; replace V2 := vblk_grow V2 hB5; replace o4 := o4.grow hB5; have hB15 := hB14.trans (hB5.mono hz4); have hz5 := hB15.size; have hz45 := hB5.size) | (clear m4; refine wpList_store_v rfl 36 _ _ rfl b5 [.int .i64 K2, .slice aN4 nN4 kN4, .slice aU4 nU4 kU4, .int .i64 A, .slice aQ4 nQ4 kQ4, .slice aS4 nS4 kS4, .int .i64 D2] rfl rfl sizeCh V5 rfl (by simp [Value.oneCell']) ?_; intro w6 hO6 V6; replace V2 := vblk_only V2 hO6 (by omega); replace o4 := o4.off hO6 (by omega); have hB16 := hB15.trans (hO6.2.2 _ (by omega)); have hz6 := hB16.size; have hz56 := Nat.le_of_eq hO6.1.symm; have hy56 := Nat.le_of_eq hO6.1) | (go_at_call 92; refine (KF.out _ _ _ _ b5 _ _ _ o4 (by omega) (by omega) V6).mono ?_; rintro e w7 ⟨rfl, o7, V7, hF7⟩; replace V2 := V2.of (hF7.keep b2 V2.lt (by omega) (by omega)); have hB17 := hB16.trans (hF7.below (by omega) (by omega) hz6); have hz7 := hB17.size; have hz67 := hF7.size; obtain ⟨d0, d1, d2, d3, d4, d5, d6⟩ := cells7c V7) | (refine wpList_store_v rfl 36 _ _ rfl b2 [.int .i64 K2, .slice aN4 nN4 kN4, .slice aU4 nU4 kU4, .int .i64 A2, .slice aQ4 nQ4 kQ4, .slice aS4 nS4 kS4, .int .i64 D2] rfl rfl sizeCh V2 rfl (by simp [Value.oneCell']) ?_; intro w8 hO8 V8; have hB18 := hB17.trans (hO8.2.2 _ (by omega))) | (fail))
      exact row_ct (x := .string z2) rfl rfl rfl V8 Try.underlying36 sizeCh rfl ⟨_, _, _, _, rfl, (o7.off hO8 (by omega)).wide (by omega), hB18⟩
end Go.Proofs.Ytapchjkiiifhdaa.rg
