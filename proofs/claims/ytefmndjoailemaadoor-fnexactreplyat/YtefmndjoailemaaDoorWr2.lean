/- Contracts of the program: the words of a line, taken one by one. -/
import Derived.Test.YtefmndjoailemaaDoorWr1
import Derived.Test.YtefmndjoailemaaDoorCy3
import Derived.Test.YtefmndjoailemaaDoorRi1
import Derived.BigQuiet
namespace Go.Proofs.YtefmndjoailemaaDoor.cm
open Go.ChangeShapes Go.WideShapes Go.ChangeAt Go.RowKit
open Go.Proofs.YtefmndjoailemaaDoor.ce Go.Proofs.YtefmndjoailemaaDoor.ro Go.Proofs.YtefmndjoailemaaDoor.rg
set_option linter.unusedVariables false

/-- a reader in its variable b: the words that are left (they were there before it), and is something wrong -/
structure Wd (w0 w : World) (b : Nat) (L : List ByteArray) (x : Bool) : Prop where
  v : ∃ a n k, VBlk w b 82 [.slice a n k, .bool x] ∧ Rd encS w0 (.slice a n k) L
  bl : Below w0.heap.size w0 w
  lo : w0.heap.size ≤ b
theorem Wd.keep {w0 w w' : World} {b : Nat} {L : List ByteArray} {x : Bool} (h : Wd w0 w b L x) (hb : Below w0.heap.size w w') (e : w'.heap[b]? = w.heap[b]?) : Wd w0 w' b L x := by
  obtain ⟨a, n, k, h1, h2⟩ := h.v
  exact ⟨⟨a, n, k, h1.of e, h2⟩, h.bl.trans hb, h.lo⟩
theorem Wd.lt {w0 w : World} {b : Nat} {L : List ByteArray} {x : Bool} (h : Wd w0 w b L x) : b < w.heap.size := by
  obtain ⟨a, n, k, h1, h2⟩ := h.v
  exact h1.lt
theorem Wd.grow {w0 w w' : World} {b : Nat} {L : List ByteArray} {x : Bool} (h : Wd w0 w b L x) (hb : Below w.heap.size w w') : Wd w0 w' b L x := h.keep (hb.mono h.bl.size) (hb.block b h.lt)
def hdB : List ByteArray → ByteArray
  | [] => emp
  | a :: _ => a
set_option maxRecDepth 10000 in
set_option maxHeartbeats 1000000 in
theorem word_any (w0 w : World) (b : Nat) (L : List ByteArray) (x : Bool) (h : Wd w0 w b L x) :
    Calls Tryd.prog 67 #[.pointer (some ⟨b, 0, none⟩)] w fun e w' => e = .returned (.string (hdB L)) ∧ Wd w0 w' b L.tail (x || L.isEmpty) ∧ Only b w w' := by
  have HH : Hid (Wd w0 w b L x) := h
  obtain ⟨a, n, k, V, r⟩ := h.v
  have VV : Hid (VBlk w b 82 [.slice a n k, .bool x]) := V
  have c0 := V.cell 0 (by simp)
  have c1 := V.cell 1 (by simp)
  have f0 := V.frozen 0
  have f1 := V.frozen 1
  have hc := r.cap
  have RR : Hid (Rd encS w0 (.slice a n k) L) := r
  clear r h V
  cases L with
  | nil =>
    have hn : n = 0 := by have := hc.1; simpa using this
    clear hc
    subst hn
    go_enter Tryd.func67, Tryd.ntmps67
    go_wp2
    go_ret
    refine ⟨rfl, ⟨⟨a, 0, k, ?_, RR.out⟩, HH.out.bl.trans ((only_set w b 1 _).2.2 _ HH.out.lo), HH.out.lo⟩, only_set w b 1 _⟩
    have := VBlk.set (w := w) (b := b) (t := 82) (vs := [.slice a 0 k, .bool x]) VV.out 1 (.bool true)
    simpa using this
  | cons y L2 =>
    obtain ⟨g, off, rfl, hg, d0⟩ := rdS_cell (RR.out.grow HH.out.bl) 0 (by simp)
    have dd : w.cell? ⟨g, off, none⟩ = some (.string y) := by simpa using d0
    have hn : n = L2.length + 1 := by have := hc.1; simpa using this
    have hnk : L2.length + 1 ≤ k := by rw [← hn]; exact hc.2.1
    clear hc
    subst hn
    have hnz : (((L2.length + 1 : Nat) : Int) == 0) = false := by simp; omega
    have hn1 : (0 : Int) < ((L2.length + 1 : Nat) : Int) := by omega
    have hn2 : (1 : Int) ≤ ((L2.length + 1 : Nat) : Int) := by omega
    have hnz' : ((L2.length : Int) + 1 == 0) = false := by simp; omega
    rcases RR.out.rest 1 (by simp) with ⟨hlt, R2⟩ | ⟨hk, hnm, he, R2⟩
    · have hkk : ¬ k = 1 := by omega
      go_enter Tryd.func67, Tryd.ntmps67
      go_wp2
      go_ret
      refine ⟨rfl, ⟨⟨some ⟨g, off + 1, none⟩, L2.length, k - 1, ?_, R2.out⟩, HH.out.bl.trans ((only_set w b 0 _).2.2 _ HH.out.lo), HH.out.lo⟩, only_set w b 0 _⟩
      have := VBlk.set (w := w) (b := b) (t := 82) (vs := [.slice (some ⟨g, off, none⟩) (L2.length + 1) k, .bool x]) VV.out 0 (.slice (some ⟨g, off + 1, none⟩) L2.length (k - 1))
      simpa using this
    · obtain rfl : L2 = [] := List.eq_nil_of_length_eq_zero (by omega)
      obtain rfl : k = 1 := hk.symm
      go_enter Tryd.func67, Tryd.ntmps67
      go_wp2
      go_ret
      refine ⟨rfl, ⟨⟨some ⟨g, off, none⟩, 0, 0, ?_, by simpa using R2.out⟩, HH.out.bl.trans ((only_set w b 0 _).2.2 _ HH.out.lo), HH.out.lo⟩, only_set w b 0 _⟩
      have := VBlk.set (w := w) (b := b) (t := 82) (vs := [.slice (some ⟨g, off, none⟩) 1 1, .bool x]) VV.out 0 (.slice (some ⟨g, off, none⟩) 0 0)
      simpa using this
/-- only the reader's variable changes, besides what is new -/
structure Ob (b : Nat) (w w' : World) : Prop where
  size : w.heap.size ≤ w'.heap.size
  keep : ∀ k, k < w.heap.size → k ≠ b → w'.heap[k]? = w.heap[k]?
  low : ∀ B, B ≤ b → B ≤ w.heap.size → Below B w w'
theorem Ob.only {b : Nat} {w w' : World} (h : Only b w w') : Ob b w w' := ⟨Nat.le_of_eq h.1.symm, fun k _ hk => h.2.1 k hk, fun B hB _ => h.2.2 B hB⟩
theorem Ob.refl (b : Nat) (w : World) : Ob b w w := ⟨Nat.le_refl _, fun _ _ _ => rfl, fun _ _ _ => Below.refl _ _⟩
theorem Ob.below {b : Nat} {w w' : World} (h : Below w.heap.size w w') : Ob b w w' := ⟨h.size, fun k hk _ => h.block k hk, fun B _ hB => h.mono hB⟩
theorem Ob.trans {b : Nat} {x y z : World} (h : Ob b x y) (k : Ob b y z) : Ob b x z := ⟨Nat.le_trans h.size k.size, fun j hj hb => (k.keep j (Nat.lt_of_lt_of_le hj h.size) hb).trans (h.keep j hj hb), fun B h1 h2 => (h.low B h1 h2).trans (k.low B h1 (Nat.le_trans h2 h.size))⟩
theorem Ob.vblk {b b' : Nat} {w w' : World} {t : TypeId} {vs : List Value} (h : Ob b w w') (hb : VBlk w b' t vs) (hn : b' ≠ b) : VBlk w' b' t vs := hb.of (h.keep b' hb.lt hn)
/-- the reader as the mathematics has it -/
def Rr (w0 w : World) (b : Nat) (s : Rs) : Prop := ∃ L : List ByteArray, L.map bs = s.l ∧ Wd w0 w b L s.x ∧ ∀ y ∈ L, y.size ≤ 1048576
theorem Rr.grow {w0 w w' : World} {b : Nat} {s : Rs} (h : Rr w0 w b s) (hb : Below w.heap.size w w') : Rr w0 w' b s := by
  obtain ⟨L, h1, h2, h3⟩ := h
  exact ⟨L, h1, h2.grow hb, h3⟩
theorem Rr.wrong {w0 w : World} {b : Nat} {s : Rs} (h : Rr w0 w b s) : Rr w0 (w.setCell ⟨b, 1, none⟩ (.bool true)) b ⟨s.l, true⟩ := by
  obtain ⟨L, h1, h2, h3⟩ := h
  obtain ⟨a, n, k, V, r⟩ := h2.v
  refine ⟨L, h1, ⟨⟨a, n, k, ?_, r⟩, h2.bl.trans ((only_set w b 1 _).2.2 _ h2.lo), h2.lo⟩, h3⟩
  have := VBlk.set (w := w) (b := b) (t := 82) (vs := [.slice a n k, .bool s.x]) V 1 (.bool true)
  simpa using this
theorem quiet_is {z y : ByteArray} {c : Bool} (h : bs z = bs y) (hc : (bs y == quiet) = c) : (z.toList == [113, 117, 105, 101, 116]) = c := by
  rw [bs_toList, h]
  exact hc
theorem rr_env {w0 w : World} {b : Nat} {s : Rs} (h : Rr w0 w b s) (en : EnvR w0) : EnvR w := by
  obtain ⟨L, h1, h2, h3⟩ := h
  exact en.grow h2.bl
theorem rr_cell {w0 w : World} {b : Nat} {s : Rs} (h : Rr w0 w b s) : w.cell? ⟨b, 1, none⟩ = some (.bool s.x) ∧ w.frozen? ⟨b, 1, none⟩ = false := by
  obtain ⟨L, h1, h2, h3⟩ := h
  obtain ⟨a, n, k, V, r⟩ := h2.v
  exact ⟨V.cell 1 (by simp), V.frozen 1⟩
theorem wordR {w0 w : World} {b : Nat} {s : Rs} (h : Rr w0 w b s) :
    Calls Tryd.prog 67 #[.pointer (some ⟨b, 0, none⟩)] w fun e w' => ∃ z, e = .returned (.string z) ∧ bs z = (wordF s).1 ∧ z.size ≤ 1048576 ∧ Rr w0 w' b (wordF s).2 ∧ Ob b w w' := by
  obtain ⟨L, h1, h2, h3⟩ := h
  obtain ⟨l, x⟩ := s
  dsimp only at h1 h2
  refine (word_any w0 w b L x h2).mono ?_
  rintro e w' ⟨rfl, h4, h5⟩
  cases L with
  | nil =>
    simp at h1
    subst h1
    exact ⟨_, rfl, rfl, by show emp.size ≤ 1048576; decide, ⟨[], rfl, by simpa [wordF] using h4, fun y hy => by simp at hy⟩, Ob.only h5⟩
  | cons y r =>
    simp at h1
    subst h1
    exact ⟨_, rfl, rfl, h3 y (by simp), ⟨r, rfl, by simpa [wordF] using h4, fun z hz => h3 z (List.mem_cons_of_mem _ hz)⟩, Ob.only h5⟩
set_option maxRecDepth 10000 in
set_option maxHeartbeats 1000000 in
theorem nameR {w0 w : World} {b : Nat} {s : Rs} (t : Bool) (h : Rr w0 w b s) :
    Calls Tryd.prog 70 #[.pointer (some ⟨b, 0, none⟩), .bool t] w fun e w' => ∃ z, e = .returned (.string z) ∧ bs z = (nameF t s).1 ∧ z.size ≤ 1048576 ∧ Rr w0 w' b (nameF t s).2 ∧ Ob b w w' := by
  have HH : Hid (Rr w0 w b s) := h
  clear h
  cases t with
  | false =>
    go_enter Tryd.func70, Tryd.ntmps70
    go_wp2
    go_ret
    exact ⟨_, rfl, rfl, by show emp.size ≤ 1048576; decide, HH.out, Ob.refl _ _⟩
  | true =>
    go_enter Tryd.func70, Tryd.ntmps70
    go_wp2_with (first | (go_at_call 67; refine (wordR HH.out).mono ?_; rintro e w2 ⟨z, rfl, hz, hzs, hR, hO⟩) | (fail))
    go_ret
    exact ⟨z, rfl, hz, hzs, hR, hO⟩
set_option maxRecDepth 10000 in
set_option maxHeartbeats 1000000 in
theorem numberR {w0 w : World} {b : Nat} {s : Rs} (t : Bool) (en : EnvR w0) (h : Rr w0 w b s) :
    Calls Tryd.prog 51 #[.pointer (some ⟨b, 0, none⟩), .bool t] w fun e w' => e = .returned (.int .i64 (numF t s).1) ∧ Rr w0 w' b (numF t s).2 ∧ Ob b w w' := by
  have HH : Hid (Rr w0 w b s) := h
  have EN : Hid (EnvR w0) := en
  clear h en
  cases t with
  | false =>
    go_enter Tryd.func51, Tryd.ntmps51
    go_wp2
    go_ret
    exact ⟨rfl, HH.out, Ob.refl _ _⟩
  | true =>
    obtain ⟨a, ha⟩ := hid_ex (rdF (wordF s).1).1
    obtain ⟨c, hc⟩ := hid_ex (rdF (wordF s).1).2
    have hac : Hid (rdF (wordF s).1 = (a, c)) := by unfold Hid; rw [← ha.out, ← hc.out]
    have e1 : Hid ((numF true s).1 = a) := ha
    have e2 : Hid ((numF true s).2 = ⟨(wordF s).2.l, (wordF s).2.x || !c⟩) := by unfold Hid numF; simp [hc.out]
    rw [e1.out, e2.out]
    cases c with
    | true =>
      go_enter Tryd.func51, Tryd.ntmps51
      go_wp2_with (first | (go_at_call 67; refine (wordR HH.out).mono ?_; rintro e w2 ⟨z, rfl, hz, hzs, hR, hO⟩; have HR : Hid (Rr w0 w2 b (wordF s).2) := hR; have HZ : Hid (bs z = (wordF s).1) := hz; clear hR hz) | (go_at_call 66; refine (numberFrom_is z hzs _ (rr_env HR.out EN.out) a true (by unfold Hid; rw [HZ.out]; exact hac.out)).mono ?_; rintro e w3 ⟨rfl, hB3⟩) | (fail))
      go_ret
      exact ⟨rfl, by simpa using HR.out.grow hB3, hO.trans (Ob.below hB3)⟩
    | false =>
      go_enter Tryd.func51, Tryd.ntmps51
      go_wp2_with (first | (go_at_call 67; refine (wordR HH.out).mono ?_; rintro e w2 ⟨z, rfl, hz, hzs, hR, hO⟩; have HR : Hid (Rr w0 w2 b (wordF s).2) := hR; have HZ : Hid (bs z = (wordF s).1) := hz; clear hR hz) | (go_at_call 66; refine (numberFrom_is z hzs _ (rr_env HR.out EN.out) a false (by unfold Hid; rw [HZ.out]; exact hac.out)).mono ?_; rintro e w3 ⟨rfl, hB3⟩; have HR3 : Hid (Rr w0 w3 b (wordF s).2) := HR.out.grow hB3; obtain ⟨q1, q2⟩ := rr_cell HR3.out) | (fail))
      go_ret
      exact ⟨rfl, by simpa using HR3.out.wrong, (hO.trans (Ob.below hB3)).trans (Ob.only (only_set w3 b 1 _))⟩
set_option maxRecDepth 10000 in
set_option maxHeartbeats 1000000 in
theorem quietR {w0 w : World} {b : Nat} {s : Rs} (t : Bool) (h : Rr w0 w b s) :
    Calls Tryd.prog 71 #[.pointer (some ⟨b, 0, none⟩), .bool t] w fun e w' => e = .returned (.bool (quietF t s).1) ∧ Rr w0 w' b (quietF t s).2 ∧ Ob b w w' := by
  have HH : Hid (Rr w0 w b s) := h
  clear h
  cases t with
  | false =>
    go_enter Tryd.func71, Tryd.ntmps71
    go_wp2
    go_ret
    exact ⟨rfl, HH.out, Ob.refl _ _⟩
  | true =>
    obtain ⟨l, x⟩ := s
    obtain ⟨L, hL, hW, hS⟩ := HH.out
    dsimp only at hL hW
    obtain ⟨a, n, k, V, r⟩ := hW.v
    have c0 := V.cell 0 (by simp)
    have hn := r.cap.1
    clear V r
    cases L with
    | nil =>
      simp at hL
      subst hL
      have hn0 : n = 0 := by simpa using hn
      subst hn0
      clear hn
      go_enter Tryd.func71, Tryd.ntmps71
      go_wp2
      go_ret
      exact ⟨rfl, HH.out, Ob.refl _ _⟩
    | cons y r2 =>
      simp at hL
      subst hL
      have hnz : ((n : Int) == 0) = false := by simp at hn ⊢; omega
      clear hn hW hS
      obtain ⟨c, hc⟩ := hid_ex (bs y == quiet)
      have eQ : Hid (quietF true ⟨bs y :: r2.map bs, x⟩ = (true, ⟨r2.map bs, x || !c⟩)) := by unfold Hid quietF; simp [← hc.out]
      rw [eQ.out]
      cases c with
      | true =>
        go_enter Tryd.func71, Tryd.ntmps71
        go_wp2_with (first | (go_at_call 67; refine (wordR HH.out).mono ?_; rintro e w2 ⟨z, rfl, hz, hzs, hR, hO⟩; have HR : Hid (Rr w0 w2 b ⟨r2.map bs, x⟩) := hR; have hq : (z.toList == [113, 117, 105, 101, 116]) = true := quiet_is hz hc.out; clear hR hz) | (fail))
        go_ret
        exact ⟨rfl, by simpa using HR.out, hO⟩
      | false =>
        go_enter Tryd.func71, Tryd.ntmps71
        go_wp2_with (first | (go_at_call 67; refine (wordR HH.out).mono ?_; rintro e w2 ⟨z, rfl, hz, hzs, hR, hO⟩; have HR : Hid (Rr w0 w2 b ⟨r2.map bs, x⟩) := hR; have hq : (z.toList == [113, 117, 105, 101, 116]) = false := quiet_is hz hc.out; obtain ⟨q1, q2⟩ := rr_cell HR.out; clear hR hz) | (fail))
        go_ret
        exact ⟨rfl, by simpa using HR.out.wrong, hO.trans (Ob.only (only_set w2 b 1 _))⟩
set_option maxRecDepth 10000 in
set_option maxHeartbeats 1000000 in
theorem allRightR {w0 w : World} {b : Nat} {s : Rs} (y : Bool) (hy : Hid ((!s.x && s.l.isEmpty) = y)) (h : Rr w0 w b s) :
    Calls Tryd.prog 72 #[.pointer (some ⟨b, 0, none⟩)] w fun e w' => e = .returned (.bool y) ∧ w' = w := by
  obtain ⟨l, x⟩ := s
  obtain ⟨L, hL, hW, hS⟩ := h
  dsimp only at hL hW hy
  obtain ⟨a, n, k, V, r⟩ := hW.v
  have c0 := V.cell 0 (by simp)
  have c1 := V.cell 1 (by simp)
  have hn := r.cap.1
  have he : Hid (l.isEmpty = ((n : Int) == 0)) := by
    unfold Hid
    rw [← hL, hn]
    cases L with
    | nil => rfl
    | cons q r => simp; omega
  have hyv : y = (!x && ((n : Int) == 0)) := by rw [← hy.out, he.out]
  clear hn V r hW hS hL hy he
  subst hyv
  cases x
  all_goals
    go_enter Tryd.func72, Tryd.ntmps72
    go_wp2
    go_ret
    exact ⟨rfl, rfl⟩
end Go.Proofs.YtefmndjoailemaaDoor.cm
