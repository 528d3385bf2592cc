/- Texts laid together: Ri1 Wr2 Px0. -/
import Derived.Test.YtaabmkhckbndgaaGreatDoorCu1
import Derived.Test.YtaabmkhckbndgaaGreatDoorMg06
import Derived.Test.YtaabmkhckbndgaaGreatDoorWr1
import Derived.Test.YtaabmkhckbndgaaGreatDoorMg08
import Derived.Test.YtaabmkhckbndgaaGreatDoorMg02
import Derived.BigQuiet
/- Rows of numbers; a struct and two numbers told; new variables. -/
namespace Go.Proofs.YtaabmkhckbndgaaGreatDoor.cm
open Go.ChangeShapes Go.WideShapes Go.ChangeAt Go.RowKit
open Go.Proofs.YtaabmkhckbndgaaGreatDoor.ce Go.Proofs.YtaabmkhckbndgaaGreatDoor.ro Go.Proofs.YtaabmkhckbndgaaGreatDoor.rg
set_option linter.unusedVariables false

def encN : Enc Int := ⟨fun s => [.int .i64 s], 1, 2, fun _ => rfl, fun s v hv => by rw [List.mem_singleton.1 hv]; rfl, by decide⟩
theorem infoN : Info encN := by
  have h : (Tryz.prog.info? 2).map (fun i => (i.zero, i.size, i.bytes)) = some (some (.int .i64 0), 1, 8) := by kernel_rfl
  obtain ⟨i, hi, hz⟩ := Option.map_eq_some_iff.1 h
  simp only [Prod.mk.injEq] at hz
  exact ⟨i, _, hi, hz.1, hz.2.1, by omega, rfl⟩
theorem rdI_cell {w : World} {n cap : Nat} {a : Option Addr} {xs : List Int} (r : Rd encN w (.slice a n cap) xs) (i : Nat) (hi : i < xs.length) : ∃ b off, a = some ⟨b, off, none⟩ ∧ b < w.heap.size ∧ w.cell? ⟨b, off + i, none⟩ = some (.int .i64 xs[i]) := by
  obtain ⟨b, off, e, h1, h2⟩ := r.cell i 0 hi (show 0 < 1 by decide)
  exact ⟨b, off, e, h1, by simpa [encN] using h2⟩
/-- a struct that lies in its variable, and two slots, as results -/
theorem results_ctt {fn : Func} {p u x : Tmp} {ty : TypeId} (h : fn.results = #[.cell p ty, .tmp u, .tmp x]) (tmps : Array Value) (P : Program) (w : World) :
    (results fn tmps).run P w =
      ((asAddr (tmps.getD p undef)).run P w).andThen fun a w₁ => ((loadVar ty a).run P w₁).andThen fun v w₂ => .ok (.tuple #[v, tmps.getD u undef, tmps.getD x undef]) w₂ := by
  simp only [results, h]
  simp [Sem.run_bind, Result.andThen]
theorem row_ctt {fn : Func} {p u q : Tmp} {ty : TypeId} (h : fn.results = #[.cell p ty, .tmp u, .tmp q]) {R : Ending → World → Prop} {a : Act} {w : World} {b : Nat} {t : TypeId} {vs : List Value} {fs : Array Field} {x y : Value}
    (hp : a.tmps.getD p undef = .pointer (some ⟨b, 0, none⟩)) (hx : a.tmps.getD u undef = x) (hy : a.tmps.getD q undef = y) (hb : VBlk w b t vs) (hu : Tryz.prog.underlying ty = some (.struct fs))
    (hi : (Tryz.prog.info? ty).map (·.size) = some vs.length) (hdf : a.defers = []) (hR : R (.returned (.tuple #[.agg vs.toArray, x, y])) w) : bodyPost Tryz.prog fn R .ret a w := by
  have hl := run_loadVar_row (P := Tryz.prog) w b t ty vs.toArray (0, 0) _ hb hu rfl (by rw [hi]; simp)
  refine bodyPost_ret ?_ hdf hR
  rw [results_ctt h, hp, hx, hy]
  simp [asAddr, hl]
theorem oneCs (V : Int) (N : ByteArray) (F U : Int) (B : ByteArray) (C D : Int) (Q : Bool) : ∀ v ∈ [Value.int .i64 V, .string N, .int .i64 F, .int .i64 U, .string B, .int .i64 C, .int .i64 D, .bool Q], v.oneCell' = true := oneCm ⟨V, N, F, U, B, C, D, Q⟩
end Go.Proofs.YtaabmkhckbndgaaGreatDoor.cm
/- Contracts of the program: the words of a line, taken one by one. -/
namespace Go.Proofs.YtaabmkhckbndgaaGreatDoor.cm
open Go.ChangeShapes Go.WideShapes Go.ChangeAt Go.RowKit
open Go.Proofs.YtaabmkhckbndgaaGreatDoor.ce Go.Proofs.YtaabmkhckbndgaaGreatDoor.ro Go.Proofs.YtaabmkhckbndgaaGreatDoor.rg
set_option linter.unusedVariables false

/-- a reader in its variable b: the words that are left (they were there before it), and is something wrong -/
structure Wd (w0 w : World) (b : Nat) (L : List ByteArray) (x : Bool) : Prop where
  v : ∃ a n k, VBlk w b 164 [.slice a n k, .bool x] ∧ Rd encS w0 (.slice a n k) L
  bl : Below w0.heap.size w0 w
  lo : w0.heap.size ≤ b
theorem Wd.keep {w0 w w' : World} {b : Nat} {L : List ByteArray} {x : Bool} (h : Wd w0 w b L x) (hb : Below w0.heap.size w w') (e : w'.heap[b]? = w.heap[b]?) : Wd w0 w' b L x := by
  obtain ⟨a, n, k, h1, h2⟩ := h.v
  exact ⟨⟨a, n, k, h1.of e, h2⟩, h.bl.trans hb, h.lo⟩
theorem Wd.lt {w0 w : World} {b : Nat} {L : List ByteArray} {x : Bool} (h : Wd w0 w b L x) : b < w.heap.size := by
  obtain ⟨a, n, k, h1, h2⟩ := h.v
  exact h1.lt
theorem Wd.grow {w0 w w' : World} {b : Nat} {L : List ByteArray} {x : Bool} (h : Wd w0 w b L x) (hb : Below w.heap.size w w') : Wd w0 w' b L x := h.keep (hb.mono h.bl.size) (hb.block b h.lt)
def hdB : List ByteArray → ByteArray
  | [] => emp
  | a :: _ => a
set_option maxRecDepth 10000 in
set_option maxHeartbeats 1000000 in
theorem word_any (w0 w : World) (b : Nat) (L : List ByteArray) (x : Bool) (h : Wd w0 w b L x) :
    Calls Tryz.prog 180 #[.pointer (some ⟨b, 0, none⟩)] w fun e w' => e = .returned (.string (hdB L)) ∧ Wd w0 w' b L.tail (x || L.isEmpty) ∧ Only b w w' := by
  have HH : Hid (Wd w0 w b L x) := h
  obtain ⟨a, n, k, V, r⟩ := h.v
  have VV : Hid (VBlk w b 164 [.slice a n k, .bool x]) := V
  have c0 := V.cell 0 (by simp)
  have c1 := V.cell 1 (by simp)
  have f0 := V.frozen 0
  have f1 := V.frozen 1
  have hc := r.cap
  have RR : Hid (Rd encS w0 (.slice a n k) L) := r
  clear r h V
  cases L with
  | nil =>
    have hn : n = 0 := by have := hc.1; simpa using this
    clear hc
    subst hn
    go_enter Tryz.func180, Tryz.ntmps180
    go_wp2
    go_ret
    refine ⟨rfl, ⟨⟨a, 0, k, ?_, RR.out⟩, HH.out.bl.trans ((only_set w b 1 _).2.2 _ HH.out.lo), HH.out.lo⟩, only_set w b 1 _⟩
    have := VBlk.set (w := w) (b := b) (t := 164) (vs := [.slice a 0 k, .bool x]) VV.out 1 (.bool true)
    simpa using this
  | cons y L2 =>
    obtain ⟨g, off, rfl, hg, d0⟩ := rdS_cell (RR.out.grow HH.out.bl) 0 (by simp)
    have dd : w.cell? ⟨g, off, none⟩ = some (.string y) := by simpa using d0
    have hn : n = L2.length + 1 := by have := hc.1; simpa using this
    have hnk : L2.length + 1 ≤ k := by rw [← hn]; exact hc.2.1
    clear hc
    subst hn
    have hnz : (((L2.length + 1 : Nat) : Int) == 0) = false := by simp; omega
    have hn1 : (0 : Int) < ((L2.length + 1 : Nat) : Int) := by omega
    have hn2 : (1 : Int) ≤ ((L2.length + 1 : Nat) : Int) := by omega
    have hnz' : ((L2.length : Int) + 1 == 0) = false := by simp; omega
    rcases RR.out.rest 1 (by simp) with ⟨hlt, R2⟩ | ⟨hk, hnm, he, R2⟩
    · have hkk : ¬ k = 1 := by omega
      go_enter Tryz.func180, Tryz.ntmps180
      go_wp2
      go_ret
      refine ⟨rfl, ⟨⟨some ⟨g, off + 1, none⟩, L2.length, k - 1, ?_, R2.out⟩, HH.out.bl.trans ((only_set w b 0 _).2.2 _ HH.out.lo), HH.out.lo⟩, only_set w b 0 _⟩
      have := VBlk.set (w := w) (b := b) (t := 164) (vs := [.slice (some ⟨g, off, none⟩) (L2.length + 1) k, .bool x]) VV.out 0 (.slice (some ⟨g, off + 1, none⟩) L2.length (k - 1))
      simpa using this
    · obtain rfl : L2 = [] := List.eq_nil_of_length_eq_zero (by omega)
      obtain rfl : k = 1 := hk.symm
      go_enter Tryz.func180, Tryz.ntmps180
      go_wp2
      go_ret
      refine ⟨rfl, ⟨⟨some ⟨g, off, none⟩, 0, 0, ?_, by simpa using R2.out⟩, HH.out.bl.trans ((only_set w b 0 _).2.2 _ HH.out.lo), HH.out.lo⟩, only_set w b 0 _⟩
      have := VBlk.set (w := w) (b := b) (t := 164) (vs := [.slice (some ⟨g, off, none⟩) 1 1, .bool x]) VV.out 0 (.slice (some ⟨g, off, none⟩) 0 0)
      simpa using this
/-- only the reader's variable changes, besides what is new -/
structure Ob (b : Nat) (w w' : World) : Prop where
  size : w.heap.size ≤ w'.heap.size
  keep : ∀ k, k < w.heap.size → k ≠ b → w'.heap[k]? = w.heap[k]?
  low : ∀ B, B ≤ b → B ≤ w.heap.size → Below B w w'
theorem Ob.only {b : Nat} {w w' : World} (h : Only b w w') : Ob b w w' := ⟨Nat.le_of_eq h.1.symm, fun k _ hk => h.2.1 k hk, fun B hB _ => h.2.2 B hB⟩
theorem Ob.refl (b : Nat) (w : World) : Ob b w w := ⟨Nat.le_refl _, fun _ _ _ => rfl, fun _ _ _ => Below.refl _ _⟩
theorem Ob.below {b : Nat} {w w' : World} (h : Below w.heap.size w w') : Ob b w w' := ⟨h.size, fun k hk _ => h.block k hk, fun B _ hB => h.mono hB⟩
theorem Ob.trans {b : Nat} {x y z : World} (h : Ob b x y) (k : Ob b y z) : Ob b x z := ⟨Nat.le_trans h.size k.size, fun j hj hb => (k.keep j (Nat.lt_of_lt_of_le hj h.size) hb).trans (h.keep j hj hb), fun B h1 h2 => (h.low B h1 h2).trans (k.low B h1 (Nat.le_trans h2 h.size))⟩
theorem Ob.vblk {b b' : Nat} {w w' : World} {t : TypeId} {vs : List Value} (h : Ob b w w') (hb : VBlk w b' t vs) (hn : b' ≠ b) : VBlk w' b' t vs := hb.of (h.keep b' hb.lt hn)
/-- the reader as the mathematics has it -/
def Rr (w0 w : World) (b : Nat) (s : Rs) : Prop := ∃ L : List ByteArray, L.map bs = s.l ∧ Wd w0 w b L s.x ∧ ∀ y ∈ L, y.size ≤ 1048576
theorem Rr.grow {w0 w w' : World} {b : Nat} {s : Rs} (h : Rr w0 w b s) (hb : Below w.heap.size w w') : Rr w0 w' b s := by
  obtain ⟨L, h1, h2, h3⟩ := h
  exact ⟨L, h1, h2.grow hb, h3⟩
theorem Rr.wrong {w0 w : World} {b : Nat} {s : Rs} (h : Rr w0 w b s) : Rr w0 (w.setCell ⟨b, 1, none⟩ (.bool true)) b ⟨s.l, true⟩ := by
  obtain ⟨L, h1, h2, h3⟩ := h
  obtain ⟨a, n, k, V, r⟩ := h2.v
  refine ⟨L, h1, ⟨⟨a, n, k, ?_, r⟩, h2.bl.trans ((only_set w b 1 _).2.2 _ h2.lo), h2.lo⟩, h3⟩
  have := VBlk.set (w := w) (b := b) (t := 164) (vs := [.slice a n k, .bool s.x]) V 1 (.bool true)
  simpa using this
theorem quiet_is {z y : ByteArray} {c : Bool} (h : bs z = bs y) (hc : (bs y == quiet) = c) : (z.toList == [113, 117, 105, 101, 116]) = c := by
  rw [bs_toList, h]
  exact hc
theorem rr_env {w0 w : World} {b : Nat} {s : Rs} (h : Rr w0 w b s) (en : EnvR w0) : EnvR w := by
  obtain ⟨L, h1, h2, h3⟩ := h
  exact en.grow h2.bl
theorem rr_cell {w0 w : World} {b : Nat} {s : Rs} (h : Rr w0 w b s) : w.cell? ⟨b, 1, none⟩ = some (.bool s.x) ∧ w.frozen? ⟨b, 1, none⟩ = false := by
  obtain ⟨L, h1, h2, h3⟩ := h
  obtain ⟨a, n, k, V, r⟩ := h2.v
  exact ⟨V.cell 1 (by simp), V.frozen 1⟩
theorem wordR {w0 w : World} {b : Nat} {s : Rs} (h : Rr w0 w b s) :
    Calls Tryz.prog 180 #[.pointer (some ⟨b, 0, none⟩)] w fun e w' => ∃ z, e = .returned (.string z) ∧ bs z = (wordF s).1 ∧ z.size ≤ 1048576 ∧ Rr w0 w' b (wordF s).2 ∧ Ob b w w' := by
  obtain ⟨L, h1, h2, h3⟩ := h
  obtain ⟨l, x⟩ := s
  dsimp only at h1 h2
  refine (word_any w0 w b L x h2).mono ?_
  rintro e w' ⟨rfl, h4, h5⟩
  cases L with
  | nil =>
    simp at h1
    subst h1
    exact ⟨_, rfl, rfl, by show emp.size ≤ 1048576; decide, ⟨[], rfl, by simpa [wordF] using h4, fun y hy => by simp at hy⟩, Ob.only h5⟩
  | cons y r =>
    simp at h1
    subst h1
    exact ⟨_, rfl, rfl, h3 y (by simp), ⟨r, rfl, by simpa [wordF] using h4, fun z hz => h3 z (List.mem_cons_of_mem _ hz)⟩, Ob.only h5⟩
set_option maxRecDepth 10000 in
set_option maxHeartbeats 1000000 in
theorem nameR {w0 w : World} {b : Nat} {s : Rs} (t : Bool) (h : Rr w0 w b s) :
    Calls Tryz.prog 174 #[.pointer (some ⟨b, 0, none⟩), .bool t] w fun e w' => ∃ z, e = .returned (.string z) ∧ bs z = (nameF t s).1 ∧ z.size ≤ 1048576 ∧ Rr w0 w' b (nameF t s).2 ∧ Ob b w w' := by
  have HH : Hid (Rr w0 w b s) := h
  clear h
  cases t with
  | false =>
    go_enter Tryz.func174, Tryz.ntmps174
    go_wp2
    go_ret
    exact ⟨_, rfl, rfl, by show emp.size ≤ 1048576; decide, HH.out, Ob.refl _ _⟩
  | true =>
    go_enter Tryz.func174, Tryz.ntmps174
    go_wp2_with (first | (go_at_call 180; refine (wordR HH.out).mono ?_; rintro e w2 ⟨z, rfl, hz, hzs, hR, hO⟩) | (fail))
    go_ret
    exact ⟨z, rfl, hz, hzs, hR, hO⟩
set_option maxRecDepth 10000 in
set_option maxHeartbeats 1000000 in
theorem numberR {w0 w : World} {b : Nat} {s : Rs} (t : Bool) (en : EnvR w0) (h : Rr w0 w b s) :
    Calls Tryz.prog 130 #[.pointer (some ⟨b, 0, none⟩), .bool t] w fun e w' => e = .returned (.int .i64 (numF t s).1) ∧ Rr w0 w' b (numF t s).2 ∧ Ob b w w' := by
  have HH : Hid (Rr w0 w b s) := h
  have EN : Hid (EnvR w0) := en
  clear h en
  cases t with
  | false =>
    go_enter Tryz.func130, Tryz.ntmps130
    go_wp2
    go_ret
    exact ⟨rfl, HH.out, Ob.refl _ _⟩
  | true =>
    obtain ⟨a, ha⟩ := hid_ex (rdF (wordF s).1).1
    obtain ⟨c, hc⟩ := hid_ex (rdF (wordF s).1).2
    have hac : Hid (rdF (wordF s).1 = (a, c)) := by unfold Hid; rw [← ha.out, ← hc.out]
    have e1 : Hid ((numF true s).1 = a) := ha
    have e2 : Hid ((numF true s).2 = ⟨(wordF s).2.l, (wordF s).2.x || !c⟩) := by unfold Hid numF; simp [hc.out]
    rw [e1.out, e2.out]
    cases c with
    | true =>
      go_enter Tryz.func130, Tryz.ntmps130
      go_wp2_with (first | (go_at_call 180; refine (wordR HH.out).mono ?_; rintro e w2 ⟨z, rfl, hz, hzs, hR, hO⟩; have HR : Hid (Rr w0 w2 b (wordF s).2) := hR; have HZ : Hid (bs z = (wordF s).1) := hz; clear hR hz) | (go_at_call 179; refine (numberFrom_is z hzs _ (rr_env HR.out EN.out) a true (by unfold Hid; rw [HZ.out]; exact hac.out)).mono ?_; rintro e w3 ⟨rfl, hB3⟩) | (fail))
      go_ret
      exact ⟨rfl, by simpa using HR.out.grow hB3, hO.trans (Ob.below hB3)⟩
    | false =>
      go_enter Tryz.func130, Tryz.ntmps130
      go_wp2_with (first | (go_at_call 180; refine (wordR HH.out).mono ?_; rintro e w2 ⟨z, rfl, hz, hzs, hR, hO⟩; have HR : Hid (Rr w0 w2 b (wordF s).2) := hR; have HZ : Hid (bs z = (wordF s).1) := hz; clear hR hz) | (go_at_call 179; refine (numberFrom_is z hzs _ (rr_env HR.out EN.out) a false (by unfold Hid; rw [HZ.out]; exact hac.out)).mono ?_; rintro e w3 ⟨rfl, hB3⟩; have HR3 : Hid (Rr w0 w3 b (wordF s).2) := HR.out.grow hB3; obtain ⟨q1, q2⟩ := rr_cell HR3.out) | (fail))
      go_ret
      exact ⟨rfl, by simpa using HR3.out.wrong, (hO.trans (Ob.below hB3)).trans (Ob.only (only_set w3 b 1 _))⟩
set_option maxRecDepth 10000 in
set_option maxHeartbeats 1000000 in
theorem quietR {w0 w : World} {b : Nat} {s : Rs} (t : Bool) (h : Rr w0 w b s) :
    Calls Tryz.prog 175 #[.pointer (some ⟨b, 0, none⟩), .bool t] w fun e w' => e = .returned (.bool (quietF t s).1) ∧ Rr w0 w' b (quietF t s).2 ∧ Ob b w w' := by
  have HH : Hid (Rr w0 w b s) := h
  clear h
  cases t with
  | false =>
    go_enter Tryz.func175, Tryz.ntmps175
    go_wp2
    go_ret
    exact ⟨rfl, HH.out, Ob.refl _ _⟩
  | true =>
    obtain ⟨l, x⟩ := s
    obtain ⟨L, hL, hW, hS⟩ := HH.out
    dsimp only at hL hW
    obtain ⟨a, n, k, V, r⟩ := hW.v
    have c0 := V.cell 0 (by simp)
    have hn := r.cap.1
    clear V r
    cases L with
    | nil =>
      simp at hL
      subst hL
      have hn0 : n = 0 := by simpa using hn
      subst hn0
      clear hn
      go_enter Tryz.func175, Tryz.ntmps175
      go_wp2
      go_ret
      exact ⟨rfl, HH.out, Ob.refl _ _⟩
    | cons y r2 =>
      simp at hL
      subst hL
      have hnz : ((n : Int) == 0) = false := by simp at hn ⊢; omega
      clear hn hW hS
      obtain ⟨c, hc⟩ := hid_ex (bs y == quiet)
      have eQ : Hid (quietF true ⟨bs y :: r2.map bs, x⟩ = (true, ⟨r2.map bs, x || !c⟩)) := by unfold Hid quietF; simp [← hc.out]
      rw [eQ.out]
      cases c with
      | true =>
        go_enter Tryz.func175, Tryz.ntmps175
        go_wp2_with (first | (go_at_call 180; refine (wordR HH.out).mono ?_; rintro e w2 ⟨z, rfl, hz, hzs, hR, hO⟩; have HR : Hid (Rr w0 w2 b ⟨r2.map bs, x⟩) := hR; have hq : (z.toList == [113, 117, 105, 101, 116]) = true := quiet_is hz hc.out; clear hR hz) | (fail))
        go_ret
        exact ⟨rfl, by simpa using HR.out, hO⟩
      | false =>
        go_enter Tryz.func175, Tryz.ntmps175
        go_wp2_with (first | (go_at_call 180; refine (wordR HH.out).mono ?_; rintro e w2 ⟨z, rfl, hz, hzs, hR, hO⟩; have HR : Hid (Rr w0 w2 b ⟨r2.map bs, x⟩) := hR; have hq : (z.toList == [113, 117, 105, 101, 116]) = false := quiet_is hz hc.out; obtain ⟨q1, q2⟩ := rr_cell HR.out; clear hR hz) | (fail))
        go_ret
        exact ⟨rfl, by simpa using HR.out.wrong, hO.trans (Ob.only (only_set w2 b 1 _))⟩
set_option maxRecDepth 10000 in
set_option maxHeartbeats 1000000 in
theorem allRightR {w0 w : World} {b : Nat} {s : Rs} (y : Bool) (hy : Hid ((!s.x && s.l.isEmpty) = y)) (h : Rr w0 w b s) :
    Calls Tryz.prog 176 #[.pointer (some ⟨b, 0, none⟩)] w fun e w' => e = .returned (.bool y) ∧ w' = w := by
  obtain ⟨l, x⟩ := s
  obtain ⟨L, hL, hW, hS⟩ := h
  dsimp only at hL hW hy
  obtain ⟨a, n, k, V, r⟩ := hW.v
  have c0 := V.cell 0 (by simp)
  have c1 := V.cell 1 (by simp)
  have hn := r.cap.1
  have he : Hid (l.isEmpty = ((n : Int) == 0)) := by
    unfold Hid
    rw [← hL, hn]
    cases L with
    | nil => rfl
    | cons q r => simp; omega
  have hyv : y = (!x && ((n : Int) == 0)) := by rw [← hy.out, he.out]
  clear hn V r hW hS hL hy he
  subst hyv
  cases x
  all_goals
    go_enter Tryz.func176, Tryz.ntmps176
    go_wp2
    go_ret
    exact ⟨rfl, rfl⟩
end Go.Proofs.YtaabmkhckbndgaaGreatDoor.cm
/- Mathematics of replies, no Go in sight: right ones, how they are shown; of whatever stands there at most one is shown so. -/
namespace Go.Proofs.YtaabmkhckbndgaaGreatDoor.cm
open Go.RowKit
open Go.Proofs.YtaabmkhckbndgaaGreatDoor.rg (nameB nbB nameB_size)
set_option linter.unusedVariables false

/-- a reply -/
structure Rp where
  K : Int
  N : ByteArray
  F : Int
  B : ByteArray
  C : Int
  M : Int
def Rp.zero : Rp := ⟨0, emp, 0, emp, 0, 0⟩
/-- a right one -/
structure POk (r : Rp) : Prop where
  k0 : 1 ≤ r.K
  k1 : r.K ≤ 12
  nm : r.K = 5 → nameB r.N = true
  n0 : r.K ≠ 5 → r.N = emp
  f1 : r.K = 5 → 0 ≤ r.F ∧ r.F ≤ 65535
  f0 : r.K ≠ 5 → r.F = 0
  b1 : r.B.size ≤ 64
  b0 : r.K ≠ 5 → r.B = emp
  c1 : r.K = 5 → 0 ≤ r.C ∧ r.C ≤ 1000000
  c0 : r.K ≠ 5 → r.C = 0
  m1 : r.K = 6 → 0 ≤ r.M ∧ r.M ≤ 999999999
  m0 : r.K ≠ 6 → r.M = 0
open Classical in
noncomputable def repB (r : Rp) : Bool := decide (POk r)
open Classical in
theorem repB_iff {r : Rp} : repB r = true ↔ POk r := by unfold repB; exact decide_eq_true_iff
def kinds : List (List UInt8) := [[115, 116, 111, 114, 101, 100], [110, 111, 116], [101, 120, 105, 115, 116, 115], [109, 105, 115, 115, 105, 110, 103], [118, 97, 108, 117, 101], [110, 117, 109, 98, 101, 114], [116, 111, 117, 99, 104, 101, 100], [99, 117, 116], [99, 108, 101, 97, 114, 101, 100], [101, 114, 114, 111, 114], [98, 97, 100], [98, 105, 103]]
def kw (k : Int) : List UInt8 := (kinds[(k - 1).toNat]?).getD []
def wordsR (r : Rp) : List (List UInt8) :=
  kw r.K :: (if r.K = 6 then [digs r.M.toNat] else if r.K = 5 then [bs r.N, digs r.F.toNat, digs r.B.size] ++ (if r.C = 0 then [] else [digs r.C.toNat]) else [])
def tailR (r : Rp) : List UInt8 := if r.K = 5 then bs r.B ++ [10] else []
def showR (r : Rp) : List UInt8 := wordsL (wordsR r) ++ 10 :: tailR r
theorem kind_cases {v : Int} (h0 : 1 ≤ v) (h1 : v ≤ 12) : v = 1 ∨ v = 2 ∨ v = 3 ∨ v = 4 ∨ v = 5 ∨ v = 6 ∨ v = 7 ∨ v = 8 ∨ v = 9 ∨ v = 10 ∨ v = 11 ∨ v = 12 := by omega
theorem kw_ok {v : Int} (h0 : 1 ≤ v) (h1 : v ≤ 12) : (∀ c ∈ kw v, c ≠ 32 ∧ c ≠ 10) ∧ (kw v).length ≤ 12 := by
  rcases kind_cases h0 h1 with rfl | rfl | rfl | rfl | rfl | rfl | rfl | rfl | rfl | rfl | rfl | rfl <;> decide
def kindOf (w : List UInt8) : Int := ((kinds.findIdx? (· == w)).map fun i => (i : Int) + 1).getD 0
theorem kindOf_kw {v : Int} (h0 : 1 ≤ v) (h1 : v ≤ 12) : kindOf (kw v) = v := by
  rcases kind_cases h0 h1 with rfl | rfl | rfl | rfl | rfl | rfl | rfl | rfl | rfl | rfl | rfl | rfl <;> decide
theorem wordsR_ok {r : Rp} (h : POk r) : ∀ w ∈ wordsR r, ∀ x ∈ w, x ≠ 32 ∧ x ≠ 10 := by
  intro w hw
  unfold wordsR at hw
  rcases List.mem_cons.1 hw with rfl | hw
  · exact (kw_ok h.k0 h.k1).1
  · split at hw
    · rw [List.mem_singleton.1 hw]
      exact fun x hx => digs_bytes hx
    · split at hw
      · rename_i h5
        rcases List.mem_append.1 hw with hw | hw
        · simp only [List.mem_cons, List.not_mem_nil, or_false] at hw
          rcases hw with rfl | rfl | rfl
          · exact fun x hx => name_bytes (h.nm h5) hx
          · exact fun x hx => digs_bytes hx
          · exact fun x hx => digs_bytes hx
        · split at hw
          · simp at hw
          · rw [List.mem_singleton.1 hw]
            exact fun x hx => digs_bytes hx
      · simp at hw
theorem lineR_no {r : Rp} (h : POk r) : 10 ∉ wordsL (wordsR r) := fun hx => by
  rcases wordsL_mem _ hx with e | ⟨w, hw, hx⟩
  · exact absurd e (by decide)
  · exact (wordsR_ok h w hw 10 hx).2 rfl
theorem splitR {r : Rp} (h : POk r) : splitL 32 (wordsL (wordsR r)) = wordsR r :=
  split_words _ (by unfold wordsR; simp) (fun w hw hx => (wordsR_ok h w hw 32 hx).1 rfl)
theorem lineOf_show {r : Rp} (h : POk r) (u : List UInt8) : lineOf (showR r ++ u) = wordsL (wordsR r) := by
  unfold showR
  rw [List.append_assoc, List.cons_append]
  exact lineOf_app (lineR_no h) _
theorem digs_inj {a b : Nat} (h : digs a = digs b) : a = b := by rw [← val_digs a, h, val_digs]
theorem bs_inj {a b : ByteArray} (h : bs a = bs b) : a = b := by rw [← tx_bs a, h, tx_bs]
theorem nat_inj {a b : Int} (ha : 0 ≤ a) (hb : 0 ≤ b) (h : a.toNat = b.toNat) : a = b := by omega
/-- of whatever stands there at most one reply is shown so -/
theorem show_inj {r r' : Rp} (h : POk r) (h' : POk r') {u u' : List UInt8} (e : showR r ++ u = showR r' ++ u') : r = r' := by
  have e1 : wordsL (wordsR r) = wordsL (wordsR r') := by rw [← lineOf_show h u, e, lineOf_show h' u']
  have e2 : wordsR r = wordsR r' := by rw [← splitR h, e1, splitR h']
  have eK : r.K = r'.K := by
    have : kw r.K = kw r'.K := by
      have := congrArg List.head? e2
      unfold wordsR at this
      simpa using this
    rw [← kindOf_kw h.k0 h.k1, this, kindOf_kw h'.k0 h'.k1]
  obtain ⟨K, N, F, B, C, M⟩ := r
  obtain ⟨K', N', F', B', C', M'⟩ := r'
  dsimp only at eK
  subst eK
  by_cases h6 : K = 6
  · have h5 : K ≠ 5 := by omega
    have n1 := h.n0 h5
    have n2 := h'.n0 h5
    have f1 := h.f0 h5
    have f2 := h'.f0 h5
    have b1 := h.b0 h5
    have b2 := h'.b0 h5
    have c1 := h.c0 h5
    have c2 := h'.c0 h5
    have m1 := (h.m1 h6).1
    have m2 := (h'.m1 h6).1
    dsimp only at n1 n2 f1 f2 b1 b2 c1 c2 m1 m2
    unfold wordsR at e2
    simp only [h6, if_true, List.cons.injEq, and_true, true_and] at e2
    have := nat_inj m1 m2 (digs_inj e2)
    rw [n1, n2, f1, f2, b1, b2, c1, c2, this]
  · have m1 := h.m0 h6
    have m2 := h'.m0 h6
    dsimp only at m1 m2
    by_cases h5 : K = 5
    · have f1 := (h.f1 h5).1
      have f2 := (h'.f1 h5).1
      have c1 := (h.c1 h5).1
      have c2 := (h'.c1 h5).1
      dsimp only at f1 f2 c1 c2
      have hN : bs N = bs N' ∧ digs F.toNat = digs F'.toNat ∧ digs B.size = digs B'.size ∧ (if C = 0 then [] else [digs C.toNat]) = (if C' = 0 then [] else [digs C'.toNat]) := by
        unfold wordsR at e2
        simp only [h5] at e2
        simp at e2
        exact e2
      obtain ⟨q1, q2, q3, q4⟩ := hN
      have eC : C = C' := by
        by_cases z : C = 0
        · by_cases z' : C' = 0
          · rw [z, z']
          · rw [if_pos z, if_neg z'] at q4
            simp at q4
        · by_cases z' : C' = 0
          · rw [if_neg z, if_pos z'] at q4
            simp at q4
          · rw [if_neg z, if_neg z'] at q4
            exact nat_inj c1 c2 (digs_inj (by simpa using q4))
      have eB : B = B' := by
        unfold showR tailR at e
        rw [e1, if_pos h5, if_pos h5] at e
        simp only [List.append_assoc, List.cons_append, List.nil_append] at e
        have e3 := List.append_cancel_left e
        simp only [List.cons.injEq, true_and] at e3
        have hl : (bs B).length = (bs B').length := by rw [bs_len, bs_len]; exact digs_inj q3
        exact bs_inj (List.append_inj_left e3 hl)
      rw [bs_inj q1, nat_inj f1 f2 (digs_inj q2), eB, eC, m1, m2]
    · have n1 := h.n0 h5
      have n2 := h'.n0 h5
      have f1 := h.f0 h5
      have f2 := h'.f0 h5
      have b1 := h.b0 h5
      have b2 := h'.b0 h5
      have c1 := h.c0 h5
      have c2 := h'.c0 h5
      dsimp only at n1 n2 f1 f2 b1 b2 c1 c2
      rw [n1, n2, f1, f2, b1, b2, c1, c2, m1, m2]
/-- the reply that stands at the head of bytes -/
def Reads (t : List UInt8) (r : Rp) : Prop := POk r ∧ showR r <+: t
theorem reads_one {t : List UInt8} {r r' : Rp} (h : Reads t r) (h' : Reads t r') : r = r' := by
  obtain ⟨u, e⟩ := h.2
  obtain ⟨u', e'⟩ := h'.2
  exact show_inj h.1 h'.1 (e.trans e'.symm)
open Classical in
noncomputable def repL (t : List UInt8) : Option Rp := if h : ∃ r, Reads t r then some h.choose else none
theorem repL_some {t : List UInt8} {r : Rp} (h : Reads t r) : repL t = some r := by
  have hx : ∃ r, Reads t r := ⟨r, h⟩
  unfold repL
  rw [dif_pos hx, reads_one hx.choose_spec h]
theorem repL_is {t : List UInt8} {r : Rp} (h : repL t = some r) : Reads t r := by
  unfold repL at h
  split at h
  · rename_i hx
    rw [← Option.some.inj h]
    exact hx.choose_spec
  · cases h
theorem repL_none {t : List UInt8} (h : ∀ r, ¬ Reads t r) : repL t = none := by
  unfold repL
  rw [dif_neg (fun ⟨r, hr⟩ => h r hr)]
theorem repL_show {r : Rp} (h : POk r) (u : List UInt8) : repL (showR r ++ u) = some r := repL_some ⟨h, List.prefix_append _ _⟩
end Go.Proofs.YtaabmkhckbndgaaGreatDoor.cm
