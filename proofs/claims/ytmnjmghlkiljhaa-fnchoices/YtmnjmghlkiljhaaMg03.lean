/- Texts laid together: Ch0 Ro4 Ro5. -/
import Derived.Test.YtmnjmghlkiljhaaMg02
import Derived.Test.YtmnjmghlkiljhaaMg01
import Derived.Lib.SmallJoins
import Derived.Deep.Slices
import Derived.Deep.DeepCutAuto
import Derived.Deep.RegionHeld3
import Derived.BigQuiet
/- Choices in memory: read, made; the model's ChoiceOk, the program's oneWay. -/
namespace Go.Proofs.Ytmnjmghlkiljhaa.rg
open Go.ChangeShapes Go.WideShapes Go.ChangeAt Go.RowKit
open Go.Proofs.Ytmnjmghlkiljhaa.ce Go.Proofs.Ytmnjmghlkiljhaa.ro
set_option linter.unusedVariables false

/-- which way, the ring, the queue, the sketch's rows and how many were added -/
structure Ch where
  K : Int
  R : Rg
  Q : List ByteArray
  S : List (List Int)
  D : Int
def Ch.zero : Ch := ⟨0, Rg.zero, [], [], 0⟩
def wayB (c : Ch) : Bool := decide (c.K = 1) && decide (c.Q.length = 0) || decide (c.K = 2) && decide (c.R.N.length = 0)
def chB (c : Ch) : Bool := decide (sk.skOk c.S c.D) && ringB c.R && namesB c.Q && wayB c
theorem sk_hi {w : World} {lo hi : Nat} {v : Value} {R : List (List Int)} (h : sk.Own w lo hi v R) : hi ≤ w.heap.size := by
  obtain ⟨_, _, _, _, _, _, _, _, h⟩ := h
  exact h.2.1
theorem sk_form {w : World} {lo hi : Nat} {v : Value} {R : List (List Int)} (h : sk.Rd w lo hi v R) : ∃ a c, v = .slice a R.length c := by
  obtain ⟨-, a, c, e, -⟩ := h
  exact ⟨a, c, e⟩
/-- a choice that is read -/
structure RdC (w : World) (vN vU vQ vS : Value) (c : Ch) : Prop where
  r : RdR w vN vU c.R
  q : Rd encS w vQ c.Q
  qs : ∀ s ∈ c.Q, s.size ≤ 9223372036854775807
  s : sk.Rd w 0 w.heap.size vS c.S
theorem RdC.grow {w w' : World} {vN vU vQ vS : Value} {c : Ch} (h : RdC w vN vU vQ vS c) (hb : Below w.heap.size w w') : RdC w' vN vU vQ vS c :=
  ⟨h.r.grow hb, h.q.grow hb, h.qs, (h.s.below hb (Nat.le_refl _)).wide (Nat.le_refl _) hb.size⟩
/-- a choice that a call made: its ring, its queue and its rows lie apart -/
structure OwnC (w : World) (lo hi : Nat) (vN vU vQ vS : Value) (c : Ch) : Prop where
  ex : ∃ l1 h1 l2 h2 l3 h3, OwnR w l1 h1 vN vU c.R ∧ Own encS w l2 h2 vQ c.Q ∧ sk.Own w l3 h3 vS c.S ∧ (lo ≤ l1 ∧ h1 ≤ hi ∧ lo ≤ l2 ∧ h2 ≤ hi ∧ lo ≤ l3 ∧ h3 ≤ hi) ∧ (h1 ≤ l2 ∨ h2 ≤ l1) ∧ (h1 ≤ l3 ∨ h3 ≤ l1) ∧ (h2 ≤ l3 ∨ h3 ≤ l2)
  sz : hi ≤ w.heap.size
theorem ownR_keep {w w' : World} {lo hi : Nat} {vN vU : Value} {r : Rg} (h : OwnR w lo hi vN vU r) (s : ∀ k, lo ≤ k → k < hi → w'.heap[k]? = w.heap[k]?) : OwnR w' lo hi vN vU r := ⟨h.n.keep s, h.u.keep s⟩
/-- what turns none of its blocks keeps it -/
theorem OwnC.keep {w w' : World} {lo hi : Nat} {vN vU vQ vS : Value} {c : Ch} (h : OwnC w lo hi vN vU vQ vS c) (s : ∀ k, lo ≤ k → k < hi → w'.heap[k]? = w.heap[k]?) (hs : w.heap.size ≤ w'.heap.size) : OwnC w' lo hi vN vU vQ vS c := by
  obtain ⟨⟨l1, h1, l2, h2, l3, h3, a, b, d, ⟨e1, e2, e3, e4, e5, e6⟩, e7, e8, e9⟩, sz⟩ := h
  exact ⟨⟨l1, h1, l2, h2, l3, h3, ownR_keep a fun k x y => s k (by omega) (by omega), b.keep fun k x y => s k (by omega) (by omega), sk.Own.keep d (fun k x y => s k (by omega) (by omega)) hs, ⟨e1, e2, e3, e4, e5, e6⟩, e7, e8, e9⟩, by omega⟩
theorem OwnC.below {w w' : World} {lo hi B : Nat} {vN vU vQ vS : Value} {c : Ch} (h : OwnC w lo hi vN vU vQ vS c) (hb : Below B w w') (hB : hi ≤ B) : OwnC w' lo hi vN vU vQ vS c := h.keep (fun k _ y => hb.block k (by omega)) hb.size
theorem OwnC.grow {w w' : World} {lo hi : Nat} {vN vU vQ vS : Value} {c : Ch} (h : OwnC w lo hi vN vU vQ vS c) (hb : Below w.heap.size w w') : OwnC w' lo hi vN vU vQ vS c := h.below hb h.sz
theorem OwnC.off {w w' : World} {lo hi b : Nat} {vN vU vQ vS : Value} {c : Ch} (h : OwnC w lo hi vN vU vQ vS c) (hO : Only b w w') (hb : b < lo ∨ hi ≤ b) : OwnC w' lo hi vN vU vQ vS c := h.keep (fun k x y => hO.2.1 k (by omega)) (Nat.le_of_eq hO.1.symm)
theorem OwnC.within {w w' : World} {lo hi l2 h2 : Nat} {vN vU vQ vS : Value} {c : Ch} (h : OwnC w lo hi vN vU vQ vS c) (hw : Within l2 h2 w w') (hd : hi ≤ l2 ∨ h2 ≤ lo) : OwnC w' lo hi vN vU vQ vS c := h.keep (fun k x y => hw.block k (by have := h.sz; omega) (by omega)) hw.size
theorem OwnC.rd {w : World} {lo hi : Nat} {vN vU vQ vS : Value} {c : Ch} (h : OwnC w lo hi vN vU vQ vS c) (hn : ∀ s ∈ c.R.N, s.size ≤ 9223372036854775807) (hq : ∀ s ∈ c.Q, s.size ≤ 9223372036854775807) : RdC w vN vU vQ vS c := by
  obtain ⟨⟨l1, h1, l2, h2, l3, h3, a, b, d, -⟩, sz⟩ := h
  exact ⟨a.rd hn, b.rd, hq, d.rd.wide (Nat.zero_le _) (sk_hi d)⟩
theorem OwnC.wide {w : World} {lo hi lo' : Nat} {vN vU vQ vS : Value} {c : Ch} (h : OwnC w lo hi vN vU vQ vS c) (h1 : lo' ≤ lo) : OwnC w lo' w.heap.size vN vU vQ vS c := by
  obtain ⟨⟨l1, h1, l2, h2, l3, h3, a, b, d, ⟨e1, e2, e3, e4, e5, e6⟩, e7, e8, e9⟩, sz⟩ := h
  exact ⟨⟨l1, h1, l2, h2, l3, h3, a, b, d, ⟨by omega, by omega, by omega, by omega, by omega, by omega⟩, e7, e8, e9⟩, Nat.le_refl _⟩
theorem OwnC.forms {w : World} {lo hi : Nat} {vN vU vQ vS : Value} {c : Ch} (h : OwnC w lo hi vN vU vQ vS c) : (∃ a n k, vN = .slice a n k) ∧ (∃ a n k, vU = .slice a n k) ∧ (∃ a n k, vQ = .slice a n k) ∧ ∃ a n k, vS = .slice a n k := by
  obtain ⟨⟨l1, h1, l2, h2, l3, h3, a, b, d, -⟩, -⟩ := h
  exact ⟨a.n.slice, a.u.slice, b.slice, sk.Own.form d⟩
theorem ownC_zero (w : World) (lo hi : Nat) (hh : hi ≤ w.heap.size) (hl : lo ≤ hi) : OwnC w lo hi (.slice none 0 0) (.slice none 0 0) (.slice none 0 0) (.slice none 0 0) Ch.zero :=
  ⟨⟨lo, lo, lo, lo, lo, lo, ⟨own_zero _ _ _ _ _, own_zero _ _ _ _ _⟩, own_zero _ _ _ _ _, sk.own_nil _ _ _ (by omega), ⟨by omega, by omega, by omega, by omega, by omega, by omega⟩, .inl (by omega), .inl (by omega), .inl (by omega)⟩, hh⟩
theorem cells7c {w : World} {b : Nat} {t : TypeId} {v0 v1 v2 v3 v4 v5 v6 : Value} (h : VBlk w b t [v0, v1, v2, v3, v4, v5, v6]) : w.cell? ⟨b, 0, none⟩ = some v0 ∧ w.cell? ⟨b, 1, none⟩ = some v1 ∧ w.cell? ⟨b, 2, none⟩ = some v2 ∧ w.cell? ⟨b, 3, none⟩ = some v3 ∧ w.cell? ⟨b, 4, none⟩ = some v4 ∧ w.cell? ⟨b, 5, none⟩ = some v5 ∧ w.cell? ⟨b, 6, none⟩ = some v6 :=
  ⟨h.cell 0 (by simp), h.cell 1 (by simp), h.cell 2 (by simp), h.cell 3 (by simp), h.cell 4 (by simp), h.cell 5 (by simp), h.cell 6 (by simp)⟩
theorem sizeCh : (Try.prog.info? 32).map (·.size) = some 7 := by kernel_rfl
theorem zeroCh (w : World) : (zeroValue 32).run Try.prog w = .ok (.agg [Value.int .i64 0, .slice none 0 0, .slice none 0 0, .int .i64 0, .slice none 0 0, .slice none 0 0, .int .i64 0].toArray) w := Try.zeroValue32 w
set_option maxRecDepth 100000 in
set_option maxHeartbeats 4000000 in
theorem specChoiceOk_any (c : Ch) (vN vU vQ vS : Value) (w : World) (h : RdC w vN vU vQ vS c) (y : Bool) (hy : Hid (chB c = y)) :
    Calls Try.prog 19 #[.agg #[.int .i64 c.K, vN, vU, .int .i64 c.R.A, vQ, vS, .int .i64 c.D]] w fun e w' => e = .returned (.bool y) ∧ Below w.heap.size w w' := by
  obtain ⟨K, ⟨N, U, A⟩, Q, S, D⟩ := c
  obtain ⟨aN, cN, rfl⟩ := h.r.n.form
  obtain ⟨aU, cU, rfl⟩ := h.r.u.form
  obtain ⟨aQ, cQ, rfl⟩ := h.q.form
  obtain ⟨aS, cS, rfl⟩ := sk_form h.s

  have R : Hid (RdC w (.slice aN N.length cN) (.slice aU U.length cU) (.slice aQ Q.length cQ) (.slice aS S.length cS) ⟨K, ⟨N, U, A⟩, Q, S, D⟩) := h
  clear h
  obtain ⟨zs, hzs⟩ := hid_ex (decide (sk.skOk S D))
  obtain ⟨zr, hzr⟩ := hid_ex (ringB ⟨N, U, A⟩)
  obtain ⟨zq, hzq⟩ := hid_ex (namesB Q)
  have hy2 : Hid (y = (zs && zr && zq && (decide (K = 1) && decide (Q.length = 0) || decide (K = 2) && decide (N.length = 0)))) := by
    unfold Hid
    rw [← hy.out, ← hzs.out, ← hzr.out, ← hzq.out]
    rfl
  clear hy
  have lQ := R.out.q.len
  have lN := R.out.r.n.len
  dsimp only at lQ lN
  cases zs with
  | false =>
    obtain rfl : y = false := by rw [hy2.out]; rfl
    clear hy2
    go_enter Try.func19, Try.ntmps19
    go_wp2_with (first | (refine wpList_box_v rfl 32 _ rfl [.int .i64 K, .slice aN N.length cN, .slice aU U.length cU, .int .i64 A, .slice aQ Q.length cQ, .slice aS S.length cS, .int .i64 D] rfl ?_; intro b1 w1 hb1 hw1 hB1 V1; obtain ⟨c10, c11, c12, c13, c14, c15, c16⟩ := cells7c V1; have hz1 := hB1.size) | (go_at_call 64; refine (sk.specSketchOk_any S D _ _ w1.heap.size (Nat.le_refl _) (R.out.grow hB1).s).mono ?_; rintro e w2 ⟨rfl, hB2⟩; rw [hzs.out]; have V2 := vblk_grow V1 hB2; clear c10 c11 c12 c13 c14 c15 c16; obtain ⟨c10, c11, c12, c13, c14, c15, c16⟩ := cells7c V2; have hB12 := hB1.trans (hB2.mono hz1); have hz2 := hB12.size) | (fail))
    go_ret
    exact ⟨rfl, hB12⟩
  | true =>
    cases zr with
    | false =>
      obtain rfl : y = false := by rw [hy2.out]; rfl
      clear hy2
      go_enter Try.func19, Try.ntmps19
      go_wp2_with (first | (refine wpList_box_v rfl 32 _ rfl [.int .i64 K, .slice aN N.length cN, .slice aU U.length cU, .int .i64 A, .slice aQ Q.length cQ, .slice aS S.length cS, .int .i64 D] rfl ?_; intro b1 w1 hb1 hw1 hB1 V1; obtain ⟨c10, c11, c12, c13, c14, c15, c16⟩ := cells7c V1; have hz1 := hB1.size) | (go_at_call 64; refine (sk.specSketchOk_any S D _ _ w1.heap.size (Nat.le_refl _) (R.out.grow hB1).s).mono ?_; rintro e w2 ⟨rfl, hB2⟩; rw [hzs.out]; have V2 := vblk_grow V1 hB2; clear c10 c11 c12 c13 c14 c15 c16; obtain ⟨c10, c11, c12, c13, c14, c15, c16⟩ := cells7c V2; have hB12 := hB1.trans (hB2.mono hz1); have hz2 := hB12.size) | (go_at_call 65; refine (specRingOk_any ⟨N, U, A⟩ _ _ _ (R.out.grow hB12).r).mono ?_; rintro e w3 ⟨rfl, hB3⟩; rw [hzr.out]; have V3 := vblk_grow V2 hB3; clear c10 c11 c12 c13 c14 c15 c16; obtain ⟨c10, c11, c12, c13, c14, c15, c16⟩ := cells7c V3; have hB13 := hB12.trans (hB3.mono hz2); have hz3 := hB13.size) | (fail))
      go_ret
      exact ⟨rfl, hB13⟩
    | true =>
      cases zq with
      | false =>
        obtain rfl : y = false := by rw [hy2.out]; rfl
        clear hy2
        go_enter Try.func19, Try.ntmps19
        go_wp2_with (first | (refine wpList_box_v rfl 32 _ rfl [.int .i64 K, .slice aN N.length cN, .slice aU U.length cU, .int .i64 A, .slice aQ Q.length cQ, .slice aS S.length cS, .int .i64 D] rfl ?_; intro b1 w1 hb1 hw1 hB1 V1; obtain ⟨c10, c11, c12, c13, c14, c15, c16⟩ := cells7c V1; have hz1 := hB1.size) | (go_at_call 64; refine (sk.specSketchOk_any S D _ _ w1.heap.size (Nat.le_refl _) (R.out.grow hB1).s).mono ?_; rintro e w2 ⟨rfl, hB2⟩; rw [hzs.out]; have V2 := vblk_grow V1 hB2; clear c10 c11 c12 c13 c14 c15 c16; obtain ⟨c10, c11, c12, c13, c14, c15, c16⟩ := cells7c V2; have hB12 := hB1.trans (hB2.mono hz1); have hz2 := hB12.size) | (go_at_call 65; refine (specRingOk_any ⟨N, U, A⟩ _ _ _ (R.out.grow hB12).r).mono ?_; rintro e w3 ⟨rfl, hB3⟩; rw [hzr.out]; have V3 := vblk_grow V2 hB3; clear c10 c11 c12 c13 c14 c15 c16; obtain ⟨c10, c11, c12, c13, c14, c15, c16⟩ := cells7c V3; have hB13 := hB12.trans (hB3.mono hz2); have hz3 := hB13.size) | (go_at_call 66; refine (specQueueOk_any Q _ _ (R.out.grow hB13).q R.out.qs).mono ?_; rintro e wq ⟨rfl, hq⟩; subst wq; rw [hzq.out]) | (fail))
        go_ret
        exact ⟨rfl, hB13⟩
      | true =>
        go_enter Try.func19, Try.ntmps19
        go_upto_region 3 with (first | (refine wpList_box_v rfl 32 _ rfl [.int .i64 K, .slice aN N.length cN, .slice aU U.length cU, .int .i64 A, .slice aQ Q.length cQ, .slice aS S.length cS, .int .i64 D] rfl ?_; intro b1 w1 hb1 hw1 hB1 V1; obtain ⟨c10, c11, c12, c13, c14, c15, c16⟩ := cells7c V1; have hz1 := hB1.size) | (go_at_call 64; refine (sk.specSketchOk_any S D _ _ w1.heap.size (Nat.le_refl _) (R.out.grow hB1).s).mono ?_; rintro e w2 ⟨rfl, hB2⟩; rw [hzs.out]; have V2 := vblk_grow V1 hB2; clear c10 c11 c12 c13 c14 c15 c16; obtain ⟨c10, c11, c12, c13, c14, c15, c16⟩ := cells7c V2; have hB12 := hB1.trans (hB2.mono hz1); have hz2 := hB12.size) | (go_at_call 65; refine (specRingOk_any ⟨N, U, A⟩ _ _ _ (R.out.grow hB12).r).mono ?_; rintro e w3 ⟨rfl, hB3⟩; rw [hzr.out]; have V3 := vblk_grow V2 hB3; clear c10 c11 c12 c13 c14 c15 c16; obtain ⟨c10, c11, c12, c13, c14, c15, c16⟩ := cells7c V3; have hB13 := hB12.trans (hB3.mono hz2); have hz3 := hB13.size) | (go_at_call 66; refine (specQueueOk_any Q _ _ (R.out.grow hB13).q R.out.qs).mono ?_; rintro e wq ⟨rfl, hq⟩; subst wq; rw [hzq.out]) | (fail))
        by_cases k1 : K = 1
        · have u1 : (K == 1) = true := by rw [k1]; rfl
          have u2 : (K == 2) = false := by rw [k1]; rfl
          have k2 : ¬ K = 2 := by omega
          by_cases hq0 : Q.length = 0
          · have q1 : ((Q.length : Int) == 0) = true := by rw [hq0]; rfl
            obtain rfl : y = true := by rw [hy2.out]; rw [decide_eq_true k1, decide_eq_true hq0]; rfl
            clear hy2
            go_wp2
            go_ret
            exact ⟨rfl, hB13⟩
          · have q1 : ((Q.length : Int) == 0) = false := by simpa using hq0
            obtain rfl : y = false := by rw [hy2.out]; rw [decide_eq_false hq0, decide_eq_false k2]; cases decide (K = 1) <;> rfl
            clear hy2
            go_wp2
            go_ret
            exact ⟨rfl, hB13⟩
        · have u1 : (K == 1) = false := by simpa using k1
          by_cases k2 : K = 2
          · have u2 : (K == 2) = true := by rw [k2]; rfl
            by_cases hn0 : N.length = 0
            · have q1 : ((N.length : Int) == 0) = true := by rw [hn0]; rfl
              obtain rfl : y = true := by rw [hy2.out]; rw [decide_eq_false k1, decide_eq_true k2, decide_eq_true hn0]; rfl
              clear hy2
              go_wp2
              go_ret
              exact ⟨rfl, hB13⟩
            · have q1 : ((N.length : Int) == 0) = false := by simpa using hn0
              obtain rfl : y = false := by rw [hy2.out]; rw [decide_eq_false k1, decide_eq_false hn0]; cases decide (K = 2) <;> rfl
              clear hy2
              go_wp2
              go_ret
              exact ⟨rfl, hB13⟩
          · have u2 : (K == 2) = false := by simpa using k2
            obtain rfl : y = false := by rw [hy2.out]; rw [decide_eq_false k1, decide_eq_false k2]; rfl
            clear hy2
            go_wp2
            go_ret
            exact ⟨rfl, hB13⟩
set_option maxRecDepth 100000 in
theorem implOneWay_any (c : Ch) (vN vU vQ vS : Value) (w : World) (h : RdC w vN vU vQ vS c) :
    Calls Try.prog 92 #[.agg #[.int .i64 c.K, vN, vU, .int .i64 c.R.A, vQ, vS, .int .i64 c.D]] w fun e w' => e = .returned (.bool (wayB c)) ∧ Below w.heap.size w w' := by
  obtain ⟨K, ⟨N, U, A⟩, Q, S, D⟩ := c
  obtain ⟨aN, cN, rfl⟩ := h.r.n.form
  obtain ⟨aU, cU, rfl⟩ := h.r.u.form
  obtain ⟨aQ, cQ, rfl⟩ := h.q.form
  obtain ⟨aS, cS, rfl⟩ := sk_form h.s

  clear h
  obtain ⟨y, hy⟩ := hid_ex (wayB ⟨K, ⟨N, U, A⟩, Q, S, D⟩)
  rw [hy.out]
  unfold wayB at hy
  dsimp only at hy
  by_cases k1 : K = 1
  · have u1 : (K == 1) = true := by rw [k1]; rfl
    have u2 : (K == 2) = false := by rw [k1]; rfl
    have k2 : Hid (¬ K = 2) := by unfold Hid; omega
    replace k1 : Hid (K = 1) := k1
    by_cases hq0 : Q.length = 0
    · have q1 : ((Q.length : Int) == 0) = true := by rw [hq0]; rfl
      replace hq0 : Hid (Q.length = 0) := hq0
      obtain rfl : y = true := by rw [← hy.out]; rw [decide_eq_true k1.out, decide_eq_true hq0.out]; rfl
      clear hy
      go_enter Try.func92, Try.ntmps92
      go_wp2_with (first | (refine wpList_box_v rfl 32 _ rfl [.int .i64 K, .slice aN N.length cN, .slice aU U.length cU, .int .i64 A, .slice aQ Q.length cQ, .slice aS S.length cS, .int .i64 D] rfl ?_; intro b1 w1 hb1 hw1 hB1 V1; obtain ⟨c10, c11, c12, c13, c14, c15, c16⟩ := cells7c V1; have hz1 := hB1.size) | (fail))
      go_ret
      exact ⟨rfl, hB1⟩
    · have q1 : ((Q.length : Int) == 0) = false := by simpa using hq0
      replace hq0 : Hid (¬ Q.length = 0) := hq0
      obtain rfl : y = false := by rw [← hy.out]; rw [decide_eq_false hq0.out, decide_eq_false k2.out]; cases decide (K = 1) <;> rfl
      clear hy
      go_enter Try.func92, Try.ntmps92
      go_wp2_with (first | (refine wpList_box_v rfl 32 _ rfl [.int .i64 K, .slice aN N.length cN, .slice aU U.length cU, .int .i64 A, .slice aQ Q.length cQ, .slice aS S.length cS, .int .i64 D] rfl ?_; intro b1 w1 hb1 hw1 hB1 V1; obtain ⟨c10, c11, c12, c13, c14, c15, c16⟩ := cells7c V1; have hz1 := hB1.size) | (fail))
      go_ret
      exact ⟨rfl, hB1⟩
  · have u1 : (K == 1) = false := by simpa using k1
    by_cases k2 : K = 2
    · have u2 : (K == 2) = true := by rw [k2]; rfl
      by_cases hn0 : N.length = 0
      · have q1 : ((N.length : Int) == 0) = true := by rw [hn0]; rfl
        replace hn0 : Hid (N.length = 0) := hn0
        obtain rfl : y = true := by rw [← hy.out]; rw [decide_eq_false k1, decide_eq_true k2, decide_eq_true hn0.out]; rfl
        clear hy
        go_enter Try.func92, Try.ntmps92
        go_wp2_with (first | (refine wpList_box_v rfl 32 _ rfl [.int .i64 K, .slice aN N.length cN, .slice aU U.length cU, .int .i64 A, .slice aQ Q.length cQ, .slice aS S.length cS, .int .i64 D] rfl ?_; intro b1 w1 hb1 hw1 hB1 V1; obtain ⟨c10, c11, c12, c13, c14, c15, c16⟩ := cells7c V1; have hz1 := hB1.size) | (fail))
        go_ret
        exact ⟨rfl, hB1⟩
      · have q1 : ((N.length : Int) == 0) = false := by simpa using hn0
        replace hn0 : Hid (¬ N.length = 0) := hn0
        obtain rfl : y = false := by rw [← hy.out]; rw [decide_eq_false k1, decide_eq_false hn0.out]; cases decide (K = 2) <;> rfl
        clear hy
        go_enter Try.func92, Try.ntmps92
        go_wp2_with (first | (refine wpList_box_v rfl 32 _ rfl [.int .i64 K, .slice aN N.length cN, .slice aU U.length cU, .int .i64 A, .slice aQ Q.length cQ, .slice aS S.length cS, .int .i64 D] rfl ?_; intro b1 w1 hb1 hw1 hB1 V1; obtain ⟨c10, c11, c12, c13, c14, c15, c16⟩ := cells7c V1; have hz1 := hB1.size) | (fail))
        go_ret
        exact ⟨rfl, hB1⟩
    · have u2 : (K == 2) = false := by simpa using k2
      obtain rfl : y = false := by rw [← hy.out]; rw [decide_eq_false k1, decide_eq_false k2]; rfl
      clear hy
      go_enter Try.func92, Try.ntmps92
      go_wp2_with (first | (refine wpList_box_v rfl 32 _ rfl [.int .i64 K, .slice aN N.length cN, .slice aU U.length cU, .int .i64 A, .slice aQ Q.length cQ, .slice aS S.length cS, .int .i64 D] rfl ?_; intro b1 w1 hb1 hw1 hB1 V1; obtain ⟨c10, c11, c12, c13, c14, c15, c16⟩ := cells7c V1; have hz1 := hB1.size) | (fail))
      go_ret
      exact ⟨rfl, hB1⟩

end Go.Proofs.Ytmnjmghlkiljhaa.rg
/- Contracts: the model's rings: a copy; one text is cut out. -/
namespace Go.Proofs.Ytmnjmghlkiljhaa.rg
open Go.ChangeShapes Go.WideShapes Go.ChangeAt Go.RowKit
open Go.Proofs.Ytmnjmghlkiljhaa.ce Go.Proofs.Ytmnjmghlkiljhaa.ro
set_option linter.unusedVariables false

/-- while a ring is copied: the one in b1 is read, the new one lies in b2 -/
structure Cpy (w : World) (b1 b2 : Nat) (vs : List Value) (w' : World) : Prop where
  low : Below w.heap.size w w'
  src : VBlk w' b1 27 vs
  var : ∃ x y z, VBlk w' b2 27 [x, y, z]
theorem cs_of {w w' : World} {b1 b2 : Nat} {u v x : Value} (h : Cpy w b1 b2 [u, v, x] w') : w'.cell? ⟨b1, 0, none⟩ = some u ∧ w'.cell? ⟨b1, 1, none⟩ = some v ∧ w'.cell? ⟨b1, 2, none⟩ = some x ∧ Cpy w b1 b2 [u, v, x] w' :=
  ⟨(cells3 h.src).1, (cells3 h.src).2.1, (cells3 h.src).2.2, h⟩
theorem cs_alloc {w w' : World} {b1 b2 : Nat} {u v x : Value} {o : Obj} (h : w'.cell? ⟨b1, 0, none⟩ = some u ∧ w'.cell? ⟨b1, 1, none⟩ = some v ∧ w'.cell? ⟨b1, 2, none⟩ = some x ∧ Cpy w b1 b2 [u, v, x] w') :
    (w'.alloc o).cell? ⟨b1, 0, none⟩ = some u ∧ (w'.alloc o).cell? ⟨b1, 1, none⟩ = some v ∧ (w'.alloc o).cell? ⟨b1, 2, none⟩ = some x ∧ Cpy w b1 b2 [u, v, x] (w'.alloc o) := by
  obtain ⟨-, -, -, h1, h2, x, y, z, h3⟩ := h
  have hb : Below w'.heap.size w' (w'.alloc o) := (Below.refl _ _).alloc (Nat.le_refl _) _
  exact cs_of ⟨h1.alloc h1.size _, vblk_grow h2 hb, x, y, z, vblk_grow h3 hb⟩
theorem cs_alloc_drew {w w' : World} {b1 b2 : Nat} {u v x : Value} {o : Obj} (h : w'.drew.cell? ⟨b1, 0, none⟩ = some u ∧ w'.drew.cell? ⟨b1, 1, none⟩ = some v ∧ w'.drew.cell? ⟨b1, 2, none⟩ = some x ∧ Cpy w b1 b2 [u, v, x] w'.drew) :
    (w'.alloc o).drew.cell? ⟨b1, 0, none⟩ = some u ∧ (w'.alloc o).drew.cell? ⟨b1, 1, none⟩ = some v ∧ (w'.alloc o).drew.cell? ⟨b1, 2, none⟩ = some x ∧ Cpy w b1 b2 [u, v, x] (w'.alloc o).drew := cs_alloc (w' := w'.drew) (o := o) h
theorem cs_ty {w w' w'' : World} {b1 b2 lo : Nat} {t : TypeId} {u v x : Value} (hT : Ty lo t w' w'') (hlo : w.heap.size ≤ lo) (ht : 27 ≠ t) (h : w'.cell? ⟨b1, 0, none⟩ = some u ∧ w'.cell? ⟨b1, 1, none⟩ = some v ∧ w'.cell? ⟨b1, 2, none⟩ = some x ∧ Cpy w b1 b2 [u, v, x] w') :
    w''.cell? ⟨b1, 0, none⟩ = some u ∧ w''.cell? ⟨b1, 1, none⟩ = some v ∧ w''.cell? ⟨b1, 2, none⟩ = some x ∧ Cpy w b1 b2 [u, v, x] w'' := by
  obtain ⟨-, -, -, h1, h2, x, y, z, h3⟩ := h
  exact cs_of ⟨h1.trans (hT.low.mono hlo), hT.vblk h2 ht, x, y, z, hT.vblk h3 ht⟩
theorem cs_low {w w' : World} {b1 b2 : Nat} {u v x : Value} (h : w'.cell? ⟨b1, 0, none⟩ = some u ∧ w'.cell? ⟨b1, 1, none⟩ = some v ∧ w'.cell? ⟨b1, 2, none⟩ = some x ∧ Cpy w b1 b2 [u, v, x] w') : Below w.heap.size w w' := h.2.2.2.low
theorem cs_size {w w' : World} {b1 b2 : Nat} {u v x : Value} (h : w'.cell? ⟨b1, 0, none⟩ = some u ∧ w'.cell? ⟨b1, 1, none⟩ = some v ∧ w'.cell? ⟨b1, 2, none⟩ = some x ∧ Cpy w b1 b2 [u, v, x] w') : w.heap.size ≤ w'.heap.size := h.2.2.2.low.size
theorem cs_store {w w' : World} {b1 b2 : Nat} {u v x y0 y1 y2 : Value} (hn : b1 ≠ b2) (hlo : w.heap.size ≤ b2) (h : w'.cell? ⟨b1, 0, none⟩ = some u ∧ w'.cell? ⟨b1, 1, none⟩ = some v ∧ w'.cell? ⟨b1, 2, none⟩ = some x ∧ Cpy w b1 b2 [u, v, x] w') :
    (((w'.setCell ⟨b2, 0, none⟩ y0).setCell ⟨b2, 1, none⟩ y1).setCell ⟨b2, 2, none⟩ y2).cell? ⟨b1, 0, none⟩ = some u ∧ (((w'.setCell ⟨b2, 0, none⟩ y0).setCell ⟨b2, 1, none⟩ y1).setCell ⟨b2, 2, none⟩ y2).cell? ⟨b1, 1, none⟩ = some v ∧ (((w'.setCell ⟨b2, 0, none⟩ y0).setCell ⟨b2, 1, none⟩ y1).setCell ⟨b2, 2, none⟩ y2).cell? ⟨b1, 2, none⟩ = some x ∧ Cpy w b1 b2 [u, v, x] (((w'.setCell ⟨b2, 0, none⟩ y0).setCell ⟨b2, 1, none⟩ y1).setCell ⟨b2, 2, none⟩ y2) := by
  obtain ⟨-, -, -, h1, h2, x, y, z, h3⟩ := h
  have o1 := only_set w' b2 0 y0
  have o2 := only_set (w'.setCell ⟨b2, 0, none⟩ y0) b2 1 y1
  have o3 := only_set ((w'.setCell ⟨b2, 0, none⟩ y0).setCell ⟨b2, 1, none⟩ y1) b2 2 y2
  refine cs_of ⟨((h1.trans (o1.2.2 _ hlo)).trans (o2.2.2 _ hlo)).trans (o3.2.2 _ hlo), vblk_only (vblk_only (vblk_only h2 o1 hn) o2 hn) o3 hn, y0, y1, y2, ?_⟩
  have := ((h3.set 0 y0).set 1 y1).set 2 y2
  simpa using this
theorem own_store {α : Type} {E : Enc α} {w' : World} {b2 lo hi : Nat} {y0 y1 y2 v : Value} {vs : List Value} {xs : List α} (o : Own E w' lo hi v xs) (hv : VBlk w' b2 27 vs) (ht : E.t ≠ 27) : Own E (((w'.setCell ⟨b2, 0, none⟩ y0).setCell ⟨b2, 1, none⟩ y1).setCell ⟨b2, 2, none⟩ y2) lo hi v xs :=
  ((o.only (only_set _ _ _ _) hv ht).only (only_set _ _ _ _) (hv.set 0 y0) ht).only (only_set _ _ _ _) ((hv.set 0 y0).set 1 y1) ht

theorem copy_end {w' : World} {b2 : Nat} {q0 q1 q2 y0 y1 y2 : Value} (hv : VBlk w' b2 27 [q0, q1, q2]) : VBlk (((w'.setCell ⟨b2, 0, none⟩ y0).setCell ⟨b2, 1, none⟩ y1).setCell ⟨b2, 2, none⟩ y2) b2 27 [y0, y1, y2] := by simpa using ((hv.set 0 y0).set 1 y1).set 2 y2

set_option maxRecDepth 100000 in
set_option maxHeartbeats 2000000 in
theorem l8Copy_any (r : Rg) (vN vU : Value) (w : World) (h : RdR w vN vU r) (hN : r.N.length ≤ 1000000) (hU : r.U.length ≤ 1000000) :
    Calls Try.prog 106 #[.agg #[vN, vU, .int .i64 r.A]] w fun e w' => ∃ vN' vU', e = .returned (.agg #[vN', vU', .int .i64 r.A]) ∧ OwnR w' w.heap.size w'.heap.size vN' vU' r ∧ Below w.heap.size w w' := by
  obtain ⟨N, U, A⟩ := r
  obtain ⟨a, cap, rfl⟩ := h.n.form
  obtain ⟨c, dc, rfl⟩ := h.u.form
  have R : Hid (RdR w (.slice a N.length cap) (.slice c U.length dc) ⟨N, U, A⟩) := h
  clear h
  dsimp only at hN hU ⊢
  have m1 : Hid True := trivial
  go_enter Try.func106, Try.ntmps106
  go_wp2_with (first | (clear m1; refine wpList_box_v rfl 27 _ rfl [.slice a N.length cap, .slice c U.length dc, .int .i64 A] rfl ?_; intro b1 w1 hb1 hw1 hB1 hV1; have hz1 := hB1.size) | (refine wpList_alloc_v rfl 27 rfl _ zeroRg ?_; intro b2 w2 hb2 hw2 hB2 hV2; have hz2 := hB2.size; have hB12 : Below w.heap.size w w2 := hB1.trans (hB2.mono hz1)) | (fail))
  have S1 := cs_of (w := w) (b1 := b1) (b2 := b2) (w' := w2.drew) ⟨hB12.drew, hV1.of (hB2.block b1 hw1), _, _, _, hV2⟩
  have hne : b1 ≠ b2 := by omega
  have hlo : w.heap.size ≤ b2 := by omega
  go_region_held3 (fun w' => w'.cell? ⟨b1, 0, none⟩ = some (.slice a N.length cap) ∧ w'.cell? ⟨b1, 1, none⟩ = some (.slice c U.length dc) ∧ w'.cell? ⟨b1, 2, none⟩ = some (.int .i64 A) ∧ Cpy w b1 b2 [.slice a N.length cap, .slice c U.length dc, .int .i64 A] w') (first | with_reducible assumption | with_reducible exact cs_store hne hlo (by assumption) | with_reducible exact cs_alloc (by assumption) | with_reducible exact cs_alloc_drew (by assumption) | (fail)) (first | (refine step_append_g infoS rfl _ _ 24 rfl Try.underlying24 w.heap.size 0 _ [] rfl (own_zero _ _ _ _ _) (cs_size (by with_reducible assumption)) _ N rfl (R.out.n.grow (cs_low (by with_reducible assumption))) (by simp; omega) ?_; intro v5 W5 o5 hT5; rw [List.nil_append] at o5; have hS5 := cs_ty hT5 (Nat.le_refl _) (by decide) (by with_reducible assumption); (try replace o6 := hT5.own (E := encB) (by first | exact o6 | exact o6.grow ((Below.refl _ _).alloc (Nat.le_refl _) _)) (by decide)); obtain ⟨q0, q1, q2, hv⟩ := hS5.2.2.2.var; obtain ⟨g0, g1, g2⟩ := cells3 hv; have f0 := hv.frozen 0; have f1 := hv.frozen 1; have f2 := hv.frozen 2; obtain ⟨a5, n5, k5, rfl⟩ := o5.slice) | (refine step_append_g infoB rfl _ _ 25 rfl Try.underlying25 w.heap.size 0 _ [] rfl (own_zero _ _ _ _ _) (cs_size (by with_reducible assumption)) _ U rfl (R.out.u.grow (cs_low (by with_reducible assumption))) (by simp; omega) ?_; intro v6 W6 o6 hT6; rw [List.nil_append] at o6; have hS6 := cs_ty hT6 (Nat.le_refl _) (by decide) (by with_reducible assumption); (try replace o5 := hT6.own (E := encS) (by first | exact o5 | exact o5.grow ((Below.refl _ _).alloc (Nat.le_refl _) _)) (by decide)); obtain ⟨q0, q1, q2, hv⟩ := hS6.2.2.2.var; obtain ⟨g0, g1, g2⟩ := cells3 hv; have f0 := hv.frozen 0; have f1 := hv.frozen 1; have f2 := hv.frozen 2; obtain ⟨a6, n6, k6, rfl⟩ := o6.slice) | (fail))
  all_goals
    go_wp2
    exact row_retv rfl rfl (copy_end hv) Try.underlying27 sizeRg rfl ⟨_, _, rfl, ⟨(own_store o5 hv (by decide)).top, (own_store o6 hv (by decide)).top⟩, cs_low (by with_reducible assumption)⟩
end Go.Proofs.Ytmnjmghlkiljhaa.rg
/- Contracts: the model's rings in their variable: who joins, who is used; a text is cut out. -/
namespace Go.Proofs.Ytmnjmghlkiljhaa.rg
open Go.ChangeShapes Go.WideShapes Go.ChangeAt Go.RowKit
open Go.Proofs.Ytmnjmghlkiljhaa.ce Go.Proofs.Ytmnjmghlkiljhaa.ro
set_option linter.unusedVariables false

/-- of the blocks that were there only b, and from lo on rows of texts and truths, may be turned -/
structure Tn (lo b : Nat) (w w' : World) : Prop where
  os : w'.os = w.os
  tape : w'.tape = w.tape
  output : w'.output = w.output
  size : w.heap.size ≤ w'.heap.size
  low : ∀ k, k < lo → k ≠ b → w'.heap[k]? = w.heap[k]?
  keep : ∀ (k : Nat) (cur : Array Value) (t : TypeId) (f : Nat × Nat), w.heap[k]? = some (.cells cur t f) → k ≠ b → t ≠ 9 → t ≠ 4 → w'.heap[k]? = w.heap[k]?
theorem Tn.refl (lo b : Nat) (w : World) : Tn lo b w w := ⟨rfl, rfl, rfl, Nat.le_refl _, fun _ _ _ => rfl, fun _ _ _ _ _ _ _ _ => rfl⟩
theorem Tn.trans {lo b : Nat} {x y z : World} (h : Tn lo b x y) (k : Tn lo b y z) : Tn lo b x z :=
  ⟨k.os.trans h.os, k.tape.trans h.tape, k.output.trans h.output, Nat.le_trans h.size k.size, fun j h1 h2 => (k.low j h1 h2).trans (h.low j h1 h2), fun j cur t f hj h1 h2 h3 => (k.keep j cur t f (by rw [h.keep j cur t f hj h1 h2 h3]; exact hj) h1 h2 h3).trans (h.keep j cur t f hj h1 h2 h3)⟩
theorem Tn.of_below {lo b : Nat} {w w' : World} (h : Below w.heap.size w w') (hl : lo ≤ w.heap.size) : Tn lo b w w' := ⟨h.os, h.tape, h.output, h.size, fun k h1 _ => h.block k (by omega), fun k cur t f hk _ _ _ => h.block k (Array.getElem?_eq_some_iff.1 hk).1⟩
theorem Tn.of_ty {lo b : Nat} {t : TypeId} {w w' : World} (h : Ty lo t w w') (ht : t = 9 ∨ t = 4) : Tn lo b w w' := ⟨h.low.os, h.low.tape, h.low.output, h.low.size, fun k h1 _ => h.low.block k h1, fun k cur t' f hk _ h1 h2 => h.keep k cur t' f hk (by rcases ht with rfl | rfl <;> assumption)⟩
theorem Tn.of_only {lo b : Nat} {w w' : World} (h : Only b w w') : Tn lo b w w' := by
  have h0 := h.2.2 0 (Nat.zero_le _)
  exact ⟨h0.os, h0.tape, h0.output, h0.size, fun k _ h2 => h.2.1 k h2, fun k cur t f _ h2 _ _ => h.2.1 k h2⟩
theorem Tn.below {lo b B : Nat} {w w' : World} (h : Tn lo b w w') (h1 : B ≤ lo) (h2 : B ≤ b) : Below B w w' := ⟨h.os, h.tape, h.output, h.size, fun k hk => h.low k (by omega) (by omega)⟩
theorem Tn.vblk {lo b b' : Nat} {w w' : World} {t : TypeId} {vs : List Value} (h : Tn lo b w w') (hb : VBlk w b' t vs) (hn : b' ≠ b) (h1 : t ≠ 9) (h2 : t ≠ 4) : VBlk w' b' t vs := hb.of (h.keep b' _ t _ hb hn h1 h2)

section laws
variable {ops : Array Oper} {rest : List Oper} {o : Oper} {a : Act} {w : World} {Q : Exit → Act → World → Prop} {K : Act → World → Prop} {X : Prop}
theorem wpList_store_ss (hgd : o.guard = none) (x y : Operand) (ho : o.op = .store 24 x y) (b j : Nat) (va : Option Addr) (vn vc : Nat) (hx : a.eval x = .pointer (some ⟨b, j, none⟩)) (hy : a.eval y = .slice va vn vc)
    {t : TypeId} {vs : List Value} (hb : VBlk w b t vs) (hj : j < vs.length)
    (h : ∀ w', Only b w w' → VBlk w' b t (vs.set j (.slice va vn vc)) → wpList Try.prog ops Q rest (a.put o.dst undef) w') : wpList Try.prog ops Q (o :: rest) a w := by
  have hc := hb.cell j hj
  have hf : w.frozen? ⟨b, j, none⟩ = false := hb.frozen _
  refine wpList_skp hgd (w' := w.setCell ⟨b, j, none⟩ (.slice va vn vc)) ?_ (h _ (only_set _ _ _ _) (hb.set j _))
  unfold execOp
  simp only [ho, hx, hy]
  simp [go_sem, hc, hf]
theorem wpList_store_bs (hgd : o.guard = none) (x y : Operand) (ho : o.op = .store 25 x y) (b j : Nat) (va : Option Addr) (vn vc : Nat) (hx : a.eval x = .pointer (some ⟨b, j, none⟩)) (hy : a.eval y = .slice va vn vc)
    {t : TypeId} {vs : List Value} (hb : VBlk w b t vs) (hj : j < vs.length)
    (h : ∀ w', Only b w w' → VBlk w' b t (vs.set j (.slice va vn vc)) → wpList Try.prog ops Q rest (a.put o.dst undef) w') : wpList Try.prog ops Q (o :: rest) a w := by
  have hc := hb.cell j hj
  have hf : w.frozen? ⟨b, j, none⟩ = false := hb.frozen _
  refine wpList_skp hgd (w' := w.setCell ⟨b, j, none⟩ (.slice va vn vc)) ?_ (h _ (only_set _ _ _ _) (hb.set j _))
  unfold execOp
  simp only [ho, hx, hy]
  simp [go_sem, hc, hf]
theorem wpList_store_n (hgd : o.guard = none) (x y : Operand) (ho : o.op = .store 2 x y) (b j : Nat) (z : Int) (hx : a.eval x = .pointer (some ⟨b, j, none⟩)) (hy : a.eval y = .int .i64 z)
    {t : TypeId} {vs : List Value} (hb : VBlk w b t vs) (hj : j < vs.length)
    (h : ∀ w', Only b w w' → VBlk w' b t (vs.set j (.int .i64 z)) → wpList Try.prog ops Q rest (a.put o.dst undef) w') : wpList Try.prog ops Q (o :: rest) a w := by
  have hc := hb.cell j hj
  have hf : w.frozen? ⟨b, j, none⟩ = false := hb.frozen _
  refine wpList_skp hgd (w' := w.setCell ⟨b, j, none⟩ (.int .i64 z)) ?_ (h _ (only_set _ _ _ _) (hb.set j _))
  unfold execOp
  simp only [ho, hx, hy]
  simp [go_sem, hc, hf]
/-- a truth is stored into a row of one's own -/
theorem wpList_store_tb (hgd : o.guard = none) (x y : Operand) (ho : o.op = .store 4 x y) (g i : Nat) (z : Bool) (hx : a.eval x = .pointer (some ⟨g, i, none⟩)) (hy : a.eval y = .bool z)
    {lo hi n cap : Nat} {xs : List Bool} (own : Own encB w lo hi (.slice (some ⟨g, 0, none⟩) n cap) xs) (hj : i < xs.length)
    (h : ∀ w', Own encB w' lo hi (.slice (some ⟨g, 0, none⟩) n cap) (xs.set i z) → Ty lo 4 w w' → wpList Try.prog ops Q rest (a.put o.dst undef) w') : wpList Try.prog ops Q (o :: rest) a w := by
  obtain ⟨g', e, hg, hc, hf⟩ := ownB_cell own i hj
  cases e
  have hT : Ty lo 4 w (w.setCell ⟨g, i, none⟩ (.bool z)) := by
    rcases own.row with ⟨rfl, -⟩ | ⟨g2, cap2, cur, e2, -, hb, -⟩
    · simp at hj
    · cases e2
      exact ⟨(only_set w g i _).2.2 _ hg.1, fun k cur' t' f hk hn => (only_set w g i _).2.1 k fun e => by
        rw [e, hb] at hk
        simp at hk
        exact hn hk.2.1.symm⟩
  refine wpList_skp hgd (w' := w.setCell ⟨g, i, none⟩ (.bool z)) ?_ (h _ (ownB_set own i hj z) hT)
  unfold execOp
  simp only [ho, hx, hy]
  simp [go_sem, hc, hf]
end laws

theorem rdB_rest {w : World} {b off n cap : Nat} {xs : List Bool} (r : Rd encB w (.slice (some ⟨b, off, none⟩) n cap) xs) (m : Nat) (hm : m ≤ xs.length) :
    Rd encB w (.slice (if cap = m then some ⟨b, off, none⟩ else some ⟨b, off + m, none⟩) (n - m) (cap - m)) (xs.drop m) := by
  rcases r.rest m hm with ⟨h1, h2⟩ | ⟨h1, h2, h3, h4⟩
  · rw [if_neg (by omega)]
    simpa [encB] using h2.out
  · rw [if_pos h1.symm, h1, h2, h1, Nat.sub_self, ← h1]
    exact h4.out

theorem mayB_false1 {r : Rg} {s : ByteArray} (h : nameB s = false) : mayB r s = false := by unfold mayB; rw [h]; rfl
theorem mayB_false2 {r : Rg} {s : ByteArray} (h : 0 ≤ posS s r.N) : mayB r s = false := by unfold mayB; rw [decide_eq_false (by omega)]; simp
theorem mayB_false3 {r : Rg} {s : ByteArray} (h : r.N.length = 20) : mayB r s = false := by unfold mayB; rw [h]; simp
theorem mayB_true {r : Rg} {s : ByteArray} (h1 : nameB s = true) (h2 : ¬ 0 ≤ posS s r.N) (h3 : ¬ r.N.length = 20) : mayB r s = true := by
  unfold mayB; rw [h1, decide_eq_true (by omega)]; simpa using h3
/-- what a ring is behind a try to join -/
def joinR (r : Rg) (s : ByteArray) : Rg := if mayB r s = true then joined r s else r

set_option maxRecDepth 100000 in
set_option maxHeartbeats 1000000 in
theorem l8Join_any (r : Rg) (s : ByteArray) (hs : s.size ≤ 9223372036854775807) (vN vU : Value) (b lo hi : Nat) (w : World) (own : OwnR w lo hi vN vU r) (hV : VBlk w b 27 [vN, vU, .int .i64 r.A]) (hlo : lo ≤ w.heap.size) (hN : r.N.length ≤ 1000000) (hU : r.U.length ≤ 1000000) :
    Calls Try.prog 111 #[.pointer (some ⟨b, 0, none⟩), .string s] w fun e w' => e = .returned (.bool (mayB r s)) ∧ ∃ vN' vU', OwnR w' lo w'.heap.size vN' vU' (joinR r s) ∧ VBlk w' b 27 [vN', vU', .int .i64 r.A] ∧ Tn lo b w w' := by
  obtain ⟨N, U, A⟩ := r
  obtain ⟨a, n, cap, rfl⟩ := own.n.slice
  obtain ⟨c, m, dc, rfl⟩ := own.u.slice
  have hn : Hid (n = N.length) := own.n.rd.cap.1
  have O : Hid (OwnR w lo hi (.slice a n cap) (.slice c m dc) ⟨N, U, A⟩) := own
  have hbl := hV.lt
  have V : Hid (VBlk w b 27 [.slice a n cap, .slice c m dc, .int .i64 A]) := hV
  obtain ⟨c0, c1, c2⟩ := cells3 hV
  dsimp only at hN hU ⊢
  clear own hV
  obtain ⟨y, hy⟩ := hid_ex (mayB ⟨N, U, A⟩ s)
  obtain ⟨p, hp⟩ := hid_ex (posS s N)
  cases hnm : nameB s with
  | false =>
    have ey := hy.out.symm.trans (mayB_false1 (r := ⟨N, U, A⟩) hnm)
    unfold joinR
    rw [hy.out, ey, if_neg Bool.false_ne_true]
    go_enter Try.func111, Try.ntmps111
    go_wp2_with (first | (go_at_call 25; refine (specNameOk_any _ hs _).mono ?_; rintro e wq ⟨rfl, hq⟩; subst wq; rw [hnm]) | (fail))
    go_ret
    exact ⟨rfl, _, _, O.out.top, V.out, Tn.refl _ _ _⟩
  | true =>
    by_cases hp0 : 0 ≤ p
    · have ey := hy.out.symm.trans (mayB_false2 (r := ⟨N, U, A⟩) (by rw [hp.out]; exact hp0))
      have hpg : p ≥ 0 := hp0
      unfold joinR
      rw [hy.out, ey, if_neg Bool.false_ne_true]
      go_enter Try.func111, Try.ntmps111
      go_wp2_with (first | (go_at_call 25; refine (specNameOk_any _ hs _).mono ?_; rintro e wq ⟨rfl, hq⟩; subst wq; rw [hnm]) | (go_at_call 137; refine (l1At_any N _ _ _ O.out.n.rd).mono ?_; rintro e wq ⟨rfl, hq⟩; subst wq; rw [hp.out]) | (fail))
      go_ret
      exact ⟨rfl, _, _, O.out.top, V.out, Tn.refl _ _ _⟩
    · have hpg : ¬ p ≥ 0 := hp0
      by_cases h20 : n = 20
      · have ey := hy.out.symm.trans (mayB_false3 (r := ⟨N, U, A⟩) (hn.out.symm.trans h20))
        have h20b : ((n : Int) == 20) = true := by simp; omega
        unfold joinR
        rw [hy.out, ey, if_neg Bool.false_ne_true]
        clear h20
        go_enter Try.func111, Try.ntmps111
        go_wp2_with (first | (go_at_call 25; refine (specNameOk_any _ hs _).mono ?_; rintro e wq ⟨rfl, hq⟩; subst wq; rw [hnm]) | (go_at_call 137; refine (l1At_any N _ _ _ O.out.n.rd).mono ?_; rintro e wq ⟨rfl, hq⟩; subst wq; rw [hp.out]) | (fail))
        go_ret
        exact ⟨rfl, _, _, O.out.top, V.out, Tn.refl _ _ _⟩
      · have ey := hy.out.symm.trans (mayB_true (r := ⟨N, U, A⟩) hnm (by rw [hp.out]; exact hp0) (fun q => h20 (hn.out.trans q)))
        have h20b : ((n : Int) == 20) = false := by simp; omega
        unfold joinR
        rw [hy.out, ey, if_pos rfl]
        unfold joined
        dsimp only
        have m1 : Hid True := trivial
        have m2 : Hid True := trivial
        go_enter Try.func111, Try.ntmps111
        go_wp2_with (first | (go_at_call 25; refine (specNameOk_any _ hs _).mono ?_; rintro e wq ⟨rfl, hq⟩; subst wq; rw [hnm]) | (go_at_call 137; refine (l1At_any N _ _ _ O.out.n.rd).mono ?_; rintro e wq ⟨rfl, hq⟩; subst wq; rw [hp.out]) | (clear m1; at_builtin; refine wpList_append_g infoS rfl _ _ 24 rfl Try.underlying24 lo _ _ N rfl (O.out.n.grow ((Below.refl _ _).alloc (Nat.le_refl _) _)) (by simp; omega) _ [s] rfl (rd_new (E := encS) w s #[.string s] rfl) (by simp; omega) ?_; intro v1 w1 o1 hT1; have hBa : Below w.heap.size w (w.alloc (.cells #[.string s] 9)) := (Below.refl _ _).alloc (Nat.le_refl _) _; have V1 := hT1.vblk (vblk_grow V.out hBa) (by decide); have u1 := hT1.own (O.out.u.grow hBa) (by decide); have T1 : Tn lo b w w1 := (Tn.of_below hBa hlo).trans (Tn.of_ty hT1 (.inl rfl)); have hz1 := T1.size; obtain ⟨a1, n1, k1, rfl⟩ := o1.slice) | (refine wpList_store_ss rfl _ _ rfl b 0 a1 n1 k1 rfl rfl V1 (by simp) ?_; intro w2 hO2 V2; replace o1 := o1.only hO2 V1 (by decide); replace u1 := u1.only hO2 V1 (by decide); have T2 : Tn lo b w w2 := T1.trans (Tn.of_only hO2); have hz2 := T2.size; clear c0 c1 c2; obtain ⟨c0, c1, c2⟩ := cells3 V2) | (clear m2; at_builtin; refine wpList_append_g infoB rfl _ _ 25 rfl Try.underlying25 lo _ _ U rfl (u1.grow ((Below.refl _ _).alloc (Nat.le_refl _) _)) (by simp; omega) _ [false] rfl (rd_new (E := encB) w2 false #[.bool false] rfl) (by simp; omega) ?_; intro v3 w3 u3 hT3; have hBa3 : Below w2.heap.size w2 (w2.alloc (.cells #[.bool false] 4)) := (Below.refl _ _).alloc (Nat.le_refl _) _; have V3 := hT3.vblk (vblk_grow V2 hBa3) (by decide); have o3 := hT3.own (o1.grow hBa3) (by decide); have T3 : Tn lo b w w3 := (T2.trans (Tn.of_below hBa3 (by omega))).trans (Tn.of_ty hT3 (.inr rfl)); obtain ⟨a3, n3, k3, rfl⟩ := u3.slice) | (refine wpList_store_bs rfl _ _ rfl b 1 a3 n3 k3 rfl rfl V3 (by simp) ?_; intro w4 hO4 V4; replace o3 := o3.only hO4 V3 (by decide); replace u3 := u3.only hO4 V3 (by decide); have T4 : Tn lo b w w4 := T3.trans (Tn.of_only hO4)) | (fail))
        go_ret
        exact ⟨rfl, _, _, ⟨o3.top, u3.top⟩, V4, T4⟩

/-- what a ring is behind a use -/
theorem used_no {r : Rg} {s : ByteArray} (h : ¬ 0 ≤ posS s r.N) : used r s = r := if_neg h
theorem used_yes {r : Rg} {s : ByteArray} (h : 0 ≤ posS s r.N) : used r s = ⟨r.N, r.U.set (posS s r.N).toNat true, r.A⟩ := if_pos h

set_option maxRecDepth 100000 in
set_option maxHeartbeats 1000000 in
theorem l8Use_any (r : Rg) (s : ByteArray) (vN vU : Value) (b lo hi : Nat) (w : World) (own : OwnR w lo hi vN vU r) (hV : VBlk w b 27 [vN, vU, .int .i64 r.A]) (hNU : r.U.length = r.N.length) :
    Calls Try.prog 110 #[.pointer (some ⟨b, 0, none⟩), .string s] w fun e w' => (∃ u, e = .returned u) ∧ OwnR w' lo hi vN vU (used r s) ∧ VBlk w' b 27 [vN, vU, .int .i64 r.A] ∧ Tn lo b w w' := by
  obtain ⟨N, U, A⟩ := r
  obtain ⟨a, n, cap, rfl⟩ := own.n.slice
  obtain ⟨c, m, dc, rfl⟩ := own.u.slice
  have hm : Hid (m = U.length) := own.u.rd.cap.1
  have O : Hid (OwnR w lo hi (.slice a n cap) (.slice c m dc) ⟨N, U, A⟩) := own
  have V : Hid (VBlk w b 27 [.slice a n cap, .slice c m dc, .int .i64 A]) := hV
  obtain ⟨c0, c1, c2⟩ := cells3 hV
  dsimp only at hNU ⊢
  clear own hV
  have hbd := posS_bd s N
  have hy1 := @used_yes ⟨N, U, A⟩ s
  have hy2 := @used_no ⟨N, U, A⟩ s
  dsimp only at hy1 hy2
  obtain ⟨p, hp⟩ := hid_ex (posS s N)
  rw [hp.out] at hbd hy1 hy2
  by_cases hp0 : 0 ≤ p
  · rw [hy1 hp0]
    clear hy1 hy2
    obtain ⟨i, rfl⟩ : ∃ i : Nat, p = i := ⟨p.toNat, by omega⟩
    have hiU : i < U.length := by omega
    have hm2 : (i : Int) < (m : Int) := by have := hm.out; omega
    have hp1 : ¬ (i : Int) < 0 := by omega
    obtain ⟨g, rfl, hg, d0, f0⟩ := ownB_cell O.out.u i hiU
    rw [Int.toNat_natCast]
    go_enter Try.func110, Try.ntmps110
    go_wp2_with (first | (go_at_call 137; refine (l1At_any N _ _ _ O.out.n.rd).mono ?_; rintro e wq ⟨rfl, hq⟩; subst wq; rw [hp.out]) | (refine wpList_store_tb rfl _ _ rfl g i true rfl rfl O.out.u hiU ?_; intro w1 u1 hT1) | (fail))
    go_ret
    exact ⟨⟨_, rfl⟩, ⟨hT1.own O.out.n (by decide), u1⟩, hT1.vblk V.out (by decide), Tn.of_ty hT1 (.inr rfl)⟩
  · rw [hy2 hp0]
    clear hy1 hy2
    have hp1 : p < 0 := by omega
    go_enter Try.func110, Try.ntmps110
    go_wp2_with (first | (go_at_call 137; refine (l1At_any N _ _ _ O.out.n.rd).mono ?_; rintro e wq ⟨rfl, hq⟩; subst wq; rw [hp.out]) | (fail))
    go_ret
    exact ⟨⟨_, rfl⟩, O.out, V.out, Tn.refl _ _ _⟩
end Go.Proofs.Ytmnjmghlkiljhaa.rg
