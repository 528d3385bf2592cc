/- Texts laid together: Dk1 SkMath Draw1 DrawS Re1 Re2. -/
import Derived.Test.YtmnjmghlkiljhaaMg13
import Derived.Test.YtmnjmghlkiljhaaMg01
import Derived.Test.YtmnjmghlkiljhaaRows
import Derived.Test.YtmnjmghlkiljhaaMg10
import Derived.Test.YtmnjmghlkiljhaaMg07
import Derived.Lib.SmallJoins
import Derived.Deep.Slices
import Derived.Deep.RegionHeld3
import Derived.BigQuiet
import Derived.Deep.DeepCutAuto
import Derived.WalkKit
import Derived.ProofKit
import Derived.OpenShut
import Derived.Below
import Derived.OwnWalk
import Derived.Deep.QuietTactic
import Derived.Deep.LoopGhost
/- Contracts: who is seen and who is forgotten in a choice whose sketch lies ahead of its names. -/
namespace Go.Proofs.Ytmnjmghlkiljhaa.rg
open Go.ChangeShapes Go.WideShapes Go.ChangeAt Go.RowKit
open Go.Deep Go.Joins
open Go.Proofs.Ytmnjmghlkiljhaa.ce Go.Proofs.Ytmnjmghlkiljhaa.ro
set_option linter.unusedVariables false
set_option linter.unusedSimpArgs false

/-- a choice that a call made: its sketch lies ahead of its ring or queue -/
structure OwnO (w : World) (lo m0 m hi : Nat) (vN vU vQ vS : Value) (c : Ch) : Prop where
  s : sk.Own w lo m0 vS c.S
  r : OwnR w m hi vN vU c.R
  q : Own encS w m hi vQ c.Q
  e : (c.K = 1 ∧ vQ = .slice none 0 0 ∧ c.Q = []) ∨ (c.K = 2 ∧ vN = .slice none 0 0 ∧ vU = .slice none 0 0 ∧ c.R.N = [] ∧ c.R.U = [])
  lm : lo ≤ m0 ∧ m0 ≤ m ∧ m ≤ hi ∧ hi ≤ w.heap.size
theorem OwnO.wide {w : World} {lo m0 m hi : Nat} {vN vU vQ vS : Value} {c : Ch} (h : OwnO w lo m0 m hi vN vU vQ vS c) : OwnO w lo m0 m w.heap.size vN vU vQ vS c :=
  ⟨h.s, h.r.wide (Nat.le_refl _) h.lm.2.2.2, h.q.wide (Nat.le_refl _) h.lm.2.2.2, h.e, h.lm.1, h.lm.2.1, Nat.le_trans h.lm.2.2.1 h.lm.2.2.2, Nat.le_refl _⟩
theorem OwnO.keep {w w' : World} {lo m0 m hi : Nat} {vN vU vQ vS : Value} {c : Ch} (h : OwnO w lo m0 m hi vN vU vQ vS c) (s : ∀ k, (lo ≤ k ∧ k < m0) ∨ (m ≤ k ∧ k < hi) → w'.heap[k]? = w.heap[k]?) (hs : w.heap.size ≤ w'.heap.size) : OwnO w' lo m0 m hi vN vU vQ vS c :=
  ⟨sk.Own.keep h.s (fun k x y => s k (.inl ⟨x, y⟩)) hs, ownR_keep h.r fun k x y => s k (.inr ⟨x, y⟩), h.q.keep fun k x y => s k (.inr ⟨x, y⟩), h.e, h.lm.1, h.lm.2.1, h.lm.2.2.1, Nat.le_trans h.lm.2.2.2 hs⟩
theorem OwnO.own {w : World} {lo m0 m hi : Nat} {vN vU vQ vS : Value} {c : Ch} (h : OwnO w lo m0 m hi vN vU vQ vS c) : OwnC w lo hi vN vU vQ vS c := by
  obtain ⟨s, r, q, e, h1, h2, h3, h4⟩ := h
  rcases e with ⟨-, e1, e2⟩ | ⟨-, e1, e2, e3, e4⟩
  · exact ⟨⟨m, hi, hi, hi, lo, m0, r, by rw [e1, e2]; exact own_zero _ _ _ _ _, s, ⟨by omega, by omega, by omega, by omega, by omega, by omega⟩, .inl (by omega), .inr (by omega), .inr (by omega)⟩, h4⟩
  · exact ⟨⟨hi, hi, m, hi, lo, m0, ⟨by rw [e1, e3]; exact own_zero _ _ _ _ _, by rw [e2, e4]; exact own_zero _ _ _ _ _⟩, q, s, ⟨by omega, by omega, by omega, by omega, by omega, by omega⟩, .inr (by omega), .inr (by omega), .inr (by omega)⟩, h4⟩
set_option maxRecDepth 100000 in
set_option maxHeartbeats 4000000 in
theorem l16SeeO_any (c : Ch) (hc : chB c = true) (s : ByteArray) (hs : s.size ≤ 9223372036854775807) (vN vU vQ vS : Value) (b lo m0 m hi : Nat) (w : World) (o : OwnO w lo m0 m hi vN vU vQ vS c) (hb : b < lo ∨ (m0 ≤ b ∧ b < m)) (V : VBlk w b 32 [.int .i64 c.K, vN, vU, .int .i64 c.R.A, vQ, vS, .int .i64 c.D]) :
    Calls Try.prog 62 #[.pointer (some ⟨b, 0, none⟩), .string s] w fun e w' => (∃ u, e = .returned u) ∧ ∃ vN' vU' vQ', OwnO w' lo m0 m w'.heap.size vN' vU' vQ' vS (seC c s) ∧ VBlk w' b 32 [.int .i64 c.K, vN', vU', .int .i64 (seC c s).R.A, vQ', vS, .int .i64 (seC c s).D] ∧ Tw lo hi b w w' := by
  obtain ⟨hsk, hr, hq, hway⟩ := chB_parts hc
  have hl := chB_len hc
  clear hc
  obtain ⟨K, ⟨N, U, A⟩, Q, S, D⟩ := c
  dsimp only at hsk hr hq hway hl
  unfold seC seeH
  dsimp only
  cases hnm : nameB s with
  | false =>
    simp only [Bool.false_eq_true, if_false]
    go_enter Try.func62, Try.ntmps62
    go_wp2_with (first | (go_at_call 25; refine (specNameOk_any _ hs _).mono ?_; rintro e wq ⟨rfl, hq⟩; subst wq; rw [hnm]) | (fail))
    first | go_end0 | ((try simp only [Exit.inBlock, Exit.then]); refine bodyPost_ret (results_none rfl _ _ _) rfl ?_)
    exact ⟨⟨_, rfl⟩, _, _, _, o.wide, V, Tw.refl _ _ _ _⟩
  | true =>
    have hk : s.size ≤ 1048576 := by have := (nameB_size hnm).2; omega
    obtain ⟨⟨aN1, nN1, kN1, rfl⟩, ⟨aU1, nU1, kU1, rfl⟩, ⟨aQ1, nQ1, kQ1, rfl⟩, -⟩ := o.own.forms
    obtain ⟨oS, oR, oQ, oE, lm0, lm1, lm2, sz⟩ := o
    have OE : Hid _ := oE
    clear oE
    dsimp only at oR oQ oS V
    obtain ⟨hlS, aS, kS, bo, B, C, rfl, haS, oA⟩ := oS
    have hne : S ≠ [] := by intro e; have := hsk.1; rw [e] at this; simp at this
    have haS2 := haS hne
    subst haS2
    have hbo := oA.1 hne
    have h4 : S.length = 4 := hsk.1
    rw [h4] at V ⊢
    simp only [if_true, eq_self]
    have HSK : Hid (sk.Four S ∧ sk.Small S) := ⟨hsk.four, hsk.small⟩
    have hlS4 : Hid ((sk.plusR S D s).length = 4) := plusR_len hsk.four D s
    have HNU : Hid (U.length = N.length) := hr.us
    have HL : Hid (Q.length ≤ 1000000 ∧ N.length ≤ 1000000) := hl
    have kA := fun (_ : Unit) => sk.l2AddC_any (.int .i64 K) (.slice aN1 nN1 kN1) (.slice aU1 nU1 kU1) (.int .i64 A) (.slice aQ1 nQ1 kQ1) S hsk.four hsk.small D hsk.2.1 s hk w 0 lo m0 b bo B C kS V oA (Nat.zero_le _) (Nat.zero_le _) (by omega)
    have KA : Hid _ := kA
    obtain ⟨c0, c1, c2, c3, c4, c5, c6⟩ := cells7c V
    clear kA hsk hr hq hl hlS haS hne h4 oA
    rcases hway with ⟨k1, -⟩ | ⟨k2, -⟩
    · subst k1
      have OE1 : Hid ((Value.slice aQ1 nQ1 kQ1) = .slice none 0 0 ∧ Q = []) := by
        rcases OE.out with ⟨-, h⟩ | ⟨h, -⟩
        · exact h
        · exact absurd h (by dsimp only; decide)
      clear OE
      rw [if_neg (by decide : ¬ (1 : Int) = 2)]
      dsimp only
      have kU := fun w3 (o3 : OwnR w3 m hi (.slice aN1 nN1 kN1) (.slice aU1 nU1 kU1) ⟨N, U, A⟩) V3 => l8UseW_any (.int .i64 1) (.slice aQ1 nQ1 kQ1) (.slice (some ⟨bo, 0, none⟩) 4 kS) (.int .i64 (sk.plusN D)) ⟨N, U, A⟩ s (.slice aN1 nN1 kN1) (.slice aU1 nU1 kU1) b m hi w3 o3 V3 HNU.out
      have eS : ringSee ⟨N, U, A⟩ s = if 0 ≤ posS s N then used ⟨N, U, A⟩ s else joinR ⟨N, U, A⟩ s := rfl
      rw [eS]
      by_cases hp : 0 ≤ posS s N
      · rw [if_pos hp]
        rw [decide_eq_true hp] at kU
        have KU : Hid _ := kU
        clear kU eS hp
        go_enter Try.func62, Try.ntmps62
        go_wp2_with (first | (go_at_call 25; refine (specNameOk_any _ hs _).mono ?_; rintro e wq ⟨rfl, hq⟩; subst wq; rw [hnm]) | (go_at_call 108; refine (KA.out ()).mono ?_; rintro e w3 ⟨u3, rfl, V3x, oA3, T3⟩; have V3 : VBlk w3 b 32 [.int .i64 1, .slice aN1 nN1 kN1, .slice aU1 nU1 kU1, .int .i64 A, .slice aQ1 nQ1 kQ1, .slice (some ⟨bo, 0, none⟩) 4 kS, .int .i64 (sk.plusN D)] := V3x; have oR3 := ownR_keep oR (fun k x y => T3.keep k (by omega) (by omega) (by omega)); have oQ3 := oQ.keep (fun k x y => T3.keep k (by omega) (by omega) (by omega)); have hz3 := T3.size; clear c0 c1 c2 c3 c4 c5 c6; obtain ⟨c0, c1, c2, c3, c4, c5, c6⟩ := cells7c V3) | (go_at_call 110; refine (KU.out _ oR3 V3).mono ?_; rintro e w4 ⟨rfl, oR4, V4, T4⟩) | (fail))
        first | go_end0 | ((try simp only [Exit.inBlock, Exit.then]); refine bodyPost_ret (results_none rfl _ _ _) rfl ?_)
        have hz4 := T4.size
        have oA4 := oA3.keep (fun k x y => T4.keep k (by omega) (by omega) (by omega)) hz4
        have oQ4 : Own encS w4 m hi (.slice aQ1 nQ1 kQ1) Q := by rw [OE1.out.1, OE1.out.2]; exact own_zero _ _ _ _ _
        have eA : (used ⟨N, U, A⟩ s).A = A := by unfold used; split <;> rfl
        rw [eA]
        exact ⟨⟨_, rfl⟩, _, _, _, ⟨skown_of hlS4.out oA4, oR4.wide (by omega) (by omega), oQ4.wide (by omega) (by omega), .inl ⟨rfl, OE1.out.1, OE1.out.2⟩, by omega, by omega, by omega, by omega⟩, V4, (T3.widen (by omega) (by omega)).trans (T4.widen (by omega) (by omega))⟩
      · rw [if_neg hp]
        have hu0 : used ⟨N, U, A⟩ s = ⟨N, U, A⟩ := used_no hp
        rw [decide_eq_false hp, hu0] at kU
        have KU : Hid _ := kU
        clear kU eS hp hu0
        go_enter Try.func62, Try.ntmps62
        go_wp2_with (first | (go_at_call 25; refine (specNameOk_any _ hs _).mono ?_; rintro e wq ⟨rfl, hq⟩; subst wq; rw [hnm]) | (go_at_call 108; refine (KA.out ()).mono ?_; rintro e w3 ⟨u3, rfl, V3x, oA3, T3⟩; have V3 : VBlk w3 b 32 [.int .i64 1, .slice aN1 nN1 kN1, .slice aU1 nU1 kU1, .int .i64 A, .slice aQ1 nQ1 kQ1, .slice (some ⟨bo, 0, none⟩) 4 kS, .int .i64 (sk.plusN D)] := V3x; have oR3 := ownR_keep oR (fun k x y => T3.keep k (by omega) (by omega) (by omega)); have oQ3 := oQ.keep (fun k x y => T3.keep k (by omega) (by omega) (by omega)); have hz3 := T3.size; clear c0 c1 c2 c3 c4 c5 c6; obtain ⟨c0, c1, c2, c3, c4, c5, c6⟩ := cells7c V3) | (go_at_call 110; refine (KU.out _ oR3 V3).mono ?_; rintro e w4 ⟨rfl, oR4, V4, T4⟩; have hz4 := T4.size) | (go_at_call 111; refine (l8JoinW_any (.int .i64 1) (.slice aQ1 nQ1 kQ1) (.slice (some ⟨bo, 0, none⟩) 4 kS) (.int .i64 (sk.plusN D)) ⟨N, U, A⟩ s hs _ _ b m hi w4 oR4 V4 (by omega) HL.out.2 (by have := HL.out; have := HNU.out; dsimp only; omega)).mono ?_; rintro e w5 ⟨rfl, vN5, vU5, oR5, V5, T5⟩) | (fail))
        first | go_end0 | ((try simp only [Exit.inBlock, Exit.then]); refine bodyPost_ret (results_none rfl _ _ _) rfl ?_)
        have hz5 := T5.size
        have oA4 := (oA3.keep (fun k x y => T4.keep k (by omega) (by omega) (by omega)) hz4).keep (fun k x y => T5.keep k (by omega) (by omega) (by omega)) hz5
        have oQ4 : Own encS w5 m hi (.slice aQ1 nQ1 kQ1) Q := by rw [OE1.out.1, OE1.out.2]; exact own_zero _ _ _ _ _
        have eA : (joinR ⟨N, U, A⟩ s).A = A := by unfold joinR; split <;> rfl
        rw [eA]
        exact ⟨⟨_, rfl⟩, _, _, _, ⟨skown_of hlS4.out oA4, oR5.wide (by omega) (by omega), oQ4.wide (by omega) (by omega), .inl ⟨rfl, OE1.out.1, OE1.out.2⟩, by omega, by omega, by omega, by omega⟩, V5, ((T3.widen (by omega) (by omega)).trans (T4.widen (by omega) (by omega))).trans (T5.widen (by omega) (by omega))⟩
    · subst k2
      have OE2 : Hid ((Value.slice aN1 nN1 kN1) = .slice none 0 0 ∧ (Value.slice aU1 nU1 kU1) = .slice none 0 0 ∧ N = [] ∧ U = []) := by
        rcases OE.out with ⟨h, -⟩ | ⟨-, h⟩
        · exact absurd h (by dsimp only; decide)
        · exact h
      clear OE
      rw [if_pos rfl]
      dsimp only
      go_enter Try.func62, Try.ntmps62
      go_wp2_with (first | (go_at_call 25; refine (specNameOk_any _ hs _).mono ?_; rintro e wq ⟨rfl, hq⟩; subst wq; rw [hnm]) | (go_at_call 108; refine (KA.out ()).mono ?_; rintro e w3 ⟨u3, rfl, V3x, oA3, T3⟩; have V3 : VBlk w3 b 32 [.int .i64 2, .slice aN1 nN1 kN1, .slice aU1 nU1 kU1, .int .i64 A, .slice aQ1 nQ1 kQ1, .slice (some ⟨bo, 0, none⟩) 4 kS, .int .i64 (sk.plusN D)] := V3x; have oR3 := ownR_keep oR (fun k x y => T3.keep k (by omega) (by omega) (by omega)); have oQ3 := oQ.keep (fun k x y => T3.keep k (by omega) (by omega) (by omega)); have hz3 := T3.size; clear c0 c1 c2 c3 c4 c5 c6; obtain ⟨c0, c1, c2, c3, c4, c5, c6⟩ := cells7c V3) | (go_at_call 109; refine (l9TouchW_any Q s hs _ m hi w3 oQ3 (by omega) HL.out.1).mono ?_; rintro e w4 ⟨v4, rfl, oQ4, T4⟩; obtain ⟨aQ4, nQ4, kQ4, rfl⟩ := oQ4.slice; have hz4 := (T4 b).size; have V4 : VBlk w4 b 32 [.int .i64 2, .slice aN1 nN1 kN1, .slice aU1 nU1 kU1, .int .i64 A, .slice aQ1 nQ1 kQ1, .slice (some ⟨bo, 0, none⟩) 4 kS, .int .i64 (sk.plusN D)] := V3.of ((T4 w3.heap.size).keep b V3.lt (by have := V3.lt; omega) (by omega)); clear c0 c1 c2 c3 c4 c5 c6; obtain ⟨c0, c1, c2, c3, c4, c5, c6⟩ := cells7c V4) | (refine wpList_store_cc rfl 24 _ _ rfl b 4 (.slice aQ4 nQ4 kQ4) rfl rfl rfl szSl V4 (by simp) ?_; intro w5 hO5 V5) | (fail))
      first | go_end0 | ((try simp only [Exit.inBlock, Exit.then]); refine bodyPost_ret (results_none rfl _ _ _) rfl ?_)
      have hz5 := Nat.le_of_eq hO5.1.symm
      have T45 := (T4 b).trans (Tw.of_only hO5)
      have oA5 := oA3.keep (fun k x y => T45.keep k (by omega) (by omega) (by omega)) T45.size
      have oR5 : OwnR w5 m hi (.slice aN1 nN1 kN1) (.slice aU1 nU1 kU1) ⟨N, U, A⟩ := ⟨by rw [OE2.out.1, OE2.out.2.2.1]; exact own_zero _ _ _ _ _, by rw [OE2.out.2.1, OE2.out.2.2.2]; exact own_zero _ _ _ _ _⟩
      have oQ5 := oQ4.only hO5 V4 (by decide)
      exact ⟨⟨_, rfl⟩, _, _, _, ⟨skown_of hlS4.out oA5, oR5.wide (by omega) (by omega), oQ5.wide (by omega) (by omega), .inr ⟨rfl, OE2.out⟩, by omega, by omega, by omega, by omega⟩, V5, (T3.widen (by omega) (by omega)).trans (T45.widen (by omega) (by omega))⟩
set_option maxRecDepth 100000 in
set_option maxHeartbeats 4000000 in
theorem l16ForgetO_any (c : Ch) (hc : chB c = true) (s : ByteArray) (vN vU vQ vS : Value) (b lo m0 m hi : Nat) (w : World) (o : OwnO w lo m0 m hi vN vU vQ vS c) (hb : b < lo ∨ (m0 ≤ b ∧ b < m)) (V : VBlk w b 32 [.int .i64 c.K, vN, vU, .int .i64 c.R.A, vQ, vS, .int .i64 c.D]) :
    Calls Try.prog 63 #[.pointer (some ⟨b, 0, none⟩), .string s] w fun e w' => (∃ u, e = .returned u) ∧ ∃ vN' vU' vQ', OwnO w' lo m0 m w'.heap.size vN' vU' vQ' vS (fgC c s) ∧ VBlk w' b 32 [.int .i64 c.K, vN', vU', .int .i64 (fgC c s).R.A, vQ', vS, .int .i64 c.D] ∧ Off b w w' := by
  obtain ⟨hsk, hr, hq, hway⟩ := chB_parts hc
  have hl := chB_len hc
  clear hc
  obtain ⟨K, ⟨N, U, A⟩, Q, S, D⟩ := c
  dsimp only at hsk hr hq hway hl
  obtain ⟨⟨aN1, nN1, kN1, rfl⟩, ⟨aU1, nU1, kU1, rfl⟩, ⟨aQ1, nQ1, kQ1, rfl⟩, ⟨aS1, nS1, kS1, rfl⟩⟩ := o.own.forms
  obtain ⟨oS, oR, oQ, oE, lm0, lm1, lm2, sz⟩ := o
  have OE : Hid _ := oE
  clear oE
  dsimp only at oR oQ oS V
  obtain ⟨c0, c1, c2, c3, c4, c5, c6⟩ := cells7c V
  have hbl := V.lt
  rcases hway with ⟨k1, hQ⟩ | ⟨k2, hN⟩
  · -- a clock
    subst k1
    have OE1 : Hid ((Value.slice aQ1 nQ1 kQ1) = .slice none 0 0 ∧ Q = []) := by
      rcases OE.out with ⟨-, h⟩ | ⟨h, -⟩
      · exact h
      · exact absurd h (by dsimp only; decide)
    clear OE
    have eF : fgC ⟨1, ⟨N, U, A⟩, Q, S, D⟩ s = ⟨1, ringForget ⟨N, U, A⟩ s, Q, S, D⟩ := by unfold fgC forgetH; dsimp only; rw [if_neg (by decide)]
    rw [eF]
    dsimp only
    by_cases hp : 0 ≤ posS s N
    · have eR : ringForget ⟨N, U, A⟩ s = left ⟨N, U, A⟩ (posS s N).toNat := if_pos hp
      rw [eR]
      have hlt := pos_lt hp
      obtain ⟨i, hi'⟩ := hid_ex (posS s N).toNat
      have hpi : posS s N = (i : Int) := by have := hi'.out; omega
      rw [hi'.out] at hlt ⊢
      have hus := hr.us
      have ha0 := hr.a0
      have ha1 := hr.a1
      dsimp only at hus ha0 ha1
      have kL := fun (_ : Unit) => l8LeaveC_yes (.int .i64 1) (.slice aQ1 nQ1 kQ1) (.slice aS1 nS1 kS1) (.int .i64 D) ⟨N, U, A⟩ s i hpi _ _ b w.heap.size m hi w oR V (Nat.le_refl _) hlt hl.2 hus ha0 (by dsimp only; omega)
      have KL : Hid _ := kL
      clear kL hi' hpi hp hlt hus ha0 ha1 hr hq hsk hl hQ eR eF
      go_enter Try.func63, Try.ntmps63
      go_wp2_with (first | (go_at_call 113; refine (KL.out ()).mono ?_; rintro e w2 ⟨rfl, vN2, vU2, oR2, V2, hT2⟩) | (fail))
      first | go_end0 | ((try simp only [Exit.inBlock, Exit.then]); refine bodyPost_ret (results_none rfl _ _ _) rfl ?_)
      have hO := Off.of_tn hT2
      have hz2 := hO.size
      exact ⟨⟨_, rfl⟩, vN2, vU2, _, ⟨sk.Own.keep oS (fun k x y => hO.keep k (by omega) (by omega)) hO.size, oR2.wide (by omega) (Nat.le_refl _), (oQ.keep fun k x y => hO.keep k (by omega) (by omega)).wide (Nat.le_refl _) (by omega), .inl ⟨rfl, OE1.out.1, OE1.out.2⟩, by omega, by omega, by omega, by omega⟩, V2, hO⟩
    · have eR : ringForget ⟨N, U, A⟩ s = ⟨N, U, A⟩ := if_neg hp
      rw [eR]
      have kL := fun (_ : Unit) => l8LeaveC_no (.int .i64 1) (.slice aQ1 nQ1 kQ1) (.slice aS1 nS1 kS1) (.int .i64 D) ⟨N, U, A⟩ s (by dsimp only; omega) _ _ b m hi w oR V
      have KL : Hid _ := kL
      clear kL hp hr hq hsk hl hQ eR eF
      go_enter Try.func63, Try.ntmps63
      go_wp2_with (first | (go_at_call 113; refine (KL.out ()).mono ?_; rintro e wq ⟨rfl, hq⟩; subst wq) | (fail))
      first | go_end0 | ((try simp only [Exit.inBlock, Exit.then]); refine bodyPost_ret (results_none rfl _ _ _) rfl ?_)
      exact ⟨⟨_, rfl⟩, _, _, _, ⟨oS, oR.wide (Nat.le_refl _) sz, oQ.wide (Nat.le_refl _) sz, .inl ⟨rfl, OE1.out.1, OE1.out.2⟩, by omega, by omega, by omega, by omega⟩, V, Off.of_below (Below.refl _ _)⟩
  · -- a queue
    subst k2
    have OE2 : Hid ((Value.slice aN1 nN1 kN1) = .slice none 0 0 ∧ (Value.slice aU1 nU1 kU1) = .slice none 0 0 ∧ N = [] ∧ U = []) := by
      rcases OE.out with ⟨h, -⟩ | ⟨-, h⟩
      · exact absurd h (by dsimp only; decide)
      · exact h
    clear OE
    have eF : fgC ⟨2, ⟨N, U, A⟩, Q, S, D⟩ s = ⟨2, ⟨N, U, A⟩, cutR Q s, S, D⟩ := by unfold fgC forgetH; rw [if_pos rfl]
    rw [eF]
    dsimp only
    have RQ : Hid (Rd encS w (.slice aQ1 nQ1 kQ1) Q) := oQ.rd
    have hlq := hl.1
    clear hr hq hsk hl hN eF
    go_enter Try.func63, Try.ntmps63
    go_wp2_with (first | (go_at_call 112; refine (l9Without_any Q s _ _ RQ.out hlq).mono ?_; rintro e w2 ⟨v2, rfl, o2, hB2⟩; obtain ⟨aQ2, nQ2, kQ2, rfl⟩ := o2.slice; have V2 := vblk_grow V hB2; clear c0 c1 c2 c3 c4 c5 c6; obtain ⟨c0, c1, c2, c3, c4, c5, c6⟩ := cells7c V2; have hz2 := hB2.size) | (refine wpList_store_cc rfl 24 _ _ rfl b 4 (.slice aQ2 nQ2 kQ2) rfl rfl rfl szSl V2 (by simp) ?_; intro w3 hO3 V3) | (fail))
    first | go_end0 | ((try simp only [Exit.inBlock, Exit.then]); refine bodyPost_ret (results_none rfl _ _ _) rfl ?_)
    have hO := (Off.of_below (b := b) hB2).then_only hO3
    have hz3 := hO.size
    have hz4 := Nat.le_of_eq hO3.1.symm
    exact ⟨⟨_, rfl⟩, _, _, _, ⟨sk.Own.keep oS (fun k x y => hO.keep k (by omega) (by omega)) hO.size, (ownR_keep oR fun k x y => hO.keep k (by omega) (by omega)).wide (Nat.le_refl _) (by omega), (o2.only hO3 V2 (by decide)).wide (by omega) (by omega), .inr ⟨rfl, OE2.out⟩, by omega, by omega, by omega, by omega⟩, V3, hO⟩
theorem ownO_new {w : World} {lo m : Nat} {v : Value} {k : Int} (hk : k = 1 ∨ k = 2) (o : sk.Own w lo m v sk.zeros) (h1 : lo ≤ m) (h2 : m ≤ w.heap.size) (hi : Nat) (h3 : m ≤ hi) (h4 : hi ≤ w.heap.size) : OwnO w lo m hi hi (.slice none 0 0) (.slice none 0 0) (.slice none 0 0) v (newC k) :=
  ⟨o, ⟨own_zero _ _ _ _ _, own_zero _ _ _ _ _⟩, own_zero _ _ _ _ _, by rcases hk with rfl | rfl; exact .inl ⟨rfl, rfl, rfl⟩; exact .inr ⟨rfl, rfl, rfl, rfl, rfl⟩, h1, h3, Nat.le_refl _, h4⟩
set_option maxRecDepth 100000 in
set_option maxHeartbeats 2000000 in
theorem specNewChoiceO_any (k : Int) (hk : k = 1 ∨ k = 2) (w : World) : Calls Try.prog 23 #[.int .i64 k] w fun e w' => ∃ v, e = .returned (.tuple #[.agg #[.int .i64 k, .slice none 0 0, .slice none 0 0, .int .i64 0, .slice none 0 0, v, .int .i64 0], .bool true]) ∧ sk.Own w' w.heap.size w'.heap.size v sk.zeros ∧ Below w.heap.size w w' := by
  have m1 : Hid True := trivial
  have hk2 : ((k != 1) && (k != 2)) = false := by rcases hk with rfl | rfl <;> rfl
  have kk : (k != 1) = false ∨ (k != 1) = true ∧ (k != 2) = false := by rcases hk with rfl | rfl; exact .inl rfl; exact .inr ⟨rfl, rfl⟩
  clear hk hk2
  rcases kk with k1 | ⟨k1, k2⟩
  all_goals
    go_enter Try.func23, Try.ntmps23
    go_wp2_with (first | (clear m1; refine wpList_alloc_v rfl 32 rfl _ zeroCh ?_; intro b2 w1 hb2 hw2 hB1 V2; have hz1 := hB1.size) | (go_at_call 68; refine (sk.specNewSketch_any _).mono ?_; rintro e w2 ⟨v2, rfl, o2, hB2⟩; obtain ⟨aS2, nS2, kS2, rfl⟩ := sk.Own.form o2; replace V2 := vblk_grow V2 hB2; have hB12 := hB1.trans (hB2.mono hz1); have hz2 := hB2.size) | (refine wpList_store_v rfl 32 _ _ rfl b2 [.int .i64 k, .slice none 0 0, .slice none 0 0, .int .i64 0, .slice none 0 0, .slice aS2 nS2 kS2, .int .i64 0] rfl rfl sizeCh V2 rfl (by simp [Value.oneCell']) ?_; intro w4 hO4 V4; have hB14 := hB12.trans (hO4.2.2 _ (by omega)); have e4 := Nat.le_of_eq hO4.1; have e5 := Nat.le_of_eq hO4.1.symm; have o4 := (sk.Own.keep o2 (fun j h1 h2 => hO4.2.1 j (by omega)) e5).wide (lo' := w.heap.size) (by omega) (by omega) (Nat.le_refl _)) | (fail))
    exact row_ct (x := .bool true) rfl rfl rfl V4 Try.underlying32 sizeCh rfl ⟨_, rfl, o4, hB14⟩
end Go.Proofs.Ytmnjmghlkiljhaa.rg
/- What one more key does to the counts: plain facts on lists. -/
namespace Go.Proofs.Ytmnjmghlkiljhaa.sk
open Go.ChangeShapes Go.WideShapes Go.ChangeAt Go.RowKit
set_option linter.unusedVariables false

theorem half_bd (x : Int) (h : 0 ≤ x ∧ x ≤ 15) : 0 ≤ half x ∧ half x ≤ 15 := by unfold half; omega
theorem halfR_small {R : List (List Int)} (h : Small R) : Small (halfR R) := fun xs hx y hy => by
  obtain ⟨ys, hys, rfl⟩ := List.mem_map.1 hx
  obtain ⟨z, hz, rfl⟩ := List.mem_map.1 hy
  exact half_bd z (h ys hys z hz)
theorem added_ok {R : List (List Int)} {adds : Int} {key : ByteArray} (h : skOk R adds) : skOk (addedR R adds key) (addedN R adds) := by
  unfold addedR addedN
  rw [if_pos h, if_pos h]
  by_cases e : adds = 159
  · rw [if_pos e, if_pos e]
    have h4 := halfR_four (addR_four (key := key) h.four)
    exact ⟨h4.1, by omega, h4.2, halfR_small (addR_small key R)⟩
  · rw [if_neg e, if_neg e]
    have h4 := addR_four (key := key) h.four
    have := h.2.1
    exact ⟨h4.1, by omega, h4.2, addR_small key R⟩

/-- the count of a key in row i -/
def cnt (key : ByteArray) (R : List (List Int)) (i : Nat) : Int := (R.getD i []).getD (place.placeOf key i).toNat 0
theorem estN_cnt (key : ByteArray) (R : List (List Int)) (n : Nat) : estN key R (n + 1) = min (estN key R n) (cnt key R n) := estN_succ key R n
theorem place_lt (key : ByteArray) (i : Nat) : (place.placeOf key i).toNat < 16 := by have := place.placeOf_bd key i; omega

theorem row_get {R : List (List Int)} (h : Four R) (i : Nat) (hi : i < 4) : ∃ hi' : i < R.length, R.getD i [] = R[i] ∧ (R[i]).length = 16 := by
  have h4 := h.1
  refine ⟨by omega, ?_, h.2 _ (List.getElem_mem _)⟩
  rw [List.getD_eq_getElem?_getD, List.getElem?_eq_getElem (by omega)]; rfl
theorem cnt_get {R : List (List Int)} (h : Four R) (key : ByteArray) (i : Nat) (hi : i < 4) : ∃ (hi' : i < R.length) (hp : (place.placeOf key i).toNat < (R[i]).length), cnt key R i = (R[i])[(place.placeOf key i).toNat] := by
  obtain ⟨hi', e, h16⟩ := row_get h i hi
  have hp := place_lt key i
  refine ⟨hi', by omega, ?_⟩
  unfold cnt
  rw [e, List.getD_eq_getElem?_getD, List.getElem?_eq_getElem (by omega)]; rfl
theorem cnt_bd {R : List (List Int)} (h : Four R) (hs : Small R) (key : ByteArray) (i : Nat) (hi : i < 4) : 0 ≤ cnt key R i ∧ cnt key R i ≤ 15 := by
  obtain ⟨hi', hp, e⟩ := cnt_get h key i hi
  rw [e]
  exact hs _ (List.getElem_mem hi') _ (List.getElem_mem hp)
theorem cnt_add {R : List (List Int)} (h : Four R) (hs : Small R) (name key : ByteArray) (i : Nat) (hi : i < 4) :
    cnt key (addR name R) i = if place.placeOf name i = place.placeOf key i then min 15 (cnt key R i + 1) else cnt key R i := by
  obtain ⟨hi', hp, e⟩ := cnt_get h key i hi
  obtain ⟨hi2, hp2, e2⟩ := cnt_get (addR_four (key := name) h) key i hi
  have hn := place.placeOf_bd name i
  have hk := place.placeOf_bd key i
  have hpn : (place.placeOf name i).toNat < (R[i]).length := by have := place_lt name i; rw [h.2 _ (List.getElem_mem hi')]; exact this
  rw [e2, e]
  have er : (addR name R)[i] = (R[i]).set (place.placeOf name i).toNat (min 15 ((R[i])[(place.placeOf name i).toNat] + 1)) := by
    have : (addR name R)[i] = raise (R[i]) (place.placeOf name i).toNat := by simp [addR]
    rw [this, raise_eq _ _ hpn (hs _ (List.getElem_mem hi'))]
  simp only [er, List.getElem_set]
  by_cases q : place.placeOf name i = place.placeOf key i
  · simp [q]
  · have q' : ¬ (place.placeOf name i).toNat = (place.placeOf key i).toNat := by omega
    rw [if_neg q, if_neg q']
theorem cnt_half {R : List (List Int)} (h : Four R) (key : ByteArray) (i : Nat) (hi : i < 4) : cnt key (halfR R) i = cnt key R i / 2 := by
  obtain ⟨hi', hp, e⟩ := cnt_get h key i hi
  obtain ⟨hi2, hp2, e2⟩ := cnt_get (halfR_four h) key i hi
  rw [e2, e]
  simp [halfR, half]

/-- the least count, out of the four -/
theorem est_four (key : ByteArray) (R : List (List Int)) : estN key R 4 = min (min (min (min 15 (cnt key R 0)) (cnt key R 1)) (cnt key R 2)) (cnt key R 3) := by
  rw [estN_cnt, estN_cnt, estN_cnt, estN_cnt]; rfl
theorem est_bd {R : List (List Int)} (h : Four R) (hs : Small R) (key : ByteArray) : 0 ≤ estN key R 4 ∧ estN key R 4 ≤ 15 := by
  rw [est_four]
  have h0 := cnt_bd h hs key 0 (by omega)
  have h1 := cnt_bd h hs key 1 (by omega)
  have h2 := cnt_bd h hs key 2 (by omega)
  have h3 := cnt_bd h hs key 3 (by omega)
  omega
/-- what is added is told once more; nothing else becomes less -/
theorem est_add {R : List (List Int)} (h : Four R) (hs : Small R) (name key : ByteArray) : estN key R 4 ≤ estN key (addR name R) 4 ∧ (name = key → estN key (addR name R) 4 = min 15 (estN key R 4 + 1)) := by
  rw [est_four, est_four, cnt_add h hs name key 0 (by omega), cnt_add h hs name key 1 (by omega), cnt_add h hs name key 2 (by omega), cnt_add h hs name key 3 (by omega)]
  have h0 := cnt_bd h hs key 0 (by omega)
  have h1 := cnt_bd h hs key 1 (by omega)
  have h2 := cnt_bd h hs key 2 (by omega)
  have h3 := cnt_bd h hs key 3 (by omega)
  constructor
  · split <;> split <;> split <;> split <;> omega
  · rintro rfl
    simp only [if_true]
    omega
theorem est_half {R : List (List Int)} (h : Four R) (key : ByteArray) : estN key R 4 / 2 ≤ estN key (halfR R) 4 := by
  rw [est_four, est_four, cnt_half h key 0 (by omega), cnt_half h key 1 (by omega), cnt_half h key 2 (by omega), cnt_half h key 3 (by omega)]
  omega

end Go.Proofs.Ytmnjmghlkiljhaa.sk
/- Contracts of the model's drawing functions: whatever the bytes, each call returns a number within its bounds, writes to the cursor's own block alone, and leaves the cursor well formed. -/
namespace Go.Proofs.Ytmnjmghlkiljhaa.draw
open Go.ChangeShapes Go.WideShapes Go.ChangeAt Go.RowKit
set_option linter.unusedVariables false

/-- the bytes of the code, as they lie in memory -/
def CodeAt (w : World) (a0 : Option Addr) (len : Nat) : Prop :=
  len ≤ 9223372036854775806 ∧ (len = 0 ∨ ∃ b off, a0 = some ⟨b, off, none⟩ ∧ b < w.heap.size ∧ ∀ k, k < len → ∃ c : Int, w.cell? ⟨b, off + k, none⟩ = some (.int .u8 c) ∧ 0 ≤ c ∧ c ≤ 255)

/-- a cursor over the code lies in block p -/
def Cur (w : World) (p : Nat) (a0 : Option Addr) (len cap : Nat) : Prop :=
  p < w.heap.size ∧ CodeAt w a0 len ∧ (∀ b off, a0 = some ⟨b, off, none⟩ → len = 0 ∨ b < p) ∧
  ∃ (i : Nat) (h : Int), i ≤ len ∧ w.cell? ⟨p, 0, none⟩ = some (.slice a0 len cap) ∧ w.cell? ⟨p, 1, none⟩ = some (.int .i64 i) ∧ w.cell? ⟨p, 2, none⟩ = some (.int .i64 h) ∧
    w.frozen? ⟨p, 1, none⟩ = false ∧ w.frozen? ⟨p, 2, none⟩ = false

theorem gb_set (w : World) (a : Addr) (v : Value) : w.grownBy (w.setCell a v) (some a.block) :=
  ⟨rfl, rfl, rfl, by simp, fun k hk hne => Below.heap_setCell _ _ _ _ (fun h => hne (by rw [h]))⟩
theorem gb_drewN {w w' : World} {r : Option Nat} (h : w.grownBy w' r) (n : Nat) : w.grownBy (w'.drewN n) r := ⟨h.os, h.tape, h.output, h.size, h.block⟩
theorem gb_trans {w w1 w2 : World} {r : Option Nat} (h : w.grownBy w1 r) (k : w1.grownBy w2 r) : w.grownBy w2 r :=
  ⟨k.os.trans h.os, k.tape.trans h.tape, k.output.trans h.output, Nat.le_trans h.size k.size, fun i hi hn => (k.block i (Nat.lt_of_lt_of_le hi h.size) hn).trans (h.block i hi hn)⟩
theorem gb_cell {w w' : World} {p : Nat} (h : w.grownBy w' (some p)) {b : Nat} (hb : b < w.heap.size) (hne : b ≠ p) (o : Nat) : w'.cell? ⟨b, o, none⟩ = w.cell? ⟨b, o, none⟩ :=
  World.cell?_of_block (h.block b hb (fun e => hne (by cases e; rfl)))

theorem code_kept {w w' : World} {a0 : Option Addr} {len p : Nat} (h : CodeAt w a0 len) (hb : ∀ b off, a0 = some ⟨b, off, none⟩ → len = 0 ∨ b < p) (g : w.grownBy w' (some p)) : CodeAt w' a0 len := by
  refine ⟨h.1, ?_⟩
  rcases h.2 with h0 | ⟨b, off, e, hl, hc⟩
  · exact .inl h0
  rcases hb b off e with h0 | hbp
  · exact .inl h0
  · refine .inr ⟨b, off, e, Nat.lt_of_lt_of_le hl g.size, fun k hk => ?_⟩
    obtain ⟨c, hcell, h1, h2⟩ := hc k hk
    exact ⟨c, by rw [gb_cell g hl (by omega)]; exact hcell, h1, h2⟩

/-- a low byte, whatever number it is taken of -/
theorem and255 (x : Int) : 0 ≤ bits .and .i64 x 255 ∧ bits .and .i64 x 255 ≤ 255 := by
  have h : bits .and .i64 x 255 = IntKind.i64.wrap (((BitVec.ofInt 64 x).toNat &&& 255 : Nat) : Int) := by
    unfold bits
    simp only [BitVec.toNat_and]
    rfl
  have g : (BitVec.ofInt 64 x).toNat &&& 255 ≤ 255 := Nat.and_le_right
  rw [h, IntKind.wrap_i64]
  omega

set_option maxHeartbeats 1000000 in
theorem byte_end (w : World) (p : Nat) (a0 : Option Addr) (len cap i : Nat) (h : Int) (hi : ¬ i < len)
    (c0 : w.cell? ⟨p, 0, none⟩ = some (.slice a0 len cap)) (c1 : w.cell? ⟨p, 1, none⟩ = some (.int .i64 i)) (c2 : w.cell? ⟨p, 2, none⟩ = some (.int .i64 h))
    (f1 : w.frozen? ⟨p, 1, none⟩ = false) (f2 : w.frozen? ⟨p, 2, none⟩ = false) :
    Calls Try.prog 118 #[.pointer (some ⟨p, 0, none⟩)] w fun e w' => ∃ x h' : Int, e = .returned (.int .i64 x) ∧ 0 ≤ x ∧ x ≤ 255 ∧ ∃ n, w' = (w.setCell ⟨p, 2, none⟩ (.int .i64 h')).drewN n := by
  go_enter Try.func118, Try.ntmps118
  go_wp2
  go_quiet (fail)
  go_wp2
  go_quiet (fail)
  go_wp2
  go_ret
  exact ⟨_, wrap64 (wrap64 (h * 6364136223846793005) + 1442695040888963407), rfl, (and255 _).1, (and255 _).2, _, World.drewN_drewN _ _ _⟩

set_option maxHeartbeats 1000000 in
theorem byte_in (w : World) (p b off : Nat) (len cap i : Nat) (h c : Int) (hi : i < len) (hl : len ≤ 9223372036854775806) (hbp : b < p)
    (c0 : w.cell? ⟨p, 0, none⟩ = some (.slice (some ⟨b, off, none⟩) len cap)) (c1 : w.cell? ⟨p, 1, none⟩ = some (.int .i64 i)) (c2 : w.cell? ⟨p, 2, none⟩ = some (.int .i64 h))
    (f1 : w.frozen? ⟨p, 1, none⟩ = false) (f2 : w.frozen? ⟨p, 2, none⟩ = false) (hc : w.cell? ⟨b, off + i, none⟩ = some (.int .u8 c)) (h1 : 0 ≤ c) (h2 : c ≤ 255) :
    Calls Try.prog 118 #[.pointer (some ⟨p, 0, none⟩)] w fun e w' => ∃ x h' : Int, e = .returned (.int .i64 x) ∧ 0 ≤ x ∧ x ≤ 255 ∧ ∃ n, w' = ((w.setCell ⟨p, 2, none⟩ (.int .i64 h')).drewN n).setCell ⟨p, 1, none⟩ (.int .i64 ((i : Int) + 1)) := by
  have hlt : (i : Int) < (len : Int) := by omega
  have hne : b ≠ p := by omega
  have hnp : p ≠ b := by omega
  go_enter Try.func118, Try.ntmps118
  go_wp2
  go_quiet (fail)
  go_wp2
  go_quiet (fail)
  go_wp2
  go_quiet (fail)
  go_wp2
  go_ret
  exact ⟨_, wrap64 (wrap64 (h * 6364136223846793005) + 1442695040888963407), rfl, (and255 _).1, (and255 _).2, _, rfl⟩

theorem byte_any (w : World) (p : Nat) (a0 : Option Addr) (len cap : Nat) (hc : Cur w p a0 len cap) :
    Calls Try.prog 118 #[.pointer (some ⟨p, 0, none⟩)] w fun e w' => ∃ x : Int, e = .returned (.int .i64 x) ∧ 0 ≤ x ∧ x ≤ 255 ∧ Cur w' p a0 len cap ∧ w.grownBy w' (some p) := by
  obtain ⟨hp, hcode, hb, i, h, hi, c0, c1, c2, f1, f2⟩ := hc
  by_cases hlt : i < len
  · rcases hcode.2 with h0 | ⟨b, off, rfl, hbs, hcell⟩
    · omega
    obtain ⟨c, hc, h1, h2⟩ := hcell i hlt
    have hbp : b < p := by have := hb b off rfl; omega
    refine (byte_in w p b off len cap i h c hlt hcode.1 hbp c0 c1 c2 f1 f2 hc h1 h2).mono ?_
    rintro e w' ⟨x, h', rfl, g1, g2, n, rfl⟩
    have g0 : w.grownBy ((w.setCell ⟨p, 2, none⟩ (.int .i64 h')).drewN n) (some p) := gb_drewN (gb_set w ⟨p, 2, none⟩ (.int .i64 h')) n
    have g3 : ((w.setCell ⟨p, 2, none⟩ (.int .i64 h')).drewN n).grownBy (((w.setCell ⟨p, 2, none⟩ (.int .i64 h')).drewN n).setCell ⟨p, 1, none⟩ (.int .i64 ((i : Int) + 1))) (some p) := gb_set _ ⟨p, 1, none⟩ _
    have hg := gb_trans g0 g3
    refine ⟨x, rfl, g1, g2, ⟨Nat.lt_of_lt_of_le hp hg.size, code_kept hcode hb hg, hb, i + 1, h', by omega, ?_, ?_, ?_, ?_, ?_⟩, hg⟩
    · rw [World.cell?_setCell_other _ _ _ _ (by simp), World.cell?_drewN, World.cell?_setCell_other _ _ _ _ (by simp)]; exact c0
    · exact World.cell?_setCell_same _ _ _ (u := .int .i64 i) (by rw [World.cell?_drewN, World.cell?_setCell_other _ _ _ _ (by simp)]; exact c1)
    · rw [World.cell?_setCell_other _ _ _ _ (by simp), World.cell?_drewN]; exact World.cell?_setCell_same _ _ _ c2
    · rw [World.frozen?_setCell, World.frozen?_drewN, World.frozen?_setCell]; exact f1
    · rw [World.frozen?_setCell, World.frozen?_drewN, World.frozen?_setCell]; exact f2
  · refine (byte_end w p a0 len cap i h hlt c0 c1 c2 f1 f2).mono ?_
    rintro e w' ⟨x, h', rfl, g1, g2, n, rfl⟩
    have hg : w.grownBy ((w.setCell ⟨p, 2, none⟩ (.int .i64 h')).drewN n) (some p) := gb_drewN (gb_set w ⟨p, 2, none⟩ (.int .i64 h')) n
    refine ⟨x, rfl, g1, g2, ⟨Nat.lt_of_lt_of_le hp hg.size, code_kept hcode hb hg, hb, i, h', hi, ?_, ?_, ?_, ?_, ?_⟩, hg⟩
    · rw [World.cell?_drewN, World.cell?_setCell_other _ _ _ _ (by simp)]; exact c0
    · rw [World.cell?_drewN, World.cell?_setCell_other _ _ _ _ (by simp)]; exact c1
    · rw [World.cell?_drewN]; exact World.cell?_setCell_same _ _ _ c2
    · rw [World.frozen?_drewN, World.frozen?_setCell]; exact f1
    · rw [World.frozen?_drewN, World.frozen?_setCell]; exact f2

theorem byte_from (w0 w : World) (p : Nat) (a0 : Option Addr) (len cap : Nat) (hc : Cur w p a0 len cap) (hg : w0.grownBy w (some p)) :
    Calls Try.prog 118 #[.pointer (some ⟨p, 0, none⟩)] w fun e w' => ∃ x : Int, e = .returned (.int .i64 x) ∧ 0 ≤ x ∧ x ≤ 255 ∧ Cur w' p a0 len cap ∧ w0.grownBy w' (some p) :=
  (byte_any w p a0 len cap hc).mono fun e w' ⟨x, h1, h2, h3, h4, h5⟩ => ⟨x, h1, h2, h3, h4, gb_trans hg h5⟩

set_option maxHeartbeats 1000000 in
theorem below_from (w0 w : World) (p : Nat) (a0 : Option Addr) (len cap : Nat) (n : Int) (hn : 1 ≤ n) (hc : Cur w p a0 len cap) (hg : w0.grownBy w (some p)) :
    Calls Try.prog 73 #[.pointer (some ⟨p, 0, none⟩), .int .i64 n] w fun e w' => ∃ x : Int, e = .returned (.int .i64 x) ∧ 0 ≤ x ∧ x < n ∧ Cur w' p a0 len cap ∧ w0.grownBy w' (some p) := by
  by_cases h : n ≤ 256
  · go_enter Try.func73, Try.ntmps73
    go_wp2_with (go_at_call 118; refine (byte_from w0 _ p a0 len cap (by assumption) (by assumption)).mono ?_; rintro e w1 ⟨x, rfl, hx0, hx1, hc1, hg1⟩)
    go_ret
    exact ⟨_, rfl, Int.emod_nonneg _ (by omega), Int.emod_lt_of_pos _ (by omega), by assumption, by assumption⟩
  · go_enter Try.func73, Try.ntmps73
    go_wp2_with (go_at_call 118; refine (byte_from w0 _ p a0 len cap (by assumption) (by assumption)).mono ?_; rintro e w1 ⟨x, rfl, hx0, hx1, hc1, hg1⟩)
    go_ret
    exact ⟨_, rfl, Int.emod_nonneg _ (by omega), Int.emod_lt_of_pos _ (by omega), by assumption, by assumption⟩

theorem from_from (w0 w : World) (p : Nat) (a0 : Option Addr) (len cap : Nat) (lo hi : Int) (h1 : lo ≤ hi) (h2 : -1000000000 ≤ lo) (h3 : hi ≤ 1000000000) (hc : Cur w p a0 len cap) (hg : w0.grownBy w (some p)) :
    Calls Try.prog 56 #[.pointer (some ⟨p, 0, none⟩), .int .i64 lo, .int .i64 hi] w fun e w' => ∃ x : Int, e = .returned (.int .i64 x) ∧ lo ≤ x ∧ x ≤ hi ∧ Cur w' p a0 len cap ∧ w0.grownBy w' (some p) := by
  go_enter Try.func56, Try.ntmps56
  go_wp2_with (go_at_call 73; refine (below_from w0 _ p a0 len cap _ (by omega) (by assumption) (by assumption)).mono ?_; rintro e w1 ⟨x, rfl, hx0, hx1, hc1, hg1⟩)
  go_ret
  exact ⟨_, rfl, by omega, by omega, by assumption, by assumption⟩

theorem once_from (w0 w : World) (p : Nat) (a0 : Option Addr) (len cap : Nat) (n : Int) (hn : 1 ≤ n) (hc : Cur w p a0 len cap) (hg : w0.grownBy w (some p)) :
    Calls Try.prog 87 #[.pointer (some ⟨p, 0, none⟩), .int .i64 n] w fun e w' => ∃ x : Bool, e = .returned (.bool x) ∧ Cur w' p a0 len cap ∧ w0.grownBy w' (some p) := by
  go_enter Try.func87, Try.ntmps87
  go_wp2_with (go_at_call 73; refine (below_from w0 _ p a0 len cap _ hn (by assumption) (by assumption)).mono ?_; rintro e w1 ⟨x, rfl, hx0, hx1, hc1, hg1⟩)
  go_ret
  exact ⟨_, rfl, by assumption, by assumption⟩

/-! ### a new cursor -/
theorem new_any (w : World) (a0 : Option Addr) (len cap : Nat) (hcode : CodeAt w a0 len) :
    Calls Try.prog 46 #[.slice a0 len cap] w fun e w' => ∃ h : Int, e = .returned (.pointer (some ⟨w.heap.size, 0, none⟩)) ∧ w' = w.alloc (.cells #[.slice a0 len cap, .int .i64 0, .int .i64 h] 114) := by
  have hl := hcode.1
  go_enter Try.func46, Try.ntmps46
  go_wp2
  go_loop [3, 4] (fun o i => ∃ (k : Nat) (z : Int), k ≤ len ∧ i = .int .i64 k ∧ o = .int .i64 z) (fun _ i => len - (intOf i).toNat)
  case atStart => exact ⟨0, _, Nat.zero_le _, rfl, rfl⟩
  case round =>
    obtain ⟨k, z, hk, rfl, rfl⟩ := hrel
    by_cases hlt : k < len
    · rcases hcode.2 with h0 | ⟨b, off, rfl, hbs, hcell⟩
      · omega
      obtain ⟨c, hc, h1, h2⟩ := hcell k hlt
      clear hcell hcode
      have hlt' : (k : Int) < (len : Int) := by omega
      go_wp2
      go_round
      case rel => exact ⟨k + 1, _, by omega, by go_num, rfl⟩
      case measure => simp [intOf]; omega
    · go_wp2
      go_ret
      exact ⟨rfl, z, rfl⟩

theorem new_cur (w : World) (a0 : Option Addr) (len cap : Nat) (hcode : CodeAt w a0 len) :
    Calls Try.prog 46 #[.slice a0 len cap] w fun e w' => ∃ p : Nat, e = .returned (.pointer (some ⟨p, 0, none⟩)) ∧ w.heap.size ≤ p ∧ Cur w' p a0 len cap ∧ Below w.heap.size w w' := by
  refine (new_any w a0 len cap hcode).mono ?_
  rintro e w' ⟨h, rfl, rfl⟩
  have hb : Below w.heap.size w (w.alloc (.cells #[.slice a0 len cap, .int .i64 0, .int .i64 h] 114)) := (Below.refl _ _).alloc (Nat.le_refl _) _
  refine ⟨w.heap.size, rfl, Nat.le_refl _, ⟨by simp, ⟨hcode.1, ?_⟩, ?_, 0, h, Nat.zero_le _, by simp, by simp, by simp, by simp, by simp⟩, hb⟩
  · rcases hcode.2 with h0 | ⟨b, off, rfl, hbs, hcell⟩
    · exact .inl h0
    · refine .inr ⟨b, off, rfl, by simp; omega, fun k hk => ?_⟩
      obtain ⟨c, hc, h1, h2⟩ := hcell k hk
      exact ⟨c, by rw [hb.cell hbs]; exact hc, h1, h2⟩
  · intro b off e
    rcases hcode.2 with h0 | ⟨b', off', e', hbs, hcell⟩
    · exact .inl h0
    · rw [e'] at e; cases e; exact .inr hbs

/-! ### what chapter 1's laws draw -/
theorem cur_alloc {w : World} {p : Nat} {a0 : Option Addr} {len cap : Nat} (h : Cur w p a0 len cap) (o : Obj) : Cur (w.alloc o) p a0 len cap := by
  obtain ⟨hp, hcode, hb, i, h, hi, c0, c1, c2, f1, f2⟩ := h
  have hB : Below w.heap.size w (w.alloc o) := (Below.refl _ _).alloc (Nat.le_refl _) _
  refine ⟨by simp; omega, ⟨hcode.1, ?_⟩, hb, i, h, hi, ?_, ?_, ?_, ?_, ?_⟩
  · rcases hcode.2 with h0 | ⟨b, off, rfl, hbs, hcell⟩
    · exact .inl h0
    · refine .inr ⟨b, off, rfl, by simp; omega, fun k hk => ?_⟩
      obtain ⟨c, hc, h1, h2⟩ := hcell k hk
      exact ⟨c, by rw [hB.cell hbs]; exact hc, h1, h2⟩
  · rw [hB.cell hp]; exact c0
  · rw [hB.cell hp]; exact c1
  · rw [hB.cell hp]; exact c2
  · rw [hB.frozen hp]; exact f1
  · rw [hB.frozen hp]; exact f2
theorem cur_drewN {w : World} {p : Nat} {a0 : Option Addr} {len cap : Nat} (h : Cur w p a0 len cap) (n : Nat) : Cur (w.drewN n) p a0 len cap := h
theorem gb_alloc {w w' : World} {r : Option Nat} (h : w.grownBy w' r) (o : Obj) : w.grownBy (w'.alloc o) r :=
  ⟨h.os, h.tape, h.output, Nat.le_trans h.size (by simp), fun k hk hn => (Below.heap_alloc _ _ _ (Nat.lt_of_lt_of_le hk h.size)).trans (h.block k hk hn)⟩


/-- a number drawn as a place in a row of numbers that lies new -/
theorem below_lit (w0 w : World) (p : Nat) (a0 : Option Addr) (len cap : Nat) (xs : List Int) (t : TypeId) (n lo hi : Int) (hn : n = xs.length) (h1 : 1 ≤ n) (hall : ∀ x ∈ xs, lo ≤ x ∧ x ≤ hi) (hc : Cur w p a0 len cap) (hg : w0.grownBy w (some p)) :
    Calls Try.prog 73 #[.pointer (some ⟨p, 0, none⟩), .int .i64 n] (w.alloc (.cells (xs.map (Value.int .i64)).toArray t)) fun e w' => ∃ x v : Int, e = .returned (.int .i64 x) ∧ 0 ≤ x ∧ x < n ∧ w'.cell? ⟨w.heap.size, x.toNat, none⟩ = some (.int .i64 v) ∧ lo ≤ v ∧ v ≤ hi ∧ Cur w' p a0 len cap ∧ w0.grownBy w' (some p) := by
  have hp := hc.1
  refine (below_from (w.alloc (.cells (xs.map (Value.int .i64)).toArray t)) _ p a0 len cap n h1 (cur_alloc hc _) (World.grownBy.refl _ _)).mono ?_
  rintro e w' ⟨x, rfl, g0, g1, hc', hg'⟩
  have hk : x.toNat < xs.length := by omega
  refine ⟨x, xs[x.toNat], rfl, g0, g1, ?_, (hall _ (List.getElem_mem hk)).1, (hall _ (List.getElem_mem hk)).2, hc', gb_trans (gb_alloc hg _) hg'⟩
  rw [gb_cell hg' (by simp) (by omega)]
  simp [hk]
end Go.Proofs.Ytmnjmghlkiljhaa.draw
/- What the laws of chapter 2 draw, first part: a cursor stays while new memory is written; names; places. -/
namespace Go.Proofs.Ytmnjmghlkiljhaa.draw
open Go.ChangeShapes Go.WideShapes Go.ChangeAt Go.RowKit
set_option linter.unusedVariables false

theorem cur_below {w w' : World} {p : Nat} {a0 : Option Addr} {len cap L : Nat} (h : Cur w p a0 len cap) (hB : Below L w w') (hL : p < L) : Cur w' p a0 len cap := by
  obtain ⟨hp, hcode, hb, i, h, hi, c0, c1, c2, f1, f2⟩ := h
  refine ⟨Nat.lt_of_lt_of_le hp hB.size, ⟨hcode.1, ?_⟩, hb, i, h, hi, ?_, ?_, ?_, ?_, ?_⟩
  · rcases hcode.2 with h0 | ⟨b, off, e, hbs, hcell⟩
    · exact .inl h0
    · rcases hb b off e with h0 | hbp
      · exact .inl h0
      · refine .inr ⟨b, off, e, Nat.lt_of_lt_of_le hbs hB.size, fun k hk => ?_⟩
        obtain ⟨c, hc, h1, h2⟩ := hcell k hk
        exact ⟨c, by rw [hB.cell (by show b < L; omega)]; exact hc, h1, h2⟩
  · rw [hB.cell hL]; exact c0
  · rw [hB.cell hL]; exact c1
  · rw [hB.cell hL]; exact c2
  · rw [hB.frozen hL]; exact f1
  · rw [hB.frozen hL]; exact f2
theorem gb_below {w a b : World} {p L : Nat} (h : w.grownBy a (some p)) (hB : Below L a b) (hL : w.heap.size ≤ L) : w.grownBy b (some p) :=
  ⟨hB.os.trans h.os, hB.tape.trans h.tape, hB.output.trans h.output, Nat.le_trans h.size hB.size, fun k hk hn => (hB.block k (by omega)).trans (h.block k hk hn)⟩

/-- a number drawn as a place in a row of texts that lies new -/
theorem below_names (w0 w : World) (p : Nat) (a0 : Option Addr) (len cap : Nat) (ss : List ByteArray) (t : TypeId) (n : Int) (m : Nat) (hn : n = ss.length) (h1 : 1 ≤ n) (hall : ∀ s ∈ ss, s.size ≤ m) (hc : Cur w p a0 len cap) (hg : w0.grownBy w (some p)) :
    Calls Try.prog 73 #[.pointer (some ⟨p, 0, none⟩), .int .i64 n] (w.alloc (.cells (ss.map Value.string).toArray t)) fun e w' => ∃ (x : Int) (s : ByteArray), e = .returned (.int .i64 x) ∧ 0 ≤ x ∧ x < n ∧ w'.cell? ⟨w.heap.size, x.toNat, none⟩ = some (.string s) ∧ s.size ≤ m ∧ Cur w' p a0 len cap ∧ w0.grownBy w' (some p) := by
  have hp := hc.1
  refine (below_from (w.alloc (.cells (ss.map Value.string).toArray t)) _ p a0 len cap n h1 (cur_alloc hc _) (World.grownBy.refl _ _)).mono ?_
  rintro e w' ⟨x, rfl, g0, g1, hc', hg'⟩
  have hk : x.toNat < ss.length := by omega
  refine ⟨x, ss[x.toNat], rfl, g0, g1, ?_, hall _ (List.getElem_mem hk), hc', gb_trans (gb_alloc hg _) hg'⟩
  rw [gb_cell hg' (by simp) (by omega)]
  simp [hk]

/-- the eight names -/
def names : List ByteArray := [⟨#[97]⟩, ⟨#[98]⟩, ⟨#[99]⟩, ⟨#[100, 100]⟩, ⟨#[101, 49]⟩, ⟨#[102, 45]⟩, ⟨#[103]⟩, ⟨#[104]⟩]
theorem names_small : ∀ s ∈ names, s.size ≤ 2 := by
  intro s hs
  simp only [names, List.mem_cons, List.not_mem_nil, or_false] at hs
  rcases hs with rfl | rfl | rfl | rfl | rfl | rfl | rfl | rfl <;> decide

theorem name_from (w0 w : World) (p : Nat) (a0 : Option Addr) (len cap : Nat) (hc : Cur w p a0 len cap) (hg : w0.grownBy w (some p)) :
    Calls Try.prog 86 #[.pointer (some ⟨p, 0, none⟩)] w fun e w' => ∃ s : ByteArray, e = .returned (.string s) ∧ s.size ≤ 2 ∧ Cur w' p a0 len cap ∧ w0.grownBy w' (some p) := by
  go_enter Try.func86, Try.ntmps86
  go_wp2_with (first | (go_at_call 73; refine (below_names w0 w p a0 len cap names _ 8 2 rfl (by omega) names_small hc hg).mono ?_; rintro e w1 ⟨x, s, rfl, hx0, hx1, hcell, hs, hc1, hg1⟩; obtain ⟨k, hk⟩ : ∃ k : Nat, x = k := ⟨x.toNat, by omega⟩; subst hk; rw [Int.toNat_natCast] at hcell) | (fail))
  go_ret
  exact ⟨s, rfl, hs, hc1, hg1⟩

end Go.Proofs.Ytmnjmghlkiljhaa.draw
/- What the laws of chapter 8 draw, first part: a number as a text; a name, or what is none. -/
namespace Go.Proofs.Ytmnjmghlkiljhaa.rg
open Go.ChangeShapes Go.WideShapes Go.ChangeAt Go.RowKit
open Go.Proofs.Ytmnjmghlkiljhaa.ce Go.Proofs.Ytmnjmghlkiljhaa.ro
set_option linter.unusedVariables false

theorem l1Int_any (n : Nat) (hn : n ≤ 100) (w : World) :
    Calls Try.prog 125 #[.int .i64 n] w fun e w' => ∃ s : ByteArray, e = .returned (.string s) ∧ s.size ≤ 1000 ∧ Below w.heap.size w w' := by
  have hn0 : ¬ (n : Int) < 0 := by omega
  go_enter Try.func125, Try.ntmps125
  go_wp2
  go_loopg [0, 3, 5] (2 * n + 1) (fun k v s d wr => ∃ (q : Nat) (out : ByteArray), v = .int .i64 q ∧ s = .string out ∧ q ≤ 100 ∧ out.size + 2 * q ≤ 300 ∧ (out.toList = [] → 2 * q + 1 ≤ k) ∧ (out.toList ≠ [] → 2 * q ≤ k ∧ out.size ≤ 300) ∧ Below w.heap.size w wr)
  case atStart => exact ⟨n, ⟨#[]⟩, rfl, rfl, hn, by show 0 + 2 * n ≤ 300; omega, fun _ => Nat.le_refl _, fun h => ⟨by omega, by show 0 ≤ 300; omega⟩, Below.refl _ _⟩
  case round =>
    obtain ⟨q, out, rfl, rfl, hq, hsz, hk1, hk2, hB⟩ := hrel
    have HK1 : Hid (out.toList = [] → 2 * q + 1 ≤ gk) := hk1
    have HK2 : Hid (out.toList ≠ [] → 2 * q ≤ gk ∧ out.size ≤ 300) := hk2
    clear hk1 hk2
    obtain ⟨d, hd⟩ := hid_ex (q % 10)
    have hd9 : d ≤ 9 := by have := hd.out; omega
    have hcv := dig_conv d hd9 wr
    have hds : (dig d).size = 1 := rfl
    have hmod : (q : Int) % 10 = (d : Int) := by have := hd.out; omega
    obtain ⟨q2, hq2⟩ := hid_ex (q / 10)
    have hdiv : (q : Int) / 10 = (q2 : Int) := by have := hq2.out; omega
    have hd0 : ¬ (d : Int) < 0 := by omega
    have hout : (dig d ++ out).size = 1 + out.size := by rw [ByteArray.size_append]; rfl
    have hne : Hid ((dig d ++ out).toList ≠ []) := by
      unfold Hid
      intro e
      have h1 : (dig d ++ out).data.toList = [] := by rw [← ByteArray.toList_eq]; exact e
      have h2 : (dig d ++ out).size = 0 := by show (dig d ++ out).data.size = 0; rw [← Array.length_toList, h1]; rfl
      omega
    by_cases he : out.toList = []
    · have hb : (out.toList == []) = true := by rw [he]; rfl
      have hs0 : out.size ≤ 0 := by
        have h1 : out.data.toList = [] := by rw [← ByteArray.toList_eq]; exact he
        show out.data.size ≤ 0
        rw [← Array.length_toList, h1]
        exact Nat.le_refl _
      go_wp2
      go_roundg (2 * q2)
      case measure => have := HK1.out he; have := hq2.out; omega
      case rel => exact ⟨q2, dig d ++ out, rfl, rfl, by have := hq2.out; omega, by have := hq2.out; omega, fun h => absurd h hne.out, fun _ => ⟨Nat.le_refl _, by omega⟩, hB.alloc hB.size _⟩
    · have hb : (out.toList == []) = false := by
        cases hx : out.toList with
        | nil => exact absurd hx he
        | cons x r => rfl
      by_cases hq0 : q = 0
      · have hqb : ((q : Int) != 0) = false := by rw [hq0]; rfl
        have hs3 : out.size ≤ 300 := by omega
        clear hq0 he
        go_wp2
        go_ret
        exact ⟨out, rfl, by omega, hB⟩
      · have hqb : ((q : Int) != 0) = true := by simp; omega
        have hlt : q2 < q := by have := hq2.out; omega
        have HE : Hid (out.toList ≠ []) := he
        clear he hq0
        go_wp2
        go_roundg (2 * q2)
        case measure => have := (HK2.out HE.out).1; omega
        case rel => exact ⟨q2, dig d ++ out, rfl, rfl, by have := hq2.out; omega, by have := hq2.out; omega, fun h => absurd h hne.out, fun _ => ⟨Nat.le_refl _, by omega⟩, hB.alloc hB.size _⟩

/-- what l8DrawName may tell besides names -/
def odd4 : List ByteArray := [⟨#[]⟩, ⟨#[65]⟩, ⟨#[48, 49, 50, 51, 52, 53, 54, 55, 56, 57, 97, 98, 99]⟩, ⟨#[122, 122]⟩]
theorem odd4_small : ∀ s ∈ odd4, s.size ≤ 13 := by
  intro s hs
  simp only [odd4, List.mem_cons, List.not_mem_nil, or_false] at hs
  rcases hs with rfl | rfl | rfl | rfl <;> decide
open Go.Proofs.Ytmnjmghlkiljhaa.draw in
theorem l8DrawName_any (w0 w : World) (p : Nat) (a0 : Option Addr) (len cap : Nat) (hc : Cur w p a0 len cap) (hg : w0.grownBy w (some p)) :
    Calls Try.prog 48 #[.pointer (some ⟨p, 0, none⟩)] w fun e w' => ∃ s : ByteArray, e = .returned (.string s) ∧ s.size ≤ 13 ∧ Cur w' p a0 len cap ∧ w0.grownBy w' (some p) := by
  go_enter Try.func48, Try.ntmps48
  go_wp2_with (first | (go_at_call 87; refine (once_from w0 w p a0 len cap 12 (by omega) hc hg).mono ?_; rintro e w1 ⟨x, rfl, hc1, hg1⟩; cases x) | (go_at_call 86; refine (name_from w0 w1 p a0 len cap hc1 hg1).mono ?_; rintro e w2 ⟨s, rfl, hs, hc2, hg2⟩) | (go_at_call 73; refine (below_names w0 w1 p a0 len cap odd4 _ 4 13 rfl (by omega) odd4_small hc1 hg1).mono ?_; rintro e w2 ⟨x, s, rfl, hx0, hx1, hcell, hs, hc2, hg2⟩; obtain ⟨k, hk⟩ : ∃ k : Nat, x = k := ⟨x.toNat, by omega⟩; subst hk; rw [Int.toNat_natCast] at hcell) | (fail))
  all_goals
    go_ret
    exact ⟨s, rfl, by omega, hc2, hg2⟩
end Go.Proofs.Ytmnjmghlkiljhaa.rg
/- What the laws of chapter 8 draw, second part: a ring in its variable while it is drawn. -/
namespace Go.Proofs.Ytmnjmghlkiljhaa.rg
open Go.ChangeShapes Go.WideShapes Go.ChangeAt Go.RowKit
open Go.Proofs.Ytmnjmghlkiljhaa.ce Go.Proofs.Ytmnjmghlkiljhaa.ro Go.Proofs.Ytmnjmghlkiljhaa.draw
set_option linter.unusedVariables false

/-- small enough for whatever follows -/
structure Sm (r : Rg) : Prop where
  n : r.N.length ≤ 30
  u : r.U.length ≤ 31
  s : ∀ s ∈ r.N, s.size ≤ 2000
/-- while a ring is drawn: the cursor in p, the answer's variable b2, the ring's b3 -/
structure Dr (w : World) (p : Nat) (a0 : Option Addr) (len cap b2 b3 : Nat) (vN vU : Value) (r : Rg) (wr : World) : Prop where
  hp : p < w.heap.size
  hb : w.heap.size ≤ b2 ∧ w.heap.size ≤ b3 ∧ b2 ≠ b3
  cur : Cur wr p a0 len cap
  gb : w.grownBy wr (some p)
  n : Own encS wr w.heap.size wr.heap.size vN r.N
  u : Own encB wr w.heap.size wr.heap.size vU r.U
  v3 : VBlk wr b3 27 [vN, vU, .int .i64 r.A]
  v2 : VBlk wr b2 27 [.slice none 0 0, .slice none 0 0, .int .i64 0]
variable {w : World} {p : Nat} {a0 : Option Addr} {len cap b2 b3 : Nat} {vN vU : Value} {r : Rg} {wr w' : World}
theorem Dr.size (D : Dr w p a0 len cap b2 b3 vN vU r wr) : w.heap.size ≤ wr.heap.size := D.gb.size
/-- the cursor has gone on -/
theorem Dr.went (D : Dr w p a0 len cap b2 b3 vN vU r wr) (hc : Cur w' p a0 len cap) (hg : wr.grownBy w' (some p)) : Dr w p a0 len cap b2 b3 vN vU r w' := by
  have hp := D.hp
  have hb := D.hb
  have k : ∀ g, w.heap.size ≤ g → g < wr.heap.size → w'.heap[g]? = wr.heap[g]? := fun g h1 h2 => hg.block g h2 (fun e => by cases e; omega)
  exact ⟨D.hp, D.hb, hc, gb_trans D.gb hg, (D.n.keep fun g h1 h2 => k g h1 h2).top, (D.u.keep fun g h1 h2 => k g h1 h2).top, D.v3.of (k b3 hb.2.1 D.v3.lt), D.v2.of (k b2 hb.1 D.v2.lt)⟩
/-- new memory, and what is the ring's own, has been written -/
theorem Dr.step (D : Dr w p a0 len cap b2 b3 vN vU r wr) (hB : Below w.heap.size wr w') {vN' vU' : Value} {r' : Rg} {lo1 lo2 : Nat} (n : Own encS w' w.heap.size lo1 vN' r'.N) (u : Own encB w' w.heap.size lo2 vU' r'.U) (v3 : VBlk w' b3 27 [vN', vU', .int .i64 r'.A]) (v2 : VBlk w' b2 27 [.slice none 0 0, .slice none 0 0, .int .i64 0]) : Dr w p a0 len cap b2 b3 vN' vU' r' w' :=
  ⟨D.hp, D.hb, cur_below D.cur hB D.hp, gb_below D.gb hB (Nat.le_refl _), n.top, u.top, v3, v2⟩
theorem Dr.grow (D : Dr w p a0 len cap b2 b3 vN vU r wr) (hB : Below wr.heap.size wr w') : Dr w p a0 len cap b2 b3 vN vU r w' :=
  D.step (hB.mono D.size) (D.n.grow hB) (D.u.grow hB) (vblk_grow D.v3 hB) (vblk_grow D.v2 hB)
theorem Dr.tn (D : Dr w p a0 len cap b2 b3 vN vU r wr) {vN' vU' : Value} {r' : Rg} {lo1 : Nat} (o : OwnR w' w.heap.size lo1 vN' vU' r') (v3 : VBlk w' b3 27 [vN', vU', .int .i64 r'.A]) (t : Tn w.heap.size b3 wr w') : Dr w p a0 len cap b2 b3 vN' vU' r' w' :=
  D.step (t.below (Nat.le_refl _) D.hb.2.1) o.n o.u v3 (t.vblk D.v2 D.hb.2.2 (by decide) (by decide))
theorem Dr.setU {g n k : Nat} (D : Dr w p a0 len cap b2 b3 vN (.slice (some ⟨g, 0, none⟩) n k) r wr) (i : Nat) (hi : i < r.U.length) (x : Bool) : Dr w p a0 len cap b2 b3 vN (.slice (some ⟨g, 0, none⟩) n k) ⟨r.N, r.U.set i x, r.A⟩ (wr.setCell ⟨g, i, none⟩ (.bool x)) := by
  have hT := own_ty D.u (by omega) i (.bool x)
  exact D.step hT.low (hT.own D.n (by decide)) (ownB_set D.u i hi x) (hT.vblk D.v3 (by decide)) (hT.vblk D.v2 (by decide))
theorem Dr.only {t : TypeId} (D : Dr w p a0 len cap b2 b3 vN vU r wr) (hO : Only b3 wr w') {A : Int} (v3 : VBlk w' b3 27 [vN, vU, .int .i64 A]) : Dr w p a0 len cap b2 b3 vN vU ⟨r.N, r.U, A⟩ w' :=
  D.step (hO.2.2 _ D.hb.2.1) (D.n.only hO D.v3 (by decide)) (D.u.only hO D.v3 (by decide)) v3 (vblk_only D.v2 hO D.hb.2.2)
theorem Dr.zero (D : Dr w p a0 len cap b2 b3 vN vU r wr) (hO : Only b3 wr w') (v3 : VBlk w' b3 27 [.slice none 0 0, .slice none 0 0, .int .i64 0]) : Dr w p a0 len cap b2 b3 (.slice none 0 0) (.slice none 0 0) Rg.zero w' :=
  D.step (hO.2.2 _ D.hb.2.1) (lo1 := 0) (lo2 := 0) (own_zero _ _ _ _ _) (own_zero _ _ _ _ _) v3 (vblk_only D.v2 hO D.hb.2.2)
/-- a text is appended, and stored -/
theorem Dr.names (D : Dr w p a0 len cap b2 b3 vN vU r wr) {w1 : World} {a : Option Addr} {n k lo : Nat} {N' : List ByteArray} (hT : Ty w.heap.size 9 wr w1) (o : Own encS w1 w.heap.size lo (.slice a n k) N') (hO : Only b3 w1 w') (v3 : VBlk w' b3 27 [.slice a n k, vU, .int .i64 r.A]) : Dr w p a0 len cap b2 b3 (.slice a n k) vU ⟨N', r.U, r.A⟩ w' :=
  have V := hT.vblk D.v3 (by decide)
  D.step (hT.low.trans (hO.2.2 _ D.hb.2.1)) (o.only hO V (by decide)) ((hT.own D.u (by decide)).only hO V (by decide)) v3 (vblk_only (hT.vblk D.v2 (by decide)) hO D.hb.2.2)
theorem Dr.flags (D : Dr w p a0 len cap b2 b3 vN vU r wr) {w1 : World} {a : Option Addr} {n k lo : Nat} {U' : List Bool} (hT : Ty w.heap.size 4 wr w1) (o : Own encB w1 w.heap.size lo (.slice a n k) U') (hO : Only b3 w1 w') (v3 : VBlk w' b3 27 [vN, .slice a n k, .int .i64 r.A]) : Dr w p a0 len cap b2 b3 vN (.slice a n k) ⟨r.N, U', r.A⟩ w' :=
  have V := hT.vblk D.v3 (by decide)
  D.step (hT.low.trans (hO.2.2 _ D.hb.2.1)) ((hT.own D.n (by decide)).only hO V (by decide)) (o.only hO V (by decide)) v3 (vblk_only (hT.vblk D.v2 (by decide)) hO D.hb.2.2)
theorem cur_ad {o : Obj} (h : Cur wr p a0 len cap) : Cur (wr.alloc o).drew p a0 len cap := cur_drewN (cur_alloc h o) 1
theorem cur_d (h : Cur wr p a0 len cap) : Cur wr.drew p a0 len cap := cur_drewN h 1
theorem gb_d (h : wr.drew.grownBy w' (some p)) : wr.grownBy w' (some p) := ⟨h.os, h.tape, h.output, h.size, h.block⟩
theorem gb_ad {o : Obj} (h : (wr.alloc o).drew.grownBy w' (some p)) : wr.grownBy w' (some p) := gb_trans (gb_alloc (World.grownBy.refl _ _) o) (gb_d h)
/-- the texts of a literal -/
def odd3 : List ByteArray := [⟨#[]⟩, ⟨#[97]⟩, ⟨#[65]⟩]
theorem odd3_get (k : Nat) (hk : k < 3) : ∃ s : ByteArray, s.size ≤ 1 ∧ ∀ W : World, (W.alloc (.cells #[.string ⟨#[]⟩, .string ⟨#[97]⟩, .string ⟨#[65]⟩] 9)).cell? ⟨W.heap.size, k, none⟩ = some (.string s) := by
  match k, hk with
  | 0, _ => exact ⟨⟨#[]⟩, by decide, fun W => by simp⟩
  | 1, _ => exact ⟨⟨#[97]⟩, by decide, fun W => by simp⟩
  | 2, _ => exact ⟨⟨#[65]⟩, by decide, fun W => by simp⟩
end Go.Proofs.Ytmnjmghlkiljhaa.rg
