/- Contracts: the model's rings in their variable: who leaves. -/
import Derived.Test.YtmnjmghlkiljhaaMg05
import Derived.Deep.DeepCutAuto
namespace Go.Proofs.Ytmnjmghlkiljhaa.rg
open Go.ChangeShapes Go.WideShapes Go.ChangeAt Go.RowKit
open Go.Proofs.Ytmnjmghlkiljhaa.ce Go.Proofs.Ytmnjmghlkiljhaa.ro
set_option linter.unusedVariables false

/-- where the hand is, the one at i gone, before it is brought round -/
def handA (A : Int) (i : Nat) : Int := if (i : Int) < A then A - 1 else A
theorem left_at (r : Rg) (i : Nat) : (left r i).A = if handA r.A i < (r.N.length : Int) - 1 then handA r.A i else 0 := rfl

theorem _root_.Go.Proofs.Ytmnjmghlkiljhaa.ro.Ty.mono {lo lo' : Nat} {t : TypeId} {w w' : World} (h : Ty lo t w w') (hl : lo' ≤ lo) : Ty lo' t w w' := ⟨h.low.mono hl, h.keep⟩

/-- a ring in its variable while one leaves -/
structure Lv (lo b : Nat) (w wc : World) (vN vU : Value) (A : Int) (N : List ByteArray) (U : List Bool) : Prop where
  n : Own encS wc lo wc.heap.size vN N
  u : Own encB wc lo wc.heap.size vU U
  v : VBlk wc b 27 [vN, vU, .int .i64 A]
  t : Tn lo b w wc

set_option maxRecDepth 100000 in
set_option maxHeartbeats 4000000 in
theorem l8Leave_yes (r : Rg) (s : ByteArray) (i : Nat) (hpi : posS s r.N = i) (vN vU : Value) (b lo hi : Nat) (w : World) (own : OwnR w lo hi vN vU r) (hV : VBlk w b 27 [vN, vU, .int .i64 r.A]) (hlo : lo ≤ w.heap.size) (hi' : i < r.N.length) (hN : r.N.length ≤ 1000000) (hNU : r.U.length = r.N.length) (hA0 : 0 ≤ r.A) (hA1 : r.A < r.N.length) :
    Calls Try.prog 113 #[.pointer (some ⟨b, 0, none⟩), .string s] w fun e w' => e = .returned (.bool true) ∧ ∃ vN' vU', OwnR w' lo w'.heap.size vN' vU' (left r i) ∧ VBlk w' b 27 [vN', vU', .int .i64 (left r i).A] ∧ Tn lo b w w' := by
  obtain ⟨N, U, A⟩ := r
  obtain ⟨a, n, cap, rfl⟩ := own.n.slice
  obtain ⟨c, m, dc, rfl⟩ := own.u.slice
  obtain ⟨hn, -, -⟩ := own.n.rd.cap
  obtain ⟨hm, hm1, hm2⟩ := own.u.rd.cap
  have HN : Hid (n = N.length) := hn
  have O : Hid (OwnR w lo hi (.slice a n cap) (.slice c m dc) ⟨N, U, A⟩) := own
  have V : Hid (VBlk w b 27 [.slice a n cap, .slice c m dc, .int .i64 A]) := hV
  have hbl := hV.lt
  obtain ⟨c0, c1, c2⟩ := cells3 hV
  dsimp only at hpi hi' hN hNU hA0 hA1 hm hn ⊢
  obtain ⟨g, rfl, hg, -, -⟩ := ownB_cell own.u i (show i < U.length by omega)
  clear own hV
  rw [left_at]
  dsimp only
  obtain ⟨p, hp⟩ := hid_ex (i + 1)
  have i0 : (0 : Int) ≤ (i : Int) := by omega
  have i1 : (i : Int) ≤ (dc : Int) := by omega
  have ineg : ¬ (i : Int) < 0 := by omega
  have p1 : (p : Int) ≤ (m : Int) := by have := hp.out; omega
  have p2 : (p : Int) ≤ (dc : Int) := by have := hp.out; omega
  have i3 : (m : Int) ≤ (dc : Int) := by omega
  have i4 : IntKind.i64.wrap ((i : Int) + 1) = (p : Int) := by rw [IntKind.wrap_i64]; have := hp.out; omega
  have hpm : p ≤ U.length := by have := hp.out; omega
  have hiU : i ≤ U.length := by omega
  have hlt : (U.take i).length ≤ 1000 + i := by rw [List.length_take]; omega
  have hld : (U.take i).length + (U.drop p).length ≤ 1000000 := by rw [List.length_take, List.length_drop]; have := hp.out; omega
  obtain ⟨B, hB⟩ := hid_ex (handA A i)
  rw [hB.out]
  have hBd : 0 ≤ B ∧ B ≤ (N.length : Int) - 1 := by
    have := hB.out
    unfold handA at this
    split at this <;> omega
  obtain ⟨F, hF⟩ := hid_ex (if B < (N.length : Int) - 1 then B else 0)
  rw [hF.out]
  have hle : (N.take i ++ N.drop (i + 1)).length = N.length - 1 := by simp; omega
  clear hm hn
  have m1 : Hid True := trivial
  go_enter Try.func113, Try.ntmps113
  go_wp2_with (first | (go_at_call 137; refine (l1At_any N _ _ _ O.out.n.rd).mono ?_; rintro e wq ⟨rfl, hq⟩; subst wq; rw [hpi]) | (go_at_call 138; refine (l1Cut_any N _ i _ O.out.n.rd hi' hN).mono ?_; rintro e w1 ⟨v1, rfl, o1, hB1⟩; have hz1 := hB1.size; have V1 := vblk_grow V.out hB1; have u1 := O.out.u.grow hB1; have T1 : Tn lo b w w1 := Tn.of_below hB1 hlo; obtain ⟨a1, n1, k1, rfl⟩ := o1.slice) | (refine wpList_store_ss rfl _ _ rfl b 0 a1 n1 k1 rfl rfl V1 (by simp) ?_; intro w2 hO2 V2; replace o1 := o1.only hO2 V1 (by decide); replace u1 := u1.only hO2 V1 (by decide); have T2 : Tn lo b w w2 := T1.trans (Tn.of_only hO2); have hz2 := T2.size; clear c0 c1 c2; obtain ⟨c0, c1, c2⟩ := cells3 V2) | (fail))
  have hn1 : Hid (n1 = N.length - 1) := o1.rd.cap.1.trans hle
  have RT := u1.rd.take i hiU
  have RD0 := rdB_rest u1.rd p hpm
  rw [Nat.zero_add] at RD0
  obtain ⟨ad, had⟩ : ∃ ad, (if dc = p then (some ⟨g, 0, none⟩ : Option Addr) else some ⟨g, p, none⟩) = ad := ⟨_, rfl⟩
  rw [had] at RD0
  have RD : Hid (Rd encB w2 _ (U.drop p)) := RD0
  clear RD0
  have hBa : Below w2.heap.size w2 (w2.alloc (.cells #[] 4)).drew := ((Below.refl w2.heap.size w2).alloc (Nat.le_refl _) _).drew
  obtain ⟨-, cA, -⟩ := cells3 (vblk_grow V2 ((Below.refl w2.heap.size w2).alloc (Nat.le_refl _) (.cells #[] 4)))
  simp only [Act.put]
  go_cut [] from 23 to 41 (fun wc => ∃ a6 n6 k6, Hid (Lv lo b w wc (.slice a1 n1 k1) (.slice a6 n6 k6) A (N.take i ++ N.drop (i + 1)) (U.take i ++ U.drop p)))
  case first =>
      go_region_law (first | (refine step_append_g infoB rfl _ _ 25 rfl Try.underlying25 _ 0 _ [] rfl (own_zero _ _ _ _ _) (Nat.le_refl _) _ (U.take i) rfl (RT.grow hBa) (by simp; omega) ?_; intro v5 W5 o5 hT5; rw [List.nil_append] at o5; have hB5 : Below w2.heap.size w2 W5 := hBa.trans (hT5.low.mono hBa.size); have V5 := vblk_grow V2 hB5; have o15 := o1.grow hB5; have T5 : Tn lo b w W5 := T2.trans (Tn.of_below hB5 (by omega)); obtain ⟨e0, e1, e2⟩ := cells3 V5; have hz5 := hT5.low.size) | (refine step_append_g infoB rfl _ _ 25 rfl Try.underlying25 _ _ _ (U.take i) rfl o5 hz5 _ (U.drop p) rfl (RD.out.grow hB5) (by omega) ?_; intro v6 W6 o6 hT6; have V6 := hT6.vblk V5 (by decide); have o16 := hT6.own o15 (by decide); have hza := hBa.size; have T6 : Tn lo b w W6 := T5.trans (Tn.of_ty (hT6.mono (by omega)) (.inr rfl)); obtain ⟨q0, q1, q2⟩ := cells3 V6; have f1 := V6.frozen 1; have hz6 := T6.size; obtain ⟨a6, n6, k6, rfl⟩ := o6.slice) | (fail))
      all_goals
        go_wp2_with fail
        go_meet
        case rel => exact ⟨a6, n6, k6, ⟨(o16.only (only_set W6 b 1 (.slice a6 n6 k6)) V6 (by decide)).wide hlo (Nat.le_refl _) |>.top, (o6.only (only_set W6 b 1 (.slice a6 n6 k6)) V6 (by decide)).wide (by omega) (Nat.le_refl _) |>.top, V6.set 1 (.slice a6 n6 k6), T6.trans (Tn.of_only (only_set W6 b 1 (.slice a6 n6 k6)))⟩⟩
  case rest =>
    have hA2 : IntKind.i64.wrap (A - 1) = A - 1 := by rw [IntKind.wrap_i64]; omega
    obtain ⟨a6, n6, k6, L⟩ := hcut
    have V3 := L.out.v
    have hz3 := L.out.t.size
    obtain ⟨x0, x1, x2⟩ := cells3 V3
    have hbd2 := hBd
    clear c0 c1 c2 hBd hle
    by_cases hiA : (i : Int) < A
    · have eB : B = A - 1 := by rw [← hB.out]; exact if_pos hiA
      subst eB
      by_cases hend : A - 1 = (n1 : Int)
      · have hendb : ((A - 1) == (n1 : Int)) = true := by simpa using hend
        have eF : F = 0 := hF.out.symm.trans (if_neg (by have := hn1.out; omega))
        subst eF
        clear hend
        go_wp2_with (first | (clear m1; refine wpList_store_n rfl _ _ rfl b 2 (A - 1) rfl (by first | rfl | simp [go_sem]) V3 (by simp) ?_; intro w8 hO8 V8; obtain ⟨z0, z1, z2⟩ := cells3 V8; have n8 := L.out.n.only hO8 V3 (by decide); have u8 := L.out.u.only hO8 V3 (by decide); have T8 := L.out.t.trans (Tn.of_only hO8)) | (fail))
        simp only [Act.put]
        go_big_quiet (fail)
        go_wp2_with (first | (refine wpList_store_n rfl _ _ rfl b 2 0 rfl rfl (vblk_grow V8 (ce.below_drewN _ _)) (by simp) ?_; intro w9 hO9 V9) | (fail))
        go_ret
        have hp' := hp.out
        subst hp'
        exact ⟨rfl, _, _, ⟨((n8.grow (ce.below_drewN _ _)).only hO9 (vblk_grow V8 (ce.below_drewN _ _)) (by decide)).top, ((u8.grow (ce.below_drewN _ _)).only hO9 (vblk_grow V8 (ce.below_drewN _ _)) (by decide)).top⟩, V9, (T8.trans (Tn.of_below (ce.below_drewN _ _) (by have := T8.size; omega))).trans (Tn.of_only hO9)⟩
      · have hendb : ((A - 1) == (n1 : Int)) = false := by simpa using hend
        have eF : F = A - 1 := hF.out.symm.trans (if_pos (by have := hn1.out; omega))
        subst eF
        clear hend
        go_wp2_with (first | (clear m1; refine wpList_store_n rfl _ _ rfl b 2 (A - 1) rfl (by first | rfl | simp [go_sem]) V3 (by simp) ?_; intro w8 hO8 V8; obtain ⟨z0, z1, z2⟩ := cells3 V8; have n8 := L.out.n.only hO8 V3 (by decide); have u8 := L.out.u.only hO8 V3 (by decide); have T8 := L.out.t.trans (Tn.of_only hO8)) | (fail))
        simp only [Act.put]
        go_big_quiet (fail)
        go_wp2
        go_ret
        have hp' := hp.out
        subst hp'
        exact ⟨rfl, _, _, ⟨(n8.grow (ce.below_drewN _ _)).top, (u8.grow (ce.below_drewN _ _)).top⟩, vblk_grow V8 (ce.below_drewN _ _), T8.trans (Tn.of_below (ce.below_drewN _ _) (by have := T8.size; omega))⟩
    · have eB : B = A := by rw [← hB.out]; exact if_neg hiA
      subst eB
      by_cases hend : B = (n1 : Int)
      · have hendb : (B == (n1 : Int)) = true := by simpa using hend
        have eF : F = 0 := hF.out.symm.trans (if_neg (by have := hn1.out; omega))
        subst eF
        clear hend
        go_wp2
        go_big_quiet (fail)
        go_wp2_with (first | (refine wpList_store_n rfl _ _ rfl b 2 0 rfl rfl (vblk_grow V3 (ce.below_drewN _ _)) (by simp) ?_; intro w9 hO9 V9) | (fail))
        go_ret
        have hp' := hp.out
        subst hp'
        exact ⟨rfl, _, _, ⟨((L.out.n.grow (ce.below_drewN _ _)).only hO9 (vblk_grow V3 (ce.below_drewN _ _)) (by decide)).top, ((L.out.u.grow (ce.below_drewN _ _)).only hO9 (vblk_grow V3 (ce.below_drewN _ _)) (by decide)).top⟩, V9, (L.out.t.trans (Tn.of_below (ce.below_drewN _ _) (by omega))).trans (Tn.of_only hO9)⟩
      · have hendb : (B == (n1 : Int)) = false := by simpa using hend
        have eF : F = B := hF.out.symm.trans (if_pos (by have := hn1.out; omega))
        subst eF
        clear hend
        go_wp2
        go_big_quiet (fail)
        go_wp2
        go_ret
        have hp' := hp.out
        subst hp'
        exact ⟨rfl, _, _, ⟨(L.out.n.grow (ce.below_drewN _ _)).top, (L.out.u.grow (ce.below_drewN _ _)).top⟩, vblk_grow V3 (ce.below_drewN _ _), L.out.t.trans (Tn.of_below (ce.below_drewN _ _) (by omega))⟩
end Go.Proofs.Ytmnjmghlkiljhaa.rg
