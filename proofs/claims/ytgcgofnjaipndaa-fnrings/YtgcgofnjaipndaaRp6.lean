/- Contracts: the program's RingOk, Joins, Uses, Leaves, Turns, of whatever ring. -/
import Derived.Test.YtgcgofnjaipndaaRp5
namespace Go.Proofs.Ytgcgofnjaipndaa.rg
open Go.ChangeShapes Go.WideShapes Go.ChangeAt Go.RowKit
open Go.Proofs.Ytgcgofnjaipndaa.ce Go.Proofs.Ytgcgofnjaipndaa.ro
set_option linter.unusedVariables false

theorem zip_join {N : List ByteArray} {U : List Bool} (h : U.length = N.length) (s : ByteArray) : N.zip U ++ [(s, false)] = (N ++ [s]).zip (U ++ [false]) := by
  rw [List.zip_append (by omega)]
  rfl
theorem left_us {r : Rg} (h : r.U.length = r.N.length) (i : Nat) : (left r i).U.length = (left r i).N.length := by unfold left; simp [h]
theorem turn_len (n : Nat) : ∀ (f : Nat) (U : List Bool) (a : Nat), (turn n f U a).1.length = U.length
  | 0, U, a => rfl
  | f + 1, U, a => by
    unfold turn
    split
    · rw [turn_len n f]; simp
    · rfl

set_option maxRecDepth 100000 in
theorem implRingOk_any (r : Rg) (vN vU : Value) (w : World) (h : RdR w vN vU r) :
    Calls Try.prog 16 #[.agg #[vN, vU, .int .i64 r.A]] w fun e w' => e = .returned (.bool (ringB r)) ∧ Below w.heap.size w w' := by
  obtain ⟨a, cap, rfl⟩ := h.n.form
  obtain ⟨c, dc, rfl⟩ := h.u.form
  have R : Hid (RdR w (.slice a r.N.length cap) (.slice c r.U.length dc) r) := h
  clear h
  obtain ⟨y, hy⟩ := hid_ex (ringB r)
  rw [hy.out]
  have m1 : Hid True := trivial
  have m2 : Hid True := trivial
  go_enter Try.func16, Try.ntmps16
  go_wp2_with (first | (clear m1; refine wpList_box_v rfl 29 _ rfl [.slice a r.N.length cap, .slice c r.U.length dc, .int .i64 r.A] rfl ?_; intro b2 w1 hb2 hw2 hB1 V2; have hz1 := hB1.size; obtain ⟨c0, c1, c2⟩ := cells3 V2) | (go_at_call 43; refine (roundOf_any r _ _ _ (R.out.grow hB1)).mono ?_; rintro er w3 ⟨a3, n3, k3, A3, rfl, md⟩; rw [hy.out]; have hB3 := md.low; have hz3 := hB3.size) | (clear m2; refine wpList_alloc_v rfl 55 rfl _ zeroRd ?_; intro b6 w5 hb6 hw6 hB5 V6; have hz5 := hB5.size) | (refine wpList_store_v rfl 55 _ _ rfl b6 [.slice a3 n3 k3, .int .i64 A3] rfl rfl sizeRd V6 rfl (by simp [Value.oneCell']) ?_; intro w6 hO6 X6) | (fail))
  go_ret
  exact ⟨rfl, ((hB1.trans (hB3.mono hz1)).trans (hB5.mono (by omega))).trans (hO6.2.2 _ (by omega))⟩

set_option maxRecDepth 100000 in
set_option maxHeartbeats 2000000 in
theorem implJoins_all (r : Rg) (s : ByteArray) (hs : s.size ≤ 9223372036854775807) (vN vU : Value) (w : World) (h : RdR w vN vU r) :
    Calls Try.prog 19 #[.agg #[vN, vU, .int .i64 r.A], .string s] w fun e w' => ∃ vN' vU', e = .returned (.tuple #[.agg #[vN', vU', .int .i64 (jnR r s).A], .bool (jnB r s)]) ∧ OwnR w' w.heap.size w'.heap.size vN' vU' (jnR r s) ∧ Below w.heap.size w w' := by
  obtain ⟨a, cap, rfl⟩ := h.n.form
  obtain ⟨c, dc, rfl⟩ := h.u.form
  have R : Hid (RdR w (.slice a r.N.length cap) (.slice c r.U.length dc) r) := h
  clear h
  by_cases hok : ringB r = true
  · have e1 : jnR r s = if mayB r s = true then joined r s else r := if_pos hok
    have e2 : jnB r s = mayB r s := by unfold jnB; rw [hok]; rfl
    rw [e1, e2]
    clear e1 e2
    have HK : Hid (ringB r = true) := hok
    have OK : Hid (ROk r) := ringB_iff.1 hok
    have hle := OK.out.le
    have hus : Hid (r.U.length = r.N.length) := OK.out.us
    have hzl : Hid ((r.N.zip r.U).length = r.N.length) := zip_len OK.out.us
    clear hok
    have hmay := @mayB_true r s
    have hm1 := @mayB_false1 r s
    have hm2 := @mayB_false2 r s
    have hm3 := @mayB_false3 r s
    obtain ⟨p, hp0⟩ := hid_ex (posS s r.N)
    have hp : Hid (posS s ((r.N.zip r.U).map (·.1)) = p) := by unfold Hid; rw [zip_fst OK.out.us]; exact hp0.out
    have hpb := posS_bd s r.N
    rw [hp0.out] at hmay hm2 hpb
    clear hp0
    cases hnm : nameB s with
    | false =>
      have e3 := hm1 hnm
      rw [e3, if_neg Bool.false_ne_true]
      clear hmay hm1 hm2 hm3 e3
      have m1 : Hid True := trivial
      have m2 : Hid True := trivial
      have m3 : Hid True := trivial
      have m4 : Hid True := trivial
      have m5 : Hid True := trivial
      have m6 : Hid True := trivial
      have m7 : Hid True := trivial
      have m8 : Hid True := trivial
      have m9 : Hid True := trivial
      go_enter Try.func19, Try.ntmps19
      go_wp2_with (first | (clear m1; refine wpList_box_v rfl 29 _ rfl [.slice a r.N.length cap, .slice c r.U.length dc, .int .i64 r.A] rfl ?_; intro b2 w1 hb2 hw2 hB1 V2; have hz1 := hB1.size) | (clear m2; refine wpList_alloc_v rfl 29 rfl _ zeroRg ?_; intro b4 w2 hb4 hw4 hB2 V4; have hz2 := hB2.size; replace V2 := vblk_grow V2 hB2; have hB := hB1.trans (hB2.mono hz1); obtain ⟨c0, c1, c2⟩ := cells3 V2) | (clear m3; go_at_call 43; refine (roundOf_any r _ _ _ (R.out.grow hB)).mono ?_; rintro er w3 ⟨a3, n3, k3, A3, rfl, md⟩; rw [HK.out] at md ⊢; have hB3 := md.low; have hz3 := hB3.size; replace V4 := vblk_grow V4 hB3; replace hB := hB.trans (hB3.mono (by omega)); obtain ⟨o, hA3⟩ := md.own rfl; subst hA3; replace o := o.wide (lo' := w.heap.size) (by omega) (Nat.le_refl _)) | (clear m4; refine wpList_alloc_v rfl 55 rfl _ zeroRd ?_; intro b6 w5 hb6 hw6 hB5 V6; have hz5 := hB5.size; replace V4 := vblk_grow V4 hB5; replace o := o.grow hB5; replace hB := hB.trans (hB5.mono (by omega))) | (clear m5; refine wpList_store_v rfl 55 _ _ rfl b6 [.slice a3 n3 k3, .int .i64 r.A] rfl rfl sizeRd V6 rfl (by simp [Value.oneCell']) ?_; intro w6 hO6 X6; have hz6 := Nat.le_of_eq hO6.1.symm; have hy6 := Nat.le_of_eq hO6.1; replace V4 := vblk_only V4 hO6 (by omega); replace hB := hB.trans (hO6.2.2 _ (by omega)); have rv : RV w6 w.heap.size _ b6 (.slice a3 n3 k3) (r.N.zip r.U) r.A := ⟨o.only hO6 V6 (by decide), X6⟩; clear o V6 X6; obtain ⟨f0, f1⟩ := cells2 rv.v) | (clear m6; go_at_call 12; refine (implNameOk_any _ hs _).mono ?_; rintro er wq ⟨rfl, hq⟩; subst wq; rw [hnm]) | (go_at_call 50; refine (ringOf_any r _ _ rv.o.rd hus.out (by omega)).mono ?_; rintro er w8 ⟨vN8, vU8, rfl, oR, hB8⟩; have hz8 := hB8.size; replace V4 := vblk_grow V4 hB8; replace oR := oR.wide (lo' := w.heap.size) (by omega) (Nat.le_refl _); replace hB := hB.trans (hB8.mono (by omega)); obtain ⟨aN, nN, kN, rfl⟩ := oR.n.slice; obtain ⟨aU, nU, kU, rfl⟩ := oR.u.slice) | (clear m9; refine wpList_store_v rfl 29 _ _ rfl b4 [.slice aN nN kN, .slice aU nU kU, .int .i64 r.A] rfl rfl sizeRg V4 rfl (by simp [Value.oneCell']) ?_; intro w9 hO9 V9; have o9 := oR.only hO9 V4 (by decide) (by decide); replace hB := hB.trans (hO9.2.2 _ (by omega))) | (fail))
      exact row_ct rfl rfl rfl V9 Try.underlying29 sizeRg rfl ⟨_, _, rfl, o9.top, hB⟩
    | true =>
      by_cases hpe : p = -1
      · have hpb2 : (p != -1) = false := by simpa using hpe
        by_cases h20 : r.N.length = 20
        · have e3 := hm3 h20
          rw [e3, if_neg Bool.false_ne_true]
          have h20b : ((r.N.length : Int) == 20) = true := by simp; omega
          clear hmay hm1 hm2 hm3 e3 h20 hpe
          have m1 : Hid True := trivial
          have m2 : Hid True := trivial
          have m3 : Hid True := trivial
          have m4 : Hid True := trivial
          have m5 : Hid True := trivial
          have m6 : Hid True := trivial
          have m7 : Hid True := trivial
          have m8 : Hid True := trivial
          have m9 : Hid True := trivial
          go_enter Try.func19, Try.ntmps19
          go_wp2_with (first | (clear m1; refine wpList_box_v rfl 29 _ rfl [.slice a r.N.length cap, .slice c r.U.length dc, .int .i64 r.A] rfl ?_; intro b2 w1 hb2 hw2 hB1 V2; have hz1 := hB1.size) | (clear m2; refine wpList_alloc_v rfl 29 rfl _ zeroRg ?_; intro b4 w2 hb4 hw4 hB2 V4; have hz2 := hB2.size; replace V2 := vblk_grow V2 hB2; have hB := hB1.trans (hB2.mono hz1); obtain ⟨c0, c1, c2⟩ := cells3 V2) | (clear m3; go_at_call 43; refine (roundOf_any r _ _ _ (R.out.grow hB)).mono ?_; rintro er w3 ⟨a3, n3, k3, A3, rfl, md⟩; rw [HK.out] at md ⊢; have hB3 := md.low; have hz3 := hB3.size; replace V4 := vblk_grow V4 hB3; replace hB := hB.trans (hB3.mono (by omega)); obtain ⟨o, hA3⟩ := md.own rfl; subst hA3; replace o := o.wide (lo' := w.heap.size) (by omega) (Nat.le_refl _)) | (clear m4; refine wpList_alloc_v rfl 55 rfl _ zeroRd ?_; intro b6 w5 hb6 hw6 hB5 V6; have hz5 := hB5.size; replace V4 := vblk_grow V4 hB5; replace o := o.grow hB5; replace hB := hB.trans (hB5.mono (by omega))) | (clear m5; refine wpList_store_v rfl 55 _ _ rfl b6 [.slice a3 n3 k3, .int .i64 r.A] rfl rfl sizeRd V6 rfl (by simp [Value.oneCell']) ?_; intro w6 hO6 X6; have hz6 := Nat.le_of_eq hO6.1.symm; have hy6 := Nat.le_of_eq hO6.1; replace V4 := vblk_only V4 hO6 (by omega); replace hB := hB.trans (hO6.2.2 _ (by omega)); have rv : RV w6 w.heap.size _ b6 (.slice a3 n3 k3) (r.N.zip r.U) r.A := ⟨o.only hO6 V6 (by decide), X6⟩; clear o V6 X6; obtain ⟨f0, f1⟩ := cells2 rv.v) | (clear m6; go_at_call 12; refine (implNameOk_any _ hs _).mono ?_; rintro er wq ⟨rfl, hq⟩; subst wq; rw [hnm]) | (clear m7; go_at_call 48; refine (placeOf_any _ _ _ _ b6 _ _ _ rv).mono ?_; rintro er w7 ⟨rfl, hB7⟩; rw [hp.out]; have hz7 := hB7.size; replace V4 := vblk_grow V4 hB7; replace rv := rv.grow hB7; replace hB := hB.trans (hB7.mono (by omega)); clear f0 f1; obtain ⟨f0, f1⟩ := cells2 rv.v) | (clear m8; go_at_call 49; refine (many_any _ _ _ b6 _ _ _ rv).mono ?_; rintro er wq ⟨rfl, hq⟩; subst wq; rw [hzl.out]) | (go_at_call 50; refine (ringOf_any r _ _ rv.o.rd hus.out (by omega)).mono ?_; rintro er w8 ⟨vN8, vU8, rfl, oR, hB8⟩; have hz8 := hB8.size; replace V4 := vblk_grow V4 hB8; replace oR := oR.wide (lo' := w.heap.size) (by omega) (Nat.le_refl _); replace hB := hB.trans (hB8.mono (by omega)); obtain ⟨aN, nN, kN, rfl⟩ := oR.n.slice; obtain ⟨aU, nU, kU, rfl⟩ := oR.u.slice) | (clear m9; refine wpList_store_v rfl 29 _ _ rfl b4 [.slice aN nN kN, .slice aU nU kU, .int .i64 r.A] rfl rfl sizeRg V4 rfl (by simp [Value.oneCell']) ?_; intro w9 hO9 V9; have o9 := oR.only hO9 V4 (by decide) (by decide); replace hB := hB.trans (hO9.2.2 _ (by omega))) | (fail))
          exact row_ct rfl rfl rfl V9 Try.underlying29 sizeRg rfl ⟨_, _, rfl, o9.top, hB⟩
        · have e3 := hmay hnm (by omega) h20
          rw [e3, if_pos rfl]
          have h20b : ((r.N.length : Int) == 20) = false := by simp; omega
          have hjn : Hid (r.N.zip r.U ++ [(s, false)] = (joined r s).N.zip (joined r s).U) := zip_join OK.out.us s
          have hju : Hid ((joined r s).U.length = (joined r s).N.length) := by unfold Hid joined; simp; exact OK.out.us
          have hjl : (joined r s).N.length ≤ 1000000 := by unfold joined; simp; omega
          have hjA : Hid (r.A = (joined r s).A) := rfl
          obtain ⟨J, hJ⟩ := hid_ex (joined r s)
          rw [hJ.out] at hjn hju hjl hjA ⊢
          clear hmay hm1 hm2 hm3 e3 h20 hpe
          have m1 : Hid True := trivial
          have m2 : Hid True := trivial
          have m3 : Hid True := trivial
          have m4 : Hid True := trivial
          have m5 : Hid True := trivial
          have m6 : Hid True := trivial
          have m7 : Hid True := trivial
          have m8 : Hid True := trivial
          have m9 : Hid True := trivial
          go_enter Try.func19, Try.ntmps19
          go_wp2_with (first | (clear m1; refine wpList_box_v rfl 29 _ rfl [.slice a r.N.length cap, .slice c r.U.length dc, .int .i64 r.A] rfl ?_; intro b2 w1 hb2 hw2 hB1 V2; have hz1 := hB1.size) | (clear m2; refine wpList_alloc_v rfl 29 rfl _ zeroRg ?_; intro b4 w2 hb4 hw4 hB2 V4; have hz2 := hB2.size; replace V2 := vblk_grow V2 hB2; have hB := hB1.trans (hB2.mono hz1); obtain ⟨c0, c1, c2⟩ := cells3 V2) | (clear m3; go_at_call 43; refine (roundOf_any r _ _ _ (R.out.grow hB)).mono ?_; rintro er w3 ⟨a3, n3, k3, A3, rfl, md⟩; rw [HK.out] at md ⊢; have hB3 := md.low; have hz3 := hB3.size; replace V4 := vblk_grow V4 hB3; replace hB := hB.trans (hB3.mono (by omega)); obtain ⟨o, hA3⟩ := md.own rfl; subst hA3; replace o := o.wide (lo' := w.heap.size) (by omega) (Nat.le_refl _)) | (clear m4; refine wpList_alloc_v rfl 55 rfl _ zeroRd ?_; intro b6 w5 hb6 hw6 hB5 V6; have hz5 := hB5.size; replace V4 := vblk_grow V4 hB5; replace o := o.grow hB5; replace hB := hB.trans (hB5.mono (by omega))) | (clear m5; refine wpList_store_v rfl 55 _ _ rfl b6 [.slice a3 n3 k3, .int .i64 r.A] rfl rfl sizeRd V6 rfl (by simp [Value.oneCell']) ?_; intro w6 hO6 X6; have hz6 := Nat.le_of_eq hO6.1.symm; have hy6 := Nat.le_of_eq hO6.1; replace V4 := vblk_only V4 hO6 (by omega); replace hB := hB.trans (hO6.2.2 _ (by omega)); have rv : RV w6 w.heap.size _ b6 (.slice a3 n3 k3) (r.N.zip r.U) r.A := ⟨o.only hO6 V6 (by decide), X6⟩; clear o V6 X6; obtain ⟨f0, f1⟩ := cells2 rv.v) | (clear m6; go_at_call 12; refine (implNameOk_any _ hs _).mono ?_; rintro er wq ⟨rfl, hq⟩; subst wq; rw [hnm]) | (clear m7; go_at_call 48; refine (placeOf_any _ _ _ _ b6 _ _ _ rv).mono ?_; rintro er w7 ⟨rfl, hB7⟩; rw [hp.out]; have hz7 := hB7.size; replace V4 := vblk_grow V4 hB7; replace rv := rv.grow hB7; replace hB := hB.trans (hB7.mono (by omega)); clear f0 f1; obtain ⟨f0, f1⟩ := cells2 rv.v) | (clear m8; go_at_call 49; refine (many_any _ _ _ b6 _ _ _ rv).mono ?_; rintro er wq ⟨rfl, hq⟩; subst wq; rw [hzl.out]) | (go_at_call 51; refine (join_any _ _ _ _ b6 _ _ _ rv (by omega) (by have := hzl.out; omega)).mono ?_; rintro er w10 ⟨⟨u10, rfl⟩, ⟨sv10, rv10⟩, hT10⟩; rw [hjn.out, hjA.out] at rv10; clear rv; have rv := rv10; clear rv10; obtain ⟨a10, n10, k10, rfl⟩ := rv.o.slice; have hz10 := hT10.size; replace V4 := hT10.vblk V4 (by omega) (by decide); replace hB := hB.trans (hT10.below (Nat.le_refl _) (by omega)); clear f0 f1; obtain ⟨f0, f1⟩ := cells2 rv.v) | (go_at_call 50; refine (ringOf_any J _ _ rv.o.rd hju.out hjl).mono ?_; rintro er w8 ⟨vN8, vU8, rfl, oR, hB8⟩; have hz8 := hB8.size; replace V4 := vblk_grow V4 hB8; replace oR := oR.wide (lo' := w.heap.size) (by omega) (Nat.le_refl _); replace hB := hB.trans (hB8.mono (by omega)); obtain ⟨aN, nN, kN, rfl⟩ := oR.n.slice; obtain ⟨aU, nU, kU, rfl⟩ := oR.u.slice) | (clear m9; refine wpList_store_v rfl 29 _ _ rfl b4 [.slice aN nN kN, .slice aU nU kU, .int .i64 J.A] rfl rfl sizeRg V4 rfl (by simp [Value.oneCell']) ?_; intro w9 hO9 V9; have o9 := oR.only hO9 V4 (by decide) (by decide); replace hB := hB.trans (hO9.2.2 _ (by omega))) | (fail))
          exact row_ct rfl rfl rfl V9 Try.underlying29 sizeRg rfl ⟨_, _, rfl, o9.top, hB⟩
      · have e3 := hm2 (by omega)
        rw [e3, if_neg Bool.false_ne_true]
        have hpb2 : (p != -1) = true := by simpa using hpe
        clear hmay hm1 hm2 hm3 e3 hpe
        have m1 : Hid True := trivial
        have m2 : Hid True := trivial
        have m3 : Hid True := trivial
        have m4 : Hid True := trivial
        have m5 : Hid True := trivial
        have m6 : Hid True := trivial
        have m7 : Hid True := trivial
        have m8 : Hid True := trivial
        have m9 : Hid True := trivial
        go_enter Try.func19, Try.ntmps19
        go_wp2_with (first | (clear m1; refine wpList_box_v rfl 29 _ rfl [.slice a r.N.length cap, .slice c r.U.length dc, .int .i64 r.A] rfl ?_; intro b2 w1 hb2 hw2 hB1 V2; have hz1 := hB1.size) | (clear m2; refine wpList_alloc_v rfl 29 rfl _ zeroRg ?_; intro b4 w2 hb4 hw4 hB2 V4; have hz2 := hB2.size; replace V2 := vblk_grow V2 hB2; have hB := hB1.trans (hB2.mono hz1); obtain ⟨c0, c1, c2⟩ := cells3 V2) | (clear m3; go_at_call 43; refine (roundOf_any r _ _ _ (R.out.grow hB)).mono ?_; rintro er w3 ⟨a3, n3, k3, A3, rfl, md⟩; rw [HK.out] at md ⊢; have hB3 := md.low; have hz3 := hB3.size; replace V4 := vblk_grow V4 hB3; replace hB := hB.trans (hB3.mono (by omega)); obtain ⟨o, hA3⟩ := md.own rfl; subst hA3; replace o := o.wide (lo' := w.heap.size) (by omega) (Nat.le_refl _)) | (clear m4; refine wpList_alloc_v rfl 55 rfl _ zeroRd ?_; intro b6 w5 hb6 hw6 hB5 V6; have hz5 := hB5.size; replace V4 := vblk_grow V4 hB5; replace o := o.grow hB5; replace hB := hB.trans (hB5.mono (by omega))) | (clear m5; refine wpList_store_v rfl 55 _ _ rfl b6 [.slice a3 n3 k3, .int .i64 r.A] rfl rfl sizeRd V6 rfl (by simp [Value.oneCell']) ?_; intro w6 hO6 X6; have hz6 := Nat.le_of_eq hO6.1.symm; have hy6 := Nat.le_of_eq hO6.1; replace V4 := vblk_only V4 hO6 (by omega); replace hB := hB.trans (hO6.2.2 _ (by omega)); have rv : RV w6 w.heap.size _ b6 (.slice a3 n3 k3) (r.N.zip r.U) r.A := ⟨o.only hO6 V6 (by decide), X6⟩; clear o V6 X6; obtain ⟨f0, f1⟩ := cells2 rv.v) | (clear m6; go_at_call 12; refine (implNameOk_any _ hs _).mono ?_; rintro er wq ⟨rfl, hq⟩; subst wq; rw [hnm]) | (clear m7; go_at_call 48; refine (placeOf_any _ _ _ _ b6 _ _ _ rv).mono ?_; rintro er w7 ⟨rfl, hB7⟩; rw [hp.out]; have hz7 := hB7.size; replace V4 := vblk_grow V4 hB7; replace rv := rv.grow hB7; replace hB := hB.trans (hB7.mono (by omega)); clear f0 f1; obtain ⟨f0, f1⟩ := cells2 rv.v) | (go_at_call 50; refine (ringOf_any r _ _ rv.o.rd hus.out (by omega)).mono ?_; rintro er w8 ⟨vN8, vU8, rfl, oR, hB8⟩; have hz8 := hB8.size; replace V4 := vblk_grow V4 hB8; replace oR := oR.wide (lo' := w.heap.size) (by omega) (Nat.le_refl _); replace hB := hB.trans (hB8.mono (by omega)); obtain ⟨aN, nN, kN, rfl⟩ := oR.n.slice; obtain ⟨aU, nU, kU, rfl⟩ := oR.u.slice) | (clear m9; refine wpList_store_v rfl 29 _ _ rfl b4 [.slice aN nN kN, .slice aU nU kU, .int .i64 r.A] rfl rfl sizeRg V4 rfl (by simp [Value.oneCell']) ?_; intro w9 hO9 V9; have o9 := oR.only hO9 V4 (by decide) (by decide); replace hB := hB.trans (hO9.2.2 _ (by omega))) | (fail))
        exact row_ct rfl rfl rfl V9 Try.underlying29 sizeRg rfl ⟨_, _, rfl, o9.top, hB⟩
  · have e1 : jnR r s = Rg.zero := if_neg hok
    have e2 : jnB r s = false := by unfold jnB; rw [ringB_not hok]; rfl
    rw [e1, e2]
    have HK : Hid (ringB r = false) := ringB_not hok
    clear hok e1 e2
    have m1 : Hid True := trivial
    have m2 : Hid True := trivial
    have m3 : Hid True := trivial
    have m4 : Hid True := trivial
    have m5 : Hid True := trivial
    have m6 : Hid True := trivial
    have m7 : Hid True := trivial
    have m8 : Hid True := trivial
    have m9 : Hid True := trivial
    go_enter Try.func19, Try.ntmps19
    go_wp2_with (first | (clear m1; refine wpList_box_v rfl 29 _ rfl [.slice a r.N.length cap, .slice c r.U.length dc, .int .i64 r.A] rfl ?_; intro b2 w1 hb2 hw2 hB1 V2; have hz1 := hB1.size) | (clear m2; refine wpList_alloc_v rfl 29 rfl _ zeroRg ?_; intro b4 w2 hb4 hw4 hB2 V4; have hz2 := hB2.size; replace V2 := vblk_grow V2 hB2; have hB := hB1.trans (hB2.mono hz1); obtain ⟨c0, c1, c2⟩ := cells3 V2) | (clear m3; go_at_call 43; refine (roundOf_any r _ _ _ (R.out.grow hB)).mono ?_; rintro er w3 ⟨a3, n3, k3, A3, rfl, md⟩; rw [HK.out] at md ⊢; have hB3 := md.low; have hz3 := hB3.size; replace V4 := vblk_grow V4 hB3; replace hB := hB.trans (hB3.mono (by omega))) | (clear m4; refine wpList_alloc_v rfl 55 rfl _ zeroRd ?_; intro b6 w5 hb6 hw6 hB5 V6; have hz5 := hB5.size; replace V4 := vblk_grow V4 hB5; replace hB := hB.trans (hB5.mono (by omega))) | (clear m5; refine wpList_store_v rfl 55 _ _ rfl b6 [.slice a3 n3 k3, .int .i64 A3] rfl rfl sizeRd V6 rfl (by simp [Value.oneCell']) ?_; intro w6 hO6 X6; have hz6 := Nat.le_of_eq hO6.1.symm; have hy6 := Nat.le_of_eq hO6.1; replace V4 := vblk_only V4 hO6 (by omega); replace hB := hB.trans (hO6.2.2 _ (by omega))) | (clear m9; refine wpList_store_v rfl 29 _ _ rfl b4 [.slice none 0 0, .slice none 0 0, .int .i64 0] rfl rfl sizeRg V4 rfl (by simp [Value.oneCell']) ?_; intro w9 hO9 V9; replace hB := hB.trans (hO9.2.2 _ (by omega))) | (fail))
    exact row_ct rfl rfl rfl V9 Try.underlying29 sizeRg rfl ⟨_, _, rfl, ownR_zero _ _ _, hB⟩

set_option maxRecDepth 100000 in
set_option maxHeartbeats 2000000 in
theorem implUses_all (r : Rg) (s : ByteArray) (vN vU : Value) (w : World) (h : RdR w vN vU r) :
    Calls Try.prog 23 #[.agg #[vN, vU, .int .i64 r.A], .string s] w fun e w' => ∃ vN' vU', e = .returned (.agg #[vN', vU', .int .i64 (usR r s).A]) ∧ OwnR w' w.heap.size w'.heap.size vN' vU' (usR r s) ∧ Below w.heap.size w w' := by
  obtain ⟨a, cap, rfl⟩ := h.n.form
  obtain ⟨c, dc, rfl⟩ := h.u.form
  have R : Hid (RdR w (.slice a r.N.length cap) (.slice c r.U.length dc) r) := h
  clear h
  by_cases hok : ringB r = true
  · have e1 : usR r s = used r s := if_pos hok
    rw [e1]
    clear e1
    have hy1 := @used_yes r s
    have hy2 := @used_no r s
    have HK : Hid (ringB r = true) := hok
    have OK : Hid (ROk r) := ringB_iff.1 hok
    have hle := OK.out.le
    have hus : Hid (r.U.length = r.N.length) := OK.out.us
    have hzl : Hid ((r.N.zip r.U).length = r.N.length) := zip_len OK.out.us
    clear hok
    obtain ⟨p, hp0⟩ := hid_ex (posS s r.N)
    have hp : Hid (posS s ((r.N.zip r.U).map (·.1)) = p) := by unfold Hid; rw [zip_fst OK.out.us]; exact hp0.out
    have hpb := posS_bd s r.N
    rw [hp0.out] at hy1 hy2 hpb
    clear hp0
    by_cases hpe : p = -1
    · rw [hy2 (by omega)]
      have hpb2 : (p != -1) = false := by simpa using hpe
      clear hy1 hy2 hpe
      have m1 : Hid True := trivial
      have m2 : Hid True := trivial
      have m3 : Hid True := trivial
      have m4 : Hid True := trivial
      have m5 : Hid True := trivial
      have m6 : Hid True := trivial
      have m7 : Hid True := trivial
      have m8 : Hid True := trivial
      have m9 : Hid True := trivial
      go_enter Try.func23, Try.ntmps23
      go_wp2_with (first | (clear m1; refine wpList_box_v rfl 29 _ rfl [.slice a r.N.length cap, .slice c r.U.length dc, .int .i64 r.A] rfl ?_; intro b2 w1 hb2 hw2 hB1 V2; have hz1 := hB1.size) | (clear m2; refine wpList_alloc_v rfl 29 rfl _ zeroRg ?_; intro b4 w2 hb4 hw4 hB2 V4; have hz2 := hB2.size; replace V2 := vblk_grow V2 hB2; have hB := hB1.trans (hB2.mono hz1); obtain ⟨c0, c1, c2⟩ := cells3 V2) | (clear m3; go_at_call 43; refine (roundOf_any r _ _ _ (R.out.grow hB)).mono ?_; rintro er w3 ⟨a3, n3, k3, A3, rfl, md⟩; rw [HK.out] at md ⊢; have hB3 := md.low; have hz3 := hB3.size; replace V4 := vblk_grow V4 hB3; replace hB := hB.trans (hB3.mono (by omega)); obtain ⟨o, hA3⟩ := md.own rfl; subst hA3; replace o := o.wide (lo' := w.heap.size) (by omega) (Nat.le_refl _)) | (clear m4; refine wpList_alloc_v rfl 55 rfl _ zeroRd ?_; intro b6 w5 hb6 hw6 hB5 V6; have hz5 := hB5.size; replace V4 := vblk_grow V4 hB5; replace o := o.grow hB5; replace hB := hB.trans (hB5.mono (by omega))) | (clear m5; refine wpList_store_v rfl 55 _ _ rfl b6 [.slice a3 n3 k3, .int .i64 r.A] rfl rfl sizeRd V6 rfl (by simp [Value.oneCell']) ?_; intro w6 hO6 X6; have hz6 := Nat.le_of_eq hO6.1.symm; have hy6 := Nat.le_of_eq hO6.1; replace V4 := vblk_only V4 hO6 (by omega); replace hB := hB.trans (hO6.2.2 _ (by omega)); have rv : RV w6 w.heap.size _ b6 (.slice a3 n3 k3) (r.N.zip r.U) r.A := ⟨o.only hO6 V6 (by decide), X6⟩; clear o V6 X6; obtain ⟨f0, f1⟩ := cells2 rv.v) | (clear m7; go_at_call 48; refine (placeOf_any _ _ _ _ b6 _ _ _ rv).mono ?_; rintro er w7 ⟨rfl, hB7⟩; rw [hp.out]; have hz7 := hB7.size; replace V4 := vblk_grow V4 hB7; replace rv := rv.grow hB7; replace hB := hB.trans (hB7.mono (by omega)); clear f0 f1; obtain ⟨f0, f1⟩ := cells2 rv.v) | (go_at_call 50; refine (ringOf_any r _ _ rv.o.rd hus.out (by omega)).mono ?_; rintro er w8 ⟨vN8, vU8, rfl, oR, hB8⟩; have hz8 := hB8.size; replace V4 := vblk_grow V4 hB8; replace oR := oR.wide (lo' := w.heap.size) (by omega) (Nat.le_refl _); replace hB := hB.trans (hB8.mono (by omega)); obtain ⟨aN, nN, kN, rfl⟩ := oR.n.slice; obtain ⟨aU, nU, kU, rfl⟩ := oR.u.slice) | (clear m9; refine wpList_store_v rfl 29 _ _ rfl b4 [.slice aN nN kN, .slice aU nU kU, .int .i64 r.A] rfl rfl sizeRg V4 rfl (by simp [Value.oneCell']) ?_; intro w9 hO9 V9; have o9 := oR.only hO9 V4 (by decide) (by decide); replace hB := hB.trans (hO9.2.2 _ (by omega))) | (fail))
      exact row_retv rfl rfl V9 Try.underlying29 sizeRg rfl ⟨_, _, rfl, o9.top, hB⟩
    · have hpb2 : (p != -1) = true := by simpa using hpe
      rw [hy1 (by omega)]
      obtain ⟨i, rfl⟩ : ∃ i : Nat, p = i := ⟨p.toNat, by omega⟩
      rw [Int.toNat_natCast]
      have hil : i < (r.N.zip r.U).length := by have := hzl.out; omega
      have hjn : Hid ((r.N.zip r.U).set i ((r.N.zip r.U)[i].1, true) = r.N.zip (r.U.set i true)) := zip_set _ _ _ hil _
      have hju : Hid ((r.U.set i true).length = r.N.length) := by unfold Hid; rw [List.length_set]; exact OK.out.us
      clear hy1 hy2 hpe
      have m1 : Hid True := trivial
      have m2 : Hid True := trivial
      have m3 : Hid True := trivial
      have m4 : Hid True := trivial
      have m5 : Hid True := trivial
      have m6 : Hid True := trivial
      have m7 : Hid True := trivial
      have m8 : Hid True := trivial
      have m9 : Hid True := trivial
      go_enter Try.func23, Try.ntmps23
      go_wp2_with (first | (clear m1; refine wpList_box_v rfl 29 _ rfl [.slice a r.N.length cap, .slice c r.U.length dc, .int .i64 r.A] rfl ?_; intro b2 w1 hb2 hw2 hB1 V2; have hz1 := hB1.size) | (clear m2; refine wpList_alloc_v rfl 29 rfl _ zeroRg ?_; intro b4 w2 hb4 hw4 hB2 V4; have hz2 := hB2.size; replace V2 := vblk_grow V2 hB2; have hB := hB1.trans (hB2.mono hz1); obtain ⟨c0, c1, c2⟩ := cells3 V2) | (clear m3; go_at_call 43; refine (roundOf_any r _ _ _ (R.out.grow hB)).mono ?_; rintro er w3 ⟨a3, n3, k3, A3, rfl, md⟩; rw [HK.out] at md ⊢; have hB3 := md.low; have hz3 := hB3.size; replace V4 := vblk_grow V4 hB3; replace hB := hB.trans (hB3.mono (by omega)); obtain ⟨o, hA3⟩ := md.own rfl; subst hA3; replace o := o.wide (lo' := w.heap.size) (by omega) (Nat.le_refl _)) | (clear m4; refine wpList_alloc_v rfl 55 rfl _ zeroRd ?_; intro b6 w5 hb6 hw6 hB5 V6; have hz5 := hB5.size; replace V4 := vblk_grow V4 hB5; replace o := o.grow hB5; replace hB := hB.trans (hB5.mono (by omega))) | (clear m5; refine wpList_store_v rfl 55 _ _ rfl b6 [.slice a3 n3 k3, .int .i64 r.A] rfl rfl sizeRd V6 rfl (by simp [Value.oneCell']) ?_; intro w6 hO6 X6; have hz6 := Nat.le_of_eq hO6.1.symm; have hy6 := Nat.le_of_eq hO6.1; replace V4 := vblk_only V4 hO6 (by omega); replace hB := hB.trans (hO6.2.2 _ (by omega)); have rv : RV w6 w.heap.size _ b6 (.slice a3 n3 k3) (r.N.zip r.U) r.A := ⟨o.only hO6 V6 (by decide), X6⟩; clear o V6 X6; obtain ⟨f0, f1⟩ := cells2 rv.v) | (clear m7; go_at_call 48; refine (placeOf_any _ _ _ _ b6 _ _ _ rv).mono ?_; rintro er w7 ⟨rfl, hB7⟩; rw [hp.out]; have hz7 := hB7.size; replace V4 := vblk_grow V4 hB7; replace rv := rv.grow hB7; replace hB := hB.trans (hB7.mono (by omega)); clear f0 f1; obtain ⟨f0, f1⟩ := cells2 rv.v) | (go_at_call 57; refine (use_any i _ _ _ b6 _ _ _ rv hil).mono ?_; rintro er w10 ⟨⟨u10, rfl⟩, rv10, hT10⟩; rw [hjn.out] at rv10; clear rv; have rv := rv10; clear rv10; have hz10 := hT10.size; replace V4 := hT10.vblk V4 (by omega) (by decide); replace hB := hB.trans (hT10.below (Nat.le_refl _) (by omega)); clear f0 f1; obtain ⟨f0, f1⟩ := cells2 rv.v) | (go_at_call 50; refine (ringOf_any ⟨r.N, r.U.set i true, r.A⟩ _ _ rv.o.rd hju.out (show r.N.length ≤ 1000000 by omega)).mono ?_; rintro er w8 ⟨vN8, vU8, rfl, oR, hB8⟩; have hz8 := hB8.size; replace V4 := vblk_grow V4 hB8; replace oR := oR.wide (lo' := w.heap.size) (by omega) (Nat.le_refl _); replace hB := hB.trans (hB8.mono (by omega)); obtain ⟨aN, nN, kN, rfl⟩ := oR.n.slice; obtain ⟨aU, nU, kU, rfl⟩ := oR.u.slice) | (clear m9; refine wpList_store_v rfl 29 _ _ rfl b4 [.slice aN nN kN, .slice aU nU kU, .int .i64 r.A] rfl rfl sizeRg V4 rfl (by simp [Value.oneCell']) ?_; intro w9 hO9 V9; have o9 := oR.only hO9 V4 (by decide) (by decide); replace hB := hB.trans (hO9.2.2 _ (by omega))) | (fail))
      exact row_retv rfl rfl V9 Try.underlying29 sizeRg rfl ⟨_, _, rfl, o9.top, hB⟩
  · have e1 : usR r s = Rg.zero := if_neg hok
    rw [e1]
    have HK : Hid (ringB r = false) := ringB_not hok
    clear hok e1
    have m1 : Hid True := trivial
    have m2 : Hid True := trivial
    have m3 : Hid True := trivial
    have m4 : Hid True := trivial
    have m5 : Hid True := trivial
    have m6 : Hid True := trivial
    have m7 : Hid True := trivial
    have m8 : Hid True := trivial
    have m9 : Hid True := trivial
    go_enter Try.func23, Try.ntmps23
    go_wp2_with (first | (clear m1; refine wpList_box_v rfl 29 _ rfl [.slice a r.N.length cap, .slice c r.U.length dc, .int .i64 r.A] rfl ?_; intro b2 w1 hb2 hw2 hB1 V2; have hz1 := hB1.size) | (clear m2; refine wpList_alloc_v rfl 29 rfl _ zeroRg ?_; intro b4 w2 hb4 hw4 hB2 V4; have hz2 := hB2.size; replace V2 := vblk_grow V2 hB2; have hB := hB1.trans (hB2.mono hz1); obtain ⟨c0, c1, c2⟩ := cells3 V2) | (clear m3; go_at_call 43; refine (roundOf_any r _ _ _ (R.out.grow hB)).mono ?_; rintro er w3 ⟨a3, n3, k3, A3, rfl, md⟩; rw [HK.out] at md ⊢; have hB3 := md.low; have hz3 := hB3.size; replace V4 := vblk_grow V4 hB3; replace hB := hB.trans (hB3.mono (by omega))) | (clear m4; refine wpList_alloc_v rfl 55 rfl _ zeroRd ?_; intro b6 w5 hb6 hw6 hB5 V6; have hz5 := hB5.size; replace V4 := vblk_grow V4 hB5; replace hB := hB.trans (hB5.mono (by omega))) | (clear m5; refine wpList_store_v rfl 55 _ _ rfl b6 [.slice a3 n3 k3, .int .i64 A3] rfl rfl sizeRd V6 rfl (by simp [Value.oneCell']) ?_; intro w6 hO6 X6; have hz6 := Nat.le_of_eq hO6.1.symm; have hy6 := Nat.le_of_eq hO6.1; replace V4 := vblk_only V4 hO6 (by omega); replace hB := hB.trans (hO6.2.2 _ (by omega))) | (clear m9; refine wpList_store_v rfl 29 _ _ rfl b4 [.slice none 0 0, .slice none 0 0, .int .i64 0] rfl rfl sizeRg V4 rfl (by simp [Value.oneCell']) ?_; intro w9 hO9 V9; replace hB := hB.trans (hO9.2.2 _ (by omega))) | (fail))
    exact row_retv rfl rfl V9 Try.underlying29 sizeRg rfl ⟨_, _, rfl, ownR_zero _ _ _, hB⟩

set_option maxRecDepth 100000 in
set_option maxHeartbeats 2000000 in
theorem implLeaves_all (r : Rg) (s : ByteArray) (vN vU : Value) (w : World) (h : RdR w vN vU r) :
    Calls Try.prog 25 #[.agg #[vN, vU, .int .i64 r.A], .string s] w fun e w' => ∃ vN' vU', e = .returned (.tuple #[.agg #[vN', vU', .int .i64 (lvR r s).A], .bool (lvB r s)]) ∧ OwnR w' w.heap.size w'.heap.size vN' vU' (lvR r s) ∧ Below w.heap.size w w' := by
  obtain ⟨a, cap, rfl⟩ := h.n.form
  obtain ⟨c, dc, rfl⟩ := h.u.form
  have R : Hid (RdR w (.slice a r.N.length cap) (.slice c r.U.length dc) r) := h
  clear h
  by_cases hok : ringB r = true
  · have e1 : lvR r s = if 0 ≤ posS s r.N then left r (posS s r.N).toNat else r := if_pos hok
    have e2 : lvB r s = decide (0 ≤ posS s r.N) := by unfold lvB; rw [hok]; rfl
    rw [e1, e2]
    clear e1 e2
    have HK : Hid (ringB r = true) := hok
    have OK : Hid (ROk r) := ringB_iff.1 hok
    have hle := OK.out.le
    have hus : Hid (r.U.length = r.N.length) := OK.out.us
    have hzl : Hid ((r.N.zip r.U).length = r.N.length) := zip_len OK.out.us
    clear hok
    obtain ⟨p, hp0⟩ := hid_ex (posS s r.N)
    have hp : Hid (posS s ((r.N.zip r.U).map (·.1)) = p) := by unfold Hid; rw [zip_fst OK.out.us]; exact hp0.out
    have hpb := posS_bd s r.N
    rw [hp0.out] at hpb ⊢
    clear hp0
    by_cases hpe : p = -1
    · rw [if_neg (by omega), decide_eq_false (by omega)]
      have hpb2 : (p == -1) = true := by simpa using hpe
      clear hpe
      have m1 : Hid True := trivial
      have m2 : Hid True := trivial
      have m3 : Hid True := trivial
      have m4 : Hid True := trivial
      have m5 : Hid True := trivial
      have m6 : Hid True := trivial
      have m7 : Hid True := trivial
      have m8 : Hid True := trivial
      have m9 : Hid True := trivial
      go_enter Try.func25, Try.ntmps25
      go_wp2_with (first | (clear m1; refine wpList_box_v rfl 29 _ rfl [.slice a r.N.length cap, .slice c r.U.length dc, .int .i64 r.A] rfl ?_; intro b2 w1 hb2 hw2 hB1 V2; have hz1 := hB1.size) | (clear m2; refine wpList_alloc_v rfl 29 rfl _ zeroRg ?_; intro b4 w2 hb4 hw4 hB2 V4; have hz2 := hB2.size; replace V2 := vblk_grow V2 hB2; have hB := hB1.trans (hB2.mono hz1); obtain ⟨c0, c1, c2⟩ := cells3 V2) | (clear m3; go_at_call 43; refine (roundOf_any r _ _ _ (R.out.grow hB)).mono ?_; rintro er w3 ⟨a3, n3, k3, A3, rfl, md⟩; rw [HK.out] at md ⊢; have hB3 := md.low; have hz3 := hB3.size; replace V4 := vblk_grow V4 hB3; replace hB := hB.trans (hB3.mono (by omega)); obtain ⟨o, hA3⟩ := md.own rfl; subst hA3; replace o := o.wide (lo' := w.heap.size) (by omega) (Nat.le_refl _)) | (clear m4; refine wpList_alloc_v rfl 55 rfl _ zeroRd ?_; intro b6 w5 hb6 hw6 hB5 V6; have hz5 := hB5.size; replace V4 := vblk_grow V4 hB5; replace o := o.grow hB5; replace hB := hB.trans (hB5.mono (by omega))) | (clear m5; refine wpList_store_v rfl 55 _ _ rfl b6 [.slice a3 n3 k3, .int .i64 r.A] rfl rfl sizeRd V6 rfl (by simp [Value.oneCell']) ?_; intro w6 hO6 X6; have hz6 := Nat.le_of_eq hO6.1.symm; have hy6 := Nat.le_of_eq hO6.1; replace V4 := vblk_only V4 hO6 (by omega); replace hB := hB.trans (hO6.2.2 _ (by omega)); have rv : RV w6 w.heap.size _ b6 (.slice a3 n3 k3) (r.N.zip r.U) r.A := ⟨o.only hO6 V6 (by decide), X6⟩; clear o V6 X6; obtain ⟨f0, f1⟩ := cells2 rv.v) | (clear m7; go_at_call 48; refine (placeOf_any _ _ _ _ b6 _ _ _ rv).mono ?_; rintro er w7 ⟨rfl, hB7⟩; rw [hp.out]; have hz7 := hB7.size; replace V4 := vblk_grow V4 hB7; replace rv := rv.grow hB7; replace hB := hB.trans (hB7.mono (by omega)); clear f0 f1; obtain ⟨f0, f1⟩ := cells2 rv.v) | (go_at_call 50; refine (ringOf_any r _ _ rv.o.rd hus.out (by omega)).mono ?_; rintro er w8 ⟨vN8, vU8, rfl, oR, hB8⟩; have hz8 := hB8.size; replace V4 := vblk_grow V4 hB8; replace oR := oR.wide (lo' := w.heap.size) (by omega) (Nat.le_refl _); replace hB := hB.trans (hB8.mono (by omega)); obtain ⟨aN, nN, kN, rfl⟩ := oR.n.slice; obtain ⟨aU, nU, kU, rfl⟩ := oR.u.slice) | (clear m9; refine wpList_store_v rfl 29 _ _ rfl b4 [.slice aN nN kN, .slice aU nU kU, .int .i64 r.A] rfl rfl sizeRg V4 rfl (by simp [Value.oneCell']) ?_; intro w9 hO9 V9; have o9 := oR.only hO9 V4 (by decide) (by decide); replace hB := hB.trans (hO9.2.2 _ (by omega))) | (fail))
      exact row_ct rfl rfl rfl V9 Try.underlying29 sizeRg rfl ⟨_, _, rfl, o9.top, hB⟩
    · have hpb2 : (p == -1) = false := by simpa using hpe
      rw [if_pos (by omega), decide_eq_true (by omega)]
      obtain ⟨i, rfl⟩ : ∃ i : Nat, p = i := ⟨p.toNat, by omega⟩
      rw [Int.toNat_natCast]
      have hil : i < (r.N.zip r.U).length := by have := hzl.out; omega
      have hjn : Hid ((r.N.zip r.U).take i ++ (r.N.zip r.U).drop (i + 1) = (left r i).N.zip (left r i).U) := zip_cut OK.out.us i
      have hju : Hid ((left r i).U.length = (left r i).N.length) := left_us OK.out.us i
      have hjl : (left r i).N.length ≤ 1000000 := by have := (left_len r i).1; omega
      have hjA : Hid ((if handA r.A i < ((r.N.zip r.U).length : Int) - 1 then handA r.A i else 0) = (left r i).A) := by unfold Hid; rw [hzl.out]; rfl
      have hA0 : Hid (0 ≤ r.A) := OK.out.a0
      have hA1 : Hid (r.A < (r.N.zip r.U).length) := by have := OK.out.a1; unfold Hid; rw [hzl.out]; omega
      obtain ⟨J, hJ⟩ := hid_ex (left r i)
      rw [hJ.out] at hjn hju hjl hjA ⊢
      clear hpe
      have m1 : Hid True := trivial
      have m2 : Hid True := trivial
      have m3 : Hid True := trivial
      have m4 : Hid True := trivial
      have m5 : Hid True := trivial
      have m6 : Hid True := trivial
      have m7 : Hid True := trivial
      have m8 : Hid True := trivial
      have m9 : Hid True := trivial
      go_enter Try.func25, Try.ntmps25
      go_wp2_with (first | (clear m1; refine wpList_box_v rfl 29 _ rfl [.slice a r.N.length cap, .slice c r.U.length dc, .int .i64 r.A] rfl ?_; intro b2 w1 hb2 hw2 hB1 V2; have hz1 := hB1.size) | (clear m2; refine wpList_alloc_v rfl 29 rfl _ zeroRg ?_; intro b4 w2 hb4 hw4 hB2 V4; have hz2 := hB2.size; replace V2 := vblk_grow V2 hB2; have hB := hB1.trans (hB2.mono hz1); obtain ⟨c0, c1, c2⟩ := cells3 V2) | (clear m3; go_at_call 43; refine (roundOf_any r _ _ _ (R.out.grow hB)).mono ?_; rintro er w3 ⟨a3, n3, k3, A3, rfl, md⟩; rw [HK.out] at md ⊢; have hB3 := md.low; have hz3 := hB3.size; replace V4 := vblk_grow V4 hB3; replace hB := hB.trans (hB3.mono (by omega)); obtain ⟨o, hA3⟩ := md.own rfl; subst hA3; replace o := o.wide (lo' := w.heap.size) (by omega) (Nat.le_refl _)) | (clear m4; refine wpList_alloc_v rfl 55 rfl _ zeroRd ?_; intro b6 w5 hb6 hw6 hB5 V6; have hz5 := hB5.size; replace V4 := vblk_grow V4 hB5; replace o := o.grow hB5; replace hB := hB.trans (hB5.mono (by omega))) | (clear m5; refine wpList_store_v rfl 55 _ _ rfl b6 [.slice a3 n3 k3, .int .i64 r.A] rfl rfl sizeRd V6 rfl (by simp [Value.oneCell']) ?_; intro w6 hO6 X6; have hz6 := Nat.le_of_eq hO6.1.symm; have hy6 := Nat.le_of_eq hO6.1; replace V4 := vblk_only V4 hO6 (by omega); replace hB := hB.trans (hO6.2.2 _ (by omega)); have rv : RV w6 w.heap.size _ b6 (.slice a3 n3 k3) (r.N.zip r.U) r.A := ⟨o.only hO6 V6 (by decide), X6⟩; clear o V6 X6; obtain ⟨f0, f1⟩ := cells2 rv.v) | (clear m7; go_at_call 48; refine (placeOf_any _ _ _ _ b6 _ _ _ rv).mono ?_; rintro er w7 ⟨rfl, hB7⟩; rw [hp.out]; have hz7 := hB7.size; replace V4 := vblk_grow V4 hB7; replace rv := rv.grow hB7; replace hB := hB.trans (hB7.mono (by omega)); clear f0 f1; obtain ⟨f0, f1⟩ := cells2 rv.v) | (go_at_call 59; refine (leave_any i _ _ _ b6 _ _ _ rv hil (by have := hzl.out; omega) hA0.out hA1.out).mono ?_; rintro er w10 ⟨⟨u10, rfl⟩, ⟨sv10, rv10⟩, hT10⟩; rw [hjn.out, hjA.out] at rv10; clear rv; have rv := rv10; clear rv10; obtain ⟨a10, n10, k10, rfl⟩ := rv.o.slice; have hz10 := hT10.size; replace V4 := hT10.vblk V4 (by omega) (by decide); replace hB := hB.trans (hT10.below (Nat.le_refl _) (by omega)); clear f0 f1; obtain ⟨f0, f1⟩ := cells2 rv.v) | (go_at_call 50; refine (ringOf_any J _ _ rv.o.rd hju.out hjl).mono ?_; rintro er w8 ⟨vN8, vU8, rfl, oR, hB8⟩; have hz8 := hB8.size; replace V4 := vblk_grow V4 hB8; replace oR := oR.wide (lo' := w.heap.size) (by omega) (Nat.le_refl _); replace hB := hB.trans (hB8.mono (by omega)); obtain ⟨aN, nN, kN, rfl⟩ := oR.n.slice; obtain ⟨aU, nU, kU, rfl⟩ := oR.u.slice) | (clear m9; refine wpList_store_v rfl 29 _ _ rfl b4 [.slice aN nN kN, .slice aU nU kU, .int .i64 J.A] rfl rfl sizeRg V4 rfl (by simp [Value.oneCell']) ?_; intro w9 hO9 V9; have o9 := oR.only hO9 V4 (by decide) (by decide); replace hB := hB.trans (hO9.2.2 _ (by omega))) | (fail))
      exact row_ct rfl rfl rfl V9 Try.underlying29 sizeRg rfl ⟨_, _, rfl, o9.top, hB⟩
  · have e1 : lvR r s = Rg.zero := if_neg hok
    have e2 : lvB r s = false := by unfold lvB; rw [ringB_not hok]; rfl
    rw [e1, e2]
    have HK : Hid (ringB r = false) := ringB_not hok
    clear hok e1 e2
    have m1 : Hid True := trivial
    have m2 : Hid True := trivial
    have m3 : Hid True := trivial
    have m4 : Hid True := trivial
    have m5 : Hid True := trivial
    have m6 : Hid True := trivial
    have m7 : Hid True := trivial
    have m8 : Hid True := trivial
    have m9 : Hid True := trivial
    go_enter Try.func25, Try.ntmps25
    go_wp2_with (first | (clear m1; refine wpList_box_v rfl 29 _ rfl [.slice a r.N.length cap, .slice c r.U.length dc, .int .i64 r.A] rfl ?_; intro b2 w1 hb2 hw2 hB1 V2; have hz1 := hB1.size) | (clear m2; refine wpList_alloc_v rfl 29 rfl _ zeroRg ?_; intro b4 w2 hb4 hw4 hB2 V4; have hz2 := hB2.size; replace V2 := vblk_grow V2 hB2; have hB := hB1.trans (hB2.mono hz1); obtain ⟨c0, c1, c2⟩ := cells3 V2) | (clear m3; go_at_call 43; refine (roundOf_any r _ _ _ (R.out.grow hB)).mono ?_; rintro er w3 ⟨a3, n3, k3, A3, rfl, md⟩; rw [HK.out] at md ⊢; have hB3 := md.low; have hz3 := hB3.size; replace V4 := vblk_grow V4 hB3; replace hB := hB.trans (hB3.mono (by omega))) | (clear m4; refine wpList_alloc_v rfl 55 rfl _ zeroRd ?_; intro b6 w5 hb6 hw6 hB5 V6; have hz5 := hB5.size; replace V4 := vblk_grow V4 hB5; replace hB := hB.trans (hB5.mono (by omega))) | (clear m5; refine wpList_store_v rfl 55 _ _ rfl b6 [.slice a3 n3 k3, .int .i64 A3] rfl rfl sizeRd V6 rfl (by simp [Value.oneCell']) ?_; intro w6 hO6 X6; have hz6 := Nat.le_of_eq hO6.1.symm; have hy6 := Nat.le_of_eq hO6.1; replace V4 := vblk_only V4 hO6 (by omega); replace hB := hB.trans (hO6.2.2 _ (by omega))) | (clear m9; refine wpList_store_v rfl 29 _ _ rfl b4 [.slice none 0 0, .slice none 0 0, .int .i64 0] rfl rfl sizeRg V4 rfl (by simp [Value.oneCell']) ?_; intro w9 hO9 V9; replace hB := hB.trans (hO9.2.2 _ (by omega))) | (fail))
    exact row_ct rfl rfl rfl V9 Try.underlying29 sizeRg rfl ⟨_, _, rfl, ownR_zero _ _ _, hB⟩

set_option maxRecDepth 100000 in
set_option maxHeartbeats 2000000 in
theorem implTurns_all (r : Rg) (vN vU : Value) (w : World) (h : RdR w vN vU r) :
    Calls Try.prog 27 #[.agg #[vN, vU, .int .i64 r.A]] w fun e w' => ∃ vN' vU', e = .returned (.tuple #[.agg #[vN', vU', .int .i64 (tuR r).A], .string (tuS r)]) ∧ OwnR w' w.heap.size w'.heap.size vN' vU' (tuR r) ∧ Below w.heap.size w w' := by
  obtain ⟨a, cap, rfl⟩ := h.n.form
  obtain ⟨c, dc, rfl⟩ := h.u.form
  have R : Hid (RdR w (.slice a r.N.length cap) (.slice c r.U.length dc) r) := h
  clear h
  by_cases hok : ringB r = true
  · have e1 : tuR r = if r.N.length = 0 then r else ⟨r.N, (turned r).1, ((turned r).2 : Int)⟩ := if_pos hok
    have e2 : tuS r = if r.N.length = 0 then ⟨#[]⟩ else (r.N[(turned r).2]?).getD ⟨#[]⟩ := if_pos hok
    rw [e1, e2]
    clear e1 e2
    have HK : Hid (ringB r = true) := hok
    have OK : Hid (ROk r) := ringB_iff.1 hok
    have hle := OK.out.le
    have hus : Hid (r.U.length = r.N.length) := OK.out.us
    have hzl : Hid ((r.N.zip r.U).length = r.N.length) := zip_len OK.out.us
    clear hok
    by_cases hn : r.N.length = 0
    · rw [if_pos hn, if_pos hn]
      have hnb : ((r.N.length : Int) == 0) = true := by rw [hn]; rfl
      clear hn
      have m1 : Hid True := trivial
      have m2 : Hid True := trivial
      have m3 : Hid True := trivial
      have m4 : Hid True := trivial
      have m5 : Hid True := trivial
      have m6 : Hid True := trivial
      have m7 : Hid True := trivial
      have m8 : Hid True := trivial
      have m9 : Hid True := trivial
      go_enter Try.func27, Try.ntmps27
      go_wp2_with (first | (clear m1; refine wpList_box_v rfl 29 _ rfl [.slice a r.N.length cap, .slice c r.U.length dc, .int .i64 r.A] rfl ?_; intro b2 w1 hb2 hw2 hB1 V2; have hz1 := hB1.size) | (clear m2; refine wpList_alloc_v rfl 29 rfl _ zeroRg ?_; intro b4 w2 hb4 hw4 hB2 V4; have hz2 := hB2.size; replace V2 := vblk_grow V2 hB2; have hB := hB1.trans (hB2.mono hz1); obtain ⟨c0, c1, c2⟩ := cells3 V2) | (clear m3; go_at_call 43; refine (roundOf_any r _ _ _ (R.out.grow hB)).mono ?_; rintro er w3 ⟨a3, n3, k3, A3, rfl, md⟩; rw [HK.out] at md ⊢; have hB3 := md.low; have hz3 := hB3.size; replace V4 := vblk_grow V4 hB3; replace hB := hB.trans (hB3.mono (by omega)); obtain ⟨o, hA3⟩ := md.own rfl; subst hA3; replace o := o.wide (lo' := w.heap.size) (by omega) (Nat.le_refl _)) | (clear m4; refine wpList_alloc_v rfl 55 rfl _ zeroRd ?_; intro b6 w5 hb6 hw6 hB5 V6; have hz5 := hB5.size; replace V4 := vblk_grow V4 hB5; replace o := o.grow hB5; replace hB := hB.trans (hB5.mono (by omega))) | (clear m5; refine wpList_store_v rfl 55 _ _ rfl b6 [.slice a3 n3 k3, .int .i64 r.A] rfl rfl sizeRd V6 rfl (by simp [Value.oneCell']) ?_; intro w6 hO6 X6; have hz6 := Nat.le_of_eq hO6.1.symm; have hy6 := Nat.le_of_eq hO6.1; replace V4 := vblk_only V4 hO6 (by omega); replace hB := hB.trans (hO6.2.2 _ (by omega)); have rv : RV w6 w.heap.size _ b6 (.slice a3 n3 k3) (r.N.zip r.U) r.A := ⟨o.only hO6 V6 (by decide), X6⟩; clear o V6 X6; obtain ⟨f0, f1⟩ := cells2 rv.v) | (clear m8; go_at_call 49; refine (many_any _ _ _ b6 _ _ _ rv).mono ?_; rintro er wq ⟨rfl, hq⟩; subst wq; rw [hzl.out]) | (go_at_call 50; refine (ringOf_any r _ _ rv.o.rd hus.out (by omega)).mono ?_; rintro er w8 ⟨vN8, vU8, rfl, oR, hB8⟩; have hz8 := hB8.size; replace V4 := vblk_grow V4 hB8; replace oR := oR.wide (lo' := w.heap.size) (by omega) (Nat.le_refl _); replace hB := hB.trans (hB8.mono (by omega)); obtain ⟨aN, nN, kN, rfl⟩ := oR.n.slice; obtain ⟨aU, nU, kU, rfl⟩ := oR.u.slice) | (clear m9; refine wpList_store_v rfl 29 _ _ rfl b4 [.slice aN nN kN, .slice aU nU kU, .int .i64 r.A] rfl rfl sizeRg V4 rfl (by simp [Value.oneCell']) ?_; intro w9 hO9 V9; have o9 := oR.only hO9 V4 (by decide) (by decide); replace hB := hB.trans (hO9.2.2 _ (by omega))) | (fail))
      exact row_ct rfl rfl rfl V9 Try.underlying29 sizeRg rfl ⟨_, _, rfl, o9.top, hB⟩
    · rw [if_neg hn, if_neg hn]
      have hnb : ((r.N.length : Int) == 0) = false := by rw [beq_eq_false_iff_ne]; omega
      have hn1 : 1 ≤ r.N.length := by omega
      have hA0 : Hid (0 ≤ r.A) := OK.out.a0
      have hA1 : Hid (r.A < r.N.length) := by have := OK.out.a1; unfold Hid; omega
      have hju : (turned r).1.length = r.N.length := by unfold turned; rw [turn_len]; exact OK.out.us
      obtain ⟨T, hT⟩ := hid_ex (turned r)
      rw [hT.out] at hju ⊢
      obtain ⟨S, hS⟩ := hid_ex ((r.N[T.2]?).getD ⟨#[]⟩)
      rw [hS.out]
      have HJ : Hid (T.1.length = r.N.length) := hju
      clear hn hju
      have m1 : Hid True := trivial
      have m2 : Hid True := trivial
      have m3 : Hid True := trivial
      have m4 : Hid True := trivial
      have m5 : Hid True := trivial
      have m6 : Hid True := trivial
      have m7 : Hid True := trivial
      have m8 : Hid True := trivial
      have m9 : Hid True := trivial
      go_enter Try.func27, Try.ntmps27
      go_wp2_with (first | (clear m1; refine wpList_box_v rfl 29 _ rfl [.slice a r.N.length cap, .slice c r.U.length dc, .int .i64 r.A] rfl ?_; intro b2 w1 hb2 hw2 hB1 V2; have hz1 := hB1.size) | (clear m2; refine wpList_alloc_v rfl 29 rfl _ zeroRg ?_; intro b4 w2 hb4 hw4 hB2 V4; have hz2 := hB2.size; replace V2 := vblk_grow V2 hB2; have hB := hB1.trans (hB2.mono hz1); obtain ⟨c0, c1, c2⟩ := cells3 V2) | (clear m3; go_at_call 43; refine (roundOf_any r _ _ _ (R.out.grow hB)).mono ?_; rintro er w3 ⟨a3, n3, k3, A3, rfl, md⟩; rw [HK.out] at md ⊢; have hB3 := md.low; have hz3 := hB3.size; replace V4 := vblk_grow V4 hB3; replace hB := hB.trans (hB3.mono (by omega)); obtain ⟨o, hA3⟩ := md.own rfl; subst hA3; replace o := o.wide (lo' := w.heap.size) (by omega) (Nat.le_refl _)) | (clear m4; refine wpList_alloc_v rfl 55 rfl _ zeroRd ?_; intro b6 w5 hb6 hw6 hB5 V6; have hz5 := hB5.size; replace V4 := vblk_grow V4 hB5; replace o := o.grow hB5; replace hB := hB.trans (hB5.mono (by omega))) | (clear m5; refine wpList_store_v rfl 55 _ _ rfl b6 [.slice a3 n3 k3, .int .i64 r.A] rfl rfl sizeRd V6 rfl (by simp [Value.oneCell']) ?_; intro w6 hO6 X6; have hz6 := Nat.le_of_eq hO6.1.symm; have hy6 := Nat.le_of_eq hO6.1; replace V4 := vblk_only V4 hO6 (by omega); replace hB := hB.trans (hO6.2.2 _ (by omega)); have rv : RV w6 w.heap.size _ b6 (.slice a3 n3 k3) (r.N.zip r.U) r.A := ⟨o.only hO6 V6 (by decide), X6⟩; clear o V6 X6; obtain ⟨f0, f1⟩ := cells2 rv.v) | (clear m8; go_at_call 49; refine (many_any _ _ _ b6 _ _ _ rv).mono ?_; rintro er wq ⟨rfl, hq⟩; subst wq; rw [hzl.out]) | (go_at_call 61; refine (turn_any r _ b6 _ _ _ rv (by omega) hn1 (by omega) hus.out hA0.out hA1.out).mono ?_; rintro er w10 ⟨rfl, t10⟩; rw [hT.out] at t10 ⊢; rw [hS.out]; clear rv; have rv := t10.r; have hT10 := t10.t; have hz10 := hT10.size; replace V4 := hT10.vblk V4 (by omega) (by decide); replace hB := hB.trans (hT10.below (Nat.le_refl _) (by omega)); clear f0 f1; obtain ⟨f0, f1⟩ := cells2 rv.v) | (go_at_call 50; refine (ringOf_any ⟨r.N, T.1, (T.2 : Int)⟩ _ _ rv.o.rd HJ.out (show r.N.length ≤ 1000000 by omega)).mono ?_; rintro er w8 ⟨vN8, vU8, rfl, oR, hB8⟩; have hz8 := hB8.size; replace V4 := vblk_grow V4 hB8; replace oR := oR.wide (lo' := w.heap.size) (by omega) (Nat.le_refl _); replace hB := hB.trans (hB8.mono (by omega)); obtain ⟨aN, nN, kN, rfl⟩ := oR.n.slice; obtain ⟨aU, nU, kU, rfl⟩ := oR.u.slice) | (clear m9; refine wpList_store_v rfl 29 _ _ rfl b4 [.slice aN nN kN, .slice aU nU kU, .int .i64 (T.2 : Int)] rfl rfl sizeRg V4 rfl (by simp [Value.oneCell']) ?_; intro w9 hO9 V9; have o9 := oR.only hO9 V4 (by decide) (by decide); replace hB := hB.trans (hO9.2.2 _ (by omega))) | (fail))
      exact row_ct rfl rfl rfl V9 Try.underlying29 sizeRg rfl ⟨_, _, rfl, o9.top, hB⟩
  · have e1 : tuR r = Rg.zero := if_neg hok
    have e2 : tuS r = ⟨#[]⟩ := if_neg hok
    rw [e1, e2]
    have HK : Hid (ringB r = false) := ringB_not hok
    clear hok e1 e2
    have m1 : Hid True := trivial
    have m2 : Hid True := trivial
    have m3 : Hid True := trivial
    have m4 : Hid True := trivial
    have m5 : Hid True := trivial
    have m6 : Hid True := trivial
    have m7 : Hid True := trivial
    have m8 : Hid True := trivial
    have m9 : Hid True := trivial
    go_enter Try.func27, Try.ntmps27
    go_wp2_with (first | (clear m1; refine wpList_box_v rfl 29 _ rfl [.slice a r.N.length cap, .slice c r.U.length dc, .int .i64 r.A] rfl ?_; intro b2 w1 hb2 hw2 hB1 V2; have hz1 := hB1.size) | (clear m2; refine wpList_alloc_v rfl 29 rfl _ zeroRg ?_; intro b4 w2 hb4 hw4 hB2 V4; have hz2 := hB2.size; replace V2 := vblk_grow V2 hB2; have hB := hB1.trans (hB2.mono hz1); obtain ⟨c0, c1, c2⟩ := cells3 V2) | (clear m3; go_at_call 43; refine (roundOf_any r _ _ _ (R.out.grow hB)).mono ?_; rintro er w3 ⟨a3, n3, k3, A3, rfl, md⟩; rw [HK.out] at md ⊢; have hB3 := md.low; have hz3 := hB3.size; replace V4 := vblk_grow V4 hB3; replace hB := hB.trans (hB3.mono (by omega))) | (clear m4; refine wpList_alloc_v rfl 55 rfl _ zeroRd ?_; intro b6 w5 hb6 hw6 hB5 V6; have hz5 := hB5.size; replace V4 := vblk_grow V4 hB5; replace hB := hB.trans (hB5.mono (by omega))) | (clear m5; refine wpList_store_v rfl 55 _ _ rfl b6 [.slice a3 n3 k3, .int .i64 A3] rfl rfl sizeRd V6 rfl (by simp [Value.oneCell']) ?_; intro w6 hO6 X6; have hz6 := Nat.le_of_eq hO6.1.symm; have hy6 := Nat.le_of_eq hO6.1; replace V4 := vblk_only V4 hO6 (by omega); replace hB := hB.trans (hO6.2.2 _ (by omega))) | (clear m9; refine wpList_store_v rfl 29 _ _ rfl b4 [.slice none 0 0, .slice none 0 0, .int .i64 0] rfl rfl sizeRg V4 rfl (by simp [Value.oneCell']) ?_; intro w9 hO9 V9; replace hB := hB.trans (hO9.2.2 _ (by omega))) | (fail))
    exact row_ct rfl rfl rfl V9 Try.underlying29 sizeRg rfl ⟨_, _, rfl, ownR_zero _ _ _, hB⟩
end Go.Proofs.Ytgcgofnjaipndaa.rg
