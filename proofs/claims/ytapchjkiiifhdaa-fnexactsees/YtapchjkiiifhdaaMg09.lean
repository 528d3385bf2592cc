/- Texts laid together: Rp6 Rs4 Qs3 Sk8 Lw1 Lw2 LwOpen. -/
import Derived.Test.YtapchjkiiifhdaaMg07
import Derived.Test.YtapchjkiiifhdaaMg08
import Derived.Deep.Slices
import Derived.Lib.SmallJoins
import Derived.ShutString
import Derived.ChangeOld
import Derived.Deep.Matrix
/- Contracts: the program's RingOk, Joins, Uses, Leaves, Turns, of whatever ring. -/
namespace Go.Proofs.Ytapchjkiiifhdaa.rg
open Go.ChangeShapes Go.WideShapes Go.ChangeAt Go.RowKit
open Go.Proofs.Ytapchjkiiifhdaa.ce Go.Proofs.Ytapchjkiiifhdaa.ro
set_option linter.unusedVariables false

theorem zip_join {N : List ByteArray} {U : List Bool} (h : U.length = N.length) (s : ByteArray) : N.zip U ++ [(s, false)] = (N ++ [s]).zip (U ++ [false]) := by
  rw [List.zip_append (by omega)]
  rfl

set_option maxRecDepth 100000 in
set_option maxHeartbeats 2000000 in
theorem implJoins_all (r : Rg) (s : ByteArray) (hs : s.size ≤ 9223372036854775807) (vN vU : Value) (w : World) (h : RdR w vN vU r) :
    Calls Try.prog 147 #[.agg #[vN, vU, .int .i64 r.A], .string s] w fun e w' => ∃ vN' vU', e = .returned (.tuple #[.agg #[vN', vU', .int .i64 (jnR r s).A], .bool (jnB r s)]) ∧ OwnR w' w.heap.size w'.heap.size vN' vU' (jnR r s) ∧ Below w.heap.size w w' := by
  obtain ⟨a, cap, rfl⟩ := h.n.form
  obtain ⟨c, dc, rfl⟩ := h.u.form
  have R : Hid (RdR w (.slice a r.N.length cap) (.slice c r.U.length dc) r) := h
  clear h
  by_cases hok : ringB r = true
  · have e1 : jnR r s = if mayB r s = true then joined r s else r := if_pos hok
    have e2 : jnB r s = mayB r s := by unfold jnB; rw [hok]; rfl
    rw [e1, e2]
    clear e1 e2
    have HK : Hid (ringB r = true) := hok
    have OK : Hid (ROk r) := ringB_iff.1 hok
    have hle := OK.out.le
    have hus : Hid (r.U.length = r.N.length) := OK.out.us
    have hzl : Hid ((r.N.zip r.U).length = r.N.length) := zip_len OK.out.us
    clear hok
    have hmay := @mayB_true r s
    have hm1 := @mayB_false1 r s
    have hm2 := @mayB_false2 r s
    have hm3 := @mayB_false3 r s
    obtain ⟨p, hp0⟩ := hid_ex (posS s r.N)
    have hp : Hid (posS s ((r.N.zip r.U).map (·.1)) = p) := by unfold Hid; rw [zip_fst OK.out.us]; exact hp0.out
    have hpb := posS_bd s r.N
    rw [hp0.out] at hmay hm2 hpb
    clear hp0
    cases hnm : nameB s with
    | false =>
      have e3 := hm1 hnm
      rw [e3, if_neg Bool.false_ne_true]
      clear hmay hm1 hm2 hm3 e3
      have m1 : Hid True := trivial
      have m2 : Hid True := trivial
      have m3 : Hid True := trivial
      have m4 : Hid True := trivial
      have m5 : Hid True := trivial
      have m6 : Hid True := trivial
      have m7 : Hid True := trivial
      have m8 : Hid True := trivial
      have m9 : Hid True := trivial
      go_enter Try.func147, Try.ntmps147
      go_wp2_with (first | (clear m1; refine wpList_box_v rfl 33 _ rfl [.slice a r.N.length cap, .slice c r.U.length dc, .int .i64 r.A] rfl ?_; intro b2 w1 hb2 hw2 hB1 V2; have hz1 := hB1.size) | (clear m2; refine wpList_alloc_v rfl 33 rfl _ zeroRg ?_; intro b4 w2 hb4 hw4 hB2 V4; have hz2 := hB2.size; replace V2 := vblk_grow V2 hB2; have hB := hB1.trans (hB2.mono hz1); obtain ⟨c0, c1, c2⟩ := cells3 V2) | (clear m3; go_at_call 125; refine (roundOf_any r _ _ _ (R.out.grow hB)).mono ?_; rintro er w3 ⟨a3, n3, k3, A3, rfl, md⟩; rw [HK.out] at md ⊢; have hB3 := md.low; have hz3 := hB3.size; replace V4 := vblk_grow V4 hB3; replace hB := hB.trans (hB3.mono (by omega)); obtain ⟨o, hA3⟩ := md.own rfl; subst hA3; replace o := o.wide (lo' := w.heap.size) (by omega) (Nat.le_refl _)) | (clear m4; refine wpList_alloc_v rfl 144 rfl _ zeroRd ?_; intro b6 w5 hb6 hw6 hB5 V6; have hz5 := hB5.size; replace V4 := vblk_grow V4 hB5; replace o := o.grow hB5; replace hB := hB.trans (hB5.mono (by omega))) | (clear m5; refine wpList_store_v rfl 144 _ _ rfl b6 [.slice a3 n3 k3, .int .i64 r.A] rfl rfl sizeRd V6 rfl (by simp [Value.oneCell']) ?_; intro w6 hO6 X6; have hz6 := Nat.le_of_eq hO6.1.symm; have hy6 := Nat.le_of_eq hO6.1; replace V4 := vblk_only V4 hO6 (by omega); replace hB := hB.trans (hO6.2.2 _ (by omega)); have rv : RV w6 w.heap.size _ b6 (.slice a3 n3 k3) (r.N.zip r.U) r.A := ⟨o.only hO6 V6 (by decide), X6⟩; clear o V6 X6; obtain ⟨f0, f1⟩ := cells2 rv.v) | (clear m6; go_at_call 82; refine (implNameOk_any _ hs _).mono ?_; rintro er wq ⟨rfl, hq⟩; subst wq; rw [hnm]) | (go_at_call 128; refine (ringOf_any r _ _ rv.o.rd hus.out (by omega)).mono ?_; rintro er w8 ⟨vN8, vU8, rfl, oR, hB8⟩; have hz8 := hB8.size; replace V4 := vblk_grow V4 hB8; replace oR := oR.wide (lo' := w.heap.size) (by omega) (Nat.le_refl _); replace hB := hB.trans (hB8.mono (by omega)); obtain ⟨aN, nN, kN, rfl⟩ := oR.n.slice; obtain ⟨aU, nU, kU, rfl⟩ := oR.u.slice) | (clear m9; refine wpList_store_v rfl 33 _ _ rfl b4 [.slice aN nN kN, .slice aU nU kU, .int .i64 r.A] rfl rfl sizeRg V4 rfl (by simp [Value.oneCell']) ?_; intro w9 hO9 V9; have o9 := oR.only hO9 V4 (by decide) (by decide); replace hB := hB.trans (hO9.2.2 _ (by omega))) | (fail))
      exact row_ct rfl rfl rfl V9 Try.underlying33 sizeRg rfl ⟨_, _, rfl, o9.top, hB⟩
    | true =>
      by_cases hpe : p = -1
      · have hpb2 : (p != -1) = false := by simpa using hpe
        by_cases h20 : r.N.length = 20
        · have e3 := hm3 h20
          rw [e3, if_neg Bool.false_ne_true]
          have h20b : ((r.N.length : Int) == 20) = true := by simp; omega
          clear hmay hm1 hm2 hm3 e3 h20 hpe
          have m1 : Hid True := trivial
          have m2 : Hid True := trivial
          have m3 : Hid True := trivial
          have m4 : Hid True := trivial
          have m5 : Hid True := trivial
          have m6 : Hid True := trivial
          have m7 : Hid True := trivial
          have m8 : Hid True := trivial
          have m9 : Hid True := trivial
          go_enter Try.func147, Try.ntmps147
          go_wp2_with (first | (clear m1; refine wpList_box_v rfl 33 _ rfl [.slice a r.N.length cap, .slice c r.U.length dc, .int .i64 r.A] rfl ?_; intro b2 w1 hb2 hw2 hB1 V2; have hz1 := hB1.size) | (clear m2; refine wpList_alloc_v rfl 33 rfl _ zeroRg ?_; intro b4 w2 hb4 hw4 hB2 V4; have hz2 := hB2.size; replace V2 := vblk_grow V2 hB2; have hB := hB1.trans (hB2.mono hz1); obtain ⟨c0, c1, c2⟩ := cells3 V2) | (clear m3; go_at_call 125; refine (roundOf_any r _ _ _ (R.out.grow hB)).mono ?_; rintro er w3 ⟨a3, n3, k3, A3, rfl, md⟩; rw [HK.out] at md ⊢; have hB3 := md.low; have hz3 := hB3.size; replace V4 := vblk_grow V4 hB3; replace hB := hB.trans (hB3.mono (by omega)); obtain ⟨o, hA3⟩ := md.own rfl; subst hA3; replace o := o.wide (lo' := w.heap.size) (by omega) (Nat.le_refl _)) | (clear m4; refine wpList_alloc_v rfl 144 rfl _ zeroRd ?_; intro b6 w5 hb6 hw6 hB5 V6; have hz5 := hB5.size; replace V4 := vblk_grow V4 hB5; replace o := o.grow hB5; replace hB := hB.trans (hB5.mono (by omega))) | (clear m5; refine wpList_store_v rfl 144 _ _ rfl b6 [.slice a3 n3 k3, .int .i64 r.A] rfl rfl sizeRd V6 rfl (by simp [Value.oneCell']) ?_; intro w6 hO6 X6; have hz6 := Nat.le_of_eq hO6.1.symm; have hy6 := Nat.le_of_eq hO6.1; replace V4 := vblk_only V4 hO6 (by omega); replace hB := hB.trans (hO6.2.2 _ (by omega)); have rv : RV w6 w.heap.size _ b6 (.slice a3 n3 k3) (r.N.zip r.U) r.A := ⟨o.only hO6 V6 (by decide), X6⟩; clear o V6 X6; obtain ⟨f0, f1⟩ := cells2 rv.v) | (clear m6; go_at_call 82; refine (implNameOk_any _ hs _).mono ?_; rintro er wq ⟨rfl, hq⟩; subst wq; rw [hnm]) | (clear m7; go_at_call 150; refine (placeOf_any _ _ _ _ b6 _ _ _ rv).mono ?_; rintro er w7 ⟨rfl, hB7⟩; rw [hp.out]; have hz7 := hB7.size; replace V4 := vblk_grow V4 hB7; replace rv := rv.grow hB7; replace hB := hB.trans (hB7.mono (by omega)); clear f0 f1; obtain ⟨f0, f1⟩ := cells2 rv.v) | (clear m8; go_at_call 188; refine (many_any _ _ _ b6 _ _ _ rv).mono ?_; rintro er wq ⟨rfl, hq⟩; subst wq; rw [hzl.out]) | (go_at_call 128; refine (ringOf_any r _ _ rv.o.rd hus.out (by omega)).mono ?_; rintro er w8 ⟨vN8, vU8, rfl, oR, hB8⟩; have hz8 := hB8.size; replace V4 := vblk_grow V4 hB8; replace oR := oR.wide (lo' := w.heap.size) (by omega) (Nat.le_refl _); replace hB := hB.trans (hB8.mono (by omega)); obtain ⟨aN, nN, kN, rfl⟩ := oR.n.slice; obtain ⟨aU, nU, kU, rfl⟩ := oR.u.slice) | (clear m9; refine wpList_store_v rfl 33 _ _ rfl b4 [.slice aN nN kN, .slice aU nU kU, .int .i64 r.A] rfl rfl sizeRg V4 rfl (by simp [Value.oneCell']) ?_; intro w9 hO9 V9; have o9 := oR.only hO9 V4 (by decide) (by decide); replace hB := hB.trans (hO9.2.2 _ (by omega))) | (fail))
          exact row_ct rfl rfl rfl V9 Try.underlying33 sizeRg rfl ⟨_, _, rfl, o9.top, hB⟩
        · have e3 := hmay hnm (by omega) h20
          rw [e3, if_pos rfl]
          have h20b : ((r.N.length : Int) == 20) = false := by simp; omega
          have hjn : Hid (r.N.zip r.U ++ [(s, false)] = (joined r s).N.zip (joined r s).U) := zip_join OK.out.us s
          have hju : Hid ((joined r s).U.length = (joined r s).N.length) := by unfold Hid joined; simp; exact OK.out.us
          have hjl : (joined r s).N.length ≤ 1000000 := by unfold joined; simp; omega
          have hjA : Hid (r.A = (joined r s).A) := rfl
          obtain ⟨J, hJ⟩ := hid_ex (joined r s)
          rw [hJ.out] at hjn hju hjl hjA ⊢
          clear hmay hm1 hm2 hm3 e3 h20 hpe
          have m1 : Hid True := trivial
          have m2 : Hid True := trivial
          have m3 : Hid True := trivial
          have m4 : Hid True := trivial
          have m5 : Hid True := trivial
          have m6 : Hid True := trivial
          have m7 : Hid True := trivial
          have m8 : Hid True := trivial
          have m9 : Hid True := trivial
          go_enter Try.func147, Try.ntmps147
          go_wp2_with (first | (clear m1; refine wpList_box_v rfl 33 _ rfl [.slice a r.N.length cap, .slice c r.U.length dc, .int .i64 r.A] rfl ?_; intro b2 w1 hb2 hw2 hB1 V2; have hz1 := hB1.size) | (clear m2; refine wpList_alloc_v rfl 33 rfl _ zeroRg ?_; intro b4 w2 hb4 hw4 hB2 V4; have hz2 := hB2.size; replace V2 := vblk_grow V2 hB2; have hB := hB1.trans (hB2.mono hz1); obtain ⟨c0, c1, c2⟩ := cells3 V2) | (clear m3; go_at_call 125; refine (roundOf_any r _ _ _ (R.out.grow hB)).mono ?_; rintro er w3 ⟨a3, n3, k3, A3, rfl, md⟩; rw [HK.out] at md ⊢; have hB3 := md.low; have hz3 := hB3.size; replace V4 := vblk_grow V4 hB3; replace hB := hB.trans (hB3.mono (by omega)); obtain ⟨o, hA3⟩ := md.own rfl; subst hA3; replace o := o.wide (lo' := w.heap.size) (by omega) (Nat.le_refl _)) | (clear m4; refine wpList_alloc_v rfl 144 rfl _ zeroRd ?_; intro b6 w5 hb6 hw6 hB5 V6; have hz5 := hB5.size; replace V4 := vblk_grow V4 hB5; replace o := o.grow hB5; replace hB := hB.trans (hB5.mono (by omega))) | (clear m5; refine wpList_store_v rfl 144 _ _ rfl b6 [.slice a3 n3 k3, .int .i64 r.A] rfl rfl sizeRd V6 rfl (by simp [Value.oneCell']) ?_; intro w6 hO6 X6; have hz6 := Nat.le_of_eq hO6.1.symm; have hy6 := Nat.le_of_eq hO6.1; replace V4 := vblk_only V4 hO6 (by omega); replace hB := hB.trans (hO6.2.2 _ (by omega)); have rv : RV w6 w.heap.size _ b6 (.slice a3 n3 k3) (r.N.zip r.U) r.A := ⟨o.only hO6 V6 (by decide), X6⟩; clear o V6 X6; obtain ⟨f0, f1⟩ := cells2 rv.v) | (clear m6; go_at_call 82; refine (implNameOk_any _ hs _).mono ?_; rintro er wq ⟨rfl, hq⟩; subst wq; rw [hnm]) | (clear m7; go_at_call 150; refine (placeOf_any _ _ _ _ b6 _ _ _ rv).mono ?_; rintro er w7 ⟨rfl, hB7⟩; rw [hp.out]; have hz7 := hB7.size; replace V4 := vblk_grow V4 hB7; replace rv := rv.grow hB7; replace hB := hB.trans (hB7.mono (by omega)); clear f0 f1; obtain ⟨f0, f1⟩ := cells2 rv.v) | (clear m8; go_at_call 188; refine (many_any _ _ _ b6 _ _ _ rv).mono ?_; rintro er wq ⟨rfl, hq⟩; subst wq; rw [hzl.out]) | (go_at_call 178; refine (join_any _ _ _ _ b6 _ _ _ rv (by omega) (by have := hzl.out; omega)).mono ?_; rintro er w10 ⟨⟨u10, rfl⟩, ⟨sv10, rv10⟩, hT10⟩; rw [hjn.out, hjA.out] at rv10; clear rv; have rv := rv10; clear rv10; obtain ⟨a10, n10, k10, rfl⟩ := rv.o.slice; have hz10 := hT10.size; replace V4 := hT10.vblk V4 (by omega) (by decide); replace hB := hB.trans (hT10.below (Nat.le_refl _) (by omega)); clear f0 f1; obtain ⟨f0, f1⟩ := cells2 rv.v) | (go_at_call 128; refine (ringOf_any J _ _ rv.o.rd hju.out hjl).mono ?_; rintro er w8 ⟨vN8, vU8, rfl, oR, hB8⟩; have hz8 := hB8.size; replace V4 := vblk_grow V4 hB8; replace oR := oR.wide (lo' := w.heap.size) (by omega) (Nat.le_refl _); replace hB := hB.trans (hB8.mono (by omega)); obtain ⟨aN, nN, kN, rfl⟩ := oR.n.slice; obtain ⟨aU, nU, kU, rfl⟩ := oR.u.slice) | (clear m9; refine wpList_store_v rfl 33 _ _ rfl b4 [.slice aN nN kN, .slice aU nU kU, .int .i64 J.A] rfl rfl sizeRg V4 rfl (by simp [Value.oneCell']) ?_; intro w9 hO9 V9; have o9 := oR.only hO9 V4 (by decide) (by decide); replace hB := hB.trans (hO9.2.2 _ (by omega))) | (fail))
          exact row_ct rfl rfl rfl V9 Try.underlying33 sizeRg rfl ⟨_, _, rfl, o9.top, hB⟩
      · have e3 := hm2 (by omega)
        rw [e3, if_neg Bool.false_ne_true]
        have hpb2 : (p != -1) = true := by simpa using hpe
        clear hmay hm1 hm2 hm3 e3 hpe
        have m1 : Hid True := trivial
        have m2 : Hid True := trivial
        have m3 : Hid True := trivial
        have m4 : Hid True := trivial
        have m5 : Hid True := trivial
        have m6 : Hid True := trivial
        have m7 : Hid True := trivial
        have m8 : Hid True := trivial
        have m9 : Hid True := trivial
        go_enter Try.func147, Try.ntmps147
        go_wp2_with (first | (clear m1; refine wpList_box_v rfl 33 _ rfl [.slice a r.N.length cap, .slice c r.U.length dc, .int .i64 r.A] rfl ?_; intro b2 w1 hb2 hw2 hB1 V2; have hz1 := hB1.size) | (clear m2; refine wpList_alloc_v rfl 33 rfl _ zeroRg ?_; intro b4 w2 hb4 hw4 hB2 V4; have hz2 := hB2.size; replace V2 := vblk_grow V2 hB2; have hB := hB1.trans (hB2.mono hz1); obtain ⟨c0, c1, c2⟩ := cells3 V2) | (clear m3; go_at_call 125; refine (roundOf_any r _ _ _ (R.out.grow hB)).mono ?_; rintro er w3 ⟨a3, n3, k3, A3, rfl, md⟩; rw [HK.out] at md ⊢; have hB3 := md.low; have hz3 := hB3.size; replace V4 := vblk_grow V4 hB3; replace hB := hB.trans (hB3.mono (by omega)); obtain ⟨o, hA3⟩ := md.own rfl; subst hA3; replace o := o.wide (lo' := w.heap.size) (by omega) (Nat.le_refl _)) | (clear m4; refine wpList_alloc_v rfl 144 rfl _ zeroRd ?_; intro b6 w5 hb6 hw6 hB5 V6; have hz5 := hB5.size; replace V4 := vblk_grow V4 hB5; replace o := o.grow hB5; replace hB := hB.trans (hB5.mono (by omega))) | (clear m5; refine wpList_store_v rfl 144 _ _ rfl b6 [.slice a3 n3 k3, .int .i64 r.A] rfl rfl sizeRd V6 rfl (by simp [Value.oneCell']) ?_; intro w6 hO6 X6; have hz6 := Nat.le_of_eq hO6.1.symm; have hy6 := Nat.le_of_eq hO6.1; replace V4 := vblk_only V4 hO6 (by omega); replace hB := hB.trans (hO6.2.2 _ (by omega)); have rv : RV w6 w.heap.size _ b6 (.slice a3 n3 k3) (r.N.zip r.U) r.A := ⟨o.only hO6 V6 (by decide), X6⟩; clear o V6 X6; obtain ⟨f0, f1⟩ := cells2 rv.v) | (clear m6; go_at_call 82; refine (implNameOk_any _ hs _).mono ?_; rintro er wq ⟨rfl, hq⟩; subst wq; rw [hnm]) | (clear m7; go_at_call 150; refine (placeOf_any _ _ _ _ b6 _ _ _ rv).mono ?_; rintro er w7 ⟨rfl, hB7⟩; rw [hp.out]; have hz7 := hB7.size; replace V4 := vblk_grow V4 hB7; replace rv := rv.grow hB7; replace hB := hB.trans (hB7.mono (by omega)); clear f0 f1; obtain ⟨f0, f1⟩ := cells2 rv.v) | (go_at_call 128; refine (ringOf_any r _ _ rv.o.rd hus.out (by omega)).mono ?_; rintro er w8 ⟨vN8, vU8, rfl, oR, hB8⟩; have hz8 := hB8.size; replace V4 := vblk_grow V4 hB8; replace oR := oR.wide (lo' := w.heap.size) (by omega) (Nat.le_refl _); replace hB := hB.trans (hB8.mono (by omega)); obtain ⟨aN, nN, kN, rfl⟩ := oR.n.slice; obtain ⟨aU, nU, kU, rfl⟩ := oR.u.slice) | (clear m9; refine wpList_store_v rfl 33 _ _ rfl b4 [.slice aN nN kN, .slice aU nU kU, .int .i64 r.A] rfl rfl sizeRg V4 rfl (by simp [Value.oneCell']) ?_; intro w9 hO9 V9; have o9 := oR.only hO9 V4 (by decide) (by decide); replace hB := hB.trans (hO9.2.2 _ (by omega))) | (fail))
        exact row_ct rfl rfl rfl V9 Try.underlying33 sizeRg rfl ⟨_, _, rfl, o9.top, hB⟩
  · have e1 : jnR r s = Rg.zero := if_neg hok
    have e2 : jnB r s = false := by unfold jnB; rw [ringB_not hok]; rfl
    rw [e1, e2]
    have HK : Hid (ringB r = false) := ringB_not hok
    clear hok e1 e2
    have m1 : Hid True := trivial
    have m2 : Hid True := trivial
    have m3 : Hid True := trivial
    have m4 : Hid True := trivial
    have m5 : Hid True := trivial
    have m6 : Hid True := trivial
    have m7 : Hid True := trivial
    have m8 : Hid True := trivial
    have m9 : Hid True := trivial
    go_enter Try.func147, Try.ntmps147
    go_wp2_with (first | (clear m1; refine wpList_box_v rfl 33 _ rfl [.slice a r.N.length cap, .slice c r.U.length dc, .int .i64 r.A] rfl ?_; intro b2 w1 hb2 hw2 hB1 V2; have hz1 := hB1.size) | (clear m2; refine wpList_alloc_v rfl 33 rfl _ zeroRg ?_; intro b4 w2 hb4 hw4 hB2 V4; have hz2 := hB2.size; replace V2 := vblk_grow V2 hB2; have hB := hB1.trans (hB2.mono hz1); obtain ⟨c0, c1, c2⟩ := cells3 V2) | (clear m3; go_at_call 125; refine (roundOf_any r _ _ _ (R.out.grow hB)).mono ?_; rintro er w3 ⟨a3, n3, k3, A3, rfl, md⟩; rw [HK.out] at md ⊢; have hB3 := md.low; have hz3 := hB3.size; replace V4 := vblk_grow V4 hB3; replace hB := hB.trans (hB3.mono (by omega))) | (clear m4; refine wpList_alloc_v rfl 144 rfl _ zeroRd ?_; intro b6 w5 hb6 hw6 hB5 V6; have hz5 := hB5.size; replace V4 := vblk_grow V4 hB5; replace hB := hB.trans (hB5.mono (by omega))) | (clear m5; refine wpList_store_v rfl 144 _ _ rfl b6 [.slice a3 n3 k3, .int .i64 A3] rfl rfl sizeRd V6 rfl (by simp [Value.oneCell']) ?_; intro w6 hO6 X6; have hz6 := Nat.le_of_eq hO6.1.symm; have hy6 := Nat.le_of_eq hO6.1; replace V4 := vblk_only V4 hO6 (by omega); replace hB := hB.trans (hO6.2.2 _ (by omega))) | (clear m9; refine wpList_store_v rfl 33 _ _ rfl b4 [.slice none 0 0, .slice none 0 0, .int .i64 0] rfl rfl sizeRg V4 rfl (by simp [Value.oneCell']) ?_; intro w9 hO9 V9; replace hB := hB.trans (hO9.2.2 _ (by omega))) | (fail))
    exact row_ct rfl rfl rfl V9 Try.underlying33 sizeRg rfl ⟨_, _, rfl, ownR_zero _ _ _, hB⟩

set_option maxRecDepth 100000 in
set_option maxHeartbeats 2000000 in
theorem implUses_all (r : Rg) (s : ByteArray) (vN vU : Value) (w : World) (h : RdR w vN vU r) :
    Calls Try.prog 146 #[.agg #[vN, vU, .int .i64 r.A], .string s] w fun e w' => ∃ vN' vU', e = .returned (.agg #[vN', vU', .int .i64 (usR r s).A]) ∧ OwnR w' w.heap.size w'.heap.size vN' vU' (usR r s) ∧ Below w.heap.size w w' := by
  obtain ⟨a, cap, rfl⟩ := h.n.form
  obtain ⟨c, dc, rfl⟩ := h.u.form
  have R : Hid (RdR w (.slice a r.N.length cap) (.slice c r.U.length dc) r) := h
  clear h
  by_cases hok : ringB r = true
  · have e1 : usR r s = used r s := if_pos hok
    rw [e1]
    clear e1
    have hy1 := @used_yes r s
    have hy2 := @used_no r s
    have HK : Hid (ringB r = true) := hok
    have OK : Hid (ROk r) := ringB_iff.1 hok
    have hle := OK.out.le
    have hus : Hid (r.U.length = r.N.length) := OK.out.us
    have hzl : Hid ((r.N.zip r.U).length = r.N.length) := zip_len OK.out.us
    clear hok
    obtain ⟨p, hp0⟩ := hid_ex (posS s r.N)
    have hp : Hid (posS s ((r.N.zip r.U).map (·.1)) = p) := by unfold Hid; rw [zip_fst OK.out.us]; exact hp0.out
    have hpb := posS_bd s r.N
    rw [hp0.out] at hy1 hy2 hpb
    clear hp0
    by_cases hpe : p = -1
    · rw [hy2 (by omega)]
      have hpb2 : (p != -1) = false := by simpa using hpe
      clear hy1 hy2 hpe
      have m1 : Hid True := trivial
      have m2 : Hid True := trivial
      have m3 : Hid True := trivial
      have m4 : Hid True := trivial
      have m5 : Hid True := trivial
      have m6 : Hid True := trivial
      have m7 : Hid True := trivial
      have m8 : Hid True := trivial
      have m9 : Hid True := trivial
      go_enter Try.func146, Try.ntmps146
      go_wp2_with (first | (clear m1; refine wpList_box_v rfl 33 _ rfl [.slice a r.N.length cap, .slice c r.U.length dc, .int .i64 r.A] rfl ?_; intro b2 w1 hb2 hw2 hB1 V2; have hz1 := hB1.size) | (clear m2; refine wpList_alloc_v rfl 33 rfl _ zeroRg ?_; intro b4 w2 hb4 hw4 hB2 V4; have hz2 := hB2.size; replace V2 := vblk_grow V2 hB2; have hB := hB1.trans (hB2.mono hz1); obtain ⟨c0, c1, c2⟩ := cells3 V2) | (clear m3; go_at_call 125; refine (roundOf_any r _ _ _ (R.out.grow hB)).mono ?_; rintro er w3 ⟨a3, n3, k3, A3, rfl, md⟩; rw [HK.out] at md ⊢; have hB3 := md.low; have hz3 := hB3.size; replace V4 := vblk_grow V4 hB3; replace hB := hB.trans (hB3.mono (by omega)); obtain ⟨o, hA3⟩ := md.own rfl; subst hA3; replace o := o.wide (lo' := w.heap.size) (by omega) (Nat.le_refl _)) | (clear m4; refine wpList_alloc_v rfl 144 rfl _ zeroRd ?_; intro b6 w5 hb6 hw6 hB5 V6; have hz5 := hB5.size; replace V4 := vblk_grow V4 hB5; replace o := o.grow hB5; replace hB := hB.trans (hB5.mono (by omega))) | (clear m5; refine wpList_store_v rfl 144 _ _ rfl b6 [.slice a3 n3 k3, .int .i64 r.A] rfl rfl sizeRd V6 rfl (by simp [Value.oneCell']) ?_; intro w6 hO6 X6; have hz6 := Nat.le_of_eq hO6.1.symm; have hy6 := Nat.le_of_eq hO6.1; replace V4 := vblk_only V4 hO6 (by omega); replace hB := hB.trans (hO6.2.2 _ (by omega)); have rv : RV w6 w.heap.size _ b6 (.slice a3 n3 k3) (r.N.zip r.U) r.A := ⟨o.only hO6 V6 (by decide), X6⟩; clear o V6 X6; obtain ⟨f0, f1⟩ := cells2 rv.v) | (clear m7; go_at_call 150; refine (placeOf_any _ _ _ _ b6 _ _ _ rv).mono ?_; rintro er w7 ⟨rfl, hB7⟩; rw [hp.out]; have hz7 := hB7.size; replace V4 := vblk_grow V4 hB7; replace rv := rv.grow hB7; replace hB := hB.trans (hB7.mono (by omega)); clear f0 f1; obtain ⟨f0, f1⟩ := cells2 rv.v) | (go_at_call 128; refine (ringOf_any r _ _ rv.o.rd hus.out (by omega)).mono ?_; rintro er w8 ⟨vN8, vU8, rfl, oR, hB8⟩; have hz8 := hB8.size; replace V4 := vblk_grow V4 hB8; replace oR := oR.wide (lo' := w.heap.size) (by omega) (Nat.le_refl _); replace hB := hB.trans (hB8.mono (by omega)); obtain ⟨aN, nN, kN, rfl⟩ := oR.n.slice; obtain ⟨aU, nU, kU, rfl⟩ := oR.u.slice) | (clear m9; refine wpList_store_v rfl 33 _ _ rfl b4 [.slice aN nN kN, .slice aU nU kU, .int .i64 r.A] rfl rfl sizeRg V4 rfl (by simp [Value.oneCell']) ?_; intro w9 hO9 V9; have o9 := oR.only hO9 V4 (by decide) (by decide); replace hB := hB.trans (hO9.2.2 _ (by omega))) | (fail))
      exact row_retv rfl rfl V9 Try.underlying33 sizeRg rfl ⟨_, _, rfl, o9.top, hB⟩
    · have hpb2 : (p != -1) = true := by simpa using hpe
      rw [hy1 (by omega)]
      obtain ⟨i, rfl⟩ : ∃ i : Nat, p = i := ⟨p.toNat, by omega⟩
      rw [Int.toNat_natCast]
      have hil : i < (r.N.zip r.U).length := by have := hzl.out; omega
      have hjn : Hid ((r.N.zip r.U).set i ((r.N.zip r.U)[i].1, true) = r.N.zip (r.U.set i true)) := zip_set _ _ _ hil _
      have hju : Hid ((r.U.set i true).length = r.N.length) := by unfold Hid; rw [List.length_set]; exact OK.out.us
      clear hy1 hy2 hpe
      have m1 : Hid True := trivial
      have m2 : Hid True := trivial
      have m3 : Hid True := trivial
      have m4 : Hid True := trivial
      have m5 : Hid True := trivial
      have m6 : Hid True := trivial
      have m7 : Hid True := trivial
      have m8 : Hid True := trivial
      have m9 : Hid True := trivial
      go_enter Try.func146, Try.ntmps146
      go_wp2_with (first | (clear m1; refine wpList_box_v rfl 33 _ rfl [.slice a r.N.length cap, .slice c r.U.length dc, .int .i64 r.A] rfl ?_; intro b2 w1 hb2 hw2 hB1 V2; have hz1 := hB1.size) | (clear m2; refine wpList_alloc_v rfl 33 rfl _ zeroRg ?_; intro b4 w2 hb4 hw4 hB2 V4; have hz2 := hB2.size; replace V2 := vblk_grow V2 hB2; have hB := hB1.trans (hB2.mono hz1); obtain ⟨c0, c1, c2⟩ := cells3 V2) | (clear m3; go_at_call 125; refine (roundOf_any r _ _ _ (R.out.grow hB)).mono ?_; rintro er w3 ⟨a3, n3, k3, A3, rfl, md⟩; rw [HK.out] at md ⊢; have hB3 := md.low; have hz3 := hB3.size; replace V4 := vblk_grow V4 hB3; replace hB := hB.trans (hB3.mono (by omega)); obtain ⟨o, hA3⟩ := md.own rfl; subst hA3; replace o := o.wide (lo' := w.heap.size) (by omega) (Nat.le_refl _)) | (clear m4; refine wpList_alloc_v rfl 144 rfl _ zeroRd ?_; intro b6 w5 hb6 hw6 hB5 V6; have hz5 := hB5.size; replace V4 := vblk_grow V4 hB5; replace o := o.grow hB5; replace hB := hB.trans (hB5.mono (by omega))) | (clear m5; refine wpList_store_v rfl 144 _ _ rfl b6 [.slice a3 n3 k3, .int .i64 r.A] rfl rfl sizeRd V6 rfl (by simp [Value.oneCell']) ?_; intro w6 hO6 X6; have hz6 := Nat.le_of_eq hO6.1.symm; have hy6 := Nat.le_of_eq hO6.1; replace V4 := vblk_only V4 hO6 (by omega); replace hB := hB.trans (hO6.2.2 _ (by omega)); have rv : RV w6 w.heap.size _ b6 (.slice a3 n3 k3) (r.N.zip r.U) r.A := ⟨o.only hO6 V6 (by decide), X6⟩; clear o V6 X6; obtain ⟨f0, f1⟩ := cells2 rv.v) | (clear m7; go_at_call 150; refine (placeOf_any _ _ _ _ b6 _ _ _ rv).mono ?_; rintro er w7 ⟨rfl, hB7⟩; rw [hp.out]; have hz7 := hB7.size; replace V4 := vblk_grow V4 hB7; replace rv := rv.grow hB7; replace hB := hB.trans (hB7.mono (by omega)); clear f0 f1; obtain ⟨f0, f1⟩ := cells2 rv.v) | (go_at_call 179; refine (use_any i _ _ _ b6 _ _ _ rv hil).mono ?_; rintro er w10 ⟨⟨u10, rfl⟩, rv10, hT10⟩; rw [hjn.out] at rv10; clear rv; have rv := rv10; clear rv10; have hz10 := hT10.size; replace V4 := hT10.vblk V4 (by omega) (by decide); replace hB := hB.trans (hT10.below (Nat.le_refl _) (by omega)); clear f0 f1; obtain ⟨f0, f1⟩ := cells2 rv.v) | (go_at_call 128; refine (ringOf_any ⟨r.N, r.U.set i true, r.A⟩ _ _ rv.o.rd hju.out (show r.N.length ≤ 1000000 by omega)).mono ?_; rintro er w8 ⟨vN8, vU8, rfl, oR, hB8⟩; have hz8 := hB8.size; replace V4 := vblk_grow V4 hB8; replace oR := oR.wide (lo' := w.heap.size) (by omega) (Nat.le_refl _); replace hB := hB.trans (hB8.mono (by omega)); obtain ⟨aN, nN, kN, rfl⟩ := oR.n.slice; obtain ⟨aU, nU, kU, rfl⟩ := oR.u.slice) | (clear m9; refine wpList_store_v rfl 33 _ _ rfl b4 [.slice aN nN kN, .slice aU nU kU, .int .i64 r.A] rfl rfl sizeRg V4 rfl (by simp [Value.oneCell']) ?_; intro w9 hO9 V9; have o9 := oR.only hO9 V4 (by decide) (by decide); replace hB := hB.trans (hO9.2.2 _ (by omega))) | (fail))
      exact row_retv rfl rfl V9 Try.underlying33 sizeRg rfl ⟨_, _, rfl, o9.top, hB⟩
  · have e1 : usR r s = Rg.zero := if_neg hok
    rw [e1]
    have HK : Hid (ringB r = false) := ringB_not hok
    clear hok e1
    have m1 : Hid True := trivial
    have m2 : Hid True := trivial
    have m3 : Hid True := trivial
    have m4 : Hid True := trivial
    have m5 : Hid True := trivial
    have m6 : Hid True := trivial
    have m7 : Hid True := trivial
    have m8 : Hid True := trivial
    have m9 : Hid True := trivial
    go_enter Try.func146, Try.ntmps146
    go_wp2_with (first | (clear m1; refine wpList_box_v rfl 33 _ rfl [.slice a r.N.length cap, .slice c r.U.length dc, .int .i64 r.A] rfl ?_; intro b2 w1 hb2 hw2 hB1 V2; have hz1 := hB1.size) | (clear m2; refine wpList_alloc_v rfl 33 rfl _ zeroRg ?_; intro b4 w2 hb4 hw4 hB2 V4; have hz2 := hB2.size; replace V2 := vblk_grow V2 hB2; have hB := hB1.trans (hB2.mono hz1); obtain ⟨c0, c1, c2⟩ := cells3 V2) | (clear m3; go_at_call 125; refine (roundOf_any r _ _ _ (R.out.grow hB)).mono ?_; rintro er w3 ⟨a3, n3, k3, A3, rfl, md⟩; rw [HK.out] at md ⊢; have hB3 := md.low; have hz3 := hB3.size; replace V4 := vblk_grow V4 hB3; replace hB := hB.trans (hB3.mono (by omega))) | (clear m4; refine wpList_alloc_v rfl 144 rfl _ zeroRd ?_; intro b6 w5 hb6 hw6 hB5 V6; have hz5 := hB5.size; replace V4 := vblk_grow V4 hB5; replace hB := hB.trans (hB5.mono (by omega))) | (clear m5; refine wpList_store_v rfl 144 _ _ rfl b6 [.slice a3 n3 k3, .int .i64 A3] rfl rfl sizeRd V6 rfl (by simp [Value.oneCell']) ?_; intro w6 hO6 X6; have hz6 := Nat.le_of_eq hO6.1.symm; have hy6 := Nat.le_of_eq hO6.1; replace V4 := vblk_only V4 hO6 (by omega); replace hB := hB.trans (hO6.2.2 _ (by omega))) | (clear m9; refine wpList_store_v rfl 33 _ _ rfl b4 [.slice none 0 0, .slice none 0 0, .int .i64 0] rfl rfl sizeRg V4 rfl (by simp [Value.oneCell']) ?_; intro w9 hO9 V9; replace hB := hB.trans (hO9.2.2 _ (by omega))) | (fail))
    exact row_retv rfl rfl V9 Try.underlying33 sizeRg rfl ⟨_, _, rfl, ownR_zero _ _ _, hB⟩

set_option maxRecDepth 100000 in
set_option maxHeartbeats 2000000 in
theorem implLeaves_all (r : Rg) (s : ByteArray) (vN vU : Value) (w : World) (h : RdR w vN vU r) :
    Calls Try.prog 87 #[.agg #[vN, vU, .int .i64 r.A], .string s] w fun e w' => ∃ vN' vU', e = .returned (.tuple #[.agg #[vN', vU', .int .i64 (lvR r s).A], .bool (lvB r s)]) ∧ OwnR w' w.heap.size w'.heap.size vN' vU' (lvR r s) ∧ Below w.heap.size w w' := by
  obtain ⟨a, cap, rfl⟩ := h.n.form
  obtain ⟨c, dc, rfl⟩ := h.u.form
  have R : Hid (RdR w (.slice a r.N.length cap) (.slice c r.U.length dc) r) := h
  clear h
  by_cases hok : ringB r = true
  · have e1 : lvR r s = if 0 ≤ posS s r.N then left r (posS s r.N).toNat else r := if_pos hok
    have e2 : lvB r s = decide (0 ≤ posS s r.N) := by unfold lvB; rw [hok]; rfl
    rw [e1, e2]
    clear e1 e2
    have HK : Hid (ringB r = true) := hok
    have OK : Hid (ROk r) := ringB_iff.1 hok
    have hle := OK.out.le
    have hus : Hid (r.U.length = r.N.length) := OK.out.us
    have hzl : Hid ((r.N.zip r.U).length = r.N.length) := zip_len OK.out.us
    clear hok
    obtain ⟨p, hp0⟩ := hid_ex (posS s r.N)
    have hp : Hid (posS s ((r.N.zip r.U).map (·.1)) = p) := by unfold Hid; rw [zip_fst OK.out.us]; exact hp0.out
    have hpb := posS_bd s r.N
    rw [hp0.out] at hpb ⊢
    clear hp0
    by_cases hpe : p = -1
    · rw [if_neg (by omega), decide_eq_false (by omega)]
      have hpb2 : (p == -1) = true := by simpa using hpe
      clear hpe
      have m1 : Hid True := trivial
      have m2 : Hid True := trivial
      have m3 : Hid True := trivial
      have m4 : Hid True := trivial
      have m5 : Hid True := trivial
      have m6 : Hid True := trivial
      have m7 : Hid True := trivial
      have m8 : Hid True := trivial
      have m9 : Hid True := trivial
      go_enter Try.func87, Try.ntmps87
      go_wp2_with (first | (clear m1; refine wpList_box_v rfl 33 _ rfl [.slice a r.N.length cap, .slice c r.U.length dc, .int .i64 r.A] rfl ?_; intro b2 w1 hb2 hw2 hB1 V2; have hz1 := hB1.size) | (clear m2; refine wpList_alloc_v rfl 33 rfl _ zeroRg ?_; intro b4 w2 hb4 hw4 hB2 V4; have hz2 := hB2.size; replace V2 := vblk_grow V2 hB2; have hB := hB1.trans (hB2.mono hz1); obtain ⟨c0, c1, c2⟩ := cells3 V2) | (clear m3; go_at_call 125; refine (roundOf_any r _ _ _ (R.out.grow hB)).mono ?_; rintro er w3 ⟨a3, n3, k3, A3, rfl, md⟩; rw [HK.out] at md ⊢; have hB3 := md.low; have hz3 := hB3.size; replace V4 := vblk_grow V4 hB3; replace hB := hB.trans (hB3.mono (by omega)); obtain ⟨o, hA3⟩ := md.own rfl; subst hA3; replace o := o.wide (lo' := w.heap.size) (by omega) (Nat.le_refl _)) | (clear m4; refine wpList_alloc_v rfl 144 rfl _ zeroRd ?_; intro b6 w5 hb6 hw6 hB5 V6; have hz5 := hB5.size; replace V4 := vblk_grow V4 hB5; replace o := o.grow hB5; replace hB := hB.trans (hB5.mono (by omega))) | (clear m5; refine wpList_store_v rfl 144 _ _ rfl b6 [.slice a3 n3 k3, .int .i64 r.A] rfl rfl sizeRd V6 rfl (by simp [Value.oneCell']) ?_; intro w6 hO6 X6; have hz6 := Nat.le_of_eq hO6.1.symm; have hy6 := Nat.le_of_eq hO6.1; replace V4 := vblk_only V4 hO6 (by omega); replace hB := hB.trans (hO6.2.2 _ (by omega)); have rv : RV w6 w.heap.size _ b6 (.slice a3 n3 k3) (r.N.zip r.U) r.A := ⟨o.only hO6 V6 (by decide), X6⟩; clear o V6 X6; obtain ⟨f0, f1⟩ := cells2 rv.v) | (clear m7; go_at_call 150; refine (placeOf_any _ _ _ _ b6 _ _ _ rv).mono ?_; rintro er w7 ⟨rfl, hB7⟩; rw [hp.out]; have hz7 := hB7.size; replace V4 := vblk_grow V4 hB7; replace rv := rv.grow hB7; replace hB := hB.trans (hB7.mono (by omega)); clear f0 f1; obtain ⟨f0, f1⟩ := cells2 rv.v) | (go_at_call 128; refine (ringOf_any r _ _ rv.o.rd hus.out (by omega)).mono ?_; rintro er w8 ⟨vN8, vU8, rfl, oR, hB8⟩; have hz8 := hB8.size; replace V4 := vblk_grow V4 hB8; replace oR := oR.wide (lo' := w.heap.size) (by omega) (Nat.le_refl _); replace hB := hB.trans (hB8.mono (by omega)); obtain ⟨aN, nN, kN, rfl⟩ := oR.n.slice; obtain ⟨aU, nU, kU, rfl⟩ := oR.u.slice) | (clear m9; refine wpList_store_v rfl 33 _ _ rfl b4 [.slice aN nN kN, .slice aU nU kU, .int .i64 r.A] rfl rfl sizeRg V4 rfl (by simp [Value.oneCell']) ?_; intro w9 hO9 V9; have o9 := oR.only hO9 V4 (by decide) (by decide); replace hB := hB.trans (hO9.2.2 _ (by omega))) | (fail))
      exact row_ct rfl rfl rfl V9 Try.underlying33 sizeRg rfl ⟨_, _, rfl, o9.top, hB⟩
    · have hpb2 : (p == -1) = false := by simpa using hpe
      rw [if_pos (by omega), decide_eq_true (by omega)]
      obtain ⟨i, rfl⟩ : ∃ i : Nat, p = i := ⟨p.toNat, by omega⟩
      rw [Int.toNat_natCast]
      have hil : i < (r.N.zip r.U).length := by have := hzl.out; omega
      have hjn : Hid ((r.N.zip r.U).take i ++ (r.N.zip r.U).drop (i + 1) = (left r i).N.zip (left r i).U) := zip_cut OK.out.us i
      have hju : Hid ((left r i).U.length = (left r i).N.length) := left_us OK.out.us i
      have hjl : (left r i).N.length ≤ 1000000 := by have := (left_len r i).1; omega
      have hjA : Hid ((if handA r.A i < ((r.N.zip r.U).length : Int) - 1 then handA r.A i else 0) = (left r i).A) := by unfold Hid; rw [hzl.out]; rfl
      have hA0 : Hid (0 ≤ r.A) := OK.out.a0
      have hA1 : Hid (r.A < (r.N.zip r.U).length) := by have := OK.out.a1; unfold Hid; rw [hzl.out]; omega
      obtain ⟨J, hJ⟩ := hid_ex (left r i)
      rw [hJ.out] at hjn hju hjl hjA ⊢
      clear hpe
      have m1 : Hid True := trivial
      have m2 : Hid True := trivial
      have m3 : Hid True := trivial
      have m4 : Hid True := trivial
      have m5 : Hid True := trivial
      have m6 : Hid True := trivial
      have m7 : Hid True := trivial
      have m8 : Hid True := trivial
      have m9 : Hid True := trivial
      go_enter Try.func87, Try.ntmps87
      go_wp2_with (first | (clear m1; refine wpList_box_v rfl 33 _ rfl [.slice a r.N.length cap, .slice c r.U.length dc, .int .i64 r.A] rfl ?_; intro b2 w1 hb2 hw2 hB1 V2; have hz1 := hB1.size) | (clear m2; refine wpList_alloc_v rfl 33 rfl _ zeroRg ?_; intro b4 w2 hb4 hw4 hB2 V4; have hz2 := hB2.size; replace V2 := vblk_grow V2 hB2; have hB := hB1.trans (hB2.mono hz1); obtain ⟨c0, c1, c2⟩ := cells3 V2) | (clear m3; go_at_call 125; refine (roundOf_any r _ _ _ (R.out.grow hB)).mono ?_; rintro er w3 ⟨a3, n3, k3, A3, rfl, md⟩; rw [HK.out] at md ⊢; have hB3 := md.low; have hz3 := hB3.size; replace V4 := vblk_grow V4 hB3; replace hB := hB.trans (hB3.mono (by omega)); obtain ⟨o, hA3⟩ := md.own rfl; subst hA3; replace o := o.wide (lo' := w.heap.size) (by omega) (Nat.le_refl _)) | (clear m4; refine wpList_alloc_v rfl 144 rfl _ zeroRd ?_; intro b6 w5 hb6 hw6 hB5 V6; have hz5 := hB5.size; replace V4 := vblk_grow V4 hB5; replace o := o.grow hB5; replace hB := hB.trans (hB5.mono (by omega))) | (clear m5; refine wpList_store_v rfl 144 _ _ rfl b6 [.slice a3 n3 k3, .int .i64 r.A] rfl rfl sizeRd V6 rfl (by simp [Value.oneCell']) ?_; intro w6 hO6 X6; have hz6 := Nat.le_of_eq hO6.1.symm; have hy6 := Nat.le_of_eq hO6.1; replace V4 := vblk_only V4 hO6 (by omega); replace hB := hB.trans (hO6.2.2 _ (by omega)); have rv : RV w6 w.heap.size _ b6 (.slice a3 n3 k3) (r.N.zip r.U) r.A := ⟨o.only hO6 V6 (by decide), X6⟩; clear o V6 X6; obtain ⟨f0, f1⟩ := cells2 rv.v) | (clear m7; go_at_call 150; refine (placeOf_any _ _ _ _ b6 _ _ _ rv).mono ?_; rintro er w7 ⟨rfl, hB7⟩; rw [hp.out]; have hz7 := hB7.size; replace V4 := vblk_grow V4 hB7; replace rv := rv.grow hB7; replace hB := hB.trans (hB7.mono (by omega)); clear f0 f1; obtain ⟨f0, f1⟩ := cells2 rv.v) | (go_at_call 151; refine (leave_any i _ _ _ b6 _ _ _ rv hil (by have := hzl.out; omega) hA0.out hA1.out).mono ?_; rintro er w10 ⟨⟨u10, rfl⟩, ⟨sv10, rv10⟩, hT10⟩; rw [hjn.out, hjA.out] at rv10; clear rv; have rv := rv10; clear rv10; obtain ⟨a10, n10, k10, rfl⟩ := rv.o.slice; have hz10 := hT10.size; replace V4 := hT10.vblk V4 (by omega) (by decide); replace hB := hB.trans (hT10.below (Nat.le_refl _) (by omega)); clear f0 f1; obtain ⟨f0, f1⟩ := cells2 rv.v) | (go_at_call 128; refine (ringOf_any J _ _ rv.o.rd hju.out hjl).mono ?_; rintro er w8 ⟨vN8, vU8, rfl, oR, hB8⟩; have hz8 := hB8.size; replace V4 := vblk_grow V4 hB8; replace oR := oR.wide (lo' := w.heap.size) (by omega) (Nat.le_refl _); replace hB := hB.trans (hB8.mono (by omega)); obtain ⟨aN, nN, kN, rfl⟩ := oR.n.slice; obtain ⟨aU, nU, kU, rfl⟩ := oR.u.slice) | (clear m9; refine wpList_store_v rfl 33 _ _ rfl b4 [.slice aN nN kN, .slice aU nU kU, .int .i64 J.A] rfl rfl sizeRg V4 rfl (by simp [Value.oneCell']) ?_; intro w9 hO9 V9; have o9 := oR.only hO9 V4 (by decide) (by decide); replace hB := hB.trans (hO9.2.2 _ (by omega))) | (fail))
      exact row_ct rfl rfl rfl V9 Try.underlying33 sizeRg rfl ⟨_, _, rfl, o9.top, hB⟩
  · have e1 : lvR r s = Rg.zero := if_neg hok
    have e2 : lvB r s = false := by unfold lvB; rw [ringB_not hok]; rfl
    rw [e1, e2]
    have HK : Hid (ringB r = false) := ringB_not hok
    clear hok e1 e2
    have m1 : Hid True := trivial
    have m2 : Hid True := trivial
    have m3 : Hid True := trivial
    have m4 : Hid True := trivial
    have m5 : Hid True := trivial
    have m6 : Hid True := trivial
    have m7 : Hid True := trivial
    have m8 : Hid True := trivial
    have m9 : Hid True := trivial
    go_enter Try.func87, Try.ntmps87
    go_wp2_with (first | (clear m1; refine wpList_box_v rfl 33 _ rfl [.slice a r.N.length cap, .slice c r.U.length dc, .int .i64 r.A] rfl ?_; intro b2 w1 hb2 hw2 hB1 V2; have hz1 := hB1.size) | (clear m2; refine wpList_alloc_v rfl 33 rfl _ zeroRg ?_; intro b4 w2 hb4 hw4 hB2 V4; have hz2 := hB2.size; replace V2 := vblk_grow V2 hB2; have hB := hB1.trans (hB2.mono hz1); obtain ⟨c0, c1, c2⟩ := cells3 V2) | (clear m3; go_at_call 125; refine (roundOf_any r _ _ _ (R.out.grow hB)).mono ?_; rintro er w3 ⟨a3, n3, k3, A3, rfl, md⟩; rw [HK.out] at md ⊢; have hB3 := md.low; have hz3 := hB3.size; replace V4 := vblk_grow V4 hB3; replace hB := hB.trans (hB3.mono (by omega))) | (clear m4; refine wpList_alloc_v rfl 144 rfl _ zeroRd ?_; intro b6 w5 hb6 hw6 hB5 V6; have hz5 := hB5.size; replace V4 := vblk_grow V4 hB5; replace hB := hB.trans (hB5.mono (by omega))) | (clear m5; refine wpList_store_v rfl 144 _ _ rfl b6 [.slice a3 n3 k3, .int .i64 A3] rfl rfl sizeRd V6 rfl (by simp [Value.oneCell']) ?_; intro w6 hO6 X6; have hz6 := Nat.le_of_eq hO6.1.symm; have hy6 := Nat.le_of_eq hO6.1; replace V4 := vblk_only V4 hO6 (by omega); replace hB := hB.trans (hO6.2.2 _ (by omega))) | (clear m9; refine wpList_store_v rfl 33 _ _ rfl b4 [.slice none 0 0, .slice none 0 0, .int .i64 0] rfl rfl sizeRg V4 rfl (by simp [Value.oneCell']) ?_; intro w9 hO9 V9; replace hB := hB.trans (hO9.2.2 _ (by omega))) | (fail))
    exact row_ct rfl rfl rfl V9 Try.underlying33 sizeRg rfl ⟨_, _, rfl, ownR_zero _ _ _, hB⟩

set_option maxRecDepth 100000 in
set_option maxHeartbeats 2000000 in
theorem implTurns_all (r : Rg) (vN vU : Value) (w : World) (h : RdR w vN vU r) :
    Calls Try.prog 156 #[.agg #[vN, vU, .int .i64 r.A]] w fun e w' => ∃ vN' vU', e = .returned (.tuple #[.agg #[vN', vU', .int .i64 (tuR r).A], .string (tuS r)]) ∧ OwnR w' w.heap.size w'.heap.size vN' vU' (tuR r) ∧ Below w.heap.size w w' := by
  obtain ⟨a, cap, rfl⟩ := h.n.form
  obtain ⟨c, dc, rfl⟩ := h.u.form
  have R : Hid (RdR w (.slice a r.N.length cap) (.slice c r.U.length dc) r) := h
  clear h
  by_cases hok : ringB r = true
  · have e1 : tuR r = if r.N.length = 0 then r else ⟨r.N, (turned r).1, ((turned r).2 : Int)⟩ := if_pos hok
    have e2 : tuS r = if r.N.length = 0 then ⟨#[]⟩ else (r.N[(turned r).2]?).getD ⟨#[]⟩ := if_pos hok
    rw [e1, e2]
    clear e1 e2
    have HK : Hid (ringB r = true) := hok
    have OK : Hid (ROk r) := ringB_iff.1 hok
    have hle := OK.out.le
    have hus : Hid (r.U.length = r.N.length) := OK.out.us
    have hzl : Hid ((r.N.zip r.U).length = r.N.length) := zip_len OK.out.us
    clear hok
    by_cases hn : r.N.length = 0
    · rw [if_pos hn, if_pos hn]
      have hnb : ((r.N.length : Int) == 0) = true := by rw [hn]; rfl
      clear hn
      have m1 : Hid True := trivial
      have m2 : Hid True := trivial
      have m3 : Hid True := trivial
      have m4 : Hid True := trivial
      have m5 : Hid True := trivial
      have m6 : Hid True := trivial
      have m7 : Hid True := trivial
      have m8 : Hid True := trivial
      have m9 : Hid True := trivial
      go_enter Try.func156, Try.ntmps156
      go_wp2_with (first | (clear m1; refine wpList_box_v rfl 33 _ rfl [.slice a r.N.length cap, .slice c r.U.length dc, .int .i64 r.A] rfl ?_; intro b2 w1 hb2 hw2 hB1 V2; have hz1 := hB1.size) | (clear m2; refine wpList_alloc_v rfl 33 rfl _ zeroRg ?_; intro b4 w2 hb4 hw4 hB2 V4; have hz2 := hB2.size; replace V2 := vblk_grow V2 hB2; have hB := hB1.trans (hB2.mono hz1); obtain ⟨c0, c1, c2⟩ := cells3 V2) | (clear m3; go_at_call 125; refine (roundOf_any r _ _ _ (R.out.grow hB)).mono ?_; rintro er w3 ⟨a3, n3, k3, A3, rfl, md⟩; rw [HK.out] at md ⊢; have hB3 := md.low; have hz3 := hB3.size; replace V4 := vblk_grow V4 hB3; replace hB := hB.trans (hB3.mono (by omega)); obtain ⟨o, hA3⟩ := md.own rfl; subst hA3; replace o := o.wide (lo' := w.heap.size) (by omega) (Nat.le_refl _)) | (clear m4; refine wpList_alloc_v rfl 144 rfl _ zeroRd ?_; intro b6 w5 hb6 hw6 hB5 V6; have hz5 := hB5.size; replace V4 := vblk_grow V4 hB5; replace o := o.grow hB5; replace hB := hB.trans (hB5.mono (by omega))) | (clear m5; refine wpList_store_v rfl 144 _ _ rfl b6 [.slice a3 n3 k3, .int .i64 r.A] rfl rfl sizeRd V6 rfl (by simp [Value.oneCell']) ?_; intro w6 hO6 X6; have hz6 := Nat.le_of_eq hO6.1.symm; have hy6 := Nat.le_of_eq hO6.1; replace V4 := vblk_only V4 hO6 (by omega); replace hB := hB.trans (hO6.2.2 _ (by omega)); have rv : RV w6 w.heap.size _ b6 (.slice a3 n3 k3) (r.N.zip r.U) r.A := ⟨o.only hO6 V6 (by decide), X6⟩; clear o V6 X6; obtain ⟨f0, f1⟩ := cells2 rv.v) | (clear m8; go_at_call 188; refine (many_any _ _ _ b6 _ _ _ rv).mono ?_; rintro er wq ⟨rfl, hq⟩; subst wq; rw [hzl.out]) | (go_at_call 128; refine (ringOf_any r _ _ rv.o.rd hus.out (by omega)).mono ?_; rintro er w8 ⟨vN8, vU8, rfl, oR, hB8⟩; have hz8 := hB8.size; replace V4 := vblk_grow V4 hB8; replace oR := oR.wide (lo' := w.heap.size) (by omega) (Nat.le_refl _); replace hB := hB.trans (hB8.mono (by omega)); obtain ⟨aN, nN, kN, rfl⟩ := oR.n.slice; obtain ⟨aU, nU, kU, rfl⟩ := oR.u.slice) | (clear m9; refine wpList_store_v rfl 33 _ _ rfl b4 [.slice aN nN kN, .slice aU nU kU, .int .i64 r.A] rfl rfl sizeRg V4 rfl (by simp [Value.oneCell']) ?_; intro w9 hO9 V9; have o9 := oR.only hO9 V4 (by decide) (by decide); replace hB := hB.trans (hO9.2.2 _ (by omega))) | (fail))
      exact row_ct rfl rfl rfl V9 Try.underlying33 sizeRg rfl ⟨_, _, rfl, o9.top, hB⟩
    · rw [if_neg hn, if_neg hn]
      have hnb : ((r.N.length : Int) == 0) = false := by rw [beq_eq_false_iff_ne]; omega
      have hn1 : 1 ≤ r.N.length := by omega
      have hA0 : Hid (0 ≤ r.A) := OK.out.a0
      have hA1 : Hid (r.A < r.N.length) := by have := OK.out.a1; unfold Hid; omega
      have hju : (turned r).1.length = r.N.length := by unfold turned; rw [turn_len]; exact OK.out.us
      obtain ⟨T, hT⟩ := hid_ex (turned r)
      rw [hT.out] at hju ⊢
      obtain ⟨S, hS⟩ := hid_ex ((r.N[T.2]?).getD ⟨#[]⟩)
      rw [hS.out]
      have HJ : Hid (T.1.length = r.N.length) := hju
      clear hn hju
      have m1 : Hid True := trivial
      have m2 : Hid True := trivial
      have m3 : Hid True := trivial
      have m4 : Hid True := trivial
      have m5 : Hid True := trivial
      have m6 : Hid True := trivial
      have m7 : Hid True := trivial
      have m8 : Hid True := trivial
      have m9 : Hid True := trivial
      go_enter Try.func156, Try.ntmps156
      go_wp2_with (first | (clear m1; refine wpList_box_v rfl 33 _ rfl [.slice a r.N.length cap, .slice c r.U.length dc, .int .i64 r.A] rfl ?_; intro b2 w1 hb2 hw2 hB1 V2; have hz1 := hB1.size) | (clear m2; refine wpList_alloc_v rfl 33 rfl _ zeroRg ?_; intro b4 w2 hb4 hw4 hB2 V4; have hz2 := hB2.size; replace V2 := vblk_grow V2 hB2; have hB := hB1.trans (hB2.mono hz1); obtain ⟨c0, c1, c2⟩ := cells3 V2) | (clear m3; go_at_call 125; refine (roundOf_any r _ _ _ (R.out.grow hB)).mono ?_; rintro er w3 ⟨a3, n3, k3, A3, rfl, md⟩; rw [HK.out] at md ⊢; have hB3 := md.low; have hz3 := hB3.size; replace V4 := vblk_grow V4 hB3; replace hB := hB.trans (hB3.mono (by omega)); obtain ⟨o, hA3⟩ := md.own rfl; subst hA3; replace o := o.wide (lo' := w.heap.size) (by omega) (Nat.le_refl _)) | (clear m4; refine wpList_alloc_v rfl 144 rfl _ zeroRd ?_; intro b6 w5 hb6 hw6 hB5 V6; have hz5 := hB5.size; replace V4 := vblk_grow V4 hB5; replace o := o.grow hB5; replace hB := hB.trans (hB5.mono (by omega))) | (clear m5; refine wpList_store_v rfl 144 _ _ rfl b6 [.slice a3 n3 k3, .int .i64 r.A] rfl rfl sizeRd V6 rfl (by simp [Value.oneCell']) ?_; intro w6 hO6 X6; have hz6 := Nat.le_of_eq hO6.1.symm; have hy6 := Nat.le_of_eq hO6.1; replace V4 := vblk_only V4 hO6 (by omega); replace hB := hB.trans (hO6.2.2 _ (by omega)); have rv : RV w6 w.heap.size _ b6 (.slice a3 n3 k3) (r.N.zip r.U) r.A := ⟨o.only hO6 V6 (by decide), X6⟩; clear o V6 X6; obtain ⟨f0, f1⟩ := cells2 rv.v) | (clear m8; go_at_call 188; refine (many_any _ _ _ b6 _ _ _ rv).mono ?_; rintro er wq ⟨rfl, hq⟩; subst wq; rw [hzl.out]) | (go_at_call 191; refine (turn_any r _ b6 _ _ _ rv (by omega) hn1 (by omega) hus.out hA0.out hA1.out).mono ?_; rintro er w10 ⟨rfl, t10⟩; rw [hT.out] at t10 ⊢; rw [hS.out]; clear rv; have rv := t10.r; have hT10 := t10.t; have hz10 := hT10.size; replace V4 := hT10.vblk V4 (by omega) (by decide); replace hB := hB.trans (hT10.below (Nat.le_refl _) (by omega)); clear f0 f1; obtain ⟨f0, f1⟩ := cells2 rv.v) | (go_at_call 128; refine (ringOf_any ⟨r.N, T.1, (T.2 : Int)⟩ _ _ rv.o.rd HJ.out (show r.N.length ≤ 1000000 by omega)).mono ?_; rintro er w8 ⟨vN8, vU8, rfl, oR, hB8⟩; have hz8 := hB8.size; replace V4 := vblk_grow V4 hB8; replace oR := oR.wide (lo' := w.heap.size) (by omega) (Nat.le_refl _); replace hB := hB.trans (hB8.mono (by omega)); obtain ⟨aN, nN, kN, rfl⟩ := oR.n.slice; obtain ⟨aU, nU, kU, rfl⟩ := oR.u.slice) | (clear m9; refine wpList_store_v rfl 33 _ _ rfl b4 [.slice aN nN kN, .slice aU nU kU, .int .i64 (T.2 : Int)] rfl rfl sizeRg V4 rfl (by simp [Value.oneCell']) ?_; intro w9 hO9 V9; have o9 := oR.only hO9 V4 (by decide) (by decide); replace hB := hB.trans (hO9.2.2 _ (by omega))) | (fail))
      exact row_ct rfl rfl rfl V9 Try.underlying33 sizeRg rfl ⟨_, _, rfl, o9.top, hB⟩
  · have e1 : tuR r = Rg.zero := if_neg hok
    have e2 : tuS r = ⟨#[]⟩ := if_neg hok
    rw [e1, e2]
    have HK : Hid (ringB r = false) := ringB_not hok
    clear hok e1 e2
    have m1 : Hid True := trivial
    have m2 : Hid True := trivial
    have m3 : Hid True := trivial
    have m4 : Hid True := trivial
    have m5 : Hid True := trivial
    have m6 : Hid True := trivial
    have m7 : Hid True := trivial
    have m8 : Hid True := trivial
    have m9 : Hid True := trivial
    go_enter Try.func156, Try.ntmps156
    go_wp2_with (first | (clear m1; refine wpList_box_v rfl 33 _ rfl [.slice a r.N.length cap, .slice c r.U.length dc, .int .i64 r.A] rfl ?_; intro b2 w1 hb2 hw2 hB1 V2; have hz1 := hB1.size) | (clear m2; refine wpList_alloc_v rfl 33 rfl _ zeroRg ?_; intro b4 w2 hb4 hw4 hB2 V4; have hz2 := hB2.size; replace V2 := vblk_grow V2 hB2; have hB := hB1.trans (hB2.mono hz1); obtain ⟨c0, c1, c2⟩ := cells3 V2) | (clear m3; go_at_call 125; refine (roundOf_any r _ _ _ (R.out.grow hB)).mono ?_; rintro er w3 ⟨a3, n3, k3, A3, rfl, md⟩; rw [HK.out] at md ⊢; have hB3 := md.low; have hz3 := hB3.size; replace V4 := vblk_grow V4 hB3; replace hB := hB.trans (hB3.mono (by omega))) | (clear m4; refine wpList_alloc_v rfl 144 rfl _ zeroRd ?_; intro b6 w5 hb6 hw6 hB5 V6; have hz5 := hB5.size; replace V4 := vblk_grow V4 hB5; replace hB := hB.trans (hB5.mono (by omega))) | (clear m5; refine wpList_store_v rfl 144 _ _ rfl b6 [.slice a3 n3 k3, .int .i64 A3] rfl rfl sizeRd V6 rfl (by simp [Value.oneCell']) ?_; intro w6 hO6 X6; have hz6 := Nat.le_of_eq hO6.1.symm; have hy6 := Nat.le_of_eq hO6.1; replace V4 := vblk_only V4 hO6 (by omega); replace hB := hB.trans (hO6.2.2 _ (by omega))) | (clear m9; refine wpList_store_v rfl 33 _ _ rfl b4 [.slice none 0 0, .slice none 0 0, .int .i64 0] rfl rfl sizeRg V4 rfl (by simp [Value.oneCell']) ?_; intro w9 hO9 V9; replace hB := hB.trans (hO9.2.2 _ (by omega))) | (fail))
    exact row_ct rfl rfl rfl V9 Try.underlying33 sizeRg rfl ⟨_, _, rfl, ownR_zero _ _ _, hB⟩
end Go.Proofs.Ytapchjkiiifhdaa.rg
/- How long the answers' rings are. -/
namespace Go.Proofs.Ytapchjkiiifhdaa.rg
open Go.RowKit
set_option linter.unusedVariables false

def Small (r : Rg) : Prop := r.N.length ≤ 1048576 ∧ r.U.length ≤ 1048576
theorem zero_len : Small Rg.zero := ⟨by simp [Rg.zero], by simp [Rg.zero]⟩
theorem rok_len {r : Rg} (h : ROk r) : Small r := ⟨by have := h.le; omega, by have := h.le; have := h.us; omega⟩
theorem jnR_len (r : Rg) (s : ByteArray) : Small (jnR r s) := by
  unfold jnR
  split
  · next h =>
    have k := ringB_iff.1 h
    have h1 := k.le
    have h2 := k.us
    split
    · exact ⟨by unfold joined; simp; omega, by unfold joined; simp; omega⟩
    · exact rok_len k
  · exact zero_len
theorem usR_len (r : Rg) (s : ByteArray) : Small (usR r s) := by
  unfold usR
  split
  · next h =>
    have := ringB_iff.1 h
    unfold used
    split
    · exact ⟨(rok_len this).1, by rw [List.length_set]; exact (rok_len this).2⟩
    · exact rok_len this
  · exact zero_len
theorem lvR_len (r : Rg) (s : ByteArray) : Small (lvR r s) := by
  unfold lvR
  split
  · next h =>
    have := rok_len (ringB_iff.1 h)
    split
    · have hl := left_len r (posS s r.N).toNat
      exact ⟨Nat.le_trans hl.1 this.1, Nat.le_trans hl.2 this.2⟩
    · exact this
  · exact zero_len
theorem tuR_len (r : Rg) : Small (tuR r) := by
  unfold tuR
  split
  · next h =>
    have := rok_len (ringB_iff.1 h)
    split
    · exact this
    · exact ⟨this.1, by unfold turned; rw [turn_len]; exact this.2⟩
  · exact zero_len
end Go.Proofs.Ytapchjkiiifhdaa.rg
/- A list of texts among the arguments. -/
namespace Go.Proofs.Ytapchjkiiifhdaa.rg
open Go.ChangeShapes Go.WideShapes Go.ChangeAt Go.RowKit
open Go.Deep Go.Joins
open Go.Proofs.Ytapchjkiiifhdaa.ce Go.Proofs.Ytapchjkiiifhdaa.ro
set_option linter.unusedVariables false

set_option maxRecDepth 100000 in
theorem open_texts {H : Type} {enc : TypeId × Value → H} {W : World} {r : Reach} {b0 : Nat} {v : Value} {d : DataW H} {p : List MemPlace} (hw : Value.okWide Try.prog W r b0 22 v) (h : DataW.Trod enc Try.prog W 0 (fun _ => true) true 22 v d p) :
    ∃ L, Rd encS W v L ∧ ∀ s ∈ L, s.size ≤ 9223372036854775807 := by
  obtain ⟨a, len, cap, rfl⟩ := okWide_slice Try.underlying22 hw
  obtain ⟨m, hm⟩ := h
  exact rdS_of_trod (n := m) (by simpa [Value.cells] using hm)
end Go.Proofs.Ytapchjkiiifhdaa.rg
/- Contracts of the model's l2Add and Added. -/
namespace Go.Proofs.Ytapchjkiiifhdaa.sk
open Go.ChangeShapes Go.WideShapes Go.ChangeAt Go.RowKit
set_option linter.unusedVariables false

set_option maxRecDepth 100000 in
theorem OwnAt.row {w : World} {lo hi bo : Nat} {B C : Nat → Nat} {R : List (List Int)} (h : OwnAt w lo hi bo B C R) (i : Nat) (hi' : i < R.length) (xs : List Int) (hx : R[i] = xs) :
    w.cell? ⟨bo, i, none⟩ = some (.slice (some ⟨B i, 0, none⟩) xs.length (C i)) ∧ lo ≤ B i ∧ B i < hi ∧ B i ≠ bo ∧ Row w (B i) xs := by
  subst hx
  obtain ⟨c1, c2, c3, c4, c5, c6⟩ := h.2.2.2 i hi'
  exact ⟨c1, c3, c4, c5, c6⟩
set_option maxRecDepth 100000 in
theorem raise_eq (xs : List Int) (p : Nat) (hp : p < xs.length) (hs : ∀ x ∈ xs, 0 ≤ x ∧ x ≤ 15) : raise xs p = xs.set p (min 15 (xs[p] + 1)) := by
  have e : xs.getD p 0 = xs[p] := by rw [List.getD_eq_getElem?_getD, List.getElem?_eq_getElem hp]; rfl
  unfold raise
  rw [e]
  apply List.ext_getElem (by simp)
  intro j h1 h2
  simp only [List.getElem_map, List.getElem_set]
  by_cases q : p = j
  · subst q
    have := hs _ (List.getElem_mem hp)
    simp only [if_true, bnd]; omega
  · have hj : j < xs.length := by simpa using h2
    have := hs _ (List.getElem_mem hj)
    simp only [q, if_false, bnd]; omega

/-- the sketch behind one more key -/
def plusR (R : List (List Int)) (adds : Int) (key : ByteArray) : List (List Int) := if adds = 159 then halfR (addR key R) else addR key R
def plusN (adds : Int) : Int := if adds = 159 then 0 else adds + 1

set_option maxRecDepth 100000 in
set_option maxHeartbeats 4000000 in
theorem l2Add_any (R : List (List Int)) (hR4 : Four R) (hsm : Small R) (adds : Int) (had : 0 ≤ adds ∧ adds ≤ 159) (key : ByteArray) (hk : key.size ≤ 1048576) (w : World) (L lo hi ps bo : Nat) (B C : Nat → Nat) (cap : Nat)
    (hps : VBlk w ps 34 [.slice (some ⟨bo, 0, none⟩) 4 cap, .int .i64 adds]) (hown : OwnAt w lo hi bo B C R) (hL : L ≤ ps) (hLlo : L ≤ lo) (hpn : ps < lo ∨ hi ≤ ps) :
    Calls Try.prog 138 #[.pointer (some ⟨ps, 0, none⟩), .string key] w fun e w' => ∃ v, e = .returned v ∧ VBlk w' ps 34 [.slice (some ⟨bo, 0, none⟩) 4 cap, .int .i64 (plusN adds)] ∧ OwnAt w' lo hi bo B C (plusR R adds key) ∧ Below L w w' := by
  obtain ⟨T, hT⟩ : ∃ T, Hid (T = addR key R) := ⟨_, rfl⟩
  have hT4 : Four T := by rw [hT.out]; exact addR_four hR4
  have hTs : Small T := by rw [hT.out]; exact addR_small key R
  have hbo := hown.1 (by intro e; have := hR4.1; rw [e] at this; simp at this)
  have hbnd := hown.2.1
  have npb : ps ≠ bo := by omega
  have hps0 := hps
  have hOwn0 : Hid (OwnAt w lo hi bo B C R) := hown
  clear hown hps
  have lps := hps0.lt
  go_enter Try.func138, Try.ntmps138
  go_wp2
  go_loopw [4] (fun v' wr => ∃ i : Nat, i ≤ 4 ∧ v' = .int .i64 i ∧ VBlk wr ps 34 [.slice (some ⟨bo, 0, none⟩) 4 cap, .int .i64 adds] ∧ Hid (OwnAt wr lo hi bo B C (mix T R i)) ∧ w.heap.size ≤ wr.heap.size ∧ Below L w wr) (fun v' _ => 4 - (intOf v').toNat)
  case atStart => exact ⟨0, by omega, rfl, hps0, by rw [mix_zero]; exact hOwn0, Nat.le_refl _, Below.refl _ _⟩
  case round =>
    obtain ⟨i, hi4, rfl, hvp, hown, hsz, hBr⟩ := hrel
    by_cases hlt : i < 4
    · have hiR : i < R.length := by rw [hR4.1]; exact hlt
      have hiT : i < T.length := by rw [hT4.1]; exact hlt
      have hTR : T.length = R.length := by rw [hT4.1, hR4.1]
      have hTR' : Hid (T.length = R.length) := hTR
      obtain ⟨xs, hxs⟩ : ∃ xs, R[i] = xs := ⟨_, rfl⟩
      have hx16 : xs.length = 16 := by rw [← hxs]; exact hR4.2 _ (List.getElem_mem hiR)
      have hxb : Hid (∀ x ∈ xs, 0 ≤ x ∧ x ≤ 15) := by unfold Hid; rw [← hxs]; exact hsm _ (List.getElem_mem hiR)
      have him : i < (mix T R i).length := by rw [mix_len T R i hTR]; exact hiR
      have hmi : Hid ((mix T R i)[i] = xs) := by unfold Hid; rw [mix_get T R i hTR hiR, hxs]
      clear hTR
      have hpb := place.placeOf_bd key i
      obtain ⟨p, hp⟩ : ∃ p : Nat, place.placeOf key i = p := ⟨(place.placeOf key i).toNat, by omega⟩
      have hp16 : p < 16 := by omega
      have hpi : (p : Int) < 16 := by omega
      have hP : Hid (place.placeOf key i = p) := hp
      clear hp hpb
      obtain ⟨z, hz⟩ : ∃ z, xs[p]'(by omega) = z := ⟨_, rfl⟩
      have hzb : 0 ≤ z ∧ z ≤ 15 := by rw [← hz]; exact hxb.out _ (List.getElem_mem _)
      have eT : Hid (T[i] = xs.set p (min 15 (z + 1))) := by
        have h1 : T[i] = raise R[i] (place.placeOf key i).toNat := by have := hT.out; subst this; simp [addR]
        rw [hxs, hP.out, Int.toNat_natCast, raise_eq xs p (by omega) hxb.out, hz] at h1
        exact h1
      have hZ : Hid (xs[p]'(by omega) = z) := hz
      have HX : Hid (R[i] = xs) := hxs
      clear hz hxs
      obtain ⟨y, hy⟩ : ∃ y, Hid (y = min 15 (z + 1)) := ⟨_, rfl⟩
      have hilt : (i : Int) < 4 := by omega
      go_wp2_with (first | (go_at_call 158; refine (place.spec_in key i (by omega) (by omega) hk _).mono ?_; rintro e w5 ⟨he, hO5⟩; rw [hP.out] at he; subst he; have hB5 := hO5.below; have hs5 := hB5.size; have hv5 := hvp.below hB5 hvp.lt; have hown5 : Hid (OwnAt w5 lo hi bo B C (mix T R i)) := hown.out.keep (Same.of_below hB5 (by omega)) hs5; obtain ⟨r1, r2, r3, r4, r5⟩ := hown5.out.row i him xs hmi.out; have hcz := r5.cell p (by omega); have hfz := r5.frozen p (by omega); rw [hZ.out] at hcz; rw [hx16] at r1; have hc0 := hv5.cell 0 (by simp); simp only [List.getElem_cons_zero] at hc0; have R5 : Hid (Row w5 (B i) xs) := r5; clear r5))
      have hBi : B i ≠ ps := by omega
      have hs1 : ∀ u, (w5.drew.setCell ⟨B i, p, none⟩ u).cell? ⟨ps, 0, none⟩ = some (.slice (some ⟨bo, 0, none⟩) 4 cap) := fun u => by
        rw [World.cell?_of_block (w := w5.drew) (heap_setCell_other _ _ _ _ (fun e => hBi e.symm))]; exact hc0
      have hs2 : ∀ u, (w5.drew.setCell ⟨B i, p, none⟩ u).cell? ⟨bo, i, none⟩ = some (.slice (some ⟨B i, 0, none⟩) 16 (C i)) := fun u => by
        rw [World.cell?_of_block (w := w5.drew) (heap_setCell_other _ _ _ _ (fun e => r4 e.symm))]; exact r1
      go_region_law (first | (go_simp; go_at_call 157; refine (min_any _ _ _).mono ?_; rintro e wq ⟨he, hq⟩; subst wq; rw [wrapI (z + 1) (by omega) (by omega), ← hy.out] at he; subst he; dsimp only) | (fail))
      all_goals
        go_wp2
        go_roundw
        case rel =>
          have o1 : OwnAt (w5.setCell ⟨B i, p, none⟩ (.int .i64 y)) lo hi bo B C ((mix T R i).set i (((mix T R i)[i]).set p y)) := hown5.out.set i him p (by rw [hmi.out]; omega) y
          rw [hmi.out, hy.out, ← eT.out, mix_set T R i hTR'.out hiT] at o1
          refine ⟨i + 1, by omega, by go_num, VBlk.of (w' := (w5.setCell ⟨B i, p, none⟩ (.int .i64 y)).drew) hv5 (heap_setCell_other _ _ _ _ (fun e => hBi e.symm)), ?_, ?_, ?_⟩
          · rw [hy.out]; exact OwnAt.keep (w' := (w5.setCell ⟨B i, p, none⟩ (.int .i64 (min 15 (z + 1)))).drew) o1 (fun _ _ _ => rfl) (Nat.le_refl _)
          · simp; omega
          · exact ((hBr.trans (hB5.mono (by omega))).setCell (by show L ≤ B i; omega) _).drew
        case measure => simp [intOf]; omega
    · have hmix : Hid (OwnAt wr lo hi bo B C T) := by unfold Hid; rw [← mix_all T R i (by rw [hT4.1]; omega) (by rw [hR4.1]; omega)]; exact hown.out
      clear hown
      have hc0 := hvp.cell 0 (by simp)
      have hc1 := hvp.cell 1 (by simp)
      have hf1 := hvp.frozen 1
      simp only [List.getElem_cons_zero, List.getElem_cons_succ] at hc0 hc1
      have hle := hmix.out.2.1
      by_cases h159 : adds = 159
      · have hN : Hid (plusN adds = 0) := by simp [Hid, plusN, h159]
        have hRR : Hid (plusR R adds key = halfR T) := by unfold Hid plusR; rw [if_pos h159, hT.out]
        subst h159
        obtain ⟨Hf, hHf⟩ : ∃ Hf, Hid (Hf = halfR T) := ⟨_, rfl⟩
        have hHf4 : Four Hf := by rw [hHf.out]; exact halfR_four hT4
        go_wp2
        obtain ⟨w6, HW6⟩ : ∃ w6, Hid (w6 = (wr.setCell ⟨ps, 1, none⟩ (.int .i64 160)).setCell ⟨ps, 1, none⟩ (.int .i64 0)) := ⟨_, rfl⟩
        have hk6 : ∀ k, k ≠ ps → w6.heap[k]? = wr.heap[k]? := fun k hk => by rw [HW6.out, heap_setCell_other _ _ _ _ hk, heap_setCell_other _ _ _ _ hk]
        have hz6 : w6.heap.size = wr.heap.size := by rw [HW6.out]; simp
        have hv6 : VBlk w6 ps 34 [.slice (some ⟨bo, 0, none⟩) 4 cap, .int .i64 0] := by rw [HW6.out]; exact (hvp.set 1 (.int .i64 160)).set 1 (.int .i64 0)
        have hB6 : Below L w w6 := by rw [HW6.out]; exact (hBr.setCell hL _).setCell hL _
        have ho6 : Hid (OwnAt w6 lo hi bo B C T) := hmix.out.keep (fun k h1 h2 => hk6 k (by omega)) (by omega)
        first | rw [← HW6.out] | skip
        go_loopw [6] (fun v' wr => ∃ i : Nat, i ≤ 4 ∧ v' = .int .i64 i ∧ VBlk wr ps 34 [.slice (some ⟨bo, 0, none⟩) 4 cap, .int .i64 0] ∧ Hid (OwnAt wr lo hi bo B C (mix Hf T i)) ∧ w.heap.size ≤ wr.heap.size ∧ Below L w wr) (fun v' _ => 4 - (intOf v').toNat)
        case atStart => exact ⟨0, by omega, rfl, hv6, by rw [mix_zero]; exact ho6, by omega, hB6⟩
        case round =>
          clear hB6 ho6 hv6 hk6 hz6 HW6
          obtain ⟨i, hi4, rfl, hvp6, hown, hsz6, hBr6⟩ := hrel
          by_cases hlt : i < 4
          · have hiT : i < T.length := by rw [hT4.1]; exact hlt
            have hiH : i < Hf.length := by rw [hHf4.1]; exact hlt
            have hHT : Hid (Hf.length = T.length) := by unfold Hid; rw [hT4.1, hHf4.1]
            obtain ⟨xs, hxs⟩ : ∃ xs, T[i] = xs := ⟨_, rfl⟩
            have hx16 : Hid (xs.length = 16) := by unfold Hid; rw [← hxs]; exact hT4.2 _ (List.getElem_mem hiT)
            have hxb : Hid (∀ x ∈ xs, 0 ≤ x ∧ x ≤ 15) := by unfold Hid; rw [← hxs]; exact hTs _ (List.getElem_mem hiT)
            have him : i < (mix Hf T i).length := by rw [mix_len Hf T i hHT.out]; exact hiT
            have hmi : Hid ((mix Hf T i)[i] = xs) := by unfold Hid; rw [mix_get Hf T i hHT.out hiT, hxs]
            have hHi : Hid (Hf[i] = xs.map half) := by unfold Hid; have := hHf.out; subst this; simp [halfR, hxs]
            clear hxs
            have hilt : (i : Int) < 4 := by omega
            go_wp2
            go_loopw [7] (fun v' wr => ∃ k : Nat, k ≤ 16 ∧ v' = .int .i64 k ∧ VBlk wr ps 34 [.slice (some ⟨bo, 0, none⟩) 4 cap, .int .i64 0] ∧ Hid (OwnAt wr lo hi bo B C ((mix Hf T i).set i (upto half xs k))) ∧ w.heap.size ≤ wr.heap.size ∧ Below L w wr) (fun v' _ => 16 - (intOf v').toNat)
            case atStart => exact ⟨0, by omega, rfl, hvp6, by rw [upto_zero, ← hmi.out, List.set_getElem_self]; exact hown, hsz6, hBr6⟩
            case round =>
              clear hvp6 hown hsz6 hBr6
              obtain ⟨k, hk16, rfl, hvk, hown, hszk, hBk⟩ := hrel
              by_cases hklt : k < 16
              · have hkx : k < xs.length := by rw [hx16.out]; exact hklt
                have him' : i < ((mix Hf T i).set i (upto half xs k)).length := by rw [List.length_set]; exact him
                have hgi : Hid (((mix Hf T i).set i (upto half xs k))[i] = upto half xs k) := by unfold Hid; rw [List.getElem_set_self]
                obtain ⟨r1, r2, r3, r4, r5⟩ := hown.out.row i him' _ hgi.out
                have hul : Hid ((upto half xs k).length = 16) := by unfold Hid; rw [upto_len, hx16.out]
                rw [hul.out] at r1
                obtain ⟨z, hz0⟩ : ∃ z, xs[k] = z := ⟨_, rfl⟩
                have hz : Hid (xs[k] = z) := hz0
                clear hz0
                have hzb : 0 ≤ z ∧ z ≤ 15 := by rw [← hz.out]; exact hxb.out _ (List.getElem_mem _)
                have hcz : wr.cell? ⟨B i, k, none⟩ = some (.int .i64 z) := by
                  rw [r5.cell k (by rw [hul.out]; exact hklt)]
                  congr 2
                  rw [← hz.out]
                  simp only [upto]
                  rw [List.getElem_append_right (by simp; omega)]
                  simp [show min k xs.length = k by omega]
                have hfz := r5.frozen k (by rw [hul.out]; exact hklt)
                have hc0 := hvk.cell 0 (by simp)
                simp only [List.getElem_cons_zero] at hc0
                have hBi : B i ≠ ps := by omega
                have hklt' : (k : Int) < 16 := by omega
                have hs1 : ∀ u, (wr.drew.setCell ⟨B i, k, none⟩ u).cell? ⟨ps, 0, none⟩ = some (.slice (some ⟨bo, 0, none⟩) 4 cap) := fun u => by
                  rw [World.cell?_of_block (w := wr.drew) (heap_setCell_other _ _ _ _ (fun e => hBi e.symm))]; exact hc0
                have hs2 : ∀ u, (wr.drew.setCell ⟨B i, k, none⟩ u).cell? ⟨bo, i, none⟩ = some (.slice (some ⟨B i, 0, none⟩) 16 (C i)) := fun u => by
                  rw [World.cell?_of_block (w := wr.drew) (heap_setCell_other _ _ _ _ (fun e => r4 e.symm))]; exact r1
                clear r5
                go_wp2
                go_region_law (fail)
                all_goals
                  go_wp2
                  go_roundw
                  case rel =>
                    have o1 := hown.out.set i him' k (by rw [hgi.out, hul.out]; exact hklt) (half z)
                    rw [hgi.out, List.set_set] at o1
                    have eu : (upto half xs k).set k (half z) = upto half xs (k + 1) := by
                      rw [← upto_step half xs k hkx]
                      congr 2
                      rw [List.getD_eq_getElem?_getD, List.getElem?_eq_getElem hkx, ← hz.out]; rfl
                    rw [eu] at o1
                    refine ⟨k + 1, by omega, by go_num, VBlk.of (w := wr) hvk (heap_setCell_other wr _ _ _ (fun e => hBi e.symm)), ?_, by simp; omega, (hBk.setCell (by show L ≤ B i; omega) _).drew⟩
                    exact OwnAt.keep o1 (fun _ _ _ => rfl) (by simp)
                  case measure => simp [intOf]; omega
              · obtain rfl : k = 16 := by omega
                go_wp2
                go_roundw
                case rel =>
                  refine ⟨i + 1, by omega, by go_num, hvk, ?_, hszk, hBk⟩
                  have h1 := hown.out
                  rw [upto_all half xs 16 (by rw [hx16.out]; omega), ← hHi.out, mix_set Hf T i hHT.out hiH] at h1
                  exact h1
                case measure => simp [intOf]; omega
          · obtain rfl : i = 4 := by omega
            have hfin : OwnAt wr lo hi bo B C Hf := by rw [← mix_all Hf T 4 (by rw [hHf4.1]; omega) (by rw [hT4.1]; omega)]; exact hown.out
            go_wp2
            go_end0
            refine ⟨_, rfl, ?_, ?_, hBr6⟩
            · rw [hN.out]; exact hvp6
            · rw [hRR.out, ← hHf.out]; exact hfin
      · have hN : Hid (plusN adds = adds + 1) := by simp [Hid, plusN, h159]
        have hRR : Hid (plusR R adds key = T) := by unfold Hid plusR; rw [if_neg h159, hT.out]
        go_wp2
        refine bodyPost_ret (v := .tuple #[]) (by simp [results, Try.results138]) rfl ⟨_, rfl, ?_, ?_, hBr.setCell hL _⟩
        · rw [hN.out]; exact hvp.set 1 _
        · rw [hRR.out]; exact hmix.out.keep (fun k h1 h2 => heap_setCell_other _ _ _ _ (by show k ≠ ps; omega)) (by simp)

end Go.Proofs.Ytapchjkiiifhdaa.sk
/- Contracts of the laws' helpers on sketches: sizes, copies, comparisons. -/
namespace Go.Proofs.Ytapchjkiiifhdaa.sk
open Go.ChangeShapes Go.WideShapes Go.ChangeAt Go.RowKit
set_option linter.unusedVariables false

set_option maxRecDepth 100000 in
theorem szRow (a : Option Addr) (n c : Nat) (left : Int) (hn : n ≤ 9223372036854775807) (h0 : 0 ≤ left) (h1 : left ≤ 1048576) (w : World) :
    Calls Try.prog 175 #[.slice a n c, .int .i64 left] w fun e w' => ∃ r : Int, e = .returned (.int .i64 r) ∧ w' = w ∧ -1 ≤ r ∧ r ≤ left ∧ (0 ≤ r → n ≤ 1048576) := by
  by_cases h : (n : Int) ≤ left
  · have e : Hid (wrap64 (left - n) = left - n) := IntWalk.wrap64_in _ ⟨by omega, by omega⟩
    go_enter Try.func175, Try.ntmps175
    go_wp2
    go_ret
    exact ⟨_, rfl, rfl, by omega, by omega, fun _ => by omega⟩
  · go_enter Try.func175, Try.ntmps175
    go_wp2
    go_ret
    exact ⟨-1, rfl, rfl, by omega, by omega, fun _ => by omega⟩

set_option maxRecDepth 100000 in
theorem szRows (R : List (List Int)) (v : Value) (left : Int) (h0 : 0 ≤ left) (h1 : left ≤ 1048576) (w : World) (lo hi : Nat) (hv : Rd w lo hi v R) :
    Calls Try.prog 121 #[v, .int .i64 left] w fun e w' => ∃ r : Int, e = .returned (.int .i64 r) ∧ w' = w ∧ -1 ≤ r ∧ r ≤ left ∧ (0 ≤ r → R.length ≤ 1048576 ∧ ∀ xs ∈ R, xs.length ≤ 1048576) := by
  obtain ⟨hRl, a, cap, rfl, hrows⟩ := hv
  unfold maxLen at hRl
  by_cases h : (R.length : Int) ≤ left
  · obtain ⟨b, off, hcells⟩ : ∃ b off, (R ≠ [] → a = some ⟨b, off, none⟩) ∧ ∀ i (h : i < R.length), ∃ a' c', w.cell? ⟨b, off + i, none⟩ = some (.slice a' (R[i]).length c') ∧ RowR w lo hi a' R[i] := by
      rcases hrows with rfl | ⟨b, off, rfl, -, -, hc⟩
      · exact ⟨0, 0, fun h => absurd rfl h, fun i hi => by simp at hi⟩
      · exact ⟨b, off, fun _ => rfl, hc⟩
    have hA : Hid (R ≠ [] → a = some ⟨b, off, none⟩) := hcells.1
    have hC : Hid _ := hcells.2
    clear hcells hrows
    go_enter Try.func121, Try.ntmps121
    go_wp2
    go_loop [1, 5] (fun l v' => ∃ (i : Nat) (q : Int), i ≤ R.length ∧ v' = .int .i64 i ∧ l = .int .i64 q ∧ 0 ≤ q ∧ q ≤ left ∧ Hid (∀ j (hj : j < R.length), j < i → (R[j]).length ≤ 1048576)) (fun _ v' => R.length - (intOf v').toNat)
    case atStart => exact ⟨0, left - R.length, by omega, rfl, rfl, by omega, by omega, fun j _ h => by omega⟩
    case round =>
      obtain ⟨i, q, hi, rfl, rfl, hq0, hq1, hdone⟩ := hrel
      by_cases hlt : i < R.length
      · obtain ⟨a', c', hcell, hrow⟩ := hC.out i hlt
        obtain rfl := hA.out (by intro e; rw [e] at hlt; simp at hlt)
        obtain ⟨n, hn⟩ : ∃ n, (R[i]).length = n := ⟨_, rfl⟩
        have hnm : n ≤ 9223372036854775807 := by have := hrow.1; unfold maxLen at this; omega
        rw [hn] at hcell
        have hN : Hid ((R[i]).length = n) := hn
        clear hn hrow
        have hlt' : (i : Int) < R.length := by omega
        go_wp2_with (first | (go_at_call 175; refine (szRow _ _ _ _ hnm hq0 (by omega) _).mono ?_; rintro e wq ⟨r, rfl, hwq, hr0, hr1, hr2⟩; subst wq; by_cases hneg : r < 0))
        · go_ret
          exact ⟨-1, rfl, rfl, by omega, by omega, fun _ => by omega⟩
        · go_round
          case rel =>
            refine ⟨i + 1, r, by omega, by go_num, rfl, by omega, by omega, fun j hj hji => ?_⟩
            by_cases e : j = i
            · subst e; rw [hN.out]; exact hr2 (by omega)
            · exact hdone.out j hj (by omega)
          case measure => simp [intOf]; omega
      · go_wp2
        go_ret
        refine ⟨q, rfl, rfl, by omega, by omega, fun _ => ⟨by omega, fun xs hx => ?_⟩⟩
        obtain ⟨j, hj, rfl⟩ := List.getElem_of_mem hx
        exact hdone.out j hj (by omega)
  · go_enter Try.func121, Try.ntmps121
    go_wp2
    go_ret
    exact ⟨-1, rfl, rfl, by omega, by omega, fun _ => by omega⟩

def Modest (R : List (List Int)) : Prop := R.length ≤ 1048576 ∧ ∀ xs ∈ R, xs.length ≤ 1048576

set_option maxRecDepth 100000 in
theorem szSketch_any (R : List (List Int)) (v : Value) (adds left : Int) (h0 : 0 ≤ left) (h1 : left ≤ 1048576) (w : World) (lo hi : Nat) (hh : hi ≤ w.heap.size) (hv : Rd w lo hi v R) :
    Calls Try.prog 64 #[skv v adds, .int .i64 left] w fun e w' => ∃ r : Int, e = .returned (.int .i64 r) ∧ (0 ≤ r → Modest R) ∧ Below w.heap.size w w' := by
  have hV : Hid (Rd w lo hi v R) := hv
  clear hv
  go_enter Try.func64, Try.ntmps64
  go_wp2_with (first | (refine wpList_box_v rfl 28 _ rfl [v, .int .i64 adds] rfl ?_; intro b1 w1 hb1 hw1 hB1 hV1; have hc0 := hV1.cell 0 (by simp); simp only [List.getElem_cons_zero] at hc0) | (go_at_call 121; refine (szRows R v left h0 h1 _ lo hi (hV.out.below hB1 hh)).mono ?_; rintro e wq ⟨r, rfl, hwq, hr0, hr1, hr2⟩; subst wq; by_cases hneg : r < 0))
  · go_ret
    exact ⟨-1, rfl, fun h => by omega, hB1⟩
  · go_ret
    exact ⟨r, rfl, fun h => hr2 h, hB1⟩

set_option maxRecDepth 100000 in
/-- a copy of a row -/
theorem toRow (xs : List Int) (a : Option Addr) (c : Nat) (w : World) (lo hi : Nat) (hh : hi ≤ w.heap.size) (hx : xs.length ≤ 1048576) (hr : RowR w lo hi a xs) :
    Calls Try.prog 177 #[.slice a xs.length c] w fun e w' => ∃ g, e = .returned (.slice (some ⟨g, 0, none⟩) xs.length xs.length) ∧ w.heap.size ≤ g ∧ g < w'.heap.size ∧ Blk w' g 2 xs ∧ Below w.heap.size w w' := by
  obtain ⟨b, off, hA0, hbh, hR0⟩ : ∃ b off, (xs ≠ [] → a = some ⟨b, off, none⟩) ∧ (xs ≠ [] → b < hi) ∧ w.rangeAt b off (ints xs) := by
    rcases hr.2 with rfl | ⟨b, off, rfl, -, hb, hr⟩
    · exact ⟨0, 0, fun h => absurd rfl h, fun h => absurd rfl h, fun j v hv => by simp [ints] at hv⟩
    · exact ⟨b, off, fun _ => rfl, fun _ => hb, hr⟩
  have hA : Hid (xs ≠ [] → a = some ⟨b, off, none⟩) := hA0
  have hBH : Hid (xs ≠ [] → b < hi) := hbh
  have hR : Hid (w.rangeAt b off (ints xs)) := hR0
  clear hA0 hbh hR0 hr
  go_enter Try.func177, Try.ntmps177
  go_wp2_with (first | (refine wpList_make rfl 116 2 _ _ rfl (.int .i64 0) 8 xs.length Try.underlying116 info2 rfl rfl rfl (by omega) (by omega) ?_; intro g w1 hg hw1 hB1 hV1))
  go_loopw [4] (fun v' wr => ∃ i : Nat, i ≤ xs.length ∧ v' = .int .i64 i ∧ Blk wr g 2 (xs.take i ++ List.replicate (xs.length - i) 0) ∧ Below w.heap.size w wr) (fun v' _ => xs.length - (intOf v').toNat)
  case atStart => exact ⟨0, by omega, rfl, by simpa using hV1.ints, hB1⟩
  case round =>
    obtain ⟨i, hi', rfl, hk, hBr⟩ := hrel
    by_cases hlt : i < xs.length
    · have hne : xs ≠ [] := by intro e; rw [e] at hlt; simp at hlt
      obtain rfl := hA.out hne
      have hbh := hBH.out hne
      obtain ⟨z, hz⟩ : ∃ z, xs[i] = z := ⟨_, rfl⟩
      have hcz : wr.cell? ⟨b, off + i, none⟩ = some (.int .i64 z) := by rw [hBr.cell (by show b < _; omega), range_cell hR.out i hlt, hz]
      have hlen : Hid ((xs.take i ++ List.replicate (xs.length - i) 0).length = xs.length) := by unfold Hid; simp; omega
      have hcg := hk.cell i (by rw [hlen.out]; exact hlt)
      have hfg := hk.frozen i
      have hlt' : (i : Int) < xs.length := by omega
      have hZ : Hid (xs[i] = z) := hz
      have hK : Hid (Blk wr g 2 (xs.take i ++ List.replicate (xs.length - i) 0)) := hk
      clear hz hk hne
      go_wp2
      go_roundw
      case rel =>
        refine ⟨i + 1, by omega, by go_num, ?_, hBr.setCell (by show w.heap.size ≤ g; omega) _⟩
        have h1 := hK.out.set i z
        have e : (xs.take i ++ List.replicate (xs.length - i) 0).set i z = xs.take (i + 1) ++ List.replicate (xs.length - (i + 1)) 0 := by
          rw [take_snoc xs i hlt, hZ.out, List.set_append_right _ _ (by simp; omega)]
          have e1 : i - (xs.take i).length = 0 := by simp; omega
          have e2 : xs.length - i = (xs.length - (i + 1)) + 1 := by omega
          rw [e1, e2, List.replicate_succ, List.set_cons_zero, List.append_assoc]
          rfl
        rw [e] at h1
        exact h1
      case measure => simp [intOf]; omega
    · have e : i = xs.length := by omega
      have hk' : Blk wr g 2 xs := by rw [e] at hk; simpa using hk
      clear hk
      go_wp2
      go_ret
      exact ⟨g, rfl, hg, hk'.lt, hk', hBr⟩

end Go.Proofs.Ytapchjkiiifhdaa.sk
/- Contracts of the laws' helpers on sketches: copies of many rows, comparisons. -/
namespace Go.Proofs.Ytapchjkiiifhdaa.sk
open Go.ChangeShapes Go.WideShapes Go.ChangeAt Go.RowKit
set_option linter.unusedVariables false

set_option maxRecDepth 100000 in
theorem rd_at {w : World} {lo hi : Nat} {a : Option Addr} {R : List (List Int)} {n c : Nat} (hrows : R = [] ∨ ∃ b off, a = some ⟨b, off, none⟩ ∧ lo ≤ b ∧ b < hi ∧
    ∀ i (h : i < R.length), ∃ a' c', w.cell? ⟨b, off + i, none⟩ = some (.slice a' (R[i]).length c') ∧ RowR w lo hi a' R[i]) :
    ∃ b off, (R ≠ [] → a = some ⟨b, off, none⟩ ∧ b < hi) ∧ ∀ i (h : i < R.length), ∃ a' c', w.cell? ⟨b, off + i, none⟩ = some (.slice a' (R[i]).length c') ∧ RowR w lo hi a' R[i] := by
  rcases hrows with rfl | ⟨b, off, rfl, -, hb, hc⟩
  · exact ⟨0, 0, fun h => absurd rfl h, fun i hi => by simp at hi⟩
  · exact ⟨b, off, fun _ => ⟨rfl, hb⟩, hc⟩

set_option maxRecDepth 100000 in
theorem toRows (R : List (List Int)) (hm : Modest R) (v : Value) (w : World) (lo hi : Nat) (hh : hi ≤ w.heap.size) (hv : Rd w lo hi v R) :
    Calls Try.prog 124 #[v] w fun e w' => ∃ v', e = .returned v' ∧ Own w' w.heap.size w'.heap.size v' R ∧ Below w.heap.size w w' := by
  obtain ⟨hRl, a, cap, rfl, hrows⟩ := hv
  have hm1 := hm.1
  have hm2 : Hid (∀ xs ∈ R, xs.length ≤ 1048576) := hm.2
  clear hm
  obtain ⟨b, off, hA0, hC0⟩ := rd_at (n := 0) (c := 0) hrows
  have hA : Hid (R ≠ [] → a = some ⟨b, off, none⟩ ∧ b < hi) := hA0
  have hC : Hid (∀ i (h : i < R.length), ∃ a' c', w.cell? ⟨b, off + i, none⟩ = some (.slice a' (R[i]).length c') ∧ RowR w lo hi a' R[i]) := hC0
  clear hA0 hC0 hrows
  go_enter Try.func124, Try.ntmps124
  go_wp2_with (first | (refine wpList_make rfl 26 116 _ _ rfl (.slice none 0 0) 24 R.length Try.underlying26 info46 rfl rfl rfl (by omega) (by omega) ?_; intro bo w1 hbo hw1 hB1 hV1))
  have hth1 : w1.there bo 0 R.length := by have := hV1.there; simpa using this
  go_loopw [4] (fun v' wr => ∃ i : Nat, i ≤ R.length ∧ v' = .int .i64 i ∧ bo < wr.heap.size ∧ Hid (wr.there bo 0 R.length) ∧ (∃ B C, Hid (OwnAt wr w.heap.size wr.heap.size bo B C (R.take i))) ∧ Below w.heap.size w wr) (fun v' _ => R.length - (intOf v').toNat)
  case atStart => exact ⟨0, by omega, rfl, hw1, hth1, ⟨fun _ => 0, fun _ => 0, own_none _ _ _ _ _ _ (Nat.le_refl _)⟩, hB1⟩
  case round =>
    obtain ⟨i, hi', rfl, hbs, hth, ⟨B, C, hown⟩, hBr⟩ := hrel
    by_cases hlt : i < R.length
    · obtain ⟨a', c', hcell0, hrow0⟩ := hC.out i hlt
      obtain ⟨rfl, hbh⟩ := hA.out (by intro e; rw [e] at hlt; simp at hlt)
      obtain ⟨xs, hxs⟩ : ∃ xs, R[i] = xs := ⟨_, rfl⟩
      have hxm : xs.length ≤ 1048576 := by rw [← hxs]; exact hm2.out _ (List.getElem_mem hlt)
      rw [hxs] at hcell0 hrow0
      have HX : Hid (R[i] = xs) := hxs
      clear hxs
      have hcell : wr.cell? ⟨b, off + i, none⟩ = some (.slice a' xs.length c') := by rw [hBr.cell (by show b < _; omega)]; exact hcell0
      have hrow : Hid (RowR wr lo hi a' xs) := hrow0.keep (Same.of_below hBr hh)
      clear hcell0 hrow0
      have hbr := hBr.size
      have hlt' : (i : Int) < R.length := by omega
      go_wp2_with (first | (go_at_call 177; refine (toRow xs a' c' _ lo hi (by omega) hxm hrow.out).mono ?_; rintro e w5 ⟨g, rfl, hg1, hg2, hg3, hB5⟩; have hth5 : Hid (w5.there bo 0 R.length) := there_of hth.out (hB5.block bo hbs); obtain ⟨u, hu⟩ := Option.isSome_iff_exists.1 (hth5.out i hlt).1; have hf := (hth5.out i hlt).2; simp only [Nat.zero_add] at hu hf; have HG : Hid (Blk w5 g 2 xs) := hg3; clear hg3))
      go_roundw
      case rel =>
        have hs5 := hB5.size
        have n2 : g ≠ bo := by omega
        have hlt2 : (R.take i).length = i := by simp; omega
        obtain ⟨w6, HW6⟩ : ∃ w6, w6 = w5.setCell ⟨bo, i, none⟩ (.slice (some ⟨g, 0, none⟩) xs.length xs.length) := ⟨_, rfl⟩
        rw [← HW6]
        have hsz : w6.heap.size = w5.heap.size := by rw [HW6]; simp
        have c6 : w6.cell? ⟨bo, i, none⟩ = some (.slice (some ⟨g, 0, none⟩) xs.length xs.length) := by rw [HW6]; exact World.cell?_setCell_same _ _ _ hu
        have own1 : OwnAt w6 w.heap.size wr.heap.size bo B C (R.take i) := hown.out.keepOuter (fun k _ h2 h3 => by rw [HW6, Below.heap_setCell _ _ _ _ h3, hB5.block k h2]) (fun j hj => by rw [HW6, World.cell?_setCell_other _ _ _ _ (by simp <;> omega), World.cell?_of_block (w := wr) (hB5.block bo hbs)]) (by omega)
        have own2 := own1.snoc (hi' := w6.heap.size) hbo (by omega) (by omega) (Nat.le_refl _) g xs.length xs hg1 (by omega) (by omega) n2 (by unfold maxLen; omega) (by rw [HW6]; exact (HG.out.of (Below.heap_setCell _ _ _ _ n2)).row) (by rw [hlt2]; exact c6)
        refine ⟨i + 1, by omega, by go_num, by omega, ?_, ⟨_, _, by rw [take_snoc R i hlt, HX.out]; exact own2⟩, ?_⟩
        · intro j hj
          have h5 := hth5.out j hj
          simp only [Nat.zero_add] at h5 ⊢
          by_cases e : j = i
          · subst e; rw [c6, HW6, World.frozen?_setCell]; exact ⟨rfl, h5.2⟩
          · rw [HW6, World.frozen?_setCell, World.cell?_setCell_other _ _ _ _ (by simp <;> omega)]; exact h5
        · rw [HW6]; exact (hBr.trans (hB5.mono hbr)).setCell hbo _
      case measure => simp [intOf]; omega
    · have e : i = R.length := by omega
      have hown' : OwnAt wr w.heap.size wr.heap.size bo B C R := by have := hown.out; rw [e, List.take_length] at this; exact this
      have HO : Hid _ := hown'
      clear hown hown'
      go_wp2
      go_ret
      exact ⟨_, rfl, ⟨hRl, _, _, bo, B, C, rfl, fun _ => rfl, HO.out⟩, hBr⟩

set_option maxRecDepth 100000 in
theorem toSketch_any (R : List (List Int)) (hm : Modest R) (v : Value) (adds : Int) (w : World) (lo hi : Nat) (hh : hi ≤ w.heap.size) (hv : Rd w lo hi v R) :
    Calls Try.prog 70 #[skv v adds] w fun e w' => ∃ v', e = .returned (skv v' adds) ∧ Own w' w.heap.size w'.heap.size v' R ∧ Below w.heap.size w w' := by
  have hV : Hid (Rd w lo hi v R) := hv
  clear hv
  have m0 : Hid True := trivial
  go_enter Try.func70, Try.ntmps70
  go_wp2_with (first | (refine wpList_box_v rfl 28 _ rfl [v, .int .i64 adds] rfl ?_; intro b1 w1 hb1 hw1 hB1 hV1) | (clear m0; refine wpList_alloc_v rfl 34 rfl _ zero27 ?_; intro b2 w2 hb2 hw2 hB2 hV2; replace hV1 := hV1.below hB2 hw1) | (refine wpList_alloc_v rfl 34 rfl _ zero27 ?_; intro b3 w3 hb3 hw3 hB3 hV3; replace hV1 := hV1.below hB3 (by have := hB2.size; omega); replace hV2 := hV2.below hB3 hw2; have hc0 := hV1.cell 0 (by simp); simp only [List.getElem_cons_zero] at hc0) | (go_at_call 124; refine (toRows R hm v _ lo hi (by have := hB1.size; have := hB2.size; have := hB3.size; omega) (((hV.out.below hB1 hh).below hB2 (by have := hB1.size; omega)).below hB3 (by have := hB1.size; have := hB2.size; omega))).mono ?_; rintro e w4 ⟨v', rfl, hown, hB4⟩; obtain ⟨va, vn, vc, rfl⟩ := hown.form; have hV14 := hV1.below hB4 (by have := hB2.size; have := hB3.size; omega); have hV24 := hV2.below hB4 (by have := hB3.size; omega); have hV34 := hV3.below hB4 hw3; have hc4 := hV34.cell 0 (by simp); have hf4 := hV34.frozen 0; have n13 : b1 ≠ b3 := (by have := hB2.size; omega); have n23 : b2 ≠ b3 := (by omega); have hV35 := hV34.set 0 (.slice va vn vc); simp only [List.getElem_cons_zero, List.set_cons_zero] at hc4 hV35; have hV15 : VBlk (w4.setCell ⟨b3, 0, none⟩ (.slice va vn vc)) b1 _ _ := hV14.of (heap_setCell_other _ _ _ _ n13); have hV25 : VBlk (w4.setCell ⟨b3, 0, none⟩ (.slice va vn vc)) b2 _ _ := hV24.of (heap_setCell_other _ _ _ _ n23); have hc51 := hV15.cell 1 (by simp); have hc53 := hV35.cell 1 (by simp); have hf5 := hV35.frozen 1; simp only [List.getElem_cons_zero, List.getElem_cons_succ] at hc51 hc53; have hV36 := hV35.set 1 (.int .i64 adds); simp only [List.set_cons_zero, List.set_cons_succ] at hV36; have hV26 : VBlk ((w4.setCell ⟨b3, 0, none⟩ (.slice va vn vc)).setCell ⟨b3, 1, none⟩ (.int .i64 adds)) b2 _ _ := hV25.of (heap_setCell_other _ _ _ _ n23); have hc60 := hV36.cell 0 (by simp); have hc61 := hV36.cell 1 (by simp); simp only [List.getElem_cons_zero, List.getElem_cons_succ] at hc60 hc61) | (refine wpList_store_v rfl 34 _ _ rfl b2 [.slice va vn vc, .int .i64 adds] rfl rfl size27 hV26 rfl (by simp [Value.oneCell']) ?_; intro w7 hO7 hV7))
  have h1 := hB1.size
  have h2 := hB2.size
  have h3 := hB3.size
  have h4 := hB4.size
  have h7 : w7.heap.size = w4.heap.size := by rw [hO7.1]; simp
  refine row_retv rfl rfl hV7 Try.underlying34 size27 rfl ⟨_, rfl, ?_, ?_⟩
  · have o1 := hown.keep (w' := w7) (fun k g1 g2 => by rw [hO7.2.1 k (by omega), heap_setCell_other _ _ _ _ (by show k ≠ b3; omega), heap_setCell_other _ _ _ _ (by show k ≠ b3; omega)]) (by omega)
    exact o1.wide (by omega) (by omega) (Nat.le_refl _)
  · have hBw : Below w.heap.size w w4 := ((hB1.trans (hB2.mono h1)).trans (hB3.mono (by omega))).trans (hB4.mono (by omega))
    exact ((hBw.setCell (by show w.heap.size ≤ b3; omega) _).setCell (by show w.heap.size ≤ b3; omega) _).trans (hO7.2.2 _ (by omega))

set_option maxRecDepth 100000 in
/-- a row is held against one that holds the same numbers -/
theorem eqRow (xs : List Int) (a a' : Option Addr) (c c' : Nat) (w : World) (lo hi lo' hi' : Nat) (hh : hi ≤ w.heap.size) (hh' : hi' ≤ w.heap.size) (hr : RowR w lo hi a xs) (hr' : RowR w lo' hi' a' xs) :
    Calls Try.prog 180 #[.slice a xs.length c, .slice a' xs.length c'] w fun e w' => e = .returned (.bool true) ∧ Below w.heap.size w w' := by
  have hxm := hr.1
  unfold maxLen at hxm
  have hR1 : Hid (RowR w lo hi a xs) := hr
  have hR2 : Hid (RowR w lo' hi' a' xs) := hr'
  clear hr hr'
  go_enter Try.func180, Try.ntmps180
  go_wp2
  go_loopw [5] (fun v' wr => ∃ i : Nat, i ≤ xs.length ∧ v' = .int .i64 i ∧ Below w.heap.size w wr) (fun v' _ => xs.length - (intOf v').toNat)
  case atStart => exact ⟨0, by omega, rfl, Below.refl _ _⟩
  case round =>
    obtain ⟨i, hi1, rfl, hBr⟩ := hrel
    by_cases hlt : i < xs.length
    · obtain ⟨b, off, rfl, -, hb, hrange⟩ := rd_row hR1.out (by omega)
      obtain ⟨b', off', rfl, -, hb', hrange'⟩ := rd_row hR2.out (by omega)
      obtain ⟨z, hz⟩ : ∃ z, xs[i] = z := ⟨_, rfl⟩
      have hcz : wr.cell? ⟨b, off + i, none⟩ = some (.int .i64 z) := by rw [hBr.cell (by show b < _; omega), range_cell hrange i hlt, hz]
      have hcz' : wr.cell? ⟨b', off' + i, none⟩ = some (.int .i64 z) := by rw [hBr.cell (by show b' < _; omega), range_cell hrange' i hlt, hz]
      have hlt' : (i : Int) < xs.length := by omega
      clear hrange hrange' hz
      go_wp2
      go_region_held3 (fun w' => w'.cell? ⟨b, off + i, none⟩ = some (.int .i64 z) ∧ w'.cell? ⟨b', off' + i, none⟩ = some (.int .i64 z)) (first | assumption | exact ⟨hcz, hcz'⟩) (fail)
      go_wp2
      go_roundw
      case rel => exact ⟨i + 1, by omega, by go_num, hBr.drew⟩
      case measure => simp [intOf]; omega
    · go_wp2
      go_ret
      exact ⟨rfl, hBr⟩

set_option maxRecDepth 100000 in
theorem eqRows (R : List (List Int)) (v v' : Value) (w : World) (lo hi lo' hi' : Nat) (hh : hi ≤ w.heap.size) (hh' : hi' ≤ w.heap.size) (hv : Rd w lo hi v R) (hv' : Rd w lo' hi' v' R) :
    Calls Try.prog 131 #[v, v'] w fun e w' => e = .returned (.bool true) ∧ Below w.heap.size w w' := by
  obtain ⟨hRl, a, cap, rfl, hrows⟩ := hv
  obtain ⟨-, a', cap', rfl, hrows'⟩ := hv'
  unfold maxLen at hRl
  obtain ⟨b, off, hA0, hC0⟩ := rd_at (n := 0) (c := 0) hrows
  obtain ⟨b', off', hA0', hC0'⟩ := rd_at (n := 0) (c := 0) hrows'
  have hA : Hid (R ≠ [] → a = some ⟨b, off, none⟩ ∧ b < hi) := hA0
  have hA' : Hid (R ≠ [] → a' = some ⟨b', off', none⟩ ∧ b' < hi') := hA0'
  have hC : Hid (∀ i (h : i < R.length), ∃ a' c', w.cell? ⟨b, off + i, none⟩ = some (.slice a' (R[i]).length c') ∧ RowR w lo hi a' R[i]) := hC0
  have hC' : Hid (∀ i (h : i < R.length), ∃ a' c', w.cell? ⟨b', off' + i, none⟩ = some (.slice a' (R[i]).length c') ∧ RowR w lo' hi' a' R[i]) := hC0'
  clear hA0 hC0 hrows hA0' hC0' hrows'
  go_enter Try.func131, Try.ntmps131
  go_wp2
  go_loopw [5] (fun v' wr => ∃ i : Nat, i ≤ R.length ∧ v' = .int .i64 i ∧ Below w.heap.size w wr) (fun v' _ => R.length - (intOf v').toNat)
  case atStart => exact ⟨0, by omega, rfl, Below.refl _ _⟩
  case round =>
    obtain ⟨i, hi1, rfl, hBr⟩ := hrel
    by_cases hlt : i < R.length
    · have hne : R ≠ [] := by intro e; rw [e] at hlt; simp at hlt
      obtain ⟨ra, rc, hcell0, hrow0⟩ := hC.out i hlt
      obtain ⟨ra', rc', hcell0', hrow0'⟩ := hC'.out i hlt
      obtain ⟨rfl, hbh⟩ := hA.out hne
      obtain ⟨rfl, hbh'⟩ := hA'.out hne
      obtain ⟨xs, hxs⟩ : ∃ xs, R[i] = xs := ⟨_, rfl⟩
      rw [hxs] at hcell0 hrow0 hcell0' hrow0'
      have hcell : wr.cell? ⟨b, off + i, none⟩ = some (.slice ra xs.length rc) := by rw [hBr.cell (by show b < _; omega)]; exact hcell0
      have hcell' : wr.cell? ⟨b', off' + i, none⟩ = some (.slice ra' xs.length rc') := by rw [hBr.cell (by show b' < _; omega)]; exact hcell0'
      have hrow : Hid (RowR wr.drew lo hi ra xs) := (hrow0.keep (Same.of_below hBr.drew hh))
      have hrow' : Hid (RowR wr.drew lo' hi' ra' xs) := (hrow0'.keep (Same.of_below hBr.drew hh'))
      clear hcell0 hrow0 hcell0' hrow0' hxs hne
      have hbr := hBr.size
      have hlt' : (i : Int) < R.length := by omega
      go_wp2
      go_region_held3 (fun w' => w'.cell? ⟨b, off + i, none⟩ = some (.slice ra xs.length rc) ∧ w'.cell? ⟨b', off' + i, none⟩ = some (.slice ra' xs.length rc')) (first | assumption | exact ⟨hcell, hcell'⟩ | exact ⟨hc5, hc5'⟩) (first | (go_at_call 180; refine (eqRow xs ra ra' rc rc' _ lo hi lo' hi' (by show hi ≤ wr.heap.size; omega) (by show hi' ≤ wr.heap.size; omega) hrow.out hrow'.out).mono ?_; rintro e w5 ⟨rfl, hB5⟩; have hc5 : w5.cell? ⟨b, off + i, none⟩ = some (.slice ra xs.length rc) := (by rw [hB5.cell (by show b < wr.heap.size; omega)]; exact hcell); have hc5' : w5.cell? ⟨b', off' + i, none⟩ = some (.slice ra' xs.length rc') := (by rw [hB5.cell (by show b' < wr.heap.size; omega)]; exact hcell')))
      go_wp2
      go_roundw
      case rel => exact ⟨i + 1, by omega, by go_num, hBr.drew.trans (hB5.mono hbr)⟩
      case measure => simp [intOf]; omega
    · go_wp2
      go_ret
      exact ⟨rfl, hBr⟩

set_option maxRecDepth 100000 in
theorem eqSketch_any (R : List (List Int)) (adds : Int) (v v' : Value) (w : World) (lo hi lo' hi' : Nat) (hh : hi ≤ w.heap.size) (hh' : hi' ≤ w.heap.size) (hv : Rd w lo hi v R) (hv' : Rd w lo' hi' v' R) :
    Calls Try.prog 73 #[skv v adds, skv v' adds] w fun e w' => e = .returned (.bool true) ∧ Below w.heap.size w w' := by
  have hV : Hid (Rd w lo hi v R) := hv
  have hV' : Hid (Rd w lo' hi' v' R) := hv'
  clear hv hv'
  have m0 : Hid True := trivial
  go_enter Try.func73, Try.ntmps73
  go_wp2_with (first | (clear m0; refine wpList_box_v rfl 34 _ rfl [v, .int .i64 adds] rfl ?_; intro b1 w1 hb1 hw1 hB1 hV1) | (refine wpList_box_v rfl 34 _ rfl [v', .int .i64 adds] rfl ?_; intro b2 w2 hb2 hw2 hB2 hV2; replace hV1 := hV1.below hB2 hw1; have hc0 := hV1.cell 0 (by simp); have hc2 := hV2.cell 0 (by simp); simp only [List.getElem_cons_zero] at hc0 hc2) | (go_at_call 131; refine (eqRows R v v' _ lo hi lo' hi' (by have := hB1.size; have := hB2.size; omega) (by have := hB1.size; have := hB2.size; omega) ((hV.out.below hB1 hh).below hB2 (by have := hB1.size; omega)) ((hV'.out.below hB1 hh').below hB2 (by have := hB1.size; omega))).mono ?_; rintro e w3 ⟨rfl, hB3⟩; have hV13 := hV1.below hB3 (by have := hB2.size; omega); have hV23 := hV2.below hB3 hw2; have hc13 := hV13.cell 1 (by simp); have hc23 := hV23.cell 1 (by simp); simp only [List.getElem_cons_zero, List.getElem_cons_succ] at hc13 hc23))
  go_ret
  have h1 := hB1.size
  exact ⟨rfl, (hB1.trans (hB2.mono h1)).trans (hB3.mono (by have := hB2.size; omega))⟩

end Go.Proofs.Ytapchjkiiifhdaa.sk
/- A sketch that came in as an argument, read as rows. -/
namespace Go.Proofs.Ytapchjkiiifhdaa.sk
open Go.ChangeShapes Go.WideShapes Go.ChangeAt Go.RowKit
open Go.Deep Go.Joins
set_option linter.unusedVariables false

set_option maxRecDepth 100000 in
theorem cells46 : Try.prog.cellsOf 116 = 1 := by kernel_rfl
set_option maxRecDepth 100000 in
theorem cells24 : Try.prog.cellsOf 28 = 2 := by kernel_rfl
set_option maxRecDepth 100000 in
theorem add_none {a : Addr} (h : a.spot = none) (j : Nat) : a.add j = ⟨a.block, a.off + j, none⟩ := by
  obtain ⟨b, o, s⟩ := a
  simp at h
  subst h
  exact Addr.add_mid b o j

set_option maxRecDepth 100000 in
theorem rd_of_trod {H : Type} {enc : TypeId × Value → H} {w : World} {n : Nat} {v : Value} {x : DataW H × List MemPlace} (h : DataW.trod enc Try.prog w 0 (fun _ => true) true n 26 [v] = some x) : ∃ R, Rd w 0 w.heap.size v R := by
  rcases open_int_rows Try.underlying26 Try.underlying116 Try.underlying2 cells46 cells2 h with ⟨hcs, -⟩ | ⟨a, len, cap, A, L, C, Z, hcs, -, hl, hm, -, hrow⟩
  · obtain rfl : v = .slice none 0 0 := by simpa using hcs
    exact ⟨[], by simp, none, 0, rfl, .inl rfl⟩
  · obtain rfl : v = .slice (some a) len cap := by simpa using hcs
    refine ⟨(List.range len).map fun r => (Z r).take (L r), by simp; omega, some a, cap, by simp, ?_⟩
    by_cases h0 : len = 0
    · subst h0; exact .inl rfl
    have hc0 := (hrow 0 (by omega)).1
    have hspot : (a.add 0).spot = none := World.cell?_spot hc0
    have hsp : a.spot = none := by
      obtain ⟨b, o, s⟩ := a
      cases s with
      | none => rfl
      | some s => simp [Addr.add] at hspot
    rw [add_none hsp] at hc0
    refine .inr ⟨a.block, a.off, by obtain ⟨b, o, s⟩ := a; simp at hsp; subst hsp; rfl, Nat.zero_le _, World.block_lt_of_cell? w ⟨a.block, a.off + 0, none⟩ hc0, fun i hi => ?_⟩
    have hi' : i < len := by simpa using hi
    obtain ⟨c1, c2, c3, c4, c5, c6, c7⟩ := hrow i (by omega)
    have hlen : ((Z i).take (L i)).length = L i := by simp; omega
    refine ⟨A i, C i, ?_, ?_, ?_⟩
    · rw [add_none hsp] at c1
      simp only [List.getElem_map, List.getElem_range, hlen]
      exact c1
    · simp only [List.getElem_map, List.getElem_range, hlen]; omega
    · simp only [List.getElem_map, List.getElem_range]
      by_cases hL : L i = 0
      · left; rw [hL]; rfl
      · right
        cases hA : A i with
        | none => have := c6 hA; omega
        | some a' =>
          obtain ⟨-, hcell⟩ := c7 a' hA
          have hd0 := hcell 0 (by omega)
          have hspot' : (a'.add 0).spot = none := World.cell?_spot hd0
          have hsp' : a'.spot = none := by
            obtain ⟨b, o, s⟩ := a'
            cases s with
            | none => rfl
            | some s => simp [Addr.add] at hspot'
          rw [add_none hsp'] at hd0
          refine ⟨a'.block, a'.off, by obtain ⟨b, o, s⟩ := a'; simp at hsp'; subst hsp'; rfl, Nat.zero_le _, World.block_lt_of_cell? w ⟨a'.block, a'.off + 0, none⟩ hd0, fun j u hj => ?_⟩
          have hjl : j < L i := by have := (List.getElem?_eq_some_iff.1 hj).1; simp [ints] at this; omega
          have := hcell j (by omega)
          rw [add_none hsp'] at this
          rw [this]
          have hjz : j < (Z i).length := by omega
          rw [ints_get, List.getElem?_take, if_pos hjl, List.getElem?_eq_getElem hjz] at hj
          rw [List.getD_eq_getElem?_getD, List.getElem?_eq_getElem hjz]
          simpa using hj

set_option maxRecDepth 100000 in
/-- a sketch among the arguments -/
theorem open_sketch {H : Type} {enc : TypeId × Value → H} {W : World} {r : Reach} {b0 : Nat} {v : Value} {d : DataW H} {p : List MemPlace} (hv : Value.okWide Try.prog W r b0 28 v) (h : DataW.Trod enc Try.prog W 0 (fun _ => true) true 28 v d p) :
    ∃ v0 adds R, v = skv v0 adds ∧ Rd W 0 W.heap.size v0 R ∧ (Lit.int .i64 adds).wf = true := by
  obtain ⟨c0, c1, y0, y1, m, rfl, rfl, rfl, hy0, hy1⟩ := open_agg2 Try.underlying28 (by kernel_rfl) cells24 hv h
  obtain ⟨x, e1, rfl, wx⟩ := DataW.trod_int Try.underlying2 hy1
  simp at e1
  subst e1
  obtain ⟨R, hR⟩ := rd_of_trod hy0
  exact ⟨c0, x, R, rfl, hR, wx⟩

end Go.Proofs.Ytapchjkiiifhdaa.sk
