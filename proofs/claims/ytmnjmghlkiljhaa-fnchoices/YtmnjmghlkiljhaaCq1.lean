/- Contracts: the model's rings inside a choice: who joins, is used, leaves; the hand's turn. -/
import Derived.Test.YtmnjmghlkiljhaaMg03
import Derived.Test.YtmnjmghlkiljhaaRo7
import Derived.Deep.DeepCutAuto
import Derived.Deep.LoopGhost
namespace Go.Proofs.Ytmnjmghlkiljhaa.rg
open Go.ChangeShapes Go.WideShapes Go.ChangeAt Go.RowKit
open Go.Proofs.Ytmnjmghlkiljhaa.ce Go.Proofs.Ytmnjmghlkiljhaa.ro
set_option linter.unusedVariables false
set_option linter.unusedSimpArgs false

set_option maxRecDepth 100000 in
set_option maxHeartbeats 1000000 in
theorem l8JoinC_any (y0 y4 y5 y6 : Value) (r : Rg) (s : ByteArray) (hs : s.size ≤ 9223372036854775807) (vN vU : Value) (b lo hi : Nat) (w : World) (own : OwnR w lo hi vN vU r) (hV : VBlk w b 32 [y0, vN, vU, .int .i64 r.A, y4, y5, y6]) (hlo : lo ≤ w.heap.size) (hN : r.N.length ≤ 1000000) (hU : r.U.length ≤ 1000000) :
    Calls Try.prog 111 #[.pointer (some ⟨b, 1, none⟩), .string s] w fun e w' => e = .returned (.bool (mayB r s)) ∧ ∃ vN' vU', OwnR w' lo w'.heap.size vN' vU' (joinR r s) ∧ VBlk w' b 32 [y0, vN', vU', .int .i64 r.A, y4, y5, y6] ∧ Tn lo b w w' := by
  obtain ⟨N, U, A⟩ := r
  obtain ⟨a, n, cap, rfl⟩ := own.n.slice
  obtain ⟨c, m, dc, rfl⟩ := own.u.slice
  have hn : Hid (n = N.length) := own.n.rd.cap.1
  have O : Hid (OwnR w lo hi (.slice a n cap) (.slice c m dc) ⟨N, U, A⟩) := own
  have hbl := hV.lt
  have V : Hid (VBlk w b 32 [y0, .slice a n cap, .slice c m dc, .int .i64 A, y4, y5, y6]) := hV
  obtain ⟨-, c0, c1, c2, -, -, -⟩ := cells7c hV
  dsimp only at hN hU ⊢
  clear own hV
  obtain ⟨y, hy⟩ := hid_ex (mayB ⟨N, U, A⟩ s)
  obtain ⟨p, hp⟩ := hid_ex (posS s N)
  cases hnm : nameB s with
  | false =>
    have ey := hy.out.symm.trans (mayB_false1 (r := ⟨N, U, A⟩) hnm)
    unfold joinR
    rw [hy.out, ey, if_neg Bool.false_ne_true]
    go_enter Try.func111, Try.ntmps111
    go_wp2_with (first | (go_at_call 25; refine (specNameOk_any _ hs _).mono ?_; rintro e wq ⟨rfl, hq⟩; subst wq; rw [hnm]) | (fail))
    go_ret
    exact ⟨rfl, _, _, O.out.top, V.out, Tn.refl _ _ _⟩
  | true =>
    by_cases hp0 : 0 ≤ p
    · have ey := hy.out.symm.trans (mayB_false2 (r := ⟨N, U, A⟩) (by rw [hp.out]; exact hp0))
      have hpg : p ≥ 0 := hp0
      unfold joinR
      rw [hy.out, ey, if_neg Bool.false_ne_true]
      go_enter Try.func111, Try.ntmps111
      go_wp2_with (first | (go_at_call 25; refine (specNameOk_any _ hs _).mono ?_; rintro e wq ⟨rfl, hq⟩; subst wq; rw [hnm]) | (go_at_call 137; refine (l1At_any N _ _ _ O.out.n.rd).mono ?_; rintro e wq ⟨rfl, hq⟩; subst wq; rw [hp.out]) | (fail))
      go_ret
      exact ⟨rfl, _, _, O.out.top, V.out, Tn.refl _ _ _⟩
    · have hpg : ¬ p ≥ 0 := hp0
      by_cases h20 : n = 20
      · have ey := hy.out.symm.trans (mayB_false3 (r := ⟨N, U, A⟩) (hn.out.symm.trans h20))
        have h20b : ((n : Int) == 20) = true := by simp; omega
        unfold joinR
        rw [hy.out, ey, if_neg Bool.false_ne_true]
        clear h20
        go_enter Try.func111, Try.ntmps111
        go_wp2_with (first | (go_at_call 25; refine (specNameOk_any _ hs _).mono ?_; rintro e wq ⟨rfl, hq⟩; subst wq; rw [hnm]) | (go_at_call 137; refine (l1At_any N _ _ _ O.out.n.rd).mono ?_; rintro e wq ⟨rfl, hq⟩; subst wq; rw [hp.out]) | (fail))
        go_ret
        exact ⟨rfl, _, _, O.out.top, V.out, Tn.refl _ _ _⟩
      · have ey := hy.out.symm.trans (mayB_true (r := ⟨N, U, A⟩) hnm (by rw [hp.out]; exact hp0) (fun q => h20 (hn.out.trans q)))
        have h20b : ((n : Int) == 20) = false := by simp; omega
        unfold joinR
        rw [hy.out, ey, if_pos rfl]
        unfold joined
        dsimp only
        have m1 : Hid True := trivial
        have m2 : Hid True := trivial
        go_enter Try.func111, Try.ntmps111
        go_wp2_with (first | (go_at_call 25; refine (specNameOk_any _ hs _).mono ?_; rintro e wq ⟨rfl, hq⟩; subst wq; rw [hnm]) | (go_at_call 137; refine (l1At_any N _ _ _ O.out.n.rd).mono ?_; rintro e wq ⟨rfl, hq⟩; subst wq; rw [hp.out]) | (clear m1; at_builtin; refine wpList_append_g infoS rfl _ _ 24 rfl Try.underlying24 lo _ _ N rfl (O.out.n.grow ((Below.refl _ _).alloc (Nat.le_refl _) _)) (by simp; omega) _ [s] rfl (rd_new (E := encS) w s #[.string s] rfl) (by simp; omega) ?_; intro v1 w1 o1 hT1; have hBa : Below w.heap.size w (w.alloc (.cells #[.string s] 9)) := (Below.refl _ _).alloc (Nat.le_refl _) _; have V1 := hT1.vblk (vblk_grow V.out hBa) (by decide); have u1 := hT1.own (O.out.u.grow hBa) (by decide); have T1 : Tn lo b w w1 := (Tn.of_below hBa hlo).trans (Tn.of_ty hT1 (.inl rfl)); have hz1 := T1.size; obtain ⟨a1, n1, k1, rfl⟩ := o1.slice) | (refine wpList_store_ss rfl _ _ rfl b 1 a1 n1 k1 rfl rfl V1 (by simp) ?_; intro w2 hO2 V2; replace o1 := o1.only hO2 V1 (by decide); replace u1 := u1.only hO2 V1 (by decide); have T2 : Tn lo b w w2 := T1.trans (Tn.of_only hO2); have hz2 := T2.size; clear c0 c1 c2; obtain ⟨-, c0, c1, c2, -, -, -⟩ := cells7c V2) | (clear m2; at_builtin; refine wpList_append_g infoB rfl _ _ 25 rfl Try.underlying25 lo _ _ U rfl (u1.grow ((Below.refl _ _).alloc (Nat.le_refl _) _)) (by simp; omega) _ [false] rfl (rd_new (E := encB) w2 false #[.bool false] rfl) (by simp; omega) ?_; intro v3 w3 u3 hT3; have hBa3 : Below w2.heap.size w2 (w2.alloc (.cells #[.bool false] 4)) := (Below.refl _ _).alloc (Nat.le_refl _) _; have V3 := hT3.vblk (vblk_grow V2 hBa3) (by decide); have o3 := hT3.own (o1.grow hBa3) (by decide); have T3 : Tn lo b w w3 := (T2.trans (Tn.of_below hBa3 (by omega))).trans (Tn.of_ty hT3 (.inr rfl)); obtain ⟨a3, n3, k3, rfl⟩ := u3.slice) | (refine wpList_store_bs rfl _ _ rfl b 2 a3 n3 k3 rfl rfl V3 (by simp) ?_; intro w4 hO4 V4; replace o3 := o3.only hO4 V3 (by decide); replace u3 := u3.only hO4 V3 (by decide); have T4 : Tn lo b w w4 := T3.trans (Tn.of_only hO4)) | (fail))
        go_ret
        exact ⟨rfl, _, _, ⟨o3.top, u3.top⟩, V4, T4⟩


set_option maxRecDepth 100000 in
set_option maxHeartbeats 1000000 in
theorem l8UseC_any (y0 y4 y5 y6 : Value) (r : Rg) (s : ByteArray) (vN vU : Value) (b lo hi : Nat) (w : World) (own : OwnR w lo hi vN vU r) (hV : VBlk w b 32 [y0, vN, vU, .int .i64 r.A, y4, y5, y6]) (hNU : r.U.length = r.N.length) :
    Calls Try.prog 110 #[.pointer (some ⟨b, 1, none⟩), .string s] w fun e w' => (∃ u, e = .returned u) ∧ OwnR w' lo hi vN vU (used r s) ∧ VBlk w' b 32 [y0, vN, vU, .int .i64 r.A, y4, y5, y6] ∧ Tn lo b w w' := by
  obtain ⟨N, U, A⟩ := r
  obtain ⟨a, n, cap, rfl⟩ := own.n.slice
  obtain ⟨c, m, dc, rfl⟩ := own.u.slice
  have hm : Hid (m = U.length) := own.u.rd.cap.1
  have O : Hid (OwnR w lo hi (.slice a n cap) (.slice c m dc) ⟨N, U, A⟩) := own
  have V : Hid (VBlk w b 32 [y0, .slice a n cap, .slice c m dc, .int .i64 A, y4, y5, y6]) := hV
  obtain ⟨-, c0, c1, c2, -, -, -⟩ := cells7c hV
  dsimp only at hNU ⊢
  clear own hV
  have hbd := posS_bd s N
  have hy1 := @used_yes ⟨N, U, A⟩ s
  have hy2 := @used_no ⟨N, U, A⟩ s
  dsimp only at hy1 hy2
  obtain ⟨p, hp⟩ := hid_ex (posS s N)
  rw [hp.out] at hbd hy1 hy2
  by_cases hp0 : 0 ≤ p
  · rw [hy1 hp0]
    clear hy1 hy2
    obtain ⟨i, rfl⟩ : ∃ i : Nat, p = i := ⟨p.toNat, by omega⟩
    have hiU : i < U.length := by omega
    have hm2 : (i : Int) < (m : Int) := by have := hm.out; omega
    have hp1 : ¬ (i : Int) < 0 := by omega
    obtain ⟨g, rfl, hg, d0, f0⟩ := ownB_cell O.out.u i hiU
    rw [Int.toNat_natCast]
    go_enter Try.func110, Try.ntmps110
    go_wp2_with (first | (go_at_call 137; refine (l1At_any N _ _ _ O.out.n.rd).mono ?_; rintro e wq ⟨rfl, hq⟩; subst wq; rw [hp.out]) | (refine wpList_store_tb rfl _ _ rfl g i true rfl rfl O.out.u hiU ?_; intro w1 u1 hT1) | (fail))
    go_ret
    exact ⟨⟨_, rfl⟩, ⟨hT1.own O.out.n (by decide), u1⟩, hT1.vblk V.out (by decide), Tn.of_ty hT1 (.inr rfl)⟩
  · rw [hy2 hp0]
    clear hy1 hy2
    have hp1 : p < 0 := by omega
    go_enter Try.func110, Try.ntmps110
    go_wp2_with (first | (go_at_call 137; refine (l1At_any N _ _ _ O.out.n.rd).mono ?_; rintro e wq ⟨rfl, hq⟩; subst wq; rw [hp.out]) | (fail))
    go_ret
    exact ⟨⟨_, rfl⟩, O.out, V.out, Tn.refl _ _ _⟩

/-- a ring in its variable while one leaves -/
structure LvC (y0 y4 y5 y6 : Value) (lo b : Nat) (w wc : World) (vN vU : Value) (A : Int) (N : List ByteArray) (U : List Bool) : Prop where
  n : Own encS wc lo wc.heap.size vN N
  u : Own encB wc lo wc.heap.size vU U
  v : VBlk wc b 32 [y0, vN, vU, .int .i64 A, y4, y5, y6]
  t : Tn lo b w wc


set_option maxRecDepth 100000 in
set_option maxHeartbeats 4000000 in
theorem l8LeaveC_yes (y0 y4 y5 y6 : Value) (r : Rg) (s : ByteArray) (i : Nat) (hpi : posS s r.N = i) (vN vU : Value) (b lo lo0 hi : Nat) (w : World) (own : OwnR w lo0 hi vN vU r) (hV : VBlk w b 32 [y0, vN, vU, .int .i64 r.A, y4, y5, y6]) (hlo : lo ≤ w.heap.size) (hi' : i < r.N.length) (hN : r.N.length ≤ 1000000) (hNU : r.U.length = r.N.length) (hA0 : 0 ≤ r.A) (hA1 : r.A < r.N.length) :
    Calls Try.prog 113 #[.pointer (some ⟨b, 1, none⟩), .string s] w fun e w' => e = .returned (.bool true) ∧ ∃ vN' vU', OwnR w' lo w'.heap.size vN' vU' (left r i) ∧ VBlk w' b 32 [y0, vN', vU', .int .i64 (left r i).A, y4, y5, y6] ∧ Tn lo b w w' := by
  obtain ⟨N, U, A⟩ := r
  obtain ⟨a, n, cap, rfl⟩ := own.n.slice
  obtain ⟨c, m, dc, rfl⟩ := own.u.slice
  obtain ⟨hn, -, -⟩ := own.n.rd.cap
  obtain ⟨hm, hm1, hm2⟩ := own.u.rd.cap
  have HN : Hid (n = N.length) := hn
  have O : Hid (OwnR w lo0 hi (.slice a n cap) (.slice c m dc) ⟨N, U, A⟩) := own
  have V : Hid (VBlk w b 32 [y0, .slice a n cap, .slice c m dc, .int .i64 A, y4, y5, y6]) := hV
  have hbl := hV.lt
  obtain ⟨-, c0, c1, c2, -, -, -⟩ := cells7c hV
  dsimp only at hpi hi' hN hNU hA0 hA1 hm hn ⊢
  obtain ⟨g, rfl, hg, -, -⟩ := ownB_cell own.u i (show i < U.length by omega)
  clear own hV
  rw [left_at]
  dsimp only
  obtain ⟨p, hp⟩ := hid_ex (i + 1)
  have i0 : (0 : Int) ≤ (i : Int) := by omega
  have i1 : (i : Int) ≤ (dc : Int) := by omega
  have ineg : ¬ (i : Int) < 0 := by omega
  have p1 : (p : Int) ≤ (m : Int) := by have := hp.out; omega
  have p2 : (p : Int) ≤ (dc : Int) := by have := hp.out; omega
  have i3 : (m : Int) ≤ (dc : Int) := by omega
  have i4 : IntKind.i64.wrap ((i : Int) + 1) = (p : Int) := by rw [IntKind.wrap_i64]; have := hp.out; omega
  have hpm : p ≤ U.length := by have := hp.out; omega
  have hiU : i ≤ U.length := by omega
  have hlt : (U.take i).length ≤ 1000 + i := by rw [List.length_take]; omega
  have hld : (U.take i).length + (U.drop p).length ≤ 1000000 := by rw [List.length_take, List.length_drop]; have := hp.out; omega
  obtain ⟨B, hB⟩ := hid_ex (handA A i)
  rw [hB.out]
  have hBd : 0 ≤ B ∧ B ≤ (N.length : Int) - 1 := by
    have := hB.out
    unfold handA at this
    split at this <;> omega
  obtain ⟨F, hF⟩ := hid_ex (if B < (N.length : Int) - 1 then B else 0)
  rw [hF.out]
  have hle : (N.take i ++ N.drop (i + 1)).length = N.length - 1 := by simp; omega
  clear hm hn
  have m1 : Hid True := trivial
  go_enter Try.func113, Try.ntmps113
  go_wp2_with (first | (go_at_call 137; refine (l1At_any N _ _ _ O.out.n.rd).mono ?_; rintro e wq ⟨rfl, hq⟩; subst wq; rw [hpi]) | (go_at_call 138; refine (l1Cut_any N _ i _ O.out.n.rd hi' hN).mono ?_; rintro e w1 ⟨v1, rfl, o1, hB1⟩; have hz1 := hB1.size; have V1 := vblk_grow V.out hB1; have u1 := O.out.u.grow hB1; have T1 : Tn lo b w w1 := Tn.of_below hB1 hlo; obtain ⟨a1, n1, k1, rfl⟩ := o1.slice) | (refine wpList_store_ss rfl _ _ rfl b 1 a1 n1 k1 rfl rfl V1 (by simp) ?_; intro w2 hO2 V2; replace o1 := o1.only hO2 V1 (by decide); replace u1 := u1.only hO2 V1 (by decide); have T2 : Tn lo b w w2 := T1.trans (Tn.of_only hO2); have hz2 := T2.size; clear c0 c1 c2; obtain ⟨-, c0, c1, c2, -, -, -⟩ := cells7c V2) | (fail))
  have hn1 : Hid (n1 = N.length - 1) := o1.rd.cap.1.trans hle
  have RT := u1.rd.take i hiU
  have RD0 := rdB_rest u1.rd p hpm
  rw [Nat.zero_add] at RD0
  obtain ⟨ad, had⟩ : ∃ ad, (if dc = p then (some ⟨g, 0, none⟩ : Option Addr) else some ⟨g, p, none⟩) = ad := ⟨_, rfl⟩
  rw [had] at RD0
  have RD : Hid (Rd encB w2 _ (U.drop p)) := RD0
  clear RD0
  have hBa : Below w2.heap.size w2 (w2.alloc (.cells #[] 4)).drew := ((Below.refl w2.heap.size w2).alloc (Nat.le_refl _) _).drew
  obtain ⟨-, -, cA, -, -, -, -⟩ := cells7c (vblk_grow V2 ((Below.refl w2.heap.size w2).alloc (Nat.le_refl _) (.cells #[] 4)))
  simp only [Act.put]
  go_cut [] from 23 to 41 (fun wc => ∃ a6 n6 k6, Hid (LvC y0 y4 y5 y6 lo b w wc (.slice a1 n1 k1) (.slice a6 n6 k6) A (N.take i ++ N.drop (i + 1)) (U.take i ++ U.drop p)))
  case first =>
      go_region_law (first | (refine step_append_g infoB rfl _ _ 25 rfl Try.underlying25 _ 0 _ [] rfl (own_zero _ _ _ _ _) (Nat.le_refl _) _ (U.take i) rfl (RT.grow hBa) (by simp; omega) ?_; intro v5 W5 o5 hT5; rw [List.nil_append] at o5; have hB5 : Below w2.heap.size w2 W5 := hBa.trans (hT5.low.mono hBa.size); have V5 := vblk_grow V2 hB5; have o15 := o1.grow hB5; have T5 : Tn lo b w W5 := T2.trans (Tn.of_below hB5 (by omega)); obtain ⟨-, e0, e1, e2, -, -, -⟩ := cells7c V5; have hz5 := hT5.low.size) | (refine step_append_g infoB rfl _ _ 25 rfl Try.underlying25 _ _ _ (U.take i) rfl o5 hz5 _ (U.drop p) rfl (RD.out.grow hB5) (by omega) ?_; intro v6 W6 o6 hT6; have V6 := hT6.vblk V5 (by decide); have o16 := hT6.own o15 (by decide); have hza := hBa.size; have T6 : Tn lo b w W6 := T5.trans (Tn.of_ty (hT6.mono (by omega)) (.inr rfl)); obtain ⟨-, q0, q1, q2, -, -, -⟩ := cells7c V6; have f1 := V6.frozen 2; have hz6 := T6.size; obtain ⟨a6, n6, k6, rfl⟩ := o6.slice) | (fail))
      all_goals
        go_wp2_with fail
        go_meet
        case rel => exact ⟨a6, n6, k6, ⟨(o16.only (only_set W6 b 2 (.slice a6 n6 k6)) V6 (by decide)).wide hlo (Nat.le_refl _) |>.top, (o6.only (only_set W6 b 2 (.slice a6 n6 k6)) V6 (by decide)).wide (by omega) (Nat.le_refl _) |>.top, V6.set 2 (.slice a6 n6 k6), T6.trans (Tn.of_only (only_set W6 b 2 (.slice a6 n6 k6)))⟩⟩
  case rest =>
    have hA2 : IntKind.i64.wrap (A - 1) = A - 1 := by rw [IntKind.wrap_i64]; omega
    obtain ⟨a6, n6, k6, L⟩ := hcut
    have V3 := L.out.v
    have hz3 := L.out.t.size
    obtain ⟨-, x0, x1, x2, -, -, -⟩ := cells7c V3
    have hbd2 := hBd
    clear c0 c1 c2 hBd hle
    by_cases hiA : (i : Int) < A
    · have eB : B = A - 1 := by rw [← hB.out]; exact if_pos hiA
      subst eB
      by_cases hend : A - 1 = (n1 : Int)
      · have hendb : ((A - 1) == (n1 : Int)) = true := by simpa using hend
        have eF : F = 0 := hF.out.symm.trans (if_neg (by have := hn1.out; omega))
        subst eF
        clear hend
        go_wp2_with (first | (clear m1; refine wpList_store_n rfl _ _ rfl b 3 (A - 1) rfl (by first | rfl | simp [go_sem]) V3 (by simp) ?_; intro w8 hO8 V8; obtain ⟨-, z0, z1, z2, -, -, -⟩ := cells7c V8; have n8 := L.out.n.only hO8 V3 (by decide); have u8 := L.out.u.only hO8 V3 (by decide); have T8 := L.out.t.trans (Tn.of_only hO8)) | (fail))
        simp only [Act.put]
        go_big_quiet (fail)
        go_wp2_with (first | (refine wpList_store_n rfl _ _ rfl b 3 0 rfl rfl (vblk_grow V8 (below_drewN _ _)) (by simp) ?_; intro w9 hO9 V9) | (fail))
        go_ret
        have hp' := hp.out
        subst hp'
        exact ⟨rfl, _, _, ⟨((n8.grow (below_drewN _ _)).only hO9 (vblk_grow V8 (below_drewN _ _)) (by decide)).top, ((u8.grow (below_drewN _ _)).only hO9 (vblk_grow V8 (below_drewN _ _)) (by decide)).top⟩, V9, (T8.trans (Tn.of_below (below_drewN _ _) (by have := T8.size; omega))).trans (Tn.of_only hO9)⟩
      · have hendb : ((A - 1) == (n1 : Int)) = false := by simpa using hend
        have eF : F = A - 1 := hF.out.symm.trans (if_pos (by have := hn1.out; omega))
        subst eF
        clear hend
        go_wp2_with (first | (clear m1; refine wpList_store_n rfl _ _ rfl b 3 (A - 1) rfl (by first | rfl | simp [go_sem]) V3 (by simp) ?_; intro w8 hO8 V8; obtain ⟨-, z0, z1, z2, -, -, -⟩ := cells7c V8; have n8 := L.out.n.only hO8 V3 (by decide); have u8 := L.out.u.only hO8 V3 (by decide); have T8 := L.out.t.trans (Tn.of_only hO8)) | (fail))
        simp only [Act.put]
        go_big_quiet (fail)
        go_wp2
        go_ret
        have hp' := hp.out
        subst hp'
        exact ⟨rfl, _, _, ⟨(n8.grow (below_drewN _ _)).top, (u8.grow (below_drewN _ _)).top⟩, vblk_grow V8 (below_drewN _ _), T8.trans (Tn.of_below (below_drewN _ _) (by have := T8.size; omega))⟩
    · have eB : B = A := by rw [← hB.out]; exact if_neg hiA
      subst eB
      by_cases hend : B = (n1 : Int)
      · have hendb : (B == (n1 : Int)) = true := by simpa using hend
        have eF : F = 0 := hF.out.symm.trans (if_neg (by have := hn1.out; omega))
        subst eF
        clear hend
        go_wp2
        go_big_quiet (fail)
        go_wp2_with (first | (refine wpList_store_n rfl _ _ rfl b 3 0 rfl rfl (vblk_grow V3 (below_drewN _ _)) (by simp) ?_; intro w9 hO9 V9) | (fail))
        go_ret
        have hp' := hp.out
        subst hp'
        exact ⟨rfl, _, _, ⟨((L.out.n.grow (below_drewN _ _)).only hO9 (vblk_grow V3 (below_drewN _ _)) (by decide)).top, ((L.out.u.grow (below_drewN _ _)).only hO9 (vblk_grow V3 (below_drewN _ _)) (by decide)).top⟩, V9, (L.out.t.trans (Tn.of_below (below_drewN _ _) (by omega))).trans (Tn.of_only hO9)⟩
      · have hendb : (B == (n1 : Int)) = false := by simpa using hend
        have eF : F = B := hF.out.symm.trans (if_pos (by have := hn1.out; omega))
        subst eF
        clear hend
        go_wp2
        go_big_quiet (fail)
        go_wp2
        go_ret
        have hp' := hp.out
        subst hp'
        exact ⟨rfl, _, _, ⟨(L.out.n.grow (below_drewN _ _)).top, (L.out.u.grow (below_drewN _ _)).top⟩, vblk_grow V3 (below_drewN _ _), L.out.t.trans (Tn.of_below (below_drewN _ _) (by omega))⟩

theorem l8LeaveC_no (y0 y4 y5 y6 : Value) (r : Rg) (s : ByteArray) (hp0 : posS s r.N < 0) (vN vU : Value) (b lo hi : Nat) (w : World) (own : OwnR w lo hi vN vU r) (hV : VBlk w b 32 [y0, vN, vU, .int .i64 r.A, y4, y5, y6]) :
    Calls Try.prog 113 #[.pointer (some ⟨b, 1, none⟩), .string s] w fun e w' => e = .returned (.bool false) ∧ w' = w := by
  obtain ⟨N, U, A⟩ := r
  obtain ⟨a, n, cap, rfl⟩ := own.n.slice
  have O : Hid (OwnR w lo hi (.slice a n cap) vU ⟨N, U, A⟩) := own
  obtain ⟨-, c0, c1, c2, -, -, -⟩ := cells7c hV
  dsimp only at hp0
  clear own hV
  obtain ⟨p, hp⟩ := hid_ex (posS s N)
  rw [hp.out] at hp0
  go_enter Try.func113, Try.ntmps113
  go_wp2_with (first | (go_at_call 137; refine (l1At_any N _ _ _ O.out.n.rd).mono ?_; rintro e wq ⟨rfl, hq⟩; subst wq; rw [hp.out]) | (fail))
  go_ret
  exact ⟨rfl, rfl⟩


/-- while the hand goes on: the ring in its variable -/
structure TuC (y0 y4 y5 y6 : Value) (lo hi b : Nat) (w wr : World) (vN vU : Value) (N : List ByteArray) (U : List Bool) (a : Nat) : Prop where
  n : Own encS wr lo hi vN N
  u : Own encB wr lo hi vU U
  v : VBlk wr b 32 [y0, vN, vU, .int .i64 a, y4, y5, y6]
  t : Tn lo b w wr
theorem TuC.drewN {y0 y4 y5 y6 : Value} {lo hi b : Nat} {w wr : World} {vN vU : Value} {N : List ByteArray} {U : List Bool} {a : Nat} (h : TuC y0 y4 y5 y6 lo hi b w wr vN vU N U a) (hl : lo ≤ w.heap.size) (k : Nat) : TuC y0 y4 y5 y6 lo hi b w (wr.drewN k) vN vU N U a :=
  ⟨h.n.grow (below_drewN _ _), h.u.grow (below_drewN _ _), vblk_grow h.v (below_drewN _ _), h.t.trans (Tn.of_below (below_drewN _ _) (Nat.le_trans hl h.t.size))⟩
theorem TuC.step {y0 y4 y5 y6 : Value} {lo hi b g m dc : Nat} {w wq : World} {vN : Value} {N : List ByteArray} {U : List Bool} {a a2 : Nat} {z : Int} (h : TuC y0 y4 y5 y6 lo hi b w wq vN (.slice (some ⟨g, 0, none⟩) m dc) N U a) (ha : a < U.length) (hz : z = a2) :
    TuC y0 y4 y5 y6 lo hi b w ((wq.setCell ⟨g, a, none⟩ (.bool false)).setCell ⟨b, 3, none⟩ (.int .i64 z)).drew vN (.slice (some ⟨g, 0, none⟩) m dc) N (U.set a false) a2 := by
  subst hz
  have hT : Ty lo 4 wq (wq.setCell ⟨g, a, none⟩ (.bool false)) := by
    obtain ⟨g', e', hg, -, -⟩ := ownB_cell h.u a ha
    cases e'
    rcases h.u.row with ⟨rfl, -⟩ | ⟨g2, cap2, cur, e2, -, hb, -⟩
    · simp at ha
    · cases e2
      exact ⟨(only_set wq g a _).2.2 _ hg.1, fun k cur' t' f hk hn => (only_set wq g a _).2.1 k fun e => by
        rw [e, hb] at hk
        simp at hk
        exact hn hk.2.1.symm⟩
  have hV := hT.vblk h.v (by decide)
  have hO := only_set (wq.setCell ⟨g, a, none⟩ (.bool false)) b 3 (.int .i64 (a2 : Int))
  have hd : Below ((wq.setCell ⟨g, a, none⟩ (.bool false)).setCell ⟨b, 3, none⟩ (.int .i64 (a2 : Int))).heap.size ((wq.setCell ⟨g, a, none⟩ (.bool false)).setCell ⟨b, 3, none⟩ (.int .i64 (a2 : Int))) ((wq.setCell ⟨g, a, none⟩ (.bool false)).setCell ⟨b, 3, none⟩ (.int .i64 (a2 : Int))).drew := (Below.refl _ _).drew
  have ht := (h.t.trans (Tn.of_ty hT (.inr rfl))).trans (Tn.of_only hO)
  exact ⟨((hT.own h.n (by decide)).only hO hV (by decide)).grow hd, ((ownB_set h.u a ha false).only hO hV (by decide)).grow hd, vblk_grow (hV.set 3 (.int .i64 (a2 : Int))) hd, ⟨ht.os, ht.tape, ht.output, ht.size, ht.low, ht.keep⟩⟩

end Go.Proofs.Ytmnjmghlkiljhaa.rg
