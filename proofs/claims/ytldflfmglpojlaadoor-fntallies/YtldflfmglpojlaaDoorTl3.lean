/- Contracts of chapter 15: Counted of the program; TallyOk and Counted of the model. -/
import Derived.Test.YtldflfmglpojlaaDoorTl2
namespace Go.Proofs.YtldflfmglpojlaaDoor.rg
open Go.ChangeShapes Go.WideShapes Go.ChangeAt Go.RowKit
open Go.Deep Go.Joins
open Go.Proofs.YtldflfmglpojlaaDoor.ce Go.Proofs.YtldflfmglpojlaaDoor.ro Go.Proofs.YtldflfmglpojlaaDoor.cm
set_option linter.unusedVariables false

def tlV (t : Tl) : Array Value := #[.int .i64 t.A, .int .i64 t.H, .int .i64 t.S, .int .i64 t.D, .int .i64 t.O]
def entR' (b : Bool) (t : Tl) : List (Int × Int) := if b = true then ent t else []
theorem co_get (t : Tl) (c : Cm) (r : Rp) : (Value.agg #[.int .i64 ((mget (rsL (entR t) (hdV c.V ++ hdK r.K)) 0).getD 0), .int .i64 ((mget (rsL (entR t) (hdV c.V ++ hdK r.K)) 1).getD 0), .int .i64 ((mget (rsL (entR t) (hdV c.V ++ hdK r.K)) 2).getD 0), .int .i64 ((mget (rsL (entR t) (hdV c.V ++ hdK r.K)) 3).getD 0), .int .i64 ((mget (rsL (entR t) (hdV c.V ++ hdK r.K)) 4).getD 0)]) = .agg (csTl (coT t c r)).toArray := by
  rw [rs_ent]
  unfold coT
  split
  · rfl
  · rfl
set_option maxHeartbeats 2000000 in
theorem implCounted_any (t : Tl) (c : Cm) (r : Rp) (w : World) :
    Calls Tryd.prog 6 #[.agg (csTl t).toArray, .agg (csCm c).toArray, .agg (csRp r).toArray] w fun e w' => e = .returned (.agg (csTl (coT t c r)).toArray) ∧ Below w.heap.size w w' := by
  obtain ⟨T2, hT2⟩ := hid_ex (coT t c r)
  have hg := co_get t c r
  have hin := ent_in t
  rw [hT2.out] at hg ⊢
  clear hT2
  obtain ⟨X, hX⟩ := hid_ex (hdV c.V ++ hdK r.K)
  rw [hX.out] at hg
  have HG : Hid _ := hg
  have HIN : Hid _ := hin
  clear hg hin
  obtain ⟨A2, H2, S2, D2, O2⟩ := T2
  obtain ⟨l, hl⟩ := hid_ex (entR t)
  rw [hl.out] at HG HIN
  have hsum := sumsOf_any t
  rw [hl.out] at hsum
  have hhd := headingsOf_any c r
  rw [hX.out] at hhd
  have HS : Hid _ := hsum
  have HH : Hid _ := hhd
  clear hsum hhd hl hX
  obtain ⟨A, H, S, D, O⟩ := t
  obtain ⟨V, N, F, U, B, C, E, Q⟩ := c
  obtain ⟨K, N2, F2, B2, C2, M2⟩ := r
  simp only [csTl, csCm, csRp] at HS HH ⊢
  have m1 : Hid True := trivial
  have m2 : Hid True := trivial
  have m3 : Hid True := trivial
  have m4 : Hid True := trivial
  have m5 : Hid True := trivial
  have m6 : Hid True := trivial
  have m7 : Hid True := trivial
  have m8 : Hid True := trivial
  go_enter Tryd.func6, Tryd.ntmps6
  go_wp2_with (first
    | (clear m1; refine wpList_box_v rfl 25 _ rfl [.int .i64 A, .int .i64 H, .int .i64 S, .int .i64 D, .int .i64 O] rfl ?_; intro b1 w1 hb1 hw1 hB1 V1; have hz1 := hB1.size)
    | (clear m2; refine wpList_box_v rfl 27 _ rfl [.int .i64 V, .string N, .int .i64 F, .int .i64 U, .string B, .int .i64 C, .int .i64 E, .bool Q] rfl ?_; intro b2 w2 hb2 hw2 hB2 V2; replace V1 := vblk_grow V1 hB2; have hz2 := hB2.size)
    | (clear m3; refine wpList_box_v rfl 29 _ rfl [.int .i64 K, .string N2, .int .i64 F2, .string B2, .int .i64 C2, .int .i64 M2] rfl ?_; intro b3 w3 hb3 hw3 hB3 V3; replace V1 := vblk_grow V1 hB3; replace V2 := vblk_grow V2 hB3; have hz3 := hB3.size)
    | (clear m4; refine wpList_alloc_v rfl 25 rfl _ zeroTl ?_; intro b4 w4 hb4 hw4 hB4 V4; replace V1 := vblk_grow V1 hB4; replace V2 := vblk_grow V2 hB4; replace V3 := vblk_grow V3 hB4; have hz4 := hB4.size)
    | (clear m5; refine wpList_load_r rfl 25 _ rfl b1 0 [.int .i64 A, .int .i64 H, .int .i64 S, .int .i64 D, .int .i64 O] rfl _ Tryd.underlying25 rfl sizeTl V1.range ?_)
    | (go_at_call 17; refine (HS.out _).mono ?_; rintro e w5 ⟨bm, rfl, M5, hB5, hbm⟩; have W2 := vblk_grow V2 hB5; have W3 := vblk_grow V3 hB5; have W4 := vblk_grow V4 hB5; have hz5 := hB5.size; have MM5 : Hid (MapL w5 bm l) := M5; clear M5)
    | (clear m6; refine wpList_load_r rfl 27 _ rfl b2 0 [.int .i64 V, .string N, .int .i64 F, .int .i64 U, .string B, .int .i64 C, .int .i64 E, .bool Q] rfl _ Tryd.underlying27 rfl sizeCm W2.range ?_)
    | (clear m7; refine wpList_load_r rfl 29 _ rfl b3 0 [.int .i64 K, .string N2, .int .i64 F2, .string B2, .int .i64 C2, .int .i64 M2] rfl _ Tryd.underlying29 rfl sizeRp W3.range ?_)
    | (go_at_call 19; refine (HH.out _).mono ?_; rintro e w6 ⟨vh, rfl, o6, hB6⟩; have X4 := vblk_grow W4 hB6; have hz6 := hB6.size; have MM6 : Hid (MapL w6 bm l) := MM5.out.grow hB6)
    | (go_at_call 18; refine (raise_any l HIN.out bm X _ _ MM6.out o6.rd).mono ?_; rintro e w7 ⟨rfl, M7, hO7⟩; have Y4 := vblk_only X4 hO7 (MM6.out.apart X4).symm; have hz7 := hO7.1; have hB7 : Below w.heap.size w w7 := (((((hB1.trans (hB2.mono hz1)).trans (hB3.mono (by omega))).trans (hB4.mono (by omega))).trans (hB5.mono (by omega))).trans (hB6.mono (by omega))).trans (hO7.2.2 _ (by omega)); have MM7 : Hid (MapL w7 bm (rsL l X)) := M7; clear M7)
    | (go_at_call 20; refine (tally_any _ bm _ MM7.out).mono ?_; rintro e w8 ⟨rfl, hB8⟩; have Z4 := vblk_grow Y4 hB8; have hz8 := hB8.size; rw [HG.out])
    | (clear m8; refine wpList_store_v rfl 25 _ _ rfl b4 [.int .i64 A2, .int .i64 H2, .int .i64 S2, .int .i64 D2, .int .i64 O2] rfl rfl sizeTl Z4 rfl (oneTl ⟨A2, H2, S2, D2, O2⟩) ?_; intro w9 hO9 V9; have hB9 := (hB7.trans (hB8.mono (by omega))).trans (hO9.2.2 _ (by omega)))
    | (fail))
  exact row_retv rfl rfl V9 Tryd.underlying25 sizeTl rfl ⟨rfl, hB9⟩
set_option maxHeartbeats 2000000 in
theorem specTallyOk_any (A H S D O : Int) (y : Bool) (hy : Hid (tallyB ⟨A, H, S, D, O⟩ = y)) (w : World) :
    Calls Tryd.prog 10 #[.agg #[.int .i64 A, .int .i64 H, .int .i64 S, .int .i64 D, .int .i64 O]] w fun e w' => e = .returned (.bool y) ∧ Below w.heap.size w w' := by
  have hy2 : Hid ((inT A && inT H && inT S && inT D && inT O) = y) := hy
  clear hy
  obtain ⟨zA, hA⟩ := hid_ex (inT A)
  obtain ⟨zH, hH⟩ := hid_ex (inT H)
  obtain ⟨zS, hS⟩ := hid_ex (inT S)
  obtain ⟨zD, hD⟩ := hid_ex (inT D)
  obtain ⟨zO, hO⟩ := hid_ex (inT O)
  rw [hA.out, hH.out, hS.out, hD.out, hO.out] at hy2
  cases zA with
  | false =>
    have hy3 : y = false := by rw [← hy2.out]; rfl
    clear hy2
    subst hy3
    have k0 : Hid True := trivial
    go_enter Tryd.func10, Tryd.ntmps10
    go_wp2_with (first | (refine wpList_box_v rfl 25 _ rfl [.int .i64 A, .int .i64 H, .int .i64 S, .int .i64 D, .int .i64 O] rfl ?_; intro b1 w1 hb1 hw1 hB1 V1; obtain ⟨c0, c1, c2, c3, c4⟩ := cellsTl V1) | (clear k0; go_at_call 23; refine (l15In_any A _).mono ?_; rintro e wq ⟨rfl, hq⟩; subst wq; rw [hA.out]) | (fail))
    go_ret
    exact ⟨rfl, hB1⟩
  | true =>
    cases zH with
    | false =>
      have hy3 : y = false := by rw [← hy2.out]; rfl
      clear hy2
      subst hy3
      have k0 : Hid True := trivial
      have k1 : Hid True := trivial
      go_enter Tryd.func10, Tryd.ntmps10
      go_wp2_with (first | (refine wpList_box_v rfl 25 _ rfl [.int .i64 A, .int .i64 H, .int .i64 S, .int .i64 D, .int .i64 O] rfl ?_; intro b1 w1 hb1 hw1 hB1 V1; obtain ⟨c0, c1, c2, c3, c4⟩ := cellsTl V1) | (clear k0; go_at_call 23; refine (l15In_any A _).mono ?_; rintro e wq ⟨rfl, hq⟩; subst wq; rw [hA.out]) | (clear k1; go_at_call 23; refine (l15In_any H _).mono ?_; rintro e wq ⟨rfl, hq⟩; subst wq; rw [hH.out]) | (fail))
      go_ret
      exact ⟨rfl, hB1⟩
    | true =>
      cases zS with
      | false =>
        have hy3 : y = false := by rw [← hy2.out]; rfl
        clear hy2
        subst hy3
        have k0 : Hid True := trivial
        have k1 : Hid True := trivial
        have k2 : Hid True := trivial
        go_enter Tryd.func10, Tryd.ntmps10
        go_wp2_with (first | (refine wpList_box_v rfl 25 _ rfl [.int .i64 A, .int .i64 H, .int .i64 S, .int .i64 D, .int .i64 O] rfl ?_; intro b1 w1 hb1 hw1 hB1 V1; obtain ⟨c0, c1, c2, c3, c4⟩ := cellsTl V1) | (clear k0; go_at_call 23; refine (l15In_any A _).mono ?_; rintro e wq ⟨rfl, hq⟩; subst wq; rw [hA.out]) | (clear k1; go_at_call 23; refine (l15In_any H _).mono ?_; rintro e wq ⟨rfl, hq⟩; subst wq; rw [hH.out]) | (clear k2; go_at_call 23; refine (l15In_any S _).mono ?_; rintro e wq ⟨rfl, hq⟩; subst wq; rw [hS.out]) | (fail))
        go_ret
        exact ⟨rfl, hB1⟩
      | true =>
        cases zD with
        | false =>
          have hy3 : y = false := by rw [← hy2.out]; rfl
          clear hy2
          subst hy3
          have k0 : Hid True := trivial
          have k1 : Hid True := trivial
          have k2 : Hid True := trivial
          have k3 : Hid True := trivial
          go_enter Tryd.func10, Tryd.ntmps10
          go_wp2_with (first | (refine wpList_box_v rfl 25 _ rfl [.int .i64 A, .int .i64 H, .int .i64 S, .int .i64 D, .int .i64 O] rfl ?_; intro b1 w1 hb1 hw1 hB1 V1; obtain ⟨c0, c1, c2, c3, c4⟩ := cellsTl V1) | (clear k0; go_at_call 23; refine (l15In_any A _).mono ?_; rintro e wq ⟨rfl, hq⟩; subst wq; rw [hA.out]) | (clear k1; go_at_call 23; refine (l15In_any H _).mono ?_; rintro e wq ⟨rfl, hq⟩; subst wq; rw [hH.out]) | (clear k2; go_at_call 23; refine (l15In_any S _).mono ?_; rintro e wq ⟨rfl, hq⟩; subst wq; rw [hS.out]) | (clear k3; go_at_call 23; refine (l15In_any D _).mono ?_; rintro e wq ⟨rfl, hq⟩; subst wq; rw [hD.out]) | (fail))
          go_ret
          exact ⟨rfl, hB1⟩
        | true =>
          cases zO with
          | false =>
            have hy3 : y = false := by rw [← hy2.out]; rfl
            clear hy2
            subst hy3
            have k0 : Hid True := trivial
            have k1 : Hid True := trivial
            have k2 : Hid True := trivial
            have k3 : Hid True := trivial
            have k4 : Hid True := trivial
            go_enter Tryd.func10, Tryd.ntmps10
            go_wp2_with (first | (refine wpList_box_v rfl 25 _ rfl [.int .i64 A, .int .i64 H, .int .i64 S, .int .i64 D, .int .i64 O] rfl ?_; intro b1 w1 hb1 hw1 hB1 V1; obtain ⟨c0, c1, c2, c3, c4⟩ := cellsTl V1) | (clear k0; go_at_call 23; refine (l15In_any A _).mono ?_; rintro e wq ⟨rfl, hq⟩; subst wq; rw [hA.out]) | (clear k1; go_at_call 23; refine (l15In_any H _).mono ?_; rintro e wq ⟨rfl, hq⟩; subst wq; rw [hH.out]) | (clear k2; go_at_call 23; refine (l15In_any S _).mono ?_; rintro e wq ⟨rfl, hq⟩; subst wq; rw [hS.out]) | (clear k3; go_at_call 23; refine (l15In_any D _).mono ?_; rintro e wq ⟨rfl, hq⟩; subst wq; rw [hD.out]) | (clear k4; go_at_call 23; refine (l15In_any O _).mono ?_; rintro e wq ⟨rfl, hq⟩; subst wq; rw [hO.out]) | (fail))
            go_ret
            exact ⟨rfl, hB1⟩
          | true =>
            have hy3 : y = true := by rw [← hy2.out]; rfl
            clear hy2
            subst hy3
            have k0 : Hid True := trivial
            have k1 : Hid True := trivial
            have k2 : Hid True := trivial
            have k3 : Hid True := trivial
            have k4 : Hid True := trivial
            go_enter Tryd.func10, Tryd.ntmps10
            go_wp2_with (first | (refine wpList_box_v rfl 25 _ rfl [.int .i64 A, .int .i64 H, .int .i64 S, .int .i64 D, .int .i64 O] rfl ?_; intro b1 w1 hb1 hw1 hB1 V1; obtain ⟨c0, c1, c2, c3, c4⟩ := cellsTl V1) | (clear k0; go_at_call 23; refine (l15In_any A _).mono ?_; rintro e wq ⟨rfl, hq⟩; subst wq; rw [hA.out]) | (clear k1; go_at_call 23; refine (l15In_any H _).mono ?_; rintro e wq ⟨rfl, hq⟩; subst wq; rw [hH.out]) | (clear k2; go_at_call 23; refine (l15In_any S _).mono ?_; rintro e wq ⟨rfl, hq⟩; subst wq; rw [hS.out]) | (clear k3; go_at_call 23; refine (l15In_any D _).mono ?_; rintro e wq ⟨rfl, hq⟩; subst wq; rw [hD.out]) | (clear k4; go_at_call 23; refine (l15In_any O _).mono ?_; rintro e wq ⟨rfl, hq⟩; subst wq; rw [hO.out]) | (fail))
            go_ret
            exact ⟨rfl, hB1⟩
theorem l1MinI_any (x y : Int) (w : World) : Calls Tryd.prog 43 #[.int .i64 x, .int .i64 y] w fun e w' => e = .returned (.int .i64 (if x < y then x else y)) ∧ w' = w := by
  by_cases h : x < y
  · rw [if_pos h]
    go_enter Tryd.func43, Tryd.ntmps43
    go_wp2
    go_ret
    exact ⟨rfl, rfl⟩
  · rw [if_neg h]
    go_enter Tryd.func43, Tryd.ntmps43
    go_wp2
    go_ret
    exact ⟨rfl, rfl⟩
theorem l15More_any (n : Int) (hn : 0 ≤ n ∧ n ≤ 1000000000) (w : World) : Calls Tryd.prog 34 #[.int .i64 n] w fun e w' => e = .returned (.int .i64 (moreT n)) ∧ w' = w := by
  have hw : IntKind.i64.wrap (n + 1) = n + 1 := by rw [IntKind.wrap_i64]; omega
  obtain ⟨y, hy⟩ := hid_ex (moreT n)
  have hm : Hid ((if (1000000000 : Int) < n + 1 then 1000000000 else n + 1) = y) := by unfold Hid; rw [← hy.out, moreT]; split <;> split <;> omega
  rw [hy.out]
  go_enter Tryd.func34, Tryd.ntmps34
  go_wp2_with (first | (go_at_call 43; refine (l1MinI_any _ _ _).mono ?_; rintro e wq ⟨rfl, hq⟩; subst wq; rw [hm.out]) | (fail))
  go_ret
  exact ⟨rfl, rfl⟩
theorem vblk_within {lo hi : Nat} {w w' : World} {b : Nat} {T : TypeId} {vs : List Value} (h : VBlk w b T vs) (k : Within lo hi w w') (hn : b < lo ∨ hi ≤ b) : VBlk w' b T vs := h.of (k.block b h.lt hn)
set_option maxRecDepth 100000 in
set_option maxHeartbeats 4000000 in
theorem l15Count_any (b : Nat) (A H S D O : Int) (V : Int) (N : ByteArray) (F U : Int) (B : ByteArray) (C E : Int) (Q : Bool) (K : Int) (N2 : ByteArray) (F2 : Int) (B2 : ByteArray) (C2 M2 : Int) (hok : tallyB ⟨A, H, S, D, O⟩ = true) (w : World) (V0 : VBlk w b 25 [.int .i64 A, .int .i64 H, .int .i64 S, .int .i64 D, .int .i64 O]) :
    Calls Tryd.prog 22 #[.pointer (some ⟨b, 0, none⟩), .agg #[.int .i64 V, .string N, .int .i64 F, .int .i64 U, .string B, .int .i64 C, .int .i64 E, .bool Q], .agg #[.int .i64 K, .string N2, .int .i64 F2, .string B2, .int .i64 C2, .int .i64 M2]] w fun e w' => e = .returned (.tuple #[]) ∧ VBlk w' b 25 (csTl (cntT ⟨A, H, S, D, O⟩ ⟨V, N, F, U, B, C, E, Q⟩ ⟨K, N2, F2, B2, C2, M2⟩)) ∧ Within b (b + 1) w w' := by
  have hq : Hid (TlOk ⟨A, H, S, D, O⟩) := tallyB_iff.1 hok
  have VV : Hid (VBlk w b 25 [.int .i64 A, .int .i64 H, .int .i64 S, .int .i64 D, .int .i64 O]) := V0
  have hbw := V0.lt
  clear hok V0
  have e1 : Hid (csTl (cntT ⟨A, H, S, D, O⟩ ⟨V, N, F, U, B, C, E, Q⟩ ⟨K, N2, F2, B2, C2, M2⟩) = [.int .i64 (if V = 1 ∨ V = 2 then moreT A else A), .int .i64 (if K = 5 then moreT H else H), .int .i64 (if K = 1 ∨ K = 6 then moreT S else S), .int .i64 D, .int .i64 O]) := by
    unfold Hid csTl cntT getV keptK
    simp
  rw [e1.out]
  clear e1
  by_cases v1 : V = 1
  · subst v1
    by_cases k5 : K = 5
    · subst k5
      have m0 : Hid True := trivial
      have m1 : Hid True := trivial
      have hne1 : Hid True := trivial
      go_enter Tryd.func22, Tryd.ntmps22
      go_wp2_with (first | (clear m0; refine wpList_box_v rfl 27 _ rfl [.int .i64 1, .string N, .int .i64 F, .int .i64 U, .string B, .int .i64 C, .int .i64 E, .bool Q] rfl ?_; intro b1 w1 hb1 hw1 hB1 V1; have hz1 := hB1.size) | (clear m1; refine wpList_box_v rfl 29 _ rfl [.int .i64 5, .string N2, .int .i64 F2, .string B2, .int .i64 C2, .int .i64 M2] rfl ?_; intro b2 w2 hb2 hw2 hB2 V2; replace V1 := vblk_grow V1 hB2; have hz2 := hB2.size; have hBB : Below w.heap.size w w2 := hB1.trans (hB2.mono hz1); have W0 := vblk_grow VV.out hBB; have g0 := V1.cell 0 (by simp); have g1 := V2.cell 0 (by simp); simp only [List.getElem_cons_zero] at g0 g1; obtain ⟨c0, c1, c2, c3, c4⟩ := cellsTl W0; have r0 := W0.frozen 0; have r1 := W0.frozen 1; have r2 := W0.frozen 2) | (go_at_call 34; refine (l15More_any A hq.out.a _).mono ?_; rintro e wq ⟨rfl, hqq⟩; subst wq) | (go_at_call 34; refine (l15More_any H hq.out.h _).mono ?_; rintro e wq ⟨rfl, hqq⟩; subst wq) | (fail))
      exact bodyPost_end (v := .tuple #[]) (by simp [results, Tryd.f22, go_sem]) rfl ⟨rfl, by simpa using ((W0.set 0 (.int .i64 (moreT A))).set 1 (.int .i64 (moreT H))), (((Within.of_below hBB (Nat.le_refl _)).setCell (p := ⟨b, 0, none⟩) (Nat.le_refl _) (Nat.lt_succ_self _) (.int .i64 (moreT A))).setCell (p := ⟨b, 1, none⟩) (Nat.le_refl _) (Nat.lt_succ_self _) (.int .i64 (moreT H)))⟩
    have q5 : (K == 5) = false := by simpa using k5
    by_cases k1 : K = 1
    · subst k1
      have m0 : Hid True := trivial
      have m1 : Hid True := trivial
      have hne1 : Hid True := trivial
      go_enter Tryd.func22, Tryd.ntmps22
      go_wp2_with (first | (clear m0; refine wpList_box_v rfl 27 _ rfl [.int .i64 1, .string N, .int .i64 F, .int .i64 U, .string B, .int .i64 C, .int .i64 E, .bool Q] rfl ?_; intro b1 w1 hb1 hw1 hB1 V1; have hz1 := hB1.size) | (clear m1; refine wpList_box_v rfl 29 _ rfl [.int .i64 1, .string N2, .int .i64 F2, .string B2, .int .i64 C2, .int .i64 M2] rfl ?_; intro b2 w2 hb2 hw2 hB2 V2; replace V1 := vblk_grow V1 hB2; have hz2 := hB2.size; have hBB : Below w.heap.size w w2 := hB1.trans (hB2.mono hz1); have W0 := vblk_grow VV.out hBB; have g0 := V1.cell 0 (by simp); have g1 := V2.cell 0 (by simp); simp only [List.getElem_cons_zero] at g0 g1; obtain ⟨c0, c1, c2, c3, c4⟩ := cellsTl W0; have r0 := W0.frozen 0; have r1 := W0.frozen 1; have r2 := W0.frozen 2) | (go_at_call 34; refine (l15More_any A hq.out.a _).mono ?_; rintro e wq ⟨rfl, hqq⟩; subst wq) | (go_at_call 34; refine (l15More_any S hq.out.s _).mono ?_; rintro e wq ⟨rfl, hqq⟩; subst wq) | (fail))
      exact bodyPost_end (v := .tuple #[]) (by simp [results, Tryd.f22, go_sem]) rfl ⟨rfl, by simpa using ((W0.set 0 (.int .i64 (moreT A))).set 2 (.int .i64 (moreT S))), (((Within.of_below hBB (Nat.le_refl _)).setCell (p := ⟨b, 0, none⟩) (Nat.le_refl _) (Nat.lt_succ_self _) (.int .i64 (moreT A))).setCell (p := ⟨b, 2, none⟩) (Nat.le_refl _) (Nat.lt_succ_self _) (.int .i64 (moreT S)))⟩
    have q1 : (K == 1) = false := by simpa using k1
    by_cases k6 : K = 6
    · subst k6
      have m0 : Hid True := trivial
      have m1 : Hid True := trivial
      have hne1 : Hid True := trivial
      go_enter Tryd.func22, Tryd.ntmps22
      go_wp2_with (first | (clear m0; refine wpList_box_v rfl 27 _ rfl [.int .i64 1, .string N, .int .i64 F, .int .i64 U, .string B, .int .i64 C, .int .i64 E, .bool Q] rfl ?_; intro b1 w1 hb1 hw1 hB1 V1; have hz1 := hB1.size) | (clear m1; refine wpList_box_v rfl 29 _ rfl [.int .i64 6, .string N2, .int .i64 F2, .string B2, .int .i64 C2, .int .i64 M2] rfl ?_; intro b2 w2 hb2 hw2 hB2 V2; replace V1 := vblk_grow V1 hB2; have hz2 := hB2.size; have hBB : Below w.heap.size w w2 := hB1.trans (hB2.mono hz1); have W0 := vblk_grow VV.out hBB; have g0 := V1.cell 0 (by simp); have g1 := V2.cell 0 (by simp); simp only [List.getElem_cons_zero] at g0 g1; obtain ⟨c0, c1, c2, c3, c4⟩ := cellsTl W0; have r0 := W0.frozen 0; have r1 := W0.frozen 1; have r2 := W0.frozen 2) | (go_at_call 34; refine (l15More_any A hq.out.a _).mono ?_; rintro e wq ⟨rfl, hqq⟩; subst wq) | (go_at_call 34; refine (l15More_any S hq.out.s _).mono ?_; rintro e wq ⟨rfl, hqq⟩; subst wq) | (fail))
      exact bodyPost_end (v := .tuple #[]) (by simp [results, Tryd.f22, go_sem]) rfl ⟨rfl, by simpa using ((W0.set 0 (.int .i64 (moreT A))).set 2 (.int .i64 (moreT S))), (((Within.of_below hBB (Nat.le_refl _)).setCell (p := ⟨b, 0, none⟩) (Nat.le_refl _) (Nat.lt_succ_self _) (.int .i64 (moreT A))).setCell (p := ⟨b, 2, none⟩) (Nat.le_refl _) (Nat.lt_succ_self _) (.int .i64 (moreT S)))⟩
    have q6 : (K == 6) = false := by simpa using k6
    have m0 : Hid True := trivial
    have m1 : Hid True := trivial
    have hne1 : Hid True := trivial
    go_enter Tryd.func22, Tryd.ntmps22
    go_wp2_with (first | (clear m0; refine wpList_box_v rfl 27 _ rfl [.int .i64 1, .string N, .int .i64 F, .int .i64 U, .string B, .int .i64 C, .int .i64 E, .bool Q] rfl ?_; intro b1 w1 hb1 hw1 hB1 V1; have hz1 := hB1.size) | (clear m1; refine wpList_box_v rfl 29 _ rfl [.int .i64 K, .string N2, .int .i64 F2, .string B2, .int .i64 C2, .int .i64 M2] rfl ?_; intro b2 w2 hb2 hw2 hB2 V2; replace V1 := vblk_grow V1 hB2; have hz2 := hB2.size; have hBB : Below w.heap.size w w2 := hB1.trans (hB2.mono hz1); have W0 := vblk_grow VV.out hBB; have g0 := V1.cell 0 (by simp); have g1 := V2.cell 0 (by simp); simp only [List.getElem_cons_zero] at g0 g1; obtain ⟨c0, c1, c2, c3, c4⟩ := cellsTl W0; have r0 := W0.frozen 0; have r1 := W0.frozen 1; have r2 := W0.frozen 2) | (go_at_call 34; refine (l15More_any A hq.out.a _).mono ?_; rintro e wq ⟨rfl, hqq⟩; subst wq) | (fail))
    exact bodyPost_end (v := .tuple #[]) (by simp [results, Tryd.f22, go_sem]) rfl ⟨rfl, by simpa [k5, k1, k6] using (W0.set 0 (.int .i64 (moreT A))), ((Within.of_below hBB (Nat.le_refl _)).setCell (p := ⟨b, 0, none⟩) (Nat.le_refl _) (Nat.lt_succ_self _) (.int .i64 (moreT A)))⟩
  have p1 : (V == 1) = false := by simpa using v1
  by_cases v2 : V = 2
  · subst v2
    by_cases k5 : K = 5
    · subst k5
      have m0 : Hid True := trivial
      have m1 : Hid True := trivial
      have hne1 : Hid True := trivial
      go_enter Tryd.func22, Tryd.ntmps22
      go_wp2_with (first | (clear m0; refine wpList_box_v rfl 27 _ rfl [.int .i64 2, .string N, .int .i64 F, .int .i64 U, .string B, .int .i64 C, .int .i64 E, .bool Q] rfl ?_; intro b1 w1 hb1 hw1 hB1 V1; have hz1 := hB1.size) | (clear m1; refine wpList_box_v rfl 29 _ rfl [.int .i64 5, .string N2, .int .i64 F2, .string B2, .int .i64 C2, .int .i64 M2] rfl ?_; intro b2 w2 hb2 hw2 hB2 V2; replace V1 := vblk_grow V1 hB2; have hz2 := hB2.size; have hBB : Below w.heap.size w w2 := hB1.trans (hB2.mono hz1); have W0 := vblk_grow VV.out hBB; have g0 := V1.cell 0 (by simp); have g1 := V2.cell 0 (by simp); simp only [List.getElem_cons_zero] at g0 g1; obtain ⟨c0, c1, c2, c3, c4⟩ := cellsTl W0; have r0 := W0.frozen 0; have r1 := W0.frozen 1; have r2 := W0.frozen 2) | (go_at_call 34; refine (l15More_any A hq.out.a _).mono ?_; rintro e wq ⟨rfl, hqq⟩; subst wq) | (go_at_call 34; refine (l15More_any H hq.out.h _).mono ?_; rintro e wq ⟨rfl, hqq⟩; subst wq) | (fail))
      exact bodyPost_end (v := .tuple #[]) (by simp [results, Tryd.f22, go_sem]) rfl ⟨rfl, by simpa using ((W0.set 0 (.int .i64 (moreT A))).set 1 (.int .i64 (moreT H))), (((Within.of_below hBB (Nat.le_refl _)).setCell (p := ⟨b, 0, none⟩) (Nat.le_refl _) (Nat.lt_succ_self _) (.int .i64 (moreT A))).setCell (p := ⟨b, 1, none⟩) (Nat.le_refl _) (Nat.lt_succ_self _) (.int .i64 (moreT H)))⟩
    have q5 : (K == 5) = false := by simpa using k5
    by_cases k1 : K = 1
    · subst k1
      have m0 : Hid True := trivial
      have m1 : Hid True := trivial
      have hne1 : Hid True := trivial
      go_enter Tryd.func22, Tryd.ntmps22
      go_wp2_with (first | (clear m0; refine wpList_box_v rfl 27 _ rfl [.int .i64 2, .string N, .int .i64 F, .int .i64 U, .string B, .int .i64 C, .int .i64 E, .bool Q] rfl ?_; intro b1 w1 hb1 hw1 hB1 V1; have hz1 := hB1.size) | (clear m1; refine wpList_box_v rfl 29 _ rfl [.int .i64 1, .string N2, .int .i64 F2, .string B2, .int .i64 C2, .int .i64 M2] rfl ?_; intro b2 w2 hb2 hw2 hB2 V2; replace V1 := vblk_grow V1 hB2; have hz2 := hB2.size; have hBB : Below w.heap.size w w2 := hB1.trans (hB2.mono hz1); have W0 := vblk_grow VV.out hBB; have g0 := V1.cell 0 (by simp); have g1 := V2.cell 0 (by simp); simp only [List.getElem_cons_zero] at g0 g1; obtain ⟨c0, c1, c2, c3, c4⟩ := cellsTl W0; have r0 := W0.frozen 0; have r1 := W0.frozen 1; have r2 := W0.frozen 2) | (go_at_call 34; refine (l15More_any A hq.out.a _).mono ?_; rintro e wq ⟨rfl, hqq⟩; subst wq) | (go_at_call 34; refine (l15More_any S hq.out.s _).mono ?_; rintro e wq ⟨rfl, hqq⟩; subst wq) | (fail))
      exact bodyPost_end (v := .tuple #[]) (by simp [results, Tryd.f22, go_sem]) rfl ⟨rfl, by simpa using ((W0.set 0 (.int .i64 (moreT A))).set 2 (.int .i64 (moreT S))), (((Within.of_below hBB (Nat.le_refl _)).setCell (p := ⟨b, 0, none⟩) (Nat.le_refl _) (Nat.lt_succ_self _) (.int .i64 (moreT A))).setCell (p := ⟨b, 2, none⟩) (Nat.le_refl _) (Nat.lt_succ_self _) (.int .i64 (moreT S)))⟩
    have q1 : (K == 1) = false := by simpa using k1
    by_cases k6 : K = 6
    · subst k6
      have m0 : Hid True := trivial
      have m1 : Hid True := trivial
      have hne1 : Hid True := trivial
      go_enter Tryd.func22, Tryd.ntmps22
      go_wp2_with (first | (clear m0; refine wpList_box_v rfl 27 _ rfl [.int .i64 2, .string N, .int .i64 F, .int .i64 U, .string B, .int .i64 C, .int .i64 E, .bool Q] rfl ?_; intro b1 w1 hb1 hw1 hB1 V1; have hz1 := hB1.size) | (clear m1; refine wpList_box_v rfl 29 _ rfl [.int .i64 6, .string N2, .int .i64 F2, .string B2, .int .i64 C2, .int .i64 M2] rfl ?_; intro b2 w2 hb2 hw2 hB2 V2; replace V1 := vblk_grow V1 hB2; have hz2 := hB2.size; have hBB : Below w.heap.size w w2 := hB1.trans (hB2.mono hz1); have W0 := vblk_grow VV.out hBB; have g0 := V1.cell 0 (by simp); have g1 := V2.cell 0 (by simp); simp only [List.getElem_cons_zero] at g0 g1; obtain ⟨c0, c1, c2, c3, c4⟩ := cellsTl W0; have r0 := W0.frozen 0; have r1 := W0.frozen 1; have r2 := W0.frozen 2) | (go_at_call 34; refine (l15More_any A hq.out.a _).mono ?_; rintro e wq ⟨rfl, hqq⟩; subst wq) | (go_at_call 34; refine (l15More_any S hq.out.s _).mono ?_; rintro e wq ⟨rfl, hqq⟩; subst wq) | (fail))
      exact bodyPost_end (v := .tuple #[]) (by simp [results, Tryd.f22, go_sem]) rfl ⟨rfl, by simpa using ((W0.set 0 (.int .i64 (moreT A))).set 2 (.int .i64 (moreT S))), (((Within.of_below hBB (Nat.le_refl _)).setCell (p := ⟨b, 0, none⟩) (Nat.le_refl _) (Nat.lt_succ_self _) (.int .i64 (moreT A))).setCell (p := ⟨b, 2, none⟩) (Nat.le_refl _) (Nat.lt_succ_self _) (.int .i64 (moreT S)))⟩
    have q6 : (K == 6) = false := by simpa using k6
    have m0 : Hid True := trivial
    have m1 : Hid True := trivial
    have hne1 : Hid True := trivial
    go_enter Tryd.func22, Tryd.ntmps22
    go_wp2_with (first | (clear m0; refine wpList_box_v rfl 27 _ rfl [.int .i64 2, .string N, .int .i64 F, .int .i64 U, .string B, .int .i64 C, .int .i64 E, .bool Q] rfl ?_; intro b1 w1 hb1 hw1 hB1 V1; have hz1 := hB1.size) | (clear m1; refine wpList_box_v rfl 29 _ rfl [.int .i64 K, .string N2, .int .i64 F2, .string B2, .int .i64 C2, .int .i64 M2] rfl ?_; intro b2 w2 hb2 hw2 hB2 V2; replace V1 := vblk_grow V1 hB2; have hz2 := hB2.size; have hBB : Below w.heap.size w w2 := hB1.trans (hB2.mono hz1); have W0 := vblk_grow VV.out hBB; have g0 := V1.cell 0 (by simp); have g1 := V2.cell 0 (by simp); simp only [List.getElem_cons_zero] at g0 g1; obtain ⟨c0, c1, c2, c3, c4⟩ := cellsTl W0; have r0 := W0.frozen 0; have r1 := W0.frozen 1; have r2 := W0.frozen 2) | (go_at_call 34; refine (l15More_any A hq.out.a _).mono ?_; rintro e wq ⟨rfl, hqq⟩; subst wq) | (fail))
    exact bodyPost_end (v := .tuple #[]) (by simp [results, Tryd.f22, go_sem]) rfl ⟨rfl, by simpa [k5, k1, k6] using (W0.set 0 (.int .i64 (moreT A))), ((Within.of_below hBB (Nat.le_refl _)).setCell (p := ⟨b, 0, none⟩) (Nat.le_refl _) (Nat.lt_succ_self _) (.int .i64 (moreT A)))⟩
  have p2 : (V == 2) = false := by simpa using v2
  by_cases k5 : K = 5
  · subst k5
    have m0 : Hid True := trivial
    have m1 : Hid True := trivial
    have hne1 : Hid True := trivial
    go_enter Tryd.func22, Tryd.ntmps22
    go_wp2_with (first | (clear m0; refine wpList_box_v rfl 27 _ rfl [.int .i64 V, .string N, .int .i64 F, .int .i64 U, .string B, .int .i64 C, .int .i64 E, .bool Q] rfl ?_; intro b1 w1 hb1 hw1 hB1 V1; have hz1 := hB1.size) | (clear m1; refine wpList_box_v rfl 29 _ rfl [.int .i64 5, .string N2, .int .i64 F2, .string B2, .int .i64 C2, .int .i64 M2] rfl ?_; intro b2 w2 hb2 hw2 hB2 V2; replace V1 := vblk_grow V1 hB2; have hz2 := hB2.size; have hBB : Below w.heap.size w w2 := hB1.trans (hB2.mono hz1); have W0 := vblk_grow VV.out hBB; have g0 := V1.cell 0 (by simp); have g1 := V2.cell 0 (by simp); simp only [List.getElem_cons_zero] at g0 g1; obtain ⟨c0, c1, c2, c3, c4⟩ := cellsTl W0; have r0 := W0.frozen 0; have r1 := W0.frozen 1; have r2 := W0.frozen 2) | (go_at_call 34; refine (l15More_any H hq.out.h _).mono ?_; rintro e wq ⟨rfl, hqq⟩; subst wq) | (fail))
    exact bodyPost_end (v := .tuple #[]) (by simp [results, Tryd.f22, go_sem]) rfl ⟨rfl, by simpa [v1, v2] using (W0.set 1 (.int .i64 (moreT H))), ((Within.of_below hBB (Nat.le_refl _)).setCell (p := ⟨b, 1, none⟩) (Nat.le_refl _) (Nat.lt_succ_self _) (.int .i64 (moreT H)))⟩
  have q5 : (K == 5) = false := by simpa using k5
  by_cases k1 : K = 1
  · subst k1
    have m0 : Hid True := trivial
    have m1 : Hid True := trivial
    have hne1 : Hid True := trivial
    go_enter Tryd.func22, Tryd.ntmps22
    go_wp2_with (first | (clear m0; refine wpList_box_v rfl 27 _ rfl [.int .i64 V, .string N, .int .i64 F, .int .i64 U, .string B, .int .i64 C, .int .i64 E, .bool Q] rfl ?_; intro b1 w1 hb1 hw1 hB1 V1; have hz1 := hB1.size) | (clear m1; refine wpList_box_v rfl 29 _ rfl [.int .i64 1, .string N2, .int .i64 F2, .string B2, .int .i64 C2, .int .i64 M2] rfl ?_; intro b2 w2 hb2 hw2 hB2 V2; replace V1 := vblk_grow V1 hB2; have hz2 := hB2.size; have hBB : Below w.heap.size w w2 := hB1.trans (hB2.mono hz1); have W0 := vblk_grow VV.out hBB; have g0 := V1.cell 0 (by simp); have g1 := V2.cell 0 (by simp); simp only [List.getElem_cons_zero] at g0 g1; obtain ⟨c0, c1, c2, c3, c4⟩ := cellsTl W0; have r0 := W0.frozen 0; have r1 := W0.frozen 1; have r2 := W0.frozen 2) | (go_at_call 34; refine (l15More_any S hq.out.s _).mono ?_; rintro e wq ⟨rfl, hqq⟩; subst wq) | (fail))
    exact bodyPost_end (v := .tuple #[]) (by simp [results, Tryd.f22, go_sem]) rfl ⟨rfl, by simpa [v1, v2] using (W0.set 2 (.int .i64 (moreT S))), ((Within.of_below hBB (Nat.le_refl _)).setCell (p := ⟨b, 2, none⟩) (Nat.le_refl _) (Nat.lt_succ_self _) (.int .i64 (moreT S)))⟩
  have q1 : (K == 1) = false := by simpa using k1
  by_cases k6 : K = 6
  · subst k6
    have m0 : Hid True := trivial
    have m1 : Hid True := trivial
    have hne1 : Hid True := trivial
    go_enter Tryd.func22, Tryd.ntmps22
    go_wp2_with (first | (clear m0; refine wpList_box_v rfl 27 _ rfl [.int .i64 V, .string N, .int .i64 F, .int .i64 U, .string B, .int .i64 C, .int .i64 E, .bool Q] rfl ?_; intro b1 w1 hb1 hw1 hB1 V1; have hz1 := hB1.size) | (clear m1; refine wpList_box_v rfl 29 _ rfl [.int .i64 6, .string N2, .int .i64 F2, .string B2, .int .i64 C2, .int .i64 M2] rfl ?_; intro b2 w2 hb2 hw2 hB2 V2; replace V1 := vblk_grow V1 hB2; have hz2 := hB2.size; have hBB : Below w.heap.size w w2 := hB1.trans (hB2.mono hz1); have W0 := vblk_grow VV.out hBB; have g0 := V1.cell 0 (by simp); have g1 := V2.cell 0 (by simp); simp only [List.getElem_cons_zero] at g0 g1; obtain ⟨c0, c1, c2, c3, c4⟩ := cellsTl W0; have r0 := W0.frozen 0; have r1 := W0.frozen 1; have r2 := W0.frozen 2) | (go_at_call 34; refine (l15More_any S hq.out.s _).mono ?_; rintro e wq ⟨rfl, hqq⟩; subst wq) | (fail))
    exact bodyPost_end (v := .tuple #[]) (by simp [results, Tryd.f22, go_sem]) rfl ⟨rfl, by simpa [v1, v2] using (W0.set 2 (.int .i64 (moreT S))), ((Within.of_below hBB (Nat.le_refl _)).setCell (p := ⟨b, 2, none⟩) (Nat.le_refl _) (Nat.lt_succ_self _) (.int .i64 (moreT S)))⟩
  have q6 : (K == 6) = false := by simpa using k6
  have m0 : Hid True := trivial
  have m1 : Hid True := trivial
  have hne1 : Hid True := trivial
  go_enter Tryd.func22, Tryd.ntmps22
  go_wp2_with (first | (clear m0; refine wpList_box_v rfl 27 _ rfl [.int .i64 V, .string N, .int .i64 F, .int .i64 U, .string B, .int .i64 C, .int .i64 E, .bool Q] rfl ?_; intro b1 w1 hb1 hw1 hB1 V1; have hz1 := hB1.size) | (clear m1; refine wpList_box_v rfl 29 _ rfl [.int .i64 K, .string N2, .int .i64 F2, .string B2, .int .i64 C2, .int .i64 M2] rfl ?_; intro b2 w2 hb2 hw2 hB2 V2; replace V1 := vblk_grow V1 hB2; have hz2 := hB2.size; have hBB : Below w.heap.size w w2 := hB1.trans (hB2.mono hz1); have W0 := vblk_grow VV.out hBB; have g0 := V1.cell 0 (by simp); have g1 := V2.cell 0 (by simp); simp only [List.getElem_cons_zero] at g0 g1; obtain ⟨c0, c1, c2, c3, c4⟩ := cellsTl W0; have r0 := W0.frozen 0; have r1 := W0.frozen 1; have r2 := W0.frozen 2) | (fail))
  exact bodyPost_end (v := .tuple #[]) (by simp [results, Tryd.f22, go_sem]) rfl ⟨rfl, by simpa [v1, v2, k5, k1, k6] using W0, (Within.of_below hBB (Nat.le_refl _))⟩
set_option maxRecDepth 100000 in
set_option maxHeartbeats 2000000 in
theorem specCounted_any (t : Tl) (c : Cm) (r : Rp) (w : World) :
    Calls Tryd.prog 8 #[.agg (csTl t).toArray, .agg (csCm c).toArray, .agg (csRp r).toArray] w fun e w' => e = .returned (.agg (csTl (coT t c r)).toArray) ∧ Below w.heap.size w w' := by
  obtain ⟨z, hz⟩ := hid_ex (tallyB t)
  have hco : Hid (coT t c r = if z = true then cntT t c r else Tl.zero) := by unfold Hid coT; rw [hz.out]
  obtain ⟨A, H, S, D, O⟩ := t
  obtain ⟨V, N, F, U, B, C, E, Q⟩ := c
  obtain ⟨K, N2, F2, B2, C2, M2⟩ := r
  rw [hco.out]
  have hzz : Hid (tallyB ⟨A, H, S, D, O⟩ = z) := hz
  clear hco hz
  have hcs : csTl ⟨A, H, S, D, O⟩ = [.int .i64 A, .int .i64 H, .int .i64 S, .int .i64 D, .int .i64 O] := rfl
  have hcc : csCm ⟨V, N, F, U, B, C, E, Q⟩ = [.int .i64 V, .string N, .int .i64 F, .int .i64 U, .string B, .int .i64 C, .int .i64 E, .bool Q] := rfl
  have hcr : csRp ⟨K, N2, F2, B2, C2, M2⟩ = [.int .i64 K, .string N2, .int .i64 F2, .string B2, .int .i64 C2, .int .i64 M2] := rfl
  rw [hcs, hcc, hcr]
  clear hcs hcc hcr
  cases z with
  | false =>
    rw [if_neg (by decide)]
    have m1 : Hid True := trivial
    have m2 : Hid True := trivial
    have m3 : Hid True := trivial
    have m4 : Hid True := trivial
    have m5 : Hid True := trivial
    have m6 : Hid True := trivial
    have m7 : Hid True := trivial
    have m8 : Hid True := trivial
    have m9 : Hid True := trivial
    go_enter Tryd.func8, Tryd.ntmps8
    go_wp2_with (first
    | (clear m1; refine wpList_box_v rfl 25 _ rfl [.int .i64 A, .int .i64 H, .int .i64 S, .int .i64 D, .int .i64 O] rfl ?_; intro b1 w1 hb1 hw1 hB1 V1; have hz1 := hB1.size)
    | (clear m2; refine wpList_box_v rfl 27 _ rfl [.int .i64 V, .string N, .int .i64 F, .int .i64 U, .string B, .int .i64 C, .int .i64 E, .bool Q] rfl ?_; intro b2 w2 hb2 hw2 hB2 V2; replace V1 := vblk_grow V1 hB2; have hz2 := hB2.size)
    | (clear m3; refine wpList_box_v rfl 29 _ rfl [.int .i64 K, .string N2, .int .i64 F2, .string B2, .int .i64 C2, .int .i64 M2] rfl ?_; intro b3 w3 hb3 hw3 hB3 V3; replace V1 := vblk_grow V1 hB3; replace V2 := vblk_grow V2 hB3; have hz3 := hB3.size)
    | (clear m4; refine wpList_alloc_v rfl 25 rfl _ zeroTl ?_; intro b4 w4 hb4 hw4 hB4 V4; replace V1 := vblk_grow V1 hB4; replace V2 := vblk_grow V2 hB4; replace V3 := vblk_grow V3 hB4; have hz4 := hB4.size)
    | (clear m5; refine wpList_load_r rfl 25 _ rfl b1 0 [.int .i64 A, .int .i64 H, .int .i64 S, .int .i64 D, .int .i64 O] rfl _ Tryd.underlying25 rfl sizeTl V1.range ?_)
    | (go_at_call 10; refine (specTallyOk_any A H S D O _ hzz _).mono ?_; rintro e w5 ⟨rfl, hB5⟩; have U1 := vblk_grow V1 hB5; have W2 := vblk_grow V2 hB5; have W3 := vblk_grow V3 hB5; have W4 := vblk_grow V4 hB5; have hz5 := hB5.size; have hB05 : Below w.heap.size w w5 := ((((hB1.trans (hB2.mono hz1)).trans (hB3.mono (by omega))).trans (hB4.mono (by omega))).trans (hB5.mono (by omega))))
    | (clear m8; refine wpList_store_v rfl 25 _ _ rfl b4 [.int .i64 0, .int .i64 0, .int .i64 0, .int .i64 0, .int .i64 0] rfl rfl sizeTl W4 rfl (oneTl Tl.zero) ?_; intro w9 hO9 V9; have hB9 := hB05.trans (hO9.2.2 _ (by omega)))
    | (fail))
    exact row_retv rfl rfl V9 Tryd.underlying25 sizeTl rfl ⟨rfl, hB9⟩
  | true =>
    rw [if_pos rfl]
    obtain ⟨T2, hT2⟩ := hid_ex (cntT ⟨A, H, S, D, O⟩ ⟨V, N, F, U, B, C, E, Q⟩ ⟨K, N2, F2, B2, C2, M2⟩)
    have hL := l15Count_any (A := A) (H := H) (S := S) (D := D) (O := O) (V := V) (N := N) (F := F) (U := U) (B := B) (C := C) (E := E) (Q := Q) (K := K) (N2 := N2) (F2 := F2) (B2 := B2) (C2 := C2) (M2 := M2) (hok := hzz.out)
    rw [hT2.out] at hL ⊢
    have HL : Hid _ := hL
    clear hL hT2
    obtain ⟨A2, H2, S2, D2, O2⟩ := T2
    have hcs : csTl ⟨A2, H2, S2, D2, O2⟩ = [.int .i64 A2, .int .i64 H2, .int .i64 S2, .int .i64 D2, .int .i64 O2] := rfl
    rw [hcs] at HL ⊢
    clear hcs
    have m1 : Hid True := trivial
    have m2 : Hid True := trivial
    have m3 : Hid True := trivial
    have m4 : Hid True := trivial
    have m5 : Hid True := trivial
    have m6 : Hid True := trivial
    have m7 : Hid True := trivial
    have m8 : Hid True := trivial
    have m9 : Hid True := trivial
    go_enter Tryd.func8, Tryd.ntmps8
    go_wp2_with (first
    | (clear m1; refine wpList_box_v rfl 25 _ rfl [.int .i64 A, .int .i64 H, .int .i64 S, .int .i64 D, .int .i64 O] rfl ?_; intro b1 w1 hb1 hw1 hB1 V1; have hz1 := hB1.size)
    | (clear m2; refine wpList_box_v rfl 27 _ rfl [.int .i64 V, .string N, .int .i64 F, .int .i64 U, .string B, .int .i64 C, .int .i64 E, .bool Q] rfl ?_; intro b2 w2 hb2 hw2 hB2 V2; replace V1 := vblk_grow V1 hB2; have hz2 := hB2.size)
    | (clear m3; refine wpList_box_v rfl 29 _ rfl [.int .i64 K, .string N2, .int .i64 F2, .string B2, .int .i64 C2, .int .i64 M2] rfl ?_; intro b3 w3 hb3 hw3 hB3 V3; replace V1 := vblk_grow V1 hB3; replace V2 := vblk_grow V2 hB3; have hz3 := hB3.size)
    | (clear m4; refine wpList_alloc_v rfl 25 rfl _ zeroTl ?_; intro b4 w4 hb4 hw4 hB4 V4; replace V1 := vblk_grow V1 hB4; replace V2 := vblk_grow V2 hB4; replace V3 := vblk_grow V3 hB4; have hz4 := hB4.size)
    | (clear m5; refine wpList_load_r rfl 25 _ rfl b1 0 [.int .i64 A, .int .i64 H, .int .i64 S, .int .i64 D, .int .i64 O] rfl _ Tryd.underlying25 rfl sizeTl V1.range ?_)
    | (go_at_call 10; refine (specTallyOk_any A H S D O _ hzz _).mono ?_; rintro e w5 ⟨rfl, hB5⟩; have U1 := vblk_grow V1 hB5; have W2 := vblk_grow V2 hB5; have W3 := vblk_grow V3 hB5; have W4 := vblk_grow V4 hB5; have hz5 := hB5.size; have hB05 : Below w.heap.size w w5 := ((((hB1.trans (hB2.mono hz1)).trans (hB3.mono (by omega))).trans (hB4.mono (by omega))).trans (hB5.mono (by omega))))
    | (clear m6; refine wpList_load_r rfl 27 _ rfl b2 0 [.int .i64 V, .string N, .int .i64 F, .int .i64 U, .string B, .int .i64 C, .int .i64 E, .bool Q] rfl _ Tryd.underlying27 rfl sizeCm W2.range ?_)
    | (clear m7; refine wpList_load_r rfl 29 _ rfl b3 0 [.int .i64 K, .string N2, .int .i64 F2, .string B2, .int .i64 C2, .int .i64 M2] rfl _ Tryd.underlying29 rfl sizeRp W3.range ?_)
    | (go_at_call 22; refine (HL.out b1 w5 U1).mono ?_; rintro e w6 ⟨rfl, V6, hW6⟩; have X4 := vblk_within W4 hW6 (by omega); have hB6 := hB05.trans (hW6.below (by omega) (by omega)))
    | (clear m8; refine wpList_load_r rfl 25 _ rfl b1 0 [.int .i64 A2, .int .i64 H2, .int .i64 S2, .int .i64 D2, .int .i64 O2] rfl _ Tryd.underlying25 rfl sizeTl V6.range ?_)
    | (clear m9; refine wpList_store_v rfl 25 _ _ rfl b4 [.int .i64 A2, .int .i64 H2, .int .i64 S2, .int .i64 D2, .int .i64 O2] rfl rfl sizeTl X4 rfl (oneTl ⟨A2, H2, S2, D2, O2⟩) ?_; intro w9 hO9 V9; have hB9 := hB6.trans (hO9.2.2 _ (by omega)))
    | (fail))
    exact row_retv rfl rfl V9 Tryd.underlying25 sizeTl rfl ⟨rfl, hB9⟩
theorem implCounted_x (A H S D O : Int) (V : Int) (N : ByteArray) (F U : Int) (B : ByteArray) (C E : Int) (Q : Bool) (K : Int) (N2 : ByteArray) (F2 : Int) (B2 : ByteArray) (C2 M2 : Int) (A' H' S' D' O' : Int) (hT : Hid (coT ⟨A, H, S, D, O⟩ ⟨V, N, F, U, B, C, E, Q⟩ ⟨K, N2, F2, B2, C2, M2⟩ = ⟨A', H', S', D', O'⟩)) (w : World) :
    Calls Tryd.prog 6 #[.agg #[.int .i64 A, .int .i64 H, .int .i64 S, .int .i64 D, .int .i64 O], .agg #[.int .i64 V, .string N, .int .i64 F, .int .i64 U, .string B, .int .i64 C, .int .i64 E, .bool Q], .agg #[.int .i64 K, .string N2, .int .i64 F2, .string B2, .int .i64 C2, .int .i64 M2]] w fun e w' => e = .returned (.agg #[.int .i64 A', .int .i64 H', .int .i64 S', .int .i64 D', .int .i64 O']) ∧ Below w.heap.size w w' := by
  have h := implCounted_any ⟨A, H, S, D, O⟩ ⟨V, N, F, U, B, C, E, Q⟩ ⟨K, N2, F2, B2, C2, M2⟩ w
  rw [hT.out] at h
  exact h
theorem specCounted_x (A H S D O : Int) (V : Int) (N : ByteArray) (F U : Int) (B : ByteArray) (C E : Int) (Q : Bool) (K : Int) (N2 : ByteArray) (F2 : Int) (B2 : ByteArray) (C2 M2 : Int) (A' H' S' D' O' : Int) (hT : Hid (coT ⟨A, H, S, D, O⟩ ⟨V, N, F, U, B, C, E, Q⟩ ⟨K, N2, F2, B2, C2, M2⟩ = ⟨A', H', S', D', O'⟩)) (w : World) :
    Calls Tryd.prog 8 #[.agg #[.int .i64 A, .int .i64 H, .int .i64 S, .int .i64 D, .int .i64 O], .agg #[.int .i64 V, .string N, .int .i64 F, .int .i64 U, .string B, .int .i64 C, .int .i64 E, .bool Q], .agg #[.int .i64 K, .string N2, .int .i64 F2, .string B2, .int .i64 C2, .int .i64 M2]] w fun e w' => e = .returned (.agg #[.int .i64 A', .int .i64 H', .int .i64 S', .int .i64 D', .int .i64 O']) ∧ Below w.heap.size w w' := by
  have h := specCounted_any ⟨A, H, S, D, O⟩ ⟨V, N, F, U, B, C, E, Q⟩ ⟨K, N2, F2, B2, C2, M2⟩ w
  rw [hT.out] at h
  exact h
end Go.Proofs.YtldflfmglpojlaaDoor.rg
