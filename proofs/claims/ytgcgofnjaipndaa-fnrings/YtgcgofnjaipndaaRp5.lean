/- Contract: the program's generic ring out of a ring. -/
import Derived.Test.YtgcgofnjaipndaaRp4
namespace Go.Proofs.Ytgcgofnjaipndaa.rg
open Go.ChangeShapes Go.WideShapes Go.ChangeAt Go.RowKit
open Go.Proofs.Ytgcgofnjaipndaa.ce Go.Proofs.Ytgcgofnjaipndaa.ro
set_option linter.unusedVariables false

theorem zip_take {N : List ByteArray} {U : List Bool} {i : Nat} (h1 : i < N.length) (h2 : i < U.length) : (N.take i).zip (U.take i) ++ [(N[i], U[i])] = (N.take (i + 1)).zip (U.take (i + 1)) := by
  rw [List.take_succ_eq_append_getElem h1, List.take_succ_eq_append_getElem h2, List.zip_append (by simp; omega)]
  rfl
theorem snoc_set {α : Type} (xs : List α) (x y : α) (i : Nat) (h : xs.length = i) : (xs ++ [x]).set i y = xs ++ [y] := by
  subst h
  simp
/-- while a generic ring is made: the ring in b1, the answer's variable b2, the new one's b4 -/
structure Ro (w : World) (b1 b2 b4 : Nat) (vs : List Value) (sv : Value) (ss : List (ByteArray × Bool)) (wr : World) : Prop where
  low : Below w.heap.size w wr
  v1 : VBlk wr b1 29 vs
  v2 : VBlk wr b2 55 [.slice none 0 0, .int .i64 0]
  r : RV wr w.heap.size wr.heap.size b4 sv ss 0
theorem Ro.grow {w : World} {b1 b2 b4 : Nat} {vs : List Value} {sv : Value} {ss : List (ByteArray × Bool)} {wr w' : World} (h : Ro w b1 b2 b4 vs sv ss wr) (hb : Below wr.heap.size wr w') : Ro w b1 b2 b4 vs sv ss w' :=
  ⟨h.low.trans (hb.mono h.low.size), vblk_grow h.v1 hb, vblk_grow h.v2 hb, (h.r.grow hb).top⟩
theorem Ro.step {w : World} {b1 b2 b4 hi : Nat} {vs : List Value} {sv sv' : Value} {ss ss' : List (ByteArray × Bool)} {wr w' : World} (h : Ro w b1 b2 b4 vs sv ss wr) (hr : RV w' w.heap.size hi b4 sv' ss' 0) (ht : Tq w.heap.size b4 wr w') (h4 : w.heap.size ≤ b4) (n1 : b1 ≠ b4) (n2 : b2 ≠ b4) : Ro w b1 b2 b4 vs sv' ss' w' :=
  ⟨h.low.trans (ht.below (Nat.le_refl _) h4), ht.vblk h.v1 n1 (by decide), ht.vblk h.v2 n2 (by decide), hr.top⟩

/-- what is known of a generic ring that was made of a ring, right or not -/
structure Made (w w' : World) (y : Bool) (r : Rg) (a : Option Addr) (n k : Nat) (A' : Int) : Prop where
  own : y = true → Own encSeat w' w.heap.size w'.heap.size (.slice a n k) (r.N.zip r.U) ∧ A' = r.A
  low : Below w.heap.size w w'

set_option maxRecDepth 100000 in
set_option maxHeartbeats 4000000 in
theorem roundOf_any (r : Rg) (vN vU : Value) (w : World) (h : RdR w vN vU r) :
    Calls Try.prog 43 #[.agg #[vN, vU, .int .i64 r.A]] w fun e w' => ∃ a n k A', e = .returned (.tuple #[.agg #[.slice a n k, .int .i64 A'], .bool (ringB r)]) ∧ Made w w' (ringB r) r a n k A' := by
  obtain ⟨N, U, A⟩ := r
  obtain ⟨a, cap, rfl⟩ := h.n.form
  obtain ⟨c, dc, rfl⟩ := h.u.form
  have R : Hid (RdR w (.slice a N.length cap) (.slice c U.length dc) ⟨N, U, A⟩) := h
  have hlN := h.n.len
  have hlU := h.u.len
  clear h
  dsimp only at hlN hlU ⊢
  obtain ⟨y, hy⟩ := hid_ex (ringB ⟨N, U, A⟩)
  rw [hy.out]
  replace hy : Hid ((namesB N && (U.length == N.length) && atB N.length A) = y) := hy
  by_cases hpre : (N.length : Int) ≤ 20 ∧ (U.length : Int) = (N.length : Int) ∧ 0 ≤ A ∧ A < max (N.length : Int) 1
  · obtain ⟨g1, g2, g3, g4⟩ := hpre
    have e1 : ¬ (N.length : Int) > 20 := by omega
    have e2 : ((U.length : Int) != (N.length : Int)) = false := by simpa using g2
    have e3 : ¬ A < 0 := by omega
    have e4 : ¬ A ≥ max (N.length : Int) 1 := by omega
    have hmx : (if (N.length : Int) < 1 then (1 : Int) else (N.length : Int)) = max (N.length : Int) 1 := by omega
    have HU : Hid (U.length = N.length) := by unfold Hid; omega
    have hy2 : Hid (namesB N = y) := by
      unfold Hid
      rw [← hy.out, show (U.length == N.length) = true by simp; omega]
      unfold atB
      rw [decide_eq_true g3, decide_eq_true g4]
      simp
    clear g2
    have m1 : Hid True := trivial
    have m2 : Hid True := trivial
    have m3 : Hid True := trivial
    go_enter Try.func43, Try.ntmps43
    go_wp2_with (first | (clear m1; refine wpList_box_v rfl 29 _ rfl [.slice a N.length cap, .slice c U.length dc, .int .i64 A] rfl ?_; intro b1 w1 hb1 hw1 hB1 V1; have hz1 := hB1.size) | (clear m2; refine wpList_alloc_v rfl 55 rfl _ zeroRd ?_; intro b2 w2 hb2 hw2 hB2 V2; have hz2 := hB2.size; replace V1 := vblk_grow V1 hB2) | (clear m3; refine wpList_alloc_v rfl 55 rfl _ zeroRd ?_; intro b4 w3 hb4 hw4 hB3 V4; have hz3 := hB3.size; replace V1 := vblk_grow V1 hB3; replace V2 := vblk_grow V2 hB3; obtain ⟨c0, c1, c2⟩ := cells3 V1) | (fail))
    have M0 : Hid (Ro w b1 b2 b4 [.slice a N.length cap, .slice c U.length dc, .int .i64 A] (.slice none 0 0) [] w3) := ⟨(hB1.trans (hB2.mono hz1)).trans (hB3.mono (by omega)), V1, V2, own_zero _ _ _ _ _, V4⟩
    have hn1 : b1 ≠ b4 := by omega
    have hn2 : b2 ≠ b4 := by omega
    have hwb : w.heap.size ≤ b4 ∧ w.heap.size ≤ b2 := by omega
    clear hB1 hB2 hB3 V1 V2 V4 c0 c1 c2 hb1 hw1 hb2 hw2 hb4 hw4 hz1 hz2 hz3
    go_loopw [36] (fun p wr => ∃ i : Nat, i ≤ N.length ∧ p = .int .i64 i ∧ Hid (Pre N i) ∧ ∃ sv, Hid (Ro w b1 b2 b4 [.slice a N.length cap, .slice c U.length dc, .int .i64 A] sv ((N.take i).zip (U.take i)) wr)) (fun p _ => N.length - (intOf p).toNat)
    case atStart => exact ⟨0, by omega, rfl, pre_zero N, _, M0⟩
    case round =>
      obtain ⟨i, hi1, rfl, hP, sv, M⟩ := hrel
      obtain ⟨aS, nS, kS, rfl⟩ := M.out.r.o.slice
      obtain ⟨c0, c1, c2⟩ := cells3 M.out.v1
      obtain ⟨f0, f1⟩ := cells2 M.out.r.v
      have v2 := M.out.v2
      by_cases hlt : i < N.length
      · obtain ⟨g, off, rfl, hgb, d0⟩ := rdS_cell (R.out.grow M.out.low).n i hlt
        have hlt' : (i : Int) < (N.length : Int) := by omega
        have hlU2 : i < U.length := by have := HU.out; omega
        have hlU3 : (i : Int) < (U.length : Int) := by omega
        have hsz := R.out.s N[i] (List.getElem_mem hlt)
        have hp1 := @pre_not1 N i hlt
        have hp2 := @pre_not2 N i hlt
        have hp3 := pre_succ hP.out hlt
        have hzt := zip_take hlt hlU2
        have hzl : ((N.take i).zip (U.take i)).length = i := by simp; omega
        have hmf : ((N.take i).zip (U.take i)).map (·.1) = N.take i := zip_fst (by simp; omega)
        have hpm := @posS_mem N[i] (N.take i)
        have hpb := posS_bd N[i] (N.take i)
        obtain ⟨z, hz⟩ := hid_ex (N[i])
        obtain ⟨x, hx⟩ := hid_ex (U[i])
        rw [hz.out] at d0 hsz hp1 hp2 hp3 hzt hpm hpb
        rw [hx.out] at hzt
        cases hn : nameB z with
        | false =>
          have ey : y = false := hy2.out.symm.trans (hp1 hn)
          subst ey
          clear hp1 hp2 hp3 hzt hzl hmf hpm hpb
          go_wp2_with (first | (go_at_call 12; refine (implNameOk_any _ hsz _).mono ?_; rintro e wq ⟨rfl, hq⟩; subst wq; rw [hn]) | (refine wpList_store_v rfl 55 _ _ rfl b2 [.slice aS nS kS, .int .i64 0] rfl rfl sizeRd v2 rfl (by simp [Value.oneCell']) ?_; intro w9 hO9 V9) | (fail))
          exact row_ct rfl rfl rfl V9 Try.underlying55 sizeRd rfl ⟨_, _, _, _, rfl, ⟨fun q => (by cases q), M.out.low.trans (hO9.2.2 _ hwb.2)⟩⟩
        | true =>
          obtain ⟨p, hp0⟩ := hid_ex (posS z (N.take i))
          have hp : Hid (posS z (((N.take i).zip (U.take i)).map (·.1)) = p) := by unfold Hid; rw [hmf]; exact hp0.out
          rw [hp0.out] at hpm hpb
          clear hp0
          by_cases hpe : p = -1
          · subst hpe
            have hPn : Hid (Pre N (i + 1)) := hp3 hn (fun q => by have := hpm.1 q; omega)
            have hzl2 : Hid (((N.take i).zip (U.take i)).length = i) := hzl
            have hzl3 : ((N.take i).zip (U.take i)).length ≤ i := by omega
            have HZ : Hid ((N.take i).zip (U.take i) ++ [(z, x)] = (N.take (i + 1)).zip (U.take (i + 1))) := hzt
            clear hp1 hp2 hp3 hzt hzl hmf hpm hpb
            obtain ⟨g2, off2, rfl, hgb2, -⟩ := rdB_cell (R.out.grow M.out.low).u i hlU2
            cases x with
            | false =>
              go_wp2_with (first | (go_at_call 12; refine (implNameOk_any _ hsz _).mono ?_; rintro e wq ⟨rfl, hq⟩; subst wq; rw [hn]) | (go_at_call 48; refine (placeOf_any _ _ _ _ b4 _ _ _ M.out.r).mono ?_; rintro e w5 ⟨rfl, hB5⟩; rw [hp.out]; have M5 := M.out.grow hB5; clear c0 c1 c2 f0 f1; obtain ⟨c0, c1, c2⟩ := cells3 M5.v1; obtain ⟨f0, f1⟩ := cells2 M5.r.v; have v25 := M5.v2) | (go_at_call 51; refine (join_any _ _ _ _ b4 _ _ _ M5.r (by have := M5.low.size; omega) (by omega)).mono ?_; rintro e w6 ⟨⟨u6, rfl⟩, ⟨sv6, rv6⟩, hT6⟩; have M6 := M5.step rv6 hT6 hwb.1 hn1 hn2; clear c0 c1 c2 f0 f1; obtain ⟨c0, c1, c2⟩ := cells3 M6.v1; obtain ⟨g2', off2', e2', -, d1'⟩ := rdB_cell (R.out.grow M6.low).u i hlU2; cases e2'; rw [hx.out] at d1') | (fail))
              rw [HZ.out] at M6
              go_roundw
              case rel => exact ⟨i + 1, by omega, by go_num, hPn, _, M6⟩
              case measure => simp [intOf]; omega
            | true =>
              go_wp2_with (first | (go_at_call 12; refine (implNameOk_any _ hsz _).mono ?_; rintro e wq ⟨rfl, hq⟩; subst wq; rw [hn]) | (go_at_call 48; refine (placeOf_any _ _ _ _ b4 _ _ _ M.out.r).mono ?_; rintro e w5 ⟨rfl, hB5⟩; rw [hp.out]; have M5 := M.out.grow hB5; clear c0 c1 c2 f0 f1; obtain ⟨c0, c1, c2⟩ := cells3 M5.v1; obtain ⟨f0, f1⟩ := cells2 M5.r.v; have v25 := M5.v2) | (go_at_call 51; refine (join_any _ _ _ _ b4 _ _ _ M5.r (by have := M5.low.size; omega) (by omega)).mono ?_; rintro e w6 ⟨⟨u6, rfl⟩, ⟨sv6, rv6⟩, hT6⟩; have M6 := M5.step rv6 hT6 hwb.1 hn1 hn2; clear c0 c1 c2 f0 f1; obtain ⟨c0, c1, c2⟩ := cells3 M6.v1; obtain ⟨g2', off2', e2', -, d1'⟩ := rdB_cell (R.out.grow M6.low).u i hlU2; cases e2'; rw [hx.out] at d1') | (go_at_call 57; refine (use_any i _ _ _ b4 _ _ _ M6.r (by rw [List.length_append]; have := hzl2.out; simp; omega)).mono ?_; rintro e w7 ⟨⟨u7, rfl⟩, rv7, hT7⟩; have M7 := M6.step rv7 hT7 hwb.1 hn1 hn2) | (fail))
              rw [snoc_set _ _ _ _ hzl2.out, List.getElem_concat_length hzl2.out.symm, HZ.out] at M7
              go_roundw
              case rel => exact ⟨i + 1, by omega, by go_num, hPn, _, M7⟩
              case measure => simp [intOf]; omega
          · have ey : y = false := hy2.out.symm.trans (hp2 (hpm.2 (by omega)))
            subst ey
            have hpe2 : (p != -1) = true := by simpa using hpe
            clear hp1 hp2 hp3 hzt hzl hmf hpm hpb hpe
            go_wp2_with (first | (go_at_call 12; refine (implNameOk_any _ hsz _).mono ?_; rintro e wq ⟨rfl, hq⟩; subst wq; rw [hn]) | (go_at_call 48; refine (placeOf_any _ _ _ _ b4 _ _ _ M.out.r).mono ?_; rintro e w5 ⟨rfl, hB5⟩; rw [hp.out]; have M5 := M.out.grow hB5; clear c0 c1 c2 f0 f1; obtain ⟨c0, c1, c2⟩ := cells3 M5.v1; obtain ⟨f0, f1⟩ := cells2 M5.r.v; have v25 := M5.v2) | (refine wpList_store_v rfl 55 _ _ rfl b2 [.slice aS nS kS, .int .i64 0] rfl rfl sizeRd v25 rfl (by simp [Value.oneCell']) ?_; intro w9 hO9 V9) | (fail))
            exact row_ct rfl rfl rfl V9 Try.underlying55 sizeRd rfl ⟨_, _, _, _, rfl, ⟨fun q => (by cases q), M5.low.trans (hO9.2.2 _ hwb.2)⟩⟩
      · have hlt' : ¬ (i : Int) < (N.length : Int) := by omega
        have M2 := M.out
        have hP2 := hP.out
        rw [show i = N.length by omega] at hP2
        have ey : y = true := by rw [← hy2.out, pre_all hP2]; exact decide_eq_true g1
        subst ey
        rw [List.take_of_length_le (by omega), List.take_of_length_le (by have := HU.out; omega)] at M2
        clear M hP2
        have v4 := M2.r.v
        go_wp2_with (first | (refine wpList_store_n rfl _ _ rfl b4 1 A rfl rfl v4 (by simp) ?_; intro w8 hO8 V8; have v28 := vblk_only v2 hO8 hn2; have o8 := M2.r.o.only hO8 v4 (by decide); clear f0 f1; obtain ⟨f0, f1⟩ := cells2 V8) | (refine wpList_store_v rfl 55 _ _ rfl b2 [.slice aS nS kS, .int .i64 A] rfl rfl sizeRd v28 rfl (by simp [Value.oneCell']) ?_; intro w9 hO9 V9) | (fail))
        exact row_ct rfl rfl rfl V9 Try.underlying55 sizeRd rfl ⟨_, _, _, _, rfl, ⟨fun _ => ⟨(o8.only hO9 v28 (by decide)).top, rfl⟩, (M2.low.trans (hO8.2.2 _ hwb.1)).trans (hO9.2.2 _ hwb.2)⟩⟩
  · have ey : y = false := by
      rw [← hy.out]
      cases q : (namesB N && (U.length == N.length) && atB N.length A) with
      | false => rfl
      | true =>
        exfalso
        simp only [Bool.and_eq_true, beq_iff_eq, namesB, atB, decide_eq_true_eq] at q
        exact hpre ⟨by have := q.1.1.2.2; omega, by have := q.1.2; omega, q.2.1, q.2.2⟩
    subst ey
    have hmx : (if (N.length : Int) < 1 then (1 : Int) else (N.length : Int)) = max (N.length : Int) 1 := by omega
    by_cases g1 : (N.length : Int) > 20
    · clear hpre
      have m1 : Hid True := trivial
      have m2 : Hid True := trivial
      have m3 : Hid True := trivial
      go_enter Try.func43, Try.ntmps43
      go_wp2_with (first | (clear m1; refine wpList_box_v rfl 29 _ rfl [.slice a N.length cap, .slice c U.length dc, .int .i64 A] rfl ?_; intro b1 w1 hb1 hw1 hB1 V1; have hz1 := hB1.size) | (clear m2; refine wpList_alloc_v rfl 55 rfl _ zeroRd ?_; intro b2 w2 hb2 hw2 hB2 V2; have hz2 := hB2.size; replace V1 := vblk_grow V1 hB2) | (clear m3; refine wpList_alloc_v rfl 55 rfl _ zeroRd ?_; intro b4 w3 hb4 hw4 hB3 V4; have hz3 := hB3.size; replace V1 := vblk_grow V1 hB3; replace V2 := vblk_grow V2 hB3; obtain ⟨c0, c1, c2⟩ := cells3 V1; obtain ⟨f0, f1⟩ := cells2 V4) | (refine wpList_store_v rfl 55 _ _ rfl b2 [.slice none 0 0, .int .i64 0] rfl rfl sizeRd V2 rfl (by simp [Value.oneCell']) ?_; intro w9 hO9 V9) | (fail))
      exact row_ct rfl rfl rfl V9 Try.underlying55 sizeRd rfl ⟨_, _, _, _, rfl, ⟨fun q => (by cases q), ((hB1.trans (hB2.mono hz1)).trans (hB3.mono (by omega))).trans (hO9.2.2 _ (by omega))⟩⟩
    · by_cases g2 : (U.length : Int) = (N.length : Int)
      · have g2b : ((U.length : Int) != (N.length : Int)) = false := by simpa using g2
        by_cases g3 : A < 0
        · clear hpre g2
          have m1 : Hid True := trivial
          have m2 : Hid True := trivial
          have m3 : Hid True := trivial
          go_enter Try.func43, Try.ntmps43
          go_wp2_with (first | (clear m1; refine wpList_box_v rfl 29 _ rfl [.slice a N.length cap, .slice c U.length dc, .int .i64 A] rfl ?_; intro b1 w1 hb1 hw1 hB1 V1; have hz1 := hB1.size) | (clear m2; refine wpList_alloc_v rfl 55 rfl _ zeroRd ?_; intro b2 w2 hb2 hw2 hB2 V2; have hz2 := hB2.size; replace V1 := vblk_grow V1 hB2) | (clear m3; refine wpList_alloc_v rfl 55 rfl _ zeroRd ?_; intro b4 w3 hb4 hw4 hB3 V4; have hz3 := hB3.size; replace V1 := vblk_grow V1 hB3; replace V2 := vblk_grow V2 hB3; obtain ⟨c0, c1, c2⟩ := cells3 V1; obtain ⟨f0, f1⟩ := cells2 V4) | (refine wpList_store_v rfl 55 _ _ rfl b2 [.slice none 0 0, .int .i64 0] rfl rfl sizeRd V2 rfl (by simp [Value.oneCell']) ?_; intro w9 hO9 V9) | (fail))
          exact row_ct rfl rfl rfl V9 Try.underlying55 sizeRd rfl ⟨_, _, _, _, rfl, ⟨fun q => (by cases q), ((hB1.trans (hB2.mono hz1)).trans (hB3.mono (by omega))).trans (hO9.2.2 _ (by omega))⟩⟩
        · have g4 : A ≥ max (N.length : Int) 1 := by
            have : ¬ A < max (N.length : Int) 1 := fun q => hpre ⟨by omega, g2, by omega, q⟩
            omega
          clear hpre g2
          have m1 : Hid True := trivial
          have m2 : Hid True := trivial
          have m3 : Hid True := trivial
          go_enter Try.func43, Try.ntmps43
          go_wp2_with (first | (clear m1; refine wpList_box_v rfl 29 _ rfl [.slice a N.length cap, .slice c U.length dc, .int .i64 A] rfl ?_; intro b1 w1 hb1 hw1 hB1 V1; have hz1 := hB1.size) | (clear m2; refine wpList_alloc_v rfl 55 rfl _ zeroRd ?_; intro b2 w2 hb2 hw2 hB2 V2; have hz2 := hB2.size; replace V1 := vblk_grow V1 hB2) | (clear m3; refine wpList_alloc_v rfl 55 rfl _ zeroRd ?_; intro b4 w3 hb4 hw4 hB3 V4; have hz3 := hB3.size; replace V1 := vblk_grow V1 hB3; replace V2 := vblk_grow V2 hB3; obtain ⟨c0, c1, c2⟩ := cells3 V1; obtain ⟨f0, f1⟩ := cells2 V4) | (refine wpList_store_v rfl 55 _ _ rfl b2 [.slice none 0 0, .int .i64 0] rfl rfl sizeRd V2 rfl (by simp [Value.oneCell']) ?_; intro w9 hO9 V9) | (fail))
          exact row_ct rfl rfl rfl V9 Try.underlying55 sizeRd rfl ⟨_, _, _, _, rfl, ⟨fun q => (by cases q), ((hB1.trans (hB2.mono hz1)).trans (hB3.mono (by omega))).trans (hO9.2.2 _ (by omega))⟩⟩
      · have g2b : ((U.length : Int) != (N.length : Int)) = true := by simpa using g2
        clear hpre g2
        have m1 : Hid True := trivial
        have m2 : Hid True := trivial
        have m3 : Hid True := trivial
        go_enter Try.func43, Try.ntmps43
        go_wp2_with (first | (clear m1; refine wpList_box_v rfl 29 _ rfl [.slice a N.length cap, .slice c U.length dc, .int .i64 A] rfl ?_; intro b1 w1 hb1 hw1 hB1 V1; have hz1 := hB1.size) | (clear m2; refine wpList_alloc_v rfl 55 rfl _ zeroRd ?_; intro b2 w2 hb2 hw2 hB2 V2; have hz2 := hB2.size; replace V1 := vblk_grow V1 hB2) | (clear m3; refine wpList_alloc_v rfl 55 rfl _ zeroRd ?_; intro b4 w3 hb4 hw4 hB3 V4; have hz3 := hB3.size; replace V1 := vblk_grow V1 hB3; replace V2 := vblk_grow V2 hB3; obtain ⟨c0, c1, c2⟩ := cells3 V1; obtain ⟨f0, f1⟩ := cells2 V4) | (refine wpList_store_v rfl 55 _ _ rfl b2 [.slice none 0 0, .int .i64 0] rfl rfl sizeRd V2 rfl (by simp [Value.oneCell']) ?_; intro w9 hO9 V9) | (fail))
        exact row_ct rfl rfl rfl V9 Try.underlying55 sizeRd rfl ⟨_, _, _, _, rfl, ⟨fun q => (by cases q), ((hB1.trans (hB2.mono hz1)).trans (hB3.mono (by omega))).trans (hO9.2.2 _ (by omega))⟩⟩
end Go.Proofs.Ytgcgofnjaipndaa.rg
