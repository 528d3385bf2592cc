/- Texts laid together: Rp3 Rp4 Rp5 Qp1 Sk7 Rg1 Rg2. -/
import Derived.Test.YtapchjkiiifhdaaRp2
import Derived.Test.YtapchjkiiifhdaaMg02
import Derived.Test.YtapchjkiiifhdaaMg01
import Derived.Test.YtapchjkiiifhdaaRows
import Derived.OwnWalk
import Derived.Deep.RegionLaw
import Derived.Deep.RegionHeld3
import Derived.Maps.RangeWalk
/- Contracts: the program's generic ring in its variable: the hand's turn. -/
namespace Go.Proofs.Ytapchjkiiifhdaa.rg
open Go.ChangeShapes Go.WideShapes Go.ChangeAt Go.RowKit
open Go.Proofs.Ytapchjkiiifhdaa.ce Go.Proofs.Ytapchjkiiifhdaa.ro
set_option linter.unusedVariables false

theorem zip_set : ∀ (N : List ByteArray) (U : List Bool) (i : Nat) (h : i < (N.zip U).length) (x : Bool), (N.zip U).set i ((N.zip U)[i].1, x) = N.zip (U.set i x)
  | [], U, i, h, x => by simp at h
  | n :: N, [], i, h, x => by simp at h
  | n :: N, u :: U, 0, h, x => by simp
  | n :: N, u :: U, i + 1, h, x => by
    have := zip_set N U i (by simpa using h) x
    simpa using this
theorem zip_len {N : List ByteArray} {U : List Bool} (h : U.length = N.length) : (N.zip U).length = N.length := by simp [h]
theorem zip_fst {N : List ByteArray} {U : List Bool} (h : U.length = N.length) : (N.zip U).map (·.1) = N := List.map_fst_zip (by omega)
theorem zip_cut {N : List ByteArray} {U : List Bool} (h : U.length = N.length) (i : Nat) : (N.zip U).take i ++ (N.zip U).drop (i + 1) = (N.take i ++ N.drop (i + 1)).zip (U.take i ++ U.drop (i + 1)) := by
  rw [List.zip_append (by simp [h])]
  simp only [List.zip_eq_zipWith, List.take_zipWith, List.drop_zipWith]

/-- while the hand goes on: the seats in their variable -/
structure Tv (lo hi b : Nat) (w wr : World) (sv : Value) (N : List ByteArray) (U : List Bool) (a : Nat) : Prop where
  r : RV wr lo hi b sv (N.zip U) a
  t : Tq lo b w wr
theorem Tv.drewN {lo hi b : Nat} {w wr : World} {sv : Value} {N : List ByteArray} {U : List Bool} {a : Nat} (h : Tv lo hi b w wr sv N U a) (hl : lo ≤ w.heap.size) (k : Nat) : Tv lo hi b w (wr.drewN k) sv N U a :=
  ⟨h.r.grow (below_drewN _ _), h.t.trans (Tq.of_below (below_drewN _ _) (Nat.le_trans hl h.t.size))⟩
theorem Tv.mark {lo hi b g m dc : Nat} {w wq : World} {N : List ByteArray} {U : List Bool} {a : Nat} (h : Tv lo hi b w wq (.slice (some ⟨g, 0, none⟩) m dc) N U a) (ha : a < N.length) (hl : U.length = N.length) (hlo : lo ≤ w.heap.size) :
    Tv lo hi b w (wq.setCell ⟨g, a * 2 + 1, none⟩ (.bool false)).drew (.slice (some ⟨g, 0, none⟩) m dc) N (U.set a false) a := by
  have hz : a < (N.zip U).length := by rw [zip_len hl]; exact ha
  have hT := ownT_ty h.r.o (by omega) (a * 2 + 1) (.bool false)
  have hs := ownT_set h.r.o a hz false
  rw [zip_set] at hs
  have hd : Below (wq.setCell ⟨g, a * 2 + 1, none⟩ (.bool false)).heap.size (wq.setCell ⟨g, a * 2 + 1, none⟩ (.bool false)) (wq.setCell ⟨g, a * 2 + 1, none⟩ (.bool false)).drew := (Below.refl _ _).drew
  have ht := h.t.trans (Tq.of_ty hT)
  exact ⟨⟨hs.grow hd, vblk_grow (hT.vblk h.r.v (by decide)) hd⟩, ht.trans (Tq.of_below hd (Nat.le_trans hlo ht.size))⟩

set_option maxRecDepth 100000 in
set_option maxHeartbeats 2000000 in
theorem turn_any (r : Rg) (sv : Value) (b lo hi : Nat) (w : World) (h : RV w lo hi b sv (r.N.zip r.U) r.A) (hlo : lo ≤ w.heap.size) (h1 : 1 ≤ r.N.length) (hN : r.N.length ≤ 1000000) (hNU : r.U.length = r.N.length) (hA0 : 0 ≤ r.A) (hA1 : r.A < r.N.length) :
    Calls Try.prog 191 #[.pointer (some ⟨b, 0, none⟩)] w fun e w' => e = .returned (.string ((r.N[(turned r).2]?).getD ⟨#[]⟩)) ∧ Tv lo hi b w w' sv r.N (turned r).1 (turned r).2 := by
  obtain ⟨N, U, A⟩ := r
  obtain ⟨a, n, cap, rfl⟩ := h.o.slice
  dsimp only at h h1 hN hNU hA0 hA1 ⊢
  have hn : Hid (n = N.length) := h.o.rd.cap.1.trans (zip_len hNU)
  obtain ⟨A, rfl⟩ : ∃ k : Nat, A = k := ⟨A.toNat, by omega⟩
  have O : Hid (Tv lo hi b w w (.slice a n cap) N U A) := ⟨h, Tq.refl _ _ _⟩
  obtain ⟨c0, c1⟩ := cells2 h.v
  obtain ⟨T, hT⟩ := hid_ex (turned ⟨N, U, (A : Int)⟩)
  rw [hT.out]
  obtain ⟨S, hS⟩ := hid_ex ((N[T.2]?).getD ⟨#[]⟩)
  rw [hS.out]
  replace hT : Hid (turn N.length (U.count true) U A = T) := hT
  clear h
  go_enter Try.func191, Try.ntmps191
  go_wp2
  go_loopg [] (U.count true) (fun k wr => ∃ (U' : List Bool) (a' : Nat), k = U'.count true ∧ a' < N.length ∧ U'.length = N.length ∧ turn N.length (U'.count true) U' a' = T ∧ Tv lo hi b w wr (.slice a n cap) N U' a')
  case atStart => exact ⟨U, A, rfl, by omega, hNU, hT.out, O.out⟩
  case round =>
    obtain ⟨U', a', hk, ha, hl, ht, t'⟩ := hrel
    have HT : Hid (turn N.length (U'.count true) U' a' = T) := ht
    have HK : Hid (gk = U'.count true) := hk
    have HL : Hid (U'.length = N.length) := hl
    have TT : Hid (Tv lo hi b w wr (.slice a n cap) N U' a') := t'
    clear ht hk t'
    clear c0 c1
    obtain ⟨c0, c1⟩ := cells2 TT.out.r.v
    have ha2 : a' < U'.length := by omega
    have haz : a' < (N.zip U').length := by rw [zip_len hl]; exact ha
    obtain ⟨g, rfl, hg, d0, d1, f1⟩ := ownT_cell TT.out.r.o a' haz
    rw [List.getElem_zip] at d0 d1
    have hm1 : (a' : Int) < (n : Int) := by have := hn.out; omega
    have ha0 : (0 : Int) ≤ (a' : Int) := by omega
    have hbg : b ≠ g := by
      intro e
      obtain ⟨⟨cur, hc, -⟩, -⟩ := blk_of TT.out.r.o (by omega)
      have q := TT.out.r.v
      rw [e] at q
      have := hc.symm.trans q
      simp at this
    obtain ⟨x, hx⟩ := hid_ex (U'[a'])
    obtain ⟨z, hz⟩ := hid_ex (N[a'])
    have hxx := get_of ha2 hx.out
    dsimp only at d0 d1
    rw [hx.out] at d1
    rw [hz.out] at d0
    clear hl haz
    cases x with
    | false =>
      have hst := HT.out.symm.trans (turn_stop (n := N.length) (f := U'.count true) (U := U') (a := a') (by rw [hxx]; simp))
      subst hst
      have eS : S = z := by rw [← hS.out, List.getElem?_eq_getElem ha]; exact hz.out
      subst eS
      clear hxx
      go_wp2
      go_big_quiet (fail)
      go_wp2
      go_big_quiet (fail)
      go_wp2
      go_ret
      exact ⟨rfl, TT.out.drewN hlo _⟩
    | true =>
      have hst := turn_step (n := N.length) hxx
      have hcs := count_set hxx
      have HT2 : Hid (turn N.length ((U'.set a' false).count true) (U'.set a' false) ((a' + 1) % N.length) = T) := hst.symm.trans HT.out
      have HC : Hid ((U'.set a' false).count true < gk) := by have := HK.out; unfold Hid; omega
      clear hst hcs hxx
      go_wp2
      go_big_quiet (fail)
      go_wp2
      have TQ0 := TT.out.drewN hlo nq
      obtain ⟨wq, hwq⟩ : ∃ wq, wr.drewN nq = wq := ⟨_, rfl⟩
      rw [hwq] at TQ0 ⊢
      clear hwq
      have TQ : Hid (Tv lo hi b w wq (.slice (some ⟨g, 0, none⟩) n cap) N U' a') := TQ0
      clear TQ0 c0 c1 d0 d1 f1
      obtain ⟨c0, c1⟩ := cells2 TQ.out.r.v
      obtain ⟨g', e', -, -, d1, f1⟩ := ownT_cell TQ.out.r.o a' (by rw [zip_len HL.out]; exact ha)
      cases e'
      have hgb : g ≠ b := fun e => hbg e.symm
      go_region_held3 (fun w' => w'.cell? ⟨b, 0, none⟩ = some (.slice (some ⟨g, 0, none⟩) n cap) ∧ w'.cell? ⟨b, 1, none⟩ = some (.int .i64 a')) (first | assumption | exact ⟨c0, c1⟩ | go_keep) (fail)
      have TM := TQ.out.mark ha HL.out hlo
      obtain ⟨W3, hW3⟩ : ∃ W3, (wq.setCell ⟨g, a' * 2 + 1, none⟩ (.bool false)).drew = W3 := ⟨_, rfl⟩
      rw [hW3] at TM ⊢
      have TM' : Hid (Tv lo hi b w W3 (.slice (some ⟨g, 0, none⟩) n cap) N (U'.set a' false) a') := TM
      clear hW3 TM c0 c1 d1 f1
      have V3 := TM'.out.r.v
      obtain ⟨c0, c1⟩ := cells2 V3
      obtain ⟨F, hF⟩ := hid_ex (if (a' : Int) + 1 < ((N.zip (U'.set a' false)).length : Int) then (a' : Int) + 1 else 0)
      have hF2 : Hid (F = (((a' + 1) % N.length : Nat) : Int)) := by
        unfold Hid
        rw [← hF.out, zip_len (by rw [List.length_set]; exact HL.out)]
        by_cases q : (a' : Int) + 1 < (N.length : Int)
        · rw [if_pos q, Nat.mod_eq_of_lt (by omega)]
          omega
        · rw [if_neg q, show a' + 1 = N.length by omega, Nat.mod_self]
          rfl
      go_wp2_with (first | (go_at_call 190; refine (around_any _ lo hi b _ _ (a' : Int) ((a' : Int) + 1) TM'.out.r).mono ?_; rintro e wq2 ⟨rfl, hq⟩; subst wq2; rw [hF.out]) | (refine wpList_store_n rfl _ _ rfl b 1 F rfl rfl V3 (by simp) ?_; intro w5 hO5 V5) | (fail))
      go_roundg ((U'.set a' false).count true)
      case measure => exact HC.out
      case rel =>
        have hlt : 0 < N.length := by omega
        have V6 : VBlk w5 b 144 [.slice (some ⟨g, 0, none⟩) n cap, .int .i64 ((((a' + 1) % N.length : Nat) : Int))] := by
          have := hF2.out
          rw [← this]
          exact V5
        exact ⟨U'.set a' false, (a' + 1) % N.length, rfl, Nat.mod_lt _ hlt, by rw [List.length_set]; exact HL.out, HT2.out, ⟨TM'.out.r.o.only hO5 V3 (by decide), V6⟩, TM'.out.t.trans (Tq.of_only hO5)⟩
end Go.Proofs.Ytapchjkiiifhdaa.rg
/- Contracts: the program's ring out of a generic one, and a generic one out of a ring. -/
namespace Go.Proofs.Ytapchjkiiifhdaa.rg
open Go.ChangeShapes Go.WideShapes Go.ChangeAt Go.RowKit
open Go.Proofs.Ytapchjkiiifhdaa.ce Go.Proofs.Ytapchjkiiifhdaa.ro
set_option linter.unusedVariables false

theorem sizeSeat : (Try.prog.info? 191).map (·.size) = some 2 := by kernel_rfl
theorem zeroSeatL (w : World) : (zeroValue 191).run Try.prog w = .ok (.agg [Value.string ⟨#[]⟩, .bool false].toArray) w := Try.zeroValue191 w
/-- while a ring is made: its variable b3, the answer's b2 -/
structure Mk (w : World) (b2 b3 : Nat) (vN vU : Value) (A : Int) (N : List ByteArray) (U : List Bool) (wr : World) : Prop where
  low : Below w.heap.size w wr
  n : Own encS wr w.heap.size wr.heap.size vN N
  u : Own encB wr w.heap.size wr.heap.size vU U
  v3 : VBlk wr b3 33 [vN, vU, .int .i64 A]
  v2 : VBlk wr b2 33 [.slice none 0 0, .slice none 0 0, .int .i64 0]

set_option maxRecDepth 100000 in
set_option maxHeartbeats 2000000 in
theorem ringOf_any (r : Rg) (sv : Value) (w : World) (h : Rd encSeat w sv (r.N.zip r.U)) (hNU : r.U.length = r.N.length) (hl : r.N.length ≤ 1000000) :
    Calls Try.prog 128 #[.agg #[sv, .int .i64 r.A]] w fun e w' => ∃ vN vU, e = .returned (.agg #[vN, vU, .int .i64 r.A]) ∧ OwnR w' w.heap.size w'.heap.size vN vU r ∧ Below w.heap.size w w' := by
  obtain ⟨N, U, A⟩ := r
  dsimp only at h hNU hl ⊢
  obtain ⟨a, n, cap, rfl⟩ : ∃ a n k, sv = .slice a n k := by obtain ⟨a, cap, e⟩ := h.form; exact ⟨a, _, cap, e⟩
  have hn : n = N.length := h.cap.1.trans (zip_len hNU)
  have R : Hid (Rd encSeat w (.slice a n cap) (N.zip U)) := h
  have HN : Hid (n = N.length) := hn
  have hn2 : n ≤ 1000000 := by omega
  have HU : Hid (U.length = N.length) := hNU
  clear h hn hNU
  have m1 : Hid True := trivial
  have m2 : Hid True := trivial
  have m3 : Hid True := trivial
  go_enter Try.func128, Try.ntmps128
  go_wp2_with (first | (clear m1; refine wpList_box_v rfl 144 _ rfl [.slice a n cap, .int .i64 A] rfl ?_; intro b1 w1 hb1 hw1 hB1 V1; have hz1 := hB1.size) | (clear m2; refine wpList_alloc_v rfl 33 rfl _ zeroRg ?_; intro b2 w2 hb2 hw2 hB2 V2; have hz2 := hB2.size; replace V1 := vblk_grow V1 hB2; obtain ⟨c0, c1⟩ := cells2 V1) | (clear m3; refine wpList_alloc_v rfl 33 rfl _ zeroRg ?_; intro b3 w3 hb3 hw3 hB3 V3; have hz3 := hB3.size; replace V1 := vblk_grow V1 hB3; replace V2 := vblk_grow V2 hB3) | (refine wpList_store_v rfl 33 _ _ rfl b3 [.slice none 0 0, .slice none 0 0, .int .i64 A] rfl rfl sizeRg V3 rfl (by simp [Value.oneCell']) ?_; intro w4 hO4 X3; have hz4 := hO4.1; replace V1 := vblk_only V1 hO4 (by omega); replace V2 := vblk_only V2 hO4 (by omega); clear c0 c1; obtain ⟨c0, c1⟩ := cells2 V1) | (fail))
  have M0 : Hid (Mk w b2 b3 (.slice none 0 0) (.slice none 0 0) A [] [] w4) := ⟨((hB1.trans (hB2.mono hz1)).trans (hB3.mono (by omega))).trans (hO4.2.2 _ (by omega)), own_zero _ _ _ _ _, own_zero _ _ _ _ _, X3, V2⟩
  have hbb : b2 ≠ b3 := by omega
  have hwb : w.heap.size ≤ b3 ∧ w.heap.size ≤ b2 := by omega
  clear hB1 hB2 hB3 hO4 V1 V2 V3 X3 c0 c1 hb1 hw1 hb2 hw2 hb3 hw3 hz1 hz2 hz3 hz4
  go_loopw [12] (fun p wr => ∃ i : Nat, i ≤ N.length ∧ p = .int .i64 i ∧ ∃ vN vU, Hid (Mk w b2 b3 vN vU A (N.take i) (U.take i) wr)) (fun p _ => N.length - (intOf p).toNat)
  case atStart => exact ⟨0, by omega, rfl, _, _, M0⟩
  case round =>
    obtain ⟨i, hi1, rfl, vN, vU, M⟩ := hrel
    obtain ⟨aN, nN, kN, rfl⟩ := M.out.n.slice
    obtain ⟨aU, nU, kU, rfl⟩ := M.out.u.slice
    by_cases hlt : i < N.length
    · have hlz : i < (N.zip U).length := by rw [zip_len HU.out]; exact hlt
      obtain ⟨g, off, rfl, hb, d0, d1⟩ := rdT_cell (R.out.grow M.out.low) i hlz
      rw [List.getElem_zip] at d0 d1
      dsimp only at d0 d1
      have hlU : i < U.length := by have := HU.out; omega
      obtain ⟨z, hz⟩ := hid_ex (N[i])
      obtain ⟨x, hx⟩ := hid_ex (U[i])
      have eN : Hid (N.take i ++ [z] = N.take (i + 1)) := by unfold Hid; rw [List.take_succ_eq_append_getElem hlt, hz.out]
      have eU : Hid (U.take i ++ [x] = U.take (i + 1)) := by unfold Hid; rw [List.take_succ_eq_append_getElem hlU, hx.out]
      rw [hz.out] at d0
      rw [hx.out] at d1
      have hlt' : (i : Int) < (n : Int) := by have := HN.out; omega
      have l1 : (N.take i).length ≤ i := by rw [List.length_take]; omega
      have l2 : (U.take i).length ≤ i := by rw [List.length_take]; omega
      have hb3 := M.out.v3.lt
      clear hlz hz hx
      have m1 : Hid True := trivial
      have m2 : Hid True := trivial
      go_wp2_with (first | (clear m1; refine wpList_alloc_v rfl 191 rfl _ zeroSeatL ?_; intro b5 w5 hb5 hw5 hB5 V5; have hz5 := hB5.size; have lw := M.out.low.size) | (refine wpList_store_v rfl 191 _ _ rfl b5 [.string z, .bool x] rfl rfl sizeSeat V5 rfl (by simp [Value.oneCell']) ?_; intro w6 hO6 V6; have hz6 := Nat.le_of_eq hO6.1.symm; have hy6 := Nat.le_of_eq hO6.1; have hB6 : Below wr.heap.size wr w6 := hB5.trans (hO6.2.2 _ hb5); have v36 := vblk_grow M.out.v3 hB6; have v26 := vblk_grow M.out.v2 hB6; have n6 := M.out.n.grow hB6; have u6 := M.out.u.grow hB6; have low6 := M.out.low.trans (hB6.mono lw); obtain ⟨c0, c1, c2⟩ := cells3 v36; obtain ⟨e0, e1⟩ := cells2 V6) | (clear m2; at_builtin; refine wpList_append_g infoS rfl _ _ 22 rfl Try.underlying22 w.heap.size _ _ (N.take i) rfl (n6.grow ((Below.refl _ _).alloc (Nat.le_refl _) _)) (by simp; omega) _ [z] rfl (rd_new (E := encS) w6 z #[.string z] rfl) (by simp; omega) ?_; intro v7 w7 n7 hT7; have hBa : Below w6.heap.size w6 (w6.alloc (.cells #[.string z] 9)) := (Below.refl _ _).alloc (Nat.le_refl _) _; have v37 := hT7.vblk (vblk_grow v36 hBa) (by decide); have v27 := hT7.vblk (vblk_grow v26 hBa) (by decide); have v57 := hT7.vblk (vblk_grow V6 hBa) (by decide); have u7 := hT7.own (u6.grow hBa) (by decide); have low7 := (low6.trans (hBa.mono (by omega))).trans hT7.low; have hz7 := hT7.low.size; have hza := hBa.size; rw [eN.out] at n7; obtain ⟨a7, n7', k7, rfl⟩ := n7.slice) | (refine wpList_store_ss rfl _ _ rfl b3 0 a7 n7' k7 rfl rfl v37 (by simp) ?_; intro w8 hO8 v38; have hz8 := Nat.le_of_eq hO8.1.symm; have hy8 := Nat.le_of_eq hO8.1; have n8 := n7.only hO8 v37 (by decide); have u8 := u7.only hO8 v37 (by decide); have v28 := vblk_only v27 hO8 hbb; have v58 := vblk_only v57 hO8 (by omega); have low8 := low7.trans (hO8.2.2 _ hwb.1); clear c0 c1 c2 e0 e1; obtain ⟨c0, c1, c2⟩ := cells3 v38; obtain ⟨e0, e1⟩ := cells2 v58) | (at_builtin; refine wpList_append_g infoB rfl _ _ 23 rfl Try.underlying23 w.heap.size _ _ (U.take i) rfl (u8.grow ((Below.refl _ _).alloc (Nat.le_refl _) _)) (by simp; omega) _ [x] rfl (rd_new (E := encB) w8 x #[.bool x] rfl) (by simp; omega) ?_; intro v9 w9 u9 hT9; have hBb : Below w8.heap.size w8 (w8.alloc (.cells #[.bool x] 4)) := (Below.refl _ _).alloc (Nat.le_refl _) _; have v39 := hT9.vblk (vblk_grow v38 hBb) (by decide); have v29 := hT9.vblk (vblk_grow v28 hBb) (by decide); have n9 := hT9.own (n8.grow hBb) (by decide); have low9 := (low8.trans (hBb.mono (by omega))).trans hT9.low; rw [eU.out] at u9; obtain ⟨a9, n9', k9, rfl⟩ := u9.slice) | (refine wpList_store_bs rfl _ _ rfl b3 1 a9 n9' k9 rfl rfl v39 (by simp) ?_; intro wX hOX v3X; have nX := n9.only hOX v39 (by decide); have uX := u9.only hOX v39 (by decide); have v2X := vblk_only v29 hOX hbb; have lowX := low9.trans (hOX.2.2 _ hwb.1)) | (fail))
      go_roundw
      case rel => exact ⟨i + 1, by omega, by go_num, _, _, ⟨lowX, nX.top, uX.top, v3X, v2X⟩⟩
      case measure => simp [intOf]; omega
    · have hlt' : ¬ (i : Int) < (n : Int) := by have := HN.out; omega
      have M2 := M.out
      rw [List.take_of_length_le (by omega), List.take_of_length_le (by have := HU.out; omega)] at M2
      obtain ⟨c0, c1, c2⟩ := cells3 M2.v3
      have v2 := M2.v2
      clear M
      go_wp2_with (first | (refine wpList_store_v rfl 33 _ _ rfl b2 [.slice aN nN kN, .slice aU nU kU, .int .i64 A] rfl rfl sizeRg v2 rfl (by simp [Value.oneCell']) ?_; intro w9 hO9 V9) | (fail))
      exact row_retv rfl rfl V9 Try.underlying33 sizeRg rfl ⟨_, _, rfl, ⟨(M2.n.only hO9 v2 (by decide)).top, (M2.u.only hO9 v2 (by decide)).top⟩, M2.low.trans (hO9.2.2 _ hwb.2)⟩
end Go.Proofs.Ytapchjkiiifhdaa.rg
/- Contract: the program's generic ring out of a ring. -/
namespace Go.Proofs.Ytapchjkiiifhdaa.rg
open Go.ChangeShapes Go.WideShapes Go.ChangeAt Go.RowKit
open Go.Proofs.Ytapchjkiiifhdaa.ce Go.Proofs.Ytapchjkiiifhdaa.ro
set_option linter.unusedVariables false

theorem zip_take {N : List ByteArray} {U : List Bool} {i : Nat} (h1 : i < N.length) (h2 : i < U.length) : (N.take i).zip (U.take i) ++ [(N[i], U[i])] = (N.take (i + 1)).zip (U.take (i + 1)) := by
  rw [List.take_succ_eq_append_getElem h1, List.take_succ_eq_append_getElem h2, List.zip_append (by simp; omega)]
  rfl
theorem snoc_set {α : Type} (xs : List α) (x y : α) (i : Nat) (h : xs.length = i) : (xs ++ [x]).set i y = xs ++ [y] := by
  subst h
  simp
/-- while a generic ring is made: the ring in b1, the answer's variable b2, the new one's b4 -/
structure Ro (w : World) (b1 b2 b4 : Nat) (vs : List Value) (sv : Value) (ss : List (ByteArray × Bool)) (wr : World) : Prop where
  low : Below w.heap.size w wr
  v1 : VBlk wr b1 33 vs
  v2 : VBlk wr b2 144 [.slice none 0 0, .int .i64 0]
  r : RV wr w.heap.size wr.heap.size b4 sv ss 0
theorem Ro.grow {w : World} {b1 b2 b4 : Nat} {vs : List Value} {sv : Value} {ss : List (ByteArray × Bool)} {wr w' : World} (h : Ro w b1 b2 b4 vs sv ss wr) (hb : Below wr.heap.size wr w') : Ro w b1 b2 b4 vs sv ss w' :=
  ⟨h.low.trans (hb.mono h.low.size), vblk_grow h.v1 hb, vblk_grow h.v2 hb, (h.r.grow hb).top⟩
theorem Ro.step {w : World} {b1 b2 b4 hi : Nat} {vs : List Value} {sv sv' : Value} {ss ss' : List (ByteArray × Bool)} {wr w' : World} (h : Ro w b1 b2 b4 vs sv ss wr) (hr : RV w' w.heap.size hi b4 sv' ss' 0) (ht : Tq w.heap.size b4 wr w') (h4 : w.heap.size ≤ b4) (n1 : b1 ≠ b4) (n2 : b2 ≠ b4) : Ro w b1 b2 b4 vs sv' ss' w' :=
  ⟨h.low.trans (ht.below (Nat.le_refl _) h4), ht.vblk h.v1 n1 (by decide), ht.vblk h.v2 n2 (by decide), hr.top⟩

/-- what is known of a generic ring that was made of a ring, right or not -/
structure Made (w w' : World) (y : Bool) (r : Rg) (a : Option Addr) (n k : Nat) (A' : Int) : Prop where
  own : y = true → Own encSeat w' w.heap.size w'.heap.size (.slice a n k) (r.N.zip r.U) ∧ A' = r.A
  low : Below w.heap.size w w'

set_option maxRecDepth 100000 in
set_option maxHeartbeats 4000000 in
theorem roundOf_any (r : Rg) (vN vU : Value) (w : World) (h : RdR w vN vU r) :
    Calls Try.prog 125 #[.agg #[vN, vU, .int .i64 r.A]] w fun e w' => ∃ a n k A', e = .returned (.tuple #[.agg #[.slice a n k, .int .i64 A'], .bool (ringB r)]) ∧ Made w w' (ringB r) r a n k A' := by
  obtain ⟨N, U, A⟩ := r
  obtain ⟨a, cap, rfl⟩ := h.n.form
  obtain ⟨c, dc, rfl⟩ := h.u.form
  have R : Hid (RdR w (.slice a N.length cap) (.slice c U.length dc) ⟨N, U, A⟩) := h
  have hlN := h.n.len
  have hlU := h.u.len
  clear h
  dsimp only at hlN hlU ⊢
  obtain ⟨y, hy⟩ := hid_ex (ringB ⟨N, U, A⟩)
  rw [hy.out]
  replace hy : Hid ((namesB N && (U.length == N.length) && atB N.length A) = y) := hy
  by_cases hpre : (N.length : Int) ≤ 20 ∧ (U.length : Int) = (N.length : Int) ∧ 0 ≤ A ∧ A < max (N.length : Int) 1
  · obtain ⟨g1, g2, g3, g4⟩ := hpre
    have e1 : ¬ (N.length : Int) > 20 := by omega
    have e2 : ((U.length : Int) != (N.length : Int)) = false := by simpa using g2
    have e3 : ¬ A < 0 := by omega
    have e4 : ¬ A ≥ max (N.length : Int) 1 := by omega
    have hmx : (if (N.length : Int) < 1 then (1 : Int) else (N.length : Int)) = max (N.length : Int) 1 := by omega
    have HU : Hid (U.length = N.length) := by unfold Hid; omega
    have hy2 : Hid (namesB N = y) := by
      unfold Hid
      rw [← hy.out, show (U.length == N.length) = true by simp; omega]
      unfold atB
      rw [decide_eq_true g3, decide_eq_true g4]
      simp
    clear g2
    have m1 : Hid True := trivial
    have m2 : Hid True := trivial
    have m3 : Hid True := trivial
    go_enter Try.func125, Try.ntmps125
    go_wp2_with (first | (clear m1; refine wpList_box_v rfl 33 _ rfl [.slice a N.length cap, .slice c U.length dc, .int .i64 A] rfl ?_; intro b1 w1 hb1 hw1 hB1 V1; have hz1 := hB1.size) | (clear m2; refine wpList_alloc_v rfl 144 rfl _ zeroRd ?_; intro b2 w2 hb2 hw2 hB2 V2; have hz2 := hB2.size; replace V1 := vblk_grow V1 hB2) | (clear m3; refine wpList_alloc_v rfl 144 rfl _ zeroRd ?_; intro b4 w3 hb4 hw4 hB3 V4; have hz3 := hB3.size; replace V1 := vblk_grow V1 hB3; replace V2 := vblk_grow V2 hB3; obtain ⟨c0, c1, c2⟩ := cells3 V1) | (fail))
    have M0 : Hid (Ro w b1 b2 b4 [.slice a N.length cap, .slice c U.length dc, .int .i64 A] (.slice none 0 0) [] w3) := ⟨(hB1.trans (hB2.mono hz1)).trans (hB3.mono (by omega)), V1, V2, own_zero _ _ _ _ _, V4⟩
    have hn1 : b1 ≠ b4 := by omega
    have hn2 : b2 ≠ b4 := by omega
    have hwb : w.heap.size ≤ b4 ∧ w.heap.size ≤ b2 := by omega
    clear hB1 hB2 hB3 V1 V2 V4 c0 c1 c2 hb1 hw1 hb2 hw2 hb4 hw4 hz1 hz2 hz3
    go_loopw [36] (fun p wr => ∃ i : Nat, i ≤ N.length ∧ p = .int .i64 i ∧ Hid (Pre N i) ∧ ∃ sv, Hid (Ro w b1 b2 b4 [.slice a N.length cap, .slice c U.length dc, .int .i64 A] sv ((N.take i).zip (U.take i)) wr)) (fun p _ => N.length - (intOf p).toNat)
    case atStart => exact ⟨0, by omega, rfl, pre_zero N, _, M0⟩
    case round =>
      obtain ⟨i, hi1, rfl, hP, sv, M⟩ := hrel
      obtain ⟨aS, nS, kS, rfl⟩ := M.out.r.o.slice
      obtain ⟨c0, c1, c2⟩ := cells3 M.out.v1
      obtain ⟨f0, f1⟩ := cells2 M.out.r.v
      have v2 := M.out.v2
      by_cases hlt : i < N.length
      · obtain ⟨g, off, rfl, hgb, d0⟩ := rdS_cell (R.out.grow M.out.low).n i hlt
        have hlt' : (i : Int) < (N.length : Int) := by omega
        have hlU2 : i < U.length := by have := HU.out; omega
        have hlU3 : (i : Int) < (U.length : Int) := by omega
        have hsz := R.out.s N[i] (List.getElem_mem hlt)
        have hp1 := @pre_not1 N i hlt
        have hp2 := @pre_not2 N i hlt
        have hp3 := pre_succ hP.out hlt
        have hzt := zip_take hlt hlU2
        have hzl : ((N.take i).zip (U.take i)).length = i := by simp; omega
        have hmf : ((N.take i).zip (U.take i)).map (·.1) = N.take i := zip_fst (by simp; omega)
        have hpm := @posS_mem N[i] (N.take i)
        have hpb := posS_bd N[i] (N.take i)
        obtain ⟨z, hz⟩ := hid_ex (N[i])
        obtain ⟨x, hx⟩ := hid_ex (U[i])
        rw [hz.out] at d0 hsz hp1 hp2 hp3 hzt hpm hpb
        rw [hx.out] at hzt
        cases hn : nameB z with
        | false =>
          have ey : y = false := hy2.out.symm.trans (hp1 hn)
          subst ey
          clear hp1 hp2 hp3 hzt hzl hmf hpm hpb
          go_wp2_with (first | (go_at_call 82; refine (implNameOk_any _ hsz _).mono ?_; rintro e wq ⟨rfl, hq⟩; subst wq; rw [hn]) | (refine wpList_store_v rfl 144 _ _ rfl b2 [.slice aS nS kS, .int .i64 0] rfl rfl sizeRd v2 rfl (by simp [Value.oneCell']) ?_; intro w9 hO9 V9) | (fail))
          exact row_ct rfl rfl rfl V9 Try.underlying144 sizeRd rfl ⟨_, _, _, _, rfl, ⟨fun q => (by cases q), M.out.low.trans (hO9.2.2 _ hwb.2)⟩⟩
        | true =>
          obtain ⟨p, hp0⟩ := hid_ex (posS z (N.take i))
          have hp : Hid (posS z (((N.take i).zip (U.take i)).map (·.1)) = p) := by unfold Hid; rw [hmf]; exact hp0.out
          rw [hp0.out] at hpm hpb
          clear hp0
          by_cases hpe : p = -1
          · subst hpe
            have hPn : Hid (Pre N (i + 1)) := hp3 hn (fun q => by have := hpm.1 q; omega)
            have hzl2 : Hid (((N.take i).zip (U.take i)).length = i) := hzl
            have hzl3 : ((N.take i).zip (U.take i)).length ≤ i := by omega
            have HZ : Hid ((N.take i).zip (U.take i) ++ [(z, x)] = (N.take (i + 1)).zip (U.take (i + 1))) := hzt
            clear hp1 hp2 hp3 hzt hzl hmf hpm hpb
            obtain ⟨g2, off2, rfl, hgb2, -⟩ := rdB_cell (R.out.grow M.out.low).u i hlU2
            cases x with
            | false =>
              go_wp2_with (first | (go_at_call 82; refine (implNameOk_any _ hsz _).mono ?_; rintro e wq ⟨rfl, hq⟩; subst wq; rw [hn]) | (go_at_call 150; refine (placeOf_any _ _ _ _ b4 _ _ _ M.out.r).mono ?_; rintro e w5 ⟨rfl, hB5⟩; rw [hp.out]; have M5 := M.out.grow hB5; clear c0 c1 c2 f0 f1; obtain ⟨c0, c1, c2⟩ := cells3 M5.v1; obtain ⟨f0, f1⟩ := cells2 M5.r.v; have v25 := M5.v2) | (go_at_call 178; refine (join_any _ _ _ _ b4 _ _ _ M5.r (by have := M5.low.size; omega) (by omega)).mono ?_; rintro e w6 ⟨⟨u6, rfl⟩, ⟨sv6, rv6⟩, hT6⟩; have M6 := M5.step rv6 hT6 hwb.1 hn1 hn2; clear c0 c1 c2 f0 f1; obtain ⟨c0, c1, c2⟩ := cells3 M6.v1; obtain ⟨g2', off2', e2', -, d1'⟩ := rdB_cell (R.out.grow M6.low).u i hlU2; cases e2'; rw [hx.out] at d1') | (fail))
              rw [HZ.out] at M6
              go_roundw
              case rel => exact ⟨i + 1, by omega, by go_num, hPn, _, M6⟩
              case measure => simp [intOf]; omega
            | true =>
              go_wp2_with (first | (go_at_call 82; refine (implNameOk_any _ hsz _).mono ?_; rintro e wq ⟨rfl, hq⟩; subst wq; rw [hn]) | (go_at_call 150; refine (placeOf_any _ _ _ _ b4 _ _ _ M.out.r).mono ?_; rintro e w5 ⟨rfl, hB5⟩; rw [hp.out]; have M5 := M.out.grow hB5; clear c0 c1 c2 f0 f1; obtain ⟨c0, c1, c2⟩ := cells3 M5.v1; obtain ⟨f0, f1⟩ := cells2 M5.r.v; have v25 := M5.v2) | (go_at_call 178; refine (join_any _ _ _ _ b4 _ _ _ M5.r (by have := M5.low.size; omega) (by omega)).mono ?_; rintro e w6 ⟨⟨u6, rfl⟩, ⟨sv6, rv6⟩, hT6⟩; have M6 := M5.step rv6 hT6 hwb.1 hn1 hn2; clear c0 c1 c2 f0 f1; obtain ⟨c0, c1, c2⟩ := cells3 M6.v1; obtain ⟨g2', off2', e2', -, d1'⟩ := rdB_cell (R.out.grow M6.low).u i hlU2; cases e2'; rw [hx.out] at d1') | (go_at_call 179; refine (use_any i _ _ _ b4 _ _ _ M6.r (by rw [List.length_append]; have := hzl2.out; simp; omega)).mono ?_; rintro e w7 ⟨⟨u7, rfl⟩, rv7, hT7⟩; have M7 := M6.step rv7 hT7 hwb.1 hn1 hn2) | (fail))
              rw [snoc_set _ _ _ _ hzl2.out, List.getElem_concat_length hzl2.out.symm, HZ.out] at M7
              go_roundw
              case rel => exact ⟨i + 1, by omega, by go_num, hPn, _, M7⟩
              case measure => simp [intOf]; omega
          · have ey : y = false := hy2.out.symm.trans (hp2 (hpm.2 (by omega)))
            subst ey
            have hpe2 : (p != -1) = true := by simpa using hpe
            clear hp1 hp2 hp3 hzt hzl hmf hpm hpb hpe
            go_wp2_with (first | (go_at_call 82; refine (implNameOk_any _ hsz _).mono ?_; rintro e wq ⟨rfl, hq⟩; subst wq; rw [hn]) | (go_at_call 150; refine (placeOf_any _ _ _ _ b4 _ _ _ M.out.r).mono ?_; rintro e w5 ⟨rfl, hB5⟩; rw [hp.out]; have M5 := M.out.grow hB5; clear c0 c1 c2 f0 f1; obtain ⟨c0, c1, c2⟩ := cells3 M5.v1; obtain ⟨f0, f1⟩ := cells2 M5.r.v; have v25 := M5.v2) | (refine wpList_store_v rfl 144 _ _ rfl b2 [.slice aS nS kS, .int .i64 0] rfl rfl sizeRd v25 rfl (by simp [Value.oneCell']) ?_; intro w9 hO9 V9) | (fail))
            exact row_ct rfl rfl rfl V9 Try.underlying144 sizeRd rfl ⟨_, _, _, _, rfl, ⟨fun q => (by cases q), M5.low.trans (hO9.2.2 _ hwb.2)⟩⟩
      · have hlt' : ¬ (i : Int) < (N.length : Int) := by omega
        have M2 := M.out
        have hP2 := hP.out
        rw [show i = N.length by omega] at hP2
        have ey : y = true := by rw [← hy2.out, pre_all hP2]; exact decide_eq_true g1
        subst ey
        rw [List.take_of_length_le (by omega), List.take_of_length_le (by have := HU.out; omega)] at M2
        clear M hP2
        have v4 := M2.r.v
        go_wp2_with (first | (refine wpList_store_n rfl _ _ rfl b4 1 A rfl rfl v4 (by simp) ?_; intro w8 hO8 V8; have v28 := vblk_only v2 hO8 hn2; have o8 := M2.r.o.only hO8 v4 (by decide); clear f0 f1; obtain ⟨f0, f1⟩ := cells2 V8) | (refine wpList_store_v rfl 144 _ _ rfl b2 [.slice aS nS kS, .int .i64 A] rfl rfl sizeRd v28 rfl (by simp [Value.oneCell']) ?_; intro w9 hO9 V9) | (fail))
        exact row_ct rfl rfl rfl V9 Try.underlying144 sizeRd rfl ⟨_, _, _, _, rfl, ⟨fun _ => ⟨(o8.only hO9 v28 (by decide)).top, rfl⟩, (M2.low.trans (hO8.2.2 _ hwb.1)).trans (hO9.2.2 _ hwb.2)⟩⟩
  · have ey : y = false := by
      rw [← hy.out]
      cases q : (namesB N && (U.length == N.length) && atB N.length A) with
      | false => rfl
      | true =>
        exfalso
        simp only [Bool.and_eq_true, beq_iff_eq, namesB, atB, decide_eq_true_eq] at q
        exact hpre ⟨by have := q.1.1.2.2; omega, by have := q.1.2; omega, q.2.1, q.2.2⟩
    subst ey
    have hmx : (if (N.length : Int) < 1 then (1 : Int) else (N.length : Int)) = max (N.length : Int) 1 := by omega
    by_cases g1 : (N.length : Int) > 20
    · clear hpre
      have m1 : Hid True := trivial
      have m2 : Hid True := trivial
      have m3 : Hid True := trivial
      go_enter Try.func125, Try.ntmps125
      go_wp2_with (first | (clear m1; refine wpList_box_v rfl 33 _ rfl [.slice a N.length cap, .slice c U.length dc, .int .i64 A] rfl ?_; intro b1 w1 hb1 hw1 hB1 V1; have hz1 := hB1.size) | (clear m2; refine wpList_alloc_v rfl 144 rfl _ zeroRd ?_; intro b2 w2 hb2 hw2 hB2 V2; have hz2 := hB2.size; replace V1 := vblk_grow V1 hB2) | (clear m3; refine wpList_alloc_v rfl 144 rfl _ zeroRd ?_; intro b4 w3 hb4 hw4 hB3 V4; have hz3 := hB3.size; replace V1 := vblk_grow V1 hB3; replace V2 := vblk_grow V2 hB3; obtain ⟨c0, c1, c2⟩ := cells3 V1; obtain ⟨f0, f1⟩ := cells2 V4) | (refine wpList_store_v rfl 144 _ _ rfl b2 [.slice none 0 0, .int .i64 0] rfl rfl sizeRd V2 rfl (by simp [Value.oneCell']) ?_; intro w9 hO9 V9) | (fail))
      exact row_ct rfl rfl rfl V9 Try.underlying144 sizeRd rfl ⟨_, _, _, _, rfl, ⟨fun q => (by cases q), ((hB1.trans (hB2.mono hz1)).trans (hB3.mono (by omega))).trans (hO9.2.2 _ (by omega))⟩⟩
    · by_cases g2 : (U.length : Int) = (N.length : Int)
      · have g2b : ((U.length : Int) != (N.length : Int)) = false := by simpa using g2
        by_cases g3 : A < 0
        · clear hpre g2
          have m1 : Hid True := trivial
          have m2 : Hid True := trivial
          have m3 : Hid True := trivial
          go_enter Try.func125, Try.ntmps125
          go_wp2_with (first | (clear m1; refine wpList_box_v rfl 33 _ rfl [.slice a N.length cap, .slice c U.length dc, .int .i64 A] rfl ?_; intro b1 w1 hb1 hw1 hB1 V1; have hz1 := hB1.size) | (clear m2; refine wpList_alloc_v rfl 144 rfl _ zeroRd ?_; intro b2 w2 hb2 hw2 hB2 V2; have hz2 := hB2.size; replace V1 := vblk_grow V1 hB2) | (clear m3; refine wpList_alloc_v rfl 144 rfl _ zeroRd ?_; intro b4 w3 hb4 hw4 hB3 V4; have hz3 := hB3.size; replace V1 := vblk_grow V1 hB3; replace V2 := vblk_grow V2 hB3; obtain ⟨c0, c1, c2⟩ := cells3 V1; obtain ⟨f0, f1⟩ := cells2 V4) | (refine wpList_store_v rfl 144 _ _ rfl b2 [.slice none 0 0, .int .i64 0] rfl rfl sizeRd V2 rfl (by simp [Value.oneCell']) ?_; intro w9 hO9 V9) | (fail))
          exact row_ct rfl rfl rfl V9 Try.underlying144 sizeRd rfl ⟨_, _, _, _, rfl, ⟨fun q => (by cases q), ((hB1.trans (hB2.mono hz1)).trans (hB3.mono (by omega))).trans (hO9.2.2 _ (by omega))⟩⟩
        · have g4 : A ≥ max (N.length : Int) 1 := by
            have : ¬ A < max (N.length : Int) 1 := fun q => hpre ⟨by omega, g2, by omega, q⟩
            omega
          clear hpre g2
          have m1 : Hid True := trivial
          have m2 : Hid True := trivial
          have m3 : Hid True := trivial
          go_enter Try.func125, Try.ntmps125
          go_wp2_with (first | (clear m1; refine wpList_box_v rfl 33 _ rfl [.slice a N.length cap, .slice c U.length dc, .int .i64 A] rfl ?_; intro b1 w1 hb1 hw1 hB1 V1; have hz1 := hB1.size) | (clear m2; refine wpList_alloc_v rfl 144 rfl _ zeroRd ?_; intro b2 w2 hb2 hw2 hB2 V2; have hz2 := hB2.size; replace V1 := vblk_grow V1 hB2) | (clear m3; refine wpList_alloc_v rfl 144 rfl _ zeroRd ?_; intro b4 w3 hb4 hw4 hB3 V4; have hz3 := hB3.size; replace V1 := vblk_grow V1 hB3; replace V2 := vblk_grow V2 hB3; obtain ⟨c0, c1, c2⟩ := cells3 V1; obtain ⟨f0, f1⟩ := cells2 V4) | (refine wpList_store_v rfl 144 _ _ rfl b2 [.slice none 0 0, .int .i64 0] rfl rfl sizeRd V2 rfl (by simp [Value.oneCell']) ?_; intro w9 hO9 V9) | (fail))
          exact row_ct rfl rfl rfl V9 Try.underlying144 sizeRd rfl ⟨_, _, _, _, rfl, ⟨fun q => (by cases q), ((hB1.trans (hB2.mono hz1)).trans (hB3.mono (by omega))).trans (hO9.2.2 _ (by omega))⟩⟩
      · have g2b : ((U.length : Int) != (N.length : Int)) = true := by simpa using g2
        clear hpre g2
        have m1 : Hid True := trivial
        have m2 : Hid True := trivial
        have m3 : Hid True := trivial
        go_enter Try.func125, Try.ntmps125
        go_wp2_with (first | (clear m1; refine wpList_box_v rfl 33 _ rfl [.slice a N.length cap, .slice c U.length dc, .int .i64 A] rfl ?_; intro b1 w1 hb1 hw1 hB1 V1; have hz1 := hB1.size) | (clear m2; refine wpList_alloc_v rfl 144 rfl _ zeroRd ?_; intro b2 w2 hb2 hw2 hB2 V2; have hz2 := hB2.size; replace V1 := vblk_grow V1 hB2) | (clear m3; refine wpList_alloc_v rfl 144 rfl _ zeroRd ?_; intro b4 w3 hb4 hw4 hB3 V4; have hz3 := hB3.size; replace V1 := vblk_grow V1 hB3; replace V2 := vblk_grow V2 hB3; obtain ⟨c0, c1, c2⟩ := cells3 V1; obtain ⟨f0, f1⟩ := cells2 V4) | (refine wpList_store_v rfl 144 _ _ rfl b2 [.slice none 0 0, .int .i64 0] rfl rfl sizeRd V2 rfl (by simp [Value.oneCell']) ?_; intro w9 hO9 V9) | (fail))
        exact row_ct rfl rfl rfl V9 Try.underlying144 sizeRd rfl ⟨_, _, _, _, rfl, ⟨fun q => (by cases q), ((hB1.trans (hB2.mono hz1)).trans (hB3.mono (by omega))).trans (hO9.2.2 _ (by omega))⟩⟩
end Go.Proofs.Ytapchjkiiifhdaa.rg
/- Contracts: the program's queues: right ones, the others, who is touched, all but one. -/
namespace Go.Proofs.Ytapchjkiiifhdaa.rg
open Go.ChangeShapes Go.WideShapes Go.ChangeAt Go.RowKit
open Go.Proofs.Ytapchjkiiifhdaa.ce Go.Proofs.Ytapchjkiiifhdaa.ro
set_option linter.unusedVariables false

theorem index_any (N : List ByteArray) (s : ByteArray) (a : Option Addr) (n cap : Nat) (hn : Hid (n = N.length)) (hn1 : n ≤ N.length) (hn2 : N.length ≤ n) (w : World) (r : Rd encS w (.slice a n cap) N) :
    Calls Try.prog 187 #[.slice a n cap, .string s] w fun e w' => e = .returned (.int .i64 (posS s N)) ∧ w' = w := by
  have hl := r.len
  have R : Hid (Rd encS w (.slice a n cap) N) := r
  clear r
  obtain ⟨y, hy⟩ := hid_ex (posS s N)
  rw [hy.out]
  go_enter Try.func187, Try.ntmps187
  go_wp2
  go_loop [8] (fun p => ∃ i : Nat, i ≤ N.length ∧ p = .int .i64 i ∧ Hid (s ∉ N.take i)) (fun p => N.length - (intOf p).toNat)
  case atStart => exact ⟨0, by omega, rfl, (by unfold Hid; simp)⟩
  case round =>
    obtain ⟨i, hi1, rfl, hno⟩ := hrel
    by_cases hlt : i < N.length
    · obtain ⟨b, off, rfl, hb, d0⟩ := rdS_cell R.out i hlt
      have hlt' : (i : Int) < (n : Int) := by omega
      obtain ⟨z, hz⟩ := hid_ex (N[i])
      rw [hz.out] at d0
      by_cases he : s.toList = z.toList
      · have ey : y = i := by rw [← hy.out]; exact posS_at hlt (hz.out.trans (str_eq he.symm)) hno.out
        subst ey
        have hbe : (s.toList == z.toList) = true := by simpa using he
        clear he
        go_wp2
        go_ret
        exact ⟨rfl, rfl⟩
      · have hno2 : Hid (s ∉ N.take (i + 1)) := by
          unfold Hid
          rw [List.take_succ_eq_append_getElem hlt, List.mem_append, hz.out, List.mem_singleton]
          rintro (h | h)
          · exact hno.out h
          · exact he (by rw [h])
        have hbe : (s.toList == z.toList) = false := by simpa using he
        clear he
        go_wp2
        go_round
        case rel => exact ⟨i + 1, by omega, by go_num, hno2⟩
        case measure => simp [intOf]; omega
    · have hlt' : ¬ (i : Int) < (n : Int) := by omega
      have ey : y = -1 := by
        have h := hno.out
        rw [List.take_of_length_le (by omega)] at h
        rw [← hy.out]; exact posS_no h
      subst ey
      go_wp2
      go_ret
      exact ⟨rfl, rfl⟩

theorem contains_any (N : List ByteArray) (s : ByteArray) (a : Option Addr) (n cap : Nat) (y : Bool) (hy : Hid (decide (0 ≤ posS s N) = y)) (w : World) (r : Rd encS w (.slice a n cap) N) :
    Calls Try.prog 145 #[.slice a n cap, .string s] w fun e w' => e = .returned (.bool y) ∧ w' = w := by
  have hn : Hid (n = N.length) := r.cap.1
  have R : Hid (Rd encS w (.slice a n cap) N) := r
  clear r
  obtain ⟨p, hp⟩ := hid_ex (posS s N)
  rw [hp.out] at hy
  go_enter Try.func145, Try.ntmps145
  go_wp2_with (first | (go_at_call 187; refine (index_any N s _ _ _ hn (Nat.le_of_eq hn.out) (Nat.le_of_eq hn.out.symm) _ R.out).mono ?_; rintro e wq ⟨rfl, hq⟩; subst wq; rw [hp.out]) | (fail))
  go_ret
  rw [← hy.out]
  exact ⟨rfl, rfl⟩

theorem implQueueOk_any (q : List ByteArray) (v : Value) (w : World) (r : Rd encS w v q) (hs : ∀ s ∈ q, s.size ≤ 9223372036854775807) :
    Calls Try.prog 127 #[v] w fun e w' => e = .returned (.bool (namesB q)) ∧ w' = w := by
  have hl := r.len
  obtain ⟨a, cap, rfl⟩ := r.form
  obtain ⟨-, hc1, hc2⟩ := r.cap
  have R : Hid (Rd encS w (.slice a q.length cap) q) := r
  have HS : Hid (∀ s ∈ q, s.size ≤ 9223372036854775807) := hs
  clear r hs
  obtain ⟨y, hy⟩ := hid_ex (namesB q)
  rw [hy.out]
  by_cases h20 : (q.length : Int) > 20
  · have ey : y = false := by rw [← hy.out]; exact names_long (by omega)
    subst ey
    go_enter Try.func127, Try.ntmps127
    go_wp2
    go_ret
    exact ⟨rfl, rfl⟩
  go_enter Try.func127, Try.ntmps127
  go_wp2
  go_loop [10] (fun p => ∃ i : Nat, i ≤ q.length ∧ p = .int .i64 i ∧ Hid (Pre q i)) (fun p => q.length - (intOf p).toNat)
  case atStart => exact ⟨0, by omega, rfl, pre_zero q⟩
  case round =>
    obtain ⟨i, hi1, rfl, hP⟩ := hrel
    by_cases hlt : i < q.length
    · obtain ⟨b, off, rfl, hb, d0⟩ := rdS_cell R.out i hlt
      have RT : Hid (Rd encS w (.slice (some ⟨b, off, none⟩) i cap) (q.take i)) := R.out.take i hi1
      have hlt' : (i : Int) < (q.length : Int) := by omega
      have i1 : (i : Int) ≤ (cap : Int) := by omega
      have hsz := HS.out q[i] (List.getElem_mem hlt)
      have hp1 := @pre_not1 q i hlt
      have hp2 := @pre_not2 q i hlt
      have hp3 := pre_succ hP.out hlt
      obtain ⟨z, hz⟩ := hid_ex (q[i])
      rw [hz.out] at d0 hsz hp1 hp2 hp3
      cases hn : nameB z with
      | false =>
        have ey : y = false := by rw [← hy.out]; exact hp1 hn
        subst ey
        clear hp1 hp2 hp3
        go_wp2_with (first | (go_at_call 82; refine (implNameOk_any _ hsz _).mono ?_; rintro e wq ⟨rfl, hq⟩; subst wq; rw [hn]) | (fail))
        go_ret
        exact ⟨rfl, rfl⟩
      | true =>
        obtain ⟨x, hx⟩ := hid_ex (decide (0 ≤ posS z (q.take i)))
        cases x with
        | false =>
          have hP2 : Hid (Pre q (i + 1)) := hp3 hn (fun h => of_decide_eq_false hx.out (posS_mem.1 h))
          clear hp1 hp2 hp3
          go_wp2_with (first | (go_at_call 82; refine (implNameOk_any _ hsz _).mono ?_; rintro e wq ⟨rfl, hq⟩; subst wq; rw [hn]) | (go_at_call 145; refine (contains_any (q.take i) z _ _ _ false hx _ RT.out).mono ?_; rintro e wq ⟨rfl, hq⟩; subst wq) | (fail))
          go_round
          case rel => exact ⟨i + 1, by omega, by go_num, hP2⟩
          case measure => simp [intOf]; omega
        | true =>
          have ey : y = false := by rw [← hy.out]; exact hp2 (posS_mem.2 (of_decide_eq_true hx.out))
          subst ey
          clear hp1 hp2 hp3
          go_wp2_with (first | (go_at_call 82; refine (implNameOk_any _ hsz _).mono ?_; rintro e wq ⟨rfl, hq⟩; subst wq; rw [hn]) | (go_at_call 145; refine (contains_any (q.take i) z _ _ _ true hx _ RT.out).mono ?_; rintro e wq ⟨rfl, hq⟩; subst wq) | (fail))
          go_ret
          exact ⟨rfl, rfl⟩
    · have hlt' : ¬ (i : Int) < (q.length : Int) := by omega
      have hP2 := hP.out
      rw [show i = q.length by omega] at hP2
      have ey : y = true := by rw [← hy.out, pre_all hP2]; exact decide_eq_true (by omega)
      clear hP2
      subst ey
      go_wp2
      go_ret
      exact ⟨rfl, rfl⟩

theorem others_any (q : List ByteArray) (s : ByteArray) (v : Value) (w : World) (r : Rd encS w v q) (hq : q.length ≤ 1000000) :
    Calls Try.prog 94 #[v, .string s] w fun e w' => ∃ v', e = .returned v' ∧ Own encS w' w.heap.size w'.heap.size v' (othersS q s) ∧ Below w.heap.size w w' := by
  obtain ⟨a, cap, rfl⟩ := r.form
  have R : Hid (Rd encS w (.slice a q.length cap) q) := r
  clear r
  go_enter Try.func94, Try.ntmps94
  go_wp2
  go_loopw [5, 10] (fun o p wr => ∃ (i : Nat) (A : Option Addr) (n k : Nat), i ≤ q.length ∧ p = .int .i64 i ∧ o = .slice A n k ∧ Hid (Own encS wr w.heap.size wr.heap.size (.slice A n k) (othersS (q.take i) s)) ∧ Below w.heap.size w wr) (fun _ p _ => q.length - (intOf p).toNat)
  case atStart => exact ⟨0, none, 0, 0, by omega, rfl, rfl, own_zero encS w _ _ none, Below.refl _ _⟩
  case round =>
    obtain ⟨i, A, n, k, hi1, rfl, rfl, O, hB⟩ := hrel
    by_cases hlt : i < q.length
    · obtain ⟨b, off, rfl, hb, d0⟩ := rdS_cell (R.out.grow hB) i hlt
      have hlt' : (i : Int) < (q.length : Int) := by omega
      have hz0 := hB.size
      have ey := @others_take_yes q s i hlt
      have en := @others_take_no q s i hlt
      have hol := others_len (q.take i) s
      rw [List.length_take] at hol
      obtain ⟨z, hz⟩ := hid_ex (q[i])
      rw [hz.out] at d0 ey en
      by_cases he : z.toList = s.toList
      · have O2 := O.out
        rw [← ey (str_eq he)] at O2
        have OO : Hid (Own encS wr w.heap.size wr.heap.size (.slice A n k) (othersS (q.take (i + 1)) s)) := O2
        have hbe : (z.toList == s.toList) = true := by simpa using he
        clear he ey en O O2
        go_wp2
        go_roundw
        case rel => exact ⟨i + 1, _, _, _, by omega, by go_num, rfl, OO, hB⟩
        case measure => simp [intOf]; omega
      · have en2 := en fun e => he (by rw [e])
        have hbe : (z.toList == s.toList) = false := by simpa using he
        obtain ⟨os, hos⟩ := hid_ex (othersS (q.take i) s)
        rw [hos.out] at O hol en2
        have EN : Hid (othersS (q.take (i + 1)) s = os ++ [z]) := en2
        clear he ey en en2
        go_wp2_with (first | (at_builtin; refine wpList_append_g infoS rfl _ _ 22 rfl Try.underlying22 w.heap.size _ _ os rfl (O.out.grow ((Below.refl _ _).alloc (Nat.le_refl _) _)) (by simp; omega) _ [z] rfl (rd_new (E := encS) wr z #[.string z] rfl) (by simp; omega) ?_; intro v1 w1 o1 hT1; rw [← EN.out] at o1; obtain ⟨A1, n1, k1, rfl⟩ := o1.slice; have hB1 : Below w.heap.size w w1 := (hB.alloc hB.size _).trans hT1.low) | (fail))
        go_roundw
        case rel => exact ⟨i + 1, A1, n1, k1, by omega, by go_num, rfl, o1, hB1⟩
        case measure => simp [intOf]; omega
    · have hlt' : ¬ (i : Int) < (q.length : Int) := by omega
      have O2 := O.out
      rw [List.take_of_length_le (by omega)] at O2
      go_wp2
      go_ret
      exact ⟨_, rfl, O2, hB⟩

theorem implTouched_any (q : List ByteArray) (s : ByteArray) (hs : s.size ≤ 9223372036854775807) (v : Value) (w : World) (r : Rd encS w v q) (hss : ∀ s ∈ q, s.size ≤ 9223372036854775807) :
    Calls Try.prog 85 #[v, .string s] w fun e w' => ∃ v', e = .returned (.tuple #[v', .bool (toB q s)]) ∧ Own encS w' w.heap.size w'.heap.size v' (toR q s) ∧ Below w.heap.size w w' := by
  obtain ⟨a, cap, rfl⟩ := r.form
  have R : Hid (Rd encS w (.slice a q.length cap) q) := r
  have HS : Hid (∀ s ∈ q, s.size ≤ 9223372036854775807) := hss
  clear r hss
  cases hk : namesB q with
  | false =>
    obtain ⟨e1, e2⟩ := to_no (s := s) hk
    rw [e1, e2]
    clear e1 e2
    go_enter Try.func85, Try.ntmps85
    go_wp2_with (first | (go_at_call 127; refine (implQueueOk_any q _ _ R.out HS.out).mono ?_; rintro e wq ⟨rfl, hq⟩; subst wq; rw [hk]) | (fail))
    go_ret2
    exact ⟨_, rfl, own_zero _ _ _ _ _, Below.refl _ _⟩
  | true =>
    have hle := (namesB_iff.1 hk).2.2
    have hol := others_len q s
    have e1 : toB q s = (nameB s && !((othersS q s).length == 20)) := by unfold toB; rw [hk]; rfl
    have e2 : toR q s = if (nameB s && !((othersS q s).length == 20)) = true then othersS q s ++ [s] else othersS q s := if_pos hk
    rw [e1, e2]
    obtain ⟨os, hos⟩ := hid_ex (othersS q s)
    rw [hos.out] at hol ⊢
    clear e1 e2
    cases hm : nameB s with
    | false =>
      go_enter Try.func85, Try.ntmps85
      go_wp2_with (first | (go_at_call 127; refine (implQueueOk_any q _ _ R.out HS.out).mono ?_; rintro e wq ⟨rfl, hq⟩; subst wq; rw [hk]) | (go_at_call 94; refine (others_any q s _ _ R.out (by omega)).mono ?_; rintro e w1 ⟨v1, rfl, o1, hB1⟩; rw [hos.out] at o1; obtain ⟨A1, n1, k1, rfl⟩ := o1.slice) | (go_at_call 82; refine (implNameOk_any _ hs _).mono ?_; rintro e wq ⟨rfl, hq⟩; subst wq; rw [hm]) | (fail))
      go_ret2
      exact ⟨_, rfl, o1, hB1⟩
    | true =>
      by_cases h20 : os.length = 20
      · have h21 : (os.length == 20) = true := by simpa using h20
        rw [h21]
        have H20 : Hid (os.length = 20) := h20
        clear h20 h21
        go_enter Try.func85, Try.ntmps85
        go_wp2_with (first | (go_at_call 127; refine (implQueueOk_any q _ _ R.out HS.out).mono ?_; rintro e wq ⟨rfl, hq⟩; subst wq; rw [hk]) | (go_at_call 94; refine (others_any q s _ _ R.out (by omega)).mono ?_; rintro e w1 ⟨v1, rfl, o1, hB1⟩; rw [hos.out] at o1; obtain ⟨A1, n1, k1, rfl⟩ := o1.slice; have h22 : ((n1 : Int) == 20) = true := (by rw [o1.rd.cap.1, H20.out]; rfl)) | (go_at_call 82; refine (implNameOk_any _ hs _).mono ?_; rintro e wq ⟨rfl, hq⟩; subst wq; rw [hm]) | (fail))
        go_ret2
        exact ⟨_, rfl, o1, hB1⟩
      · have h21 : (os.length == 20) = false := by simpa using h20
        rw [h21]
        have H20 : Hid (¬ os.length = 20) := h20
        clear h20 h21
        go_enter Try.func85, Try.ntmps85
        go_wp2_with (first | (go_at_call 127; refine (implQueueOk_any q _ _ R.out HS.out).mono ?_; rintro e wq ⟨rfl, hq⟩; subst wq; rw [hk]) | (go_at_call 94; refine (others_any q s _ _ R.out (by omega)).mono ?_; rintro e w1 ⟨v1, rfl, o1, hB1⟩; rw [hos.out] at o1; obtain ⟨A1, n1, k1, rfl⟩ := o1.slice; have hz1 := hB1.size; have h22 : ((n1 : Int) == 20) = false := (by rw [o1.rd.cap.1]; have := H20.out; simp; omega)) | (go_at_call 82; refine (implNameOk_any _ hs _).mono ?_; rintro e wq ⟨rfl, hq⟩; subst wq; rw [hm]) | (at_builtin; refine wpList_append_g infoS rfl _ _ 22 rfl Try.underlying22 w.heap.size _ _ os rfl (o1.grow ((Below.refl _ _).alloc (Nat.le_refl _) _)) (by simp; omega) _ [s] rfl (rd_new (E := encS) w1 s #[.string s] rfl) (by simp; omega) ?_; intro v2 w2 o2 hT2) | (fail))
        go_ret2
        exact ⟨_, rfl, o2, (hB1.alloc hB1.size _).trans hT2.low⟩

theorem implWithout_any (q : List ByteArray) (s : ByteArray) (v : Value) (w : World) (r : Rd encS w v q) (hss : ∀ s ∈ q, s.size ≤ 9223372036854775807) :
    Calls Try.prog 88 #[v, .string s] w fun e w' => ∃ v', e = .returned v' ∧ Own encS w' w.heap.size w'.heap.size v' (wiR q s) ∧ Below w.heap.size w w' := by
  obtain ⟨a, cap, rfl⟩ := r.form
  have R : Hid (Rd encS w (.slice a q.length cap) q) := r
  have HS : Hid (∀ s ∈ q, s.size ≤ 9223372036854775807) := hss
  clear r hss
  cases hk : namesB q with
  | false =>
    rw [wi_no (s := s) hk]
    go_enter Try.func88, Try.ntmps88
    go_wp2_with (first | (go_at_call 127; refine (implQueueOk_any q _ _ R.out HS.out).mono ?_; rintro e wq ⟨rfl, hq⟩; subst wq; rw [hk]) | (fail))
    go_ret
    exact ⟨_, rfl, own_zero _ _ _ _ _, Below.refl _ _⟩
  | true =>
    have hle := (namesB_iff.1 hk).2.2
    have e2 : wiR q s = othersS q s := if_pos hk
    rw [e2]
    obtain ⟨J, hJ⟩ := hid_ex (othersS q s)
    rw [hJ.out]
    clear e2
    go_enter Try.func88, Try.ntmps88
    go_wp2_with (first | (go_at_call 127; refine (implQueueOk_any q _ _ R.out HS.out).mono ?_; rintro e wq ⟨rfl, hq⟩; subst wq; rw [hk]) | (go_at_call 94; refine (others_any q s _ _ R.out (by omega)).mono ?_; rintro e w2 ⟨v2, rfl, o2, hB2⟩; rw [hJ.out] at o2) | (fail))
    go_ret
    exact ⟨_, rfl, o2, hB2⟩
end Go.Proofs.Ytapchjkiiifhdaa.rg
/- Slices of rows that grow by append, and the model's functions that make them: l1Copy, NewSketch, l2Copy. -/
namespace Go.Proofs.Ytapchjkiiifhdaa.sk
open Go.ChangeShapes Go.WideShapes Go.ChangeAt Go.RowKit
set_option linter.unusedVariables false

/-- rows of integers in blocks of their own -/
def InnerAt (w : World) (lo hi : Nat) (B : Nat → Nat) (R : List (List Int)) : Prop :=
  (∀ i j, i < R.length → j < R.length → i ≠ j → B i ≠ B j) ∧
  ∀ i (h : i < R.length), (R[i]).length ≤ maxLen ∧ lo ≤ B i ∧ B i < hi ∧ (∃ cur, w.heap[B i]? = some (.cells cur 2 (0, 0))) ∧ Row w (B i) R[i]
def outs (B C : Nat → Nat) (R : List (List Int)) : List Value := R.mapIdx fun j xs => .slice (some ⟨B j, 0, none⟩) xs.length (C j)
set_option maxRecDepth 100000 in
theorem outs_len (B C : Nat → Nat) (R : List (List Int)) : (outs B C R).length = R.length := by simp [outs]
set_option maxRecDepth 100000 in
theorem inner_nil (w : World) (lo hi : Nat) (B : Nat → Nat) : InnerAt w lo hi B [] := ⟨fun i j h => by simp at h, fun i h => by simp at h⟩
set_option maxRecDepth 100000 in
theorem InnerAt.keep {w w' : World} {lo hi : Nat} {B : Nat → Nat} {R : List (List Int)} (h : InnerAt w lo hi B R) (s : ∀ i, i < R.length → w'.heap[B i]? = w.heap[B i]?) : InnerAt w' lo hi B R := by
  refine ⟨h.1, fun i hi => ?_⟩
  obtain ⟨c1, c2, c3, ⟨cur, c4⟩, c5⟩ := h.2 i hi
  exact ⟨c1, c2, c3, ⟨cur, by rw [s i hi]; exact c4⟩, c5.of' (s i hi)⟩
set_option maxRecDepth 100000 in
theorem outs_snoc (B C : Nat → Nat) (R : List (List Int)) (g c : Nat) (xs : List Int) :
    outs (fun j => if j = R.length then g else B j) (fun j => if j = R.length then c else C j) (R ++ [xs]) = outs B C R ++ [.slice (some ⟨g, 0, none⟩) xs.length c] := by
  apply List.ext_getElem
  · simp [outs]
  · intro i h1 h2
    by_cases e : i = R.length
    · subst e; simp [outs]
    · have hi : i < R.length := by simp [outs] at h1; omega
      simp [outs, e, List.getElem_append_left, hi]
set_option maxRecDepth 100000 in
theorem InnerAt.snoc {w : World} {lo hi hi' : Nat} {B : Nat → Nat} {R : List (List Int)} (h : InnerAt w lo hi B R) (g : Nat) (xs : List Int) (h1 : hi ≤ g) (h0 : lo ≤ g) (h2 : g < hi') (h3 : hi ≤ hi') (hl : xs.length ≤ maxLen)
    (hc : ∃ cur, w.heap[g]? = some (.cells cur 2 (0, 0))) (hr : Row w g xs) : InnerAt w lo hi' (fun j => if j = R.length then g else B j) (R ++ [xs]) := by
  refine ⟨fun i j hi hj hij => ?_, fun i hi => ?_⟩
  · simp only [List.length_append, List.length_cons, List.length_nil] at hi hj
    by_cases e1 : i = R.length
    · have e2 : j ≠ R.length := fun q => hij (by omega)
      have hB := (h.2 j (by omega)).2.2.1
      simp only [e1, e2, if_true, if_false]; omega
    · by_cases e2 : j = R.length
      · have hB := (h.2 i (by omega)).2.2.1
        simp only [e1, e2, if_true, if_false]; omega
      · simp only [e1, e2, if_false]; exact h.1 i j (by omega) (by omega) hij
  · by_cases e1 : i = R.length
    · subst e1
      simp only [if_true, List.getElem_concat_length]
      exact ⟨hl, h0, h2, hc, hr⟩
    · have hi' : i < R.length := by simp at hi; omega
      obtain ⟨c1, c2, c3, c4, c5⟩ := h.2 i hi'
      simp only [e1, if_false, List.getElem_append_left hi']
      exact ⟨c1, c2, by omega, c4, c5⟩
set_option maxRecDepth 100000 in
/-- rows and the outer row that names them -/
theorem InnerAt.own {w : World} {lo hi n : Nat} {B C : Nat → Nat} {R : List (List Int)} {v : Value} (h : InnerAt w lo hi B R) (hh : hi ≤ w.heap.size) (hn : n = R.length) (ho : w.ownsRow lo 116 1 v n (outs B C R)) (hl : R.length ≤ maxLen) : Own w lo w.heap.size v R := by
  subst hn
  rcases ho.2 with ⟨rfl, h0⟩ | ⟨g, cap, cur, rfl, hg, hb, hc1, hc2, hc3, htk⟩
  · obtain rfl : R = [] := List.eq_nil_of_length_eq_zero h0
    exact own_nil w lo w.heap.size (Nat.le_refl _)
  · have hlt : g < w.heap.size := (Array.getElem?_eq_some_iff.1 hb).1
    refine ⟨hl, _, _, g, B, C, rfl, fun _ => rfl, fun _ => ⟨hg, hlt⟩, Nat.le_refl _, h.1, fun i hi => ?_⟩
    obtain ⟨c1, c2, c3, ⟨cur', c4⟩, c5⟩ := h.2 i hi
    refine ⟨?_, c1, c2, by omega, fun e => ?_, c5⟩
    · rw [cell_of_row _ _ _ _ _ _ hb]
      have : (cur.toList.take (R.length * 1))[i]? = (outs B C R)[i]? := by rw [htk]
      rw [List.getElem?_take, if_pos (by omega)] at this
      simpa [outs, hi] using this
    · rw [e, hb] at c4
      simp at c4
set_option maxRecDepth 100000 in
theorem own_row {w : World} {lo g n c : Nat} {xs : List Int} (ho : w.ownsRow lo 2 1 (.slice (some ⟨g, 0, none⟩) n c) n (ints xs)) : Row w g xs ∧ lo ≤ g ∧ (∃ cur, w.heap[g]? = some (.cells cur 2 (0, 0))) ∧ n = xs.length := by
  have hn : n = xs.length := by have := ho.1; rw [ints_len] at this; omega
  rcases ho.2 with ⟨e, -⟩ | ⟨g', cap, cur, e, hg, hb, hc1, hc2, hc3, htk⟩
  · cases e
  · cases e
    have hget : ∀ j (v : Value), (ints xs)[j]? = some v → cur[j]? = some v := fun j v hv => by
      rw [← htk, List.getElem?_take] at hv
      split at hv
      · simpa using hv
      · cases hv
    refine ⟨⟨(Array.getElem?_eq_some_iff.1 hb).1, fun j v hv => ?_, fun j hj => ?_⟩, hg, ⟨cur, hb⟩, hn⟩
    · rw [cell_of_row _ _ _ _ _ _ hb]; simp only [Nat.zero_add]; exact hget j v hv
    · refine ⟨?_, frozen_of_row _ _ _ _ _ hb⟩
      rw [cell_of_row _ _ _ _ _ _ hb]
      simp only [Nat.zero_add]
      rw [hget j (.int .i64 xs[j]) (by simp [ints, hj])]; rfl

set_option maxRecDepth 100000 in
theorem infoI : ∃ i : TypeInfo, Try.prog.info? 2 = some i ∧ i.zero = some (.int .i64 0) ∧ i.size = 1 ∧ i.bytes = 8 := by
  obtain ⟨i, hi, hz⟩ := Option.map_eq_some_iff.1 info2
  simp only [Prod.mk.injEq] at hz
  exact ⟨i, hi, hz.1, hz.2.1, hz.2.2⟩
set_option maxRecDepth 100000 in
theorem infoS : ∃ i : TypeInfo, Try.prog.info? 116 = some i ∧ i.zero = some (.slice none 0 0) ∧ i.size = 1 ∧ i.bytes = 24 := by
  obtain ⟨i, hi, hz⟩ := Option.map_eq_some_iff.1 info46
  simp only [Prod.mk.injEq] at hz
  exact ⟨i, hi, hz.1, hz.2.1, hz.2.2⟩

set_option maxRecDepth 100000 in
theorem l1Copy_any (xs : List Int) (w : World) (b off c : Nat) (hx : xs.length ≤ 1048576) (hr : w.rangeAt b off (ints xs)) (hb : b < w.heap.size) :
    Calls Try.prog 183 #[.slice (some ⟨b, off, none⟩) xs.length c] w fun e w' => ∃ g cap, e = .returned (.slice (some ⟨g, 0, none⟩) xs.length cap) ∧ w.heap.size ≤ g ∧ g < w'.heap.size ∧ (∃ cur, w'.heap[g]? = some (.cells cur 2 (0, 0))) ∧ Row w' g xs ∧ Below w.heap.size w w' := by
  obtain ⟨i0, hi, hz0, hz1, hz2⟩ := infoI
  have hown : (w.alloc (.cells #[] 2)).ownsRow w.heap.size 2 1 (.slice (some ⟨w.heap.size, 0, none⟩) 0 0) 0 [] :=
    ⟨rfl, .inr ⟨w.heap.size, 0, #[], rfl, Nat.le_refl _, heap_alloc_new _ _, Nat.le_refl _, by unfold maxLen; omega, rfl, rfl⟩⟩
  have hnews : ∀ j u, (ints xs)[j]? = some u → (w.alloc (.cells #[] 2)).cell? ((⟨b, off, none⟩ : Addr).add j) = some u := fun j u hj => by
    rw [Addr.add_mid, World.cell?_of_block (w := w) (Below.heap_alloc _ _ _ hb)]
    exact hr j u hj
  have HN : Hid _ := hnews
  clear hnews hr
  go_enter Try.func183, Try.ntmps183
  go_wp2_with (first | (at_builtin; refine wpList_append_own _ rfl _ _ 116 rfl w.heap.size 2 i0 (.int .i64 0) 1 8 Try.underlying116 hi hz0 hz1 hz2 rfl (by decide) _ 0 [] rfl hown ⟨b, off, none⟩ xs.length c (ints xs) rfl (by rw [ints_len]; omega) HN.out (ints_one xs) (by unfold maxLen; omega) (by omega) (by simp) ?_; intro v' w' h2 h3 h4))
  rw [Nat.zero_add, List.nil_append] at h2
  have hB : Below w.heap.size w w' := Below.grown ((Below.refl _ w).alloc (Nat.le_refl _) _) h3 (by simp) (fun k hk => by
    have e : (some w.heap.size : Option Nat) = some k := hk
    cases e; exact Nat.le_refl _)
  rcases h2.2 with ⟨e, -⟩ | ⟨g, cap, cur, rfl, hg⟩
  · have := (h4.1 e).1
    cases this
  · obtain ⟨r1, r2, r3, r4⟩ := own_row h2
    go_ret
    exact ⟨g, cap, rfl, r2, r1.1, r3, r1, hB⟩

set_option maxRecDepth 100000 in
theorem step_append_own {P : Program} {ops : Array Oper} {o : Oper} {a : Act} (w : World) {K : Act → World → Prop} {Q : Exit → Act → World → Prop} {E : Prop} (hgd : o.guard = none) (s x : Operand) (t : TypeId)
    (ho : o.op = .call { callee := .builtin .append, args := #[s, x], argTypes := #[t, t] })
    (base : Nat) (e : TypeId) (i : TypeInfo) (z : Value) (size bytes : Nat) (ht : P.underlying t = some (.slice e)) (hi : P.info? e = some i) (hz : i.zero = some z)
    (hsize : i.size = size) (hby : i.bytes = bytes) (hzs : z.cells.size = size) (hsz : 0 < size)
    (v : Value) (n : Nat) (xs : List Value) (hs : a.eval s = v) (hown : w.ownsRow base e size v n xs)
    (ad : Addr) (m c : Nat) (news : List Value) (hx : a.eval x = .slice (some ad) m c) (hl : news.length = m * size) (hnews : ∀ j u, news[j]? = some u → w.cell? (ad.add j) = some u) (h1 : ∀ u ∈ news, u.oneCell' = true)
    (h63 : n + m ≤ maxLen) (hbytes : (n + m) * bytes ≤ 140737488355328) (hbase : base ≤ w.heap.size)
    (h : ∀ v' w', w'.ownsRow base e size v' (n + m) (xs ++ news) → w.grownBy w' v.ownBlock → (v' = .slice none 0 0 ↔ v = .slice none 0 0 ∧ m = 0) → K (a.put o.dst v') w') :
    if Region.wanted o (yielded ops a.tmps) = true then Oper.wp P o a w K Q else E := by
  have hw : Region.wanted o (yielded ops a.tmps) = true := by simp [Region.wanted, hgd]
  rw [if_pos hw]
  exact wp_append_own w s x t ho base e i z size bytes ht hi hz hsize hby hzs hsz v n xs hs hown ad m c news hx hl hnews h1 h63 hbytes hbase h

set_option maxRecDepth 100000 in
theorem VBlk.grown {w w' : World} {b : Nat} {t : TypeId} {vs : List Value} {row : Option Nat} (h : VBlk w b t vs) (g : w.grownBy w' row) (hne : some b ≠ row) : VBlk w' b t vs := h.of (g.block b h.lt hne)
set_option maxRecDepth 100000 in
theorem own_block_ne {w : World} {lo b : Nat} {e : TypeId} {v : Value} {n : Nat} {xs : List Value} (h : w.ownsRow lo e 1 v n xs) (hb : b < lo) : some b ≠ v.ownBlock := fun e => by
  have := (h.lt b e.symm).1; omega
set_option maxRecDepth 100000 in
theorem own_block_type {w : World} {lo b : Nat} {v : Value} {n : Nat} {xs : List Value} {cur : Array Value} (h : w.ownsRow lo 116 1 v n xs) (hb : w.heap[b]? = some (.cells cur 2 (0, 0))) : some b ≠ v.ownBlock := fun e => by
  rcases h.2 with ⟨rfl, -⟩ | ⟨g, cap, cur', rfl, hg, hb', -⟩
  · cases e
  · have e' : b = g := by injection e
    subst e'
    rw [hb'] at hb
    simp at hb

set_option maxRecDepth 100000 in
/-- a row is appended to the outer row -/
theorem push {w2 w' : World} {lo H n : Nat} {vo v' : Value} {B C : Nat → Nat} {R : List (List Int)} {xs : List Int} {g c : Nat} {o : Obj} (hown : w2.ownsRow lo 116 1 vo n (outs B C R)) (hin : InnerAt w2 lo H B R) (hn : n = R.length)
    (hH : H ≤ w2.heap.size) (hg0 : H ≤ g) (hlo : lo ≤ g) (hg : g < w2.heap.size) (hc : ∃ cur, w2.heap[g]? = some (.cells cur 2 (0, 0))) (hr : Row w2 g xs) (hl : xs.length ≤ maxLen)
    (g2 : w'.ownsRow lo 116 1 v' (n + 1) (outs B C R ++ [.slice (some ⟨g, 0, none⟩) xs.length c])) (g3 : (w2.alloc o).grownBy w' vo.ownBlock) :
    ∃ B' C', w'.ownsRow lo 116 1 v' (n + 1) (outs B' C' (R ++ [xs])) ∧ InnerAt w' lo w'.heap.size B' (R ++ [xs]) ∧ (∃ a n' c', v' = .slice a n' c') ∧ Below lo w2 w' := by
  have hs : w2.heap.size ≤ w'.heap.size := by have := g3.size; simp at this; omega
  have hk : ∀ b, b < w2.heap.size → some b ≠ vo.ownBlock → w'.heap[b]? = w2.heap[b]? := fun b hb hne => by
    rw [g3.block b (by simp; omega) hne, Below.heap_alloc _ _ _ hb]
  obtain ⟨cur, hcur⟩ := hc
  have hkg : w'.heap[g]? = w2.heap[g]? := hk g hg (own_block_type hown hcur)
  have hin' : InnerAt w' lo H B R := hin.keep (fun i hi => by
    obtain ⟨c1, c2, c3, ⟨cur', c4⟩, c5⟩ := hin.2 i hi
    exact hk _ c5.1 (own_block_type hown c4))
  refine ⟨_, _, by rw [hn, outs_snoc B C R g c xs, ← hn]; exact g2, hin'.snoc g xs hg0 hlo (by omega) (by omega) hl ⟨cur, by rw [hkg]; exact hcur⟩ (hr.of' hkg), ?_, ⟨g3.os, g3.tape, g3.output, hs, fun b hb => hk b (by omega) (own_block_ne hown hb)⟩⟩
  rcases g2.2 with ⟨-, h0⟩ | ⟨g', cap, cur', rfl, -⟩
  · omega
  · exact ⟨_, _, _, rfl⟩

def z16 : List Int := List.replicate 16 0
set_option maxRecDepth 100000 in
theorem z16_len : z16.length = 16 := by decide
set_option maxRecDepth 100000 in
theorem zeros_get (i : Nat) (h : i < zeros.length) : zeros[i] = z16 := by simp only [zeros, List.getElem_replicate]; rfl
set_option maxRecDepth 100000 in
theorem make16 (w : World) : (Instr.makeSlice 116 (.int .i64 16) (.int .i64 16)).run Try.prog w = .ok (.slice (some ⟨w.heap.size, 0, none⟩) 16 16) (w.alloc (.cells (ints z16).toArray 2)) := by
  have h := run_make_row' (P := Try.prog) 116 2 (.int .i64 0) 8 Try.underlying116 info2 rfl .i64 .i64 16 (by omega) (by omega) w
  rw [made_replicate] at h
  have e : ints z16 = List.replicate 16 (.int .i64 0) := rfl
  rw [e]
  exact h

set_option maxRecDepth 100000 in
set_option maxHeartbeats 1000000 in
theorem specNewSketch_any (w : World) :
    Calls Try.prog 74 #[] w fun e w' => ∃ v, e = .returned (skv v 0) ∧ Own w' w.heap.size w'.heap.size v zeros ∧ Below w.heap.size w w' := by
  obtain ⟨i0, hi, hz0, hz1, hz2⟩ := infoS
  have hmk := make16
  have hzr : Hid (∀ i (h : i < zeros.length), zeros[i] = z16) := zeros_get
  have hzl : Hid (zeros.length = 4) := rfl
  have m0 : Hid True := trivial
  go_enter Try.func74, Try.ntmps74
  go_wp2_with (first | (clear m0; refine wpList_alloc_v rfl 34 rfl _ zero27 ?_; intro b0 w1 hb0 hw1 hB1 hV0) | (refine wpList_alloc_v rfl 34 rfl _ zero27 ?_; intro b1 w2 hb1 hw2 hB2 hV1; replace hV0 := hV0.below hB2 hw1) | (refine wpList_store_v rfl 34 _ _ rfl b1 [.slice none 0 0, .int .i64 0] rfl rfl size27 hV1 rfl (by simp [Value.oneCell']) ?_; intro w3 hO3 hV3; replace hV0 := hV0.of (hO3.2.1 _ (by omega))))
  have h1 := hB1.size
  have h2 := hB2.size
  have h3 := hO3.1
  have hB : Below w.heap.size w w3 := (hB1.trans (hB2.mono h1)).trans (hO3.2.2 _ (by omega))
  obtain ⟨lo, hlo⟩ : ∃ lo, Hid (lo = w3.heap.size) := ⟨_, rfl⟩
  have l0 : b0 < lo := by rw [hlo.out]; omega
  have l1 : b1 < lo := by rw [hlo.out]; omega
  have lw : w.heap.size ≤ lo := by rw [hlo.out]; omega
  have n01 : b0 ≠ b1 := by omega
  go_loopw [2] (fun v' wr => ∃ i : Nat, i ≤ 4 ∧ v' = .int .i64 i ∧ VBlk wr b0 34 [.slice none 0 0, .int .i64 0] ∧ (∃ vo B C, VBlk wr b1 34 [vo, .int .i64 0] ∧ vo.oneCell' = true ∧ wr.ownsRow lo 116 1 vo i (outs B C (zeros.take i)) ∧ InnerAt wr lo wr.heap.size B (zeros.take i)) ∧ lo ≤ wr.heap.size ∧ Below w.heap.size w wr) (fun v' _ => 4 - (intOf v').toNat)
  case atStart => exact ⟨0, by omega, rfl, hV0, ⟨_, fun _ => 0, fun _ => 0, hV3, rfl, ⟨rfl, .inl ⟨rfl, rfl⟩⟩, inner_nil _ _ _ _⟩, by rw [hlo.out]; exact Nat.le_refl _, hB⟩
  case round =>
    obtain ⟨i, hi4, rfl, hv0, ⟨vo, B, C, hv1, h1c, hown, hin⟩, hlos, hBr⟩ := hrel
    by_cases hlt : i < 4
    · have hcv := hv1.cell 0 (by simp)
      have hfv := hv1.frozen 0
      simp only [List.getElem_cons_zero] at hcv
      have hOwn : Hid (wr.ownsRow lo 116 1 vo i (outs B C (zeros.take i))) := hown
      have hIn : Hid (InnerAt wr lo wr.heap.size B (zeros.take i)) := hin
      clear hown hin
      have hiz : i < zeros.length := by rw [hzl.out]; exact hlt
      go_wp2
      have hs1 : (wr.drew.alloc (.cells (ints z16).toArray 2)).heap.size = wr.heap.size + 1 := by simp
      have hin1 : Hid (InnerAt (wr.drew.alloc (.cells (ints z16).toArray 2)) lo wr.heap.size B (zeros.take i)) := hIn.out.keep (fun j hj => by
        have := (hIn.out.2 j hj).2.2.1
        exact Below.heap_alloc wr.drew _ _ this)
      have hnew : Hid (Blk (wr.drew.alloc (.cells (ints z16).toArray 2)) wr.heap.size 2 z16) := Blk.new wr.drew _ z16
      have htl : Hid (i = (zeros.take i).length) := by unfold Hid; rw [List.length_take, hzl.out]; omega
      have hnews : Hid (∀ j u, [Value.slice (some ⟨wr.heap.size, 0, none⟩) 16 16][j]? = some u → ((wr.drew.alloc (.cells (ints z16).toArray 2)).alloc (.cells #[.slice (some ⟨wr.heap.size, 0, none⟩) 16 16] 116)).cell? ((⟨wr.heap.size + 1, 0, none⟩ : Addr).add j) = some u) := by
        intro j u hj
        have hh := heap_alloc_new (wr.drew.alloc (.cells (ints z16).toArray 2)) (.cells #[.slice (some ⟨wr.heap.size, 0, none⟩) 16 16] 116)
        rw [hs1] at hh
        rw [Addr.add_mid, cell_of_row _ _ _ _ _ _ hh]
        simpa using hj
      have hs1' : Hid _ := hs1
      clear hs1
      have lb1' : b1 < wr.heap.size := by omega
      have hca : ∀ o, (wr.drew.alloc o).cell? ⟨b1, 0, none⟩ = some vo := fun o => by rw [World.cell?_of_block (w := wr.drew) (Below.heap_alloc wr.drew o b1 lb1')]; exact hcv
      have hcb : ∀ o o', ((wr.drew.alloc o).alloc o').cell? ⟨b1, 0, none⟩ = some vo := fun o o' => by rw [World.cell?_of_block (w := wr.drew.alloc o) (Below.heap_alloc (wr.drew.alloc o) o' b1 (by simp; omega))]; exact hca o
      go_region_law (first | (refine step_append_own _ rfl _ _ 26 rfl lo 116 i0 (.slice none 0 0) 1 24 Try.underlying26 hi hz0 hz1 hz2 rfl (by decide) vo i _ rfl ((hOwn.out.drew.alloc _).alloc _) ⟨wr.heap.size + 1, 0, none⟩ 1 1 [.slice (some ⟨wr.heap.size, 0, none⟩) 16 16] rfl rfl hnews.out (by simp [Value.oneCell']) (by unfold maxLen; omega) (by omega) (by simp; omega) ?_; intro v' w' g2 g3 g4; obtain ⟨B', C', p1, p2, ⟨va, vn, vc, rfl⟩, p4⟩ := push (hOwn.out.drew.alloc _) hin1.out htl.out (by rw [hs1'.out]; omega) (Nat.le_refl _) (by omega) (by rw [hs1'.out]; omega) ⟨_, hnew.out⟩ hnew.out.row (by unfold maxLen; rw [z16_len]; omega) g2 g3; have P1 : Hid _ := p1; have P2 : Hid _ := p2; have P4 : Hid _ := p4; clear p1 p2 p4 g2 g3 g4; have lb1 : b1 < wr.heap.size := (by omega); have lb0 : b0 < wr.heap.size := (by omega); have hv1w : VBlk w' b1 34 [vo, .int .i64 0] := hv1.of (by rw [P4.out.block b1 l1, Below.heap_alloc _ _ _ (by exact lb1)]; rfl); have hcw := hv1w.cell 0 (by simp); have hfw := hv1w.frozen 0; simp only [List.getElem_cons_zero] at hcw) | (fail))
      all_goals
        go_wp2
        go_roundw
        case rel =>
          have e1 : zeros.take (i + 1) = zeros.take i ++ [z16] := by rw [take_snoc zeros i hiz, hzr.out i hiz]
          have hlo' : b1 < lo := l1
          refine ⟨i + 1, by omega, by go_num, ?_, ⟨_, B', C', hv1w.set 0 _, rfl, ?_, ?_⟩, ?_, ?_⟩
          · exact (hv0.of (by rw [P4.out.block b0 l0, Below.heap_alloc _ _ _ (by exact lb0)]; rfl)).of (heap_setCell_other _ _ _ _ n01)
          · rw [e1]; exact ownsRow_setCell_below P1.out hlo' _
          · rw [e1, World.size_setCell]
            refine InnerAt.keep P2.out (fun j hj => heap_setCell_other _ _ _ _ ?_)
            have := (P2.out.2 j hj).2.1
            show B' j ≠ b1
            omega
          · have p5 := P4.out.size; rw [hs1'.out] at p5; simp; omega
          · refine Below.setCell (Below.trans (b := wr.drew) hBr.drew ?_) (by show w.heap.size ≤ b1; omega) _
            exact ((Below.refl _ wr.drew).alloc hBr.size _).trans (P4.out.mono lw)
        case measure => simp [intOf]; omega
    · obtain rfl : i = 4 := by omega
      rw [List.take_of_length_le (by rw [hzl.out]; omega)] at hown hin
      obtain ⟨va, vn, vc, rfl⟩ := (hin.own (Nat.le_refl _) hzl.out.symm hown (by rw [hzl.out]; unfold maxLen; omega)).form
      have hcv := hv1.cell 0 (by simp)
      have hcv1 := hv1.cell 1 (by simp)
      simp only [List.getElem_cons_zero, List.getElem_cons_succ] at hcv hcv1
      have hO := hin.own (Nat.le_refl _) hzl.out.symm hown (by rw [hzl.out]; unfold maxLen; omega)
      clear hown hin
      go_wp2_with (first | (refine wpList_store_v rfl 34 _ _ rfl b0 [.slice va vn vc, .int .i64 0] rfl rfl size27 hv0 rfl (by simp [Value.oneCell']) ?_; intro w9 hO9 hV9))
      refine row_retv rfl rfl hV9 Try.underlying34 size27 rfl ⟨_, rfl, ?_, hBr.trans (hO9.2.2 _ (by omega))⟩
      exact (hO.keep (fun k h2 h3 => hO9.2.1 k (by omega)) (by rw [hO9.1]; exact Nat.le_refl _)).wide lw (by rw [hO9.1]; exact Nat.le_refl _) (Nat.le_refl _)

set_option maxRecDepth 100000 in
set_option maxHeartbeats 2000000 in
theorem l2Copy_any (R : List (List Int)) (hR4 : Four R) (adds : Int) (v : Value) (w : World) (hi0 : Nat) (hh : hi0 ≤ w.heap.size) (hv : Rd w 0 hi0 v R) :
    Calls Try.prog 137 #[skv v adds] w fun e w' => ∃ v', e = .returned (skv v' adds) ∧ Own w' w.heap.size w'.heap.size v' R ∧ Below w.heap.size w w' := by
  obtain ⟨i0, hi, hz0, hz1, hz2⟩ := infoS
  obtain ⟨hRl, a, cap, rfl, hrows⟩ := hv
  have h4' : Hid (R.length = 4) := hR4.1
  have h4i : ((R.length : Int) = 4) := by have := hR4.1; omega
  rcases hrows with hnil | ⟨b, off, rfl, -, hbhi, hcells⟩
  · subst hnil; simp [Hid] at h4'
  have hCells : Hid (∀ i (h : i < R.length), ∃ a' c', w.cell? ⟨b, off + i, none⟩ = some (.slice a' (R[i]).length c') ∧ RowR w 0 hi0 a' R[i]) := hcells
  clear hcells
  have m0 : Hid True := trivial
  go_enter Try.func137, Try.ntmps137
  go_wp2_with (first | (refine wpList_box_v rfl 34 _ rfl [.slice (some ⟨b, off, none⟩) R.length cap, .int .i64 adds] rfl ?_; intro b1 w1 hb1 hw1 hB1 hV1) | (clear m0; refine wpList_alloc_v rfl 34 rfl _ zero27 ?_; intro b2 w2 hb2 hw2 hB2 hV2; replace hV1 := hV1.below hB2 hw1; have hc1 := hV1.cell 1 (by simp); simp only [List.getElem_cons_zero, List.getElem_cons_succ] at hc1) | (refine wpList_alloc_v rfl 34 rfl _ zero27 ?_; intro b3 w3 hb3 hw3 hB3 hV3; replace hV1 := hV1.below hB3 (by have := hB2.size; omega); replace hV2 := hV2.below hB3 hw2) | (refine wpList_store_v rfl 34 _ _ rfl b3 [.slice none 0 0, .int .i64 adds] rfl rfl size27 hV3 rfl (by simp [Value.oneCell']) ?_; intro w4 hO4 hV4; replace hV1 := hV1.of (hO4.2.1 _ (by have := hB2.size; omega)); replace hV2 := hV2.of (hO4.2.1 _ (by omega))))
  have h1 := hB1.size
  have h2 := hB2.size
  have h3 := hB3.size
  have h4 := hO4.1
  have hB : Below w.heap.size w w4 := ((hB1.trans (hB2.mono h1)).trans (hB3.mono (by omega))).trans (hO4.2.2 _ (by omega))
  obtain ⟨lo, hlo⟩ : ∃ lo, Hid (lo = w4.heap.size) := ⟨_, rfl⟩
  have l1 : b1 < lo := by rw [hlo.out]; omega
  have l2 : b2 < lo := by rw [hlo.out]; omega
  have l3 : b3 < lo := by rw [hlo.out]; omega
  have lw : w.heap.size ≤ lo := by rw [hlo.out]; omega
  have n13 : b1 ≠ b3 := by omega
  have n23 : b2 ≠ b3 := by omega
  go_loopw [4] (fun v' wr => ∃ i : Nat, i ≤ 4 ∧ v' = .int .i64 i ∧ VBlk wr b1 34 [.slice (some ⟨b, off, none⟩) R.length cap, .int .i64 adds] ∧ VBlk wr b2 34 [.slice none 0 0, .int .i64 0] ∧ (∃ vo B C, VBlk wr b3 34 [vo, .int .i64 adds] ∧ vo.oneCell' = true ∧ wr.ownsRow lo 116 1 vo i (outs B C (R.take i)) ∧ InnerAt wr lo wr.heap.size B (R.take i)) ∧ lo ≤ wr.heap.size ∧ Below w.heap.size w wr) (fun v' _ => 4 - (intOf v').toNat)
  case atStart => exact ⟨0, by omega, rfl, hV1, hV2, ⟨_, fun _ => 0, fun _ => 0, hV4, rfl, ⟨rfl, .inl ⟨rfl, rfl⟩⟩, inner_nil _ _ _ _⟩, by rw [hlo.out]; exact Nat.le_refl _, hB⟩
  case round =>
    obtain ⟨i, hi4, rfl, hv1, hv2, ⟨vo, B, C, hv3, h1c, hown, hin⟩, hlos, hBr⟩ := hrel
    have hcs := hv1.cell 0 (by simp)
    simp only [List.getElem_cons_zero] at hcs
    by_cases hlt : i < 4
    · have hiR : i < R.length := by rw [hR4.1]; exact hlt
      have hilt : (i : Int) < R.length := by omega
      obtain ⟨a', c', hcell0, hrow0⟩ := hCells.out i hiR
      obtain ⟨xs, hxs⟩ : ∃ xs, R[i] = xs := ⟨_, rfl⟩
      rw [hxs] at hcell0 hrow0
      have hx16 : Hid (xs.length = 16) := by unfold Hid; rw [← hxs]; exact hR4.2 _ (List.getElem_mem hiR)
      have HX : Hid (R[i] = xs) := hxs
      clear hxs
      obtain ⟨fb, foff, rfl, -, hfb, hrange0⟩ := rd_row hrow0 (by rw [hx16.out]; omega)
      have hcell : wr.cell? ⟨b, off + i, none⟩ = some (.slice (some ⟨fb, foff, none⟩) xs.length c') := by rw [hBr.cell (by show b < _; omega)]; exact hcell0
      have hrange : Hid (wr.drew.rangeAt fb foff (ints xs)) := range_of hrange0 (hBr.drew.block fb (by omega))
      clear hcell0 hrow0 hrange0
      have hcv := hv3.cell 0 (by simp)
      have hfv := hv3.frozen 0
      simp only [List.getElem_cons_zero] at hcv
      have hOwn : Hid (wr.ownsRow lo 116 1 vo i (outs B C (R.take i))) := hown
      have hIn : Hid (InnerAt wr lo wr.heap.size B (R.take i)) := hin
      clear hown hin
      have hbr := hBr.size
      have htl : Hid (i = (R.take i).length) := by unfold Hid; rw [List.length_take, hR4.1]; omega
      go_wp2
      go_region_law (first | (go_simp; go_at_call 183; refine (l1Copy_any xs wr.drew fb foff c' (by rw [hx16.out]; omega) hrange.out (by show fb < wr.heap.size; omega)).mono ?_; rintro e w5 ⟨g, gc, rfl, hg1, hg2, hg3, hg4, hB5⟩; have hd5 : wr.drew.heap.size = wr.heap.size := rfl; have hs5 := hB5.size; have hcs5 : w5.cell? ⟨b1, 0, none⟩ = some (.slice (some ⟨b, off, none⟩) R.length cap) := (by rw [hB5.cell (by show b1 < wr.heap.size; omega)]; exact hcs); have hcell5 : w5.cell? ⟨b, off + i, none⟩ = some (.slice (some ⟨fb, foff, none⟩) xs.length c') := (by rw [hB5.cell (by show b < wr.heap.size; omega)]; exact hcell); have hcv5 : w5.cell? ⟨b3, 0, none⟩ = some vo := (by rw [hB5.cell (by show b3 < wr.heap.size; omega)]; exact hcv); have hcs6 : ∀ o, (w5.alloc o).cell? ⟨b1, 0, none⟩ = some (.slice (some ⟨b, off, none⟩) R.length cap) := (fun o => by rw [World.cell?_of_block (w := w5) (Below.heap_alloc w5 o b1 (by omega))]; exact hcs5); have hcell6 : ∀ o, (w5.alloc o).cell? ⟨b, off + i, none⟩ = some (.slice (some ⟨fb, foff, none⟩) xs.length c') := (fun o => by rw [World.cell?_of_block (w := w5) (Below.heap_alloc w5 o b (by omega))]; exact hcell5); have hcv6 : ∀ o, (w5.alloc o).cell? ⟨b3, 0, none⟩ = some vo := (fun o => by rw [World.cell?_of_block (w := w5) (Below.heap_alloc w5 o b3 (by omega))]; exact hcv5); dsimp only) | (refine step_append_own _ rfl _ _ 26 rfl lo 116 i0 (.slice none 0 0) 1 24 Try.underlying26 hi hz0 hz1 hz2 rfl (by decide) vo i (outs B C (R.take i)) rfl (World.ownsRow.alloc (World.ownsRow.kept (w := wr.drew) hOwn.out ⟨hB5.os, hB5.tape, hB5.output, hB5.size, fun k hk _ => hB5.block k hk⟩ (row := none) (by cases hq : vo.ownBlock <;> simp)) _) ⟨w5.heap.size, 0, none⟩ 1 1 [.slice (some ⟨g, 0, none⟩) xs.length gc] rfl rfl (fun j u hj => by rw [Addr.add_mid, cell_of_row _ _ _ _ _ _ (heap_alloc_new w5 _)]; simpa using hj) (by simp [Value.oneCell']) (by unfold maxLen; omega) (by omega) (by simp; omega) ?_; intro v' w' g2 g3 g4; obtain ⟨B', C', p1, p2, ⟨va, vn, vc, rfl⟩, p4⟩ := push (H := wr.heap.size) (World.ownsRow.kept (w := wr.drew) hOwn.out ⟨hB5.os, hB5.tape, hB5.output, hB5.size, fun k hk _ => hB5.block k hk⟩ (row := none) (by cases hq : vo.ownBlock <;> simp)) (hIn.out.keep (fun j hj => hB5.block _ (hIn.out.2 j hj).2.2.1)) htl.out (by omega) (by omega) (by omega) hg2 hg3 hg4 (by rw [hx16.out]; unfold maxLen; omega) g2 g3; have P1 : Hid _ := p1; have P2 : Hid _ := p2; have P4 : Hid _ := p4; clear p1 p2 p4 g2 g3 g4; have hv3w : VBlk w' b3 34 [vo, .int .i64 adds] := (VBlk.below (w := wr.drew) hv3 hB5 (by omega)).of (P4.out.block b3 l3); have hcw := hv3w.cell 0 (by simp); have hfw := hv3w.frozen 0; simp only [List.getElem_cons_zero] at hcw; have hb7 : b < lo := (by omega); have hcs7 : w'.cell? ⟨b1, 0, none⟩ = some (.slice (some ⟨b, off, none⟩) R.length cap) := (by rw [P4.out.cell l1]; exact hcs5); have hcell7 : w'.cell? ⟨b, off + i, none⟩ = some (.slice (some ⟨fb, foff, none⟩) xs.length c') := (by rw [P4.out.cell hb7]; exact hcell5); have hcs8 : ∀ u, (w'.setCell ⟨b3, 0, none⟩ u).cell? ⟨b1, 0, none⟩ = some (.slice (some ⟨b, off, none⟩) R.length cap) := (fun u => by rw [World.cell?_of_block (w := w') (heap_setCell_other _ _ _ _ n13)]; exact hcs7); have hcell8 : ∀ u, (w'.setCell ⟨b3, 0, none⟩ u).cell? ⟨b, off + i, none⟩ = some (.slice (some ⟨fb, foff, none⟩) xs.length c') := (fun u => by rw [World.cell?_of_block (w := w') (heap_setCell_other _ _ _ _ (by show b ≠ b3; omega))]; exact hcell7)) | (fail))
      all_goals
        go_wp2
        go_roundw
        case rel =>
          have e1 : R.take (i + 1) = R.take i ++ [xs] := by rw [take_snoc R i hiR, HX.out]
          refine ⟨i + 1, by omega, by go_num, ?_, ?_, ⟨_, B', C', hv3w.set 0 _, rfl, ?_, ?_⟩, ?_, ?_⟩
          · exact ((VBlk.below (w := wr.drew) hv1 hB5 (by omega)).of (P4.out.block b1 l1)).of (heap_setCell_other _ _ _ _ n13)
          · exact ((VBlk.below (w := wr.drew) hv2 hB5 (by omega)).of (P4.out.block b2 l2)).of (heap_setCell_other _ _ _ _ n23)
          · rw [e1]; exact ownsRow_setCell_below P1.out l3 _
          · rw [e1, World.size_setCell]
            refine InnerAt.keep P2.out (fun j hj => heap_setCell_other _ _ _ _ ?_)
            have := (P2.out.2 j hj).2.1
            show B' j ≠ b3
            omega
          · have p5 := P4.out.size; simp; omega
          · refine Below.setCell (Below.trans (b := wr.drew) hBr.drew ?_) (by show w.heap.size ≤ b3; omega) _
            exact (hB5.mono hbr).trans (P4.out.mono lw)
        case measure => simp [intOf]; omega
    · obtain rfl : i = 4 := by omega
      rw [List.take_of_length_le (by rw [hR4.1]; omega)] at hown hin
      have hO := hin.own (Nat.le_refl _) hR4.1.symm hown hRl
      obtain ⟨va, vn, vc, rfl⟩ := hO.form
      have hcv := hv3.cell 0 (by simp)
      have hcv1 := hv3.cell 1 (by simp)
      simp only [List.getElem_cons_zero, List.getElem_cons_succ] at hcv hcv1
      clear hown hin
      go_wp2_with (first | (refine wpList_store_v rfl 34 _ _ rfl b2 [.slice va vn vc, .int .i64 adds] rfl rfl size27 hv2 rfl (by simp [Value.oneCell']) ?_; intro w9 hO9 hV9))
      refine row_retv rfl rfl hV9 Try.underlying34 size27 rfl ⟨_, rfl, ?_, hBr.trans (hO9.2.2 _ (by omega))⟩
      exact (hO.keep (fun k h2 h3 => hO9.2.1 k (by omega)) (by rw [hO9.1]; exact Nat.le_refl _)).wide lw (by rw [hO9.1]; exact Nat.le_refl _) (Nat.le_refl _)

end Go.Proofs.Ytapchjkiiifhdaa.sk
/- By hand through a region that draws its order: one operation taken first, wanted or passed over. -/
namespace Go.Proofs.Ytapchjkiiifhdaa.ce
open Go.RowKit
set_option linter.unusedVariables false
variable {P : Program} {ops : Array Oper} {Q : Exit → Act → World → Prop} {md : Region.Mode} {S : World → Prop}

/-- an operation that is wanted and yields v in every world that meets S -/
theorem takeW (i d : Nat) (v : Value) {op : Op} {ty : TypeId} {pos : String} {after : Array Edge} {g : Option (Nat × Bool)} {tmps : Array Value} {defers : List Deferred} {fuel : Nat} {listed : Array Bool} {w : World}
    (hi : ops[i]? = some ⟨some d, op, ty, pos, after, g⟩) (hs : Region.noSelect ops = true) (hf : Region.free md ops listed i = true) (hr : (Region.ready md ops listed).contains i = true)
    (hQ : ∀ c a w, Q (.panic c) (Act.put a (some d) v) w → Q (.panic c) a w)
    (hw : Region.wanted ⟨some d, op, ty, pos, after, g⟩ (yielded ops tmps) = true) (hy : ∀ w, S w → (execOp (Act.eval ⟨tmps, defers⟩) ⟨some d, op, ty, pos, after, g⟩).run P w = .ok (.value v) w) (hS : S w)
    (h : wpAnyH P md ops Q S fuel (listed.setIfInBounds i true) ⟨tmps.setIfInBounds d v, defers⟩ w) : wpAnyH P md ops Q S (fuel + 1) listed ⟨tmps, defers⟩ w :=
  wpAnyH_take (oi := ⟨some d, op, ty, pos, after, g⟩) (v := v) hi hs hf hr hQ (Or.inl ⟨hw, hy⟩) hS h
/-- an operation that is passed over -/
theorem takeU (i d : Nat) {op : Op} {ty : TypeId} {pos : String} {after : Array Edge} {g : Option (Nat × Bool)} {tmps : Array Value} {defers : List Deferred} {fuel : Nat} {listed : Array Bool} {w : World}
    (hi : ops[i]? = some ⟨some d, op, ty, pos, after, g⟩) (hs : Region.noSelect ops = true) (hf : Region.free md ops listed i = true) (hr : (Region.ready md ops listed).contains i = true)
    (hQ : ∀ c a w, Q (.panic c) (Act.put a (some d) undef) w → Q (.panic c) a w)
    (hw : Region.wanted ⟨some d, op, ty, pos, after, g⟩ (yielded ops tmps) = false) (hS : S w)
    (h : wpAnyH P md ops Q S fuel (listed.setIfInBounds i true) ⟨tmps.setIfInBounds d undef, defers⟩ w) : wpAnyH P md ops Q S (fuel + 1) listed ⟨tmps, defers⟩ w :=
  wpAnyH_take (oi := ⟨some d, op, ty, pos, after, g⟩) (v := undef) hi hs hf hr hQ (Or.inr ⟨hw, rfl⟩) hS h
end Go.Proofs.Ytapchjkiiifhdaa.ce
/- By hand through a region that draws its order: a struct's variable is laid, a struct is stored. -/
namespace Go.Proofs.Ytapchjkiiifhdaa.ce
open Go.ChangeShapes Go.WideShapes Go.ChangeAt Go.RowKit
set_option linter.unusedVariables false
variable {P : Program} {ops : Array Oper} {o : Oper} {a : Act} {w : World} {Q : Exit → Act → World → Prop} {K : Act → World → Prop} {E : Prop}

theorem step_alloc_v (hgd : o.guard = none) (t : TypeId) (ho : o.op = .alloc t) (vs : List Value) (hz : ∀ w, (zeroValue t).run P w = .ok (.agg vs.toArray) w)
    (h : ∀ (b : Nat) (w' : World), w.heap.size ≤ b → b < w'.heap.size → Below w.heap.size w w' → VBlk w' b t vs → K (a.put o.dst (.pointer (some ⟨b, 0, none⟩))) w') : if Region.wanted o (yielded ops a.tmps) = true then Oper.wp P o a w K Q else E := by
  refine step_val hgd (v := .pointer (some ⟨w.heap.size, 0, none⟩)) (w' := w.alloc (.cells vs.toArray t)) ?_ (h _ _ (Nat.le_refl _) (by simp) ((Below.refl _ _).alloc (Nat.le_refl _) _) (heap_alloc_new _ _))
  unfold execOp
  simp only [ho, Instr.alloc, Sem.run_bind, hz, Result.andThen_ok]
  rfl
theorem step_store_v (hgd : o.guard = none) (t : TypeId) (x y : Operand) (ho : o.op = .store t x y) (b : Nat) (ys : List Value) (hx : a.eval x = .pointer (some ⟨b, 0, none⟩)) (hy : a.eval y = .agg ys.toArray)
    (hi : (P.info? t).map (·.size) = some ys.length) {t' : TypeId} {vs : List Value} (hb : VBlk w b t' vs) (hn : ys.length = vs.length) (h1 : ∀ v ∈ ys, v.oneCell' = true)
    (h : ∀ w', Only b w w' → VBlk w' b t' ys → K (a.put o.dst undef) w') : if Region.wanted o (yielded ops a.tmps) = true then Oper.wp P o a w K Q else E := by
  have hw : Region.wanted o (yielded ops a.tmps) = true := by simp [Region.wanted, hgd]
  rw [if_pos hw]
  refine wp_store_mid t x y ho b 0 ys.toArray hx hy ?_ (by rw [hi]; simp) (all_oneCell_toArray h1) ?_
  · rw [List.size_toArray, hn]; exact hb.there
  · refine h _ (only_setCells _ _ _ _) ?_
    unfold VBlk
    rw [heap_setCells b t' _ 0 w vs hb (by simp [hn])]
    simp [hn]
/-- an operation that comes up, its parts by name -/
theorem consM {md : Region.Mode} {S : World → Prop} {fuel : Nat} {listed : Array Bool} {tmps : Array Value} {defers : List Deferred} {i : Nat} {dst : Option Tmp} {op : Op} {ty : TypeId} {pos : String} {after : Array Edge} {g : Option (Nat × Bool)} {rs : List Nat} (ho : ops[i]? = some ⟨dst, op, ty, pos, after, g⟩)
    (h : ∀ K' : Act → World → Prop, Shut (∀ a w, S w → (S w → wpAnyH P md ops Q S fuel (listed.setIfInBounds i true) a w) → K' a w) → if Region.wanted ⟨dst, op, ty, pos, after, g⟩ (yielded ops tmps) = true then Oper.wp P ⟨dst, op, ty, pos, after, g⟩ ⟨tmps, defers⟩ w K' Q else K' (Act.put ⟨tmps, defers⟩ dst undef) w)
    (hs : AllReadyH P md ops Q S fuel listed ⟨tmps, defers⟩ w rs) : AllReadyH P md ops Q S fuel listed ⟨tmps, defers⟩ w (i :: rs) := AllReadyH.cons ho h hs
end Go.Proofs.Ytapchjkiiifhdaa.ce
