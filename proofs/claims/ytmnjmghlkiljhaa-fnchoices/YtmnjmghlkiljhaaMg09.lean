/- Texts laid together: Rp3 Rp4 Rp5 Qp1 Rg1 Rg2 Ch1. -/
import Derived.Test.YtmnjmghlkiljhaaRp2
import Derived.Test.YtmnjmghlkiljhaaMg02
import Derived.Test.YtmnjmghlkiljhaaRows
import Derived.Test.YtmnjmghlkiljhaaMg03
import Derived.Test.YtmnjmghlkiljhaaMg01
import Derived.Deep.RegionHeld3
import Derived.Maps.RangeWalk
import Derived.Lib.SmallJoins
import Derived.Deep.Slices
import Derived.BigQuiet
import Derived.Deep.DeepCutAuto
/- Contracts: the program's generic ring in its variable: the hand's turn. -/
namespace Go.Proofs.Ytmnjmghlkiljhaa.rg
open Go.ChangeShapes Go.WideShapes Go.ChangeAt Go.RowKit
open Go.Proofs.Ytmnjmghlkiljhaa.ce Go.Proofs.Ytmnjmghlkiljhaa.ro
set_option linter.unusedVariables false

theorem zip_set : ∀ (N : List ByteArray) (U : List Bool) (i : Nat) (h : i < (N.zip U).length) (x : Bool), (N.zip U).set i ((N.zip U)[i].1, x) = N.zip (U.set i x)
  | [], U, i, h, x => by simp at h
  | n :: N, [], i, h, x => by simp at h
  | n :: N, u :: U, 0, h, x => by simp
  | n :: N, u :: U, i + 1, h, x => by
    have := zip_set N U i (by simpa using h) x
    simpa using this
theorem zip_len {N : List ByteArray} {U : List Bool} (h : U.length = N.length) : (N.zip U).length = N.length := by simp [h]
theorem zip_fst {N : List ByteArray} {U : List Bool} (h : U.length = N.length) : (N.zip U).map (·.1) = N := List.map_fst_zip (by omega)
theorem zip_cut {N : List ByteArray} {U : List Bool} (h : U.length = N.length) (i : Nat) : (N.zip U).take i ++ (N.zip U).drop (i + 1) = (N.take i ++ N.drop (i + 1)).zip (U.take i ++ U.drop (i + 1)) := by
  rw [List.zip_append (by simp [h])]
  simp only [List.zip_eq_zipWith, List.take_zipWith, List.drop_zipWith]

/-- while the hand goes on: the seats in their variable -/
structure Tv (lo hi b : Nat) (w wr : World) (sv : Value) (N : List ByteArray) (U : List Bool) (a : Nat) : Prop where
  r : RV wr lo hi b sv (N.zip U) a
  t : Tq lo b w wr
theorem Tv.drewN {lo hi b : Nat} {w wr : World} {sv : Value} {N : List ByteArray} {U : List Bool} {a : Nat} (h : Tv lo hi b w wr sv N U a) (hl : lo ≤ w.heap.size) (k : Nat) : Tv lo hi b w (wr.drewN k) sv N U a :=
  ⟨h.r.grow (below_drewN _ _), h.t.trans (Tq.of_below (below_drewN _ _) (Nat.le_trans hl h.t.size))⟩
theorem Tv.mark {lo hi b g m dc : Nat} {w wq : World} {N : List ByteArray} {U : List Bool} {a : Nat} (h : Tv lo hi b w wq (.slice (some ⟨g, 0, none⟩) m dc) N U a) (ha : a < N.length) (hl : U.length = N.length) (hlo : lo ≤ w.heap.size) :
    Tv lo hi b w (wq.setCell ⟨g, a * 2 + 1, none⟩ (.bool false)).drew (.slice (some ⟨g, 0, none⟩) m dc) N (U.set a false) a := by
  have hz : a < (N.zip U).length := by rw [zip_len hl]; exact ha
  have hT := ownT_ty h.r.o (by omega) (a * 2 + 1) (.bool false)
  have hs := ownT_set h.r.o a hz false
  rw [zip_set] at hs
  have hd : Below (wq.setCell ⟨g, a * 2 + 1, none⟩ (.bool false)).heap.size (wq.setCell ⟨g, a * 2 + 1, none⟩ (.bool false)) (wq.setCell ⟨g, a * 2 + 1, none⟩ (.bool false)).drew := (Below.refl _ _).drew
  have ht := h.t.trans (Tq.of_ty hT)
  exact ⟨⟨hs.grow hd, vblk_grow (hT.vblk h.r.v (by decide)) hd⟩, ht.trans (Tq.of_below hd (Nat.le_trans hlo ht.size))⟩

end Go.Proofs.Ytmnjmghlkiljhaa.rg
/- Contracts: the program's ring out of a generic one, and a generic one out of a ring. -/
namespace Go.Proofs.Ytmnjmghlkiljhaa.rg
open Go.ChangeShapes Go.WideShapes Go.ChangeAt Go.RowKit
open Go.Proofs.Ytmnjmghlkiljhaa.ce Go.Proofs.Ytmnjmghlkiljhaa.ro
set_option linter.unusedVariables false

theorem sizeSeat : (Try.prog.info? 153).map (·.size) = some 2 := by kernel_rfl
theorem zeroSeatL (w : World) : (zeroValue 153).run Try.prog w = .ok (.agg [Value.string ⟨#[]⟩, .bool false].toArray) w := Try.zeroValue153 w
/-- while a ring is made: its variable b3, the answer's b2 -/
structure Mk (w : World) (b2 b3 : Nat) (vN vU : Value) (A : Int) (N : List ByteArray) (U : List Bool) (wr : World) : Prop where
  low : Below w.heap.size w wr
  n : Own encS wr w.heap.size wr.heap.size vN N
  u : Own encB wr w.heap.size wr.heap.size vU U
  v3 : VBlk wr b3 27 [vN, vU, .int .i64 A]
  v2 : VBlk wr b2 27 [.slice none 0 0, .slice none 0 0, .int .i64 0]

set_option maxRecDepth 100000 in
set_option maxHeartbeats 2000000 in
theorem ringOf_any (r : Rg) (sv : Value) (w : World) (h : Rd encSeat w sv (r.N.zip r.U)) (hNU : r.U.length = r.N.length) (hl : r.N.length ≤ 1000000) :
    Calls Try.prog 94 #[.agg #[sv, .int .i64 r.A]] w fun e w' => ∃ vN vU, e = .returned (.agg #[vN, vU, .int .i64 r.A]) ∧ OwnR w' w.heap.size w'.heap.size vN vU r ∧ Below w.heap.size w w' := by
  obtain ⟨N, U, A⟩ := r
  dsimp only at h hNU hl ⊢
  obtain ⟨a, n, cap, rfl⟩ : ∃ a n k, sv = .slice a n k := by obtain ⟨a, cap, e⟩ := h.form; exact ⟨a, _, cap, e⟩
  have hn : n = N.length := h.cap.1.trans (zip_len hNU)
  have R : Hid (Rd encSeat w (.slice a n cap) (N.zip U)) := h
  have HN : Hid (n = N.length) := hn
  have hn2 : n ≤ 1000000 := by omega
  have HU : Hid (U.length = N.length) := hNU
  clear h hn hNU
  have m1 : Hid True := trivial
  have m2 : Hid True := trivial
  have m3 : Hid True := trivial
  go_enter Try.func94, Try.ntmps94
  go_wp2_with (first | (clear m1; refine wpList_box_v rfl 121 _ rfl [.slice a n cap, .int .i64 A] rfl ?_; intro b1 w1 hb1 hw1 hB1 V1; have hz1 := hB1.size) | (clear m2; refine wpList_alloc_v rfl 27 rfl _ zeroRg ?_; intro b2 w2 hb2 hw2 hB2 V2; have hz2 := hB2.size; replace V1 := vblk_grow V1 hB2; obtain ⟨c0, c1⟩ := cells2 V1) | (clear m3; refine wpList_alloc_v rfl 27 rfl _ zeroRg ?_; intro b3 w3 hb3 hw3 hB3 V3; have hz3 := hB3.size; replace V1 := vblk_grow V1 hB3; replace V2 := vblk_grow V2 hB3) | (refine wpList_store_v rfl 27 _ _ rfl b3 [.slice none 0 0, .slice none 0 0, .int .i64 A] rfl rfl sizeRg V3 rfl (by simp [Value.oneCell']) ?_; intro w4 hO4 X3; have hz4 := hO4.1; replace V1 := vblk_only V1 hO4 (by omega); replace V2 := vblk_only V2 hO4 (by omega); clear c0 c1; obtain ⟨c0, c1⟩ := cells2 V1) | (fail))
  have M0 : Hid (Mk w b2 b3 (.slice none 0 0) (.slice none 0 0) A [] [] w4) := ⟨((hB1.trans (hB2.mono hz1)).trans (hB3.mono (by omega))).trans (hO4.2.2 _ (by omega)), own_zero _ _ _ _ _, own_zero _ _ _ _ _, X3, V2⟩
  have hbb : b2 ≠ b3 := by omega
  have hwb : w.heap.size ≤ b3 ∧ w.heap.size ≤ b2 := by omega
  clear hB1 hB2 hB3 hO4 V1 V2 V3 X3 c0 c1 hb1 hw1 hb2 hw2 hb3 hw3 hz1 hz2 hz3 hz4
  go_loopw [12] (fun p wr => ∃ i : Nat, i ≤ N.length ∧ p = .int .i64 i ∧ ∃ vN vU, Hid (Mk w b2 b3 vN vU A (N.take i) (U.take i) wr)) (fun p _ => N.length - (intOf p).toNat)
  case atStart => exact ⟨0, by omega, rfl, _, _, M0⟩
  case round =>
    obtain ⟨i, hi1, rfl, vN, vU, M⟩ := hrel
    obtain ⟨aN, nN, kN, rfl⟩ := M.out.n.slice
    obtain ⟨aU, nU, kU, rfl⟩ := M.out.u.slice
    by_cases hlt : i < N.length
    · have hlz : i < (N.zip U).length := by rw [zip_len HU.out]; exact hlt
      obtain ⟨g, off, rfl, hb, d0, d1⟩ := rdT_cell (R.out.grow M.out.low) i hlz
      rw [List.getElem_zip] at d0 d1
      dsimp only at d0 d1
      have hlU : i < U.length := by have := HU.out; omega
      obtain ⟨z, hz⟩ := hid_ex (N[i])
      obtain ⟨x, hx⟩ := hid_ex (U[i])
      have eN : Hid (N.take i ++ [z] = N.take (i + 1)) := by unfold Hid; rw [List.take_succ_eq_append_getElem hlt, hz.out]
      have eU : Hid (U.take i ++ [x] = U.take (i + 1)) := by unfold Hid; rw [List.take_succ_eq_append_getElem hlU, hx.out]
      rw [hz.out] at d0
      rw [hx.out] at d1
      have hlt' : (i : Int) < (n : Int) := by have := HN.out; omega
      have l1 : (N.take i).length ≤ i := by rw [List.length_take]; omega
      have l2 : (U.take i).length ≤ i := by rw [List.length_take]; omega
      have hb3 := M.out.v3.lt
      clear hlz hz hx
      have m1 : Hid True := trivial
      have m2 : Hid True := trivial
      go_wp2_with (first | (clear m1; refine wpList_alloc_v rfl 153 rfl _ zeroSeatL ?_; intro b5 w5 hb5 hw5 hB5 V5; have hz5 := hB5.size; have lw := M.out.low.size) | (refine wpList_store_v rfl 153 _ _ rfl b5 [.string z, .bool x] rfl rfl sizeSeat V5 rfl (by simp [Value.oneCell']) ?_; intro w6 hO6 V6; have hz6 := Nat.le_of_eq hO6.1.symm; have hy6 := Nat.le_of_eq hO6.1; have hB6 : Below wr.heap.size wr w6 := hB5.trans (hO6.2.2 _ hb5); have v36 := vblk_grow M.out.v3 hB6; have v26 := vblk_grow M.out.v2 hB6; have n6 := M.out.n.grow hB6; have u6 := M.out.u.grow hB6; have low6 := M.out.low.trans (hB6.mono lw); obtain ⟨c0, c1, c2⟩ := cells3 v36; obtain ⟨e0, e1⟩ := cells2 V6) | (clear m2; at_builtin; refine wpList_append_g infoS rfl _ _ 24 rfl Try.underlying24 w.heap.size _ _ (N.take i) rfl (n6.grow ((Below.refl _ _).alloc (Nat.le_refl _) _)) (by simp; omega) _ [z] rfl (rd_new (E := encS) w6 z #[.string z] rfl) (by simp; omega) ?_; intro v7 w7 n7 hT7; have hBa : Below w6.heap.size w6 (w6.alloc (.cells #[.string z] 9)) := (Below.refl _ _).alloc (Nat.le_refl _) _; have v37 := hT7.vblk (vblk_grow v36 hBa) (by decide); have v27 := hT7.vblk (vblk_grow v26 hBa) (by decide); have v57 := hT7.vblk (vblk_grow V6 hBa) (by decide); have u7 := hT7.own (u6.grow hBa) (by decide); have low7 := (low6.trans (hBa.mono (by omega))).trans hT7.low; have hz7 := hT7.low.size; have hza := hBa.size; rw [eN.out] at n7; obtain ⟨a7, n7', k7, rfl⟩ := n7.slice) | (refine wpList_store_ss rfl _ _ rfl b3 0 a7 n7' k7 rfl rfl v37 (by simp) ?_; intro w8 hO8 v38; have hz8 := Nat.le_of_eq hO8.1.symm; have hy8 := Nat.le_of_eq hO8.1; have n8 := n7.only hO8 v37 (by decide); have u8 := u7.only hO8 v37 (by decide); have v28 := vblk_only v27 hO8 hbb; have v58 := vblk_only v57 hO8 (by omega); have low8 := low7.trans (hO8.2.2 _ hwb.1); clear c0 c1 c2 e0 e1; obtain ⟨c0, c1, c2⟩ := cells3 v38; obtain ⟨e0, e1⟩ := cells2 v58) | (at_builtin; refine wpList_append_g infoB rfl _ _ 25 rfl Try.underlying25 w.heap.size _ _ (U.take i) rfl (u8.grow ((Below.refl _ _).alloc (Nat.le_refl _) _)) (by simp; omega) _ [x] rfl (rd_new (E := encB) w8 x #[.bool x] rfl) (by simp; omega) ?_; intro v9 w9 u9 hT9; have hBb : Below w8.heap.size w8 (w8.alloc (.cells #[.bool x] 4)) := (Below.refl _ _).alloc (Nat.le_refl _) _; have v39 := hT9.vblk (vblk_grow v38 hBb) (by decide); have v29 := hT9.vblk (vblk_grow v28 hBb) (by decide); have n9 := hT9.own (n8.grow hBb) (by decide); have low9 := (low8.trans (hBb.mono (by omega))).trans hT9.low; rw [eU.out] at u9; obtain ⟨a9, n9', k9, rfl⟩ := u9.slice) | (refine wpList_store_bs rfl _ _ rfl b3 1 a9 n9' k9 rfl rfl v39 (by simp) ?_; intro wX hOX v3X; have nX := n9.only hOX v39 (by decide); have uX := u9.only hOX v39 (by decide); have v2X := vblk_only v29 hOX hbb; have lowX := low9.trans (hOX.2.2 _ hwb.1)) | (fail))
      go_roundw
      case rel => exact ⟨i + 1, by omega, by go_num, _, _, ⟨lowX, nX.top, uX.top, v3X, v2X⟩⟩
      case measure => simp [intOf]; omega
    · have hlt' : ¬ (i : Int) < (n : Int) := by have := HN.out; omega
      have M2 := M.out
      rw [List.take_of_length_le (by omega), List.take_of_length_le (by have := HU.out; omega)] at M2
      obtain ⟨c0, c1, c2⟩ := cells3 M2.v3
      have v2 := M2.v2
      clear M
      go_wp2_with (first | (refine wpList_store_v rfl 27 _ _ rfl b2 [.slice aN nN kN, .slice aU nU kU, .int .i64 A] rfl rfl sizeRg v2 rfl (by simp [Value.oneCell']) ?_; intro w9 hO9 V9) | (fail))
      exact row_retv rfl rfl V9 Try.underlying27 sizeRg rfl ⟨_, _, rfl, ⟨(M2.n.only hO9 v2 (by decide)).top, (M2.u.only hO9 v2 (by decide)).top⟩, M2.low.trans (hO9.2.2 _ hwb.2)⟩
end Go.Proofs.Ytmnjmghlkiljhaa.rg
/- Contract: the program's generic ring out of a ring. -/
namespace Go.Proofs.Ytmnjmghlkiljhaa.rg
open Go.ChangeShapes Go.WideShapes Go.ChangeAt Go.RowKit
open Go.Proofs.Ytmnjmghlkiljhaa.ce Go.Proofs.Ytmnjmghlkiljhaa.ro
set_option linter.unusedVariables false

theorem zip_take {N : List ByteArray} {U : List Bool} {i : Nat} (h1 : i < N.length) (h2 : i < U.length) : (N.take i).zip (U.take i) ++ [(N[i], U[i])] = (N.take (i + 1)).zip (U.take (i + 1)) := by
  rw [List.take_succ_eq_append_getElem h1, List.take_succ_eq_append_getElem h2, List.zip_append (by simp; omega)]
  rfl
theorem snoc_set {α : Type} (xs : List α) (x y : α) (i : Nat) (h : xs.length = i) : (xs ++ [x]).set i y = xs ++ [y] := by
  subst h
  simp
/-- while a generic ring is made: the ring in b1, the answer's variable b2, the new one's b4 -/
structure Ro (w : World) (b1 b2 b4 : Nat) (vs : List Value) (sv : Value) (ss : List (ByteArray × Bool)) (wr : World) : Prop where
  low : Below w.heap.size w wr
  v1 : VBlk wr b1 27 vs
  v2 : VBlk wr b2 121 [.slice none 0 0, .int .i64 0]
  r : RV wr w.heap.size wr.heap.size b4 sv ss 0
theorem Ro.grow {w : World} {b1 b2 b4 : Nat} {vs : List Value} {sv : Value} {ss : List (ByteArray × Bool)} {wr w' : World} (h : Ro w b1 b2 b4 vs sv ss wr) (hb : Below wr.heap.size wr w') : Ro w b1 b2 b4 vs sv ss w' :=
  ⟨h.low.trans (hb.mono h.low.size), vblk_grow h.v1 hb, vblk_grow h.v2 hb, (h.r.grow hb).top⟩
theorem Ro.step {w : World} {b1 b2 b4 hi : Nat} {vs : List Value} {sv sv' : Value} {ss ss' : List (ByteArray × Bool)} {wr w' : World} (h : Ro w b1 b2 b4 vs sv ss wr) (hr : RV w' w.heap.size hi b4 sv' ss' 0) (ht : Tq w.heap.size b4 wr w') (h4 : w.heap.size ≤ b4) (n1 : b1 ≠ b4) (n2 : b2 ≠ b4) : Ro w b1 b2 b4 vs sv' ss' w' :=
  ⟨h.low.trans (ht.below (Nat.le_refl _) h4), ht.vblk h.v1 n1 (by decide), ht.vblk h.v2 n2 (by decide), hr.top⟩

/-- what is known of a generic ring that was made of a ring, right or not -/
structure Made (w w' : World) (y : Bool) (r : Rg) (a : Option Addr) (n k : Nat) (A' : Int) : Prop where
  own : y = true → Own encSeat w' w.heap.size w'.heap.size (.slice a n k) (r.N.zip r.U) ∧ A' = r.A
  low : Below w.heap.size w w'

set_option maxRecDepth 100000 in
set_option maxHeartbeats 4000000 in
theorem roundOf_any (r : Rg) (vN vU : Value) (w : World) (h : RdR w vN vU r) :
    Calls Try.prog 91 #[.agg #[vN, vU, .int .i64 r.A]] w fun e w' => ∃ a n k A', e = .returned (.tuple #[.agg #[.slice a n k, .int .i64 A'], .bool (ringB r)]) ∧ Made w w' (ringB r) r a n k A' := by
  obtain ⟨N, U, A⟩ := r
  obtain ⟨a, cap, rfl⟩ := h.n.form
  obtain ⟨c, dc, rfl⟩ := h.u.form
  have R : Hid (RdR w (.slice a N.length cap) (.slice c U.length dc) ⟨N, U, A⟩) := h
  have hlN := h.n.len
  have hlU := h.u.len
  clear h
  dsimp only at hlN hlU ⊢
  obtain ⟨y, hy⟩ := hid_ex (ringB ⟨N, U, A⟩)
  rw [hy.out]
  replace hy : Hid ((namesB N && (U.length == N.length) && atB N.length A) = y) := hy
  by_cases hpre : (N.length : Int) ≤ 20 ∧ (U.length : Int) = (N.length : Int) ∧ 0 ≤ A ∧ A < max (N.length : Int) 1
  · obtain ⟨g1, g2, g3, g4⟩ := hpre
    have e1 : ¬ (N.length : Int) > 20 := by omega
    have e2 : ((U.length : Int) != (N.length : Int)) = false := by simpa using g2
    have e3 : ¬ A < 0 := by omega
    have e4 : ¬ A ≥ max (N.length : Int) 1 := by omega
    have hmx : (if (N.length : Int) < 1 then (1 : Int) else (N.length : Int)) = max (N.length : Int) 1 := by omega
    have HU : Hid (U.length = N.length) := by unfold Hid; omega
    have hy2 : Hid (namesB N = y) := by
      unfold Hid
      rw [← hy.out, show (U.length == N.length) = true by simp; omega]
      unfold atB
      rw [decide_eq_true g3, decide_eq_true g4]
      simp
    clear g2
    have m1 : Hid True := trivial
    have m2 : Hid True := trivial
    have m3 : Hid True := trivial
    go_enter Try.func91, Try.ntmps91
    go_wp2_with (first | (clear m1; refine wpList_box_v rfl 27 _ rfl [.slice a N.length cap, .slice c U.length dc, .int .i64 A] rfl ?_; intro b1 w1 hb1 hw1 hB1 V1; have hz1 := hB1.size) | (clear m2; refine wpList_alloc_v rfl 121 rfl _ zeroRd ?_; intro b2 w2 hb2 hw2 hB2 V2; have hz2 := hB2.size; replace V1 := vblk_grow V1 hB2) | (clear m3; refine wpList_alloc_v rfl 121 rfl _ zeroRd ?_; intro b4 w3 hb4 hw4 hB3 V4; have hz3 := hB3.size; replace V1 := vblk_grow V1 hB3; replace V2 := vblk_grow V2 hB3; obtain ⟨c0, c1, c2⟩ := cells3 V1) | (fail))
    have M0 : Hid (Ro w b1 b2 b4 [.slice a N.length cap, .slice c U.length dc, .int .i64 A] (.slice none 0 0) [] w3) := ⟨(hB1.trans (hB2.mono hz1)).trans (hB3.mono (by omega)), V1, V2, own_zero _ _ _ _ _, V4⟩
    have hn1 : b1 ≠ b4 := by omega
    have hn2 : b2 ≠ b4 := by omega
    have hwb : w.heap.size ≤ b4 ∧ w.heap.size ≤ b2 := by omega
    clear hB1 hB2 hB3 V1 V2 V4 c0 c1 c2 hb1 hw1 hb2 hw2 hb4 hw4 hz1 hz2 hz3
    go_loopw [36] (fun p wr => ∃ i : Nat, i ≤ N.length ∧ p = .int .i64 i ∧ Hid (Pre N i) ∧ ∃ sv, Hid (Ro w b1 b2 b4 [.slice a N.length cap, .slice c U.length dc, .int .i64 A] sv ((N.take i).zip (U.take i)) wr)) (fun p _ => N.length - (intOf p).toNat)
    case atStart => exact ⟨0, by omega, rfl, pre_zero N, _, M0⟩
    case round =>
      obtain ⟨i, hi1, rfl, hP, sv, M⟩ := hrel
      obtain ⟨aS, nS, kS, rfl⟩ := M.out.r.o.slice
      obtain ⟨c0, c1, c2⟩ := cells3 M.out.v1
      obtain ⟨f0, f1⟩ := cells2 M.out.r.v
      have v2 := M.out.v2
      by_cases hlt : i < N.length
      · obtain ⟨g, off, rfl, hgb, d0⟩ := rdS_cell (R.out.grow M.out.low).n i hlt
        have hlt' : (i : Int) < (N.length : Int) := by omega
        have hlU2 : i < U.length := by have := HU.out; omega
        have hlU3 : (i : Int) < (U.length : Int) := by omega
        have hsz := R.out.s N[i] (List.getElem_mem hlt)
        have hp1 := @pre_not1 N i hlt
        have hp2 := @pre_not2 N i hlt
        have hp3 := pre_succ hP.out hlt
        have hzt := zip_take hlt hlU2
        have hzl : ((N.take i).zip (U.take i)).length = i := by simp; omega
        have hmf : ((N.take i).zip (U.take i)).map (·.1) = N.take i := zip_fst (by simp; omega)
        have hpm := @posS_mem N[i] (N.take i)
        have hpb := posS_bd N[i] (N.take i)
        obtain ⟨z, hz⟩ := hid_ex (N[i])
        obtain ⟨x, hx⟩ := hid_ex (U[i])
        rw [hz.out] at d0 hsz hp1 hp2 hp3 hzt hpm hpb
        rw [hx.out] at hzt
        cases hn : nameB z with
        | false =>
          have ey : y = false := hy2.out.symm.trans (hp1 hn)
          subst ey
          clear hp1 hp2 hp3 hzt hzl hmf hpm hpb
          go_wp2_with (first | (go_at_call 50; refine (implNameOk_any _ hsz _).mono ?_; rintro e wq ⟨rfl, hq⟩; subst wq; rw [hn]) | (refine wpList_store_v rfl 121 _ _ rfl b2 [.slice aS nS kS, .int .i64 0] rfl rfl sizeRd v2 rfl (by simp [Value.oneCell']) ?_; intro w9 hO9 V9) | (fail))
          exact row_ct rfl rfl rfl V9 Try.underlying121 sizeRd rfl ⟨_, _, _, _, rfl, ⟨fun q => (by cases q), M.out.low.trans (hO9.2.2 _ hwb.2)⟩⟩
        | true =>
          obtain ⟨p, hp0⟩ := hid_ex (posS z (N.take i))
          have hp : Hid (posS z (((N.take i).zip (U.take i)).map (·.1)) = p) := by unfold Hid; rw [hmf]; exact hp0.out
          rw [hp0.out] at hpm hpb
          clear hp0
          by_cases hpe : p = -1
          · subst hpe
            have hPn : Hid (Pre N (i + 1)) := hp3 hn (fun q => by have := hpm.1 q; omega)
            have hzl2 : Hid (((N.take i).zip (U.take i)).length = i) := hzl
            have hzl3 : ((N.take i).zip (U.take i)).length ≤ i := by omega
            have HZ : Hid ((N.take i).zip (U.take i) ++ [(z, x)] = (N.take (i + 1)).zip (U.take (i + 1))) := hzt
            clear hp1 hp2 hp3 hzt hzl hmf hpm hpb
            obtain ⟨g2, off2, rfl, hgb2, -⟩ := rdB_cell (R.out.grow M.out.low).u i hlU2
            cases x with
            | false =>
              go_wp2_with (first | (go_at_call 50; refine (implNameOk_any _ hsz _).mono ?_; rintro e wq ⟨rfl, hq⟩; subst wq; rw [hn]) | (go_at_call 103; refine (placeOf_any _ _ _ _ b4 _ _ _ M.out.r).mono ?_; rintro e w5 ⟨rfl, hB5⟩; rw [hp.out]; have M5 := M.out.grow hB5; clear c0 c1 c2 f0 f1; obtain ⟨c0, c1, c2⟩ := cells3 M5.v1; obtain ⟨f0, f1⟩ := cells2 M5.r.v; have v25 := M5.v2) | (go_at_call 126; refine (join_any _ _ _ _ b4 _ _ _ M5.r (by have := M5.low.size; omega) (by omega)).mono ?_; rintro e w6 ⟨⟨u6, rfl⟩, ⟨sv6, rv6⟩, hT6⟩; have M6 := M5.step rv6 hT6 hwb.1 hn1 hn2; clear c0 c1 c2 f0 f1; obtain ⟨c0, c1, c2⟩ := cells3 M6.v1; obtain ⟨g2', off2', e2', -, d1'⟩ := rdB_cell (R.out.grow M6.low).u i hlU2; cases e2'; rw [hx.out] at d1') | (fail))
              rw [HZ.out] at M6
              go_roundw
              case rel => exact ⟨i + 1, by omega, by go_num, hPn, _, M6⟩
              case measure => simp [intOf]; omega
            | true =>
              go_wp2_with (first | (go_at_call 50; refine (implNameOk_any _ hsz _).mono ?_; rintro e wq ⟨rfl, hq⟩; subst wq; rw [hn]) | (go_at_call 103; refine (placeOf_any _ _ _ _ b4 _ _ _ M.out.r).mono ?_; rintro e w5 ⟨rfl, hB5⟩; rw [hp.out]; have M5 := M.out.grow hB5; clear c0 c1 c2 f0 f1; obtain ⟨c0, c1, c2⟩ := cells3 M5.v1; obtain ⟨f0, f1⟩ := cells2 M5.r.v; have v25 := M5.v2) | (go_at_call 126; refine (join_any _ _ _ _ b4 _ _ _ M5.r (by have := M5.low.size; omega) (by omega)).mono ?_; rintro e w6 ⟨⟨u6, rfl⟩, ⟨sv6, rv6⟩, hT6⟩; have M6 := M5.step rv6 hT6 hwb.1 hn1 hn2; clear c0 c1 c2 f0 f1; obtain ⟨c0, c1, c2⟩ := cells3 M6.v1; obtain ⟨g2', off2', e2', -, d1'⟩ := rdB_cell (R.out.grow M6.low).u i hlU2; cases e2'; rw [hx.out] at d1') | (go_at_call 127; refine (use_any i _ _ _ b4 _ _ _ M6.r (by rw [List.length_append]; have := hzl2.out; simp; omega)).mono ?_; rintro e w7 ⟨⟨u7, rfl⟩, rv7, hT7⟩; have M7 := M6.step rv7 hT7 hwb.1 hn1 hn2) | (fail))
              rw [snoc_set _ _ _ _ hzl2.out, List.getElem_concat_length hzl2.out.symm, HZ.out] at M7
              go_roundw
              case rel => exact ⟨i + 1, by omega, by go_num, hPn, _, M7⟩
              case measure => simp [intOf]; omega
          · have ey : y = false := hy2.out.symm.trans (hp2 (hpm.2 (by omega)))
            subst ey
            have hpe2 : (p != -1) = true := by simpa using hpe
            clear hp1 hp2 hp3 hzt hzl hmf hpm hpb hpe
            go_wp2_with (first | (go_at_call 50; refine (implNameOk_any _ hsz _).mono ?_; rintro e wq ⟨rfl, hq⟩; subst wq; rw [hn]) | (go_at_call 103; refine (placeOf_any _ _ _ _ b4 _ _ _ M.out.r).mono ?_; rintro e w5 ⟨rfl, hB5⟩; rw [hp.out]; have M5 := M.out.grow hB5; clear c0 c1 c2 f0 f1; obtain ⟨c0, c1, c2⟩ := cells3 M5.v1; obtain ⟨f0, f1⟩ := cells2 M5.r.v; have v25 := M5.v2) | (refine wpList_store_v rfl 121 _ _ rfl b2 [.slice aS nS kS, .int .i64 0] rfl rfl sizeRd v25 rfl (by simp [Value.oneCell']) ?_; intro w9 hO9 V9) | (fail))
            exact row_ct rfl rfl rfl V9 Try.underlying121 sizeRd rfl ⟨_, _, _, _, rfl, ⟨fun q => (by cases q), M5.low.trans (hO9.2.2 _ hwb.2)⟩⟩
      · have hlt' : ¬ (i : Int) < (N.length : Int) := by omega
        have M2 := M.out
        have hP2 := hP.out
        rw [show i = N.length by omega] at hP2
        have ey : y = true := by rw [← hy2.out, pre_all hP2]; exact decide_eq_true g1
        subst ey
        rw [List.take_of_length_le (by omega), List.take_of_length_le (by have := HU.out; omega)] at M2
        clear M hP2
        have v4 := M2.r.v
        go_wp2_with (first | (refine wpList_store_n rfl _ _ rfl b4 1 A rfl rfl v4 (by simp) ?_; intro w8 hO8 V8; have v28 := vblk_only v2 hO8 hn2; have o8 := M2.r.o.only hO8 v4 (by decide); clear f0 f1; obtain ⟨f0, f1⟩ := cells2 V8) | (refine wpList_store_v rfl 121 _ _ rfl b2 [.slice aS nS kS, .int .i64 A] rfl rfl sizeRd v28 rfl (by simp [Value.oneCell']) ?_; intro w9 hO9 V9) | (fail))
        exact row_ct rfl rfl rfl V9 Try.underlying121 sizeRd rfl ⟨_, _, _, _, rfl, ⟨fun _ => ⟨(o8.only hO9 v28 (by decide)).top, rfl⟩, (M2.low.trans (hO8.2.2 _ hwb.1)).trans (hO9.2.2 _ hwb.2)⟩⟩
  · have ey : y = false := by
      rw [← hy.out]
      cases q : (namesB N && (U.length == N.length) && atB N.length A) with
      | false => rfl
      | true =>
        exfalso
        simp only [Bool.and_eq_true, beq_iff_eq, namesB, atB, decide_eq_true_eq] at q
        exact hpre ⟨by have := q.1.1.2.2; omega, by have := q.1.2; omega, q.2.1, q.2.2⟩
    subst ey
    have hmx : (if (N.length : Int) < 1 then (1 : Int) else (N.length : Int)) = max (N.length : Int) 1 := by omega
    by_cases g1 : (N.length : Int) > 20
    · clear hpre
      have m1 : Hid True := trivial
      have m2 : Hid True := trivial
      have m3 : Hid True := trivial
      go_enter Try.func91, Try.ntmps91
      go_wp2_with (first | (clear m1; refine wpList_box_v rfl 27 _ rfl [.slice a N.length cap, .slice c U.length dc, .int .i64 A] rfl ?_; intro b1 w1 hb1 hw1 hB1 V1; have hz1 := hB1.size) | (clear m2; refine wpList_alloc_v rfl 121 rfl _ zeroRd ?_; intro b2 w2 hb2 hw2 hB2 V2; have hz2 := hB2.size; replace V1 := vblk_grow V1 hB2) | (clear m3; refine wpList_alloc_v rfl 121 rfl _ zeroRd ?_; intro b4 w3 hb4 hw4 hB3 V4; have hz3 := hB3.size; replace V1 := vblk_grow V1 hB3; replace V2 := vblk_grow V2 hB3; obtain ⟨c0, c1, c2⟩ := cells3 V1; obtain ⟨f0, f1⟩ := cells2 V4) | (refine wpList_store_v rfl 121 _ _ rfl b2 [.slice none 0 0, .int .i64 0] rfl rfl sizeRd V2 rfl (by simp [Value.oneCell']) ?_; intro w9 hO9 V9) | (fail))
      exact row_ct rfl rfl rfl V9 Try.underlying121 sizeRd rfl ⟨_, _, _, _, rfl, ⟨fun q => (by cases q), ((hB1.trans (hB2.mono hz1)).trans (hB3.mono (by omega))).trans (hO9.2.2 _ (by omega))⟩⟩
    · by_cases g2 : (U.length : Int) = (N.length : Int)
      · have g2b : ((U.length : Int) != (N.length : Int)) = false := by simpa using g2
        by_cases g3 : A < 0
        · clear hpre g2
          have m1 : Hid True := trivial
          have m2 : Hid True := trivial
          have m3 : Hid True := trivial
          go_enter Try.func91, Try.ntmps91
          go_wp2_with (first | (clear m1; refine wpList_box_v rfl 27 _ rfl [.slice a N.length cap, .slice c U.length dc, .int .i64 A] rfl ?_; intro b1 w1 hb1 hw1 hB1 V1; have hz1 := hB1.size) | (clear m2; refine wpList_alloc_v rfl 121 rfl _ zeroRd ?_; intro b2 w2 hb2 hw2 hB2 V2; have hz2 := hB2.size; replace V1 := vblk_grow V1 hB2) | (clear m3; refine wpList_alloc_v rfl 121 rfl _ zeroRd ?_; intro b4 w3 hb4 hw4 hB3 V4; have hz3 := hB3.size; replace V1 := vblk_grow V1 hB3; replace V2 := vblk_grow V2 hB3; obtain ⟨c0, c1, c2⟩ := cells3 V1; obtain ⟨f0, f1⟩ := cells2 V4) | (refine wpList_store_v rfl 121 _ _ rfl b2 [.slice none 0 0, .int .i64 0] rfl rfl sizeRd V2 rfl (by simp [Value.oneCell']) ?_; intro w9 hO9 V9) | (fail))
          exact row_ct rfl rfl rfl V9 Try.underlying121 sizeRd rfl ⟨_, _, _, _, rfl, ⟨fun q => (by cases q), ((hB1.trans (hB2.mono hz1)).trans (hB3.mono (by omega))).trans (hO9.2.2 _ (by omega))⟩⟩
        · have g4 : A ≥ max (N.length : Int) 1 := by
            have : ¬ A < max (N.length : Int) 1 := fun q => hpre ⟨by omega, g2, by omega, q⟩
            omega
          clear hpre g2
          have m1 : Hid True := trivial
          have m2 : Hid True := trivial
          have m3 : Hid True := trivial
          go_enter Try.func91, Try.ntmps91
          go_wp2_with (first | (clear m1; refine wpList_box_v rfl 27 _ rfl [.slice a N.length cap, .slice c U.length dc, .int .i64 A] rfl ?_; intro b1 w1 hb1 hw1 hB1 V1; have hz1 := hB1.size) | (clear m2; refine wpList_alloc_v rfl 121 rfl _ zeroRd ?_; intro b2 w2 hb2 hw2 hB2 V2; have hz2 := hB2.size; replace V1 := vblk_grow V1 hB2) | (clear m3; refine wpList_alloc_v rfl 121 rfl _ zeroRd ?_; intro b4 w3 hb4 hw4 hB3 V4; have hz3 := hB3.size; replace V1 := vblk_grow V1 hB3; replace V2 := vblk_grow V2 hB3; obtain ⟨c0, c1, c2⟩ := cells3 V1; obtain ⟨f0, f1⟩ := cells2 V4) | (refine wpList_store_v rfl 121 _ _ rfl b2 [.slice none 0 0, .int .i64 0] rfl rfl sizeRd V2 rfl (by simp [Value.oneCell']) ?_; intro w9 hO9 V9) | (fail))
          exact row_ct rfl rfl rfl V9 Try.underlying121 sizeRd rfl ⟨_, _, _, _, rfl, ⟨fun q => (by cases q), ((hB1.trans (hB2.mono hz1)).trans (hB3.mono (by omega))).trans (hO9.2.2 _ (by omega))⟩⟩
      · have g2b : ((U.length : Int) != (N.length : Int)) = true := by simpa using g2
        clear hpre g2
        have m1 : Hid True := trivial
        have m2 : Hid True := trivial
        have m3 : Hid True := trivial
        go_enter Try.func91, Try.ntmps91
        go_wp2_with (first | (clear m1; refine wpList_box_v rfl 27 _ rfl [.slice a N.length cap, .slice c U.length dc, .int .i64 A] rfl ?_; intro b1 w1 hb1 hw1 hB1 V1; have hz1 := hB1.size) | (clear m2; refine wpList_alloc_v rfl 121 rfl _ zeroRd ?_; intro b2 w2 hb2 hw2 hB2 V2; have hz2 := hB2.size; replace V1 := vblk_grow V1 hB2) | (clear m3; refine wpList_alloc_v rfl 121 rfl _ zeroRd ?_; intro b4 w3 hb4 hw4 hB3 V4; have hz3 := hB3.size; replace V1 := vblk_grow V1 hB3; replace V2 := vblk_grow V2 hB3; obtain ⟨c0, c1, c2⟩ := cells3 V1; obtain ⟨f0, f1⟩ := cells2 V4) | (refine wpList_store_v rfl 121 _ _ rfl b2 [.slice none 0 0, .int .i64 0] rfl rfl sizeRd V2 rfl (by simp [Value.oneCell']) ?_; intro w9 hO9 V9) | (fail))
        exact row_ct rfl rfl rfl V9 Try.underlying121 sizeRd rfl ⟨_, _, _, _, rfl, ⟨fun q => (by cases q), ((hB1.trans (hB2.mono hz1)).trans (hB3.mono (by omega))).trans (hO9.2.2 _ (by omega))⟩⟩
end Go.Proofs.Ytmnjmghlkiljhaa.rg
/- Contracts: the program's queues: right ones, the others, who is touched, all but one. -/
namespace Go.Proofs.Ytmnjmghlkiljhaa.rg
open Go.ChangeShapes Go.WideShapes Go.ChangeAt Go.RowKit
open Go.Proofs.Ytmnjmghlkiljhaa.ce Go.Proofs.Ytmnjmghlkiljhaa.ro
set_option linter.unusedVariables false

theorem index_any (N : List ByteArray) (s : ByteArray) (a : Option Addr) (n cap : Nat) (hn : Hid (n = N.length)) (hn1 : n ≤ N.length) (hn2 : N.length ≤ n) (w : World) (r : Rd encS w (.slice a n cap) N) :
    Calls Try.prog 130 #[.slice a n cap, .string s] w fun e w' => e = .returned (.int .i64 (posS s N)) ∧ w' = w := by
  have hl := r.len
  have R : Hid (Rd encS w (.slice a n cap) N) := r
  clear r
  obtain ⟨y, hy⟩ := hid_ex (posS s N)
  rw [hy.out]
  go_enter Try.func130, Try.ntmps130
  go_wp2
  go_loop [8] (fun p => ∃ i : Nat, i ≤ N.length ∧ p = .int .i64 i ∧ Hid (s ∉ N.take i)) (fun p => N.length - (intOf p).toNat)
  case atStart => exact ⟨0, by omega, rfl, (by unfold Hid; simp)⟩
  case round =>
    obtain ⟨i, hi1, rfl, hno⟩ := hrel
    by_cases hlt : i < N.length
    · obtain ⟨b, off, rfl, hb, d0⟩ := rdS_cell R.out i hlt
      have hlt' : (i : Int) < (n : Int) := by omega
      obtain ⟨z, hz⟩ := hid_ex (N[i])
      rw [hz.out] at d0
      by_cases he : s.toList = z.toList
      · have ey : y = i := by rw [← hy.out]; exact posS_at hlt (hz.out.trans (str_eq he.symm)) hno.out
        subst ey
        have hbe : (s.toList == z.toList) = true := by simpa using he
        clear he
        go_wp2
        go_ret
        exact ⟨rfl, rfl⟩
      · have hno2 : Hid (s ∉ N.take (i + 1)) := by
          unfold Hid
          rw [List.take_succ_eq_append_getElem hlt, List.mem_append, hz.out, List.mem_singleton]
          rintro (h | h)
          · exact hno.out h
          · exact he (by rw [h])
        have hbe : (s.toList == z.toList) = false := by simpa using he
        clear he
        go_wp2
        go_round
        case rel => exact ⟨i + 1, by omega, by go_num, hno2⟩
        case measure => simp [intOf]; omega
    · have hlt' : ¬ (i : Int) < (n : Int) := by omega
      have ey : y = -1 := by
        have h := hno.out
        rw [List.take_of_length_le (by omega)] at h
        rw [← hy.out]; exact posS_no h
      subst ey
      go_wp2
      go_ret
      exact ⟨rfl, rfl⟩

theorem contains_any (N : List ByteArray) (s : ByteArray) (a : Option Addr) (n cap : Nat) (y : Bool) (hy : Hid (decide (0 ≤ posS s N) = y)) (w : World) (r : Rd encS w (.slice a n cap) N) :
    Calls Try.prog 99 #[.slice a n cap, .string s] w fun e w' => e = .returned (.bool y) ∧ w' = w := by
  have hn : Hid (n = N.length) := r.cap.1
  have R : Hid (Rd encS w (.slice a n cap) N) := r
  clear r
  obtain ⟨p, hp⟩ := hid_ex (posS s N)
  rw [hp.out] at hy
  go_enter Try.func99, Try.ntmps99
  go_wp2_with (first | (go_at_call 130; refine (index_any N s _ _ _ hn (Nat.le_of_eq hn.out) (Nat.le_of_eq hn.out.symm) _ R.out).mono ?_; rintro e wq ⟨rfl, hq⟩; subst wq; rw [hp.out]) | (fail))
  go_ret
  rw [← hy.out]
  exact ⟨rfl, rfl⟩

theorem implQueueOk_any (q : List ByteArray) (v : Value) (w : World) (r : Rd encS w v q) (hs : ∀ s ∈ q, s.size ≤ 9223372036854775807) :
    Calls Try.prog 93 #[v] w fun e w' => e = .returned (.bool (namesB q)) ∧ w' = w := by
  have hl := r.len
  obtain ⟨a, cap, rfl⟩ := r.form
  obtain ⟨-, hc1, hc2⟩ := r.cap
  have R : Hid (Rd encS w (.slice a q.length cap) q) := r
  have HS : Hid (∀ s ∈ q, s.size ≤ 9223372036854775807) := hs
  clear r hs
  obtain ⟨y, hy⟩ := hid_ex (namesB q)
  rw [hy.out]
  by_cases h20 : (q.length : Int) > 20
  · have ey : y = false := by rw [← hy.out]; exact names_long (by omega)
    subst ey
    go_enter Try.func93, Try.ntmps93
    go_wp2
    go_ret
    exact ⟨rfl, rfl⟩
  go_enter Try.func93, Try.ntmps93
  go_wp2
  go_loop [10] (fun p => ∃ i : Nat, i ≤ q.length ∧ p = .int .i64 i ∧ Hid (Pre q i)) (fun p => q.length - (intOf p).toNat)
  case atStart => exact ⟨0, by omega, rfl, pre_zero q⟩
  case round =>
    obtain ⟨i, hi1, rfl, hP⟩ := hrel
    by_cases hlt : i < q.length
    · obtain ⟨b, off, rfl, hb, d0⟩ := rdS_cell R.out i hlt
      have RT : Hid (Rd encS w (.slice (some ⟨b, off, none⟩) i cap) (q.take i)) := R.out.take i hi1
      have hlt' : (i : Int) < (q.length : Int) := by omega
      have i1 : (i : Int) ≤ (cap : Int) := by omega
      have hsz := HS.out q[i] (List.getElem_mem hlt)
      have hp1 := @pre_not1 q i hlt
      have hp2 := @pre_not2 q i hlt
      have hp3 := pre_succ hP.out hlt
      obtain ⟨z, hz⟩ := hid_ex (q[i])
      rw [hz.out] at d0 hsz hp1 hp2 hp3
      cases hn : nameB z with
      | false =>
        have ey : y = false := by rw [← hy.out]; exact hp1 hn
        subst ey
        clear hp1 hp2 hp3
        go_wp2_with (first | (go_at_call 50; refine (implNameOk_any _ hsz _).mono ?_; rintro e wq ⟨rfl, hq⟩; subst wq; rw [hn]) | (fail))
        go_ret
        exact ⟨rfl, rfl⟩
      | true =>
        obtain ⟨x, hx⟩ := hid_ex (decide (0 ≤ posS z (q.take i)))
        cases x with
        | false =>
          have hP2 : Hid (Pre q (i + 1)) := hp3 hn (fun h => of_decide_eq_false hx.out (posS_mem.1 h))
          clear hp1 hp2 hp3
          go_wp2_with (first | (go_at_call 50; refine (implNameOk_any _ hsz _).mono ?_; rintro e wq ⟨rfl, hq⟩; subst wq; rw [hn]) | (go_at_call 99; refine (contains_any (q.take i) z _ _ _ false hx _ RT.out).mono ?_; rintro e wq ⟨rfl, hq⟩; subst wq) | (fail))
          go_round
          case rel => exact ⟨i + 1, by omega, by go_num, hP2⟩
          case measure => simp [intOf]; omega
        | true =>
          have ey : y = false := by rw [← hy.out]; exact hp2 (posS_mem.2 (of_decide_eq_true hx.out))
          subst ey
          clear hp1 hp2 hp3
          go_wp2_with (first | (go_at_call 50; refine (implNameOk_any _ hsz _).mono ?_; rintro e wq ⟨rfl, hq⟩; subst wq; rw [hn]) | (go_at_call 99; refine (contains_any (q.take i) z _ _ _ true hx _ RT.out).mono ?_; rintro e wq ⟨rfl, hq⟩; subst wq) | (fail))
          go_ret
          exact ⟨rfl, rfl⟩
    · have hlt' : ¬ (i : Int) < (q.length : Int) := by omega
      have hP2 := hP.out
      rw [show i = q.length by omega] at hP2
      have ey : y = true := by rw [← hy.out, pre_all hP2]; exact decide_eq_true (by omega)
      clear hP2
      subst ey
      go_wp2
      go_ret
      exact ⟨rfl, rfl⟩

theorem others_any (q : List ByteArray) (s : ByteArray) (v : Value) (w : World) (r : Rd encS w v q) (hq : q.length ≤ 1000000) :
    Calls Try.prog 102 #[v, .string s] w fun e w' => ∃ v', e = .returned v' ∧ Own encS w' w.heap.size w'.heap.size v' (othersS q s) ∧ Below w.heap.size w w' := by
  obtain ⟨a, cap, rfl⟩ := r.form
  have R : Hid (Rd encS w (.slice a q.length cap) q) := r
  clear r
  go_enter Try.func102, Try.ntmps102
  go_wp2
  go_loopw [5, 10] (fun o p wr => ∃ (i : Nat) (A : Option Addr) (n k : Nat), i ≤ q.length ∧ p = .int .i64 i ∧ o = .slice A n k ∧ Hid (Own encS wr w.heap.size wr.heap.size (.slice A n k) (othersS (q.take i) s)) ∧ Below w.heap.size w wr) (fun _ p _ => q.length - (intOf p).toNat)
  case atStart => exact ⟨0, none, 0, 0, by omega, rfl, rfl, own_zero encS w _ _ none, Below.refl _ _⟩
  case round =>
    obtain ⟨i, A, n, k, hi1, rfl, rfl, O, hB⟩ := hrel
    by_cases hlt : i < q.length
    · obtain ⟨b, off, rfl, hb, d0⟩ := rdS_cell (R.out.grow hB) i hlt
      have hlt' : (i : Int) < (q.length : Int) := by omega
      have hz0 := hB.size
      have ey := @others_take_yes q s i hlt
      have en := @others_take_no q s i hlt
      have hol := others_len (q.take i) s
      rw [List.length_take] at hol
      obtain ⟨z, hz⟩ := hid_ex (q[i])
      rw [hz.out] at d0 ey en
      by_cases he : z.toList = s.toList
      · have O2 := O.out
        rw [← ey (str_eq he)] at O2
        have OO : Hid (Own encS wr w.heap.size wr.heap.size (.slice A n k) (othersS (q.take (i + 1)) s)) := O2
        have hbe : (z.toList == s.toList) = true := by simpa using he
        clear he ey en O O2
        go_wp2
        go_roundw
        case rel => exact ⟨i + 1, _, _, _, by omega, by go_num, rfl, OO, hB⟩
        case measure => simp [intOf]; omega
      · have en2 := en fun e => he (by rw [e])
        have hbe : (z.toList == s.toList) = false := by simpa using he
        obtain ⟨os, hos⟩ := hid_ex (othersS (q.take i) s)
        rw [hos.out] at O hol en2
        have EN : Hid (othersS (q.take (i + 1)) s = os ++ [z]) := en2
        clear he ey en en2
        go_wp2_with (first | (at_builtin; refine wpList_append_g infoS rfl _ _ 24 rfl Try.underlying24 w.heap.size _ _ os rfl (O.out.grow ((Below.refl _ _).alloc (Nat.le_refl _) _)) (by simp; omega) _ [z] rfl (rd_new (E := encS) wr z #[.string z] rfl) (by simp; omega) ?_; intro v1 w1 o1 hT1; rw [← EN.out] at o1; obtain ⟨A1, n1, k1, rfl⟩ := o1.slice; have hB1 : Below w.heap.size w w1 := (hB.alloc hB.size _).trans hT1.low) | (fail))
        go_roundw
        case rel => exact ⟨i + 1, A1, n1, k1, by omega, by go_num, rfl, o1, hB1⟩
        case measure => simp [intOf]; omega
    · have hlt' : ¬ (i : Int) < (q.length : Int) := by omega
      have O2 := O.out
      rw [List.take_of_length_le (by omega)] at O2
      go_wp2
      go_ret
      exact ⟨_, rfl, O2, hB⟩

theorem implTouched_any (q : List ByteArray) (s : ByteArray) (hs : s.size ≤ 9223372036854775807) (v : Value) (w : World) (r : Rd encS w v q) (hss : ∀ s ∈ q, s.size ≤ 9223372036854775807) :
    Calls Try.prog 53 #[v, .string s] w fun e w' => ∃ v', e = .returned (.tuple #[v', .bool (toB q s)]) ∧ Own encS w' w.heap.size w'.heap.size v' (toR q s) ∧ Below w.heap.size w w' := by
  obtain ⟨a, cap, rfl⟩ := r.form
  have R : Hid (Rd encS w (.slice a q.length cap) q) := r
  have HS : Hid (∀ s ∈ q, s.size ≤ 9223372036854775807) := hss
  clear r hss
  cases hk : namesB q with
  | false =>
    obtain ⟨e1, e2⟩ := to_no (s := s) hk
    rw [e1, e2]
    clear e1 e2
    go_enter Try.func53, Try.ntmps53
    go_wp2_with (first | (go_at_call 93; refine (implQueueOk_any q _ _ R.out HS.out).mono ?_; rintro e wq ⟨rfl, hq⟩; subst wq; rw [hk]) | (fail))
    go_ret2
    exact ⟨_, rfl, own_zero _ _ _ _ _, Below.refl _ _⟩
  | true =>
    have hle := (namesB_iff.1 hk).2.2
    have hol := others_len q s
    have e1 : toB q s = (nameB s && !((othersS q s).length == 20)) := by unfold toB; rw [hk]; rfl
    have e2 : toR q s = if (nameB s && !((othersS q s).length == 20)) = true then othersS q s ++ [s] else othersS q s := if_pos hk
    rw [e1, e2]
    obtain ⟨os, hos⟩ := hid_ex (othersS q s)
    rw [hos.out] at hol ⊢
    clear e1 e2
    cases hm : nameB s with
    | false =>
      go_enter Try.func53, Try.ntmps53
      go_wp2_with (first | (go_at_call 93; refine (implQueueOk_any q _ _ R.out HS.out).mono ?_; rintro e wq ⟨rfl, hq⟩; subst wq; rw [hk]) | (go_at_call 102; refine (others_any q s _ _ R.out (by omega)).mono ?_; rintro e w1 ⟨v1, rfl, o1, hB1⟩; rw [hos.out] at o1; obtain ⟨A1, n1, k1, rfl⟩ := o1.slice) | (go_at_call 50; refine (implNameOk_any _ hs _).mono ?_; rintro e wq ⟨rfl, hq⟩; subst wq; rw [hm]) | (fail))
      go_ret2
      exact ⟨_, rfl, o1, hB1⟩
    | true =>
      by_cases h20 : os.length = 20
      · have h21 : (os.length == 20) = true := by simpa using h20
        rw [h21]
        have H20 : Hid (os.length = 20) := h20
        clear h20 h21
        go_enter Try.func53, Try.ntmps53
        go_wp2_with (first | (go_at_call 93; refine (implQueueOk_any q _ _ R.out HS.out).mono ?_; rintro e wq ⟨rfl, hq⟩; subst wq; rw [hk]) | (go_at_call 102; refine (others_any q s _ _ R.out (by omega)).mono ?_; rintro e w1 ⟨v1, rfl, o1, hB1⟩; rw [hos.out] at o1; obtain ⟨A1, n1, k1, rfl⟩ := o1.slice; have h22 : ((n1 : Int) == 20) = true := (by rw [o1.rd.cap.1, H20.out]; rfl)) | (go_at_call 50; refine (implNameOk_any _ hs _).mono ?_; rintro e wq ⟨rfl, hq⟩; subst wq; rw [hm]) | (fail))
        go_ret2
        exact ⟨_, rfl, o1, hB1⟩
      · have h21 : (os.length == 20) = false := by simpa using h20
        rw [h21]
        have H20 : Hid (¬ os.length = 20) := h20
        clear h20 h21
        go_enter Try.func53, Try.ntmps53
        go_wp2_with (first | (go_at_call 93; refine (implQueueOk_any q _ _ R.out HS.out).mono ?_; rintro e wq ⟨rfl, hq⟩; subst wq; rw [hk]) | (go_at_call 102; refine (others_any q s _ _ R.out (by omega)).mono ?_; rintro e w1 ⟨v1, rfl, o1, hB1⟩; rw [hos.out] at o1; obtain ⟨A1, n1, k1, rfl⟩ := o1.slice; have hz1 := hB1.size; have h22 : ((n1 : Int) == 20) = false := (by rw [o1.rd.cap.1]; have := H20.out; simp; omega)) | (go_at_call 50; refine (implNameOk_any _ hs _).mono ?_; rintro e wq ⟨rfl, hq⟩; subst wq; rw [hm]) | (at_builtin; refine wpList_append_g infoS rfl _ _ 24 rfl Try.underlying24 w.heap.size _ _ os rfl (o1.grow ((Below.refl _ _).alloc (Nat.le_refl _) _)) (by simp; omega) _ [s] rfl (rd_new (E := encS) w1 s #[.string s] rfl) (by simp; omega) ?_; intro v2 w2 o2 hT2) | (fail))
        go_ret2
        exact ⟨_, rfl, o2, (hB1.alloc hB1.size _).trans hT2.low⟩

theorem implWithout_any (q : List ByteArray) (s : ByteArray) (v : Value) (w : World) (r : Rd encS w v q) (hss : ∀ s ∈ q, s.size ≤ 9223372036854775807) :
    Calls Try.prog 55 #[v, .string s] w fun e w' => ∃ v', e = .returned v' ∧ Own encS w' w.heap.size w'.heap.size v' (wiR q s) ∧ Below w.heap.size w w' := by
  obtain ⟨a, cap, rfl⟩ := r.form
  have R : Hid (Rd encS w (.slice a q.length cap) q) := r
  have HS : Hid (∀ s ∈ q, s.size ≤ 9223372036854775807) := hss
  clear r hss
  cases hk : namesB q with
  | false =>
    rw [wi_no (s := s) hk]
    go_enter Try.func55, Try.ntmps55
    go_wp2_with (first | (go_at_call 93; refine (implQueueOk_any q _ _ R.out HS.out).mono ?_; rintro e wq ⟨rfl, hq⟩; subst wq; rw [hk]) | (fail))
    go_ret
    exact ⟨_, rfl, own_zero _ _ _ _ _, Below.refl _ _⟩
  | true =>
    have hle := (namesB_iff.1 hk).2.2
    have e2 : wiR q s = othersS q s := if_pos hk
    rw [e2]
    obtain ⟨J, hJ⟩ := hid_ex (othersS q s)
    rw [hJ.out]
    clear e2
    go_enter Try.func55, Try.ntmps55
    go_wp2_with (first | (go_at_call 93; refine (implQueueOk_any q _ _ R.out HS.out).mono ?_; rintro e wq ⟨rfl, hq⟩; subst wq; rw [hk]) | (go_at_call 102; refine (others_any q s _ _ R.out (by omega)).mono ?_; rintro e w2 ⟨v2, rfl, o2, hB2⟩; rw [hJ.out] at o2) | (fail))
    go_ret
    exact ⟨_, rfl, o2, hB2⟩
end Go.Proofs.Ytmnjmghlkiljhaa.rg
/- By hand through a region that draws its order: one operation taken first, wanted or passed over. -/
namespace Go.Proofs.Ytmnjmghlkiljhaa.ce
open Go.RowKit
set_option linter.unusedVariables false
variable {P : Program} {ops : Array Oper} {Q : Exit → Act → World → Prop} {md : Region.Mode} {S : World → Prop}

/-- an operation that is wanted and yields v in every world that meets S -/
theorem takeW (i d : Nat) (v : Value) {op : Op} {ty : TypeId} {pos : String} {after : Array Edge} {g : Option (Nat × Bool)} {tmps : Array Value} {defers : List Deferred} {fuel : Nat} {listed : Array Bool} {w : World}
    (hi : ops[i]? = some ⟨some d, op, ty, pos, after, g⟩) (hs : Region.noSelect ops = true) (hf : Region.free md ops listed i = true) (hr : (Region.ready md ops listed).contains i = true)
    (hQ : ∀ c a w, Q (.panic c) (Act.put a (some d) v) w → Q (.panic c) a w)
    (hw : Region.wanted ⟨some d, op, ty, pos, after, g⟩ (yielded ops tmps) = true) (hy : ∀ w, S w → (execOp (Act.eval ⟨tmps, defers⟩) ⟨some d, op, ty, pos, after, g⟩).run P w = .ok (.value v) w) (hS : S w)
    (h : wpAnyH P md ops Q S fuel (listed.setIfInBounds i true) ⟨tmps.setIfInBounds d v, defers⟩ w) : wpAnyH P md ops Q S (fuel + 1) listed ⟨tmps, defers⟩ w :=
  wpAnyH_take (oi := ⟨some d, op, ty, pos, after, g⟩) (v := v) hi hs hf hr hQ (Or.inl ⟨hw, hy⟩) hS h
/-- an operation that is passed over -/
theorem takeU (i d : Nat) {op : Op} {ty : TypeId} {pos : String} {after : Array Edge} {g : Option (Nat × Bool)} {tmps : Array Value} {defers : List Deferred} {fuel : Nat} {listed : Array Bool} {w : World}
    (hi : ops[i]? = some ⟨some d, op, ty, pos, after, g⟩) (hs : Region.noSelect ops = true) (hf : Region.free md ops listed i = true) (hr : (Region.ready md ops listed).contains i = true)
    (hQ : ∀ c a w, Q (.panic c) (Act.put a (some d) undef) w → Q (.panic c) a w)
    (hw : Region.wanted ⟨some d, op, ty, pos, after, g⟩ (yielded ops tmps) = false) (hS : S w)
    (h : wpAnyH P md ops Q S fuel (listed.setIfInBounds i true) ⟨tmps.setIfInBounds d undef, defers⟩ w) : wpAnyH P md ops Q S (fuel + 1) listed ⟨tmps, defers⟩ w :=
  wpAnyH_take (oi := ⟨some d, op, ty, pos, after, g⟩) (v := undef) hi hs hf hr hQ (Or.inr ⟨hw, rfl⟩) hS h
end Go.Proofs.Ytmnjmghlkiljhaa.ce
/- By hand through a region that draws its order: a struct's variable is laid, a struct is stored. -/
namespace Go.Proofs.Ytmnjmghlkiljhaa.ce
open Go.ChangeShapes Go.WideShapes Go.ChangeAt Go.RowKit
set_option linter.unusedVariables false
variable {P : Program} {ops : Array Oper} {o : Oper} {a : Act} {w : World} {Q : Exit → Act → World → Prop} {K : Act → World → Prop} {E : Prop}

theorem step_alloc_v (hgd : o.guard = none) (t : TypeId) (ho : o.op = .alloc t) (vs : List Value) (hz : ∀ w, (zeroValue t).run P w = .ok (.agg vs.toArray) w)
    (h : ∀ (b : Nat) (w' : World), w.heap.size ≤ b → b < w'.heap.size → Below w.heap.size w w' → VBlk w' b t vs → K (a.put o.dst (.pointer (some ⟨b, 0, none⟩))) w') : if Region.wanted o (yielded ops a.tmps) = true then Oper.wp P o a w K Q else E := by
  refine step_val hgd (v := .pointer (some ⟨w.heap.size, 0, none⟩)) (w' := w.alloc (.cells vs.toArray t)) ?_ (h _ _ (Nat.le_refl _) (by simp) ((Below.refl _ _).alloc (Nat.le_refl _) _) (heap_alloc_new _ _))
  unfold execOp
  simp only [ho, Instr.alloc, Sem.run_bind, hz, Result.andThen_ok]
  rfl
theorem step_store_v (hgd : o.guard = none) (t : TypeId) (x y : Operand) (ho : o.op = .store t x y) (b : Nat) (ys : List Value) (hx : a.eval x = .pointer (some ⟨b, 0, none⟩)) (hy : a.eval y = .agg ys.toArray)
    (hi : (P.info? t).map (·.size) = some ys.length) {t' : TypeId} {vs : List Value} (hb : VBlk w b t' vs) (hn : ys.length = vs.length) (h1 : ∀ v ∈ ys, v.oneCell' = true)
    (h : ∀ w', Only b w w' → VBlk w' b t' ys → K (a.put o.dst undef) w') : if Region.wanted o (yielded ops a.tmps) = true then Oper.wp P o a w K Q else E := by
  have hw : Region.wanted o (yielded ops a.tmps) = true := by simp [Region.wanted, hgd]
  rw [if_pos hw]
  refine wp_store_mid t x y ho b 0 ys.toArray hx hy ?_ (by rw [hi]; simp) (all_oneCell_toArray h1) ?_
  · rw [List.size_toArray, hn]; exact hb.there
  · refine h _ (only_setCells _ _ _ _) ?_
    unfold VBlk
    rw [heap_setCells b t' _ 0 w vs hb (by simp [hn])]
    simp [hn]
/-- an operation that comes up, its parts by name -/
theorem consM {md : Region.Mode} {S : World → Prop} {fuel : Nat} {listed : Array Bool} {tmps : Array Value} {defers : List Deferred} {i : Nat} {dst : Option Tmp} {op : Op} {ty : TypeId} {pos : String} {after : Array Edge} {g : Option (Nat × Bool)} {rs : List Nat} (ho : ops[i]? = some ⟨dst, op, ty, pos, after, g⟩)
    (h : ∀ K' : Act → World → Prop, Shut (∀ a w, S w → (S w → wpAnyH P md ops Q S fuel (listed.setIfInBounds i true) a w) → K' a w) → if Region.wanted ⟨dst, op, ty, pos, after, g⟩ (yielded ops tmps) = true then Oper.wp P ⟨dst, op, ty, pos, after, g⟩ ⟨tmps, defers⟩ w K' Q else K' (Act.put ⟨tmps, defers⟩ dst undef) w)
    (hs : AllReadyH P md ops Q S fuel listed ⟨tmps, defers⟩ w rs) : AllReadyH P md ops Q S fuel listed ⟨tmps, defers⟩ w (i :: rs) := AllReadyH.cons ho h hs
end Go.Proofs.Ytmnjmghlkiljhaa.ce
/- Contracts: the program's choices in memory of their own: choiceOf, ChoiceOk, NewChoice; the model's NewChoice. -/
namespace Go.Proofs.Ytmnjmghlkiljhaa.rg
open Go.ChangeShapes Go.WideShapes Go.ChangeAt Go.RowKit
open Go.Deep Go.Joins
open Go.Proofs.Ytmnjmghlkiljhaa.ce Go.Proofs.Ytmnjmghlkiljhaa.ro
set_option linter.unusedVariables false
set_option linter.unusedSimpArgs false

def cpC (c : Ch) : Ch := if chB c = true then c else Ch.zero
theorem ints_length (xs : List Int) : (sk.ints xs).length = xs.length := by simp [sk.ints]
theorem ints_one (xs : List Int) : ∀ v ∈ sk.ints xs, v.oneCell' = true := fun v hv => by
  simp only [sk.ints, List.mem_map] at hv
  obtain ⟨x, -, rfl⟩ := hv
  rfl
theorem szF {fl : List Int} (h : fl.length = 64) : (Try.prog.info? 95).map (·.size) = some (sk.ints fl).length := by rw [ints_length, h]; exact sk.size54
/-- what choiceOf tells -/
def PostC (c : Ch) (w : World) (e : Ending) (w' : World) : Prop := ∃ vN vU vQ vS, e = .returned (.tuple #[.agg #[.int .i64 (cpC c).K, vN, vU, .int .i64 (cpC c).R.A, vQ, vS, .int .i64 (cpC c).D], .bool (chB c)]) ∧ OwnC w' w.heap.size w'.heap.size vN vU vQ vS (cpC c) ∧ Below w.heap.size w w'
theorem postC_no {c : Ch} {w w' : World} (h : chB c = false) (hB : Below w.heap.size w w') : PostC c w (.returned (.tuple #[.agg #[.int .i64 0, .slice none 0 0, .slice none 0 0, .int .i64 0, .slice none 0 0, .slice none 0 0, .int .i64 0], .bool false])) w' := by
  have e : cpC c = Ch.zero := by unfold cpC; rw [h]; rfl
  refine ⟨.slice none 0 0, .slice none 0 0, .slice none 0 0, .slice none 0 0, ?_, ?_, hB⟩
  · rw [e, h]; rfl
  · rw [e]; exact ownC_zero _ _ _ (Nat.le_refl _) hB.size
theorem postC_yes {c : Ch} {w w' : World} {vN vU vQ vS : Value} (h : chB c = true) (o : OwnC w' w.heap.size w'.heap.size vN vU vQ vS c) (hB : Below w.heap.size w w') : PostC c w (.returned (.tuple #[.agg #[.int .i64 c.K, vN, vU, .int .i64 c.R.A, vQ, vS, .int .i64 c.D], .bool true])) w' := by
  have e : cpC c = c := by unfold cpC; rw [h]; rfl
  refine ⟨vN, vU, vQ, vS, ?_, ?_, hB⟩
  · rw [e, h]
  · rw [e]; exact o
section
variable {α : Type} {ops : Array Oper} {rest : List Oper} {o : Oper} {a : Act} {w : World} {Q : Exit → Act → World → Prop}
theorem cells_onec {v : Value} (h : v.oneCell' = true) : v.cells = #[v] := by cases v <;> first | rfl | cases h
theorem wpList_store_c1 (hgd : o.guard = none) (t : TypeId) (x y : Operand) (ho : o.op = .store t x y) (g j : Nat) (u : Value) (hx : a.eval x = .pointer (some ⟨g, j, none⟩)) (hy : a.eval y = u) (h1 : u.oneCell' = true) (hi : (Try.prog.info? t).map (·.size) = some 1)
    (old : Value) (hc : w.cell? ⟨g, j, none⟩ = some old) (hf : w.frozen? ⟨g, j, none⟩ = false) (h : wpList Try.prog ops Q rest (a.put o.dst undef) (w.setCell ⟨g, j, none⟩ u)) : wpList Try.prog ops Q (o :: rest) a w :=
  wpList_plain hgd fun _ hK => by
    unfold Oper.wp execOp
    obtain ⟨i, hi1, hi2⟩ := Option.map_eq_some_iff.1 hi
    simp [ho, hx, hy, Instr.storeAt, Instr.sureAddr, storeVar, sizeOf, typeInfo, hi1, hi2, cells_onec h1, storeCells, run_store _ _ _ _ _ h1, hc, hf, Addr.add]
    exact hK _ _ h
end
theorem wpList_store_cc {ops : Array Oper} {rest : List Oper} {o : Oper} {a : Act} {w : World} {Q : Exit → Act → World → Prop} (hgd : o.guard = none) (t : TypeId) (x y : Operand) (ho : o.op = .store t x y) (b j : Nat) (u : Value) (hx : a.eval x = .pointer (some ⟨b, j, none⟩)) (hy : a.eval y = u) (h1 : u.oneCell' = true) (hi : (Try.prog.info? t).map (·.size) = some 1)
    {T : TypeId} {vs : List Value} (V : VBlk w b T vs) (hj : j < vs.length) (h : ∀ w', Only b w w' → VBlk w' b T (vs.set j u) → wpList Try.prog ops Q rest (a.put o.dst undef) w') : wpList Try.prog ops Q (o :: rest) a w :=
  wpList_store_c1 hgd t x y ho b j u hx hy h1 hi _ (V.cell j hj) (V.frozen j) (h _ (only_set _ _ _ _) (V.set j u))
theorem szSl : (Try.prog.info? 24).map (·.size) = some 1 := by kernel_rfl
theorem ownS_grow {w w' : World} {lo hi : Nat} {v : Value} {R : List (List Int)} (h : sk.Own w lo hi v R) (hb : Below w.heap.size w w') : sk.Own w' lo hi v R := h.below hb (sk_hi h)
set_option maxRecDepth 100000 in
set_option maxHeartbeats 4000000 in
theorem implChoiceOf_any (c : Ch) (vN vU vQ vS : Value) (w : World) (h : RdC w vN vU vQ vS c) :
    Calls Try.prog 49 #[.agg #[.int .i64 c.K, vN, vU, .int .i64 c.R.A, vQ, vS, .int .i64 c.D]] w fun e w' => PostC c w e w' := by
  obtain ⟨K, ⟨N, U, A⟩, Q, S, D⟩ := c
  obtain ⟨aN, cN, rfl⟩ := h.r.n.form
  obtain ⟨aU, cU, rfl⟩ := h.r.u.form
  obtain ⟨aQ, cQ, rfl⟩ := h.q.form
  obtain ⟨aS, cS, rfl⟩ := sk_form h.s

  have R : Hid (RdC w (.slice aN N.length cN) (.slice aU U.length cU) (.slice aQ Q.length cQ) (.slice aS S.length cS) ⟨K, ⟨N, U, A⟩, Q, S, D⟩) := h
  clear h
  obtain ⟨zs, hzs⟩ := hid_ex (decide (sk.skOk S D))
  obtain ⟨zr, hzr⟩ := hid_ex (ringB ⟨N, U, A⟩)
  obtain ⟨zq, hzq⟩ := hid_ex (namesB Q)
  obtain ⟨zw, hzw0⟩ := hid_ex (wayB ⟨K, ⟨N, U, A⟩, Q, S, D⟩)
  have hy : Hid (chB ⟨K, ⟨N, U, A⟩, Q, S, D⟩ = (zs && zr && zq && zw)) := by
    unfold Hid
    rw [← hzs.out, ← hzr.out, ← hzq.out, ← hzw0.out]
    rfl
  go_enter Try.func49, Try.ntmps49
  have mk1 : Hid True := trivial
  have mk2 : Hid True := trivial
  have mk3 : Hid True := trivial
  have mk4 : Hid True := trivial
  have mk5 : Hid True := trivial
  have mk6 : Hid True := trivial
  have mk7 : Hid True := trivial
  have mk8 : Hid True := trivial
  go_upto_region 3 with (first | (clear mk1; refine wpList_box_v rfl 32 _ rfl [.int .i64 K, .slice aN N.length cN, .slice aU U.length cU, .int .i64 A, .slice aQ Q.length cQ, .slice aS S.length cS, .int .i64 D] rfl ?_; intro b1 w1 hb1 hwb1 hB1 c1; have hz1 : w.heap.size ≤ w1.heap.size := hB1.size; have hB := hB1; have hzw := hB.size; obtain ⟨c10, c11, c12, c13, c14, c15, c16⟩ := cells7c c1) | (clear mk2; refine wpList_alloc_v rfl 32 rfl [.int .i64 0, .slice none 0 0, .slice none 0 0, .int .i64 0, .slice none 0 0, .slice none 0 0, .int .i64 0] zeroCh ?_; intro b2 w2 hb2 hwb2 hB2 c2; have hz2 : w1.heap.size ≤ w2.heap.size := hB2.size; replace c1 := vblk_grow c1 hB2; replace hB := hB.trans (hB2.mono (by omega)); replace hzw := hB.size; clear c10 c11 c12 c13 c14 c15 c16; obtain ⟨c10, c11, c12, c13, c14, c15, c16⟩ := cells7c c1) | (clear mk3; go_at_call 91; refine (roundOf_any ⟨N, U, A⟩ _ _ _ (R.out.grow hB).r).mono ?_; rintro er w3 ⟨a3, n3, k3, A3, rfl, md⟩; rw [hzr.out] at md ⊢; have hB3 := md.low; have hz3 : w2.heap.size ≤ w3.heap.size := hB3.size; replace c1 := vblk_grow c1 hB3; replace c2 := vblk_grow c2 hB3; replace hB := hB.trans (hB3.mono (by omega)); replace hzw := hB.size; clear c10 c11 c12 c13 c14 c15 c16; obtain ⟨c10, c11, c12, c13, c14, c15, c16⟩ := cells7c c1; have WR : w3.heap.size ≤ w3.heap.size := Nat.le_refl _) | (clear mk4; refine wpList_alloc_v rfl 121 rfl _ zeroRd ?_; intro b4 w4 hb4 hwb4 hB4 c4; have hz4 : w3.heap.size ≤ w4.heap.size := hB4.size; replace c1 := vblk_grow c1 hB4; replace c2 := vblk_grow c2 hB4; replace hB := hB.trans (hB4.mono (by omega)); replace hzw := hB.size; clear c10 c11 c12 c13 c14 c15 c16; obtain ⟨c10, c11, c12, c13, c14, c15, c16⟩ := cells7c c1) | (clear mk5; refine wpList_store_v rfl 121 _ _ rfl b4 [.slice a3 n3 k3, .int .i64 A3] rfl rfl sizeRd c4 rfl (by simp [Value.oneCell']) ?_; intro w5 hO5 c4x; have hz5 : w4.heap.size ≤ w5.heap.size := (Nat.le_of_eq hO5.1.symm); have hy5 : w5.heap.size ≤ w4.heap.size := (Nat.le_of_eq hO5.1); replace c1 := vblk_only c1 hO5 (by omega); replace c2 := vblk_only c2 hO5 (by omega); replace hB := hB.trans (hO5.2.2 _ (by omega)); replace hzw := hB.size; clear c10 c11 c12 c13 c14 c15 c16; obtain ⟨c10, c11, c12, c13, c14, c15, c16⟩ := cells7c c1; clear c4; have c4 := c4x; clear c4x; obtain ⟨c40, c41⟩ := cells2 c4) | (clear mk6; go_at_call 70; refine (sk.rowsOf_any S D _ _ _ (Nat.le_refl _) (R.out.grow hB).s).mono ?_; rintro er w6 ⟨fl, rfl, hfl, hfl2, hB6⟩; have hz6 : w5.heap.size ≤ w6.heap.size := hB6.size; replace c1 := vblk_grow c1 hB6; replace c2 := vblk_grow c2 hB6; replace c4 := vblk_grow c4 hB6; replace hB := hB.trans (hB6.mono (by omega)); replace hzw := hB.size; clear c10 c11 c12 c13 c14 c15 c16; obtain ⟨c10, c11, c12, c13, c14, c15, c16⟩ := cells7c c1; clear c40 c41; obtain ⟨c40, c41⟩ := cells2 c4; rw [hzs.out]) | (clear mk7; refine wpList_alloc_v rfl 95 rfl (sk.ints sk.z64) sk.zero54' ?_; intro b6 w7 hb6 hwb6 hB7 c6; have hz7 : w6.heap.size ≤ w7.heap.size := hB7.size; replace c1 := vblk_grow c1 hB7; replace c2 := vblk_grow c2 hB7; replace c4 := vblk_grow c4 hB7; replace hB := hB.trans (hB7.mono (by omega)); replace hzw := hB.size; clear c10 c11 c12 c13 c14 c15 c16; obtain ⟨c10, c11, c12, c13, c14, c15, c16⟩ := cells7c c1; clear c40 c41; obtain ⟨c40, c41⟩ := cells2 c4) | (clear mk8; refine wpList_store_v rfl 95 _ _ rfl b6 (sk.ints fl) rfl rfl (szF hfl) c6 (by rw [ints_length, ints_length, hfl, sk.z64_len]) (ints_one fl) ?_; intro w8 hO8 c6x; have hz8 : w7.heap.size ≤ w8.heap.size := (Nat.le_of_eq hO8.1.symm); have hy8 : w8.heap.size ≤ w7.heap.size := (Nat.le_of_eq hO8.1); replace c1 := vblk_only c1 hO8 (by omega); replace c2 := vblk_only c2 hO8 (by omega); replace c4 := vblk_only c4 hO8 (by omega); replace hB := hB.trans (hO8.2.2 _ (by omega)); replace hzw := hB.size; clear c10 c11 c12 c13 c14 c15 c16; obtain ⟨c10, c11, c12, c13, c14, c15, c16⟩ := cells7c c1; clear c40 c41; obtain ⟨c40, c41⟩ := cells2 c4; clear c6; have c6 := c6x; clear c6x) | (fail))
  cases zw with
  | false =>
    have hy2 : chB ⟨K, ⟨N, U, A⟩, Q, S, D⟩ = false := by rw [hy.out]; simp
    have mk9 : Hid True := trivial
    have mk10 : Hid True := trivial
    go_wp2_with (first | (clear mk9; go_at_call 92; refine (implOneWay_any ⟨K, ⟨N, U, A⟩, Q, S, D⟩ _ _ _ _ _ (R.out.grow hB)).mono ?_; rintro er w9 ⟨rfl, hB9⟩; have hz9 : w8.heap.size ≤ w9.heap.size := hB9.size; replace c1 := vblk_grow c1 hB9; replace c2 := vblk_grow c2 hB9; replace c4 := vblk_grow c4 hB9; replace c6 := vblk_grow c6 hB9; replace hB := hB.trans (hB9.mono (by omega)); replace hzw := hB.size; clear c10 c11 c12 c13 c14 c15 c16; obtain ⟨c10, c11, c12, c13, c14, c15, c16⟩ := cells7c c1; clear c40 c41; obtain ⟨c40, c41⟩ := cells2 c4; rw [hzw0.out]) | (clear mk10; refine wpList_store_v rfl 32 _ _ rfl b2 [.int .i64 0, .slice none 0 0, .slice none 0 0, .int .i64 0, .slice none 0 0, .slice none 0 0, .int .i64 0] rfl rfl sizeCh c2 rfl (by simp [Value.oneCell']) ?_; intro w10 hO10 c2x; have hz10 : w9.heap.size ≤ w10.heap.size := (Nat.le_of_eq hO10.1.symm); have hy10 : w10.heap.size ≤ w9.heap.size := (Nat.le_of_eq hO10.1); replace c1 := vblk_only c1 hO10 (by omega); replace c4 := vblk_only c4 hO10 (by omega); replace c6 := vblk_only c6 hO10 (by omega); replace hB := hB.trans (hO10.2.2 _ (by omega)); replace hzw := hB.size; clear c10 c11 c12 c13 c14 c15 c16; obtain ⟨c10, c11, c12, c13, c14, c15, c16⟩ := cells7c c1; clear c40 c41; obtain ⟨c40, c41⟩ := cells2 c4; clear c2; have c2 := c2x; clear c2x) | (fail))
    exact row_ct (x := .bool false) rfl rfl rfl c2 Try.underlying32 sizeCh rfl (postC_no hy2 hB)
  | true =>
    cases zr with
    | false =>
      have hy2 : chB ⟨K, ⟨N, U, A⟩, Q, S, D⟩ = false := by rw [hy.out]; simp
      have mk11 : Hid True := trivial
      have mk12 : Hid True := trivial
      go_wp2_with (first | (clear mk11; go_at_call 92; refine (implOneWay_any ⟨K, ⟨N, U, A⟩, Q, S, D⟩ _ _ _ _ _ (R.out.grow hB)).mono ?_; rintro er w9 ⟨rfl, hB9⟩; have hz9 : w8.heap.size ≤ w9.heap.size := hB9.size; replace c1 := vblk_grow c1 hB9; replace c2 := vblk_grow c2 hB9; replace c4 := vblk_grow c4 hB9; replace c6 := vblk_grow c6 hB9; replace hB := hB.trans (hB9.mono (by omega)); replace hzw := hB.size; clear c10 c11 c12 c13 c14 c15 c16; obtain ⟨c10, c11, c12, c13, c14, c15, c16⟩ := cells7c c1; clear c40 c41; obtain ⟨c40, c41⟩ := cells2 c4; rw [hzw0.out]) | (clear mk12; refine wpList_store_v rfl 32 _ _ rfl b2 [.int .i64 0, .slice none 0 0, .slice none 0 0, .int .i64 0, .slice none 0 0, .slice none 0 0, .int .i64 0] rfl rfl sizeCh c2 rfl (by simp [Value.oneCell']) ?_; intro w10 hO10 c2x; have hz10 : w9.heap.size ≤ w10.heap.size := (Nat.le_of_eq hO10.1.symm); have hy10 : w10.heap.size ≤ w9.heap.size := (Nat.le_of_eq hO10.1); replace c1 := vblk_only c1 hO10 (by omega); replace c4 := vblk_only c4 hO10 (by omega); replace c6 := vblk_only c6 hO10 (by omega); replace hB := hB.trans (hO10.2.2 _ (by omega)); replace hzw := hB.size; clear c10 c11 c12 c13 c14 c15 c16; obtain ⟨c10, c11, c12, c13, c14, c15, c16⟩ := cells7c c1; clear c40 c41; obtain ⟨c40, c41⟩ := cells2 c4; clear c2; have c2 := c2x; clear c2x) | (fail))
      exact row_ct (x := .bool false) rfl rfl rfl c2 Try.underlying32 sizeCh rfl (postC_no hy2 hB)
    | true =>
      cases zs with
      | false =>
        have hy2 : chB ⟨K, ⟨N, U, A⟩, Q, S, D⟩ = false := by rw [hy.out]; simp
        have mk13 : Hid True := trivial
        have mk14 : Hid True := trivial
        go_wp2_with (first | (clear mk13; go_at_call 92; refine (implOneWay_any ⟨K, ⟨N, U, A⟩, Q, S, D⟩ _ _ _ _ _ (R.out.grow hB)).mono ?_; rintro er w9 ⟨rfl, hB9⟩; have hz9 : w8.heap.size ≤ w9.heap.size := hB9.size; replace c1 := vblk_grow c1 hB9; replace c2 := vblk_grow c2 hB9; replace c4 := vblk_grow c4 hB9; replace c6 := vblk_grow c6 hB9; replace hB := hB.trans (hB9.mono (by omega)); replace hzw := hB.size; clear c10 c11 c12 c13 c14 c15 c16; obtain ⟨c10, c11, c12, c13, c14, c15, c16⟩ := cells7c c1; clear c40 c41; obtain ⟨c40, c41⟩ := cells2 c4; rw [hzw0.out]) | (clear mk14; refine wpList_store_v rfl 32 _ _ rfl b2 [.int .i64 0, .slice none 0 0, .slice none 0 0, .int .i64 0, .slice none 0 0, .slice none 0 0, .int .i64 0] rfl rfl sizeCh c2 rfl (by simp [Value.oneCell']) ?_; intro w10 hO10 c2x; have hz10 : w9.heap.size ≤ w10.heap.size := (Nat.le_of_eq hO10.1.symm); have hy10 : w10.heap.size ≤ w9.heap.size := (Nat.le_of_eq hO10.1); replace c1 := vblk_only c1 hO10 (by omega); replace c4 := vblk_only c4 hO10 (by omega); replace c6 := vblk_only c6 hO10 (by omega); replace hB := hB.trans (hO10.2.2 _ (by omega)); replace hzw := hB.size; clear c10 c11 c12 c13 c14 c15 c16; obtain ⟨c10, c11, c12, c13, c14, c15, c16⟩ := cells7c c1; clear c40 c41; obtain ⟨c40, c41⟩ := cells2 c4; clear c2; have c2 := c2x; clear c2x) | (fail))
        exact row_ct (x := .bool false) rfl rfl rfl c2 Try.underlying32 sizeCh rfl (postC_no hy2 hB)
      | true =>
        cases zq with
        | false =>
          have hy2 : chB ⟨K, ⟨N, U, A⟩, Q, S, D⟩ = false := by rw [hy.out]; simp
          have mk15 : Hid True := trivial
          have mk16 : Hid True := trivial
          have mk17 : Hid True := trivial
          go_wp2_with (first | (clear mk15; go_at_call 92; refine (implOneWay_any ⟨K, ⟨N, U, A⟩, Q, S, D⟩ _ _ _ _ _ (R.out.grow hB)).mono ?_; rintro er w9 ⟨rfl, hB9⟩; have hz9 : w8.heap.size ≤ w9.heap.size := hB9.size; replace c1 := vblk_grow c1 hB9; replace c2 := vblk_grow c2 hB9; replace c4 := vblk_grow c4 hB9; replace c6 := vblk_grow c6 hB9; replace hB := hB.trans (hB9.mono (by omega)); replace hzw := hB.size; clear c10 c11 c12 c13 c14 c15 c16; obtain ⟨c10, c11, c12, c13, c14, c15, c16⟩ := cells7c c1; clear c40 c41; obtain ⟨c40, c41⟩ := cells2 c4; rw [hzw0.out]) | (clear mk16; go_at_call 93; refine (implQueueOk_any Q _ _ (R.out.grow hB).q R.out.qs).mono ?_; rintro er wq ⟨rfl, hq⟩; subst wq; rw [hzq.out]) | (clear mk17; refine wpList_store_v rfl 32 _ _ rfl b2 [.int .i64 0, .slice none 0 0, .slice none 0 0, .int .i64 0, .slice none 0 0, .slice none 0 0, .int .i64 0] rfl rfl sizeCh c2 rfl (by simp [Value.oneCell']) ?_; intro w10 hO10 c2x; have hz10 : w9.heap.size ≤ w10.heap.size := (Nat.le_of_eq hO10.1.symm); have hy10 : w10.heap.size ≤ w9.heap.size := (Nat.le_of_eq hO10.1); replace c1 := vblk_only c1 hO10 (by omega); replace c4 := vblk_only c4 hO10 (by omega); replace c6 := vblk_only c6 hO10 (by omega); replace hB := hB.trans (hO10.2.2 _ (by omega)); replace hzw := hB.size; clear c10 c11 c12 c13 c14 c15 c16; obtain ⟨c10, c11, c12, c13, c14, c15, c16⟩ := cells7c c1; clear c40 c41; obtain ⟨c40, c41⟩ := cells2 c4; clear c2; have c2 := c2x; clear c2x) | (fail))
          exact row_ct (x := .bool false) rfl rfl rfl c2 Try.underlying32 sizeCh rfl (postC_no hy2 hB)
        | true =>
          obtain ⟨o3, eA3⟩ := md.own rfl
          clear md
          dsimp only at eA3
          obtain rfl := eA3.symm
          have hok : sk.skOk S D := of_decide_eq_true hzs.out
          obtain rfl := hfl2 hok
          have hyt : Hid (chB ⟨K, ⟨N, U, A⟩, Q, S, D⟩ = true) := by unfold Hid; rw [hy.out]; rfl
          have rok := ringB_iff.1 hzr.out
          have hus : Hid (U.length = N.length) := rok.us
          have hNl : N.length ≤ 1000000 := by have := rok.le; dsimp only at this; omega
          have hQl : Q.length ≤ 1000000 := by have := (namesB_iff.1 hzq.out).2.2; omega
          have h4 : sk.Four S := hok.four
          have hS64 : Hid (S.flatten.length = 64) := hfl
          clear hy hfl2 hfl rok
          replace o3 := (((((o3.grow hB4).below (hO5.2.2 b4 (Nat.le_refl _)) (by omega)).grow hB6).grow hB7).below (hO8.2.2 b6 (Nat.le_refl _)) (by omega))
          have mk18 : Hid True := trivial
          have mk19 : Hid True := trivial
          go_upto_region 5 with (first | (clear mk18; go_at_call 92; refine (implOneWay_any ⟨K, ⟨N, U, A⟩, Q, S, D⟩ _ _ _ _ _ (R.out.grow hB)).mono ?_; rintro er w9 ⟨rfl, hB9⟩; have hz9 : w8.heap.size ≤ w9.heap.size := hB9.size; replace o3 := o3.grow hB9; replace c1 := vblk_grow c1 hB9; replace c2 := vblk_grow c2 hB9; replace c4 := vblk_grow c4 hB9; replace c6 := vblk_grow c6 hB9; replace hB := hB.trans (hB9.mono (by omega)); replace hzw := hB.size; clear c10 c11 c12 c13 c14 c15 c16; obtain ⟨c10, c11, c12, c13, c14, c15, c16⟩ := cells7c c1; clear c40 c41; obtain ⟨c40, c41⟩ := cells2 c4; rw [hzw0.out]) | (clear mk19; go_at_call 93; refine (implQueueOk_any Q _ _ (R.out.grow hB).q R.out.qs).mono ?_; rintro er wq ⟨rfl, hq⟩; subst wq; rw [hzq.out]) | (fail))
          have hBd : Below w9.heap.size w9 w9.drew := (Below.refl _ _).drew
          have hzd : w9.drew.heap.size ≤ w9.heap.size := Nat.le_refl _
          have hzd2 : w9.heap.size ≤ w9.drew.heap.size := Nat.le_refl _
          replace o3 := o3.grow hBd
          replace c1 := vblk_grow c1 hBd
          clear c10 c11 c12 c13 c14 c15 c16
          obtain ⟨c10, c11, c12, c13, c14, c15, c16⟩ := cells7c c1
          replace c2 := vblk_grow c2 hBd
          replace c4 := vblk_grow c4 hBd
          clear c40 c41
          obtain ⟨c40, c41⟩ := cells2 c4
          replace c6 := vblk_grow c6 hBd
          replace hB := hB.trans (hBd.mono (by omega))
          replace hzw := hB.size
          (try simp only [Act.put])
          (try simp only [List.setIfInBounds_toArray, List.set_cons_zero, List.set_cons_succ])
          clear c10 c11 c12 c13 c14 c15 c16
          clear c40 c41
          refine wp_region_held_drew (S := fun w' => VBlk w' b6 95 (sk.ints S.flatten) ∧ w'.cell? ⟨b1, 0, none⟩ = some (.int .i64 K) ∧ w'.cell? ⟨b1, 1, none⟩ = some (.slice aN N.length cN) ∧ w'.cell? ⟨b1, 2, none⟩ = some (.slice aU U.length cU) ∧ w'.cell? ⟨b1, 3, none⟩ = some (.int .i64 A) ∧ w'.cell? ⟨b1, 4, none⟩ = some (.slice aQ Q.length cQ) ∧ w'.cell? ⟨b1, 5, none⟩ = some (.slice aS S.length cS) ∧ w'.cell? ⟨b1, 6, none⟩ = some (.int .i64 D) ∧ w'.cell? ⟨b4, 0, none⟩ = some (.slice a3 n3 k3) ∧ w'.cell? ⟨b4, 1, none⟩ = some (.int .i64 A)) (by kernel_rfl) (⟨c6, (cells7c c1).1, (cells7c c1).2.1, (cells7c c1).2.2.1, (cells7c c1).2.2.2.1, (cells7c c1).2.2.2.2.1, (cells7c c1).2.2.2.2.2.1, (cells7c c1).2.2.2.2.2.2, cells2 c4⟩) (fun hHeld => ?_)
          refine wpAnyH_take (i := 0) (oi := { dst := some 39, op := Op.fieldAddr 32 (Operand.tmp 1) 0, type := 0, pos := "l16_choice.go:36", after := #[], guard := none }) (v := ?_) rfl (by kernel_rfl) (by kernel_rfl) (by kernel_rfl) (fun _ _ _ h => h) (Or.inl ⟨by rfl, ?_⟩) (by assumption) ?_
          rotate_left 1
          · intro w' hSw; (try dsimp only at hSw); go_simp; (try with_reducible rfl)
          (try simp only [Act.put, List.setIfInBounds_toArray, List.set_cons_zero, List.set_cons_succ])
          refine wpAnyH_take (i := 1) (oi := { dst := some 40, op := Op.load 2 (Operand.tmp 39), type := 2, pos := "l16_choice.go:36", after := #[{ on := 0, ground := Ground.data }], guard := none }) (v := ?_) rfl (by kernel_rfl) (by kernel_rfl) (by kernel_rfl) (fun _ _ _ h => h) (Or.inl ⟨by rfl, ?_⟩) (by assumption) ?_
          rotate_left 1
          · intro w' hSw; (try dsimp only at hSw); go_simp; (try with_reducible rfl)
          (try simp only [Act.put, List.setIfInBounds_toArray, List.set_cons_zero, List.set_cons_succ])
          refine wpAnyH_take (i := 2) (oi := { dst := some 41, op := Op.load 121 (Operand.tmp 4), type := 121, pos := "l16_choice.go:36", after := #[], guard := none }) (v := ?_) rfl (by kernel_rfl) (by kernel_rfl) (by kernel_rfl) (fun _ _ _ h => h) (Or.inl ⟨by rfl, ?_⟩) (by assumption) ?_
          rotate_left 1
          · intro w' hSw; (try dsimp only at hSw); go_simp; (try with_reducible rfl)
          (try simp only [Act.put, List.setIfInBounds_toArray, List.set_cons_zero, List.set_cons_succ])
          refine wpAnyH_take (i := 4) (oi := { dst := some 43, op := Op.load 95 (Operand.tmp 6), type := 95, pos := "l16_choice.go:36", after := #[], guard := none }) (v := .agg (sk.ints S.flatten).toArray) rfl (by kernel_rfl) (by kernel_rfl) (by kernel_rfl) (fun _ _ _ h => h) (yieldsIf_load_mid (by rfl) 95 _ rfl b6 0 rfl (sk.ints S.flatten) _ (fun w' hw' => hw'.1.range) Try.underlying95 rfl (szF hS64.out)) (by assumption) ?_
          (try simp only [List.setIfInBounds_toArray, List.set_cons_zero, List.set_cons_succ])
          refine wpAnyH_take (i := 6) (oi := { dst := some 45, op := Op.fieldAddr 32 (Operand.tmp 1) 3, type := 0, pos := "l16_choice.go:36", after := #[], guard := none }) (v := ?_) rfl (by kernel_rfl) (by kernel_rfl) (by kernel_rfl) (fun _ _ _ h => h) (Or.inl ⟨by rfl, ?_⟩) (by assumption) ?_
          rotate_left 1
          · intro w' hSw; (try dsimp only at hSw); go_simp; (try with_reducible rfl)
          (try simp only [Act.put, List.setIfInBounds_toArray, List.set_cons_zero, List.set_cons_succ])
          refine wpAnyH_take (i := 7) (oi := { dst := some 46, op := Op.fieldAddr 30 (Operand.tmp 45) 1, type := 0, pos := "l16_choice.go:36", after := #[{ on := 6, ground := Ground.data }], guard := none }) (v := ?_) rfl (by kernel_rfl) (by kernel_rfl) (by kernel_rfl) (fun _ _ _ h => h) (Or.inl ⟨by rfl, ?_⟩) (by assumption) ?_
          rotate_left 1
          · intro w' hSw; (try dsimp only at hSw); go_simp; (try with_reducible rfl)
          (try simp only [Act.put, List.setIfInBounds_toArray, List.set_cons_zero, List.set_cons_succ])
          refine wpAnyH_take (i := 8) (oi := { dst := some 47, op := Op.load 2 (Operand.tmp 46), type := 2, pos := "l16_choice.go:36", after := #[{ on := 7, ground := Ground.data }], guard := none }) (v := ?_) rfl (by kernel_rfl) (by kernel_rfl) (by kernel_rfl) (fun _ _ _ h => h) (Or.inl ⟨by rfl, ?_⟩) (by assumption) ?_
          rotate_left 1
          · intro w' hSw; (try dsimp only at hSw); go_simp; (try with_reducible rfl)
          (try simp only [Act.put, List.setIfInBounds_toArray, List.set_cons_zero, List.set_cons_succ])
          refine wpAnyH_ready (rs := [3, 11]) (by kernel_rfl) (by simp) ?_
          refine AllReadyH.cons (o := { dst := some 42, op := Op.call { callee := Callee.value (Operand.func 94), args := #[Operand.tmp 41], argTypes := #[121] }, type := 27, pos := "l16_choice.go:36", after := #[{ on := 2, ground := Ground.data }], guard := none }) rfl (fun KC hKC => ?_) (AllReadyH.cons (o := { dst := some 8, op := Op.alloc 32, type := 0, pos := "l16_choice.go:36", after := #[], guard := none }) rfl (fun KC hKC => ?_) AllReadyH.nil)
          · go_simp
            go_at_call 94
            refine (ringOf_any ⟨N, U, A⟩ _ _ o3.rd hus.out hNl).mono ?_
            rintro er wr3 ⟨vN8, vU8, rfl, oR, hBr3⟩
            have hzr3 : w9.drew.heap.size ≤ wr3.heap.size := hBr3.size
            replace o3 := o3.grow hBr3
            (try replace oS := ownS_grow oS hBr3)
            replace c1 := vblk_grow c1 hBr3
            replace c2 := vblk_grow c2 hBr3
            replace c4 := vblk_grow c4 hBr3
            replace c6 := vblk_grow c6 hBr3
            (try replace c8 := vblk_grow c8 hBr3)
            replace hB := hB.trans (hBr3.mono (by omega))
            replace hzw := hB.size
            obtain ⟨aN8, nN8, kN8, rfl⟩ := oR.n.slice
            obtain ⟨aU8, nU8, kU8, rfl⟩ := oR.u.slice
            refine hKC.out _ _ (⟨c6, (cells7c c1).1, (cells7c c1).2.1, (cells7c c1).2.2.1, (cells7c c1).2.2.2.1, (cells7c c1).2.2.2.2.1, (cells7c c1).2.2.2.2.2.1, (cells7c c1).2.2.2.2.2.2, cells2 c4⟩) (fun hHeld2 => ?_)
            clear hKC KC hHeld
            have hHeld := hHeld2
            clear hHeld2
            (try simp only [Act.put, List.setIfInBounds_toArray, List.set_cons_zero, List.set_cons_succ])
            refine wpAnyH_ready (rs := [5, 11]) (by kernel_rfl) (by simp) ?_
            refine AllReadyH.cons (o := { dst := some 44, op := Op.call { callee := Callee.value (Operand.func 95), args := #[Operand.tmp 43], argTypes := #[95] }, type := 28, pos := "l16_choice.go:36", after := #[{ on := 4, ground := Ground.data }, { on := 3, ground := Ground.chain }], guard := none }) rfl (fun KC hKC => ?_) (AllReadyH.cons (o := { dst := some 8, op := Op.alloc 32, type := 0, pos := "l16_choice.go:36", after := #[], guard := none }) rfl (fun KC hKC => ?_) AllReadyH.nil)
            · go_simp
              go_at_call 95
              refine (sk.lists_any S h4 _).mono ?_
              rintro er wr5 ⟨vS8, rfl, oS, hBr5⟩
              have hzr5 : wr3.heap.size ≤ wr5.heap.size := hBr5.size
              replace o3 := o3.grow hBr5
              (try replace oR := oR.grow hBr5)
              replace c1 := vblk_grow c1 hBr5
              replace c2 := vblk_grow c2 hBr5
              replace c4 := vblk_grow c4 hBr5
              replace c6 := vblk_grow c6 hBr5
              (try replace c8 := vblk_grow c8 hBr5)
              replace hB := hB.trans (hBr5.mono (by omega))
              replace hzw := hB.size
              obtain ⟨aS8, nS8, kS8, rfl⟩ := sk.Own.form oS
              refine hKC.out _ _ (⟨c6, (cells7c c1).1, (cells7c c1).2.1, (cells7c c1).2.2.1, (cells7c c1).2.2.2.1, (cells7c c1).2.2.2.2.1, (cells7c c1).2.2.2.2.2.1, (cells7c c1).2.2.2.2.2.2, cells2 c4⟩) (fun hHeld2 => ?_)
              clear hKC KC hHeld
              have hHeld := hHeld2
              clear hHeld2
              (try simp only [Act.put, List.setIfInBounds_toArray, List.set_cons_zero, List.set_cons_succ])
              refine wpAnyH_take (i := 9) (oi := { dst := some 48, op := Op.build 30 #[(0, Operand.tmp 44), (1, Operand.tmp 47)], type := 30, pos := "l16_choice.go:36", after := #[{ on := 5, ground := Ground.data }, { on := 8, ground := Ground.data }], guard := none }) (v := ?_) rfl (by kernel_rfl) (by kernel_rfl) (by kernel_rfl) (fun _ _ _ h => h) (Or.inl ⟨by rfl, ?_⟩) (by assumption) ?_
              rotate_left 1
              · intro w' hSw; (try dsimp only at hSw); go_simp; (try with_reducible rfl)
              (try simp only [Act.put, List.setIfInBounds_toArray, List.set_cons_zero, List.set_cons_succ])
              refine wpAnyH_take (i := 10) (oi := { dst := some 49, op := Op.build 32 #[(0, Operand.tmp 40), (1, Operand.tmp 42), (3, Operand.tmp 48)], type := 32, pos := "l16_choice.go:36", after := #[{ on := 1, ground := Ground.data }, { on := 3, ground := Ground.data }, { on := 9, ground := Ground.data }], guard := none }) (v := ?_) rfl (by kernel_rfl) (by kernel_rfl) (by kernel_rfl) (fun _ _ _ h => h) (Or.inl ⟨by rfl, ?_⟩) (by assumption) ?_
              rotate_left 1
              · intro w' hSw; (try dsimp only at hSw); go_simp; (try with_reducible rfl)
              (try simp only [Act.put, List.setIfInBounds_toArray, List.set_cons_zero, List.set_cons_succ])
              refine wpAnyH_ready (rs := [11]) (by kernel_rfl) (by simp) ?_
              refine AllReadyH.cons (o := { dst := some 8, op := Op.alloc 32, type := 0, pos := "l16_choice.go:36", after := #[], guard := none }) rfl (fun KC hKC => ?_) AllReadyH.nil
              refine step_alloc_v rfl 32 rfl _ zeroCh ?_
              intro b8 wr11 hb8 hwb8 hBr11 c8
              have hzr11 : wr5.heap.size ≤ wr11.heap.size := hBr11.size
              replace o3 := o3.grow hBr11
              (try replace oR := oR.grow hBr11)
              (try replace oS := ownS_grow oS hBr11)
              replace c1 := vblk_grow c1 hBr11
              replace c2 := vblk_grow c2 hBr11
              replace c4 := vblk_grow c4 hBr11
              replace c6 := vblk_grow c6 hBr11
              replace hB := hB.trans (hBr11.mono (by omega))
              replace hzw := hB.size
              refine hKC.out _ _ (⟨c6, (cells7c c1).1, (cells7c c1).2.1, (cells7c c1).2.2.1, (cells7c c1).2.2.2.1, (cells7c c1).2.2.2.2.1, (cells7c c1).2.2.2.2.2.1, (cells7c c1).2.2.2.2.2.2, cells2 c4⟩) (fun hHeld2 => ?_)
              clear hKC KC hHeld
              have hHeld := hHeld2
              clear hHeld2
              (try simp only [Act.put, List.setIfInBounds_toArray, List.set_cons_zero, List.set_cons_succ])
              refine wpAnyH_ready (rs := [12]) (by kernel_rfl) (by simp) ?_
              refine AllReadyH.cons (o := { dst := none, op := Op.store 32 (Operand.tmp 8) (Operand.tmp 49), type := 0, pos := "l16_choice.go:36", after := #[{ on := 11, ground := Ground.data }, { on := 10, ground := Ground.data }, { on := 5, ground := Ground.chain }, { on := 0, ground := Ground.phase }, { on := 1, ground := Ground.phase }, { on := 2, ground := Ground.phase }, { on := 3, ground := Ground.phase }, { on := 4, ground := Ground.phase }, { on := 5, ground := Ground.phase }, { on := 6, ground := Ground.phase }, { on := 7, ground := Ground.phase }, { on := 8, ground := Ground.phase }, { on := 9, ground := Ground.phase }, { on := 10, ground := Ground.phase }, { on := 11, ground := Ground.phase }], guard := none }) rfl (fun KC hKC => ?_) AllReadyH.nil
              refine step_store_v rfl 32 _ _ rfl b8 [.int .i64 K, .slice aN8 nN8 kN8, .slice aU8 nU8 kU8, .int .i64 A, .slice none 0 0, .slice aS8 nS8 kS8, .int .i64 D] rfl rfl sizeCh c8 rfl (by simp [Value.oneCell']) ?_
              intro wr12 hOr12 c8x
              have hzr12 : wr11.heap.size ≤ wr12.heap.size := Nat.le_of_eq hOr12.1.symm
              have hyr12 : wr12.heap.size ≤ wr11.heap.size := Nat.le_of_eq hOr12.1
              replace o3 := o3.only hOr12 c8 (by decide)
              replace c1 := vblk_only c1 hOr12 (by omega)
              replace c2 := vblk_only c2 hOr12 (by omega)
              replace c4 := vblk_only c4 hOr12 (by omega)
              replace c6 := vblk_only c6 hOr12 (by omega)
              replace oR := oR.only hOr12 c8 (by decide) (by decide)
              replace oS := sk.Own.keep oS (fun k h1 h2 => hOr12.2.1 k (by omega)) (Nat.le_of_eq hOr12.1.symm)
              clear c8
              have c8 := c8x
              clear c8x
              replace hB := hB.trans (hOr12.2.2 _ (by omega))
              replace hzw := hB.size
              (try replace hcur := cur_below hcur (hOr12.2.2 (p + 1) (by omega)) (by omega))
              refine hKC.out _ _ (⟨c6, (cells7c c1).1, (cells7c c1).2.1, (cells7c c1).2.2.1, (cells7c c1).2.2.2.1, (cells7c c1).2.2.2.2.1, (cells7c c1).2.2.2.2.2.1, (cells7c c1).2.2.2.2.2.2, cells2 c4⟩) (fun hHeld2 => ?_)
              clear hKC KC hHeld
              have hHeld := hHeld2
              clear hHeld2
              (try simp only [Act.put])
              refine wpAnyH_done (by kernel_rfl) ?_ _
              have rq := (R.out.grow hB).q
              (try clear c10 c11 c12 c13 c14 c15 c16)
              obtain ⟨c10, c11, c12, c13, c14, c15, c16⟩ := cells7c c1
              obtain ⟨c80, c81, c82, c83, c84, c85, c86⟩ := cells7c c8
              have mA : Hid True := trivial
              have mB : Hid True := trivial
              go_wp2_with (first | (clear mA; at_builtin; refine wpList_append_g infoS rfl _ _ 24 rfl Try.underlying24 wr12.heap.size wr12.heap.size _ [] rfl (own_zero encS wr12 wr12.heap.size wr12.heap.size none) (Nat.le_refl _) _ Q rfl rq (by simp; omega) ?_; intro vQ8 wx oq hTq; rw [List.nil_append] at oq; have hBx := hTq.low; have hzx := hBx.size; replace c1 := vblk_grow c1 hBx; replace c2 := vblk_grow c2 hBx; replace c8 := vblk_grow c8 hBx; replace oR := oR.grow hBx; replace oS := ownS_grow oS hBx; obtain ⟨aQ8, nQ8, kQ8, rfl⟩ := oq.slice; replace hB := hB.trans (hBx.mono hB.size); clear c80 c81 c82 c83 c84 c85 c86; obtain ⟨c80, c81, c82, c83, c84, c85, c86⟩ := cells7c c8) | (clear mB; refine wpList_store_cc rfl 24 _ _ rfl b8 4 (.slice aQ8 nQ8 kQ8) rfl rfl rfl szSl c8 (by simp) ?_; intro wy hOy c8x; replace oR := oR.only hOy c8 (by decide) (by decide); replace oS := sk.Own.keep oS (fun k h1 h2 => hOy.2.1 k (by omega)) (Nat.le_of_eq hOy.1.symm); replace oq := oq.only hOy c8 (by decide); replace c2 := vblk_only c2 hOy (by omega); have hzy := Nat.le_of_eq hOy.1; have hzy2 := Nat.le_of_eq hOy.1.symm; replace hB := hB.trans (hOy.2.2 _ (by omega)); clear c8 c80 c81 c82 c83 c84 c85 c86; have c8 : VBlk wy b8 32 [.int .i64 K, .slice aN8 nN8 kN8, .slice aU8 nU8 kU8, .int .i64 A, .slice aQ8 nQ8 kQ8, .slice aS8 nS8 kS8, .int .i64 D] := c8x; clear c8x; obtain ⟨c80, c81, c82, c83, c84, c85, c86⟩ := cells7c c8) | (refine wpList_store_v rfl 32 _ _ rfl b2 [.int .i64 K, .slice aN8 nN8 kN8, .slice aU8 nU8 kU8, .int .i64 A, .slice aQ8 nQ8 kQ8, .slice aS8 nS8 kS8, .int .i64 D] rfl rfl sizeCh c2 rfl (by simp [Value.oneCell']) ?_; intro wz hOz c2x; replace oR := oR.only hOz c2 (by decide) (by decide); replace oS := sk.Own.keep oS (fun k h1 h2 => hOz.2.1 k (by omega)) (Nat.le_of_eq hOz.1.symm); replace oq := oq.only hOz c2 (by decide); have hzz := Nat.le_of_eq hOz.1; have hzz2 := Nat.le_of_eq hOz.1.symm; replace hB := hB.trans (hOz.2.2 _ (by omega))) | (fail))
              exact row_ct (x := .bool true) rfl rfl rfl c2x Try.underlying32 sizeCh rfl (postC_yes (c := ⟨K, ⟨N, U, A⟩, Q, S, D⟩) hyt.out ⟨⟨_, _, _, _, _, _, oR, oq, oS, ⟨by omega, by omega, by omega, by omega, by omega, by omega⟩, by omega, by omega, by omega⟩, Nat.le_refl _⟩ hB)
            refine step_alloc_v rfl 32 rfl _ zeroCh ?_
            intro b8 wr11 hb8 hwb8 hBr11 c8
            have hzr11 : wr3.heap.size ≤ wr11.heap.size := hBr11.size
            replace o3 := o3.grow hBr11
            (try replace oR := oR.grow hBr11)
            (try replace oS := ownS_grow oS hBr11)
            replace c1 := vblk_grow c1 hBr11
            replace c2 := vblk_grow c2 hBr11
            replace c4 := vblk_grow c4 hBr11
            replace c6 := vblk_grow c6 hBr11
            replace hB := hB.trans (hBr11.mono (by omega))
            replace hzw := hB.size
            refine hKC.out _ _ (⟨c6, (cells7c c1).1, (cells7c c1).2.1, (cells7c c1).2.2.1, (cells7c c1).2.2.2.1, (cells7c c1).2.2.2.2.1, (cells7c c1).2.2.2.2.2.1, (cells7c c1).2.2.2.2.2.2, cells2 c4⟩) (fun hHeld2 => ?_)
            clear hKC KC hHeld
            have hHeld := hHeld2
            clear hHeld2
            (try simp only [Act.put, List.setIfInBounds_toArray, List.set_cons_zero, List.set_cons_succ])
            refine wpAnyH_ready (rs := [5]) (by kernel_rfl) (by simp) ?_
            refine AllReadyH.cons (o := { dst := some 44, op := Op.call { callee := Callee.value (Operand.func 95), args := #[Operand.tmp 43], argTypes := #[95] }, type := 28, pos := "l16_choice.go:36", after := #[{ on := 4, ground := Ground.data }, { on := 3, ground := Ground.chain }], guard := none }) rfl (fun KC hKC => ?_) AllReadyH.nil
            go_simp
            go_at_call 95
            refine (sk.lists_any S h4 _).mono ?_
            rintro er wr5 ⟨vS8, rfl, oS, hBr5⟩
            have hzr5 : wr11.heap.size ≤ wr5.heap.size := hBr5.size
            replace o3 := o3.grow hBr5
            (try replace oR := oR.grow hBr5)
            replace c1 := vblk_grow c1 hBr5
            replace c2 := vblk_grow c2 hBr5
            replace c4 := vblk_grow c4 hBr5
            replace c6 := vblk_grow c6 hBr5
            (try replace c8 := vblk_grow c8 hBr5)
            replace hB := hB.trans (hBr5.mono (by omega))
            replace hzw := hB.size
            obtain ⟨aS8, nS8, kS8, rfl⟩ := sk.Own.form oS
            refine hKC.out _ _ (⟨c6, (cells7c c1).1, (cells7c c1).2.1, (cells7c c1).2.2.1, (cells7c c1).2.2.2.1, (cells7c c1).2.2.2.2.1, (cells7c c1).2.2.2.2.2.1, (cells7c c1).2.2.2.2.2.2, cells2 c4⟩) (fun hHeld2 => ?_)
            clear hKC KC hHeld
            have hHeld := hHeld2
            clear hHeld2
            (try simp only [Act.put, List.setIfInBounds_toArray, List.set_cons_zero, List.set_cons_succ])
            refine wpAnyH_take (i := 9) (oi := { dst := some 48, op := Op.build 30 #[(0, Operand.tmp 44), (1, Operand.tmp 47)], type := 30, pos := "l16_choice.go:36", after := #[{ on := 5, ground := Ground.data }, { on := 8, ground := Ground.data }], guard := none }) (v := ?_) rfl (by kernel_rfl) (by kernel_rfl) (by kernel_rfl) (fun _ _ _ h => h) (Or.inl ⟨by rfl, ?_⟩) (by assumption) ?_
            rotate_left 1
            · intro w' hSw; (try dsimp only at hSw); go_simp; (try with_reducible rfl)
            (try simp only [Act.put, List.setIfInBounds_toArray, List.set_cons_zero, List.set_cons_succ])
            refine wpAnyH_take (i := 10) (oi := { dst := some 49, op := Op.build 32 #[(0, Operand.tmp 40), (1, Operand.tmp 42), (3, Operand.tmp 48)], type := 32, pos := "l16_choice.go:36", after := #[{ on := 1, ground := Ground.data }, { on := 3, ground := Ground.data }, { on := 9, ground := Ground.data }], guard := none }) (v := ?_) rfl (by kernel_rfl) (by kernel_rfl) (by kernel_rfl) (fun _ _ _ h => h) (Or.inl ⟨by rfl, ?_⟩) (by assumption) ?_
            rotate_left 1
            · intro w' hSw; (try dsimp only at hSw); go_simp; (try with_reducible rfl)
            (try simp only [Act.put, List.setIfInBounds_toArray, List.set_cons_zero, List.set_cons_succ])
            refine wpAnyH_ready (rs := [12]) (by kernel_rfl) (by simp) ?_
            refine AllReadyH.cons (o := { dst := none, op := Op.store 32 (Operand.tmp 8) (Operand.tmp 49), type := 0, pos := "l16_choice.go:36", after := #[{ on := 11, ground := Ground.data }, { on := 10, ground := Ground.data }, { on := 5, ground := Ground.chain }, { on := 0, ground := Ground.phase }, { on := 1, ground := Ground.phase }, { on := 2, ground := Ground.phase }, { on := 3, ground := Ground.phase }, { on := 4, ground := Ground.phase }, { on := 5, ground := Ground.phase }, { on := 6, ground := Ground.phase }, { on := 7, ground := Ground.phase }, { on := 8, ground := Ground.phase }, { on := 9, ground := Ground.phase }, { on := 10, ground := Ground.phase }, { on := 11, ground := Ground.phase }], guard := none }) rfl (fun KC hKC => ?_) AllReadyH.nil
            refine step_store_v rfl 32 _ _ rfl b8 [.int .i64 K, .slice aN8 nN8 kN8, .slice aU8 nU8 kU8, .int .i64 A, .slice none 0 0, .slice aS8 nS8 kS8, .int .i64 D] rfl rfl sizeCh c8 rfl (by simp [Value.oneCell']) ?_
            intro wr12 hOr12 c8x
            have hzr12 : wr5.heap.size ≤ wr12.heap.size := Nat.le_of_eq hOr12.1.symm
            have hyr12 : wr12.heap.size ≤ wr5.heap.size := Nat.le_of_eq hOr12.1
            replace o3 := o3.only hOr12 c8 (by decide)
            replace c1 := vblk_only c1 hOr12 (by omega)
            replace c2 := vblk_only c2 hOr12 (by omega)
            replace c4 := vblk_only c4 hOr12 (by omega)
            replace c6 := vblk_only c6 hOr12 (by omega)
            replace oR := oR.only hOr12 c8 (by decide) (by decide)
            replace oS := sk.Own.keep oS (fun k h1 h2 => hOr12.2.1 k (by omega)) (Nat.le_of_eq hOr12.1.symm)
            clear c8
            have c8 := c8x
            clear c8x
            replace hB := hB.trans (hOr12.2.2 _ (by omega))
            replace hzw := hB.size
            (try replace hcur := cur_below hcur (hOr12.2.2 (p + 1) (by omega)) (by omega))
            refine hKC.out _ _ (⟨c6, (cells7c c1).1, (cells7c c1).2.1, (cells7c c1).2.2.1, (cells7c c1).2.2.2.1, (cells7c c1).2.2.2.2.1, (cells7c c1).2.2.2.2.2.1, (cells7c c1).2.2.2.2.2.2, cells2 c4⟩) (fun hHeld2 => ?_)
            clear hKC KC hHeld
            have hHeld := hHeld2
            clear hHeld2
            (try simp only [Act.put])
            refine wpAnyH_done (by kernel_rfl) ?_ _
            have rq := (R.out.grow hB).q
            (try clear c10 c11 c12 c13 c14 c15 c16)
            obtain ⟨c10, c11, c12, c13, c14, c15, c16⟩ := cells7c c1
            obtain ⟨c80, c81, c82, c83, c84, c85, c86⟩ := cells7c c8
            have mA : Hid True := trivial
            have mB : Hid True := trivial
            go_wp2_with (first | (clear mA; at_builtin; refine wpList_append_g infoS rfl _ _ 24 rfl Try.underlying24 wr12.heap.size wr12.heap.size _ [] rfl (own_zero encS wr12 wr12.heap.size wr12.heap.size none) (Nat.le_refl _) _ Q rfl rq (by simp; omega) ?_; intro vQ8 wx oq hTq; rw [List.nil_append] at oq; have hBx := hTq.low; have hzx := hBx.size; replace c1 := vblk_grow c1 hBx; replace c2 := vblk_grow c2 hBx; replace c8 := vblk_grow c8 hBx; replace oR := oR.grow hBx; replace oS := ownS_grow oS hBx; obtain ⟨aQ8, nQ8, kQ8, rfl⟩ := oq.slice; replace hB := hB.trans (hBx.mono hB.size); clear c80 c81 c82 c83 c84 c85 c86; obtain ⟨c80, c81, c82, c83, c84, c85, c86⟩ := cells7c c8) | (clear mB; refine wpList_store_cc rfl 24 _ _ rfl b8 4 (.slice aQ8 nQ8 kQ8) rfl rfl rfl szSl c8 (by simp) ?_; intro wy hOy c8x; replace oR := oR.only hOy c8 (by decide) (by decide); replace oS := sk.Own.keep oS (fun k h1 h2 => hOy.2.1 k (by omega)) (Nat.le_of_eq hOy.1.symm); replace oq := oq.only hOy c8 (by decide); replace c2 := vblk_only c2 hOy (by omega); have hzy := Nat.le_of_eq hOy.1; have hzy2 := Nat.le_of_eq hOy.1.symm; replace hB := hB.trans (hOy.2.2 _ (by omega)); clear c8 c80 c81 c82 c83 c84 c85 c86; have c8 : VBlk wy b8 32 [.int .i64 K, .slice aN8 nN8 kN8, .slice aU8 nU8 kU8, .int .i64 A, .slice aQ8 nQ8 kQ8, .slice aS8 nS8 kS8, .int .i64 D] := c8x; clear c8x; obtain ⟨c80, c81, c82, c83, c84, c85, c86⟩ := cells7c c8) | (refine wpList_store_v rfl 32 _ _ rfl b2 [.int .i64 K, .slice aN8 nN8 kN8, .slice aU8 nU8 kU8, .int .i64 A, .slice aQ8 nQ8 kQ8, .slice aS8 nS8 kS8, .int .i64 D] rfl rfl sizeCh c2 rfl (by simp [Value.oneCell']) ?_; intro wz hOz c2x; replace oR := oR.only hOz c2 (by decide) (by decide); replace oS := sk.Own.keep oS (fun k h1 h2 => hOz.2.1 k (by omega)) (Nat.le_of_eq hOz.1.symm); replace oq := oq.only hOz c2 (by decide); have hzz := Nat.le_of_eq hOz.1; have hzz2 := Nat.le_of_eq hOz.1.symm; replace hB := hB.trans (hOz.2.2 _ (by omega))) | (fail))
            exact row_ct (x := .bool true) rfl rfl rfl c2x Try.underlying32 sizeCh rfl (postC_yes (c := ⟨K, ⟨N, U, A⟩, Q, S, D⟩) hyt.out ⟨⟨_, _, _, _, _, _, oR, oq, oS, ⟨by omega, by omega, by omega, by omega, by omega, by omega⟩, by omega, by omega, by omega⟩, Nat.le_refl _⟩ hB)
          refine step_alloc_v rfl 32 rfl _ zeroCh ?_
          intro b8 wr11 hb8 hwb8 hBr11 c8
          have hzr11 : w9.drew.heap.size ≤ wr11.heap.size := hBr11.size
          replace o3 := o3.grow hBr11
          (try replace oR := oR.grow hBr11)
          (try replace oS := ownS_grow oS hBr11)
          replace c1 := vblk_grow c1 hBr11
          replace c2 := vblk_grow c2 hBr11
          replace c4 := vblk_grow c4 hBr11
          replace c6 := vblk_grow c6 hBr11
          replace hB := hB.trans (hBr11.mono (by omega))
          replace hzw := hB.size
          refine hKC.out _ _ (⟨c6, (cells7c c1).1, (cells7c c1).2.1, (cells7c c1).2.2.1, (cells7c c1).2.2.2.1, (cells7c c1).2.2.2.2.1, (cells7c c1).2.2.2.2.2.1, (cells7c c1).2.2.2.2.2.2, cells2 c4⟩) (fun hHeld2 => ?_)
          clear hKC KC hHeld
          have hHeld := hHeld2
          clear hHeld2
          (try simp only [Act.put, List.setIfInBounds_toArray, List.set_cons_zero, List.set_cons_succ])
          refine wpAnyH_ready (rs := [3]) (by kernel_rfl) (by simp) ?_
          refine AllReadyH.cons (o := { dst := some 42, op := Op.call { callee := Callee.value (Operand.func 94), args := #[Operand.tmp 41], argTypes := #[121] }, type := 27, pos := "l16_choice.go:36", after := #[{ on := 2, ground := Ground.data }], guard := none }) rfl (fun KC hKC => ?_) AllReadyH.nil
          go_simp
          go_at_call 94
          refine (ringOf_any ⟨N, U, A⟩ _ _ o3.rd hus.out hNl).mono ?_
          rintro er wr3 ⟨vN8, vU8, rfl, oR, hBr3⟩
          have hzr3 : wr11.heap.size ≤ wr3.heap.size := hBr3.size
          replace o3 := o3.grow hBr3
          (try replace oS := ownS_grow oS hBr3)
          replace c1 := vblk_grow c1 hBr3
          replace c2 := vblk_grow c2 hBr3
          replace c4 := vblk_grow c4 hBr3
          replace c6 := vblk_grow c6 hBr3
          (try replace c8 := vblk_grow c8 hBr3)
          replace hB := hB.trans (hBr3.mono (by omega))
          replace hzw := hB.size
          obtain ⟨aN8, nN8, kN8, rfl⟩ := oR.n.slice
          obtain ⟨aU8, nU8, kU8, rfl⟩ := oR.u.slice
          refine hKC.out _ _ (⟨c6, (cells7c c1).1, (cells7c c1).2.1, (cells7c c1).2.2.1, (cells7c c1).2.2.2.1, (cells7c c1).2.2.2.2.1, (cells7c c1).2.2.2.2.2.1, (cells7c c1).2.2.2.2.2.2, cells2 c4⟩) (fun hHeld2 => ?_)
          clear hKC KC hHeld
          have hHeld := hHeld2
          clear hHeld2
          (try simp only [Act.put, List.setIfInBounds_toArray, List.set_cons_zero, List.set_cons_succ])
          refine wpAnyH_ready (rs := [5]) (by kernel_rfl) (by simp) ?_
          refine AllReadyH.cons (o := { dst := some 44, op := Op.call { callee := Callee.value (Operand.func 95), args := #[Operand.tmp 43], argTypes := #[95] }, type := 28, pos := "l16_choice.go:36", after := #[{ on := 4, ground := Ground.data }, { on := 3, ground := Ground.chain }], guard := none }) rfl (fun KC hKC => ?_) AllReadyH.nil
          go_simp
          go_at_call 95
          refine (sk.lists_any S h4 _).mono ?_
          rintro er wr5 ⟨vS8, rfl, oS, hBr5⟩
          have hzr5 : wr3.heap.size ≤ wr5.heap.size := hBr5.size
          replace o3 := o3.grow hBr5
          (try replace oR := oR.grow hBr5)
          replace c1 := vblk_grow c1 hBr5
          replace c2 := vblk_grow c2 hBr5
          replace c4 := vblk_grow c4 hBr5
          replace c6 := vblk_grow c6 hBr5
          (try replace c8 := vblk_grow c8 hBr5)
          replace hB := hB.trans (hBr5.mono (by omega))
          replace hzw := hB.size
          obtain ⟨aS8, nS8, kS8, rfl⟩ := sk.Own.form oS
          refine hKC.out _ _ (⟨c6, (cells7c c1).1, (cells7c c1).2.1, (cells7c c1).2.2.1, (cells7c c1).2.2.2.1, (cells7c c1).2.2.2.2.1, (cells7c c1).2.2.2.2.2.1, (cells7c c1).2.2.2.2.2.2, cells2 c4⟩) (fun hHeld2 => ?_)
          clear hKC KC hHeld
          have hHeld := hHeld2
          clear hHeld2
          (try simp only [Act.put, List.setIfInBounds_toArray, List.set_cons_zero, List.set_cons_succ])
          refine wpAnyH_take (i := 9) (oi := { dst := some 48, op := Op.build 30 #[(0, Operand.tmp 44), (1, Operand.tmp 47)], type := 30, pos := "l16_choice.go:36", after := #[{ on := 5, ground := Ground.data }, { on := 8, ground := Ground.data }], guard := none }) (v := ?_) rfl (by kernel_rfl) (by kernel_rfl) (by kernel_rfl) (fun _ _ _ h => h) (Or.inl ⟨by rfl, ?_⟩) (by assumption) ?_
          rotate_left 1
          · intro w' hSw; (try dsimp only at hSw); go_simp; (try with_reducible rfl)
          (try simp only [Act.put, List.setIfInBounds_toArray, List.set_cons_zero, List.set_cons_succ])
          refine wpAnyH_take (i := 10) (oi := { dst := some 49, op := Op.build 32 #[(0, Operand.tmp 40), (1, Operand.tmp 42), (3, Operand.tmp 48)], type := 32, pos := "l16_choice.go:36", after := #[{ on := 1, ground := Ground.data }, { on := 3, ground := Ground.data }, { on := 9, ground := Ground.data }], guard := none }) (v := ?_) rfl (by kernel_rfl) (by kernel_rfl) (by kernel_rfl) (fun _ _ _ h => h) (Or.inl ⟨by rfl, ?_⟩) (by assumption) ?_
          rotate_left 1
          · intro w' hSw; (try dsimp only at hSw); go_simp; (try with_reducible rfl)
          (try simp only [Act.put, List.setIfInBounds_toArray, List.set_cons_zero, List.set_cons_succ])
          refine wpAnyH_ready (rs := [12]) (by kernel_rfl) (by simp) ?_
          refine AllReadyH.cons (o := { dst := none, op := Op.store 32 (Operand.tmp 8) (Operand.tmp 49), type := 0, pos := "l16_choice.go:36", after := #[{ on := 11, ground := Ground.data }, { on := 10, ground := Ground.data }, { on := 5, ground := Ground.chain }, { on := 0, ground := Ground.phase }, { on := 1, ground := Ground.phase }, { on := 2, ground := Ground.phase }, { on := 3, ground := Ground.phase }, { on := 4, ground := Ground.phase }, { on := 5, ground := Ground.phase }, { on := 6, ground := Ground.phase }, { on := 7, ground := Ground.phase }, { on := 8, ground := Ground.phase }, { on := 9, ground := Ground.phase }, { on := 10, ground := Ground.phase }, { on := 11, ground := Ground.phase }], guard := none }) rfl (fun KC hKC => ?_) AllReadyH.nil
          refine step_store_v rfl 32 _ _ rfl b8 [.int .i64 K, .slice aN8 nN8 kN8, .slice aU8 nU8 kU8, .int .i64 A, .slice none 0 0, .slice aS8 nS8 kS8, .int .i64 D] rfl rfl sizeCh c8 rfl (by simp [Value.oneCell']) ?_
          intro wr12 hOr12 c8x
          have hzr12 : wr5.heap.size ≤ wr12.heap.size := Nat.le_of_eq hOr12.1.symm
          have hyr12 : wr12.heap.size ≤ wr5.heap.size := Nat.le_of_eq hOr12.1
          replace o3 := o3.only hOr12 c8 (by decide)
          replace c1 := vblk_only c1 hOr12 (by omega)
          replace c2 := vblk_only c2 hOr12 (by omega)
          replace c4 := vblk_only c4 hOr12 (by omega)
          replace c6 := vblk_only c6 hOr12 (by omega)
          replace oR := oR.only hOr12 c8 (by decide) (by decide)
          replace oS := sk.Own.keep oS (fun k h1 h2 => hOr12.2.1 k (by omega)) (Nat.le_of_eq hOr12.1.symm)
          clear c8
          have c8 := c8x
          clear c8x
          replace hB := hB.trans (hOr12.2.2 _ (by omega))
          replace hzw := hB.size
          (try replace hcur := cur_below hcur (hOr12.2.2 (p + 1) (by omega)) (by omega))
          refine hKC.out _ _ (⟨c6, (cells7c c1).1, (cells7c c1).2.1, (cells7c c1).2.2.1, (cells7c c1).2.2.2.1, (cells7c c1).2.2.2.2.1, (cells7c c1).2.2.2.2.2.1, (cells7c c1).2.2.2.2.2.2, cells2 c4⟩) (fun hHeld2 => ?_)
          clear hKC KC hHeld
          have hHeld := hHeld2
          clear hHeld2
          (try simp only [Act.put])
          refine wpAnyH_done (by kernel_rfl) ?_ _
          have rq := (R.out.grow hB).q
          (try clear c10 c11 c12 c13 c14 c15 c16)
          obtain ⟨c10, c11, c12, c13, c14, c15, c16⟩ := cells7c c1
          obtain ⟨c80, c81, c82, c83, c84, c85, c86⟩ := cells7c c8
          have mA : Hid True := trivial
          have mB : Hid True := trivial
          go_wp2_with (first | (clear mA; at_builtin; refine wpList_append_g infoS rfl _ _ 24 rfl Try.underlying24 wr12.heap.size wr12.heap.size _ [] rfl (own_zero encS wr12 wr12.heap.size wr12.heap.size none) (Nat.le_refl _) _ Q rfl rq (by simp; omega) ?_; intro vQ8 wx oq hTq; rw [List.nil_append] at oq; have hBx := hTq.low; have hzx := hBx.size; replace c1 := vblk_grow c1 hBx; replace c2 := vblk_grow c2 hBx; replace c8 := vblk_grow c8 hBx; replace oR := oR.grow hBx; replace oS := ownS_grow oS hBx; obtain ⟨aQ8, nQ8, kQ8, rfl⟩ := oq.slice; replace hB := hB.trans (hBx.mono hB.size); clear c80 c81 c82 c83 c84 c85 c86; obtain ⟨c80, c81, c82, c83, c84, c85, c86⟩ := cells7c c8) | (clear mB; refine wpList_store_cc rfl 24 _ _ rfl b8 4 (.slice aQ8 nQ8 kQ8) rfl rfl rfl szSl c8 (by simp) ?_; intro wy hOy c8x; replace oR := oR.only hOy c8 (by decide) (by decide); replace oS := sk.Own.keep oS (fun k h1 h2 => hOy.2.1 k (by omega)) (Nat.le_of_eq hOy.1.symm); replace oq := oq.only hOy c8 (by decide); replace c2 := vblk_only c2 hOy (by omega); have hzy := Nat.le_of_eq hOy.1; have hzy2 := Nat.le_of_eq hOy.1.symm; replace hB := hB.trans (hOy.2.2 _ (by omega)); clear c8 c80 c81 c82 c83 c84 c85 c86; have c8 : VBlk wy b8 32 [.int .i64 K, .slice aN8 nN8 kN8, .slice aU8 nU8 kU8, .int .i64 A, .slice aQ8 nQ8 kQ8, .slice aS8 nS8 kS8, .int .i64 D] := c8x; clear c8x; obtain ⟨c80, c81, c82, c83, c84, c85, c86⟩ := cells7c c8) | (refine wpList_store_v rfl 32 _ _ rfl b2 [.int .i64 K, .slice aN8 nN8 kN8, .slice aU8 nU8 kU8, .int .i64 A, .slice aQ8 nQ8 kQ8, .slice aS8 nS8 kS8, .int .i64 D] rfl rfl sizeCh c2 rfl (by simp [Value.oneCell']) ?_; intro wz hOz c2x; replace oR := oR.only hOz c2 (by decide) (by decide); replace oS := sk.Own.keep oS (fun k h1 h2 => hOz.2.1 k (by omega)) (Nat.le_of_eq hOz.1.symm); replace oq := oq.only hOz c2 (by decide); have hzz := Nat.le_of_eq hOz.1; have hzz2 := Nat.le_of_eq hOz.1.symm; replace hB := hB.trans (hOz.2.2 _ (by omega))) | (fail))
          exact row_ct (x := .bool true) rfl rfl rfl c2x Try.underlying32 sizeCh rfl (postC_yes (c := ⟨K, ⟨N, U, A⟩, Q, S, D⟩) hyt.out ⟨⟨_, _, _, _, _, _, oR, oq, oS, ⟨by omega, by omega, by omega, by omega, by omega, by omega⟩, by omega, by omega, by omega⟩, Nat.le_refl _⟩ hB)

end Go.Proofs.Ytmnjmghlkiljhaa.rg
