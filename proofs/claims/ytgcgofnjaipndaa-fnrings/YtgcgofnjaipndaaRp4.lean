/- Contracts: the program's ring out of a generic one, and a generic one out of a ring. -/
import Derived.Test.YtgcgofnjaipndaaRp3
namespace Go.Proofs.Ytgcgofnjaipndaa.rg
open Go.ChangeShapes Go.WideShapes Go.ChangeAt Go.RowKit
open Go.Proofs.Ytgcgofnjaipndaa.ce Go.Proofs.Ytgcgofnjaipndaa.ro
set_option linter.unusedVariables false

theorem sizeSeat : (Try.prog.info? 76).map (·.size) = some 2 := by kernel_rfl
theorem zeroSeatL (w : World) : (zeroValue 76).run Try.prog w = .ok (.agg [Value.string ⟨#[]⟩, .bool false].toArray) w := Try.zeroValue76 w
/-- while a ring is made: its variable b3, the answer's b2 -/
structure Mk (w : World) (b2 b3 : Nat) (vN vU : Value) (A : Int) (N : List ByteArray) (U : List Bool) (wr : World) : Prop where
  low : Below w.heap.size w wr
  n : Own encS wr w.heap.size wr.heap.size vN N
  u : Own encB wr w.heap.size wr.heap.size vU U
  v3 : VBlk wr b3 29 [vN, vU, .int .i64 A]
  v2 : VBlk wr b2 29 [.slice none 0 0, .slice none 0 0, .int .i64 0]

set_option maxRecDepth 100000 in
set_option maxHeartbeats 2000000 in
theorem ringOf_any (r : Rg) (sv : Value) (w : World) (h : Rd encSeat w sv (r.N.zip r.U)) (hNU : r.U.length = r.N.length) (hl : r.N.length ≤ 1000000) :
    Calls Try.prog 50 #[.agg #[sv, .int .i64 r.A]] w fun e w' => ∃ vN vU, e = .returned (.agg #[vN, vU, .int .i64 r.A]) ∧ OwnR w' w.heap.size w'.heap.size vN vU r ∧ Below w.heap.size w w' := by
  obtain ⟨N, U, A⟩ := r
  dsimp only at h hNU hl ⊢
  obtain ⟨a, n, cap, rfl⟩ : ∃ a n k, sv = .slice a n k := by obtain ⟨a, cap, e⟩ := h.form; exact ⟨a, _, cap, e⟩
  have hn : n = N.length := h.cap.1.trans (zip_len hNU)
  have R : Hid (Rd encSeat w (.slice a n cap) (N.zip U)) := h
  have HN : Hid (n = N.length) := hn
  have hn2 : n ≤ 1000000 := by omega
  have HU : Hid (U.length = N.length) := hNU
  clear h hn hNU
  have m1 : Hid True := trivial
  have m2 : Hid True := trivial
  have m3 : Hid True := trivial
  go_enter Try.func50, Try.ntmps50
  go_wp2_with (first | (clear m1; refine wpList_box_v rfl 55 _ rfl [.slice a n cap, .int .i64 A] rfl ?_; intro b1 w1 hb1 hw1 hB1 V1; have hz1 := hB1.size) | (clear m2; refine wpList_alloc_v rfl 29 rfl _ zeroRg ?_; intro b2 w2 hb2 hw2 hB2 V2; have hz2 := hB2.size; replace V1 := vblk_grow V1 hB2; obtain ⟨c0, c1⟩ := cells2 V1) | (clear m3; refine wpList_alloc_v rfl 29 rfl _ zeroRg ?_; intro b3 w3 hb3 hw3 hB3 V3; have hz3 := hB3.size; replace V1 := vblk_grow V1 hB3; replace V2 := vblk_grow V2 hB3) | (refine wpList_store_v rfl 29 _ _ rfl b3 [.slice none 0 0, .slice none 0 0, .int .i64 A] rfl rfl sizeRg V3 rfl (by simp [Value.oneCell']) ?_; intro w4 hO4 X3; have hz4 := hO4.1; replace V1 := vblk_only V1 hO4 (by omega); replace V2 := vblk_only V2 hO4 (by omega); clear c0 c1; obtain ⟨c0, c1⟩ := cells2 V1) | (fail))
  have M0 : Hid (Mk w b2 b3 (.slice none 0 0) (.slice none 0 0) A [] [] w4) := ⟨((hB1.trans (hB2.mono hz1)).trans (hB3.mono (by omega))).trans (hO4.2.2 _ (by omega)), own_zero _ _ _ _ _, own_zero _ _ _ _ _, X3, V2⟩
  have hbb : b2 ≠ b3 := by omega
  have hwb : w.heap.size ≤ b3 ∧ w.heap.size ≤ b2 := by omega
  clear hB1 hB2 hB3 hO4 V1 V2 V3 X3 c0 c1 hb1 hw1 hb2 hw2 hb3 hw3 hz1 hz2 hz3 hz4
  go_loopw [12] (fun p wr => ∃ i : Nat, i ≤ N.length ∧ p = .int .i64 i ∧ ∃ vN vU, Hid (Mk w b2 b3 vN vU A (N.take i) (U.take i) wr)) (fun p _ => N.length - (intOf p).toNat)
  case atStart => exact ⟨0, by omega, rfl, _, _, M0⟩
  case round =>
    obtain ⟨i, hi1, rfl, vN, vU, M⟩ := hrel
    obtain ⟨aN, nN, kN, rfl⟩ := M.out.n.slice
    obtain ⟨aU, nU, kU, rfl⟩ := M.out.u.slice
    by_cases hlt : i < N.length
    · have hlz : i < (N.zip U).length := by rw [zip_len HU.out]; exact hlt
      obtain ⟨g, off, rfl, hb, d0, d1⟩ := rdT_cell (R.out.grow M.out.low) i hlz
      rw [List.getElem_zip] at d0 d1
      dsimp only at d0 d1
      have hlU : i < U.length := by have := HU.out; omega
      obtain ⟨z, hz⟩ := hid_ex (N[i])
      obtain ⟨x, hx⟩ := hid_ex (U[i])
      have eN : Hid (N.take i ++ [z] = N.take (i + 1)) := by unfold Hid; rw [List.take_succ_eq_append_getElem hlt, hz.out]
      have eU : Hid (U.take i ++ [x] = U.take (i + 1)) := by unfold Hid; rw [List.take_succ_eq_append_getElem hlU, hx.out]
      rw [hz.out] at d0
      rw [hx.out] at d1
      have hlt' : (i : Int) < (n : Int) := by have := HN.out; omega
      have l1 : (N.take i).length ≤ i := by rw [List.length_take]; omega
      have l2 : (U.take i).length ≤ i := by rw [List.length_take]; omega
      have hb3 := M.out.v3.lt
      clear hlz hz hx
      have m1 : Hid True := trivial
      have m2 : Hid True := trivial
      go_wp2_with (first | (clear m1; refine wpList_alloc_v rfl 76 rfl _ zeroSeatL ?_; intro b5 w5 hb5 hw5 hB5 V5; have hz5 := hB5.size; have lw := M.out.low.size) | (refine wpList_store_v rfl 76 _ _ rfl b5 [.string z, .bool x] rfl rfl sizeSeat V5 rfl (by simp [Value.oneCell']) ?_; intro w6 hO6 V6; have hz6 := Nat.le_of_eq hO6.1.symm; have hy6 := Nat.le_of_eq hO6.1; have hB6 : Below wr.heap.size wr w6 := hB5.trans (hO6.2.2 _ hb5); have v36 := vblk_grow M.out.v3 hB6; have v26 := vblk_grow M.out.v2 hB6; have n6 := M.out.n.grow hB6; have u6 := M.out.u.grow hB6; have low6 := M.out.low.trans (hB6.mono lw); obtain ⟨c0, c1, c2⟩ := cells3 v36; obtain ⟨e0, e1⟩ := cells2 V6) | (clear m2; at_builtin; refine wpList_append_g infoS rfl _ _ 23 rfl Try.underlying23 w.heap.size _ _ (N.take i) rfl (n6.grow ((Below.refl _ _).alloc (Nat.le_refl _) _)) (by simp; omega) _ [z] rfl (rd_new (E := encS) w6 z #[.string z] rfl) (by simp; omega) ?_; intro v7 w7 n7 hT7; have hBa : Below w6.heap.size w6 (w6.alloc (.cells #[.string z] 9)) := (Below.refl _ _).alloc (Nat.le_refl _) _; have v37 := hT7.vblk (vblk_grow v36 hBa) (by decide); have v27 := hT7.vblk (vblk_grow v26 hBa) (by decide); have v57 := hT7.vblk (vblk_grow V6 hBa) (by decide); have u7 := hT7.own (u6.grow hBa) (by decide); have low7 := (low6.trans (hBa.mono (by omega))).trans hT7.low; have hz7 := hT7.low.size; have hza := hBa.size; rw [eN.out] at n7; obtain ⟨a7, n7', k7, rfl⟩ := n7.slice) | (refine wpList_store_ss rfl _ _ rfl b3 0 a7 n7' k7 rfl rfl v37 (by simp) ?_; intro w8 hO8 v38; have hz8 := Nat.le_of_eq hO8.1.symm; have hy8 := Nat.le_of_eq hO8.1; have n8 := n7.only hO8 v37 (by decide); have u8 := u7.only hO8 v37 (by decide); have v28 := vblk_only v27 hO8 hbb; have v58 := vblk_only v57 hO8 (by omega); have low8 := low7.trans (hO8.2.2 _ hwb.1); clear c0 c1 c2 e0 e1; obtain ⟨c0, c1, c2⟩ := cells3 v38; obtain ⟨e0, e1⟩ := cells2 v58) | (at_builtin; refine wpList_append_g infoB rfl _ _ 24 rfl Try.underlying24 w.heap.size _ _ (U.take i) rfl (u8.grow ((Below.refl _ _).alloc (Nat.le_refl _) _)) (by simp; omega) _ [x] rfl (rd_new (E := encB) w8 x #[.bool x] rfl) (by simp; omega) ?_; intro v9 w9 u9 hT9; have hBb : Below w8.heap.size w8 (w8.alloc (.cells #[.bool x] 4)) := (Below.refl _ _).alloc (Nat.le_refl _) _; have v39 := hT9.vblk (vblk_grow v38 hBb) (by decide); have v29 := hT9.vblk (vblk_grow v28 hBb) (by decide); have n9 := hT9.own (n8.grow hBb) (by decide); have low9 := (low8.trans (hBb.mono (by omega))).trans hT9.low; rw [eU.out] at u9; obtain ⟨a9, n9', k9, rfl⟩ := u9.slice) | (refine wpList_store_bs rfl _ _ rfl b3 1 a9 n9' k9 rfl rfl v39 (by simp) ?_; intro wX hOX v3X; have nX := n9.only hOX v39 (by decide); have uX := u9.only hOX v39 (by decide); have v2X := vblk_only v29 hOX hbb; have lowX := low9.trans (hOX.2.2 _ hwb.1)) | (fail))
      go_roundw
      case rel => exact ⟨i + 1, by omega, by go_num, _, _, ⟨lowX, nX.top, uX.top, v3X, v2X⟩⟩
      case measure => simp [intOf]; omega
    · have hlt' : ¬ (i : Int) < (n : Int) := by have := HN.out; omega
      have M2 := M.out
      rw [List.take_of_length_le (by omega), List.take_of_length_le (by have := HU.out; omega)] at M2
      obtain ⟨c0, c1, c2⟩ := cells3 M2.v3
      have v2 := M2.v2
      clear M
      go_wp2_with (first | (refine wpList_store_v rfl 29 _ _ rfl b2 [.slice aN nN kN, .slice aU nU kU, .int .i64 A] rfl rfl sizeRg v2 rfl (by simp [Value.oneCell']) ?_; intro w9 hO9 V9) | (fail))
      exact row_retv rfl rfl V9 Try.underlying29 sizeRg rfl ⟨_, _, rfl, ⟨(M2.n.only hO9 v2 (by decide)).top, (M2.u.only hO9 v2 (by decide)).top⟩, M2.low.trans (hO9.2.2 _ hwb.2)⟩
end Go.Proofs.Ytgcgofnjaipndaa.rg
