/- Texts laid together: Vb1 Wb1. -/
import Derived.Test.YtaabmkhckbndgaaGreatDoorCa1
import Derived.Test.YtaabmkhckbndgaaGreatDoorWr1
import Derived.Laws.DeepStrings4
/- Contracts of the program: the number of a verb's word; texts cut loose. -/
namespace Go.Proofs.YtaabmkhckbndgaaGreatDoor.cm
open Go.ChangeShapes Go.WideShapes Go.ChangeAt Go.RowKit
open Go.Proofs.YtaabmkhckbndgaaGreatDoor.ce Go.Proofs.YtaabmkhckbndgaaGreatDoor.ro Go.Proofs.YtaabmkhckbndgaaGreatDoor.rg
set_option linter.unusedVariables false

theorem vws_at {i : Nat} (h0 : 1 ≤ i) (h1 : i ≤ 13) : vws[i]'(by show i < 14; omega) = tx (vw i) := by
  obtain ⟨j, rfl⟩ : ∃ j, i = j + 1 := ⟨i - 1, by omega⟩
  unfold vw
  have : (((j + 1 : Nat) : Int) - 1).toNat = j := by omega
  rw [this, List.getElem?_eq_getElem (show j < verbs.length by show j < 13; omega)]
  simp [vws, vtx]
theorem verb_none {l : List UInt8} (h : ∀ i : Nat, 1 ≤ i → i ≤ 13 → vw i ≠ l) : verbOf l = 0 := by
  by_cases h0 : verbOf l = 0
  · exact h0
  · obtain ⟨a, b, c⟩ := verbOf_pos h0
    obtain ⟨k, hk⟩ : ∃ k : Nat, verbOf l = k := ⟨(verbOf l).toNat, by omega⟩
    rw [hk] at a b c
    exact absurd c (h k (by omega) (by omega))
set_option maxRecDepth 10000 in
set_option maxHeartbeats 1000000 in
theorem verbOf_any (s : ByteArray) (w : World) (en : EnvW w) : Calls Tryz.prog 116 #[.string s] w fun e w' => e = .returned (.int .i64 (verbOf (bs s))) ∧ w' = w := by
  have EN : Hid (EnvW w) := en
  clear en
  obtain ⟨y, hy⟩ := hid_ex (verbOf (bs s))
  rw [hy.out]
  go_enter Tryz.func116, Tryz.ntmps116
  go_wp2
  go_loop [3] (fun p => ∃ i : Nat, p = .int .i64 i ∧ 1 ≤ i ∧ i ≤ 14 ∧ Hid (∀ j : Nat, 1 ≤ j → j < i → vw j ≠ bs s)) (fun p => 14 - (intOf p).toNat)
  case atStart => exact ⟨1, rfl, by omega, by omega, fun j h1 h2 => by omega⟩
  case round =>
    obtain ⟨i, rfl, h1, h2, hno⟩ := hrel
    by_cases hlt : i ≤ 13
    · have hlt' : (i : Int) ≤ 13 := by omega
      have hl14 : (i : Int) < 14 := by omega
      have dv := EN.out.vw i (by show i < 14; omega)
      rw [vws_at h1 hlt] at dv
      by_cases he : vw i = bs s
      · have hb : ((tx (vw i)).toList == s.toList) = true := by rw [tx_eq, decide_eq_true he]
        have ey : y = i := by rw [← hy.out, ← he]; exact verbOf_vw (by omega) (by omega)
        subst ey
        clear he
        go_wp2
        go_ret
        exact ⟨rfl, rfl⟩
      · have hb : ((tx (vw i)).toList == s.toList) = false := by rw [tx_eq, decide_eq_false he]
        have hno2 : Hid (∀ j : Nat, 1 ≤ j → j < i + 1 → vw j ≠ bs s) := fun j a b => by
          by_cases e : j = i
          · rw [e]; exact he
          · exact hno.out j a (by omega)
        clear he
        go_wp2
        go_round
        case rel => exact ⟨i + 1, by go_num, by omega, by omega, hno2⟩
        case measure => simp [intOf]; omega
    · have hlt' : ¬ (i : Int) ≤ 13 := by omega
      have ey : y = 0 := by rw [← hy.out]; exact verb_none fun j a b => hno.out j a (by omega)
      subst ey
      go_wp2
      go_ret
      exact ⟨rfl, rfl⟩
end Go.Proofs.YtaabmkhckbndgaaGreatDoor.cm
/- Contracts of the program: texts cut loose, a line with the bytes behind it. -/
namespace Go.Proofs.YtaabmkhckbndgaaGreatDoor.cm
open Go.ChangeShapes Go.WideShapes Go.ChangeAt Go.RowKit
open Go.Proofs.YtaabmkhckbndgaaGreatDoor.ce Go.Proofs.YtaabmkhckbndgaaGreatDoor.ro Go.Proofs.YtaabmkhckbndgaaGreatDoor.rg
set_option linter.unusedVariables false

theorem clone_is (s : ByteArray) (w : World) (hs : s.size ≤ 1048576) : Calls Tryz.prog 177 #[.string s] w fun e w' => e = .returned (.string s) ∧ Below w.heap.size w w' := by
  go_enter Tryz.func177, Tryz.ntmps177
  go_wp2_with (first | (go_at_call 203; refine (Tryz.stringslite_Clone s _ (by omega)).mono ?_; rintro e w2 ⟨rfl, hB2⟩) | (fail))
  go_ret
  exact ⟨rfl, hB2⟩
set_option maxRecDepth 100000 in
set_option maxHeartbeats 1000000 in
theorem cutLoose_any (V : Int) (N : ByteArray) (F U : Int) (B : ByteArray) (C D : Int) (Q : Bool) (hN : N.size ≤ 1048576) (hB : B.size ≤ 1048576) (w : World) :
    Calls Tryz.prog 118 #[.agg #[.int .i64 V, .string N, .int .i64 F, .int .i64 U, .string B, .int .i64 C, .int .i64 D, .bool Q]] w fun e w' => e = .returned (.agg #[.int .i64 V, .string N, .int .i64 F, .int .i64 U, .string B, .int .i64 C, .int .i64 D, .bool Q]) ∧ Below w.heap.size w w' := by
  have m1 : Hid True := trivial
  have m2 : Hid True := trivial
  go_enter Tryz.func118, Tryz.ntmps118
  go_wp2_with (first | (refine wpList_box_v rfl 25 _ rfl [.int .i64 V, .string N, .int .i64 F, .int .i64 U, .string B, .int .i64 C, .int .i64 D, .bool Q] rfl ?_; intro b1 w1 hb1 hw1 hB1 V1; have hz1 := hB1.size) | (refine wpList_alloc_v rfl 25 rfl _ zeroCm ?_; intro b2 w2 hb2 hw2 hB2 V2; have hz2 := hB2.size; have V1b := vblk_grow V1 hB2; have l1 := V1.lt; have c1 := V1b.cell 1 (by simp)) | (clear m1; go_at_call 177; refine (clone_is N _ hN).mono ?_; rintro e w3 ⟨rfl, hB3⟩; have hz3 := hB3.size; have V1c := vblk_grow V1b hB3; have V2c := vblk_grow V2 hB3; have q1 := V1c.cell 1 (by simp); have f1 := V1c.frozen 1; have V1d : VBlk (w3.setCell ⟨b1, 1, none⟩ (.string N)) b1 25 [.int .i64 V, .string N, .int .i64 F, .int .i64 U, .string B, .int .i64 C, .int .i64 D, .bool Q] := V1c.set 1 (.string N); have V2d := vblk_only V2c (only_set w3 b1 1 (.string N)) (by omega); have bd := (only_set w3 b1 1 (.string N)).2.2 w.heap.size hb1; have sd : (w3.setCell ⟨b1, 1, none⟩ (.string N)).heap.size = w3.heap.size := (only_set w3 b1 1 (.string N)).1; have c4 := V1d.cell 4 (by simp)) | (clear m2; go_at_call 177; refine (clone_is B _ hB).mono ?_; rintro e w4 ⟨rfl, hB4⟩; have hz4 := hB4.size; have V1e := vblk_grow V1d hB4; have V2e := vblk_grow V2d hB4; have q4 := V1e.cell 4 (by simp); have f4 := V1e.frozen 4; have V1f : VBlk (w4.setCell ⟨b1, 4, none⟩ (.string B)) b1 25 [.int .i64 V, .string N, .int .i64 F, .int .i64 U, .string B, .int .i64 C, .int .i64 D, .bool Q] := V1e.set 4 (.string B); have V2f := vblk_only V2e (only_set w4 b1 4 (.string B)) (by omega); have bf := (only_set w4 b1 4 (.string B)).2.2 w.heap.size hb1) | (refine wpList_load_r rfl 25 _ rfl b1 0 [.int .i64 V, .string N, .int .i64 F, .int .i64 U, .string B, .int .i64 C, .int .i64 D, .bool Q] rfl _ Tryz.underlying25 rfl sizeCm V1f.range ?_) | (refine wpList_store_v rfl 25 _ _ rfl b2 [.int .i64 V, .string N, .int .i64 F, .int .i64 U, .string B, .int .i64 C, .int .i64 D, .bool Q] rfl rfl sizeCm V2f rfl (oneCs V N F U B C D Q) ?_; intro w9 hO9 V9) | (fail))
  exact row_retv rfl rfl V9 Tryz.underlying25 sizeCm rfl ⟨rfl, (((((hB1.trans (hB2.mono hz1)).trans (hB3.mono (by omega))).trans bd).trans (hB4.mono (by rw [sd]; omega))).trans bf).trans (hO9.2.2 _ (by omega))⟩
theorem one_byte {s : ByteArray} {i : Nat} (h : i < s.size) : ((s.extract i (i + 1)).toList == [10]) = decide (s[i] = 10) := by
  have e : (s.extract i (i + 1)).toList = [s[i]] := by
    rw [bs_toList, bs_extract, show i + 1 - i = 1 by omega]
    have hj : i < (bs s).length := by rw [bs_len]; exact h
    rw [List.drop_eq_getElem_cons hj, List.take_succ_cons, List.take_zero]
    rfl
  rw [e]
  by_cases hq : s[i] = 10
  · rw [decide_eq_true hq, hq]; rfl
  · rw [decide_eq_false hq]; simp; exact hq
/-- what a right line is with the bytes behind it -/
noncomputable def withF (c : Cm) (s : ByteArray) (bh k : Nat) : Cm × Int × Int := if s.size ≤ bh + k then (Cm.zero, 0, 1) else if (bs s)[bh + k]? ≠ some 10 then (Cm.zero, bh, 3) else (⟨c.V, c.N, c.F, c.U, s.extract bh (bh + k), c.C, c.D, c.Q⟩, (bh : Int) + k + 1, 0)
set_option maxRecDepth 100000 in
set_option maxHeartbeats 1000000 in
theorem withBytes_any (V : Int) (N : ByteArray) (F U C D : Int) (Q : Bool) (s : ByteArray) (bh k : Nat) (hN : N.size ≤ 1048576) (hs : s.size ≤ 1048576) (hb : bh ≤ s.size) (hk : k ≤ 64) (w : World) (X : Cm × Int × Int) (hX : Hid (withF ⟨V, N, F, U, emp, C, D, Q⟩ s bh k = X)) :
    Calls Tryz.prog 119 #[.agg #[.int .i64 V, .string N, .int .i64 F, .int .i64 U, .string emp, .int .i64 C, .int .i64 D, .bool Q], .string s, .int .i64 bh, .int .i64 k] w fun e w' => PostA X w e w' := by
  obtain ⟨st, hst⟩ := hid_ex (bh + k)
  have ew : IntKind.i64.wrap ((bh : Int) + (k : Int)) = (st : Int) := by rw [IntKind.wrap_i64]; have := hst.out; omega
  have hX2 := hX.out
  unfold withF at hX2
  rw [hst.out] at hX2
  clear hX
  by_cases h1 : s.size ≤ st
  · rw [if_pos h1] at hX2
    have h1' : (s.size : Int) ≤ (st : Int) := by omega
    subst hX2
    go_enter Tryz.func119, Tryz.ntmps119
    go_wp2_with (first | (refine wpList_box_v rfl 25 _ rfl [.int .i64 V, .string N, .int .i64 F, .int .i64 U, .string emp, .int .i64 C, .int .i64 D, .bool Q] rfl ?_; intro b4 w1 hb4 hw4 hB1 V4; have hz1 := hB1.size; have l4 := V4.lt) | (refine wpList_alloc_v rfl 25 rfl _ zeroCm ?_; intro b8 w2 hb8 hw8 hB2 V8; have hz2 := hB2.size; have V4b := vblk_grow V4 hB2) | (refine wpList_store_v rfl 25 _ _ rfl b8 [.int .i64 0, .string ⟨#[]⟩, .int .i64 0, .int .i64 0, .string ⟨#[]⟩, .int .i64 0, .int .i64 0, .bool false] rfl rfl sizeCm V8 rfl (oneCs 0 ⟨#[]⟩ 0 0 ⟨#[]⟩ 0 0 false) ?_; intro w9 hO9 V9) | (fail))
    exact row_ctt rfl rfl rfl rfl V9 Tryz.underlying25 sizeCm rfl ⟨rfl, (hB1.trans (hB2.mono hz1)).trans (hO9.2.2 _ (by omega))⟩
  · rw [if_neg h1] at hX2
    have h1' : ¬ (s.size : Int) ≤ (st : Int) := by omega
    have h2 : st < s.size := by omega
    have hget : (bs s)[st]? = some s[st] := by rw [List.getElem?_eq_getElem (by rw [bs_len]; exact h2)]; rfl
    rw [hget] at hX2
    have ew1 : IntKind.i64.wrap ((st : Int) + 1) = (st : Int) + 1 := by rw [IntKind.wrap_i64]; omega
    have hob := one_byte h2
    have a1 : (st : Int) ≤ (st : Int) + 1 := by omega
    have a2 : (st : Int) + 1 ≤ (s.size : Int) := by omega
    by_cases h10 : s[st] = 10
    · rw [decide_eq_true h10] at hob
      rw [if_neg (by rw [h10]; simp)] at hX2
      obtain ⟨z, hz⟩ := hid_ex (s.extract bh st)
      have hzx : s.extract bh st = z := hz.out
      rw [hzx] at hX2
      have hzs : z.size ≤ 1048576 := by rw [← hz.out, ByteArray.size_extract]; omega
      have a3 : (bh : Int) ≤ (st : Int) := by have := hst.out; omega
      have a4 : (st : Int) ≤ (s.size : Int) := by omega
      have a5 : Hid ((bh : Int) + k + 1 = (st : Int) + 1) := by have := hst.out; unfold Hid; omega
      rw [a5.out] at hX2
      subst hX2
      clear h10 hget hz
      have m1 : Hid True := trivial
      go_enter Tryz.func119, Tryz.ntmps119
      go_wp2_with (first | (refine wpList_box_v rfl 25 _ rfl [.int .i64 V, .string N, .int .i64 F, .int .i64 U, .string emp, .int .i64 C, .int .i64 D, .bool Q] rfl ?_; intro b4 w1 hb4 hw4 hB1 V4; have hz1 := hB1.size; have l4 := V4.lt) | (refine wpList_alloc_v rfl 25 rfl _ zeroCm ?_; intro b8 w2 hb8 hw8 hB2 V8; have hz2 := hB2.size; have V4b := vblk_grow V4 hB2; have f4 := V4b.frozen 4; have c4 := V4b.cell 4 (by simp); have V4n : VBlk (w2.setCell ⟨b4, 4, none⟩ (.string z)) b4 25 [.int .i64 V, .string N, .int .i64 F, .int .i64 U, .string z, .int .i64 C, .int .i64 D, .bool Q] := V4b.set 4 (.string z); have V8n := vblk_only V8 (only_set w2 b4 4 (.string z)) (by omega); have bn := (only_set w2 b4 4 (.string z)).2.2 w.heap.size hb4; have sn : (w2.setCell ⟨b4, 4, none⟩ (.string z)).heap.size = w2.heap.size := (only_set w2 b4 4 (.string z)).1) | (refine wpList_load_r rfl 25 _ rfl b4 0 [.int .i64 V, .string N, .int .i64 F, .int .i64 U, .string z, .int .i64 C, .int .i64 D, .bool Q] rfl _ Tryz.underlying25 rfl sizeCm V4n.range ?_) | (go_at_call 118; refine (cutLoose_any V N F U z C D Q hN hzs _).mono ?_; rintro e w3 ⟨rfl, hB3⟩; have V8c := vblk_grow V8n hB3) | (refine wpList_store_v rfl 25 _ _ rfl b8 [.int .i64 V, .string N, .int .i64 F, .int .i64 U, .string z, .int .i64 C, .int .i64 D, .bool Q] rfl rfl sizeCm V8c rfl (oneCs V N F U z C D Q) ?_; intro w9 hO9 V9) | (fail))
      exact row_ctt rfl rfl rfl rfl V9 Tryz.underlying25 sizeCm rfl ⟨rfl, (((hB1.trans (hB2.mono hz1)).trans bn).trans (hB3.mono (by rw [sn]; omega))).trans (hO9.2.2 _ (by omega))⟩
    · rw [decide_eq_false h10] at hob
      rw [if_pos (by simp; exact h10)] at hX2
      subst hX2
      clear h10 hget
      go_enter Tryz.func119, Tryz.ntmps119
      go_wp2_with (first | (refine wpList_box_v rfl 25 _ rfl [.int .i64 V, .string N, .int .i64 F, .int .i64 U, .string emp, .int .i64 C, .int .i64 D, .bool Q] rfl ?_; intro b4 w1 hb4 hw4 hB1 V4; have hz1 := hB1.size; have l4 := V4.lt) | (refine wpList_alloc_v rfl 25 rfl _ zeroCm ?_; intro b8 w2 hb8 hw8 hB2 V8; have hz2 := hB2.size; have V4b := vblk_grow V4 hB2) | (refine wpList_store_v rfl 25 _ _ rfl b8 [.int .i64 0, .string ⟨#[]⟩, .int .i64 0, .int .i64 0, .string ⟨#[]⟩, .int .i64 0, .int .i64 0, .bool false] rfl rfl sizeCm V8 rfl (oneCs 0 ⟨#[]⟩ 0 0 ⟨#[]⟩ 0 0 false) ?_; intro w9 hO9 V9) | (fail))
      exact row_ctt rfl rfl rfl rfl V9 Tryz.underlying25 sizeCm rfl ⟨rfl, (hB1.trans (hB2.mono hz1)).trans (hO9.2.2 _ (by omega))⟩
end Go.Proofs.YtaabmkhckbndgaaGreatDoor.cm
