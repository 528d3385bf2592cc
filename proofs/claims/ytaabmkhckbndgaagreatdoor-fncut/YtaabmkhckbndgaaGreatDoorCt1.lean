/- Contracts: what stands at a place, the program's. -/
import Derived.Test.YtaabmkhckbndgaaGreatDoorFc1
namespace Go.Proofs.YtaabmkhckbndgaaGreatDoor.cm
open Go.ChangeShapes Go.WideShapes Go.ChangeAt Go.RowKit
open Go.Proofs.YtaabmkhckbndgaaGreatDoor.ce Go.Proofs.YtaabmkhckbndgaaGreatDoor.ro Go.Proofs.YtaabmkhckbndgaaGreatDoor.rg
set_option linter.unusedVariables false

theorem fc_take {l : List UInt8} : 0 ≤ (fcF l).2.1 ∧ (fcF l).2.1 ≤ l.length := by
  unfold fcF
  have h := cmd_codes (t := l) (c := (cmdOf l).1) (m := (cmdOf l).2.1) (k := (cmdOf l).2.2) rfl
  refine ⟨by show (0 : Int) ≤ ((cmdOf l).2.1 : Int); omega, ?_⟩
  show ((cmdOf l).2.1 : Int) ≤ l.length
  by_cases h1 : (cmdOf l).2.2 = 1
  · rw [h.2.2.1 h1]; omega
  · have := h.2.2.2 h1; omega
set_option maxRecDepth 100000 in
set_option maxHeartbeats 2000000 in
theorem implCmdAt_any (s : ByteArray) (p : Int) (hs : s.size ≤ 1048576) (w : World) (en : EnvR w) :
    Calls Tryz.prog 13 #[.string s, .int .i64 p] w fun e w' => PostA (atF s p) w e w' := by
  have EN : Hid (EnvR w) := en
  clear en
  obtain ⟨X, hX⟩ := hid_ex (atF s p)
  rw [hX.out]
  have m1 : Hid True := trivial
  have m2 : Hid True := trivial
  by_cases hin : 0 ≤ p ∧ p ≤ s.size
  · obtain ⟨p, rfl⟩ : ∃ n : Nat, p = n := ⟨p.toNat, by omega⟩
    have hp : p ≤ s.size := by omega
    have hd : (decide ((0 : Int) ≤ (p : Int)) && decide ((p : Int) ≤ (s.size : Int))) = true := by simp; exact hp
    have hp1 : (p : Int) ≤ (s.size : Int) := by omega
    have hXe := hX.out
    rw [atF_nat hp] at hXe
    obtain ⟨q, hq⟩ := hid_ex (s.extract p s.size)
    have hqe : s.extract p s.size = q := hq.out
    have hqb : Hid (bs q = (bs s).drop p) := by
      unfold Hid
      rw [← hq.out, bs_extract, List.take_of_length_le (by rw [List.length_drop, bs_len]; omega)]
    have hqs : q.size ≤ 1048576 := by rw [← hq.out, ByteArray.size_extract]; omega
    have hql : Hid (q.size = s.size - p) := by unfold Hid; rw [← hq.out, ByteArray.size_extract]; omega
    obtain ⟨⟨⟨V, N, F, U, B, C, D, Q⟩, T, K⟩, hY⟩ := hid_ex (fcF (bs q))
    have ht := fc_take (l := bs q)
    rw [hY.out, bs_len] at ht
    have hT0 : 0 ≤ T := ht.1
    have hT1 : T ≤ q.size := ht.2
    have hout : Hid (X = (⟨V, N, F, U, B, C, D, Q⟩, (p : Int) + T, K)) := by
      unfold Hid
      have := hY.out
      unfold fcF at this
      rw [← hXe, ← hqb.out]
      simp only [Prod.mk.injEq] at this ⊢
      exact ⟨this.1, by rw [this.2.1], this.2.2⟩
    have ew : IntKind.i64.wrap ((p : Int) + T) = (p : Int) + T := by rw [IntKind.wrap_i64]; have := hql.out; omega
    clear hX hXe hin ht hq
    go_enter Tryz.func13, Tryz.ntmps13
    go_wp2_with (first | (clear m1; refine wpList_alloc_v rfl 25 rfl _ zeroCm ?_; intro b4 w1 hb4 hw4 hB1 V4; have hz1 := hB1.size) | (go_at_call 63; refine (within_is _ _ _ true hd _).mono ?_; rintro er wq ⟨rfl, hq⟩; subst wq) | (go_at_call 64; refine (firstCmd_any q hqs _ (EN.out.grow hB1) _ hY).mono ?_; rintro er w2 ⟨rfl, hB2⟩; dsimp only [csCm]; have hz2 := hB2.size; have V4b := vblk_grow V4 hB2) | (clear m2; refine wpList_alloc_v rfl 25 rfl _ zeroCm ?_; intro b7 w3 hb7 hw7 hB3 V7; have hz3 := hB3.size; have V4c := vblk_grow V4b hB3) | (refine wpList_store_v rfl 25 _ _ rfl b7 [.int .i64 V, .string N, .int .i64 F, .int .i64 U, .string B, .int .i64 C, .int .i64 D, .bool Q] rfl rfl sizeCm V7 rfl (oneCs V N F U B C D Q) ?_; intro w5 hO5 V5; have V4d := vblk_only V4c hO5 (by have := V4b.lt; omega)) | (refine wpList_load_r rfl 25 _ rfl b7 0 [.int .i64 V, .string N, .int .i64 F, .int .i64 U, .string B, .int .i64 C, .int .i64 D, .bool Q] rfl _ Tryz.underlying25 rfl sizeCm V5.range ?_) | (refine wpList_store_v rfl 25 _ _ rfl b4 [.int .i64 V, .string N, .int .i64 F, .int .i64 U, .string B, .int .i64 C, .int .i64 D, .bool Q] rfl rfl sizeCm V4d rfl (oneCs V N F U B C D Q) ?_; intro w9 hO9 V9) | (fail))
    exact row_ctt rfl rfl rfl rfl V9 Tryz.underlying25 sizeCm rfl ⟨by rw [hout.out]; rfl, (((hB1.trans (hB2.mono hz1)).trans (hB3.mono (by omega))).trans (hO5.2.2 _ (by omega))).trans (hO9.2.2 _ hb4)⟩
  · have hd : (decide ((0 : Int) ≤ p) && decide (p ≤ (s.size : Int))) = false := by
      by_cases h0 : 0 ≤ p
      · rw [decide_eq_false (show ¬ p ≤ (s.size : Int) from fun q => hin ⟨h0, q⟩), Bool.and_false]
      · rw [decide_eq_false h0, Bool.false_and]
    have hout : Hid (X = (Cm.zero, -1, -1)) := hX.out.symm.trans (atF_out hin)
    clear hX hin
    go_enter Tryz.func13, Tryz.ntmps13
    go_wp2_with (first | (clear m1; refine wpList_alloc_v rfl 25 rfl _ zeroCm ?_; intro b4 w1 hb4 hw4 hB1 V4; have hz1 := hB1.size) | (go_at_call 63; refine (within_is _ _ _ false hd _).mono ?_; rintro er wq ⟨rfl, hq⟩; subst wq) | (refine wpList_store_v rfl 25 _ _ rfl b4 [.int .i64 0, .string ⟨#[]⟩, .int .i64 0, .int .i64 0, .string ⟨#[]⟩, .int .i64 0, .int .i64 0, .bool false] rfl rfl sizeCm V4 rfl (oneCs 0 ⟨#[]⟩ 0 0 ⟨#[]⟩ 0 0 false) ?_; intro w9 hO9 V9) | (fail))
    exact row_ctt rfl rfl rfl rfl V9 Tryz.underlying25 sizeCm rfl ⟨by rw [hout.out]; rfl, hB1.trans (hO9.2.2 _ hb4)⟩
end Go.Proofs.YtaabmkhckbndgaaGreatDoor.cm
