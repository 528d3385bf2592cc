/- What the laws of chapter 12 draw: a reply, and a text of replies. -/
import Derived.Test.YtaabmkhckbndgaaGreatDoorMg32
import Derived.Test.YtaabmkhckbndgaaGreatDoorDr2
import Derived.Test.YtaabmkhckbndgaaGreatDoorMg20
import Derived.Test.YtaabmkhckbndgaaGreatDoorMg17
import Derived.Test.YtaabmkhckbndgaaGreatDoorDe5
import Derived.Lib.SmallJoins
import Derived.Deep.Slices
import Derived.Deep.RegionHeld3
import Derived.BigQuiet
import Derived.Deep.DeepCutAuto
import Derived.Deep.CutBlock
namespace Go.Proofs.YtaabmkhckbndgaaGreatDoor.rg
open Go.ChangeShapes Go.WideShapes Go.ChangeAt Go.RowKit
open Go.Deep Go.Joins
open Go.Proofs.YtaabmkhckbndgaaGreatDoor.ce Go.Proofs.YtaabmkhckbndgaaGreatDoor.ro Go.Proofs.YtaabmkhckbndgaaGreatDoor.draw Go.Proofs.YtaabmkhckbndgaaGreatDoor.cm
set_option linter.unusedVariables false

theorem shR_small (r : Rp) : (shRX r).size ≤ 300 := by
  unfold shRX
  split
  · next h =>
    have ok := repB_iff.1 h
    have h1 := lineR_len ok
    have h2 : (tailR r).length ≤ 65 := by
      unfold tailR
      split
      · next h5 =>
        have := ok.b1
        rw [List.length_append, bs_len]
        simp; omega
      · simp
    show (showR r).toArray.size ≤ 300
    unfold showR
    simp; omega
  · decide
theorem drawReplyOk_any (w : World) (a0 : Option Addr) (len cap : Nat) (hcode : CodeAt w a0 len) : Calls Tryz.prog 75 #[.slice a0 len cap] w fun e w' => ∃ (K : Int) (N : ByteArray) (F : Int) (B : ByteArray) (C M : Int), e = .returned (.agg #[.int .i64 K, .string N, .int .i64 F, .string B, .int .i64 C, .int .i64 M]) ∧ Below w.heap.size w w' ∧ N.size ≤ 4000 ∧ B.size ≤ 4000 := by
  have HC : Hid (CodeAt w a0 len) := hcode
  clear hcode
  go_enter Tryz.func75, Tryz.ntmps75
  go_wp2_with (first | (refine wpList_alloc_v rfl 42 rfl _ zeroRp ?_; intro b1 w1 hb1 hw1 hB1 V1; have hz1 := hB1.size) | (go_at_call 59; refine (new_cur w1 _ _ _ (codei_below HC.out hB1)).mono ?_; rintro e w2 ⟨p, rfl, hp, hc2, hB2⟩; have hpl := hc2.1; have V2 := vblk_grow V1 hB2; have hB := hB1.trans (hB2.mono hz1)) | (go_at_call 79; refine (l12Draw_any w2 p a0 len cap hc2).mono ?_; rintro e w3 ⟨K, N, F, B, C, M, rfl, G3, hN, hBs⟩; have V3 := gbi_vblk V2 (by have := V1.lt; omega) G3.gb; have hB3 := gbi_low hB (by omega) G3.gb) | (refine wpList_store_v rfl 42 _ _ rfl b1 [.int .i64 K, .string N, .int .i64 F, .string B, .int .i64 C, .int .i64 M] rfl rfl sizeRp V3 rfl (oneRp ⟨K, N, F, B, C, M⟩) ?_; intro w4 hO4 V4) | (fail))
  exact row_retv rfl rfl V4 Tryz.underlying42 sizeRp rfl ⟨K, N, F, B, C, M, rfl, hB3.trans (hO4.2.2 _ hb1), hN, hBs⟩
theorem drawShowReply_any (w : World) (a0 : Option Addr) (len cap : Nat) (hcode : CodeAt w a0 len) : Calls Tryz.prog 24 #[.slice a0 len cap] w fun e w' => ∃ (K : Int) (N : ByteArray) (F : Int) (B : ByteArray) (C M : Int), e = .returned (.agg #[.int .i64 K, .string N, .int .i64 F, .string B, .int .i64 C, .int .i64 M]) ∧ Below w.heap.size w w' ∧ N.size ≤ 4000 ∧ B.size ≤ 4000 := by
  have HC : Hid (CodeAt w a0 len) := hcode
  clear hcode
  go_enter Tryz.func24, Tryz.ntmps24
  go_wp2_with (first | (refine wpList_alloc_v rfl 42 rfl _ zeroRp ?_; intro b1 w1 hb1 hw1 hB1 V1; have hz1 := hB1.size) | (go_at_call 75; refine (drawReplyOk_any w1 a0 len cap (codei_below HC.out hB1)).mono ?_; rintro e w3 ⟨K, N, F, B, C, M, rfl, hB3, hN, hBs⟩; have V3 := vblk_grow V1 hB3) | (refine wpList_store_v rfl 42 _ _ rfl b1 [.int .i64 K, .string N, .int .i64 F, .string B, .int .i64 C, .int .i64 M] rfl rfl sizeRp V3 rfl (oneRp ⟨K, N, F, B, C, M⟩) ?_; intro w4 hO4 V4) | (fail))
  exact row_retv rfl rfl V4 Tryz.underlying42 sizeRp rfl ⟨K, N, F, B, C, M, rfl, (hB1.trans (hB3.mono hz1)).trans (hO4.2.2 _ hb1), hN, hBs⟩
set_option maxRecDepth 100000 in
set_option maxHeartbeats 4000000 in
theorem drawReplyAt_any (w : World) (a0 : Option Addr) (len cap : Nat) (hcode : CodeAt w a0 len) : Calls Tryz.prog 26 #[.slice a0 len cap] w fun e w' => ∃ (t : ByteArray) (q : Int), e = .returned (.tuple #[.string t, .int .i64 q]) ∧ Below w.heap.size w w' ∧ t.size ≤ 2000 ∧ -1 ≤ q ∧ q ≤ 2000 := by
  have HC : Hid (CodeAt w a0 len) := hcode
  clear hcode
  go_enter Tryz.func26, Tryz.ntmps26
  go_wp2_with (first | (go_at_call 59; refine (new_cur w _ _ _ HC.out).mono ?_; rintro e w2 ⟨p, rfl, hp, hc2, hB2⟩) | (go_at_call 78; refine (below_from w2 w2 p a0 len cap _ (by omega) hc2 (World.grownBy.refl _ _)).mono ?_; rintro e w3 ⟨x, rfl, hx0, hx1, hc3, hg3⟩; obtain ⟨k0, hk0⟩ : ∃ k : Nat, x = k := ⟨x.toNat, by omega⟩; subst hk0; have G3 : Hid (Gt w2 p a0 len cap w3) := (gt_new hc2).went hc3 hg3) | (fail))
  clear hc3 hg3
  go_loopw [5, 6, 7] (fun s5 s6 s7 wr => ∃ (s : ByteArray) (q : Int) (k : Nat), s5 = .string s ∧ s6 = .int .i64 q ∧ s7 = .int .i64 k ∧ k ≤ 3 ∧ s.size + 300 * k ≤ 900 ∧ 0 ≤ q ∧ q ≤ 900 ∧ Hid (Gt w2 p a0 len cap wr)) (fun _ _ s7 _ => (intOf s7).toNat)
  case atStart => exact ⟨⟨#[]⟩, 0, k0, rfl, rfl, rfl, by omega, by show 0 + 300 * k0 ≤ 900; omega, by omega, by omega, G3⟩
  case round =>
    obtain ⟨s, q, k, rfl, rfl, rfl, hk, hsk, hq0, hq1, G⟩ := hrel
    clear G3
    by_cases hkp : 0 < k
    · go_upto_if 17 with (first | (go_at_call 61; refine (once_from wr wr p a0 len cap _ (by omega) G.out.cur (World.grownBy.refl _ _)).mono ?_; rintro e w5 ⟨y, rfl, hc5, hg5⟩; have G5 : Hid (Gt w2 p a0 len cap w5) := G.out.went hc5 hg5) | (fail))
      clear hc5 hg5
      go_cut [6] from 16 to 19 (fun s6 wc => ∃ q2 : Int, s6 = .int .i64 q2 ∧ 0 ≤ q2 ∧ q2 ≤ 900 ∧ wc = w5)
      case first =>
        cases y with
        | false =>
          go_wp2
          go_meet
          case rel => exact ⟨q, rfl, hq0, hq1, rfl⟩
        | true =>
          go_wp2
          go_meet
          case rel => exact ⟨_, rfl, by omega, by omega, rfl⟩
      case rest =>
        obtain ⟨q2, rfl, h20, h21, rfl⟩ := hcut
        have hss : s.size ≤ 900 := by omega
        go_wp2_with (first | (go_at_call 79; refine (l12Draw_any wc p a0 len cap G5.out.cur).mono ?_; rintro e w6 ⟨K, N, F, B, C, M, rfl, G6, hN, hBs⟩) | (go_at_call 29; refine (specShowReply_any K N F B C M _ rfl (by omega) (by omega) _).mono ?_; rintro e w7 ⟨rfl, hB7⟩; have hyz := shR_small ⟨K, N, F, B, C, M⟩; obtain ⟨y2, hy2⟩ := hid_ex (shRX ⟨K, N, F, B, C, M⟩); rw [hy2.out] at hyz ⊢; have hsum : s.size + y2.size ≤ 1300 := (by omega)) | (fail))
        go_roundw
        case measure => simp [intOf]; omega
        case rel => exact ⟨s ++ y2, q2, k - 1, rfl, rfl, by rw [Int.natCast_sub (by omega)]; rfl, by omega, by rw [ByteArray.size_append]; omega, h20, h21, (G5.out.then G6).grow hB7⟩
    · have hkp' : ¬ (0 : Int) < (k : Int) := by omega
      go_upto_if 26 with (first | (go_at_call 61; refine (once_from wr wr p a0 len cap _ (by omega) G.out.cur (World.grownBy.refl _ _)).mono ?_; rintro e w5 ⟨y, rfl, hc5, hg5⟩; have G5 : Hid (Gt w2 p a0 len cap w5) := G.out.went hc5 hg5) | (fail))
      clear hc5 hg5
      go_cut [5] from 25 to 29 (fun s5 wc => ∃ t : ByteArray, s5 = .string t ∧ t.size ≤ 902 ∧ Hid (Gt w2 p a0 len cap wc))
      case first =>
        cases y with
        | false =>
          go_wp2
          go_meet
          case rel => exact ⟨s, rfl, by omega, G5⟩
        | true =>
          go_wp2_with (first | (go_at_call 80; refine (l1Bend_any w5 p a0 len cap G5.out.cur s _ (by omega) (by decide) (by decide)).mono ?_; rintro e w6 ⟨t, rfl, ht, G6⟩) | (fail))
          go_meet
          case rel => exact ⟨t, rfl, by omega, G5.out.then G6⟩
      case rest =>
        obtain ⟨t, rfl, ht, G7⟩ := hcut
        go_wp2_with (first | (go_at_call 61; refine (once_from wc wc p a0 len cap _ (by omega) G7.out.cur (World.grownBy.refl _ _)).mono ?_; rintro e w8 ⟨y8, rfl, hc8, hg8⟩; have G8 : Hid (Gt w2 p a0 len cap w8) := G7.out.went hc8 hg8; clear hc8 hg8; cases y8) | (go_at_call 62; refine (from_from w8 w8 p a0 len cap _ _ (by omega) (by omega) (by omega) G8.out.cur (World.grownBy.refl _ _)).mono ?_; rintro e w9 ⟨r, rfl, hr0, hr1, hc9, hg9⟩; have G9 : Hid (Gt w2 p a0 len cap w9) := G8.out.went hc9 hg9) | (fail))
        · go_ret2
          exact ⟨_, _, rfl, gbi_low hB2 hp G8.out.gb, by omega, by omega, by omega⟩
        · go_ret2
          exact ⟨_, _, rfl, gbi_low hB2 hp G9.out.gb, by omega, by omega, by omega⟩
end Go.Proofs.YtaabmkhckbndgaaGreatDoor.rg
