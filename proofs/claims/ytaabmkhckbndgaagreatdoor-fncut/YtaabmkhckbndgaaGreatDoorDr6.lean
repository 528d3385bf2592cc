/- What the laws of chapter 11 draw: texts of commands. -/
import Derived.Test.YtaabmkhckbndgaaGreatDoorDr5
import Derived.Test.YtaabmkhckbndgaaGreatDoorDr2
import Derived.Test.YtaabmkhckbndgaaGreatDoorCu6
import Derived.Test.YtaabmkhckbndgaaGreatDoorMg02
import Derived.Test.YtaabmkhckbndgaaGreatDoorMg46
import Derived.Test.YtaabmkhckbndgaaGreatDoorDe5
import Derived.Lib.SmallJoins
import Derived.Deep.Slices
import Derived.Deep.RegionHeld3
import Derived.BigQuiet
import Derived.Deep.DeepCutAuto
import Derived.Deep.CutBlock
namespace Go.Proofs.YtaabmkhckbndgaaGreatDoor.rg
open Go.ChangeShapes Go.WideShapes Go.ChangeAt Go.RowKit
open Go.Deep Go.Joins
open Go.Proofs.YtaabmkhckbndgaaGreatDoor.ce Go.Proofs.YtaabmkhckbndgaaGreatDoor.ro Go.Proofs.YtaabmkhckbndgaaGreatDoor.draw Go.Proofs.YtaabmkhckbndgaaGreatDoor.cm
set_option linter.unusedVariables false

theorem numsC {c : Cm} (h : SmC c) {k : Nat} (hk : k ≤ 64) : ∀ n ∈ numsK c k, n ≤ 1000000 := by
  obtain ⟨v0, v1, n0, f0, f1, u0, u1, b, c0, c1, d0, d1⟩ := h
  intro n hn
  unfold numsK at hn
  rcases List.mem_append.1 hn with hn | hn
  · rcases List.mem_append.1 hn with hn | hn
    · split at hn
      · simp at hn
        omega
      · simp at hn
    · split at hn
      · simp at hn
        omega
      · split at hn
        · simp at hn
          omega
        · split at hn
          · simp at hn
            omega
          · simp at hn
  · split at hn
    · simp at hn
      omega
    · simp at hn
theorem showC_small {c : Cm} (h : SmC c) : (tx (showL c)).size ≤ 250 := by
  have ho : ∀ w ∈ wordsK c c.B.size, w.length ≤ 12 := by
    intro w hw
    unfold wordsK at hw
    rcases List.mem_append.1 hw with hw | hw
    · rcases List.mem_append.1 hw with hw | hw
      · rcases List.mem_cons.1 hw with rfl | hw
        · exact (vw_ok h.v0 h.v1).2
        · split at hw
          · simp at hw
          · rw [List.mem_singleton.1 hw, bs_len]
            exact h.n
      · obtain ⟨n, hn, rfl⟩ := List.mem_map.1 hw
        have := numsC h h.b n hn
        exact Nat.le_trans (digs_len 6 n (by omega)) (by omega)
    · split at hw
      · rw [List.mem_singleton.1 hw]
        decide
      · simp at hw
  have h1 := wordsL_len (wordsK c c.B.size) 12 ho
  have h2 := words_len c c.B.size
  have h3 : (wordsK c c.B.size).length * (12 + 1) ≤ 7 * 13 := Nat.mul_le_mul_right _ h2
  have h4 := h.b
  rw [tx_size]
  unfold showL lineK
  rw [List.length_append, List.length_cons]
  split
  · rw [List.length_append, bs_len]
    simp
    omega
  · simp
    omega
theorem shX_small (c : Cm) : (shX c).size ≤ 250 := by
  unfold shX
  split
  · next h =>
    have ok := cmdB_iff.1 h
    obtain ⟨h1, h2⟩ := line_ok ok ok.b1
    rw [tx_size]
    unfold showL
    have := ok.b1
    rw [List.length_append, List.length_cons]
    split
    · rw [List.length_append, bs_len]
      simp
      omega
    · simp
      omega
  · decide
def szV : Value → Nat | .string s => s.size | _ => 0
def bads : List ByteArray := [⟨#[119, 104, 97, 116, 32, 105, 115, 32, 116, 104, 105, 115, 10]⟩, ⟨#[103, 101, 116, 10]⟩, ⟨#[115, 101, 116, 32, 97, 32, 49, 32, 50, 10]⟩, ⟨#[115, 101, 116, 32, 97, 32, 48, 32, 48, 32, 54, 53, 10]⟩, ⟨#[115, 101, 116, 32, 97, 32, 48, 32, 48, 32, 49, 10, 120, 121, 122, 10]⟩, ⟨#[10]⟩, ⟨#[103, 101, 116, 32, 97, 32, 98, 10]⟩]
theorem bads_small : ∀ s ∈ bads, s.size ≤ 20 := by
  intro s hs
  simp only [bads, List.mem_cons, List.not_mem_nil, or_false] at hs
  rcases hs with rfl | rfl | rfl | rfl | rfl | rfl | rfl <;> decide
theorem drawBytes_l11 (V : Int) (N : ByteArray) (F U : Int) (B : ByteArray) (C D : Int) (Q : Bool) (h : SmC ⟨V, N, F, U, B, C, D, Q⟩) (w : World) :
    Calls Tryz.prog 70 #[.agg #[.int .i64 V, .string N, .int .i64 F, .int .i64 U, .string B, .int .i64 C, .int .i64 D, .bool Q]] w fun e w' => ∃ y : ByteArray, e = .returned (.string y) ∧ y.size ≤ 250 ∧ Below w.heap.size w w' := by
  obtain ⟨f, rfl⟩ : ∃ k : Nat, F = k := ⟨F.toNat, by have := h.f0; dsimp only at this; omega⟩
  obtain ⟨u, rfl⟩ : ∃ k : Nat, U = k := ⟨U.toNat, by have := h.u0; dsimp only at this; omega⟩
  obtain ⟨c, rfl⟩ : ∃ k : Nat, C = k := ⟨C.toNat, by have := h.c0; dsimp only at this; omega⟩
  obtain ⟨d, rfl⟩ : ∃ k : Nat, D = k := ⟨D.toNat, by have := h.d0; dsimp only at this; omega⟩
  refine (l11Show_any V N f u B c d Q h.v0 h.v1 h.n (by have := h.f1; dsimp only at this; omega) (by have := h.u1; dsimp only at this; omega) h.b (by have := h.c1; dsimp only at this; omega) (by have := h.d1; dsimp only at this; omega) w).mono ?_
  rintro e w' ⟨rfl, hB⟩
  exact ⟨_, rfl, showC_small h, hB⟩
set_option maxRecDepth 100000 in
set_option maxHeartbeats 8000000 in
theorem l11DrawBytes_any (w : World) (p : Nat) (a0 : Option Addr) (len cap : Nat) (hc : Cur w p a0 len cap) :
    Calls Tryz.prog 60 #[.pointer (some ⟨p, 0, none⟩)] w fun e w' => ∃ t : ByteArray, e = .returned (.string t) ∧ t.size ≤ 1300 ∧ Gt w p a0 len cap w' := by
  have HC : Hid (Cur w p a0 len cap) := hc
  clear hc
  go_enter Tryz.func60, Tryz.ntmps60
  go_wp2_with (first | (go_at_call 78; refine (below_from w w p a0 len cap _ (by omega) HC.out (World.grownBy.refl _ _)).mono ?_; rintro e w3 ⟨x, rfl, hx0, hx1, hc3, hg3⟩; obtain ⟨k0, hk0⟩ : ∃ k : Nat, x = k := ⟨x.toNat, by omega⟩; subst hk0; have G3 : Hid (Gt w p a0 len cap w3) := (gt_new HC.out).went hc3 hg3) | (fail))
  clear hc3 hg3
  go_loopw [3, 4] (fun s3 s4 wr => ∃ (s : ByteArray) (k : Nat), s3 = .string s ∧ s4 = .int .i64 k ∧ k ≤ 4 ∧ s.size + 270 * k ≤ 1080 ∧ Hid (Gt w p a0 len cap wr)) (fun _ s4 _ => (intOf s4).toNat)
  case atStart => exact ⟨⟨#[]⟩, k0, rfl, rfl, by omega, by show 0 + 270 * k0 ≤ 1080; omega, G3⟩
  case round =>
    obtain ⟨s, k, rfl, rfl, hk, hsk, G⟩ := hrel
    clear G3
    by_cases hkp : 0 < k
    · have hss : s.size ≤ 1080 := by omega
      go_upto_if 17 with (first | (go_at_call 113; refine (l11Draw_any wr p a0 len cap G.out.cur).mono ?_; rintro e w5 ⟨V, N, F, U, B, C, D, Q, rfl, G5, hsm⟩) | (go_at_call 70; refine (drawBytes_l11 V N F U B C D Q hsm _).mono ?_; rintro e w6 ⟨y, rfl, hyz, hB6⟩; have G6 : Hid (Gt w p a0 len cap w6) := (G.out.then G5).grow hB6; have hsum : s.size + y.size ≤ 1400 := (by omega); obtain ⟨s2, hs2⟩ := hid_ex (s ++ y); have hs2z : s2.size = s.size + y.size := (by rw [← hs2.out, ByteArray.size_append]); have es2 : s ++ y = s2 := hs2.out) | (go_at_call 61; refine (once_from w6 w6 p a0 len cap _ (by omega) G6.out.cur (World.grownBy.refl _ _)).mono ?_; rintro e w7 ⟨y7, rfl, hc7, hg7⟩; have G7 : Hid (Gt w p a0 len cap w7) := G6.out.went hc7 hg7) | (fail))
      clear hc7 hg7 G5 hB6
      cases y7 with
      | false =>
        go_wp2
        go_roundw
        case measure => simp [intOf]; omega
        case rel => exact ⟨s2, k - 1, rfl, by rw [Int.natCast_sub (by omega)]; rfl, by omega, by omega, G7⟩
      | true =>
        have hs3 : s2.size ≤ 1400 := by omega
        go_wp2_with (first | (go_at_call 78; refine (below_names w7 w7 p a0 len cap bads _ 7 20 rfl (by omega) bads_small G7.out.cur (World.grownBy.refl _ _)).mono ?_; rintro e w8 ⟨x8, s8, rfl, hx8, hy8, hcell, hs8, hc8, hg8⟩; obtain ⟨j8, hj8⟩ : ∃ k : Nat, x8 = k := ⟨x8.toNat, by omega⟩; subst hj8; rw [Int.toNat_natCast] at hcell; have G8 : Hid (Gt w p a0 len cap w8) := G7.out.went hc8 hg8; have hsum8 : s2.size + s8.size ≤ 1500 := (by omega)) | (fail))
        go_roundw
        case measure => simp [intOf]; omega
        case rel => exact ⟨s2 ++ s8, k - 1, rfl, by rw [Int.natCast_sub (by omega)]; rfl, by omega, by rw [ByteArray.size_append]; omega, G8⟩
    · have hkp' : ¬ (0 : Int) < (k : Int) := by omega
      go_upto_if 26 with (first | (go_at_call 61; refine (once_from wr wr p a0 len cap _ (by omega) G.out.cur (World.grownBy.refl _ _)).mono ?_; rintro e w5 ⟨y, rfl, hc5, hg5⟩; have G5 : Hid (Gt w p a0 len cap w5) := G.out.went hc5 hg5) | (fail))
      clear hc5 hg5
      go_cut [3] from 25 to 29 (fun s3 wc => ∃ t : ByteArray, s3 = .string t ∧ t.size ≤ 1082 ∧ Hid (Gt w p a0 len cap wc))
      case first =>
        cases y with
        | false =>
          go_wp2
          go_meet
          case rel => exact ⟨s, rfl, by omega, G5⟩
        | true =>
          go_wp2_with (first | (go_at_call 80; refine (l1Bend_any w5 p a0 len cap G5.out.cur s _ (by omega) (by decide) (by decide)).mono ?_; rintro e w6 ⟨t, rfl, ht, G6⟩) | (fail))
          go_meet
          case rel => exact ⟨t, rfl, by omega, G5.out.then G6⟩
      case rest =>
        obtain ⟨t, rfl, ht, G7⟩ := hcut
        go_upto_if 31 with (first | (go_at_call 61; refine (once_from wc wc p a0 len cap _ (by omega) G7.out.cur (World.grownBy.refl _ _)).mono ?_; rintro e w8 ⟨y8, rfl, hc8, hg8⟩; have G8 : Hid (Gt w p a0 len cap w8) := G7.out.went hc8 hg8; clear hc8 hg8) | (fail))
        cases y8 with
        | false =>
          go_wp2
          go_ret
          exact ⟨_, rfl, by omega, G8.out⟩
        | true =>
          go_wp2
          go_loopw [3] (fun s3 wr2 => ∃ t2 : ByteArray, s3 = .string t2 ∧ t2.size ≤ 1082 ∧ Hid (Gt w p a0 len cap wr2)) (fun s3 _ => 2000 - szV s3)
          case atStart => exact ⟨t, rfl, ht, G8⟩
          case round =>
            obtain ⟨t2, rfl, ht2, G9⟩ := hrel
            go_wp2_with (first | (go_at_call 78; refine (below_from wr wr p a0 len cap _ (by omega) G9.out.cur (World.grownBy.refl _ _)).mono ?_; rintro e w9 ⟨x9, rfl, hx9, hy9, hc9, hg9⟩; have G10 : Hid (Gt w p a0 len cap w9) := G9.out.went hc9 hg9; clear hc9 hg9; have hw9 : IntKind.i64.wrap (99 + x9) = 99 + x9 := (by rw [IntKind.wrap_i64]; omega); have hts : t2.size + 1 ≤ 1400 := (by omega); by_cases hlt9 : (t2.size : Int) < 99 + x9) | (fail))
            · go_roundw
              case measure =>
                show 2000 - (t2 ++ _).size < 2000 - t2.size
                rw [ByteArray.size_append]
                show 2000 - (t2.size + 1) < 2000 - t2.size
                omega
              case rel =>
                refine ⟨_, rfl, ?_, G10⟩
                rw [ByteArray.size_append]
                show t2.size + 1 ≤ 1082
                omega
            · go_ret
              exact ⟨_, rfl, by omega, G10.out⟩
theorem drawCmdOk_any (w : World) (a0 : Option Addr) (len cap : Nat) (hcode : CodeAt w a0 len) : Calls Tryz.prog 54 #[.slice a0 len cap] w fun e w' => ∃ (V : Int) (N : ByteArray) (F U : Int) (B : ByteArray) (C D : Int) (Q : Bool), e = .returned (.agg #[.int .i64 V, .string N, .int .i64 F, .int .i64 U, .string B, .int .i64 C, .int .i64 D, .bool Q]) ∧ Below w.heap.size w w' ∧ N.size ≤ 4000 ∧ B.size ≤ 4000 := by
  have HC : Hid (CodeAt w a0 len) := hcode
  clear hcode
  go_enter Tryz.func54, Tryz.ntmps54
  go_wp2_with (first | (refine wpList_alloc_v rfl 25 rfl _ zeroCm ?_; intro b1 w1 hb1 hw1 hB1 V1; have hz1 := hB1.size) | (go_at_call 59; refine (new_cur w1 _ _ _ (codei_below HC.out hB1)).mono ?_; rintro e w2 ⟨p, rfl, hp, hc2, hB2⟩; have hpl := hc2.1; have V2 := vblk_grow V1 hB2; have hB := hB1.trans (hB2.mono hz1)) | (go_at_call 101; refine (l11DrawAny_any w2 p a0 len cap hc2).mono ?_; rintro e w3 ⟨V, N, F, U, B, C, D, Q, rfl, G3, hN, hBs⟩; have V3 := gbi_vblk V2 (by have := V1.lt; omega) G3.gb; have hB3 := gbi_low hB (by omega) G3.gb) | (refine wpList_store_v rfl 25 _ _ rfl b1 [.int .i64 V, .string N, .int .i64 F, .int .i64 U, .string B, .int .i64 C, .int .i64 D, .bool Q] rfl rfl sizeCm V3 rfl (oneCm ⟨V, N, F, U, B, C, D, Q⟩) ?_; intro w4 hO4 V4) | (fail))
  exact row_retv rfl rfl V4 Tryz.underlying25 sizeCm rfl ⟨V, N, F, U, B, C, D, Q, rfl, hB3.trans (hO4.2.2 _ hb1), hN, hBs⟩
theorem drawShowCmd_any (w : World) (a0 : Option Addr) (len cap : Nat) (hcode : CodeAt w a0 len) : Calls Tryz.prog 10 #[.slice a0 len cap] w fun e w' => ∃ (V : Int) (N : ByteArray) (F U : Int) (B : ByteArray) (C D : Int) (Q : Bool), e = .returned (.agg #[.int .i64 V, .string N, .int .i64 F, .int .i64 U, .string B, .int .i64 C, .int .i64 D, .bool Q]) ∧ Below w.heap.size w w' ∧ N.size ≤ 4000 ∧ B.size ≤ 4000 := by
  have HC : Hid (CodeAt w a0 len) := hcode
  clear hcode
  go_enter Tryz.func10, Tryz.ntmps10
  go_wp2_with (first | (refine wpList_alloc_v rfl 25 rfl _ zeroCm ?_; intro b1 w1 hb1 hw1 hB1 V1; have hz1 := hB1.size) | (go_at_call 54; refine (drawCmdOk_any w1 a0 len cap (codei_below HC.out hB1)).mono ?_; rintro e w3 ⟨V, N, F, U, B, C, D, Q, rfl, hB3, hN, hBs⟩; have V3 := vblk_grow V1 hB3) | (refine wpList_store_v rfl 25 _ _ rfl b1 [.int .i64 V, .string N, .int .i64 F, .int .i64 U, .string B, .int .i64 C, .int .i64 D, .bool Q] rfl rfl sizeCm V3 rfl (oneCm ⟨V, N, F, U, B, C, D, Q⟩) ?_; intro w4 hO4 V4) | (fail))
  exact row_retv rfl rfl V4 Tryz.underlying25 sizeCm rfl ⟨V, N, F, U, B, C, D, Q, rfl, (hB1.trans (hB3.mono hz1)).trans (hO4.2.2 _ hb1), hN, hBs⟩
theorem drawCmdAt_any (w : World) (a0 : Option Addr) (len cap : Nat) (hcode : CodeAt w a0 len) : Calls Tryz.prog 12 #[.slice a0 len cap] w fun e w' => ∃ (t : ByteArray) (q : Int), e = .returned (.tuple #[.string t, .int .i64 q]) ∧ Below w.heap.size w w' ∧ t.size ≤ 1300 ∧ -1 ≤ q ∧ q ≤ 30 := by
  have HC : Hid (CodeAt w a0 len) := hcode
  clear hcode
  go_enter Tryz.func12, Tryz.ntmps12
  go_wp2_with (first | (go_at_call 59; refine (new_cur w _ _ _ HC.out).mono ?_; rintro e w2 ⟨p, rfl, hp, hc2, hB2⟩) | (go_at_call 60; refine (l11DrawBytes_any w2 p a0 len cap hc2).mono ?_; rintro e w3 ⟨t, rfl, ht, G3⟩) | (go_at_call 61; refine (once_from w3 w3 p a0 len cap _ (by omega) G3.cur (World.grownBy.refl _ _)).mono ?_; rintro e w8 ⟨y8, rfl, hc8, hg8⟩; have G8 : Hid (Gt w2 p a0 len cap w8) := G3.went hc8 hg8; clear hc8 hg8; cases y8) | (go_at_call 62; refine (from_from w8 w8 p a0 len cap _ _ (by omega) (by omega) (by omega) G8.out.cur (World.grownBy.refl _ _)).mono ?_; rintro e w9 ⟨r, rfl, hr0, hr1, hc9, hg9⟩; have G9 : Hid (Gt w2 p a0 len cap w9) := G8.out.went hc9 hg9) | (fail))
  · go_ret2
    exact ⟨_, _, rfl, gbi_low hB2 hp G9.out.gb, by omega, by omega, by omega⟩
  · go_ret2
    exact ⟨_, _, rfl, gbi_low hB2 hp G8.out.gb, by omega, by omega, by omega⟩
theorem drawCmds_any (w : World) (a0 : Option Addr) (len cap : Nat) (hcode : CodeAt w a0 len) : Calls Tryz.prog 19 #[.slice a0 len cap] w fun e w' => ∃ t : ByteArray, e = .returned (.string t) ∧ Below w.heap.size w w' ∧ t.size ≤ 1300 := by
  have HC : Hid (CodeAt w a0 len) := hcode
  clear hcode
  go_enter Tryz.func19, Tryz.ntmps19
  go_wp2_with (first | (go_at_call 59; refine (new_cur w _ _ _ HC.out).mono ?_; rintro e w2 ⟨p, rfl, hp, hc2, hB2⟩) | (go_at_call 60; refine (l11DrawBytes_any w2 p a0 len cap hc2).mono ?_; rintro e w3 ⟨t, rfl, ht, G3⟩) | (fail))
  go_ret
  exact ⟨_, rfl, gbi_low hB2 hp G3.gb, ht⟩
end Go.Proofs.YtaabmkhckbndgaaGreatDoor.rg
