/- Texts laid together: Sc3 Cv0 Pk1. -/
import Derived.Test.YtaabmkhckbndgaaGreatDoorMg16
import Derived.Test.YtaabmkhckbndgaaGreatDoorCa1
import Derived.Test.YtaabmkhckbndgaaGreatDoorMg02
import Derived.Test.YtaabmkhckbndgaaGreatDoorMg28
import Derived.Test.YtaabmkhckbndgaaGreatDoorMg29
import Derived.Deep.DeepCutAuto
import Derived.Lib.SmallJoins
import Derived.Deep.Slices
import Derived.Deep.RegionHeld3
import Derived.BigQuiet
import Derived.Deep.CutBlock
/- Contracts: how a command is shown, at whatever command, the model's and the program's. -/
namespace Go.Proofs.YtaabmkhckbndgaaGreatDoor.cm
open Go.ChangeShapes Go.WideShapes Go.ChangeAt Go.RowKit
open Go.Deep Go.Joins
open Go.Proofs.YtaabmkhckbndgaaGreatDoor.ce Go.Proofs.YtaabmkhckbndgaaGreatDoor.ro Go.Proofs.YtaabmkhckbndgaaGreatDoor.rg
set_option linter.unusedVariables false

/-- what ShowCmd tells -/
noncomputable def shX (c : Cm) : ByteArray := if cmdB c = true then tx (showL c) else emp
theorem nat_cm {V : Int} {N : ByteArray} {F U : Int} {B : ByteArray} {C D : Int} {Q : Bool} (ok : COk ⟨V, N, F, U, B, C, D, Q⟩) : ∃ i f u c d : Nat, V = i ∧ F = f ∧ U = u ∧ C = c ∧ D = d ∧ 1 ≤ i ∧ i ≤ 13 ∧ N.size ≤ 12 ∧ f ≤ 1000000 ∧ u ≤ 1000000 ∧ B.size ≤ 64 ∧ c ≤ 1000000 ∧ d ≤ 1000000 := by
  have v0 : 1 ≤ V := ok.v0
  have v1 : V ≤ 13 := ok.v1
  have f1 : 0 ≤ F ∧ F ≤ 65535 := ok.f1
  have u1 : 0 ≤ U ∧ U ≤ 1000000 := ok.u1
  have d1 : 0 ≤ D ∧ D ≤ 1000000 := ok.d1
  have b1 : B.size ≤ 64 := ok.b1
  have c1 : 0 ≤ C ∧ C ≤ 1000000 := by
    by_cases h : V = 8
    · have : 1 ≤ C ∧ C ≤ 1000000 := ok.c1 h
      omega
    · have : C = 0 := ok.c8 h
      omega
  have hn : N.size ≤ 12 := by
    by_cases h : V = 13
    · have : N = emp := ok.n0 h
      rw [this]
      decide
    · exact (nameB_size (ok.nm h)).2
  exact ⟨V.toNat, F.toNat, U.toNat, C.toNat, D.toNat, by omega, by omega, by omega, by omega, by omega, by omega, by omega, hn, by omega, by omega, b1, by omega, by omega⟩

set_option maxRecDepth 100000 in
set_option maxHeartbeats 1000000 in
theorem specShowCmd_any (V : Int) (N B : ByteArray) (F U C D : Int) (Q : Bool) (y : ByteArray) (hy : Hid (shX ⟨V, N, F, U, B, C, D, Q⟩ = y)) (hN : N.size ≤ 9223372036854775807) (hB : B.size ≤ 9223372036854775807) (w : World) :
    Calls Tryz.prog 15 #[.agg #[.int .i64 V, .string N, .int .i64 F, .int .i64 U, .string B, .int .i64 C, .int .i64 D, .bool Q]] w fun e w' => e = .returned (.string y) ∧ Below w.heap.size w w' := by
  have m1 : Hid True := trivial
  cases hc : cmdB ⟨V, N, F, U, B, C, D, Q⟩ with
  | false =>
    have ey : y = ⟨#[]⟩ := by rw [← hy.out]; unfold shX; rw [hc]; rfl
    subst ey
    have HC : Hid (cmdB ⟨V, N, F, U, B, C, D, Q⟩ = false) := hc
    clear hc hy
    go_enter Tryz.func15, Tryz.ntmps15
    go_wp2_with (first | (refine wpList_box_v rfl 25 _ rfl [.int .i64 V, .string N, .int .i64 F, .int .i64 U, .string B, .int .i64 C, .int .i64 D, .bool Q] rfl ?_; intro b1 w1 hb1 hw1 hB1 V1; have hz1 := hB1.size) | (clear m1; refine wpList_load_r rfl 25 _ rfl b1 0 [.int .i64 V, .string N, .int .i64 F, .int .i64 U, .string B, .int .i64 C, .int .i64 D, .bool Q] rfl _ Tryz.underlying25 rfl sizeCm V1.range ?_) | (go_at_call 17; refine (specCmdOk_any V N B F U C D Q false HC hN hB _).mono ?_; rintro e w2 ⟨rfl, hB2⟩) | (fail))
    go_ret
    exact ⟨rfl, hB1.trans (hB2.mono hz1)⟩
  | true =>
    obtain ⟨i, f, u, c, d, rfl, rfl, rfl, rfl, rfl, i0, i1, hn, hf, hu, hb, hcc, hd⟩ := nat_cm (cmdB_iff.1 hc)
    have ey : y = tx (showL ⟨i, N, f, u, B, c, d, Q⟩) := by rw [← hy.out]; unfold shX; rw [hc]; rfl
    have HC : Hid (cmdB ⟨i, N, f, u, B, c, d, Q⟩ = true) := hc
    clear hc hy
    obtain ⟨z, hz⟩ := hid_ex (tx (showL ⟨i, N, f, u, B, c, d, Q⟩))
    rw [hz.out] at ey
    subst ey
    have m2 : Hid True := trivial
    go_enter Tryz.func15, Tryz.ntmps15
    go_wp2_with (first | (refine wpList_box_v rfl 25 _ rfl [.int .i64 (i : Int), .string N, .int .i64 (f : Int), .int .i64 (u : Int), .string B, .int .i64 (c : Int), .int .i64 (d : Int), .bool Q] rfl ?_; intro b1 w1 hb1 hw1 hB1 V1; have hz1 := hB1.size) | (clear m1; refine wpList_load_r rfl 25 _ rfl b1 0 [.int .i64 (i : Int), .string N, .int .i64 (f : Int), .int .i64 (u : Int), .string B, .int .i64 (c : Int), .int .i64 (d : Int), .bool Q] rfl _ Tryz.underlying25 rfl sizeCm V1.range ?_) | (go_at_call 17; refine (specCmdOk_any i N B f u c d Q true HC hN hB _).mono ?_; rintro e w2 ⟨rfl, hB2⟩; have V2 := vblk_grow V1 hB2; have hz2 := hB2.size) | (clear m2; refine wpList_load_r rfl 25 _ rfl b1 0 [.int .i64 (i : Int), .string N, .int .i64 (f : Int), .int .i64 (u : Int), .string B, .int .i64 (c : Int), .int .i64 (d : Int), .bool Q] rfl _ Tryz.underlying25 rfl sizeCm V2.range ?_) | (go_at_call 70; refine (l11Show_any i N f u B c d Q (by omega) (by omega) hn hf hu hb hcc hd _).mono ?_; rintro e w3 ⟨rfl, hB3⟩; rw [hz.out]) | (fail))
    go_ret
    exact ⟨rfl, (hB1.trans (hB2.mono hz1)).trans (hB3.mono (by omega))⟩

set_option maxRecDepth 100000 in
set_option maxHeartbeats 1000000 in
theorem implShowCmd_any (V : Int) (N B : ByteArray) (F U C D : Int) (Q : Bool) (y : ByteArray) (hy : Hid (shX ⟨V, N, F, U, B, C, D, Q⟩ = y)) (hN : N.size ≤ 9223372036854775807) (hB : B.size ≤ 9223372036854775807) (w : World) (en : EnvW w) :
    Calls Tryz.prog 11 #[.agg #[.int .i64 V, .string N, .int .i64 F, .int .i64 U, .string B, .int .i64 C, .int .i64 D, .bool Q]] w fun e w' => e = .returned (.string y) ∧ Below w.heap.size w w' := by
  have m1 : Hid True := trivial
  cases hc : cmdB ⟨V, N, F, U, B, C, D, Q⟩ with
  | false =>
    have ey : y = ⟨#[]⟩ := by rw [← hy.out]; unfold shX; rw [hc]; rfl
    subst ey
    have HC : Hid (cmdB ⟨V, N, F, U, B, C, D, Q⟩ = false) := hc
    clear hc hy
    go_enter Tryz.func11, Tryz.ntmps11
    go_wp2_with (first | (refine wpList_box_v rfl 25 _ rfl [.int .i64 V, .string N, .int .i64 F, .int .i64 U, .string B, .int .i64 C, .int .i64 D, .bool Q] rfl ?_; intro b1 w1 hb1 hw1 hB1 V1; have hz1 := hB1.size) | (clear m1; refine wpList_load_r rfl 25 _ rfl b1 0 [.int .i64 V, .string N, .int .i64 F, .int .i64 U, .string B, .int .i64 C, .int .i64 D, .bool Q] rfl _ Tryz.underlying25 rfl sizeCm V1.range ?_) | (go_at_call 16; refine (implCmdOk_any V N B F U C D Q false HC hN hB _).mono ?_; rintro e w2 ⟨rfl, hB2⟩) | (fail))
    go_ret
    exact ⟨rfl, hB1.trans (hB2.mono hz1)⟩
  | true =>
    obtain ⟨i, f, u, c, d, rfl, rfl, rfl, rfl, rfl, i0, i1, hn, hf, hu, hb, hcc, hd⟩ := nat_cm (cmdB_iff.1 hc)
    have ey : y = tx (showL ⟨i, N, f, u, B, c, d, Q⟩) := by rw [← hy.out]; unfold shX; rw [hc]; rfl
    have HC : Hid (cmdB ⟨i, N, f, u, B, c, d, Q⟩ = true) := hc
    rw [ey]
    exact implShow_yes i N f u B c d Q HC i0 i1 hn hf hu hb hcc hd w en
end Go.Proofs.YtaabmkhckbndgaaGreatDoor.cm
/- Mathematics of FnCmds, no Go in sight. -/
namespace Go.Proofs.YtaabmkhckbndgaaGreatDoor.cm
open Go.ChangeShapes Go.WideShapes Go.ChangeAt Go.RowKit
open Go.Proofs.YtaabmkhckbndgaaGreatDoor.ce Go.Proofs.YtaabmkhckbndgaaGreatDoor.ro Go.Proofs.YtaabmkhckbndgaaGreatDoor.rg
set_option linter.unusedVariables false

/-- what CmdAt tells, five ways -/
theorem atF_cases (t : ByteArray) (q : Int) : (atF t q = (Cm.zero, -1, -1)) ∨ ∃ a m : Nat, q = a ∧ a + m ≤ t.size ∧
    ((∃ c, COk c ∧ atF t q = (c, ((a + m : Nat) : Int), 0) ∧ shX c = t.extract a (a + m)) ∨ (m = 0 ∧ atF t q = (Cm.zero, (a : Int), 1)) ∨ (1 ≤ m ∧ (atF t q = (Cm.zero, ((a + m : Nat) : Int), 2) ∨ atF t q = (Cm.zero, ((a + m : Nat) : Int), 3)))) := by
  by_cases h : 0 ≤ q ∧ q ≤ t.size
  · right
    obtain ⟨a, rfl⟩ : ∃ a : Nat, q = a := ⟨q.toNat, by omega⟩
    have e := atF_nat (s := t) (p := a) (by omega)
    obtain ⟨⟨c, m, k⟩, hc⟩ : ∃ x, cmdOf ((bs t).drop a) = x := ⟨_, rfl⟩
    obtain ⟨h1, h2, h3, h4⟩ := cmd_codes hc
    rw [hc] at e
    dsimp only at e
    have hl : ((bs t).drop a).length = t.size - a := by rw [List.length_drop, bs_len]
    have ei : ((a : Int) + (m : Int)) = ((a + m : Nat) : Int) := by omega
    rcases h1 with rfl | rfl | rfl | rfl
    · obtain ⟨ok, hs, h5, h6⟩ := cmd_sound hc
      refine ⟨a, m, rfl, by omega, .inl ⟨c, ok, by rw [e, ei], ?_⟩⟩
      unfold shX
      rw [if_pos (cmdB_iff.2 ok), ← tx_bs (t.extract _ _), bs_extract, hs, Nat.add_sub_cancel_left]
    · have h0 := h3 rfl
      subst h0
      refine ⟨a, 0, rfl, by omega, .inr (.inl ⟨rfl, ?_⟩)⟩
      rw [e, h2 (by decide)]
      simp
    · have h5 := h4 (by decide)
      exact ⟨a, m, rfl, by omega, .inr (.inr ⟨h5.1, .inl (by rw [e, h2 (by decide), ei])⟩)⟩
    · have h5 := h4 (by decide)
      exact ⟨a, m, rfl, by omega, .inr (.inr ⟨h5.1, .inr (by rw [e, h2 (by decide), ei])⟩)⟩
  · exact .inl (atF_out h)
theorem atF_ways (t : ByteArray) (q : Int) : (atF t q = (Cm.zero, -1, -1)) ∨ ∃ a b : Nat, q = a ∧ a ≤ b ∧ b ≤ t.size ∧
    ((∃ c, COk c ∧ atF t q = (c, (b : Int), 0) ∧ shX c = t.extract a b) ∨ atF t q = (Cm.zero, (a : Int), 1) ∨ (a < b ∧ (atF t q = (Cm.zero, (b : Int), 2) ∨ atF t q = (Cm.zero, (b : Int), 3)))) := by
  rcases atF_cases t q with h | ⟨a, m, hq, ham, h | ⟨-, h⟩ | ⟨hm, h⟩⟩
  · exact .inl h
  · exact .inr ⟨a, a + m, hq, by omega, ham, .inl h⟩
  · exact .inr ⟨a, a, hq, by omega, by omega, .inr (.inl h)⟩
  · exact .inr ⟨a, a + m, hq, by omega, ham, .inr (.inr ⟨by omega, h⟩)⟩
theorem shX_no {c : Cm} (h : cmdB c = false) : shX c = emp := by unfold shX; rw [h]; rfl
theorem shX_again {c : Cm} (h : cmdB c = true) (a b : ByteArray) (ha : a.size = 2) : atF (a ++ shX c ++ b) 2 = (c, 2 + ((shX c).size : Int), 0) := by
  have ok := cmdB_iff.1 h
  have hb : bs (shX c) = showL c := by unfold shX; rw [if_pos h, bs_tx]
  have hl : (showL c).length = (shX c).size := by rw [← hb, bs_len]
  have e := atF_nat (s := a ++ shX c ++ b) (p := 2) (by rw [ByteArray.size_append, ByteArray.size_append]; omega)
  have hd : (bs (a ++ shX c ++ b)).drop 2 = showL c ++ bs b := by
    rw [bs_app, bs_app, hb, List.append_assoc, List.drop_append_of_le_length (by rw [bs_len]; omega), List.drop_of_length_le (by rw [bs_len]; omega), List.nil_append]
  rw [hd, cmd_show ok] at e
  rw [← hl]
  exact e
theorem shX_cut {c : Cm} (h : cmdB c = true) {m : Nat} (hm : m < (shX c).size) : atF ((shX c).extract 0 m) 0 = (Cm.zero, 0, 1) := by
  have ok := cmdB_iff.1 h
  have hb : bs (shX c) = showL c := by unfold shX; rw [if_pos h, bs_tx]
  have hl : (showL c).length = (shX c).size := by rw [← hb, bs_len]
  have e := atF_nat (s := (shX c).extract 0 m) (p := 0) (Nat.zero_le _)
  rw [List.drop_zero, bs_extract, List.drop_zero, Nat.sub_zero, hb, cmd_cut ok (by omega)] at e
  exact e
theorem shX_pos {c : Cm} (h : cmdB c = true) : 1 ≤ (shX c).size := by
  unfold shX
  rw [if_pos h, tx_size]
  unfold showL
  simp
  omega
end Go.Proofs.YtaabmkhckbndgaaGreatDoor.cm
/- The laws' pick. -/
namespace Go.Proofs.YtaabmkhckbndgaaGreatDoor.rg
open Go.ChangeShapes Go.WideShapes Go.ChangeAt Go.RowKit
open Go.Deep Go.Joins
open Go.Proofs.YtaabmkhckbndgaaGreatDoor.ce Go.Proofs.YtaabmkhckbndgaaGreatDoor.ro Go.Proofs.YtaabmkhckbndgaaGreatDoor.draw Go.Proofs.YtaabmkhckbndgaaGreatDoor.cm
set_option linter.unusedVariables false

set_option maxRecDepth 100000 in
theorem pick_any (a0 : Option Addr) (len cap : Nat) (n : Int) (hn : 1 ≤ n) (w : World) (hc : CodeAt w a0 len) (hl : len ≤ 4096) :
    Calls Tryz.prog 18 #[.slice a0 len cap, .int .i64 1, .int .i64 n] w fun e w' => ∃ r : Int, e = .returned (.int .i64 r) ∧ 0 ≤ r ∧ r < n ∧ w' = w := by
  have HC : Hid (CodeAt w a0 len) := hc
  clear hc
  have e0 : IntKind.i64.wrap ((len : Int) + 7919) = (len : Int) + 7919 := by rw [IntKind.wrap_i64]; omega
  go_enter Tryz.func18, Tryz.ntmps18
  go_wp2
  go_loop [7, 8] (fun s7 s8 => ∃ (k : Int) (i : Nat), s7 = .int .i64 k ∧ s8 = .int .i64 i ∧ 0 ≤ k ∧ k ≤ 2000000 ∧ i ≤ len) (fun _ s8 => len - (intOf s8).toNat)
  case atStart => exact ⟨(len : Int) + 7919, 0, by first | rfl | (rw [e0]) | simp, rfl, by omega, by omega, by omega⟩
  case round =>
    obtain ⟨k, i, rfl, rfl, hk0, hk1, hi⟩ := hrel
    by_cases hlt : i < len
    · have hlt' : (i : Int) < (len : Int) := by omega
      rcases HC.out.2 with h0 | ⟨b, off, rfl, hb, hcell⟩
      · omega
      · obtain ⟨c, hcc, hc0, hc1⟩ := hcell i hlt
        have e1 : IntKind.i64.wrap (k * 239) = k * 239 := by rw [IntKind.wrap_i64]; omega
        have e2 : IntKind.i64.wrap (k * 239 + c) = k * 239 + c := by rw [IntKind.wrap_i64]; omega
        have e3 : IntKind.i64.wrap (k * 239 + c + 1) = k * 239 + c + 1 := by rw [IntKind.wrap_i64]; omega
        have e4 : IntKind.i64.wrap c = c := by rw [IntKind.wrap_i64]; omega
        go_wp2
        go_round
        case rel => exact ⟨(k * 239 + c + 1) % 1000003, i + 1, by go_num, by go_num, by omega, by omega, by omega⟩
        case measure => simp [intOf]; omega
    · have hlt' : ¬ (i : Int) < (len : Int) := by omega
      have hn0 : n ≠ 0 := by omega
      have er : k.tmod n = k % n := Int.tmod_eq_emod_of_nonneg hk0
      have h0 := Int.emod_nonneg k hn0
      have h1 := Int.emod_lt_of_pos k (show 0 < n by omega)
      go_wp2
      go_ret
      first | exact ⟨_, rfl, h0, h1, rfl⟩ | exact ⟨_, rfl, by omega, by omega, rfl⟩ | exact ⟨_, rfl, by rw [er]; exact h0, by rw [er]; exact h1, rfl⟩
end Go.Proofs.YtaabmkhckbndgaaGreatDoor.rg
