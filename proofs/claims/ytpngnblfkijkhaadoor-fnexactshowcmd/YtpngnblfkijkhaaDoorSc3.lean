/- Contracts: how a command is shown, at whatever command, the model's and the program's. -/
import Derived.Test.YtpngnblfkijkhaaDoorSc2
import Derived.Deep.DeepCutAuto
namespace Go.Proofs.YtpngnblfkijkhaaDoor.cm
open Go.ChangeShapes Go.WideShapes Go.ChangeAt Go.RowKit
open Go.Deep Go.Joins
open Go.Proofs.YtpngnblfkijkhaaDoor.ce Go.Proofs.YtpngnblfkijkhaaDoor.ro Go.Proofs.YtpngnblfkijkhaaDoor.rg
set_option linter.unusedVariables false

/-- what ShowCmd tells -/
noncomputable def shX (c : Cm) : ByteArray := if cmdB c = true then tx (showL c) else emp
theorem nat_cm {V : Int} {N : ByteArray} {F U : Int} {B : ByteArray} {C D : Int} {Q : Bool} (ok : COk ⟨V, N, F, U, B, C, D, Q⟩) : ∃ i f u c d : Nat, V = i ∧ F = f ∧ U = u ∧ C = c ∧ D = d ∧ 1 ≤ i ∧ i ≤ 13 ∧ N.size ≤ 12 ∧ f ≤ 1000000 ∧ u ≤ 1000000 ∧ B.size ≤ 64 ∧ c ≤ 1000000 ∧ d ≤ 1000000 := by
  have v0 : 1 ≤ V := ok.v0
  have v1 : V ≤ 13 := ok.v1
  have f1 : 0 ≤ F ∧ F ≤ 65535 := ok.f1
  have u1 : 0 ≤ U ∧ U ≤ 1000000 := ok.u1
  have d1 : 0 ≤ D ∧ D ≤ 1000000 := ok.d1
  have b1 : B.size ≤ 64 := ok.b1
  have c1 : 0 ≤ C ∧ C ≤ 1000000 := by
    by_cases h : V = 8
    · have : 1 ≤ C ∧ C ≤ 1000000 := ok.c1 h
      omega
    · have : C = 0 := ok.c8 h
      omega
  have hn : N.size ≤ 12 := by
    by_cases h : V = 13
    · have : N = emp := ok.n0 h
      rw [this]
      decide
    · exact (nameB_size (ok.nm h)).2
  exact ⟨V.toNat, F.toNat, U.toNat, C.toNat, D.toNat, by omega, by omega, by omega, by omega, by omega, by omega, by omega, hn, by omega, by omega, b1, by omega, by omega⟩

set_option maxRecDepth 100000 in
set_option maxHeartbeats 1000000 in
theorem specShowCmd_any (V : Int) (N B : ByteArray) (F U C D : Int) (Q : Bool) (y : ByteArray) (hy : Hid (shX ⟨V, N, F, U, B, C, D, Q⟩ = y)) (hN : N.size ≤ 9223372036854775807) (hB : B.size ≤ 9223372036854775807) (w : World) :
    Calls Tryd.prog 7 #[.agg #[.int .i64 V, .string N, .int .i64 F, .int .i64 U, .string B, .int .i64 C, .int .i64 D, .bool Q]] w fun e w' => e = .returned (.string y) ∧ Below w.heap.size w w' := by
  have m1 : Hid True := trivial
  cases hc : cmdB ⟨V, N, F, U, B, C, D, Q⟩ with
  | false =>
    have ey : y = ⟨#[]⟩ := by rw [← hy.out]; unfold shX; rw [hc]; rfl
    subst ey
    have HC : Hid (cmdB ⟨V, N, F, U, B, C, D, Q⟩ = false) := hc
    clear hc hy
    go_enter Tryd.func7, Tryd.ntmps7
    go_wp2_with (first | (refine wpList_box_v rfl 26 _ rfl [.int .i64 V, .string N, .int .i64 F, .int .i64 U, .string B, .int .i64 C, .int .i64 D, .bool Q] rfl ?_; intro b1 w1 hb1 hw1 hB1 V1; have hz1 := hB1.size) | (clear m1; refine wpList_load_r rfl 26 _ rfl b1 0 [.int .i64 V, .string N, .int .i64 F, .int .i64 U, .string B, .int .i64 C, .int .i64 D, .bool Q] rfl _ Tryd.underlying26 rfl sizeCm V1.range ?_) | (go_at_call 21; refine (specCmdOk_any V N B F U C D Q false HC hN hB _).mono ?_; rintro e w2 ⟨rfl, hB2⟩) | (fail))
    go_ret
    exact ⟨rfl, hB1.trans (hB2.mono hz1)⟩
  | true =>
    obtain ⟨i, f, u, c, d, rfl, rfl, rfl, rfl, rfl, i0, i1, hn, hf, hu, hb, hcc, hd⟩ := nat_cm (cmdB_iff.1 hc)
    have ey : y = tx (showL ⟨i, N, f, u, B, c, d, Q⟩) := by rw [← hy.out]; unfold shX; rw [hc]; rfl
    have HC : Hid (cmdB ⟨i, N, f, u, B, c, d, Q⟩ = true) := hc
    clear hc hy
    obtain ⟨z, hz⟩ := hid_ex (tx (showL ⟨i, N, f, u, B, c, d, Q⟩))
    rw [hz.out] at ey
    subst ey
    have m2 : Hid True := trivial
    go_enter Tryd.func7, Tryd.ntmps7
    go_wp2_with (first | (refine wpList_box_v rfl 26 _ rfl [.int .i64 (i : Int), .string N, .int .i64 (f : Int), .int .i64 (u : Int), .string B, .int .i64 (c : Int), .int .i64 (d : Int), .bool Q] rfl ?_; intro b1 w1 hb1 hw1 hB1 V1; have hz1 := hB1.size) | (clear m1; refine wpList_load_r rfl 26 _ rfl b1 0 [.int .i64 (i : Int), .string N, .int .i64 (f : Int), .int .i64 (u : Int), .string B, .int .i64 (c : Int), .int .i64 (d : Int), .bool Q] rfl _ Tryd.underlying26 rfl sizeCm V1.range ?_) | (go_at_call 21; refine (specCmdOk_any i N B f u c d Q true HC hN hB _).mono ?_; rintro e w2 ⟨rfl, hB2⟩; have V2 := vblk_grow V1 hB2; have hz2 := hB2.size) | (clear m2; refine wpList_load_r rfl 26 _ rfl b1 0 [.int .i64 (i : Int), .string N, .int .i64 (f : Int), .int .i64 (u : Int), .string B, .int .i64 (c : Int), .int .i64 (d : Int), .bool Q] rfl _ Tryd.underlying26 rfl sizeCm V2.range ?_) | (go_at_call 22; refine (l11Show_any i N f u B c d Q (by omega) (by omega) hn hf hu hb hcc hd _).mono ?_; rintro e w3 ⟨rfl, hB3⟩; rw [hz.out]) | (fail))
    go_ret
    exact ⟨rfl, (hB1.trans (hB2.mono hz1)).trans (hB3.mono (by omega))⟩

set_option maxRecDepth 100000 in
set_option maxHeartbeats 1000000 in
theorem implShowCmd_any (V : Int) (N B : ByteArray) (F U C D : Int) (Q : Bool) (y : ByteArray) (hy : Hid (shX ⟨V, N, F, U, B, C, D, Q⟩ = y)) (hN : N.size ≤ 9223372036854775807) (hB : B.size ≤ 9223372036854775807) (w : World) (en : EnvW w) :
    Calls Tryd.prog 9 #[.agg #[.int .i64 V, .string N, .int .i64 F, .int .i64 U, .string B, .int .i64 C, .int .i64 D, .bool Q]] w fun e w' => e = .returned (.string y) ∧ Below w.heap.size w w' := by
  have m1 : Hid True := trivial
  cases hc : cmdB ⟨V, N, F, U, B, C, D, Q⟩ with
  | false =>
    have ey : y = ⟨#[]⟩ := by rw [← hy.out]; unfold shX; rw [hc]; rfl
    subst ey
    have HC : Hid (cmdB ⟨V, N, F, U, B, C, D, Q⟩ = false) := hc
    clear hc hy
    go_enter Tryd.func9, Tryd.ntmps9
    go_wp2_with (first | (refine wpList_box_v rfl 26 _ rfl [.int .i64 V, .string N, .int .i64 F, .int .i64 U, .string B, .int .i64 C, .int .i64 D, .bool Q] rfl ?_; intro b1 w1 hb1 hw1 hB1 V1; have hz1 := hB1.size) | (clear m1; refine wpList_load_r rfl 26 _ rfl b1 0 [.int .i64 V, .string N, .int .i64 F, .int .i64 U, .string B, .int .i64 C, .int .i64 D, .bool Q] rfl _ Tryd.underlying26 rfl sizeCm V1.range ?_) | (go_at_call 23; refine (implCmdOk_any V N B F U C D Q false HC hN hB _).mono ?_; rintro e w2 ⟨rfl, hB2⟩) | (fail))
    go_ret
    exact ⟨rfl, hB1.trans (hB2.mono hz1)⟩
  | true =>
    obtain ⟨i, f, u, c, d, rfl, rfl, rfl, rfl, rfl, i0, i1, hn, hf, hu, hb, hcc, hd⟩ := nat_cm (cmdB_iff.1 hc)
    have ey : y = tx (showL ⟨i, N, f, u, B, c, d, Q⟩) := by rw [← hy.out]; unfold shX; rw [hc]; rfl
    have HC : Hid (cmdB ⟨i, N, f, u, B, c, d, Q⟩ = true) := hc
    rw [ey]
    exact implShow_yes i N f u B c d Q HC i0 i1 hn hf hu hb hcc hd w en
end Go.Proofs.YtpngnblfkijkhaaDoor.cm
