/- ShowReply of both, at whatever reply. -/
import Derived.Test.YtefmndjoailemaaDoorRw3
import Derived.Test.YtefmndjoailemaaDoorRk6
import Derived.Test.YtefmndjoailemaaDoorRk1
namespace Go.Proofs.YtefmndjoailemaaDoor.cm
open Go.ChangeShapes Go.WideShapes Go.ChangeAt Go.RowKit
open Go.Proofs.YtefmndjoailemaaDoor.ce Go.Proofs.YtefmndjoailemaaDoor.ro Go.Proofs.YtefmndjoailemaaDoor.rg
set_option linter.unusedVariables false

/-- what ShowReply tells -/
noncomputable def shRX (r : Rp) : ByteArray := if repB r = true then tx (showR r) else emp
theorem show_bare {K : Int} (k5 : K ≠ 5) (k6 : K ≠ 6) : showR ⟨K, emp, 0, emp, 0, 0⟩ = kw K ++ [10] := by
  unfold showR wordsR tailR
  rw [if_neg (show ¬ K = 6 from k6), if_neg (show ¬ K = 5 from k5), if_neg (show ¬ K = 5 from k5)]
  simp [wordsL]
theorem show_num (m : Nat) : showR ⟨6, emp, 0, emp, 0, m⟩ = kw 6 ++ 32 :: (digs m ++ [10]) := by
  unfold showR wordsR tailR
  rw [if_pos (show (6 : Int) = 6 from rfl), if_neg (show ¬ (6 : Int) = 5 by decide)]
  simp [wordsL]
/-- a right reply is one of three kinds -/
theorem rep_kinds {K : Int} {N : ByteArray} {F : Int} {B : ByteArray} {C M : Int} (h : POk ⟨K, N, F, B, C, M⟩) :
    (K = 5 ∧ ∃ f c : Nat, F = f ∧ C = c ∧ M = 0 ∧ N.size ≤ 12 ∧ f ≤ 1000000 ∧ B.size ≤ 64 ∧ c ≤ 1000000) ∨ (K = 6 ∧ N = emp ∧ F = 0 ∧ B = emp ∧ C = 0 ∧ ∃ m : Nat, M = m ∧ m ≤ 999999999) ∨ (K ≠ 5 ∧ K ≠ 6 ∧ 1 ≤ K ∧ K ≤ 12 ∧ N = emp ∧ F = 0 ∧ B = emp ∧ C = 0 ∧ M = 0) := by
  by_cases h5 : K = 5
  · have f1 := h.f1 h5
    have c1 := h.c1 h5
    have m0 := h.m0 (by show K ≠ 6; omega)
    dsimp only at f1 c1 m0
    exact .inl ⟨h5, F.toNat, C.toNat, by omega, by omega, m0, (nameB_size (h.nm h5)).2, by omega, h.b1, by omega⟩
  · have n0 := h.n0 h5
    have f0 := h.f0 h5
    have b0 := h.b0 h5
    have c0 := h.c0 h5
    dsimp only at n0 f0 b0 c0
    by_cases h6 : K = 6
    · have m1 := h.m1 h6
      dsimp only at m1
      exact .inr (.inl ⟨h6, n0, f0, b0, c0, M.toNat, by omega, by omega⟩)
    · exact .inr (.inr ⟨h5, h6, h.k0, h.k1, n0, f0, b0, c0, h.m0 h6⟩)
theorem l12Show_any (K : Int) (N : ByteArray) (F : Int) (B : ByteArray) (C M : Int) (ok : POk ⟨K, N, F, B, C, M⟩) (w : World) :
    Calls Tryd.prog 26 #[.agg #[.int .i64 K, .string N, .int .i64 F, .string B, .int .i64 C, .int .i64 M]] w fun e w' => e = .returned (.string (tx (showR ⟨K, N, F, B, C, M⟩))) ∧ Below w.heap.size w w' := by
  rcases rep_kinds ok with ⟨rfl, f, c, rfl, rfl, rfl, hN, hf, hB, hc⟩ | ⟨rfl, rfl, rfl, rfl, rfl, m, rfl, hm⟩ | ⟨k5, k6, k0, k1, rfl, rfl, rfl, rfl, rfl⟩
  · exact l12Show_val 5 rfl rfl rfl N f B c 0 hN hf hB hc w
  · rw [show_num]
    exact l12Show_num 6 rfl rfl emp 0 emp 0 m hm w
  · rw [show_bare k5 k6]
    exact l12Show_bare K emp 0 emp 0 0 k0 k1 k5 k6 w
/-- what shapeOf tells of a right one -/
def shV (r : Rp) : Value := if r.K = 5 then .iface 75 (.agg #[.string r.N, .int .i64 r.F, .string r.B, .int .i64 r.C]) else if r.K = 6 then .iface 73 (.int .i64 r.M) else .iface 71 (.int .i64 r.K)
theorem shown_any (K : Int) (N : ByteArray) (F : Int) (B : ByteArray) (C M : Int) (ok : POk ⟨K, N, F, B, C, M⟩) (w : World) (en : EnvP w) :
    Calls Tryd.prog 28 #[shV ⟨K, N, F, B, C, M⟩] w fun e w' => e = .returned (.string (tx (showR ⟨K, N, F, B, C, M⟩))) ∧ Below w.heap.size w w' := by
  rcases rep_kinds ok with ⟨rfl, f, c, rfl, rfl, rfl, hN, hf, hB, hc⟩ | ⟨rfl, rfl, rfl, rfl, rfl, m, rfl, hm⟩ | ⟨k5, k6, k0, k1, rfl, rfl, rfl, rfl, rfl⟩
  · exact shown_val N f B c hN hf hB hc w en
  · rw [show_num]
    exact shown_num m hm w en
  · rw [show_bare k5 k6]
    obtain ⟨i, rfl⟩ : ∃ i : Nat, K = i := ⟨K.toNat, by omega⟩
    have e : shV ⟨i, emp, 0, emp, 0, 0⟩ = .iface 71 (.int .i64 (i : Int)) := by
      unfold shV
      rw [if_neg (show ¬ (i : Int) = 5 from k5), if_neg (show ¬ (i : Int) = 6 from k6)]
    rw [e]
    exact (shown_bare i (by omega) (by omega) w en).mono fun e w' ⟨h1, h2⟩ => ⟨h1, by subst h2; exact Below.refl _ _⟩
theorem shapeOf_any (K : Int) (N : ByteArray) (F : Int) (B : ByteArray) (C M : Int) (ok : POk ⟨K, N, F, B, C, M⟩) (w : World) :
    Calls Tryd.prog 29 #[.agg #[.int .i64 K, .string N, .int .i64 F, .string B, .int .i64 C, .int .i64 M]] w fun e w' => e = .returned (shV ⟨K, N, F, B, C, M⟩) ∧ Below w.heap.size w w' := by
  by_cases h5 : K = 5
  · subst h5
    exact shapeOf_val N F B C M w
  · by_cases h6 : K = 6
    · subst h6
      exact shapeOf_num N F B C M w
    · have e : shV ⟨K, N, F, B, C, M⟩ = .iface 71 (.int .i64 K) := by
        unfold shV
        rw [if_neg (show ¬ K = 5 from h5), if_neg (show ¬ K = 6 from h6)]
      rw [e]
      have k0 : 1 ≤ K := ok.k0
      have k1 : K ≤ 12 := ok.k1
      exact shapeOf_bare K N F B C M (by simp [k0, k1]) (by simpa using h5) (by simpa using h6) w
set_option maxRecDepth 100000 in
set_option maxHeartbeats 1000000 in
theorem specShowReply_any (K : Int) (N : ByteArray) (F : Int) (B : ByteArray) (C M : Int) (y : ByteArray) (hy : Hid (shRX ⟨K, N, F, B, C, M⟩ = y)) (hN : N.size ≤ 9223372036854775807) (hB : B.size ≤ 9223372036854775807) (w : World) :
    Calls Tryd.prog 15 #[.agg #[.int .i64 K, .string N, .int .i64 F, .string B, .int .i64 C, .int .i64 M]] w fun e w' => e = .returned (.string y) ∧ Below w.heap.size w w' := by
  have m1 : Hid True := trivial
  have m2 : Hid True := trivial
  cases hc : repB ⟨K, N, F, B, C, M⟩ with
  | false =>
    have ey : y = ⟨#[]⟩ := by rw [← hy.out]; unfold shRX; rw [hc]; rfl
    subst ey
    have HC : Hid (repB ⟨K, N, F, B, C, M⟩ = false) := hc
    clear hc hy
    go_enter Tryd.func15, Tryd.ntmps15
    go_wp2_with (first | (refine wpList_box_v rfl 35 _ rfl [.int .i64 K, .string N, .int .i64 F, .string B, .int .i64 C, .int .i64 M] rfl ?_; intro b1 w1 hb1 hw1 hB1 V1; have hz1 := hB1.size) | (clear m1; refine wpList_load_r rfl 35 _ rfl b1 0 [.int .i64 K, .string N, .int .i64 F, .string B, .int .i64 C, .int .i64 M] rfl _ Tryd.underlying35 rfl sizeRp V1.range ?_) | (go_at_call 25; refine (specReplyOk_any K N F B C M false HC hN hB _).mono ?_; rintro e w2 ⟨rfl, hB2⟩; have V2 := vblk_grow V1 hB2; have hz2 := hB2.size) | (fail))
    go_ret
    exact ⟨rfl, hB1.trans (hB2.mono hz1)⟩
  | true =>
    have ok := repB_iff.1 hc
    have ey : y = tx (showR ⟨K, N, F, B, C, M⟩) := by rw [← hy.out]; unfold shRX; rw [hc]; rfl
    have HC : Hid (repB ⟨K, N, F, B, C, M⟩ = true) := hc
    clear hc hy
    obtain ⟨z, hz⟩ := hid_ex (tx (showR ⟨K, N, F, B, C, M⟩))
    rw [hz.out] at ey
    subst ey
    obtain ⟨sv, hsv⟩ := hid_ex (shV ⟨K, N, F, B, C, M⟩)
    go_enter Tryd.func15, Tryd.ntmps15
    go_wp2_with (first | (refine wpList_box_v rfl 35 _ rfl [.int .i64 K, .string N, .int .i64 F, .string B, .int .i64 C, .int .i64 M] rfl ?_; intro b1 w1 hb1 hw1 hB1 V1; have hz1 := hB1.size) | (clear m1; refine wpList_load_r rfl 35 _ rfl b1 0 [.int .i64 K, .string N, .int .i64 F, .string B, .int .i64 C, .int .i64 M] rfl _ Tryd.underlying35 rfl sizeRp V1.range ?_) | (go_at_call 25; refine (specReplyOk_any K N F B C M true HC hN hB _).mono ?_; rintro e w2 ⟨rfl, hB2⟩; have V2 := vblk_grow V1 hB2; have hz2 := hB2.size) | (clear m2; refine wpList_load_r rfl 35 _ rfl b1 0 [.int .i64 K, .string N, .int .i64 F, .string B, .int .i64 C, .int .i64 M] rfl _ Tryd.underlying35 rfl sizeRp V2.range ?_) | (go_at_call 26; refine (l12Show_any K N F B C M ok _).mono ?_; rintro e w3 ⟨rfl, hB3⟩; rw [hz.out]; have hz3 := hB3.size; have hBB : Below w.heap.size w w3 := (hB1.trans (hB2.mono hz1)).trans (hB3.mono (by omega))) | (fail))
    go_ret
    exact ⟨rfl, hBB⟩
set_option maxRecDepth 100000 in
set_option maxHeartbeats 1000000 in
theorem implShowReply_any (K : Int) (N : ByteArray) (F : Int) (B : ByteArray) (C M : Int) (y : ByteArray) (hy : Hid (shRX ⟨K, N, F, B, C, M⟩ = y)) (hN : N.size ≤ 9223372036854775807) (hB : B.size ≤ 9223372036854775807) (w : World) (en : EnvP w) :
    Calls Tryd.prog 17 #[.agg #[.int .i64 K, .string N, .int .i64 F, .string B, .int .i64 C, .int .i64 M]] w fun e w' => e = .returned (.string y) ∧ Below w.heap.size w w' := by
  have m1 : Hid True := trivial
  have m2 : Hid True := trivial
  have EN : Hid (EnvP w) := en
  clear en
  cases hc : repB ⟨K, N, F, B, C, M⟩ with
  | false =>
    have ey : y = ⟨#[]⟩ := by rw [← hy.out]; unfold shRX; rw [hc]; rfl
    subst ey
    have HC : Hid (repB ⟨K, N, F, B, C, M⟩ = false) := hc
    clear hc hy
    go_enter Tryd.func17, Tryd.ntmps17
    go_wp2_with (first | (refine wpList_box_v rfl 35 _ rfl [.int .i64 K, .string N, .int .i64 F, .string B, .int .i64 C, .int .i64 M] rfl ?_; intro b1 w1 hb1 hw1 hB1 V1; have hz1 := hB1.size) | (clear m1; refine wpList_load_r rfl 35 _ rfl b1 0 [.int .i64 K, .string N, .int .i64 F, .string B, .int .i64 C, .int .i64 M] rfl _ Tryd.underlying35 rfl sizeRp V1.range ?_) | (go_at_call 27; refine (implReplyOk_any K N F B C M false HC hN hB _).mono ?_; rintro e w2 ⟨rfl, hB2⟩; have V2 := vblk_grow V1 hB2; have hz2 := hB2.size) | (fail))
    go_ret
    exact ⟨rfl, hB1.trans (hB2.mono hz1)⟩
  | true =>
    have ok := repB_iff.1 hc
    have ey : y = tx (showR ⟨K, N, F, B, C, M⟩) := by rw [← hy.out]; unfold shRX; rw [hc]; rfl
    have HC : Hid (repB ⟨K, N, F, B, C, M⟩ = true) := hc
    clear hc hy
    obtain ⟨z, hz⟩ := hid_ex (tx (showR ⟨K, N, F, B, C, M⟩))
    rw [hz.out] at ey
    subst ey
    obtain ⟨sv, hsv⟩ := hid_ex (shV ⟨K, N, F, B, C, M⟩)
    have SHN : Hid (∀ w', EnvP w' → Calls Tryd.prog 28 #[sv] w' fun e w2 => e = .returned (.string y) ∧ Below w'.heap.size w' w2) := fun w' en => by have := shown_any K N F B C M ok w' en; rw [hsv.out, hz.out] at this; exact this
    go_enter Tryd.func17, Tryd.ntmps17
    go_wp2_with (first | (refine wpList_box_v rfl 35 _ rfl [.int .i64 K, .string N, .int .i64 F, .string B, .int .i64 C, .int .i64 M] rfl ?_; intro b1 w1 hb1 hw1 hB1 V1; have hz1 := hB1.size) | (clear m1; refine wpList_load_r rfl 35 _ rfl b1 0 [.int .i64 K, .string N, .int .i64 F, .string B, .int .i64 C, .int .i64 M] rfl _ Tryd.underlying35 rfl sizeRp V1.range ?_) | (go_at_call 27; refine (implReplyOk_any K N F B C M true HC hN hB _).mono ?_; rintro e w2 ⟨rfl, hB2⟩; have V2 := vblk_grow V1 hB2; have hz2 := hB2.size) | (clear m2; refine wpList_load_r rfl 35 _ rfl b1 0 [.int .i64 K, .string N, .int .i64 F, .string B, .int .i64 C, .int .i64 M] rfl _ Tryd.underlying35 rfl sizeRp V2.range ?_) | (go_at_call 29; refine (shapeOf_any K N F B C M ok _).mono ?_; rintro e w3 ⟨rfl, hB3⟩; rw [hsv.out]; have hz3 := hB3.size; have hB13 : Below w.heap.size w w3 := (hB1.trans (hB2.mono hz1)).trans (hB3.mono (by omega))) | (go_at_call 28; refine (SHN.out _ (EN.out.grow hB13)).mono ?_; rintro e w4 ⟨rfl, hB4⟩; have hBB : Below w.heap.size w w4 := hB13.trans (hB4.mono hB13.size)) | (fail))
    go_ret
    exact ⟨rfl, hBB⟩
end Go.Proofs.YtefmndjoailemaaDoor.cm
