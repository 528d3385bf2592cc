/- Texts laid together: Rw4 Cy4. -/
import Derived.Test.YtaabmkhckbndgaaGreatDoorRw3
import Derived.Test.YtaabmkhckbndgaaGreatDoorMg16
import Derived.Test.YtaabmkhckbndgaaGreatDoorMg15
import Derived.Test.YtaabmkhckbndgaaGreatDoorMg08
import Derived.Test.YtaabmkhckbndgaaGreatDoorMg06
import Derived.Deep.LoopGhost
/- ShowReply of both, at whatever reply. -/
namespace Go.Proofs.YtaabmkhckbndgaaGreatDoor.cm
open Go.ChangeShapes Go.WideShapes Go.ChangeAt Go.RowKit
open Go.Proofs.YtaabmkhckbndgaaGreatDoor.ce Go.Proofs.YtaabmkhckbndgaaGreatDoor.ro Go.Proofs.YtaabmkhckbndgaaGreatDoor.rg
set_option linter.unusedVariables false

/-- what ShowReply tells -/
noncomputable def shRX (r : Rp) : ByteArray := if repB r = true then tx (showR r) else emp
theorem show_bare {K : Int} (k5 : K ≠ 5) (k6 : K ≠ 6) : showR ⟨K, emp, 0, emp, 0, 0⟩ = kw K ++ [10] := by
  unfold showR wordsR tailR
  rw [if_neg (show ¬ K = 6 from k6), if_neg (show ¬ K = 5 from k5), if_neg (show ¬ K = 5 from k5)]
  simp [wordsL]
theorem show_num (m : Nat) : showR ⟨6, emp, 0, emp, 0, m⟩ = kw 6 ++ 32 :: (digs m ++ [10]) := by
  unfold showR wordsR tailR
  rw [if_pos (show (6 : Int) = 6 from rfl), if_neg (show ¬ (6 : Int) = 5 by decide)]
  simp [wordsL]
/-- a right reply is one of three kinds -/
theorem rep_kinds {K : Int} {N : ByteArray} {F : Int} {B : ByteArray} {C M : Int} (h : POk ⟨K, N, F, B, C, M⟩) :
    (K = 5 ∧ ∃ f c : Nat, F = f ∧ C = c ∧ M = 0 ∧ N.size ≤ 12 ∧ f ≤ 1000000 ∧ B.size ≤ 64 ∧ c ≤ 1000000) ∨ (K = 6 ∧ N = emp ∧ F = 0 ∧ B = emp ∧ C = 0 ∧ ∃ m : Nat, M = m ∧ m ≤ 999999999) ∨ (K ≠ 5 ∧ K ≠ 6 ∧ 1 ≤ K ∧ K ≤ 12 ∧ N = emp ∧ F = 0 ∧ B = emp ∧ C = 0 ∧ M = 0) := by
  by_cases h5 : K = 5
  · have f1 := h.f1 h5
    have c1 := h.c1 h5
    have m0 := h.m0 (by show K ≠ 6; omega)
    dsimp only at f1 c1 m0
    exact .inl ⟨h5, F.toNat, C.toNat, by omega, by omega, m0, (nameB_size (h.nm h5)).2, by omega, h.b1, by omega⟩
  · have n0 := h.n0 h5
    have f0 := h.f0 h5
    have b0 := h.b0 h5
    have c0 := h.c0 h5
    dsimp only at n0 f0 b0 c0
    by_cases h6 : K = 6
    · have m1 := h.m1 h6
      dsimp only at m1
      exact .inr (.inl ⟨h6, n0, f0, b0, c0, M.toNat, by omega, by omega⟩)
    · exact .inr (.inr ⟨h5, h6, h.k0, h.k1, n0, f0, b0, c0, h.m0 h6⟩)
theorem l12Show_any (K : Int) (N : ByteArray) (F : Int) (B : ByteArray) (C M : Int) (ok : POk ⟨K, N, F, B, C, M⟩) (w : World) :
    Calls Tryz.prog 86 #[.agg #[.int .i64 K, .string N, .int .i64 F, .string B, .int .i64 C, .int .i64 M]] w fun e w' => e = .returned (.string (tx (showR ⟨K, N, F, B, C, M⟩))) ∧ Below w.heap.size w w' := by
  rcases rep_kinds ok with ⟨rfl, f, c, rfl, rfl, rfl, hN, hf, hB, hc⟩ | ⟨rfl, rfl, rfl, rfl, rfl, m, rfl, hm⟩ | ⟨k5, k6, k0, k1, rfl, rfl, rfl, rfl, rfl⟩
  · exact l12Show_val 5 rfl rfl rfl N f B c 0 hN hf hB hc w
  · rw [show_num]
    exact l12Show_num 6 rfl rfl emp 0 emp 0 m hm w
  · rw [show_bare k5 k6]
    exact l12Show_bare K emp 0 emp 0 0 k0 k1 k5 k6 w
/-- what shapeOf tells of a right one -/
def shV (r : Rp) : Value := if r.K = 5 then .iface 160 (.agg #[.string r.N, .int .i64 r.F, .string r.B, .int .i64 r.C]) else if r.K = 6 then .iface 158 (.int .i64 r.M) else .iface 156 (.int .i64 r.K)
theorem shown_any (K : Int) (N : ByteArray) (F : Int) (B : ByteArray) (C M : Int) (ok : POk ⟨K, N, F, B, C, M⟩) (w : World) (en : EnvP w) :
    Calls Tryz.prog 76 #[shV ⟨K, N, F, B, C, M⟩] w fun e w' => e = .returned (.string (tx (showR ⟨K, N, F, B, C, M⟩))) ∧ Below w.heap.size w w' := by
  rcases rep_kinds ok with ⟨rfl, f, c, rfl, rfl, rfl, hN, hf, hB, hc⟩ | ⟨rfl, rfl, rfl, rfl, rfl, m, rfl, hm⟩ | ⟨k5, k6, k0, k1, rfl, rfl, rfl, rfl, rfl⟩
  · exact shown_val N f B c hN hf hB hc w en
  · rw [show_num]
    exact shown_num m hm w en
  · rw [show_bare k5 k6]
    obtain ⟨i, rfl⟩ : ∃ i : Nat, K = i := ⟨K.toNat, by omega⟩
    have e : shV ⟨i, emp, 0, emp, 0, 0⟩ = .iface 156 (.int .i64 (i : Int)) := by
      unfold shV
      rw [if_neg (show ¬ (i : Int) = 5 from k5), if_neg (show ¬ (i : Int) = 6 from k6)]
    rw [e]
    exact (shown_bare i (by omega) (by omega) w en).mono fun e w' ⟨h1, h2⟩ => ⟨h1, by subst h2; exact Below.refl _ _⟩
theorem shapeOf_any (K : Int) (N : ByteArray) (F : Int) (B : ByteArray) (C M : Int) (ok : POk ⟨K, N, F, B, C, M⟩) (w : World) :
    Calls Tryz.prog 77 #[.agg #[.int .i64 K, .string N, .int .i64 F, .string B, .int .i64 C, .int .i64 M]] w fun e w' => e = .returned (shV ⟨K, N, F, B, C, M⟩) ∧ Below w.heap.size w w' := by
  by_cases h5 : K = 5
  · subst h5
    exact shapeOf_val N F B C M w
  · by_cases h6 : K = 6
    · subst h6
      exact shapeOf_num N F B C M w
    · have e : shV ⟨K, N, F, B, C, M⟩ = .iface 156 (.int .i64 K) := by
        unfold shV
        rw [if_neg (show ¬ K = 5 from h5), if_neg (show ¬ K = 6 from h6)]
      rw [e]
      have k0 : 1 ≤ K := ok.k0
      have k1 : K ≤ 12 := ok.k1
      exact shapeOf_bare K N F B C M (by simp [k0, k1]) (by simpa using h5) (by simpa using h6) w
set_option maxRecDepth 100000 in
set_option maxHeartbeats 1000000 in
theorem specShowReply_any (K : Int) (N : ByteArray) (F : Int) (B : ByteArray) (C M : Int) (y : ByteArray) (hy : Hid (shRX ⟨K, N, F, B, C, M⟩ = y)) (hN : N.size ≤ 9223372036854775807) (hB : B.size ≤ 9223372036854775807) (w : World) :
    Calls Tryz.prog 29 #[.agg #[.int .i64 K, .string N, .int .i64 F, .string B, .int .i64 C, .int .i64 M]] w fun e w' => e = .returned (.string y) ∧ Below w.heap.size w w' := by
  have m1 : Hid True := trivial
  have m2 : Hid True := trivial
  cases hc : repB ⟨K, N, F, B, C, M⟩ with
  | false =>
    have ey : y = ⟨#[]⟩ := by rw [← hy.out]; unfold shRX; rw [hc]; rfl
    subst ey
    have HC : Hid (repB ⟨K, N, F, B, C, M⟩ = false) := hc
    clear hc hy
    go_enter Tryz.func29, Tryz.ntmps29
    go_wp2_with (first | (refine wpList_box_v rfl 42 _ rfl [.int .i64 K, .string N, .int .i64 F, .string B, .int .i64 C, .int .i64 M] rfl ?_; intro b1 w1 hb1 hw1 hB1 V1; have hz1 := hB1.size) | (clear m1; refine wpList_load_r rfl 42 _ rfl b1 0 [.int .i64 K, .string N, .int .i64 F, .string B, .int .i64 C, .int .i64 M] rfl _ Tryz.underlying42 rfl sizeRp V1.range ?_) | (go_at_call 31; refine (specReplyOk_any K N F B C M false HC hN hB _).mono ?_; rintro e w2 ⟨rfl, hB2⟩; have V2 := vblk_grow V1 hB2; have hz2 := hB2.size) | (fail))
    go_ret
    exact ⟨rfl, hB1.trans (hB2.mono hz1)⟩
  | true =>
    have ok := repB_iff.1 hc
    have ey : y = tx (showR ⟨K, N, F, B, C, M⟩) := by rw [← hy.out]; unfold shRX; rw [hc]; rfl
    have HC : Hid (repB ⟨K, N, F, B, C, M⟩ = true) := hc
    clear hc hy
    obtain ⟨z, hz⟩ := hid_ex (tx (showR ⟨K, N, F, B, C, M⟩))
    rw [hz.out] at ey
    subst ey
    obtain ⟨sv, hsv⟩ := hid_ex (shV ⟨K, N, F, B, C, M⟩)
    go_enter Tryz.func29, Tryz.ntmps29
    go_wp2_with (first | (refine wpList_box_v rfl 42 _ rfl [.int .i64 K, .string N, .int .i64 F, .string B, .int .i64 C, .int .i64 M] rfl ?_; intro b1 w1 hb1 hw1 hB1 V1; have hz1 := hB1.size) | (clear m1; refine wpList_load_r rfl 42 _ rfl b1 0 [.int .i64 K, .string N, .int .i64 F, .string B, .int .i64 C, .int .i64 M] rfl _ Tryz.underlying42 rfl sizeRp V1.range ?_) | (go_at_call 31; refine (specReplyOk_any K N F B C M true HC hN hB _).mono ?_; rintro e w2 ⟨rfl, hB2⟩; have V2 := vblk_grow V1 hB2; have hz2 := hB2.size) | (clear m2; refine wpList_load_r rfl 42 _ rfl b1 0 [.int .i64 K, .string N, .int .i64 F, .string B, .int .i64 C, .int .i64 M] rfl _ Tryz.underlying42 rfl sizeRp V2.range ?_) | (go_at_call 86; refine (l12Show_any K N F B C M ok _).mono ?_; rintro e w3 ⟨rfl, hB3⟩; rw [hz.out]; have hz3 := hB3.size; have hBB : Below w.heap.size w w3 := (hB1.trans (hB2.mono hz1)).trans (hB3.mono (by omega))) | (fail))
    go_ret
    exact ⟨rfl, hBB⟩
set_option maxRecDepth 100000 in
set_option maxHeartbeats 1000000 in
theorem implShowReply_any (K : Int) (N : ByteArray) (F : Int) (B : ByteArray) (C M : Int) (y : ByteArray) (hy : Hid (shRX ⟨K, N, F, B, C, M⟩ = y)) (hN : N.size ≤ 9223372036854775807) (hB : B.size ≤ 9223372036854775807) (w : World) (en : EnvP w) :
    Calls Tryz.prog 25 #[.agg #[.int .i64 K, .string N, .int .i64 F, .string B, .int .i64 C, .int .i64 M]] w fun e w' => e = .returned (.string y) ∧ Below w.heap.size w w' := by
  have m1 : Hid True := trivial
  have m2 : Hid True := trivial
  have EN : Hid (EnvP w) := en
  clear en
  cases hc : repB ⟨K, N, F, B, C, M⟩ with
  | false =>
    have ey : y = ⟨#[]⟩ := by rw [← hy.out]; unfold shRX; rw [hc]; rfl
    subst ey
    have HC : Hid (repB ⟨K, N, F, B, C, M⟩ = false) := hc
    clear hc hy
    go_enter Tryz.func25, Tryz.ntmps25
    go_wp2_with (first | (refine wpList_box_v rfl 42 _ rfl [.int .i64 K, .string N, .int .i64 F, .string B, .int .i64 C, .int .i64 M] rfl ?_; intro b1 w1 hb1 hw1 hB1 V1; have hz1 := hB1.size) | (clear m1; refine wpList_load_r rfl 42 _ rfl b1 0 [.int .i64 K, .string N, .int .i64 F, .string B, .int .i64 C, .int .i64 M] rfl _ Tryz.underlying42 rfl sizeRp V1.range ?_) | (go_at_call 30; refine (implReplyOk_any K N F B C M false HC hN hB _).mono ?_; rintro e w2 ⟨rfl, hB2⟩; have V2 := vblk_grow V1 hB2; have hz2 := hB2.size) | (fail))
    go_ret
    exact ⟨rfl, hB1.trans (hB2.mono hz1)⟩
  | true =>
    have ok := repB_iff.1 hc
    have ey : y = tx (showR ⟨K, N, F, B, C, M⟩) := by rw [← hy.out]; unfold shRX; rw [hc]; rfl
    have HC : Hid (repB ⟨K, N, F, B, C, M⟩ = true) := hc
    clear hc hy
    obtain ⟨z, hz⟩ := hid_ex (tx (showR ⟨K, N, F, B, C, M⟩))
    rw [hz.out] at ey
    subst ey
    obtain ⟨sv, hsv⟩ := hid_ex (shV ⟨K, N, F, B, C, M⟩)
    have SHN : Hid (∀ w', EnvP w' → Calls Tryz.prog 76 #[sv] w' fun e w2 => e = .returned (.string y) ∧ Below w'.heap.size w' w2) := fun w' en => by have := shown_any K N F B C M ok w' en; rw [hsv.out, hz.out] at this; exact this
    go_enter Tryz.func25, Tryz.ntmps25
    go_wp2_with (first | (refine wpList_box_v rfl 42 _ rfl [.int .i64 K, .string N, .int .i64 F, .string B, .int .i64 C, .int .i64 M] rfl ?_; intro b1 w1 hb1 hw1 hB1 V1; have hz1 := hB1.size) | (clear m1; refine wpList_load_r rfl 42 _ rfl b1 0 [.int .i64 K, .string N, .int .i64 F, .string B, .int .i64 C, .int .i64 M] rfl _ Tryz.underlying42 rfl sizeRp V1.range ?_) | (go_at_call 30; refine (implReplyOk_any K N F B C M true HC hN hB _).mono ?_; rintro e w2 ⟨rfl, hB2⟩; have V2 := vblk_grow V1 hB2; have hz2 := hB2.size) | (clear m2; refine wpList_load_r rfl 42 _ rfl b1 0 [.int .i64 K, .string N, .int .i64 F, .string B, .int .i64 C, .int .i64 M] rfl _ Tryz.underlying42 rfl sizeRp V2.range ?_) | (go_at_call 77; refine (shapeOf_any K N F B C M ok _).mono ?_; rintro e w3 ⟨rfl, hB3⟩; rw [hsv.out]; have hz3 := hB3.size; have hB13 : Below w.heap.size w w3 := (hB1.trans (hB2.mono hz1)).trans (hB3.mono (by omega))) | (go_at_call 76; refine (SHN.out _ (EN.out.grow hB13)).mono ?_; rintro e w4 ⟨rfl, hB4⟩; have hBB : Below w.heap.size w w4 := hB13.trans (hB4.mono hB13.size)) | (fail))
    go_ret
    exact ⟨rfl, hBB⟩
end Go.Proofs.YtaabmkhckbndgaaGreatDoor.cm
/- Contracts of the model's helpers on texts: a number is read. -/
namespace Go.Proofs.YtaabmkhckbndgaaGreatDoor.cm
open Go.ChangeShapes Go.WideShapes Go.ChangeAt Go.RowKit
open Go.Proofs.YtaabmkhckbndgaaGreatDoor.ce Go.Proofs.YtaabmkhckbndgaaGreatDoor.ro Go.Proofs.YtaabmkhckbndgaaGreatDoor.rg
set_option linter.unusedVariables false

theorem rdF_minus {r : List UInt8} : rdF (45 :: r) = if canon r = true ∧ r.head? ≠ some 48 then (-((val 0 r : Nat) : Int), true) else (0, false) := rfl
theorem rdF_plain {l : List UInt8} (h : l.head? ≠ some 45) : rdF l = if canon l = true then (((val 0 l : Nat) : Int), true) else (0, false) := by
  unfold rdF
  rw [if_neg h]
theorem val9 {l : List UInt8} {k n : Nat} (h : Rdn l k n) (hk : k ≤ l.length) (h9 : l.length ≤ 9) : n < 1000000000 := by
  have h1 := rdn_lt h hk
  have h2 : (10 : Nat) ^ k ≤ 10 ^ 9 := Nat.pow_le_pow_right (by decide) (by omega)
  omega
theorem head_at {s : ByteArray} (h : 0 < s.size) : (bs s).head? = some s[0] := by
  have : 0 < (bs s).length := by rw [bs_len]; exact h
  rw [List.head?_eq_getElem?, List.getElem?_eq_getElem this]
  rfl

set_option maxRecDepth 100000 in
set_option maxHeartbeats 1000000 in
theorem l1Read_plain (s : ByteArray) (hs : s.size ≤ 1048576) (h0 : 0 < s.size) (h45 : s[0] ≠ 45) (w : World) (a : Int) (b : Bool) (hr : Hid (rdF (bs s) = (a, b))) :
    Calls Tryz.prog 85 #[.string s] w fun e w' => e = .returned (.tuple #[.int .i64 a, .bool b]) ∧ w' = w := by
  have hne : s.toList.isEmpty = false := by
    have : s.toList.length = s.size := by rw [bs_toList, bs_len]
    cases hl : s.toList with
    | nil => rw [hl] at this; simp at this; omega
    | cons x r => rfl
  have h0' : (0 : Int) < (s.size : Int) := by omega
  obtain ⟨c0, hc0⟩ : ∃ n : Nat, s[0].toNat = n := ⟨_, rfl⟩
  have h45b : ((s[0].toNat : Int) == 45) = false := by
    simp
    intro h
    exact h45 (UInt8.toNat_inj.1 (by show s[0].toNat = 45; omega))
  obtain ⟨t, ht⟩ : ∃ t, bs s = t := ⟨_, rfl⟩
  have hlt : t.length = s.size := by rw [← ht]; exact bs_len s
  have HR : Hid ((if canon t = true then (((val 0 t : Nat) : Int), true) else (0, false)) = (a, b)) := by
    have := hr.out
    rw [rdF_plain (by rw [head_at h0]; simp; exact h45), ht] at this
    exact this
  have hat : Hid (∀ i (h : i < t.length) (h2 : i < s.size), t[i] = s[i]) := fun i h h2 => by
    have e : (bs s)[i]'(by rw [bs_len]; exact h2) = s[i] := rfl
    rw [← e]
    simp [ht]
  have HL : Hid (t.length = s.size) := hlt
  clear hr h45 ht hlt hc0
  have no : canon t = false → a = 0 ∧ b = false := fun h => by
    have := HR.out
    rw [h] at this
    simp at this
    exact ⟨this.1.symm, by simpa using this.2⟩
  have NO : Hid (canon t = false → a = 0 ∧ b = false) := no
  clear no
  have ew : IntKind.i64.wrap ((s.size : Int) - 0) = (s.size : Int) := by rw [IntKind.wrap_i64]; omega
  by_cases hsh : (s.size : Int) < 1
  · obtain ⟨rfl, rfl⟩ := NO.out (canon_len (by have := HL.out; omega))
    go_enter Tryz.func85, Tryz.ntmps85
    go_wp2
    go_ret2
    exact ⟨rfl, rfl⟩
  by_cases hlg : 9 < (s.size : Int)
  · obtain ⟨rfl, rfl⟩ := NO.out (canon_len (by have := HL.out; omega))
    go_enter Tryz.func85, Tryz.ntmps85
    go_wp2
    go_ret2
    exact ⟨rfl, rfl⟩
  go_enter Tryz.func85, Tryz.ntmps85
  go_wp2
  go_loop [6, 7] (fun q p => ∃ k n : Nat, p = .int .i64 k ∧ q = .int .i64 n ∧ 0 ≤ k ∧ k ≤ s.size ∧ Hid (Rdn t (k - 0) n)) (fun _ p => s.size - (intOf p).toNat)
  case atStart => exact ⟨0, 0, rfl, rfl, by omega, by omega, rdn_start t⟩
  case round =>
    obtain ⟨k, n, rfl, rfl, hk1, hk2, hR⟩ := hrel
    have hn9 : n < 1000000000 := val9 hR.out (by have := HL.out; omega) (by have := HL.out; omega)
    by_cases hkl : k < s.size
    · have hkl' : (k : Int) < (s.size : Int) := by omega
      have hcl := UInt8.toNat_lt s[k]
      have hst : isD s[k] = true → Rdn t (k - 0 + 1) (n * 10 + (s[k].toNat - 48)) := fun h => by
        have hl := HL.out
        have e : t[k - 0]'(by omega) = s[k] := by
          have := hat.out (k - 0) (by omega) (by omega)
          simpa [show k - 0 + 0 = k by omega] using this
        have := rdn_step hR.out (by omega) (by rw [e]; exact h)
        rw [e] at this
        exact this
      have hst0 : isD s[k] = false → canon t = false := fun h => by
        have hl := HL.out
        have e : t[k - 0]'(by omega) = s[k] := by
          have := hat.out (k - 0) (by omega) (by omega)
          simpa [show k - 0 + 0 = k by omega] using this
        exact rdn_not (k := k - 0) (by omega) (by rw [e]; exact h)
      obtain ⟨c, hc⟩ : ∃ c : Nat, s[k].toNat = c := ⟨_, rfl⟩
      unfold isD at hst hst0
      rw [hc] at hst hst0 hcl
      have hcc : (s[k].toNat : Int) = (c : Int) := by omega
      have HS : Hid ((decide (48 ≤ c) && decide (c ≤ 57)) = true → Rdn t (k - 0 + 1) (n * 10 + (c - 48))) := hst
      have HS0 : Hid ((decide (48 ≤ c) && decide (c ≤ 57)) = false → canon t = false) := hst0
      clear hst hst0 hc
      by_cases h1 : (c : Int) < 48
      · obtain ⟨rfl, rfl⟩ := NO.out (HS0.out (by rw [decide_eq_false (show ¬ 48 ≤ c by omega)]; rfl))
        go_wp2
        go_ret2
        exact ⟨rfl, rfl⟩
      · by_cases h2 : (57 : Int) < (c : Int)
        · obtain ⟨rfl, rfl⟩ := NO.out (HS0.out (by rw [decide_eq_false (show ¬ c ≤ 57 by omega), Bool.and_false]))
          go_wp2
          go_ret2
          exact ⟨rfl, rfl⟩
        · have hst2 := HS.out (by rw [decide_eq_true (show 48 ≤ c by omega), decide_eq_true (show c ≤ 57 by omega)]; rfl)
          obtain ⟨m, hm⟩ := hid_ex (n * 10 + (c - 48))
          rw [hm.out] at hst2
          have HS2 : Hid (Rdn t (k + 1 - 0) m) := by unfold Hid; rw [show k + 1 - 0 = k - 0 + 1 by omega]; exact hst2
          have e1 : IntKind.u8.wrap ((c : Int) - 48) = (c : Int) - 48 := by rw [IntKind.wrap_u8]; omega
          have e2 : IntKind.i64.wrap ((n : Int) * 10) = (n : Int) * 10 := by rw [IntKind.wrap_i64]; omega
          have e3 : IntKind.i64.wrap ((c : Int) - 48) = (c : Int) - 48 := by rw [IntKind.wrap_i64]; omega
          have e4 : IntKind.i64.wrap ((n : Int) * 10 + ((c : Int) - 48)) = (m : Int) := by rw [IntKind.wrap_i64]; have := hm.out; omega
          clear hst2 HS HS0
          go_wp2
          go_round
          case rel => exact ⟨k + 1, m, by go_num, rfl, by omega, by omega, HS2⟩
          case measure => simp [intOf]; omega
    · have hkl' : ¬ (k : Int) < (s.size : Int) := by omega
      have hend := rdn_end (l := t) (n := n) (by have := hR.out; rw [show k - 0 = t.length by have := HL.out; omega] at this; exact this) (by have := HL.out; omega) (by have := HL.out; omega)
      have hh : t.head? = some s[0] := by
        have hl := HL.out
        have e := hat.out 0 (by omega) (by omega)
        rw [List.head?_eq_getElem?, List.getElem?_eq_getElem (by omega), e]
      obtain ⟨d, hd⟩ : ∃ c : Nat, s[0].toNat = c := ⟨_, rfl⟩
      have hdd : (s[0].toNat : Int) = (d : Int) := by omega
      by_cases h48 : d = 48
      · have hb : ((d : Int) == 48) = true := by simp; omega
        have h48' : t.head? = some 48 := by rw [hh]; exact congrArg some (UInt8.toNat_inj.1 (by show s[0].toNat = 48; omega))
        by_cases hl1 : (1 : Int) < (s.size : Int)
        · obtain ⟨rfl, rfl⟩ := NO.out (by rw [hend.2, h48', decide_eq_true (show 1 < t.length by have := HL.out; omega)]; rfl)
          clear hend hh hd h48 h48'
          go_wp2
          go_ret2
          exact ⟨rfl, rfl⟩
        · have : (a, b) = ((n : Int), true) := by
            rw [← HR.out, if_pos (by rw [hend.2, decide_eq_false (show ¬ 1 < t.length by have := HL.out; omega), Bool.and_false]; rfl), hend.1]
          obtain ⟨rfl, rfl⟩ := Prod.mk.inj this
          clear hend hh hd h48 this h48'
          go_wp2
          go_ret2
          exact ⟨rfl, rfl⟩
      · have hb : ((d : Int) == 48) = false := by simp; omega
        have h48' : t.head? ≠ some 48 := fun q => by
          rw [hh] at q
          have := Option.some.inj q
          rw [this] at hd
          exact h48 hd.symm
        have : (a, b) = ((n : Int), true) := by
          rw [← HR.out, if_pos (by rw [hend.2, show (t.head? == some 48) = false by simpa using h48']; rfl), hend.1]
        obtain ⟨rfl, rfl⟩ := Prod.mk.inj this
        clear hend hh hd h48 this h48'
        go_wp2
        go_ret2
        exact ⟨rfl, rfl⟩

set_option maxRecDepth 100000 in
set_option maxHeartbeats 1000000 in
theorem l1Read_minus (s : ByteArray) (hs : s.size ≤ 1048576) (h0 : 0 < s.size) (h45 : s[0] = 45) (w : World) (a : Int) (b : Bool) (hr : Hid (rdF (bs s) = (a, b))) :
    Calls Tryz.prog 85 #[.string s] w fun e w' => e = .returned (.tuple #[.int .i64 a, .bool b]) ∧ w' = w := by
  have hne : s.toList.isEmpty = false := by
    have : s.toList.length = s.size := by rw [bs_toList, bs_len]
    cases hl : s.toList with
    | nil => rw [hl] at this; simp at this; omega
    | cons x r => rfl
  have h0' : (0 : Int) < (s.size : Int) := by omega
  obtain ⟨c0, hc0⟩ : ∃ n : Nat, s[0].toNat = n := ⟨_, rfl⟩
  have h45b : ((s[0].toNat : Int) == 45) = true := by rw [h45]; rfl
  obtain ⟨t, ht⟩ : ∃ t, bs s = 45 :: t := by
    have := head_at h0
    rw [h45] at this
    cases hb : bs s with
    | nil => rw [hb] at this; simp at this
    | cons x r => rw [hb] at this; simp at this; exact ⟨r, by rw [this]⟩
  have hlt : t.length = s.size - 1 := by have := bs_len s; rw [ht] at this; simp at this; omega
  have HR : Hid ((if canon t = true ∧ t.head? ≠ some 48 then (-((val 0 t : Nat) : Int), true) else (0, false)) = (a, b)) := by
    have := hr.out
    rw [ht, rdF_minus] at this
    exact this
  have hat : Hid (∀ i (h : i < t.length) (h2 : i + 1 < s.size), t[i] = s[i + 1]) := fun i h h2 => by
    have e : (bs s)[i + 1]'(by rw [bs_len]; exact h2) = s[i + 1] := rfl
    rw [← e]
    simp [ht]
  have HL : Hid (t.length = s.size - 1) := hlt
  clear hr h45 ht hlt hc0
  have no : canon t = false → a = 0 ∧ b = false := fun h => by
    have := HR.out
    rw [h] at this
    simp at this
    exact ⟨this.1.symm, by simpa using this.2⟩
  have NO : Hid (canon t = false → a = 0 ∧ b = false) := no
  clear no
  have ew : IntKind.i64.wrap ((s.size : Int) - 1) = (s.size : Int) - 1 := by rw [IntKind.wrap_i64]; omega
  by_cases hsh : (s.size : Int) - 1 < 1
  · obtain ⟨rfl, rfl⟩ := NO.out (canon_len (by have := HL.out; omega))
    go_enter Tryz.func85, Tryz.ntmps85
    go_wp2
    go_ret2
    exact ⟨rfl, rfl⟩
  by_cases hlg : 9 < (s.size : Int) - 1
  · obtain ⟨rfl, rfl⟩ := NO.out (canon_len (by have := HL.out; omega))
    go_enter Tryz.func85, Tryz.ntmps85
    go_wp2
    go_ret2
    exact ⟨rfl, rfl⟩
  go_enter Tryz.func85, Tryz.ntmps85
  go_wp2
  go_loop [6, 7] (fun q p => ∃ k n : Nat, p = .int .i64 k ∧ q = .int .i64 n ∧ 1 ≤ k ∧ k ≤ s.size ∧ Hid (Rdn t (k - 1) n)) (fun _ p => s.size - (intOf p).toNat)
  case atStart => exact ⟨1, 0, rfl, rfl, by omega, by omega, rdn_start t⟩
  case round =>
    obtain ⟨k, n, rfl, rfl, hk1, hk2, hR⟩ := hrel
    have hn9 : n < 1000000000 := val9 hR.out (by have := HL.out; omega) (by have := HL.out; omega)
    by_cases hkl : k < s.size
    · have hkl' : (k : Int) < (s.size : Int) := by omega
      have hcl := UInt8.toNat_lt s[k]
      have hst : isD s[k] = true → Rdn t (k - 1 + 1) (n * 10 + (s[k].toNat - 48)) := fun h => by
        have hl := HL.out
        have e : t[k - 1]'(by omega) = s[k] := by
          have := hat.out (k - 1) (by omega) (by omega)
          simpa [show k - 1 + 1 = k by omega] using this
        have := rdn_step hR.out (by omega) (by rw [e]; exact h)
        rw [e] at this
        exact this
      have hst0 : isD s[k] = false → canon t = false := fun h => by
        have hl := HL.out
        have e : t[k - 1]'(by omega) = s[k] := by
          have := hat.out (k - 1) (by omega) (by omega)
          simpa [show k - 1 + 1 = k by omega] using this
        exact rdn_not (k := k - 1) (by omega) (by rw [e]; exact h)
      obtain ⟨c, hc⟩ : ∃ c : Nat, s[k].toNat = c := ⟨_, rfl⟩
      unfold isD at hst hst0
      rw [hc] at hst hst0 hcl
      have hcc : (s[k].toNat : Int) = (c : Int) := by omega
      have HS : Hid ((decide (48 ≤ c) && decide (c ≤ 57)) = true → Rdn t (k - 1 + 1) (n * 10 + (c - 48))) := hst
      have HS0 : Hid ((decide (48 ≤ c) && decide (c ≤ 57)) = false → canon t = false) := hst0
      clear hst hst0 hc
      by_cases h1 : (c : Int) < 48
      · obtain ⟨rfl, rfl⟩ := NO.out (HS0.out (by rw [decide_eq_false (show ¬ 48 ≤ c by omega)]; rfl))
        go_wp2
        go_ret2
        exact ⟨rfl, rfl⟩
      · by_cases h2 : (57 : Int) < (c : Int)
        · obtain ⟨rfl, rfl⟩ := NO.out (HS0.out (by rw [decide_eq_false (show ¬ c ≤ 57 by omega), Bool.and_false]))
          go_wp2
          go_ret2
          exact ⟨rfl, rfl⟩
        · have hst2 := HS.out (by rw [decide_eq_true (show 48 ≤ c by omega), decide_eq_true (show c ≤ 57 by omega)]; rfl)
          obtain ⟨m, hm⟩ := hid_ex (n * 10 + (c - 48))
          rw [hm.out] at hst2
          have HS2 : Hid (Rdn t (k + 1 - 1) m) := by unfold Hid; rw [show k + 1 - 1 = k - 1 + 1 by omega]; exact hst2
          have e1 : IntKind.u8.wrap ((c : Int) - 48) = (c : Int) - 48 := by rw [IntKind.wrap_u8]; omega
          have e2 : IntKind.i64.wrap ((n : Int) * 10) = (n : Int) * 10 := by rw [IntKind.wrap_i64]; omega
          have e3 : IntKind.i64.wrap ((c : Int) - 48) = (c : Int) - 48 := by rw [IntKind.wrap_i64]; omega
          have e4 : IntKind.i64.wrap ((n : Int) * 10 + ((c : Int) - 48)) = (m : Int) := by rw [IntKind.wrap_i64]; have := hm.out; omega
          clear hst2 HS HS0
          go_wp2
          go_round
          case rel => exact ⟨k + 1, m, by go_num, rfl, by omega, by omega, HS2⟩
          case measure => simp [intOf]; omega
    · have hkl' : ¬ (k : Int) < (s.size : Int) := by omega
      have hend := rdn_end (l := t) (n := n) (by have := hR.out; rw [show k - 1 = t.length by have := HL.out; omega] at this; exact this) (by have := HL.out; omega) (by have := HL.out; omega)
      have hh : t.head? = some s[1] := by
        have hl := HL.out
        have e := hat.out 0 (by omega) (by omega)
        rw [List.head?_eq_getElem?, List.getElem?_eq_getElem (by omega), e]
      obtain ⟨d, hd⟩ : ∃ c : Nat, s[1].toNat = c := ⟨_, rfl⟩
      have hdd : (s[1].toNat : Int) = (d : Int) := by omega
      have h1' : (1 : Int) < (s.size : Int) := by omega
      by_cases h48 : d = 48
      · have hb : ((d : Int) == 48) = true := by simp; omega
        have : (a, b) = ((0 : Int), false) := by
          rw [← HR.out, if_neg]
          rintro ⟨-, q⟩
          exact q (by rw [hh]; exact congrArg some (UInt8.toNat_inj.1 (by show s[1].toNat = 48; omega)))
        obtain ⟨rfl, rfl⟩ := Prod.mk.inj this
        clear hend hh hd h48 this
        go_wp2
        go_ret2
        exact ⟨rfl, rfl⟩
      · have hb : ((d : Int) == 48) = false := by simp; omega
        have h48' : t.head? ≠ some 48 := fun q => by
          rw [hh] at q
          have := Option.some.inj q
          rw [this] at hd
          exact h48 hd.symm
        have : (a, b) = (-(n : Int), true) := by
          rw [← HR.out, if_pos ⟨by rw [hend.2, show (t.head? == some 48) = false by simpa using h48']; rfl, h48'⟩, hend.1]
        obtain ⟨rfl, rfl⟩ := Prod.mk.inj this
        have e5 : IntKind.i64.wrap (-(n : Int)) = -(n : Int) := by rw [IntKind.wrap_i64]; omega
        clear hend hh hd h48 this h48'
        go_wp2
        go_ret2
        exact ⟨rfl, rfl⟩

set_option maxHeartbeats 1000000 in
theorem l1Read_is (s : ByteArray) (hs : s.size ≤ 1048576) (w : World) (a : Int) (b : Bool) (hr : Hid (rdF (bs s) = (a, b))) :
    Calls Tryz.prog 85 #[.string s] w fun e w' => e = .returned (.tuple #[.int .i64 a, .bool b]) ∧ w' = w := by
  by_cases h0 : 0 < s.size
  · by_cases h45 : s[0] = 45
    · exact l1Read_minus s hs h0 h45 w a b hr
    · exact l1Read_plain s hs h0 h45 w a b hr
  · have hl : bs s = [] := List.eq_nil_of_length_eq_zero (by rw [bs_len]; omega)
    have : (a, b) = ((0 : Int), false) := by rw [← hr.out, hl]; rfl
    obtain ⟨rfl, rfl⟩ := Prod.mk.inj this
    have hne : s.toList.isEmpty = true := by rw [bs_toList, hl]; rfl
    have e0 : (s.size : Int) = 0 := by omega
    have hsh : (s.size : Int) < 1 := by omega
    have ew : IntKind.i64.wrap ((s.size : Int) - 0) = (s.size : Int) := by rw [IntKind.wrap_i64]; omega
    clear this hr
    go_enter Tryz.func85, Tryz.ntmps85
    go_wp2
    go_ret2
    exact ⟨rfl, rfl⟩
end Go.Proofs.YtaabmkhckbndgaaGreatDoor.cm
