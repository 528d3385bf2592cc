/- Contracts of the model's helpers on texts: a number is read. -/
import Derived.Test.YtefmndjoailemaaDoorCy3
import Derived.Test.YtefmndjoailemaaDoorCz1
import Derived.Deep.LoopGhost
namespace Go.Proofs.YtefmndjoailemaaDoor.cm
open Go.ChangeShapes Go.WideShapes Go.ChangeAt Go.RowKit
open Go.Proofs.YtefmndjoailemaaDoor.ce Go.Proofs.YtefmndjoailemaaDoor.ro Go.Proofs.YtefmndjoailemaaDoor.rg
set_option linter.unusedVariables false

theorem rdF_minus {r : List UInt8} : rdF (45 :: r) = if canon r = true ∧ r.head? ≠ some 48 then (-((val 0 r : Nat) : Int), true) else (0, false) := rfl
theorem rdF_plain {l : List UInt8} (h : l.head? ≠ some 45) : rdF l = if canon l = true then (((val 0 l : Nat) : Int), true) else (0, false) := by
  unfold rdF
  rw [if_neg h]
theorem val9 {l : List UInt8} {k n : Nat} (h : Rdn l k n) (hk : k ≤ l.length) (h9 : l.length ≤ 9) : n < 1000000000 := by
  have h1 := rdn_lt h hk
  have h2 : (10 : Nat) ^ k ≤ 10 ^ 9 := Nat.pow_le_pow_right (by decide) (by omega)
  omega
theorem head_at {s : ByteArray} (h : 0 < s.size) : (bs s).head? = some s[0] := by
  have : 0 < (bs s).length := by rw [bs_len]; exact h
  rw [List.head?_eq_getElem?, List.getElem?_eq_getElem this]
  rfl

set_option maxRecDepth 100000 in
set_option maxHeartbeats 1000000 in
theorem l1Read_plain (s : ByteArray) (hs : s.size ≤ 1048576) (h0 : 0 < s.size) (h45 : s[0] ≠ 45) (w : World) (a : Int) (b : Bool) (hr : Hid (rdF (bs s) = (a, b))) :
    Calls Tryd.prog 33 #[.string s] w fun e w' => e = .returned (.tuple #[.int .i64 a, .bool b]) ∧ w' = w := by
  have hne : s.toList.isEmpty = false := by
    have : s.toList.length = s.size := by rw [bs_toList, bs_len]
    cases hl : s.toList with
    | nil => rw [hl] at this; simp at this; omega
    | cons x r => rfl
  have h0' : (0 : Int) < (s.size : Int) := by omega
  obtain ⟨c0, hc0⟩ : ∃ n : Nat, s[0].toNat = n := ⟨_, rfl⟩
  have h45b : ((s[0].toNat : Int) == 45) = false := by
    simp
    intro h
    exact h45 (UInt8.toNat_inj.1 (by show s[0].toNat = 45; omega))
  obtain ⟨t, ht⟩ : ∃ t, bs s = t := ⟨_, rfl⟩
  have hlt : t.length = s.size := by rw [← ht]; exact bs_len s
  have HR : Hid ((if canon t = true then (((val 0 t : Nat) : Int), true) else (0, false)) = (a, b)) := by
    have := hr.out
    rw [rdF_plain (by rw [head_at h0]; simp; exact h45), ht] at this
    exact this
  have hat : Hid (∀ i (h : i < t.length) (h2 : i < s.size), t[i] = s[i]) := fun i h h2 => by
    have e : (bs s)[i]'(by rw [bs_len]; exact h2) = s[i] := rfl
    rw [← e]
    simp [ht]
  have HL : Hid (t.length = s.size) := hlt
  clear hr h45 ht hlt hc0
  have no : canon t = false → a = 0 ∧ b = false := fun h => by
    have := HR.out
    rw [h] at this
    simp at this
    exact ⟨this.1.symm, by simpa using this.2⟩
  have NO : Hid (canon t = false → a = 0 ∧ b = false) := no
  clear no
  have ew : IntKind.i64.wrap ((s.size : Int) - 0) = (s.size : Int) := by rw [IntKind.wrap_i64]; omega
  by_cases hsh : (s.size : Int) < 1
  · obtain ⟨rfl, rfl⟩ := NO.out (canon_len (by have := HL.out; omega))
    go_enter Tryd.func33, Tryd.ntmps33
    go_wp2
    go_ret2
    exact ⟨rfl, rfl⟩
  by_cases hlg : 9 < (s.size : Int)
  · obtain ⟨rfl, rfl⟩ := NO.out (canon_len (by have := HL.out; omega))
    go_enter Tryd.func33, Tryd.ntmps33
    go_wp2
    go_ret2
    exact ⟨rfl, rfl⟩
  go_enter Tryd.func33, Tryd.ntmps33
  go_wp2
  go_loop [6, 7] (fun q p => ∃ k n : Nat, p = .int .i64 k ∧ q = .int .i64 n ∧ 0 ≤ k ∧ k ≤ s.size ∧ Hid (Rdn t (k - 0) n)) (fun _ p => s.size - (intOf p).toNat)
  case atStart => exact ⟨0, 0, rfl, rfl, by omega, by omega, rdn_start t⟩
  case round =>
    obtain ⟨k, n, rfl, rfl, hk1, hk2, hR⟩ := hrel
    have hn9 : n < 1000000000 := val9 hR.out (by have := HL.out; omega) (by have := HL.out; omega)
    by_cases hkl : k < s.size
    · have hkl' : (k : Int) < (s.size : Int) := by omega
      have hcl := UInt8.toNat_lt s[k]
      have hst : isD s[k] = true → Rdn t (k - 0 + 1) (n * 10 + (s[k].toNat - 48)) := fun h => by
        have hl := HL.out
        have e : t[k - 0]'(by omega) = s[k] := by
          have := hat.out (k - 0) (by omega) (by omega)
          simpa [show k - 0 + 0 = k by omega] using this
        have := rdn_step hR.out (by omega) (by rw [e]; exact h)
        rw [e] at this
        exact this
      have hst0 : isD s[k] = false → canon t = false := fun h => by
        have hl := HL.out
        have e : t[k - 0]'(by omega) = s[k] := by
          have := hat.out (k - 0) (by omega) (by omega)
          simpa [show k - 0 + 0 = k by omega] using this
        exact rdn_not (k := k - 0) (by omega) (by rw [e]; exact h)
      obtain ⟨c, hc⟩ : ∃ c : Nat, s[k].toNat = c := ⟨_, rfl⟩
      unfold isD at hst hst0
      rw [hc] at hst hst0 hcl
      have hcc : (s[k].toNat : Int) = (c : Int) := by omega
      have HS : Hid ((decide (48 ≤ c) && decide (c ≤ 57)) = true → Rdn t (k - 0 + 1) (n * 10 + (c - 48))) := hst
      have HS0 : Hid ((decide (48 ≤ c) && decide (c ≤ 57)) = false → canon t = false) := hst0
      clear hst hst0 hc
      by_cases h1 : (c : Int) < 48
      · obtain ⟨rfl, rfl⟩ := NO.out (HS0.out (by rw [decide_eq_false (show ¬ 48 ≤ c by omega)]; rfl))
        go_wp2
        go_ret2
        exact ⟨rfl, rfl⟩
      · by_cases h2 : (57 : Int) < (c : Int)
        · obtain ⟨rfl, rfl⟩ := NO.out (HS0.out (by rw [decide_eq_false (show ¬ c ≤ 57 by omega), Bool.and_false]))
          go_wp2
          go_ret2
          exact ⟨rfl, rfl⟩
        · have hst2 := HS.out (by rw [decide_eq_true (show 48 ≤ c by omega), decide_eq_true (show c ≤ 57 by omega)]; rfl)
          obtain ⟨m, hm⟩ := hid_ex (n * 10 + (c - 48))
          rw [hm.out] at hst2
          have HS2 : Hid (Rdn t (k + 1 - 0) m) := by unfold Hid; rw [show k + 1 - 0 = k - 0 + 1 by omega]; exact hst2
          have e1 : IntKind.u8.wrap ((c : Int) - 48) = (c : Int) - 48 := by rw [IntKind.wrap_u8]; omega
          have e2 : IntKind.i64.wrap ((n : Int) * 10) = (n : Int) * 10 := by rw [IntKind.wrap_i64]; omega
          have e3 : IntKind.i64.wrap ((c : Int) - 48) = (c : Int) - 48 := by rw [IntKind.wrap_i64]; omega
          have e4 : IntKind.i64.wrap ((n : Int) * 10 + ((c : Int) - 48)) = (m : Int) := by rw [IntKind.wrap_i64]; have := hm.out; omega
          clear hst2 HS HS0
          go_wp2
          go_round
          case rel => exact ⟨k + 1, m, by go_num, rfl, by omega, by omega, HS2⟩
          case measure => simp [intOf]; omega
    · have hkl' : ¬ (k : Int) < (s.size : Int) := by omega
      have hend := rdn_end (l := t) (n := n) (by have := hR.out; rw [show k - 0 = t.length by have := HL.out; omega] at this; exact this) (by have := HL.out; omega) (by have := HL.out; omega)
      have hh : t.head? = some s[0] := by
        have hl := HL.out
        have e := hat.out 0 (by omega) (by omega)
        rw [List.head?_eq_getElem?, List.getElem?_eq_getElem (by omega), e]
      obtain ⟨d, hd⟩ : ∃ c : Nat, s[0].toNat = c := ⟨_, rfl⟩
      have hdd : (s[0].toNat : Int) = (d : Int) := by omega
      by_cases h48 : d = 48
      · have hb : ((d : Int) == 48) = true := by simp; omega
        have h48' : t.head? = some 48 := by rw [hh]; exact congrArg some (UInt8.toNat_inj.1 (by show s[0].toNat = 48; omega))
        by_cases hl1 : (1 : Int) < (s.size : Int)
        · obtain ⟨rfl, rfl⟩ := NO.out (by rw [hend.2, h48', decide_eq_true (show 1 < t.length by have := HL.out; omega)]; rfl)
          clear hend hh hd h48 h48'
          go_wp2
          go_ret2
          exact ⟨rfl, rfl⟩
        · have : (a, b) = ((n : Int), true) := by
            rw [← HR.out, if_pos (by rw [hend.2, decide_eq_false (show ¬ 1 < t.length by have := HL.out; omega), Bool.and_false]; rfl), hend.1]
          obtain ⟨rfl, rfl⟩ := Prod.mk.inj this
          clear hend hh hd h48 this h48'
          go_wp2
          go_ret2
          exact ⟨rfl, rfl⟩
      · have hb : ((d : Int) == 48) = false := by simp; omega
        have h48' : t.head? ≠ some 48 := fun q => by
          rw [hh] at q
          have := Option.some.inj q
          rw [this] at hd
          exact h48 hd.symm
        have : (a, b) = ((n : Int), true) := by
          rw [← HR.out, if_pos (by rw [hend.2, show (t.head? == some 48) = false by simpa using h48']; rfl), hend.1]
        obtain ⟨rfl, rfl⟩ := Prod.mk.inj this
        clear hend hh hd h48 this h48'
        go_wp2
        go_ret2
        exact ⟨rfl, rfl⟩

set_option maxRecDepth 100000 in
set_option maxHeartbeats 1000000 in
theorem l1Read_minus (s : ByteArray) (hs : s.size ≤ 1048576) (h0 : 0 < s.size) (h45 : s[0] = 45) (w : World) (a : Int) (b : Bool) (hr : Hid (rdF (bs s) = (a, b))) :
    Calls Tryd.prog 33 #[.string s] w fun e w' => e = .returned (.tuple #[.int .i64 a, .bool b]) ∧ w' = w := by
  have hne : s.toList.isEmpty = false := by
    have : s.toList.length = s.size := by rw [bs_toList, bs_len]
    cases hl : s.toList with
    | nil => rw [hl] at this; simp at this; omega
    | cons x r => rfl
  have h0' : (0 : Int) < (s.size : Int) := by omega
  obtain ⟨c0, hc0⟩ : ∃ n : Nat, s[0].toNat = n := ⟨_, rfl⟩
  have h45b : ((s[0].toNat : Int) == 45) = true := by rw [h45]; rfl
  obtain ⟨t, ht⟩ : ∃ t, bs s = 45 :: t := by
    have := head_at h0
    rw [h45] at this
    cases hb : bs s with
    | nil => rw [hb] at this; simp at this
    | cons x r => rw [hb] at this; simp at this; exact ⟨r, by rw [this]⟩
  have hlt : t.length = s.size - 1 := by have := bs_len s; rw [ht] at this; simp at this; omega
  have HR : Hid ((if canon t = true ∧ t.head? ≠ some 48 then (-((val 0 t : Nat) : Int), true) else (0, false)) = (a, b)) := by
    have := hr.out
    rw [ht, rdF_minus] at this
    exact this
  have hat : Hid (∀ i (h : i < t.length) (h2 : i + 1 < s.size), t[i] = s[i + 1]) := fun i h h2 => by
    have e : (bs s)[i + 1]'(by rw [bs_len]; exact h2) = s[i + 1] := rfl
    rw [← e]
    simp [ht]
  have HL : Hid (t.length = s.size - 1) := hlt
  clear hr h45 ht hlt hc0
  have no : canon t = false → a = 0 ∧ b = false := fun h => by
    have := HR.out
    rw [h] at this
    simp at this
    exact ⟨this.1.symm, by simpa using this.2⟩
  have NO : Hid (canon t = false → a = 0 ∧ b = false) := no
  clear no
  have ew : IntKind.i64.wrap ((s.size : Int) - 1) = (s.size : Int) - 1 := by rw [IntKind.wrap_i64]; omega
  by_cases hsh : (s.size : Int) - 1 < 1
  · obtain ⟨rfl, rfl⟩ := NO.out (canon_len (by have := HL.out; omega))
    go_enter Tryd.func33, Tryd.ntmps33
    go_wp2
    go_ret2
    exact ⟨rfl, rfl⟩
  by_cases hlg : 9 < (s.size : Int) - 1
  · obtain ⟨rfl, rfl⟩ := NO.out (canon_len (by have := HL.out; omega))
    go_enter Tryd.func33, Tryd.ntmps33
    go_wp2
    go_ret2
    exact ⟨rfl, rfl⟩
  go_enter Tryd.func33, Tryd.ntmps33
  go_wp2
  go_loop [6, 7] (fun q p => ∃ k n : Nat, p = .int .i64 k ∧ q = .int .i64 n ∧ 1 ≤ k ∧ k ≤ s.size ∧ Hid (Rdn t (k - 1) n)) (fun _ p => s.size - (intOf p).toNat)
  case atStart => exact ⟨1, 0, rfl, rfl, by omega, by omega, rdn_start t⟩
  case round =>
    obtain ⟨k, n, rfl, rfl, hk1, hk2, hR⟩ := hrel
    have hn9 : n < 1000000000 := val9 hR.out (by have := HL.out; omega) (by have := HL.out; omega)
    by_cases hkl : k < s.size
    · have hkl' : (k : Int) < (s.size : Int) := by omega
      have hcl := UInt8.toNat_lt s[k]
      have hst : isD s[k] = true → Rdn t (k - 1 + 1) (n * 10 + (s[k].toNat - 48)) := fun h => by
        have hl := HL.out
        have e : t[k - 1]'(by omega) = s[k] := by
          have := hat.out (k - 1) (by omega) (by omega)
          simpa [show k - 1 + 1 = k by omega] using this
        have := rdn_step hR.out (by omega) (by rw [e]; exact h)
        rw [e] at this
        exact this
      have hst0 : isD s[k] = false → canon t = false := fun h => by
        have hl := HL.out
        have e : t[k - 1]'(by omega) = s[k] := by
          have := hat.out (k - 1) (by omega) (by omega)
          simpa [show k - 1 + 1 = k by omega] using this
        exact rdn_not (k := k - 1) (by omega) (by rw [e]; exact h)
      obtain ⟨c, hc⟩ : ∃ c : Nat, s[k].toNat = c := ⟨_, rfl⟩
      unfold isD at hst hst0
      rw [hc] at hst hst0 hcl
      have hcc : (s[k].toNat : Int) = (c : Int) := by omega
      have HS : Hid ((decide (48 ≤ c) && decide (c ≤ 57)) = true → Rdn t (k - 1 + 1) (n * 10 + (c - 48))) := hst
      have HS0 : Hid ((decide (48 ≤ c) && decide (c ≤ 57)) = false → canon t = false) := hst0
      clear hst hst0 hc
      by_cases h1 : (c : Int) < 48
      · obtain ⟨rfl, rfl⟩ := NO.out (HS0.out (by rw [decide_eq_false (show ¬ 48 ≤ c by omega)]; rfl))
        go_wp2
        go_ret2
        exact ⟨rfl, rfl⟩
      · by_cases h2 : (57 : Int) < (c : Int)
        · obtain ⟨rfl, rfl⟩ := NO.out (HS0.out (by rw [decide_eq_false (show ¬ c ≤ 57 by omega), Bool.and_false]))
          go_wp2
          go_ret2
          exact ⟨rfl, rfl⟩
        · have hst2 := HS.out (by rw [decide_eq_true (show 48 ≤ c by omega), decide_eq_true (show c ≤ 57 by omega)]; rfl)
          obtain ⟨m, hm⟩ := hid_ex (n * 10 + (c - 48))
          rw [hm.out] at hst2
          have HS2 : Hid (Rdn t (k + 1 - 1) m) := by unfold Hid; rw [show k + 1 - 1 = k - 1 + 1 by omega]; exact hst2
          have e1 : IntKind.u8.wrap ((c : Int) - 48) = (c : Int) - 48 := by rw [IntKind.wrap_u8]; omega
          have e2 : IntKind.i64.wrap ((n : Int) * 10) = (n : Int) * 10 := by rw [IntKind.wrap_i64]; omega
          have e3 : IntKind.i64.wrap ((c : Int) - 48) = (c : Int) - 48 := by rw [IntKind.wrap_i64]; omega
          have e4 : IntKind.i64.wrap ((n : Int) * 10 + ((c : Int) - 48)) = (m : Int) := by rw [IntKind.wrap_i64]; have := hm.out; omega
          clear hst2 HS HS0
          go_wp2
          go_round
          case rel => exact ⟨k + 1, m, by go_num, rfl, by omega, by omega, HS2⟩
          case measure => simp [intOf]; omega
    · have hkl' : ¬ (k : Int) < (s.size : Int) := by omega
      have hend := rdn_end (l := t) (n := n) (by have := hR.out; rw [show k - 1 = t.length by have := HL.out; omega] at this; exact this) (by have := HL.out; omega) (by have := HL.out; omega)
      have hh : t.head? = some s[1] := by
        have hl := HL.out
        have e := hat.out 0 (by omega) (by omega)
        rw [List.head?_eq_getElem?, List.getElem?_eq_getElem (by omega), e]
      obtain ⟨d, hd⟩ : ∃ c : Nat, s[1].toNat = c := ⟨_, rfl⟩
      have hdd : (s[1].toNat : Int) = (d : Int) := by omega
      have h1' : (1 : Int) < (s.size : Int) := by omega
      by_cases h48 : d = 48
      · have hb : ((d : Int) == 48) = true := by simp; omega
        have : (a, b) = ((0 : Int), false) := by
          rw [← HR.out, if_neg]
          rintro ⟨-, q⟩
          exact q (by rw [hh]; exact congrArg some (UInt8.toNat_inj.1 (by show s[1].toNat = 48; omega)))
        obtain ⟨rfl, rfl⟩ := Prod.mk.inj this
        clear hend hh hd h48 this
        go_wp2
        go_ret2
        exact ⟨rfl, rfl⟩
      · have hb : ((d : Int) == 48) = false := by simp; omega
        have h48' : t.head? ≠ some 48 := fun q => by
          rw [hh] at q
          have := Option.some.inj q
          rw [this] at hd
          exact h48 hd.symm
        have : (a, b) = (-(n : Int), true) := by
          rw [← HR.out, if_pos ⟨by rw [hend.2, show (t.head? == some 48) = false by simpa using h48']; rfl, h48'⟩, hend.1]
        obtain ⟨rfl, rfl⟩ := Prod.mk.inj this
        have e5 : IntKind.i64.wrap (-(n : Int)) = -(n : Int) := by rw [IntKind.wrap_i64]; omega
        clear hend hh hd h48 this h48'
        go_wp2
        go_ret2
        exact ⟨rfl, rfl⟩

set_option maxHeartbeats 1000000 in
theorem l1Read_is (s : ByteArray) (hs : s.size ≤ 1048576) (w : World) (a : Int) (b : Bool) (hr : Hid (rdF (bs s) = (a, b))) :
    Calls Tryd.prog 33 #[.string s] w fun e w' => e = .returned (.tuple #[.int .i64 a, .bool b]) ∧ w' = w := by
  by_cases h0 : 0 < s.size
  · by_cases h45 : s[0] = 45
    · exact l1Read_minus s hs h0 h45 w a b hr
    · exact l1Read_plain s hs h0 h45 w a b hr
  · have hl : bs s = [] := List.eq_nil_of_length_eq_zero (by rw [bs_len]; omega)
    have : (a, b) = ((0 : Int), false) := by rw [← hr.out, hl]; rfl
    obtain ⟨rfl, rfl⟩ := Prod.mk.inj this
    have hne : s.toList.isEmpty = true := by rw [bs_toList, hl]; rfl
    have e0 : (s.size : Int) = 0 := by omega
    have hsh : (s.size : Int) < 1 := by omega
    have ew : IntKind.i64.wrap ((s.size : Int) - 0) = (s.size : Int) := by rw [IntKind.wrap_i64]; omega
    clear this hr
    go_enter Tryd.func33, Tryd.ntmps33
    go_wp2
    go_ret2
    exact ⟨rfl, rfl⟩
end Go.Proofs.YtefmndjoailemaaDoor.cm
