/- Rows of texts, of truths, of texts with truths; names, the model's and the program's. -/
import Derived.Test.YtmnjmghlkiljhaaRo1
import Derived.Test.YtmnjmghlkiljhaaRx0
import Derived.BigQuiet
namespace Go.Proofs.Ytmnjmghlkiljhaa.rg
open Go.ChangeShapes Go.WideShapes Go.ChangeAt Go.RowKit
open Go.Proofs.Ytmnjmghlkiljhaa.ce Go.Proofs.Ytmnjmghlkiljhaa.ro
set_option linter.unusedVariables false

def encS : Enc ByteArray := ⟨fun s => [.string s], 1, 9, fun _ => rfl, fun s v hv => by rw [List.mem_singleton.1 hv]; rfl, by decide⟩
def encB : Enc Bool := ⟨fun s => [.bool s], 1, 4, fun _ => rfl, fun s v hv => by rw [List.mem_singleton.1 hv]; rfl, by decide⟩
theorem infoS : Info encS := by
  have h : (Try.prog.info? 9).map (fun i => (i.zero, i.size, i.bytes)) = some (some (.string ⟨#[]⟩), 1, 16) := by kernel_rfl
  obtain ⟨i, hi, hz⟩ := Option.map_eq_some_iff.1 h
  simp only [Prod.mk.injEq] at hz
  exact ⟨i, _, hi, hz.1, hz.2.1, by omega, rfl⟩
theorem infoB : Info encB := by
  have h : (Try.prog.info? 4).map (fun i => (i.zero, i.size, i.bytes)) = some (some (.bool false), 1, 1) := by kernel_rfl
  obtain ⟨i, hi, hz⟩ := Option.map_eq_some_iff.1 h
  simp only [Prod.mk.injEq] at hz
  exact ⟨i, _, hi, hz.1, hz.2.1, by omega, rfl⟩
theorem rdS_cell {w : World} {n cap : Nat} {a : Option Addr} {xs : List ByteArray} (r : Rd encS w (.slice a n cap) xs) (i : Nat) (hi : i < xs.length) : ∃ b off, a = some ⟨b, off, none⟩ ∧ b < w.heap.size ∧ w.cell? ⟨b, off + i, none⟩ = some (.string xs[i]) := by
  obtain ⟨b, off, e, h1, h2⟩ := r.cell i 0 hi (show 0 < 1 by decide)
  exact ⟨b, off, e, h1, by simpa [encS] using h2⟩
theorem rdB_cell {w : World} {n cap : Nat} {a : Option Addr} {xs : List Bool} (r : Rd encB w (.slice a n cap) xs) (i : Nat) (hi : i < xs.length) : ∃ b off, a = some ⟨b, off, none⟩ ∧ b < w.heap.size ∧ w.cell? ⟨b, off + i, none⟩ = some (.bool xs[i]) := by
  obtain ⟨b, off, e, h1, h2⟩ := r.cell i 0 hi (show 0 < 1 by decide)
  exact ⟨b, off, e, h1, by simpa [encB] using h2⟩
theorem ownS_cell {w : World} {lo hi n cap : Nat} {a : Option Addr} {xs : List ByteArray} (o : Own encS w lo hi (.slice a n cap) xs) (i : Nat) (h : i < xs.length) : ∃ g, a = some ⟨g, 0, none⟩ ∧ (lo ≤ g ∧ g < hi) ∧ w.cell? ⟨g, i, none⟩ = some (.string xs[i]) ∧ w.frozen? ⟨g, i, none⟩ = false := by
  obtain ⟨g, e, h1, h2, h3⟩ := o.cell i 0 h (show 0 < 1 by decide)
  exact ⟨g, e, h1, by simpa [encS] using h2, by simpa [encS] using h3⟩
theorem ownB_cell {w : World} {lo hi n cap : Nat} {a : Option Addr} {xs : List Bool} (o : Own encB w lo hi (.slice a n cap) xs) (i : Nat) (h : i < xs.length) : ∃ g, a = some ⟨g, 0, none⟩ ∧ (lo ≤ g ∧ g < hi) ∧ w.cell? ⟨g, i, none⟩ = some (.bool xs[i]) ∧ w.frozen? ⟨g, i, none⟩ = false := by
  obtain ⟨g, e, h1, h2, h3⟩ := o.cell i 0 h (show 0 < 1 by decide)
  exact ⟨g, e, h1, by simpa [encB] using h2, by simpa [encB] using h3⟩
theorem ownS_set {w : World} {lo hi g n cap : Nat} {xs : List ByteArray} (o : Own encS w lo hi (.slice (some ⟨g, 0, none⟩) n cap) xs) (i : Nat) (h : i < xs.length) (x : ByteArray) : Own encS (w.setCell ⟨g, i, none⟩ (.string x)) lo hi (.slice (some ⟨g, 0, none⟩) n cap) (xs.set i x) := by
  have := o.set i 0 h (show 0 < 1 by decide) (.string x) x rfl
  simpa [encS] using this
theorem ownB_set {w : World} {lo hi g n cap : Nat} {xs : List Bool} (o : Own encB w lo hi (.slice (some ⟨g, 0, none⟩) n cap) xs) (i : Nat) (h : i < xs.length) (x : Bool) : Own encB (w.setCell ⟨g, i, none⟩ (.bool x)) lo hi (.slice (some ⟨g, 0, none⟩) n cap) (xs.set i x) := by
  have := o.set i 0 h (show 0 < 1 by decide) (.bool x) x rfl
  simpa [encB] using this
theorem hid_ex {β : Type} (x : β) : ∃ y, Hid (x = y) := ⟨x, rfl⟩
theorem bytes_inj {a b : ByteArray} (h : a.data.toList = b.data.toList) : a = b := by
  cases a; cases b; simp at h; rw [h]
theorem str_eq {a b : ByteArray} (h : a.toList = b.toList) : a = b := bytes_inj (by rw [← ByteArray.toList_eq, ← ByteArray.toList_eq]; exact h)

theorem in_is (x lo hi : Int) (y : Bool) (h : (decide (lo ≤ x) && decide (x ≤ hi)) = y) (w : World) : Calls Try.prog 69 #[.int .i64 x, .int .i64 lo, .int .i64 hi] w fun e w' => e = .returned (.bool y) ∧ w' = w := by
  by_cases h1 : lo ≤ x
  · by_cases h3 : x ≤ hi
    · rw [decide_eq_true h1, decide_eq_true h3] at h
      subst h
      go_enter Try.func69, Try.ntmps69
      go_wp2
      go_ret
      exact ⟨rfl, rfl⟩
    · rw [decide_eq_true h1, decide_eq_false h3] at h
      subst h
      go_enter Try.func69, Try.ntmps69
      go_wp2
      go_ret
      exact ⟨rfl, rfl⟩
  · rw [decide_eq_false h1] at h
    subst h
    go_enter Try.func69, Try.ntmps69
    go_wp2
    go_ret
    exact ⟨rfl, rfl⟩

theorem isNameByte_any (c : UInt8) (w : World) : Calls Try.prog 96 #[.int .u8 c.toNat] w fun e w' => e = .returned (.bool (nbB c)) ∧ w' = w := by
  obtain ⟨z, hz⟩ := hid_ex (nbB c)
  rw [hz.out]
  replace hz := hz.out
  unfold nbB at hz
  obtain ⟨n, hn⟩ : ∃ n : Int, (c.toNat : Int) = n := ⟨_, rfl⟩
  rw [hn] at hz ⊢
  clear hn
  by_cases h1 : 97 ≤ n <;> by_cases h2 : n ≤ 122 <;> by_cases h3 : 48 ≤ n <;> by_cases h4 : n ≤ 57 <;> by_cases h5 : n = 45 <;> first | omega | skip
  all_goals
    have h5b : (n == 45) = decide (n = 45) := rfl
    (first | rw [decide_eq_true h5] at h5b | rw [decide_eq_false h5] at h5b)
    (first | rw [decide_eq_true (show 97 ≤ n by omega)] at hz | rw [decide_eq_false (show ¬ 97 ≤ n by omega)] at hz)
    (first | rw [decide_eq_true (show n ≤ 122 by omega)] at hz | rw [decide_eq_false (show ¬ n ≤ 122 by omega)] at hz)
    (first | rw [decide_eq_true (show 48 ≤ n by omega)] at hz | rw [decide_eq_false (show ¬ 48 ≤ n by omega)] at hz)
    (first | rw [decide_eq_true (show n ≤ 57 by omega)] at hz | rw [decide_eq_false (show ¬ n ≤ 57 by omega)] at hz)
    rw [h5b] at hz
    subst hz
    go_enter Try.func96, Try.ntmps96
    go_wp2
    go_ret
    exact ⟨rfl, rfl⟩

theorem all_take_succ {s : ByteArray} {i : Nat} (hi : i < s.size) (h : (s.data.toList.take i).all nbB = true) : (s.data.toList.take (i + 1)).all nbB = nbB s[i] := by
  rw [List.take_succ_eq_append_getElem (by simpa using hi), List.all_append, h]
  simp
  rfl
theorem all_not {s : ByteArray} {i : Nat} (hi : i < s.size) (h : nbB s[i] = false) : nameB s = false := by
  unfold nameB
  have : s.data.toList.all nbB = false := by
    rw [List.all_eq_false]
    exact ⟨s[i], List.mem_iff_getElem.2 ⟨i, by simpa using hi, rfl⟩, by rw [h]; exact Bool.false_ne_true⟩
  rw [this]
  rfl
theorem all_yes {s : ByteArray} {i : Nat} (hi : ¬ i < s.size) (h : (s.data.toList.take i).all nbB = true) : (decide (1 ≤ (s.size : Int)) && decide ((s.size : Int) ≤ 12)) = nameB s := by
  rw [List.take_of_length_le (by simp; omega)] at h
  unfold nameB
  rw [h]
  rfl

theorem implNameOk_any (s : ByteArray) (hs : s.size ≤ 9223372036854775807) (w : World) : Calls Try.prog 50 #[.string s] w fun e w' => e = .returned (.bool (nameB s)) ∧ w' = w := by
  obtain ⟨z, hz⟩ := hid_ex (nameB s)
  rw [hz.out]
  by_cases h0 : s.size = 0
  · have ez : z = false := by rw [← hz.out]; unfold nameB; rw [h0]; simp
    subst ez
    have h0' : ((s.size : Int) == 0) = true := by simpa using h0
    go_enter Try.func50, Try.ntmps50
    go_wp2
    go_ret
    exact ⟨rfl, rfl⟩
  · have h0' : ((s.size : Int) == 0) = false := by simpa using h0
    by_cases h12 : 12 < (s.size : Int)
    · have ez : z = false := by rw [← hz.out]; unfold nameB; rw [decide_eq_false (show ¬ ((s.size : Int) ≤ 12) by omega)]; simp
      subst ez
      go_enter Try.func50, Try.ntmps50
      go_wp2
      go_ret
      exact ⟨rfl, rfl⟩
    · go_enter Try.func50, Try.ntmps50
      go_wp2
      go_loop [14] (fun v => ∃ i : Nat, i ≤ s.size ∧ v = .int .i64 i ∧ Hid ((s.data.toList.take i).all nbB = true)) (fun v => s.size - (intOf v).toNat)
      case atStart => exact ⟨0, by omega, rfl, rfl⟩
      case round =>
        obtain ⟨i, hi1, rfl, hA⟩ := hrel
        by_cases hlt : i < s.size
        · have hlt' : (i : Int) < (s.size : Int) := by omega
          cases hb : nbB s[i] with
          | true =>
            have hA2 : Hid ((s.data.toList.take (i + 1)).all nbB = true) := (all_take_succ hlt hA.out).trans hb
            go_wp2_with (first | (go_at_call 96; refine (isNameByte_any _ _).mono ?_; rintro e wq ⟨rfl, hq⟩; subst wq; rw [hb]) | (fail))
            go_round
            case rel => exact ⟨i + 1, by omega, by go_num, hA2⟩
            case measure => simp [intOf]; omega
          | false =>
            have ez : z = false := by rw [← hz.out]; exact all_not hlt hb
            subst ez
            go_wp2_with (first | (go_at_call 96; refine (isNameByte_any _ _).mono ?_; rintro e wq ⟨rfl, hq⟩; subst wq; rw [hb]) | (fail))
            go_ret
            exact ⟨rfl, rfl⟩
        · have hlt' : ¬ (i : Int) < (s.size : Int) := by omega
          have ez : z = true := by
            rw [← hz.out, ← all_yes hlt hA.out, decide_eq_true (show 1 ≤ (s.size : Int) by omega), decide_eq_true (show (s.size : Int) ≤ 12 by omega)]
            rfl
          subst ez
          go_wp2
          go_ret
          exact ⟨rfl, rfl⟩

theorem specNameOk_any (s : ByteArray) (hs : s.size ≤ 9223372036854775807) (w : World) : Calls Try.prog 25 #[.string s] w fun e w' => e = .returned (.bool (nameB s)) ∧ w' = w := by
  obtain ⟨z, hz⟩ := hid_ex (nameB s)
  rw [hz.out]
  go_enter Try.func25, Try.ntmps25
  go_wp2
  go_loop [3] (fun v => ∃ i : Nat, i ≤ s.size ∧ v = .int .i64 i ∧ Hid ((s.data.toList.take i).all nbB = true)) (fun v => s.size - (intOf v).toNat)
  case atStart => exact ⟨0, by omega, rfl, rfl⟩
  case round =>
    obtain ⟨i, hi1, rfl, hA⟩ := hrel
    by_cases hlt : i < s.size
    · have hlt' : (i : Int) < (s.size : Int) := by omega
      have hA2 := all_take_succ hlt hA.out
      have hN := all_not (s := s) hlt
      unfold nbB at hA2 hN
      obtain ⟨n, hn⟩ : ∃ n : Int, (s[i].toNat : Int) = n := ⟨_, rfl⟩
      rw [hn] at hA2 hN
      have h5b : (n == 45) = decide (n = 45) := rfl
      have h5c : (n != 45) = !decide (n = 45) := rfl
      by_cases h1 : n < 97 <;> by_cases h2 : 122 < n <;> by_cases h3 : n < 48 <;> by_cases h4 : 57 < n <;> by_cases h5 : n = 45 <;> first | omega | skip
      all_goals
        (first | rw [decide_eq_true h5] at h5b h5c | rw [decide_eq_false h5] at h5b h5c)
        (first | rw [decide_eq_true (show 97 ≤ n by omega)] at hA2 hN | rw [decide_eq_false (show ¬ 97 ≤ n by omega)] at hA2 hN)
        (first | rw [decide_eq_true (show n ≤ 122 by omega)] at hA2 hN | rw [decide_eq_false (show ¬ n ≤ 122 by omega)] at hA2 hN)
        (first | rw [decide_eq_true (show 48 ≤ n by omega)] at hA2 hN | rw [decide_eq_false (show ¬ 48 ≤ n by omega)] at hA2 hN)
        (first | rw [decide_eq_true (show n ≤ 57 by omega)] at hA2 hN | rw [decide_eq_false (show ¬ n ≤ 57 by omega)] at hA2 hN)
        rw [h5b] at hA2 hN
        first
          | (have ez : z = false := (by rw [← hz.out]; exact hN rfl)
             subst ez
             clear hA2 hN
             go_wp2
             go_ret
             exact ⟨rfl, rfl⟩)
          | (have hA3 : Hid ((s.data.toList.take (i + 1)).all nbB = true) := hA2
             clear hA2 hN
             go_wp2
             go_round
             case rel => exact ⟨i + 1, by omega, by go_num, hA3⟩
             case measure => simp [intOf]; omega)
    · have hlt' : ¬ (i : Int) < (s.size : Int) := by omega
      have hy : Hid ((decide (1 ≤ (s.size : Int)) && decide ((s.size : Int) ≤ 12)) = z) := (all_yes hlt hA.out).trans hz.out
      go_wp2_with (first | (go_at_call 69; refine (in_is _ 1 12 z hy.out _).mono ?_; rintro e wq ⟨rfl, hq⟩; subst wq) | (fail))
      go_ret
      exact ⟨rfl, rfl⟩
end Go.Proofs.Ytmnjmghlkiljhaa.rg
