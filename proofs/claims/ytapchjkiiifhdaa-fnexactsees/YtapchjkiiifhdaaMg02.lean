/- Texts laid together: Ro2 Ro3 Ro11 Qo1. -/
import Derived.Test.YtapchjkiiifhdaaMg01
import Derived.Test.YtapchjkiiifhdaaMg00
import Derived.BigQuiet
import Derived.Deep.RegionHeld3
/- Rows of texts, of truths, of texts with truths; names, the model's and the program's. -/
namespace Go.Proofs.Ytapchjkiiifhdaa.rg
open Go.ChangeShapes Go.WideShapes Go.ChangeAt Go.RowKit
open Go.Proofs.Ytapchjkiiifhdaa.ce Go.Proofs.Ytapchjkiiifhdaa.ro
set_option linter.unusedVariables false

def encS : Enc ByteArray := ⟨fun s => [.string s], 1, 9, fun _ => rfl, fun s v hv => by rw [List.mem_singleton.1 hv]; rfl, by decide⟩
def encB : Enc Bool := ⟨fun s => [.bool s], 1, 4, fun _ => rfl, fun s v hv => by rw [List.mem_singleton.1 hv]; rfl, by decide⟩
theorem infoS : Info encS := by
  have h : (Try.prog.info? 9).map (fun i => (i.zero, i.size, i.bytes)) = some (some (.string ⟨#[]⟩), 1, 16) := by kernel_rfl
  obtain ⟨i, hi, hz⟩ := Option.map_eq_some_iff.1 h
  simp only [Prod.mk.injEq] at hz
  exact ⟨i, _, hi, hz.1, hz.2.1, by omega, rfl⟩
theorem infoB : Info encB := by
  have h : (Try.prog.info? 4).map (fun i => (i.zero, i.size, i.bytes)) = some (some (.bool false), 1, 1) := by kernel_rfl
  obtain ⟨i, hi, hz⟩ := Option.map_eq_some_iff.1 h
  simp only [Prod.mk.injEq] at hz
  exact ⟨i, _, hi, hz.1, hz.2.1, by omega, rfl⟩
theorem rdS_cell {w : World} {n cap : Nat} {a : Option Addr} {xs : List ByteArray} (r : Rd encS w (.slice a n cap) xs) (i : Nat) (hi : i < xs.length) : ∃ b off, a = some ⟨b, off, none⟩ ∧ b < w.heap.size ∧ w.cell? ⟨b, off + i, none⟩ = some (.string xs[i]) := by
  obtain ⟨b, off, e, h1, h2⟩ := r.cell i 0 hi (show 0 < 1 by decide)
  exact ⟨b, off, e, h1, by simpa [encS] using h2⟩
theorem rdB_cell {w : World} {n cap : Nat} {a : Option Addr} {xs : List Bool} (r : Rd encB w (.slice a n cap) xs) (i : Nat) (hi : i < xs.length) : ∃ b off, a = some ⟨b, off, none⟩ ∧ b < w.heap.size ∧ w.cell? ⟨b, off + i, none⟩ = some (.bool xs[i]) := by
  obtain ⟨b, off, e, h1, h2⟩ := r.cell i 0 hi (show 0 < 1 by decide)
  exact ⟨b, off, e, h1, by simpa [encB] using h2⟩
theorem ownS_cell {w : World} {lo hi n cap : Nat} {a : Option Addr} {xs : List ByteArray} (o : Own encS w lo hi (.slice a n cap) xs) (i : Nat) (h : i < xs.length) : ∃ g, a = some ⟨g, 0, none⟩ ∧ (lo ≤ g ∧ g < hi) ∧ w.cell? ⟨g, i, none⟩ = some (.string xs[i]) ∧ w.frozen? ⟨g, i, none⟩ = false := by
  obtain ⟨g, e, h1, h2, h3⟩ := o.cell i 0 h (show 0 < 1 by decide)
  exact ⟨g, e, h1, by simpa [encS] using h2, by simpa [encS] using h3⟩
theorem ownB_cell {w : World} {lo hi n cap : Nat} {a : Option Addr} {xs : List Bool} (o : Own encB w lo hi (.slice a n cap) xs) (i : Nat) (h : i < xs.length) : ∃ g, a = some ⟨g, 0, none⟩ ∧ (lo ≤ g ∧ g < hi) ∧ w.cell? ⟨g, i, none⟩ = some (.bool xs[i]) ∧ w.frozen? ⟨g, i, none⟩ = false := by
  obtain ⟨g, e, h1, h2, h3⟩ := o.cell i 0 h (show 0 < 1 by decide)
  exact ⟨g, e, h1, by simpa [encB] using h2, by simpa [encB] using h3⟩
theorem ownS_set {w : World} {lo hi g n cap : Nat} {xs : List ByteArray} (o : Own encS w lo hi (.slice (some ⟨g, 0, none⟩) n cap) xs) (i : Nat) (h : i < xs.length) (x : ByteArray) : Own encS (w.setCell ⟨g, i, none⟩ (.string x)) lo hi (.slice (some ⟨g, 0, none⟩) n cap) (xs.set i x) := by
  have := o.set i 0 h (show 0 < 1 by decide) (.string x) x rfl
  simpa [encS] using this
theorem ownB_set {w : World} {lo hi g n cap : Nat} {xs : List Bool} (o : Own encB w lo hi (.slice (some ⟨g, 0, none⟩) n cap) xs) (i : Nat) (h : i < xs.length) (x : Bool) : Own encB (w.setCell ⟨g, i, none⟩ (.bool x)) lo hi (.slice (some ⟨g, 0, none⟩) n cap) (xs.set i x) := by
  have := o.set i 0 h (show 0 < 1 by decide) (.bool x) x rfl
  simpa [encB] using this
theorem hid_ex {β : Type} (x : β) : ∃ y, Hid (x = y) := ⟨x, rfl⟩
theorem bytes_inj {a b : ByteArray} (h : a.data.toList = b.data.toList) : a = b := by
  cases a; cases b; simp at h; rw [h]
theorem str_eq {a b : ByteArray} (h : a.toList = b.toList) : a = b := bytes_inj (by rw [← ByteArray.toList_eq, ← ByteArray.toList_eq]; exact h)

theorem in_is (x lo hi : Int) (y : Bool) (h : (decide (lo ≤ x) && decide (x ≤ hi)) = y) (w : World) : Calls Try.prog 91 #[.int .i64 x, .int .i64 lo, .int .i64 hi] w fun e w' => e = .returned (.bool y) ∧ w' = w := by
  by_cases h1 : lo ≤ x
  · by_cases h3 : x ≤ hi
    · rw [decide_eq_true h1, decide_eq_true h3] at h
      subst h
      go_enter Try.func91, Try.ntmps91
      go_wp2
      go_ret
      exact ⟨rfl, rfl⟩
    · rw [decide_eq_true h1, decide_eq_false h3] at h
      subst h
      go_enter Try.func91, Try.ntmps91
      go_wp2
      go_ret
      exact ⟨rfl, rfl⟩
  · rw [decide_eq_false h1] at h
    subst h
    go_enter Try.func91, Try.ntmps91
    go_wp2
    go_ret
    exact ⟨rfl, rfl⟩

theorem isNameByte_any (c : UInt8) (w : World) : Calls Try.prog 142 #[.int .u8 c.toNat] w fun e w' => e = .returned (.bool (nbB c)) ∧ w' = w := by
  obtain ⟨z, hz⟩ := hid_ex (nbB c)
  rw [hz.out]
  replace hz := hz.out
  unfold nbB at hz
  obtain ⟨n, hn⟩ : ∃ n : Int, (c.toNat : Int) = n := ⟨_, rfl⟩
  rw [hn] at hz ⊢
  clear hn
  by_cases h1 : 97 ≤ n <;> by_cases h2 : n ≤ 122 <;> by_cases h3 : 48 ≤ n <;> by_cases h4 : n ≤ 57 <;> by_cases h5 : n = 45 <;> first | omega | skip
  all_goals
    have h5b : (n == 45) = decide (n = 45) := rfl
    (first | rw [decide_eq_true h5] at h5b | rw [decide_eq_false h5] at h5b)
    (first | rw [decide_eq_true (show 97 ≤ n by omega)] at hz | rw [decide_eq_false (show ¬ 97 ≤ n by omega)] at hz)
    (first | rw [decide_eq_true (show n ≤ 122 by omega)] at hz | rw [decide_eq_false (show ¬ n ≤ 122 by omega)] at hz)
    (first | rw [decide_eq_true (show 48 ≤ n by omega)] at hz | rw [decide_eq_false (show ¬ 48 ≤ n by omega)] at hz)
    (first | rw [decide_eq_true (show n ≤ 57 by omega)] at hz | rw [decide_eq_false (show ¬ n ≤ 57 by omega)] at hz)
    rw [h5b] at hz
    subst hz
    go_enter Try.func142, Try.ntmps142
    go_wp2
    go_ret
    exact ⟨rfl, rfl⟩

theorem all_take_succ {s : ByteArray} {i : Nat} (hi : i < s.size) (h : (s.data.toList.take i).all nbB = true) : (s.data.toList.take (i + 1)).all nbB = nbB s[i] := by
  rw [List.take_succ_eq_append_getElem (by simpa using hi), List.all_append, h]
  simp
  rfl
theorem all_not {s : ByteArray} {i : Nat} (hi : i < s.size) (h : nbB s[i] = false) : nameB s = false := by
  unfold nameB
  have : s.data.toList.all nbB = false := by
    rw [List.all_eq_false]
    exact ⟨s[i], List.mem_iff_getElem.2 ⟨i, by simpa using hi, rfl⟩, by rw [h]; exact Bool.false_ne_true⟩
  rw [this]
  rfl
theorem all_yes {s : ByteArray} {i : Nat} (hi : ¬ i < s.size) (h : (s.data.toList.take i).all nbB = true) : (decide (1 ≤ (s.size : Int)) && decide ((s.size : Int) ≤ 12)) = nameB s := by
  rw [List.take_of_length_le (by simp; omega)] at h
  unfold nameB
  rw [h]
  rfl

theorem implNameOk_any (s : ByteArray) (hs : s.size ≤ 9223372036854775807) (w : World) : Calls Try.prog 82 #[.string s] w fun e w' => e = .returned (.bool (nameB s)) ∧ w' = w := by
  obtain ⟨z, hz⟩ := hid_ex (nameB s)
  rw [hz.out]
  by_cases h0 : s.size = 0
  · have ez : z = false := by rw [← hz.out]; unfold nameB; rw [h0]; simp
    subst ez
    have h0' : ((s.size : Int) == 0) = true := by simpa using h0
    go_enter Try.func82, Try.ntmps82
    go_wp2
    go_ret
    exact ⟨rfl, rfl⟩
  · have h0' : ((s.size : Int) == 0) = false := by simpa using h0
    by_cases h12 : 12 < (s.size : Int)
    · have ez : z = false := by rw [← hz.out]; unfold nameB; rw [decide_eq_false (show ¬ ((s.size : Int) ≤ 12) by omega)]; simp
      subst ez
      go_enter Try.func82, Try.ntmps82
      go_wp2
      go_ret
      exact ⟨rfl, rfl⟩
    · go_enter Try.func82, Try.ntmps82
      go_wp2
      go_loop [14] (fun v => ∃ i : Nat, i ≤ s.size ∧ v = .int .i64 i ∧ Hid ((s.data.toList.take i).all nbB = true)) (fun v => s.size - (intOf v).toNat)
      case atStart => exact ⟨0, by omega, rfl, rfl⟩
      case round =>
        obtain ⟨i, hi1, rfl, hA⟩ := hrel
        by_cases hlt : i < s.size
        · have hlt' : (i : Int) < (s.size : Int) := by omega
          cases hb : nbB s[i] with
          | true =>
            have hA2 : Hid ((s.data.toList.take (i + 1)).all nbB = true) := (all_take_succ hlt hA.out).trans hb
            go_wp2_with (first | (go_at_call 142; refine (isNameByte_any _ _).mono ?_; rintro e wq ⟨rfl, hq⟩; subst wq; rw [hb]) | (fail))
            go_round
            case rel => exact ⟨i + 1, by omega, by go_num, hA2⟩
            case measure => simp [intOf]; omega
          | false =>
            have ez : z = false := by rw [← hz.out]; exact all_not hlt hb
            subst ez
            go_wp2_with (first | (go_at_call 142; refine (isNameByte_any _ _).mono ?_; rintro e wq ⟨rfl, hq⟩; subst wq; rw [hb]) | (fail))
            go_ret
            exact ⟨rfl, rfl⟩
        · have hlt' : ¬ (i : Int) < (s.size : Int) := by omega
          have ez : z = true := by
            rw [← hz.out, ← all_yes hlt hA.out, decide_eq_true (show 1 ≤ (s.size : Int) by omega), decide_eq_true (show (s.size : Int) ≤ 12 by omega)]
            rfl
          subst ez
          go_wp2
          go_ret
          exact ⟨rfl, rfl⟩

theorem specNameOk_any (s : ByteArray) (hs : s.size ≤ 9223372036854775807) (w : World) : Calls Try.prog 60 #[.string s] w fun e w' => e = .returned (.bool (nameB s)) ∧ w' = w := by
  obtain ⟨z, hz⟩ := hid_ex (nameB s)
  rw [hz.out]
  go_enter Try.func60, Try.ntmps60
  go_wp2
  go_loop [3] (fun v => ∃ i : Nat, i ≤ s.size ∧ v = .int .i64 i ∧ Hid ((s.data.toList.take i).all nbB = true)) (fun v => s.size - (intOf v).toNat)
  case atStart => exact ⟨0, by omega, rfl, rfl⟩
  case round =>
    obtain ⟨i, hi1, rfl, hA⟩ := hrel
    by_cases hlt : i < s.size
    · have hlt' : (i : Int) < (s.size : Int) := by omega
      have hA2 := all_take_succ hlt hA.out
      have hN := all_not (s := s) hlt
      unfold nbB at hA2 hN
      obtain ⟨n, hn⟩ : ∃ n : Int, (s[i].toNat : Int) = n := ⟨_, rfl⟩
      rw [hn] at hA2 hN
      have h5b : (n == 45) = decide (n = 45) := rfl
      have h5c : (n != 45) = !decide (n = 45) := rfl
      by_cases h1 : n < 97 <;> by_cases h2 : 122 < n <;> by_cases h3 : n < 48 <;> by_cases h4 : 57 < n <;> by_cases h5 : n = 45 <;> first | omega | skip
      all_goals
        (first | rw [decide_eq_true h5] at h5b h5c | rw [decide_eq_false h5] at h5b h5c)
        (first | rw [decide_eq_true (show 97 ≤ n by omega)] at hA2 hN | rw [decide_eq_false (show ¬ 97 ≤ n by omega)] at hA2 hN)
        (first | rw [decide_eq_true (show n ≤ 122 by omega)] at hA2 hN | rw [decide_eq_false (show ¬ n ≤ 122 by omega)] at hA2 hN)
        (first | rw [decide_eq_true (show 48 ≤ n by omega)] at hA2 hN | rw [decide_eq_false (show ¬ 48 ≤ n by omega)] at hA2 hN)
        (first | rw [decide_eq_true (show n ≤ 57 by omega)] at hA2 hN | rw [decide_eq_false (show ¬ n ≤ 57 by omega)] at hA2 hN)
        rw [h5b] at hA2 hN
        first
          | (have ez : z = false := (by rw [← hz.out]; exact hN rfl)
             subst ez
             clear hA2 hN
             go_wp2
             go_ret
             exact ⟨rfl, rfl⟩)
          | (have hA3 : Hid ((s.data.toList.take (i + 1)).all nbB = true) := hA2
             clear hA2 hN
             go_wp2
             go_round
             case rel => exact ⟨i + 1, by omega, by go_num, hA3⟩
             case measure => simp [intOf]; omega)
    · have hlt' : ¬ (i : Int) < (s.size : Int) := by omega
      have hy : Hid ((decide (1 ≤ (s.size : Int)) && decide ((s.size : Int) ≤ 12)) = z) := (all_yes hlt hA.out).trans hz.out
      go_wp2_with (first | (go_at_call 91; refine (in_is _ 1 12 z hy.out _).mono ?_; rintro e wq ⟨rfl, hq⟩; subst wq) | (fail))
      go_ret
      exact ⟨rfl, rfl⟩
end Go.Proofs.Ytapchjkiiifhdaa.rg
/- Contracts: the place of a text in a row, right names, right rings: the model's. -/
namespace Go.Proofs.Ytapchjkiiifhdaa.rg
open Go.ChangeShapes Go.WideShapes Go.ChangeAt Go.RowKit
open Go.Proofs.Ytapchjkiiifhdaa.ce Go.Proofs.Ytapchjkiiifhdaa.ro
set_option linter.unusedVariables false

theorem l1At_any (N : List ByteArray) (s : ByteArray) (v : Value) (w : World) (r : Rd encS w v N) :
    Calls Try.prog 176 #[v, .string s] w fun e w' => e = .returned (.int .i64 (posS s N)) ∧ w' = w := by
  have hl := r.len
  obtain ⟨a, cap, rfl⟩ := r.form
  have R : Hid (Rd encS w (.slice a N.length cap) N) := r
  clear r
  obtain ⟨y, hy⟩ := hid_ex (posS s N)
  rw [hy.out]
  go_enter Try.func176, Try.ntmps176
  go_wp2
  go_loop [5] (fun p => ∃ i : Nat, i ≤ N.length ∧ p = .int .i64 i ∧ Hid (s ∉ N.take i)) (fun p => N.length - (intOf p).toNat)
  case atStart => exact ⟨0, by omega, rfl, (by unfold Hid; simp)⟩
  case round =>
    obtain ⟨i, hi1, rfl, hno⟩ := hrel
    by_cases hlt : i < N.length
    · obtain ⟨b, off, rfl, hb, d0⟩ := rdS_cell R.out i hlt
      have hlt' : (i : Int) < (N.length : Int) := by omega
      obtain ⟨z, hz⟩ := hid_ex (N[i])
      rw [hz.out] at d0
      by_cases he : z.toList = s.toList
      · have ey : y = i := by rw [← hy.out]; exact posS_at hlt (hz.out.trans (str_eq he)) hno.out
        subst ey
        have hbe : (z.toList == s.toList) = true := by simpa using he
        clear he
        go_wp2
        go_ret
        exact ⟨rfl, rfl⟩
      · have hno2 : Hid (s ∉ N.take (i + 1)) := by
          unfold Hid
          rw [List.take_succ_eq_append_getElem hlt, List.mem_append, hz.out, List.mem_singleton]
          rintro (h | h)
          · exact hno.out h
          · exact he (by rw [h])
        have hbe : (z.toList == s.toList) = false := by simpa using he
        clear he
        go_wp2
        go_round
        case rel => exact ⟨i + 1, by omega, by go_num, hno2⟩
        case measure => simp [intOf]; omega
    · have hlt' : ¬ (i : Int) < (N.length : Int) := by omega
      have ey : y = -1 := by
        have h := hno.out
        rw [List.take_of_length_le (by omega)] at h
        rw [← hy.out]; exact posS_no h
      subst ey
      go_wp2
      go_ret
      exact ⟨rfl, rfl⟩

theorem l8Names_any (N : List ByteArray) (v : Value) (w : World) (r : Rd encS w v N) (hs : ∀ s ∈ N, s.size ≤ 9223372036854775807) :
    Calls Try.prog 122 #[v] w fun e w' => e = .returned (.bool (namesB N)) ∧ w' = w := by
  have hl := r.len
  obtain ⟨a, cap, rfl⟩ := r.form
  have R : Hid (Rd encS w (.slice a N.length cap) N) := r
  have HS : Hid (∀ s ∈ N, s.size ≤ 9223372036854775807) := hs
  clear r hs
  obtain ⟨y, hy⟩ := hid_ex (namesB N)
  rw [hy.out]
  go_enter Try.func122, Try.ntmps122
  go_wp2
  go_loop [3] (fun p => ∃ i : Nat, i ≤ N.length ∧ p = .int .i64 i ∧ Hid (Pre N i)) (fun p => N.length - (intOf p).toNat)
  case atStart => exact ⟨0, by omega, rfl, pre_zero N⟩
  case round =>
    obtain ⟨i, hi1, rfl, hP⟩ := hrel
    by_cases hlt : i < N.length
    · obtain ⟨b, off, rfl, hb, d0⟩ := rdS_cell R.out i hlt
      have hlt' : (i : Int) < (N.length : Int) := by omega
      have hsz := HS.out N[i] (List.getElem_mem hlt)
      have hself := @posS_self N i hlt
      have hp1 := @pre_not1 N i hlt
      have hp2 := @pre_not2 N i hlt
      have hp3 := pre_succ hP.out hlt
      obtain ⟨z, hz⟩ := hid_ex (N[i])
      rw [hz.out] at d0 hsz hself hp1 hp2 hp3
      cases hn : nameB z with
      | false =>
        have ey : y = false := by rw [← hy.out]; exact hp1 hn
        subst ey
        clear hself hp1 hp2 hp3
        go_wp2_with (first | (go_at_call 60; refine (specNameOk_any _ hsz _).mono ?_; rintro e wq ⟨rfl, hq⟩; subst wq; rw [hn]) | (fail))
        go_ret
        exact ⟨rfl, rfl⟩
      | true =>
        obtain ⟨p, hp⟩ := hid_ex (posS z N)
        rw [hp.out] at hself
        by_cases he : p = i
        · have hP2 : Hid (Pre N (i + 1)) := hp3 hn (hself.1 he)
          have hne : ((p : Int) != (i : Int)) = false := by simpa using he
          clear hself hp1 hp2 hp3 he
          go_wp2_with (first | (go_at_call 60; refine (specNameOk_any _ hsz _).mono ?_; rintro e wq ⟨rfl, hq⟩; subst wq; rw [hn]) | (go_at_call 176; refine (l1At_any N _ _ _ R.out).mono ?_; rintro e wq ⟨rfl, hq⟩; subst wq; rw [hp.out]) | (fail))
          go_round
          case rel => exact ⟨i + 1, by omega, by go_num, hP2⟩
          case measure => simp [intOf]; omega
        · have ey : y = false := by
            rw [← hy.out]
            exact hp2 (Classical.byContradiction fun h => he (hself.2 h))
          subst ey
          have hne : ((p : Int) != (i : Int)) = true := by simpa using he
          clear hself hp1 hp2 hp3 he
          go_wp2_with (first | (go_at_call 60; refine (specNameOk_any _ hsz _).mono ?_; rintro e wq ⟨rfl, hq⟩; subst wq; rw [hn]) | (go_at_call 176; refine (l1At_any N _ _ _ R.out).mono ?_; rintro e wq ⟨rfl, hq⟩; subst wq; rw [hp.out]) | (fail))
          go_ret
          exact ⟨rfl, rfl⟩
    · have hlt' : ¬ (i : Int) < (N.length : Int) := by omega
      have hP2 := hP.out
      rw [show i = N.length by omega] at hP2
      have ey := (pre_all hP2).symm.trans hy.out
      clear hP2
      by_cases h20 : (N.length : Int) ≤ 20
      · rw [decide_eq_true h20] at ey
        subst ey
        go_wp2
        go_ret
        exact ⟨rfl, rfl⟩
      · rw [decide_eq_false h20] at ey
        subst ey
        go_wp2
        go_ret
        exact ⟨rfl, rfl⟩

/-- a ring is read -/
structure RdR (w : World) (vN vU : Value) (r : Rg) : Prop where
  n : Rd encS w vN r.N
  u : Rd encB w vU r.U
  s : ∀ s ∈ r.N, s.size ≤ 9223372036854775807
theorem RdR.grow {w w' : World} {vN vU : Value} {r : Rg} (h : RdR w vN vU r) (hb : Below w.heap.size w w') : RdR w' vN vU r := ⟨h.n.grow hb, h.u.grow hb, h.s⟩
/-- a ring is owned -/
structure OwnR (w : World) (lo hi : Nat) (vN vU : Value) (r : Rg) : Prop where
  n : Own encS w lo hi vN r.N
  u : Own encB w lo hi vU r.U
theorem OwnR.grow {w w' : World} {lo hi : Nat} {vN vU : Value} {r : Rg} (h : OwnR w lo hi vN vU r) (hb : Below w.heap.size w w') : OwnR w' lo hi vN vU r := ⟨h.n.grow hb, h.u.grow hb⟩
theorem OwnR.within {w w' : World} {lo hi l2 h2 : Nat} {vN vU : Value} {r : Rg} (h : OwnR w lo hi vN vU r) (hw : Within l2 h2 w w') (hd : hi ≤ l2 ∨ h2 ≤ lo) : OwnR w' lo hi vN vU r := ⟨h.n.within hw hd, h.u.within hw hd⟩
theorem OwnR.wide {w : World} {lo hi lo' hi' : Nat} {vN vU : Value} {r : Rg} (h : OwnR w lo hi vN vU r) (h1 : lo' ≤ lo) (h2 : hi ≤ hi') : OwnR w lo' hi' vN vU r := ⟨h.n.wide h1 h2, h.u.wide h1 h2⟩
theorem OwnR.top {w : World} {lo hi : Nat} {vN vU : Value} {r : Rg} (h : OwnR w lo hi vN vU r) : OwnR w lo w.heap.size vN vU r := ⟨h.n.top, h.u.top⟩
theorem OwnR.rd {w : World} {lo hi : Nat} {vN vU : Value} {r : Rg} (h : OwnR w lo hi vN vU r) (hs : ∀ s ∈ r.N, s.size ≤ 9223372036854775807) : RdR w vN vU r := ⟨h.n.rd, h.u.rd, hs⟩
theorem OwnR.only {w w' : World} {lo hi b : Nat} {vN vU : Value} {r : Rg} {t : TypeId} {vs : List Value} (h : OwnR w lo hi vN vU r) (ho : Only b w w') (hb : VBlk w b t vs) (h1 : 9 ≠ t) (h2 : 4 ≠ t) : OwnR w' lo hi vN vU r := ⟨h.n.only ho hb h1, h.u.only ho hb h2⟩
theorem ownR_zero (w : World) (lo hi : Nat) : OwnR w lo hi (.slice none 0 0) (.slice none 0 0) Rg.zero := ⟨own_zero _ _ _ _ _, own_zero _ _ _ _ _⟩
theorem sizeRg : (Try.prog.info? 33).map (·.size) = some 3 := by kernel_rfl
theorem zeroRg (w : World) : (zeroValue 33).run Try.prog w = .ok (.agg [Value.slice none 0 0, .slice none 0 0, .int .i64 0].toArray) w := Try.zeroValue33 w
theorem cells3 {w : World} {b : Nat} {t : TypeId} {u v x : Value} (h : VBlk w b t [u, v, x]) : w.cell? ⟨b, 0, none⟩ = some u ∧ w.cell? ⟨b, 1, none⟩ = some v ∧ w.cell? ⟨b, 2, none⟩ = some x := ⟨h.cell 0 (by simp), h.cell 1 (by simp), h.cell 2 (by simp)⟩
theorem cells2 {w : World} {b : Nat} {t : TypeId} {u v : Value} (h : VBlk w b t [u, v]) : w.cell? ⟨b, 0, none⟩ = some u ∧ w.cell? ⟨b, 1, none⟩ = some v := ⟨h.cell 0 (by simp), h.cell 1 (by simp)⟩

theorem specRingOk_any (r : Rg) (vN vU : Value) (w : World) (h : RdR w vN vU r) :
    Calls Try.prog 66 #[.agg #[vN, vU, .int .i64 r.A]] w fun e w' => e = .returned (.bool (ringB r)) ∧ Below w.heap.size w w' := by
  obtain ⟨N, U, A⟩ := r
  have hlN := h.n.len
  have hlU := h.u.len
  obtain ⟨a, cap, rfl⟩ := h.n.form
  obtain ⟨c, dc, rfl⟩ := h.u.form
  have R : Hid (RdR w (.slice a N.length cap) (.slice c U.length dc) ⟨N, U, A⟩) := h
  clear h
  dsimp only at hlN hlU ⊢
  obtain ⟨y, hy⟩ := hid_ex (ringB ⟨N, U, A⟩)
  rw [hy.out]
  replace hy : Hid ((namesB N && (U.length == N.length) && atB N.length A) = y) := hy
  have m1 : Hid True := trivial
  cases hn : namesB N with
  | false =>
    have ey : y = false := by rw [← hy.out, hn]; simp
    subst ey
    go_enter Try.func66, Try.ntmps66
    go_wp2_with (first | (clear m1; refine wpList_box_v rfl 33 _ rfl [.slice a N.length cap, .slice c U.length dc, .int .i64 A] rfl ?_; intro b1 w1 hb1 hw1 hB1 hV1; obtain ⟨c0, c1, c2⟩ := cells3 hV1) | (go_at_call 122; refine (l8Names_any N _ _ (R.out.grow hB1).n R.out.s).mono ?_; rintro e wq ⟨rfl, hq⟩; subst wq; rw [hn]) | (fail))
    go_ret
    exact ⟨rfl, hB1⟩
  | true =>
    by_cases hu : (U.length : Int) = (N.length : Int)
    · have hu1 : ((U.length : Int) == (N.length : Int)) = true := by simpa using hu
      have hu2 : (U.length == N.length) = true := by simp; omega
      by_cases h0 : (N.length : Int) = 0
      · have h01 : ((N.length : Int) == 0) = true := by simpa using h0
        by_cases hA : A = 0
        · have ey : y = true := by
            rw [← hy.out, hn, hu2]
            unfold atB
            rw [decide_eq_true (show 0 ≤ A by omega), decide_eq_true (by omega)]
            rfl
          subst ey
          have hA1 : (A == 0) = true := by simpa using hA
          clear hu hu2 h0 hA
          go_enter Try.func66, Try.ntmps66
          go_wp2_with (first | (clear m1; refine wpList_box_v rfl 33 _ rfl [.slice a N.length cap, .slice c U.length dc, .int .i64 A] rfl ?_; intro b1 w1 hb1 hw1 hB1 hV1; obtain ⟨c0, c1, c2⟩ := cells3 hV1) | (go_at_call 122; refine (l8Names_any N _ _ (R.out.grow hB1).n R.out.s).mono ?_; rintro e wq ⟨rfl, hq⟩; subst wq; rw [hn]) | (fail))
          go_ret
          exact ⟨rfl, hB1⟩
        · have hA1 : (A == 0) = false := by simpa using hA
          have hin : Hid ((decide (0 ≤ A) && decide (A ≤ (N.length : Int) - 1)) = y) := by
            unfold Hid
            rw [← hy.out, hn, hu2]
            unfold atB
            by_cases q : 0 ≤ A
            · rw [decide_eq_true q, decide_eq_false (show ¬ A ≤ (N.length : Int) - 1 by omega), decide_eq_false (by omega)]
              rfl
            · rw [decide_eq_false q]
              rfl
          clear hu hu2 h0 hA
          go_enter Try.func66, Try.ntmps66
          go_wp2_with (first | (clear m1; refine wpList_box_v rfl 33 _ rfl [.slice a N.length cap, .slice c U.length dc, .int .i64 A] rfl ?_; intro b1 w1 hb1 hw1 hB1 hV1; obtain ⟨c0, c1, c2⟩ := cells3 hV1) | (go_at_call 122; refine (l8Names_any N _ _ (R.out.grow hB1).n R.out.s).mono ?_; rintro e wq ⟨rfl, hq⟩; subst wq; rw [hn]) | (go_at_call 91; refine (in_is _ _ _ y hin.out _).mono ?_; rintro e wq ⟨rfl, hq⟩; subst wq) | (fail))
          go_ret
          exact ⟨rfl, hB1⟩
      · have h01 : ((N.length : Int) == 0) = false := by simpa using h0
        have hin : Hid ((decide (0 ≤ A) && decide (A ≤ (N.length : Int) - 1)) = y) := by
          unfold Hid
          rw [← hy.out, hn, hu2]
          unfold atB
          rw [show decide (A ≤ (N.length : Int) - 1) = decide (A < max (N.length : Int) 1) from decide_eq_decide.2 (by omega)]
          simp
        clear hu hu2 h0
        go_enter Try.func66, Try.ntmps66
        go_wp2_with (first | (clear m1; refine wpList_box_v rfl 33 _ rfl [.slice a N.length cap, .slice c U.length dc, .int .i64 A] rfl ?_; intro b1 w1 hb1 hw1 hB1 hV1; obtain ⟨c0, c1, c2⟩ := cells3 hV1) | (go_at_call 122; refine (l8Names_any N _ _ (R.out.grow hB1).n R.out.s).mono ?_; rintro e wq ⟨rfl, hq⟩; subst wq; rw [hn]) | (go_at_call 91; refine (in_is _ _ _ y hin.out _).mono ?_; rintro e wq ⟨rfl, hq⟩; subst wq) | (fail))
        go_ret
        exact ⟨rfl, hB1⟩
    · have hu1 : ((U.length : Int) == (N.length : Int)) = false := by simpa using hu
      have ey : y = false := by
        rw [← hy.out, show (U.length == N.length) = false by simp; omega]
        simp
      subst ey
      clear hu
      go_enter Try.func66, Try.ntmps66
      go_wp2_with (first | (clear m1; refine wpList_box_v rfl 33 _ rfl [.slice a N.length cap, .slice c U.length dc, .int .i64 A] rfl ?_; intro b1 w1 hb1 hw1 hB1 hV1; obtain ⟨c0, c1, c2⟩ := cells3 hV1) | (go_at_call 122; refine (l8Names_any N _ _ (R.out.grow hB1).n R.out.s).mono ?_; rintro e wq ⟨rfl, hq⟩; subst wq; rw [hn]) | (fail))
      go_ret
      exact ⟨rfl, hB1⟩
end Go.Proofs.Ytapchjkiiifhdaa.rg
/- Texts cut out of a row: what stands behind a place; the model's l1Cut. -/
namespace Go.Proofs.Ytapchjkiiifhdaa.rg
open Go.ChangeShapes Go.WideShapes Go.ChangeAt Go.RowKit
open Go.Proofs.Ytapchjkiiifhdaa.ce Go.Proofs.Ytapchjkiiifhdaa.ro
set_option linter.unusedVariables false

theorem rdS_rest {w : World} {b off n cap : Nat} {xs : List ByteArray} (r : Rd encS w (.slice (some ⟨b, off, none⟩) n cap) xs) (m : Nat) (hm : m ≤ xs.length) :
    Rd encS w (.slice (if cap = m then some ⟨b, off, none⟩ else some ⟨b, off + m, none⟩) (n - m) (cap - m)) (xs.drop m) := by
  rcases r.rest m hm with ⟨h1, h2⟩ | ⟨h1, h2, h3, h4⟩
  · rw [if_neg (by omega)]
    simpa [encS] using h2.out
  · rw [if_pos h1.symm, h1, h2, h1, Nat.sub_self, ← h1]
    exact h4.out
theorem bl_alloc {w w' : World} {o : Obj} (h : Below w.heap.size w w') : Below w.heap.size w (w'.alloc o) := h.alloc h.size _
theorem bl_alloc_drew {w w' : World} {o : Obj} (h : Below w.heap.size w w'.drew) : Below w.heap.size w (w'.alloc o).drew := bl_alloc (w' := w'.drew) h
/-- one text is cut out -/
theorem l1Cut_any (N : List ByteArray) (v : Value) (i : Nat) (w : World) (r : Rd encS w v N) (hi : i < N.length) (hN : N.length ≤ 1000000) :
    Calls Try.prog 184 #[v, .int .i64 i] w fun e w' => ∃ v', e = .returned v' ∧ Own encS w' w.heap.size w'.heap.size v' (N.take i ++ N.drop (i + 1)) ∧ Below w.heap.size w w' := by
  obtain ⟨a, cap, rfl⟩ := r.form
  obtain ⟨b, off, rfl, hb, -⟩ := rdS_cell r i hi
  obtain ⟨-, hc1, hc2⟩ := r.cap
  obtain ⟨p, hp⟩ := hid_ex (i + 1)
  have RT := r.take i (by omega)
  have RR := rdS_rest r (i + 1) (by omega)
  clear r
  rw [hp.out] at RR ⊢
  have hpi : Hid (p = i + 1) := hp.out.symm
  have i0 : (0 : Int) ≤ (i : Int) := by omega
  have i1 : (i : Int) ≤ (cap : Int) := by omega
  have p1 : (p : Int) ≤ (N.length : Int) := by have := hpi.out; omega
  have p2 : (p : Int) ≤ (cap : Int) := by have := hpi.out; omega
  have p3 : p ≤ N.length := by omega
  have i3 : (N.length : Int) ≤ (cap : Int) := by omega
  have i4 : IntKind.i64.wrap ((i : Int) + 1) = (p : Int) := by rw [IntKind.wrap_i64]; have := hpi.out; omega
  have hlt : (N.take i).length ≤ 1000 + i := by rw [List.length_take]; omega
  have hld : (N.drop p).length ≤ N.length - p := by rw [List.length_drop]; omega
  have hip := hpi.out
  clear hp
  replace hip : i < p := by omega
  have RD : Hid (Rd encS w _ (N.drop p)) := RR
  clear RR
  go_enter Try.func184, Try.ntmps184
  go_wp2
  go_region_held3 (fun w' => Below w.heap.size w w') (first | with_reducible assumption | exact (Below.refl _ _).drew | with_reducible exact bl_alloc (by assumption) | with_reducible exact bl_alloc_drew (by assumption) | (fail)) (first | (refine step_append_g infoS rfl _ _ 22 rfl Try.underlying22 w.heap.size 0 _ [] rfl (own_zero _ _ _ _ _) (Below.size (by with_reducible assumption)) _ (N.take i) rfl (RT.grow (by with_reducible assumption)) (by simp; omega) ?_; intro v5 W5 o5 hT5; rw [List.nil_append] at o5; have hB5 : Below w.heap.size w W5 := Below.trans (by with_reducible assumption) hT5.low) | (refine step_append_g infoS rfl _ _ 22 rfl Try.underlying22 w.heap.size _ _ (N.take i) rfl o5 (Below.size hB5) _ (N.drop p) rfl (RD.out.grow hB5) (by omega) ?_; intro v6 W6 o6 hT6; have hB6 : Below w.heap.size w W6 := hB5.trans hT6.low) | (fail))
  go_wp2
  all_goals
    go_ret
    exact ⟨_, rfl, o6, hB6⟩
end Go.Proofs.Ytapchjkiiifhdaa.rg
/- Contracts: the model's queues: one text is cut out; who is touched, all but one, who is sampled. -/
namespace Go.Proofs.Ytapchjkiiifhdaa.rg
open Go.ChangeShapes Go.WideShapes Go.ChangeAt Go.RowKit
open Go.Proofs.Ytapchjkiiifhdaa.ce Go.Proofs.Ytapchjkiiifhdaa.ro
set_option linter.unusedVariables false

theorem ty_mono {lo lo' : Nat} {t : TypeId} {w w' : World} (h : Ty lo t w w') (hl : lo' ≤ lo) : Ty lo' t w w' := ⟨h.low.mono hl, h.keep⟩
theorem ty_alloc {lo : Nat} {t : TypeId} {w : World} (hl : lo ≤ w.heap.size) (o : Obj) : Ty lo t w (w.alloc o) := Ty.of_below ((Below.refl _ _).alloc (Nat.le_refl _) _) hl

set_option maxHeartbeats 1000000 in
theorem l9Touch_any (q : List ByteArray) (s : ByteArray) (hs : s.size ≤ 9223372036854775807) (v : Value) (lo hi : Nat) (w : World) (own : Own encS w lo hi v q) (hlo : lo ≤ w.heap.size) (hq : q.length ≤ 1000000) :
    Calls Try.prog 139 #[v, .string s] w fun e w' => ∃ v', e = .returned (.tuple #[v', .bool (tqB q s)]) ∧ Own encS w' lo w'.heap.size v' (tqR q s) ∧ Ty lo 9 w w' := by
  obtain ⟨a, n, cap, rfl⟩ := own.slice
  have hn : Hid (n = q.length) := own.rd.cap.1
  have O : Hid (Own encS w lo hi (.slice a n cap) q) := own
  clear own
  have ma : Hid True := trivial
  rcases posS_cases s q with ⟨h1, e⟩ | ⟨i, hi', h1, h2, e⟩
  · have e1 : tqB q s = (nameB s && !(q.length == 20)) := by unfold tqB; rw [e]; rfl
    have e2 : tqR q s = if (nameB s && !(q.length == 20)) = true then q ++ [s] else q := by unfold tqR; rw [e]; rfl
    have hp : Hid (posS s q = -1) := e
    rw [e1, e2]
    clear e1 e2 e h1
    cases hm : nameB s with
    | false =>
      go_enter Try.func139, Try.ntmps139
      go_wp2_with (first | (go_at_call 176; refine (l1At_any q s _ _ O.out.rd).mono ?_; rintro e wq ⟨rfl, hq⟩; subst wq; rw [hp.out]) | (go_at_call 60; refine (specNameOk_any _ hs _).mono ?_; rintro e wq ⟨rfl, hq⟩; subst wq; rw [hm]) | (fail))
      go_ret2
      exact ⟨_, rfl, O.out.top, Ty.refl _ _ _⟩
    | true =>
      by_cases h20 : q.length = 20
      · have h21 : (q.length == 20) = true := by simpa using h20
        have h22 : ((n : Int) == 20) = true := by rw [hn.out, h20]; rfl
        rw [h21]
        clear h20 h21
        go_enter Try.func139, Try.ntmps139
        go_wp2_with (first | (go_at_call 176; refine (l1At_any q s _ _ O.out.rd).mono ?_; rintro e wq ⟨rfl, hq⟩; subst wq; rw [hp.out]) | (go_at_call 60; refine (specNameOk_any _ hs _).mono ?_; rintro e wq ⟨rfl, hq⟩; subst wq; rw [hm]) | (fail))
        go_ret2
        exact ⟨_, rfl, O.out.top, Ty.refl _ _ _⟩
      · have h21 : (q.length == 20) = false := by simpa using h20
        have h22 : ((n : Int) == 20) = false := by rw [hn.out]; simp; omega
        rw [h21]
        clear h20 h21
        go_enter Try.func139, Try.ntmps139
        go_wp2_with (first | (go_at_call 176; refine (l1At_any q s _ _ O.out.rd).mono ?_; rintro e wq ⟨rfl, hq⟩; subst wq; rw [hp.out]) | (go_at_call 60; refine (specNameOk_any _ hs _).mono ?_; rintro e wq ⟨rfl, hq⟩; subst wq; rw [hm]) | (clear ma; at_builtin; refine wpList_append_g infoS rfl _ _ 22 rfl Try.underlying22 lo _ _ q rfl (O.out.grow ((Below.refl _ _).alloc (Nat.le_refl _) _)) (by simp; omega) _ [s] rfl (rd_new (E := encS) w s #[.string s] rfl) (by simp; omega) ?_; intro v1 w1 o1 hT1) | (fail))
        go_ret2
        exact ⟨_, rfl, o1, (ty_alloc hlo _).trans hT1⟩
  · have e1 : tqB q s = true := by unfold tqB; rw [e]; simp
    have e2 : tqR q s = (q.take i ++ q.drop (i + 1)) ++ [s] := by unfold tqR; rw [e]; simp
    have hp : Hid (posS s q = (i : Int)) := e
    have hcl : (q.take i ++ q.drop (i + 1)).length ≤ 1000000 := by simp; omega
    rw [e1, e2]
    obtain ⟨c, hc⟩ := hid_ex (q.take i ++ q.drop (i + 1))
    rw [hc.out] at hcl ⊢
    clear e1 e2 e h1 h2
    have i0 : (i : Int) ≥ 0 := by omega
    go_enter Try.func139, Try.ntmps139
    go_wp2_with (first | (go_at_call 176; refine (l1At_any q s _ _ O.out.rd).mono ?_; rintro e wq ⟨rfl, hq⟩; subst wq; rw [hp.out]) | (go_at_call 184; refine (l1Cut_any q _ i _ O.out.rd hi' hq).mono ?_; rintro e w2 ⟨v2, rfl, o2, hB2⟩; rw [hc.out] at o2; have hz2 := hB2.size) | (clear ma; at_builtin; refine wpList_append_g infoS rfl _ _ 22 rfl Try.underlying22 w.heap.size _ _ c rfl (o2.grow ((Below.refl _ _).alloc (Nat.le_refl _) _)) (by simp; omega) _ [s] rfl (rd_new (E := encS) w2 s #[.string s] rfl) (by simp; omega) ?_; intro v3 w3 o3 hT3) | (fail))
    go_ret2
    exact ⟨_, rfl, o3.wide hlo (Nat.le_refl _), ((Ty.of_below hB2 hlo).trans (ty_alloc (by omega) _)).trans (ty_mono hT3 hlo)⟩

theorem l9Without_any (q : List ByteArray) (s : ByteArray) (v : Value) (w : World) (r : Rd encS w v q) (hq : q.length ≤ 1000000) :
    Calls Try.prog 148 #[v, .string s] w fun e w' => ∃ v', e = .returned v' ∧ Own encS w' w.heap.size w'.heap.size v' (cutR q s) ∧ Below w.heap.size w w' := by
  obtain ⟨a, cap, rfl⟩ := r.form
  have R : Hid (Rd encS w (.slice a q.length cap) q) := r
  clear r
  have ma : Hid True := trivial
  rcases posS_cases s q with ⟨h1, e⟩ | ⟨i, hi', h1, h2, e⟩
  · have e2 : cutR q s = q := by unfold cutR; rw [e]; rfl
    have hp : Hid (posS s q = -1) := e
    rw [e2]
    clear e2 e h1
    go_enter Try.func148, Try.ntmps148
    go_wp2_with (first | (go_at_call 176; refine (l1At_any q s _ _ R.out).mono ?_; rintro e wq ⟨rfl, hq⟩; subst wq; rw [hp.out]) | (clear ma; at_builtin; refine wpList_append_g infoS rfl _ _ 22 rfl Try.underlying22 w.heap.size _ _ [] rfl (own_zero _ _ _ 0 _) (by simp) _ q rfl (R.out.grow ((Below.refl _ _).alloc (Nat.le_refl _) _)) (by simp; omega) ?_; intro v1 w1 o1 hT1; rw [List.nil_append] at o1) | (fail))
    go_ret
    exact ⟨_, rfl, o1, ((Below.refl _ _).alloc (Nat.le_refl _) _).trans hT1.low⟩
  · have e2 : cutR q s = q.take i ++ q.drop (i + 1) := by unfold cutR; rw [e]; simp
    have hp : Hid (posS s q = (i : Int)) := e
    rw [e2]
    obtain ⟨c, hc⟩ := hid_ex (q.take i ++ q.drop (i + 1))
    rw [hc.out]
    clear e2 e h1 h2
    have i0 : (i : Int) ≥ 0 := by omega
    go_enter Try.func148, Try.ntmps148
    go_wp2_with (first | (go_at_call 176; refine (l1At_any q s _ _ R.out).mono ?_; rintro e wq ⟨rfl, hq⟩; subst wq; rw [hp.out]) | (go_at_call 184; refine (l1Cut_any q _ i _ R.out hi' hq).mono ?_; rintro e w2 ⟨v2, rfl, o2, hB2⟩; rw [hc.out] at o2) | (fail))
    go_ret
    exact ⟨_, rfl, o2, hB2⟩

theorem specQueueOk_any (q : List ByteArray) (v : Value) (w : World) (r : Rd encS w v q) (hs : ∀ s ∈ q, s.size ≤ 9223372036854775807) :
    Calls Try.prog 67 #[v] w fun e w' => e = .returned (.bool (namesB q)) ∧ w' = w := by
  obtain ⟨a, cap, rfl⟩ := r.form
  have R : Hid (Rd encS w (.slice a q.length cap) q) := r
  have HS : Hid (∀ s ∈ q, s.size ≤ 9223372036854775807) := hs
  clear r hs
  go_enter Try.func67, Try.ntmps67
  go_wp2_with (first | (go_at_call 122; refine (l8Names_any q _ _ R.out HS.out).mono ?_; rintro e wq ⟨rfl, hq⟩; subst wq) | (fail))
  go_ret
  exact ⟨rfl, rfl⟩

end Go.Proofs.Ytapchjkiiifhdaa.rg
