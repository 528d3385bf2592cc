/- Texts laid together: RcCm Cy0 Cy1 Cu1 RcRp Dr1. -/
import Derived.Test.YtjkkjpgebcnhgaaGreatDoorMg01
import Derived.Test.YtjkkjpgebcnhgaaGreatDoorMg03
import Derived.Test.YtjkkjpgebcnhgaaGreatDoorMg00
import Derived.Test.YtjkkjpgebcnhgaaGreatDoorMg02
import Derived.Test.YtjkkjpgebcnhgaaGreatDoorMg09
import Derived.BigQuiet
import Derived.Deep.RegionHeld3
import Derived.Deep.DeepCutAuto
import Derived.Deep.Slices
import Derived.Lib.SmallJoins
import Derived.ShutString
import Derived.ChangeOld
import Derived.Deep.LoopGhost
import Derived.Deep.CutBlock
/- The record Cmd in memory: its cells, rows of it, the laws' helpers on it, among the arguments. -/
namespace Go.Proofs.YtjkkjpgebcnhgaaGreatDoor.rg
open Go.ChangeShapes Go.WideShapes Go.ChangeAt Go.RowKit
open Go.Deep Go.Joins
open Go.Proofs.YtjkkjpgebcnhgaaGreatDoor.ce Go.Proofs.YtjkkjpgebcnhgaaGreatDoor.ro
set_option linter.unusedVariables false

/-- the cells of a Cmd -/
def csCm (x : cm.Cm) : List Value := [.int .i64 x.V, .string x.N, .int .i64 x.F, .int .i64 x.U, .string x.B, .int .i64 x.C, .int .i64 x.D, .bool x.Q]
theorem oneCm (x : cm.Cm) : ∀ v ∈ csCm x, v.oneCell' = true := by
  intro v hv
  simp only [csCm, List.mem_cons, List.not_mem_nil, or_false] at hv
  rcases hv with rfl | rfl | rfl | rfl | rfl | rfl | rfl | rfl <;> rfl
theorem sizeCm : (Tryz.prog.info? 37).map (·.size) = some 8 := by kernel_rfl
theorem zeroCm (w : World) : (zeroValue 37).run Tryz.prog w = .ok (.agg [Value.int .i64 0, Value.string ⟨#[]⟩, Value.int .i64 0, Value.int .i64 0, Value.string ⟨#[]⟩, Value.int .i64 0, Value.int .i64 0, Value.bool false].toArray) w := Tryz.zeroValue37 w
theorem cellsCm {w : World} {b : Nat} {t : TypeId} {v0 v1 v2 v3 v4 v5 v6 v7 : Value} (h : VBlk w b t [v0, v1, v2, v3, v4, v5, v6, v7]) : w.cell? ⟨b, 0, none⟩ = some v0 ∧ w.cell? ⟨b, 1, none⟩ = some v1 ∧ w.cell? ⟨b, 2, none⟩ = some v2 ∧ w.cell? ⟨b, 3, none⟩ = some v3 ∧ w.cell? ⟨b, 4, none⟩ = some v4 ∧ w.cell? ⟨b, 5, none⟩ = some v5 ∧ w.cell? ⟨b, 6, none⟩ = some v6 ∧ w.cell? ⟨b, 7, none⟩ = some v7 :=
  ⟨h.cell 0 (by simp), h.cell 1 (by simp), h.cell 2 (by simp), h.cell 3 (by simp), h.cell 4 (by simp), h.cell 5 (by simp), h.cell 6 (by simp), h.cell 7 (by simp)⟩
end Go.Proofs.YtjkkjpgebcnhgaaGreatDoor.rg
/- Texts and their bytes: what stands between the walk's texts (s ++ t, s.extract a b, s[i]) and lists of bytes; what the loops over texts keep. No Go in sight. -/
namespace Go.Proofs.YtjkkjpgebcnhgaaGreatDoor.cm
open Go.RowKit
set_option linter.unusedVariables false

theorem bs_app (a b : ByteArray) : bs (a ++ b) = bs a ++ bs b := by unfold bs; rw [ByteArray.data_append, Array.toList_append]
theorem bs_inj0 {a b : ByteArray} (h : bs a = bs b) : a = b := by rw [← tx_bs a, ← tx_bs b, h]
theorem tx_app (l m : List UInt8) : tx (l ++ m) = tx l ++ tx m := bs_inj0 (by rw [bs_app, bs_tx, bs_tx, bs_tx])
theorem bs_toList (s : ByteArray) : s.toList = bs s := ByteArray.toList_eq ..
/-! ### a number is shown, the last digit first -/
/-- while a number is shown: what is left of it and what is shown -/
structure Dig (n q : Nat) (out : List UInt8) : Prop where
  at0 : out = [] → q = n
  on : out ≠ [] → digs n = (if q = 0 then [] else digs q) ++ out
theorem dig_start (n : Nat) : Dig n n [] := ⟨fun _ => rfl, fun h => absurd rfl h⟩
theorem dig_step {n q : Nat} {out : List UInt8} (h : Dig n q out) (hg : out = [] ∨ q ≠ 0) : Dig n (q / 10) (dg (q % 10) :: out) := by
  refine ⟨fun e => by simp at e, fun _ => ?_⟩
  have hq : (if q / 10 = 0 then [] else digs (q / 10)) ++ dg (q % 10) :: out = digs q ++ out := by
    by_cases h10 : q < 10
    · rw [if_pos (by omega), digs_small h10, Nat.mod_eq_of_lt h10]; rfl
    · rw [if_neg (by omega), digs_big h10]; simp
  rw [hq]
  rcases hg with e | e
  · subst e
    rw [h.at0 rfl, List.append_nil]
  · by_cases ho : out = []
    · subst ho
      rw [h.at0 rfl, List.append_nil]
    · rw [h.on ho, if_neg e]
theorem dig_end {n : Nat} {out : List UInt8} (h : Dig n 0 out) (ho : out ≠ []) : out = digs n := by
  have := h.on ho
  rw [if_pos rfl, List.nil_append] at this
  exact this.symm

/-! ### a number is read -/
/-- the first k bytes are digits, and they are so much -/
structure Rdn (l : List UInt8) (k n : Nat) : Prop where
  all : ∀ c ∈ l.take k, isD c = true
  is : n = val 0 (l.take k)
theorem rdn_start (l : List UInt8) : Rdn l 0 0 := ⟨by simp, by rw [List.take_zero, val_nil]⟩
theorem rdn_step {l : List UInt8} {k n : Nat} (h : Rdn l k n) (hk : k < l.length) (hd : isD l[k] = true) : Rdn l (k + 1) (n * 10 + (l[k].toNat - 48)) := by
  refine ⟨fun c hc => ?_, ?_⟩
  · rw [List.take_succ_eq_append_getElem hk] at hc
    rcases List.mem_append.1 hc with q | q
    · exact h.all c q
    · rw [List.mem_singleton.1 q]; exact hd
  · rw [List.take_succ_eq_append_getElem hk, val_snoc, h.is]
theorem rdn_lt {l : List UInt8} {k n : Nat} (h : Rdn l k n) (hk : k ≤ l.length) : n < 10 ^ k := by
  have := val_lt (l.take k) 0 0 h.all (by decide)
  rw [List.length_take, Nat.min_eq_left hk, Nat.zero_add] at this
  rw [h.is]; exact this
theorem rdn_not {l : List UInt8} {k : Nat} (hk : k < l.length) (hd : isD l[k] = false) : canon l = false := by
  cases hc : canon l with
  | false => rfl
  | true =>
    have := (canon_iff.1 hc).1 l[k] (List.getElem_mem hk)
    rw [hd] at this
    cases this
theorem rdn_end {l : List UInt8} {n : Nat} (h : Rdn l l.length n) (h1 : 1 ≤ l.length) (h9 : l.length ≤ 9) : n = val 0 l ∧ canon l = !(l.head? == some 48 && decide (1 < l.length)) := by
  have ha := h.all
  have hi := h.is
  rw [List.take_length] at ha hi
  refine ⟨hi, ?_⟩
  have h3 : l.all isD = true := List.all_eq_true.2 ha
  unfold canon
  rw [h3, decide_eq_true h1, decide_eq_true h9]
  rfl
theorem canon_len {l : List UInt8} (h : ¬ (1 ≤ l.length ∧ l.length ≤ 9)) : canon l = false := by
  cases hc : canon l with
  | false => rfl
  | true => exact absurd ⟨(canon_iff.1 hc).2.1, (canon_iff.1 hc).2.2.1⟩ h
/-- what begins with a minus is no number as one is shown -/
theorem canon_minus {l : List UInt8} (h : l.head? = some 45) : canon l = false := by
  cases l with
  | nil => simp at h
  | cons c r =>
    simp at h
    subst h
    exact rdn_not (k := 0) (by simp) (show isD 45 = false by decide)
end Go.Proofs.YtjkkjpgebcnhgaaGreatDoor.cm
/- Contracts of the model's helpers on texts: a number is shown. -/
namespace Go.Proofs.YtjkkjpgebcnhgaaGreatDoor.cm
open Go.ChangeShapes Go.WideShapes Go.ChangeAt Go.RowKit
open Go.Proofs.YtjkkjpgebcnhgaaGreatDoor.ce Go.Proofs.YtjkkjpgebcnhgaaGreatDoor.ro Go.Proofs.YtjkkjpgebcnhgaaGreatDoor.rg
set_option linter.unusedVariables false

theorem dig_tx (d : Nat) : dig d = tx [dg d] := rfl
theorem tx_nonempty {l : List UInt8} (h : l ≠ []) : (tx l).toList ≠ [] := by rw [bs_toList, bs_tx]; exact h
theorem dig_len {n q : Nat} {l : List UInt8} (h : Dig n q l) : l.length ≤ (digs n).length := by
  by_cases e : l = []
  · rw [e]; exact Nat.zero_le _
  · rw [h.on e, List.length_append]; omega
/-- what l1Int tells of a number that is not below 0 -/
theorem l1Int_is (n : Nat) (hn : n ≤ 1000000000000) (w : World) :
    Calls Tryz.prog 69 #[.int .i64 n] w fun e w' => e = .returned (.string (tx (digs n))) ∧ Below w.heap.size w w' := by
  have hn0 : ¬ (n : Int) < 0 := by omega
  go_enter Tryz.func69, Tryz.ntmps69
  go_wp2
  go_loopg [0, 3, 5] (2 * n + 1) (fun k v s d wr => ∃ (q : Nat) (l : List UInt8) (out : ByteArray), v = .int .i64 q ∧ s = .string out ∧ q ≤ 1000000000000 ∧ Hid (out = tx l) ∧ Hid (Dig n q l) ∧ Hid (l = [] → 2 * q + 1 ≤ k) ∧ Hid (l ≠ [] → 2 * q ≤ k) ∧ Below w.heap.size w wr)
  case atStart => exact ⟨n, [], ⟨#[]⟩, rfl, rfl, hn, rfl, dig_start n, fun _ => Nat.le_refl _, fun h => absurd rfl h, Below.refl _ _⟩
  case round =>
    obtain ⟨q, l, out, rfl, rfl, hq, ho, hD, hk1, hk2, hB⟩ := hrel
    obtain ⟨d, hd⟩ := hid_ex (q % 10)
    have hd9 : d ≤ 9 := by have := hd.out; omega
    have hcv := dig_conv d hd9 wr
    have hmod : (q : Int) % 10 = (d : Int) := by have := hd.out; omega
    obtain ⟨q2, hq2⟩ := hid_ex (q / 10)
    have hdiv : (q : Int) / 10 = (q2 : Int) := by have := hq2.out; omega
    have hd0 : ¬ (d : Int) < 0 := by omega
    have hds : (dig d).size = 1 := rfl
    have hosz : out.size ≤ 13 := by
      rw [ho.out, tx_size]
      exact Nat.le_trans (dig_len hD.out) (digs_len 12 n (by omega))
    have hout : Hid (dig d ++ out = tx (dg d :: l)) := by
      unfold Hid
      rw [ho.out, dig_tx, ← tx_app]
      rfl
    have hle : q2 ≤ 1000000000000 := by have := hq2.out; omega
    by_cases he : l = []
    · have hb : (out.toList == []) = true := by rw [ho.out, he, bs_toList, bs_tx]; rfl
      have hD2 : Hid (Dig n q2 (dg d :: l)) := by
        have := dig_step hD.out (Or.inl he)
        rw [hd.out, hq2.out] at this
        exact this
      have hgk := hk1.out he
      have hg2 : 2 * q2 < gk := by have := hq2.out; omega
      clear he hgk
      go_wp2
      go_roundg (2 * q2)
      case measure => exact hg2
      case rel => exact ⟨q2, dg d :: l, dig d ++ out, rfl, rfl, hle, hout, hD2, fun h => by simp at h, fun _ => Nat.le_refl _, hB.alloc hB.size _⟩
    · have hb : (out.toList == []) = false := by
        rw [ho.out]
        have := tx_nonempty he
        cases hx : (tx l).toList with
        | nil => exact absurd hx this
        | cons x r => rfl
      by_cases hq0 : q = 0
      · have hqb : ((q : Int) != 0) = false := by rw [hq0]; rfl
        have hend : Hid (out = tx (digs n)) := by
          unfold Hid
          have h := hD.out
          rw [hq0] at h
          rw [ho.out, ← dig_end h he]
        clear hq0 he
        go_wp2
        go_ret
        exact ⟨by rw [hend.out]; rfl, hB⟩
      · have hqb : ((q : Int) != 0) = true := by simp; omega
        have hD2 : Hid (Dig n q2 (dg d :: l)) := by
          have := dig_step hD.out (Or.inr hq0)
          rw [hd.out, hq2.out] at this
          exact this
        have hgk := hk2.out he
        have hg2 : 2 * q2 < gk := by have := hq2.out; omega
        clear he hq0 hgk
        go_wp2
        go_roundg (2 * q2)
        case measure => exact hg2
        case rel => exact ⟨q2, dg d :: l, dig d ++ out, rfl, rfl, hle, hout, hD2, fun h => by simp at h, fun _ => Nat.le_refl _, hB.alloc hB.size _⟩
end Go.Proofs.YtjkkjpgebcnhgaaGreatDoor.cm
/- Contracts of the model's small questions on verbs. -/
namespace Go.Proofs.YtjkkjpgebcnhgaaGreatDoor.cm
open Go.ChangeShapes Go.WideShapes Go.ChangeAt Go.RowKit
open Go.Proofs.YtjkkjpgebcnhgaaGreatDoor.ce Go.Proofs.YtjkkjpgebcnhgaaGreatDoor.ro Go.Proofs.YtjkkjpgebcnhgaaGreatDoor.rg
set_option linter.unusedVariables false

theorem l11Sized_is (v : Int) (y : Bool) (h : sized v = y) (w : World) : Calls Tryz.prog 57 #[.int .i64 v] w fun e w' => e = .returned (.bool y) ∧ w' = w := by
  have h2 : Hid ((decide (3 ≤ v) && decide (v ≤ 8)) = y) := h
  clear h
  go_enter Tryz.func57, Tryz.ntmps57
  go_wp2_with (first | (go_at_call 54; refine (in_is v 3 8 y h2.out _).mono ?_; rintro e wq ⟨rfl, hq⟩; subst wq) | (fail))
  go_ret
  exact ⟨rfl, rfl⟩
theorem l11Full_is (v : Int) (y : Bool) (h : full v = y) (w : World) : Calls Tryz.prog 56 #[.int .i64 v] w fun e w' => e = .returned (.bool y) ∧ w' = w := by
  unfold full at h
  obtain ⟨x, hx⟩ := hid_ex (decide (3 ≤ v) && decide (v ≤ 5))
  rw [hx.out] at h
  by_cases h8 : v = 8
  · have e8 : (v == 8) = true := by simpa using h8
    rw [decide_eq_true h8] at h
    cases x
    all_goals
      clear h8
      subst h
      go_enter Tryz.func56, Tryz.ntmps56
      go_wp2_with (first | (go_at_call 54; refine (in_is v 3 5 _ hx.out _).mono ?_; rintro e wq ⟨rfl, hq⟩; subst wq) | (fail))
      go_ret
      exact ⟨rfl, rfl⟩
  · have e8 : (v == 8) = false := by simpa using h8
    rw [decide_eq_false h8] at h
    cases x
    all_goals
      clear h8
      subst h
      go_enter Tryz.func56, Tryz.ntmps56
      go_wp2_with (first | (go_at_call 54; refine (in_is v 3 5 _ hx.out _).mono ?_; rintro e wq ⟨rfl, hq⟩; subst wq) | (fail))
      go_ret
      exact ⟨rfl, rfl⟩
end Go.Proofs.YtjkkjpgebcnhgaaGreatDoor.cm
/- The record Reply in memory: its cells, rows of it, the laws' helpers on it, among the arguments. -/
namespace Go.Proofs.YtjkkjpgebcnhgaaGreatDoor.rg
open Go.ChangeShapes Go.WideShapes Go.ChangeAt Go.RowKit
open Go.Deep Go.Joins
open Go.Proofs.YtjkkjpgebcnhgaaGreatDoor.ce Go.Proofs.YtjkkjpgebcnhgaaGreatDoor.ro
set_option linter.unusedVariables false

/-- the cells of a Reply -/
def csRp (x : cm.Rp) : List Value := [.int .i64 x.K, .string x.N, .int .i64 x.F, .string x.B, .int .i64 x.C, .int .i64 x.M]
theorem oneRp (x : cm.Rp) : ∀ v ∈ csRp x, v.oneCell' = true := by
  intro v hv
  simp only [csRp, List.mem_cons, List.not_mem_nil, or_false] at hv
  rcases hv with rfl | rfl | rfl | rfl | rfl | rfl <;> rfl
theorem sizeRp : (Tryz.prog.info? 33).map (·.size) = some 6 := by kernel_rfl
theorem zeroRp (w : World) : (zeroValue 33).run Tryz.prog w = .ok (.agg [Value.int .i64 0, Value.string ⟨#[]⟩, Value.int .i64 0, Value.string ⟨#[]⟩, Value.int .i64 0, Value.int .i64 0].toArray) w := Tryz.zeroValue33 w
theorem cellsRp {w : World} {b : Nat} {t : TypeId} {v0 v1 v2 v3 v4 v5 : Value} (h : VBlk w b t [v0, v1, v2, v3, v4, v5]) : w.cell? ⟨b, 0, none⟩ = some v0 ∧ w.cell? ⟨b, 1, none⟩ = some v1 ∧ w.cell? ⟨b, 2, none⟩ = some v2 ∧ w.cell? ⟨b, 3, none⟩ = some v3 ∧ w.cell? ⟨b, 4, none⟩ = some v4 ∧ w.cell? ⟨b, 5, none⟩ = some v5 :=
  ⟨h.cell 0 (by simp), h.cell 1 (by simp), h.cell 2 (by simp), h.cell 3 (by simp), h.cell 4 (by simp), h.cell 5 (by simp)⟩
end Go.Proofs.YtjkkjpgebcnhgaaGreatDoor.rg
/- What the laws of chapter 12 draw: a reply. -/
namespace Go.Proofs.YtjkkjpgebcnhgaaGreatDoor.rg
open Go.ChangeShapes Go.WideShapes Go.ChangeAt Go.RowKit
open Go.Deep Go.Joins
open Go.Proofs.YtjkkjpgebcnhgaaGreatDoor.ce Go.Proofs.YtjkkjpgebcnhgaaGreatDoor.ro Go.Proofs.YtjkkjpgebcnhgaaGreatDoor.draw Go.Proofs.YtjkkjpgebcnhgaaGreatDoor.cm
set_option linter.unusedVariables false

theorem szS1 : (Tryz.prog.info? 9).map (·.size) = some 1 := by kernel_rfl
end Go.Proofs.YtjkkjpgebcnhgaaGreatDoor.rg
