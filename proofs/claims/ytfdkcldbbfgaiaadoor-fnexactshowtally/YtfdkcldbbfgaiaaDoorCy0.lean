/- Texts and their bytes: what stands between the walk's texts (s ++ t, s.extract a b, s[i]) and lists of bytes; what the loops over texts keep. No Go in sight. -/
import Derived.Test.YtfdkcldbbfgaiaaDoorCx3
namespace Go.Proofs.YtfdkcldbbfgaiaaDoor.cm
open Go.RowKit
set_option linter.unusedVariables false

theorem bs_app (a b : ByteArray) : bs (a ++ b) = bs a ++ bs b := by unfold bs; rw [ByteArray.data_append, Array.toList_append]
theorem bs_extract (s : ByteArray) (a b : Nat) : bs (s.extract a b) = ((bs s).drop a).take (b - a) := by
  unfold bs
  rw [ByteArray.data_extract, Array.toList_extract, List.extract]
theorem bs_get (s : ByteArray) (i : Nat) (h : i < s.size) : (bs s)[i]'(by rw [bs_len]; exact h) = s[i] := by
  unfold bs
  rw [Array.getElem_toList]
  rfl
theorem bs_inj0 {a b : ByteArray} (h : bs a = bs b) : a = b := by rw [← tx_bs a, ← tx_bs b, h]
theorem tx_app (l m : List UInt8) : tx (l ++ m) = tx l ++ tx m := bs_inj0 (by rw [bs_app, bs_tx, bs_tx, bs_tx])
theorem bs_toList (s : ByteArray) : s.toList = bs s := ByteArray.toList_eq ..
theorem bs_take_succ {s : ByteArray} {i : Nat} (h : i < s.size) : (bs s).take (i + 1) = (bs s).take i ++ [s[i]] := by
  rw [List.take_succ_eq_append_getElem (by rw [bs_len]; exact h), bs_get s i h]
theorem bs_drop_cons {s : ByteArray} {i : Nat} (h : i < s.size) : (bs s).drop i = s[i] :: (bs s).drop (i + 1) := by
  rw [List.drop_eq_getElem_cons (by rw [bs_len]; exact h), bs_get s i h]

/-! ### a number is shown, the last digit first -/
/-- while a number is shown: what is left of it and what is shown -/
structure Dig (n q : Nat) (out : List UInt8) : Prop where
  at0 : out = [] → q = n
  on : out ≠ [] → digs n = (if q = 0 then [] else digs q) ++ out
theorem dig_start (n : Nat) : Dig n n [] := ⟨fun _ => rfl, fun h => absurd rfl h⟩
theorem dig_step {n q : Nat} {out : List UInt8} (h : Dig n q out) (hg : out = [] ∨ q ≠ 0) : Dig n (q / 10) (dg (q % 10) :: out) := by
  refine ⟨fun e => by simp at e, fun _ => ?_⟩
  have hq : (if q / 10 = 0 then [] else digs (q / 10)) ++ dg (q % 10) :: out = digs q ++ out := by
    by_cases h10 : q < 10
    · rw [if_pos (by omega), digs_small h10, Nat.mod_eq_of_lt h10]; rfl
    · rw [if_neg (by omega), digs_big h10]; simp
  rw [hq]
  rcases hg with e | e
  · subst e
    rw [h.at0 rfl, List.append_nil]
  · by_cases ho : out = []
    · subst ho
      rw [h.at0 rfl, List.append_nil]
    · rw [h.on ho, if_neg e]
theorem dig_end {n : Nat} {out : List UInt8} (h : Dig n 0 out) (ho : out ≠ []) : out = digs n := by
  have := h.on ho
  rw [if_pos rfl, List.nil_append] at this
  exact this.symm

/-! ### words, one behind the other -/
/-- the words of the first i, joined -/
theorem words_zero : wordsL [] = [] := rfl
theorem words_snoc : ∀ (ws : List (List UInt8)) (w : List UInt8), wordsL (ws ++ [w]) = if ws = [] then w else wordsL ws ++ 32 :: w
  | [], w => by simp [wordsL]
  | [a], w => by
    rw [if_neg (by simp)]
    show wordsL (a :: [w]) = _
    rw [wordsL_cons (by simp)]
    simp [wordsL]
  | a :: b :: r, w => by
    rw [if_neg (by simp), List.cons_append, wordsL_cons (by simp), wordsL_cons (w := a) (ws := b :: r) (by simp), words_snoc (b :: r) w, if_neg (by simp)]
    simp

/-! ### a text is split -/
/-- the first i bytes have been looked at: what is done, and where the open word begins -/
structure Spl (x : UInt8) (l : List UInt8) (i f : Nat) (out : List (List UInt8)) : Prop where
  fi : f ≤ i
  il : i ≤ l.length
  no : x ∉ (l.take i).drop f
  is : splitL x l = out ++ splitL x (l.drop f)
theorem spl_start (x : UInt8) (l : List UInt8) : Spl x l 0 0 [] := ⟨Nat.le_refl _, Nat.zero_le _, by simp, by simp⟩
theorem split_nox {x : UInt8} : ∀ (w : List UInt8), x ∉ w → splitL x w = [w]
  | [], _ => by simp [splitL]
  | c :: r, h => by
    have hc : c ≠ x := fun e => h (by rw [e]; simp)
    rw [splitL_no hc (split_nox r fun q => h (List.mem_cons_of_mem _ q))]
theorem split_appx {x : UInt8} : ∀ (w s : List UInt8), x ∉ w → splitL x (w ++ x :: s) = w :: splitL x s
  | [], s, _ => by rw [List.nil_append, splitL_yes rfl]
  | c :: r, s, h => by
    have hc : c ≠ x := fun e => h (by rw [e]; simp)
    rw [List.cons_append, splitL_no hc (split_appx r s fun q => h (List.mem_cons_of_mem _ q))]
theorem spl_pass {x : UInt8} {l : List UInt8} {i f : Nat} {out : List (List UInt8)} (h : Spl x l i f out) (hi : i < l.length) (hn : l[i] ≠ x) : Spl x l (i + 1) f out := by
  have h1 := h.fi
  refine ⟨by omega, by omega, fun q => ?_, h.is⟩
  rw [List.take_succ_eq_append_getElem hi, List.drop_append_of_le_length (by rw [List.length_take]; omega)] at q
  rcases List.mem_append.1 q with q | q
  · exact h.no q
  · exact hn (List.mem_singleton.1 q).symm
theorem spl_word {l : List UInt8} {i f : Nat} (h1 : f ≤ i) : (l.drop f).take (i - f) = (l.take i).drop f := by
  rw [List.drop_take]
theorem spl_cut {x : UInt8} {l : List UInt8} {i f : Nat} {out : List (List UInt8)} (h : Spl x l i f out) (hi : i < l.length) (hy : l[i] = x) : Spl x l (i + 1) (i + 1) (out ++ [(l.take i).drop f]) := by
  have h1 := h.fi
  have e : l.drop f = (l.take i).drop f ++ x :: l.drop (i + 1) := by
    have e1 : l = l.take i ++ x :: l.drop (i + 1) := by
      rw [← hy, ← List.drop_eq_getElem_cons hi, List.take_append_drop]
    conv => lhs; rw [e1]
    rw [List.drop_append_of_le_length (by rw [List.length_take]; omega)]
  refine ⟨Nat.le_refl _, by omega, by simp, ?_⟩
  rw [h.is, e, split_appx _ _ h.no]
  simp
theorem spl_end {x : UInt8} {l : List UInt8} {i f : Nat} {out : List (List UInt8)} (h : Spl x l i f out) (hi : i = l.length) : splitL x l = out ++ [(l.take i).drop f] := by
  subst hi
  have := h.no
  rw [List.take_length] at this ⊢
  rw [h.is, split_nox _ this]

/-! ### a number is read -/
/-- the first k bytes are digits, and they are so much -/
structure Rdn (l : List UInt8) (k n : Nat) : Prop where
  all : ∀ c ∈ l.take k, isD c = true
  is : n = val 0 (l.take k)
theorem rdn_start (l : List UInt8) : Rdn l 0 0 := ⟨by simp, by rw [List.take_zero, val_nil]⟩
theorem rdn_step {l : List UInt8} {k n : Nat} (h : Rdn l k n) (hk : k < l.length) (hd : isD l[k] = true) : Rdn l (k + 1) (n * 10 + (l[k].toNat - 48)) := by
  refine ⟨fun c hc => ?_, ?_⟩
  · rw [List.take_succ_eq_append_getElem hk] at hc
    rcases List.mem_append.1 hc with q | q
    · exact h.all c q
    · rw [List.mem_singleton.1 q]; exact hd
  · rw [List.take_succ_eq_append_getElem hk, val_snoc, h.is]
theorem rdn_lt {l : List UInt8} {k n : Nat} (h : Rdn l k n) (hk : k ≤ l.length) : n < 10 ^ k := by
  have := val_lt (l.take k) 0 0 h.all (by decide)
  rw [List.length_take, Nat.min_eq_left hk, Nat.zero_add] at this
  rw [h.is]; exact this
theorem rdn_not {l : List UInt8} {k : Nat} (hk : k < l.length) (hd : isD l[k] = false) : canon l = false := by
  cases hc : canon l with
  | false => rfl
  | true =>
    have := (canon_iff.1 hc).1 l[k] (List.getElem_mem hk)
    rw [hd] at this
    cases this
theorem rdn_end {l : List UInt8} {n : Nat} (h : Rdn l l.length n) (h1 : 1 ≤ l.length) (h9 : l.length ≤ 9) : n = val 0 l ∧ canon l = !(l.head? == some 48 && decide (1 < l.length)) := by
  have ha := h.all
  have hi := h.is
  rw [List.take_length] at ha hi
  refine ⟨hi, ?_⟩
  have h3 : l.all isD = true := List.all_eq_true.2 ha
  unfold canon
  rw [h3, decide_eq_true h1, decide_eq_true h9]
  rfl
theorem canon_len {l : List UInt8} (h : ¬ (1 ≤ l.length ∧ l.length ≤ 9)) : canon l = false := by
  cases hc : canon l with
  | false => rfl
  | true => exact absurd ⟨(canon_iff.1 hc).2.1, (canon_iff.1 hc).2.2.1⟩ h
/-- what begins with a minus is no number as one is shown -/
theorem canon_minus {l : List UInt8} (h : l.head? = some 45) : canon l = false := by
  cases l with
  | nil => simp at h
  | cons c r =>
    simp at h
    subst h
    exact rdn_not (k := 0) (by simp) (show isD 45 = false by decide)
end Go.Proofs.YtfdkcldbbfgaiaaDoor.cm
