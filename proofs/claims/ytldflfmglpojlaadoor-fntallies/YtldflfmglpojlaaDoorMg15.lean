/- Texts laid together: Cy2 Cz0. -/
import Derived.Test.YtldflfmglpojlaaDoorMg04
import Derived.Test.YtldflfmglpojlaaDoorMg00
import Derived.Lib.ItoaNum
import Derived.Lib.AtoiTie
import Derived.Lib.ParseIntBTie
import Derived.Lib.Split
import Derived.Lib.Join
/- Contracts of the model's helpers on texts: words joined. -/
namespace Go.Proofs.YtldflfmglpojlaaDoor.cm
open Go.ChangeShapes Go.WideShapes Go.ChangeAt Go.RowKit
open Go.Proofs.YtldflfmglpojlaaDoor.ce Go.Proofs.YtldflfmglpojlaaDoor.ro Go.Proofs.YtldflfmglpojlaaDoor.rg
set_option linter.unusedVariables false

theorem map_take_succ {ws : List ByteArray} {i : Nat} (h : i < ws.length) : (ws.take (i + 1)).map bs = (ws.take i).map bs ++ [bs ws[i]] := by
  rw [List.take_succ_eq_append_getElem h, List.map_append]
  rfl
theorem words_size {ws : List ByteArray} {m : Nat} (hm : ∀ x ∈ ws, x.size ≤ m) (i : Nat) : (tx (wordsL ((ws.take i).map bs))).size ≤ ws.length * (m + 1) := by
  rw [tx_size]
  refine Nat.le_trans (wordsL_len ((ws.take i).map bs) m fun w hw => ?_) ?_
  · obtain ⟨x, hx, rfl⟩ := List.mem_map.1 hw
    rw [bs_len]
    exact hm x (List.mem_of_mem_take hx)
  · rw [List.length_map, List.length_take]
    exact Nat.mul_le_mul_right _ (Nat.min_le_right ..)
theorem l1Words_any (ws : List ByteArray) (v : Value) (w : World) (r : Rd encS w v ws) (hl : ws.length ≤ 100) (hm : ∀ x ∈ ws, x.size ≤ 10000) :
    Calls Tryd.prog 48 #[v] w fun e w' => e = .returned (.string (tx (wordsL (ws.map bs)))) ∧ w' = w := by
  obtain ⟨a, cap, rfl⟩ := r.form
  have R : Hid (Rd encS w (.slice a ws.length cap) ws) := r
  have HM : Hid (∀ x ∈ ws, x.size ≤ 10000) := hm
  clear r hm
  have hsp : (⟨#[32]⟩ : ByteArray).size = 1 := rfl
  go_enter Tryd.func48, Tryd.ntmps48
  go_wp2
  go_loop [3, 4] (fun s p => ∃ (i : Nat) (out : ByteArray), i ≤ ws.length ∧ p = .int .i64 i ∧ s = .string out ∧ Hid (out = tx (wordsL ((ws.take i).map bs)))) (fun _ p => ws.length - (intOf p).toNat)
  case atStart => exact ⟨0, ⟨#[]⟩, by omega, rfl, rfl, rfl⟩
  case round =>
    obtain ⟨i, out, hi1, rfl, rfl, ho⟩ := hrel
    have hos : out.size ≤ 1000100 := by
      have := words_size HM.out i
      rw [ho.out]
      have : ws.length * 10001 ≤ 100 * 10001 := Nat.mul_le_mul_right _ hl
      omega
    by_cases hlt : i < ws.length
    · obtain ⟨b, off, rfl, hb, d0⟩ := rdS_cell R.out i hlt
      have hlt' : (i : Int) < (ws.length : Int) := by omega
      have hsz := HM.out ws[i] (List.getElem_mem hlt)
      have hmt := map_take_succ hlt
      have hws := words_snoc ((ws.take i).map bs) (bs ws[i])
      obtain ⟨z, hz⟩ := hid_ex (ws[i])
      rw [hz.out] at d0 hsz hmt hws
      by_cases h0 : i = 0
      · have h0' : decide ((i : Int) > 0) = false := decide_eq_false (by omega)
        have h0'' : ¬ (0 : Int) < (i : Int) := by omega
        have hnew : Hid (out ++ z = tx (wordsL ((ws.take (i + 1)).map bs))) := by
          unfold Hid
          have e : (ws.take i).map bs = [] := by rw [h0]; rfl
          rw [hmt, hws, if_pos e, ho.out, e, show wordsL [] = [] from rfl]
          exact bs_inj0 (by rw [bs_app, bs_tx, bs_tx]; rfl)
        clear hmt hws h0
        go_wp2
        go_round
        case rel => exact ⟨i + 1, out ++ z, by omega, by go_num, rfl, hnew⟩
        case measure => simp [intOf]; omega
      · have h0' : decide ((i : Int) > 0) = true := decide_eq_true (by omega)
        have h0'' : (0 : Int) < (i : Int) := by omega
        have hsz2 : (out ++ ⟨#[32]⟩ : ByteArray).size = out.size + 1 := by rw [ByteArray.size_append]; rfl
        have hnew : Hid (out ++ ⟨#[32]⟩ ++ z = tx (wordsL ((ws.take (i + 1)).map bs))) := by
          unfold Hid
          have e : (ws.take i).map bs ≠ [] := fun q => by
            have := congrArg List.length q
            rw [List.length_map, List.length_take, List.length_nil] at this
            omega
          rw [hmt, hws, if_neg e, ho.out]
          exact bs_inj0 (by rw [bs_app, bs_app, bs_tx, bs_tx]; simp [bs])
        clear hmt hws h0
        go_wp2
        go_round
        case rel => exact ⟨i + 1, out ++ ⟨#[32]⟩ ++ z, by omega, by go_num, rfl, hnew⟩
        case measure => simp [intOf]; omega
    · have hlt' : ¬ (i : Int) < (ws.length : Int) := by omega
      have hend : Hid (out = tx (wordsL (ws.map bs))) := by
        have := ho.out
        rw [List.take_of_length_le (by omega)] at this
        exact this
      clear ho
      go_wp2
      go_ret
      exact ⟨by rw [hend.out]; rfl, rfl⟩

end Go.Proofs.YtldflfmglpojlaaDoor.cm
/- Mathematics of chapter 11, what stands between the library's words and ours, no Go in sight: numbers read and shown, words joined and split, a line cut off. -/
namespace Go.Proofs.YtldflfmglpojlaaDoor.cm
open Go.RowKit
set_option linter.unusedVariables false

/-! ### numbers -/
theorem dec_digs (n : Nat) : Lib.decDigits n = digs n := by
  induction n using Nat.strongRecOn with
  | _ n ih =>
    rw [Lib.decDigits]
    by_cases h : n < 10
    · rw [dif_pos h, digs_small h]; rfl
    · rw [dif_neg h, digs_big h, ih (n / 10) (by omega)]; rfl
/-- what a word tells as a number, and whether it is one -/
def rdF (l : List UInt8) : Int × Bool :=
  if l.head? = some 45 then (if canon l.tail = true ∧ l.tail.head? ≠ some 48 then (-(val 0 l.tail : Nat), true) else (0, false))
  else if canon l = true then ((val 0 l : Nat), true) else (0, false)
theorem rdF_yes {l : List UInt8} (h : canon l = true) : rdF l = (((val 0 l : Nat) : Int), true) := by
  unfold rdF
  rw [if_neg (fun e => by rw [canon_minus e] at h; cases h), if_pos h]
theorem canon_pos {l : List UInt8} (h : canon l = true) (h48 : l.head? ≠ some 48) : 0 < val 0 l := by
  obtain ⟨h1, h2, -, -⟩ := canon_iff.1 h
  cases l with
  | nil => simp at h2
  | cons c r =>
    have hc := isD_iff.1 (h1 c (List.mem_cons_self ..))
    have hne : c ≠ 48 := fun e => h48 (by rw [e]; rfl)
    have h0 : 0 < c.toNat - 48 := by
      have : c.toNat ≠ 48 := fun e => hne (UInt8.toNat_inj.1 e)
      omega
    rw [val_cons, Nat.zero_mul, Nat.zero_add]
    exact val_pos (h1 c (List.mem_cons_self ..)) hne _ _ h0
theorem rdF_nat {l : List UInt8} (h : (rdF l).2 = true) (h0 : 0 ≤ (rdF l).1) : canon l = true := by
  unfold rdF at h h0
  split at h
  · split at h
    · rename_i e1 e2
      rw [if_pos e1, if_pos e2] at h0
      have := canon_pos e2.1 e2.2
      simp at h0
      omega
    · cases h
  · split at h
    · assumption
    · cases h
theorem rdF_no {l : List UInt8} (h : (rdF l).2 = false) : rdF l = (0, false) ∧ canon l = false := by
  refine ⟨?_, ?_⟩
  · unfold rdF at h ⊢
    split at h
    · rename_i e1
      rw [if_pos e1]
      split at h
      · cases h
      · rename_i e2; rw [if_neg e2]
    · rename_i e1
      rw [if_neg e1]
      split at h
      · cases h
      · rename_i e2; rw [if_neg e2]
  · cases hc : canon l with
    | false => rfl
    | true => rw [rdF_yes hc] at h; cases h
theorem rdF_bd (l : List UInt8) : -1000000000 < (rdF l).1 ∧ (rdF l).1 < 1000000000 := by
  unfold rdF
  split
  · split
    · rename_i e; have := val_canon e.1; simp; omega
    · simp
  · split
    · rename_i e; have := val_canon e; simp; omega
    · simp
theorem digit_isD (b : UInt8) : Lib.digitVal b = if isD b = true then some (b.toNat - 48) else none := by
  unfold Lib.digitVal
  by_cases h : 48 ≤ b.toNat ∧ b.toNat ≤ 57
  · rw [if_pos h, if_pos (isD_iff.2 h)]
  · rw [if_neg h, if_neg (fun e => h (isD_iff.1 e))]
theorem decFrom_val : ∀ (l : List UInt8) (a : Nat), Lib.decFrom a l = if l.all isD = true then some (val a l) else none
  | [], a => by simp [Lib.decFrom, val_nil]
  | c :: r, a => by
    rw [Lib.decFrom, digit_isD]
    by_cases hc : isD c = true
    · rw [if_pos hc]
      dsimp only
      rw [decFrom_val r, val_cons, List.all_cons, hc, Bool.true_and]
    · rw [if_neg hc]
      have : isD c = false := by simpa using hc
      rw [List.all_cons, this]
      simp
theorem decNat_val {l : List UInt8} : Lib.decNat l = if l ≠ [] ∧ l.all isD = true then some (val 0 l) else none := by
  unfold Lib.decNat
  cases l with
  | nil => simp
  | cons c r =>
    rw [decFrom_val]
    by_cases h : (c :: r).all isD = true
    · simp [h]
    · simp [h]
theorem all_of_canon {l : List UInt8} (h : canon l = true) : l.all isD = true ∧ l ≠ [] ∧ l.length ≤ 9 := by
  obtain ⟨h1, h2, h3, -⟩ := canon_iff.1 h
  exact ⟨List.all_eq_true.2 h1, fun e => by rw [e] at h2; simp at h2, h3⟩
theorem canon_of_digs {n : Nat} {l : List UInt8} (h : digs n = l) (h9 : l.length ≤ 9) : canon l = true := by
  rw [← h]
  refine canon_iff.2 ⟨digs_all n, by have := List.length_pos_iff.2 (digs_ne n); omega, by rw [h]; exact h9, digs_head n⟩
/-- a number that is shown again as the word is one as it is written, of at most nine digits -/
theorem num_yes {l : List UInt8} (h9 : (Lib.trimPrefix l [45]).length ≤ 9) {n : Int} (h : Lib.atoi l = some n) : rdF l = if Lib.itoa n = l then (n, true) else (0, false) := by
  cases l with
  | nil => simp [Lib.atoi] at h
  | cons b r =>
    simp only [Lib.atoi] at h
    by_cases hb : b = 45
    · subst hb
      simp only [beq_self_eq_true, if_true, decNat_val] at h
      have ht : (Lib.trimPrefix (45 :: r) [45]) = r := by simp [Lib.trimPrefix, Lib.hasPrefix]
      rw [ht] at h9
      split at h
      · rename_i e
        simp at h
        subst h
        by_cases hv : val 0 r = 0
        · have hi : Lib.itoa (-(val 0 r : Nat)) ≠ 45 :: r := by
            rw [hv]
            intro q
            simp [Lib.itoa, dec_digs, digs_small] at q
            exact absurd q.1 (by decide)
          rw [if_neg hi]
          unfold rdF
          rw [if_pos (show (45 :: r).head? = some 45 from rfl), if_neg]
          rintro ⟨q1, q2⟩
          have := canon_pos q1 q2
          simp at this
          omega
        · have hneg : (-(val 0 r : Nat) : Int) < 0 := by omega
          have hi : Lib.itoa (-(val 0 r : Nat)) = 45 :: digs (val 0 r) := by
            unfold Lib.itoa
            rw [if_pos hneg, dec_digs]
            simp
          rw [hi]
          unfold rdF
          rw [if_pos (show (45 :: r).head? = some 45 from rfl)]
          by_cases hd : digs (val 0 r) = r
          · have hc := canon_of_digs hd h9
            have h48 : (45 :: r).tail.head? ≠ some 48 := fun q => by
              have h1 := (canon_iff.1 hc).2.2.2 q
              simp only [List.tail_cons] at q
              match r, q, h1 with
              | [c], q, _ =>
                simp at q
                subst q
                exact hv (by rw [val_cons, val_nil]; rfl)
            rw [if_pos (show canon (45 :: r).tail = true ∧ (45 :: r).tail.head? ≠ some 48 from ⟨hc, h48⟩), hd, if_pos rfl]
            rfl
          · rw [if_neg (fun q => hd (digs_canon q.1)), if_neg (fun q => hd (by simpa using q))]
      · cases h
    · by_cases hp : b = 43
      · subst hp
        simp only [show ((43 : UInt8) == 45) = false from rfl, beq_self_eq_true, if_true] at h
        have hx : Lib.itoa n ≠ 43 :: r := by
          intro q
          unfold Lib.itoa at q
          split at q
          · simp at q
          · rw [dec_digs] at q
            have := digs_all n.toNat 43 (by rw [q]; simp)
            exact absurd this (by decide)
        rw [if_neg hx]
        unfold rdF
        rw [if_neg (by simp), if_neg]
        intro q
        have := (canon_iff.1 q).1 43 (by simp)
        exact absurd this (by decide)
      · have e1 : (b == 45) = false := by simpa using hb
        have e2 : (b == 43) = false := by simpa using hp
        have ht : (Lib.trimPrefix (b :: r) [45]) = b :: r := by
          have : Lib.hasPrefix (b :: r) [45] = false := by simp [Lib.hasPrefix, List.isPrefixOf]; exact fun q => hb (Eq.symm q)
          unfold Lib.trimPrefix
          rw [this]
          rfl
        rw [ht] at h9
        simp only [e1, e2, Bool.false_eq_true, if_false, decNat_val] at h
        split at h
        · rename_i e
          simp at h
          subst h
          have hi : Lib.itoa (val 0 (b :: r) : Nat) = digs (val 0 (b :: r)) := by
            unfold Lib.itoa
            rw [if_neg (by omega), dec_digs]
            simp
          rw [hi]
          unfold rdF
          rw [if_neg (by simp; exact hb)]
          by_cases hd : digs (val 0 (b :: r)) = b :: r
          · rw [if_pos (canon_of_digs hd h9), if_pos hd]
          · rw [if_neg (fun q => hd (digs_canon q)), if_neg hd]
        · cases h
theorem num_none {l : List UInt8} (h : Lib.atoi l = none) : rdF l = (0, false) := by
  cases l with
  | nil => simp [rdF, canon]
  | cons b r =>
    simp only [Lib.atoi] at h
    unfold rdF
    by_cases hb : b = 45
    · subst hb
      simp only [beq_self_eq_true, if_true, decNat_val] at h
      rw [if_pos (show (45 :: r).head? = some 45 from rfl), if_neg]
      rintro ⟨q1, -⟩
      obtain ⟨a1, a2, -⟩ := all_of_canon q1
      simp only [List.tail_cons] at a1 a2
      rw [if_pos ⟨a2, a1⟩] at h
      cases h
    · rw [if_neg (by simp; exact hb), if_neg]
      intro q
      have e1 : (b == 45) = false := by simpa using hb
      have hp : b ≠ 43 := fun e => by
        subst e
        have := (canon_iff.1 q).1 43 (by simp)
        exact absurd this (by decide)
      have e2 : (b == 43) = false := by simpa using hp
      obtain ⟨a1, a2, -⟩ := all_of_canon q
      simp only [e1, e2, Bool.false_eq_true, if_false, decNat_val] at h
      rw [if_pos ⟨a2, a1⟩] at h
      cases h
theorem num_long {l : List UInt8} (h9 : 9 < (Lib.trimPrefix l [45]).length) : rdF l = (0, false) := by
  unfold rdF
  cases l with
  | nil => simp [Lib.trimPrefix] at h9
  | cons b r =>
    by_cases hb : b = 45
    · subst hb
      have ht : (Lib.trimPrefix (45 :: r) [45]) = r := by simp [Lib.trimPrefix, Lib.hasPrefix]
      rw [ht] at h9
      rw [if_pos (show (45 :: r).head? = some 45 from rfl), if_neg]
      rintro ⟨q1, -⟩
      have := (all_of_canon q1).2.2
      simp only [List.tail_cons] at this
      omega
    · have ht : (Lib.trimPrefix (b :: r) [45]) = b :: r := by
        have : Lib.hasPrefix (b :: r) [45] = false := by simp [Lib.hasPrefix, List.isPrefixOf]; exact fun q => hb (Eq.symm q)
        unfold Lib.trimPrefix
        rw [this]
        rfl
      rw [ht] at h9
      rw [if_neg (by simp; exact hb), if_neg]
      intro q
      have := (all_of_canon q).2.2
      omega
theorem parse_short {l : List UInt8} (hl : l.length ≤ 18) : Lib.parseIntB 64 l = Lib.NumEnd.ofOption (Lib.atoi l) := by
  rw [Lib.parseIntB_64, Lib.atoiAll_short l hl]
theorem trim_len (l : List UInt8) : l.length ≤ (Lib.trimPrefix l [45]).length + 1 := by
  unfold Lib.trimPrefix
  split
  · rw [List.length_drop]; simp; omega
  · omega

/-! ### words -/
theorem join_words : ∀ ws : List (List UInt8), Lib.join ws [32] = wordsL ws
  | [] => rfl
  | [w] => by rw [Lib.join_one]; rfl
  | w :: v :: r => by
    rw [wordsL_cons (by simp), ← join_words (v :: r), Lib.join_cons, Lib.join_cons]
    simp [Lib.joinTail]
theorem index_one (x : UInt8) : ∀ l : List UInt8, (x ∉ l ∧ Lib.index l [x] = -1) ∨ ∃ a b, l = a ++ x :: b ∧ x ∉ a ∧ Lib.index l [x] = (a.length : Int)
  | [] => .inl ⟨by simp, rfl⟩
  | c :: r => by
    by_cases h : c = x
    · subst h
      refine .inr ⟨[], r, rfl, by simp, ?_⟩
      unfold Lib.index
      rw [if_pos (by simp)]
      rfl
    · have hp : ¬ ([x].isPrefixOf (c :: r) = true) := by simp; exact fun e => h e.symm
      rcases index_one x r with ⟨h1, h2⟩ | ⟨a, b, h1, h2, h3⟩
      · refine .inl ⟨by simp; exact ⟨fun e => h e.symm, h1⟩, ?_⟩
        unfold Lib.index
        rw [if_neg hp, h2]
        rfl
      · refine .inr ⟨c :: a, b, by rw [h1]; rfl, by simp; exact ⟨fun e => h e.symm, h2⟩, ?_⟩
        unfold Lib.index
        rw [if_neg hp, h3, if_neg (by simp)]
        simp
theorem splitK_all (x : UInt8) : ∀ (n f : Nat) (l : List UInt8), l.length ≤ n → l.length < f → Lib.splitK [x] 0 (Lib.countFrom [x] f l) l = splitL x l
  | n, 0, l, _, h => by omega
  | n, f + 1, l, hn, hf => by
    unfold Lib.countFrom
    rcases index_one x l with ⟨h1, h2⟩ | ⟨a, b, h1, h2, h3⟩
    · rw [h2, split_nox l h1]
      rfl
    · have hne : ¬ ((Lib.index l [x] == -1) = true) := by rw [h3]; simp
      have hl : l.length = a.length + 1 + b.length := by rw [h1]; simp; omega
      rw [if_neg hne, Nat.add_comm 1]
      unfold Lib.splitK
      rw [if_neg hne, h3]
      have ed : l.drop ((a.length : Int).toNat + [x].length) = b := by
        rw [h1]
        simp
      have et : l.take ((a.length : Int).toNat + 0) = a := by rw [h1]; simp
      rw [ed, et, splitK_all x b.length f b (Nat.le_refl _) (by omega), h1, split_appx a b h2]
theorem split_words' (x : UInt8) (l : List UInt8) : Lib.split l [x] = splitL x l := splitK_all x l.length _ l (Nat.le_refl _) (by omega)
/-- a line cut off -/
theorem cut_line (l : List UInt8) : (10 ∉ l ∧ Lib.cut l [10] = (l, [], false)) ∨ ∃ a b, l = a ++ 10 :: b ∧ 10 ∉ a ∧ Lib.cut l [10] = (a, b, true) := by
  rcases index_one 10 l with ⟨h1, h2⟩ | ⟨a, b, h1, h2, h3⟩
  · refine .inl ⟨h1, ?_⟩
    unfold Lib.cut
    rw [h2, if_neg (by omega)]
  · refine .inr ⟨a, b, h1, h2, ?_⟩
    unfold Lib.cut
    rw [h3, if_pos (by omega), h1]
    simp
end Go.Proofs.YtldflfmglpojlaaDoor.cm
