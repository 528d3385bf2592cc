/- Mathematics of commands, third part: what the laws FnCmds and FnCut say. -/
import Derived.Test.YtmnjmghlkiljhaaCx2
namespace Go.Proofs.Ytmnjmghlkiljhaa.cm
open Go.RowKit
open Go.Proofs.Ytmnjmghlkiljhaa.rg (nameB nbB nameB_size)
set_option linter.unusedVariables false

/-- what stands there is shown as it stands -/
theorem cmd_sound {t : List UInt8} {c : Cm} {m : Nat} (h : cmdOf t = (c, m, 0)) : COk c ∧ showL c = t.take m ∧ 1 ≤ m ∧ m ≤ t.length := by
  rcases cmd_cases t with ⟨-, e⟩ | ⟨-, -, e⟩ | ⟨l, u, ht, -, -, e⟩
  · rw [e] at h; simp at h
  · rw [e] at h; simp at h
  · rw [e] at h
    have ho := told l u
    rw [h] at ho
    cases ho with
    | bad k hk => omega
    | plain c hc hw =>
      refine ⟨hc, ?_, by omega, by rw [ht]; simp⟩
      rw [hw, ht, List.take_append, List.take_of_length_le (by omega), show l.length + 1 - l.length = 1 by omega]
      rfl
    | bytes c r hc hu hw =>
      refine ⟨hc, ?_, by omega, by rw [ht, hu]; simp [bs_len]; omega⟩
      have e2 : t = (l ++ 10 :: (bs c.B ++ [10])) ++ r := by rw [ht, hu]; simp
      have hl : (l ++ 10 :: (bs c.B ++ [10])).length = l.length + 1 + c.B.size + 1 := by simp [bs_len]; omega
      rw [hw, e2, ← hl, List.take_left]
/-- the codes -/
theorem cmd_codes {t : List UInt8} {c : Cm} {m : Nat} {k : Int} (h : cmdOf t = (c, m, k)) : (k = 0 ∨ k = 1 ∨ k = 2 ∨ k = 3) ∧ (k ≠ 0 → c = Cm.zero) ∧ (k = 1 → m = 0) ∧ (k ≠ 1 → 1 ≤ m ∧ m ≤ t.length) := by
  by_cases h0 : k = 0
  · rw [h0] at h
    obtain ⟨-, -, h1, h2⟩ := cmd_sound h
    exact ⟨.inl h0, fun q => absurd h0 q, fun q => by omega, fun _ => ⟨h1, h2⟩⟩
  · rcases cmd_cases t with ⟨hl, e⟩ | ⟨-, -, e⟩ | ⟨l, u, ht, -, -, e⟩
    · rw [e] at h
      simp only [Prod.mk.injEq] at h
      have := lineOf_le t
      exact ⟨by omega, fun _ => h.1.symm, fun q => by omega, fun _ => by omega⟩
    · rw [e] at h
      simp only [Prod.mk.injEq] at h
      exact ⟨by omega, fun _ => h.1.symm, fun q => by omega, fun q => absurd h.2.2.symm q⟩
    · rw [e] at h
      have ho := told l u
      rw [h] at ho
      cases ho with
      | bad k hk => exact ⟨by omega, fun _ => rfl, fun q => by omega, fun _ => ⟨by omega, by rw [ht]; simp⟩⟩
      | more c k hc hb hw hs h1 h2 => exact ⟨by omega, fun _ => rfl, fun _ => rfl, fun q => absurd rfl q⟩
      | plain c hc hw => exact absurd rfl h0
      | bytes c r hc hu hw => exact absurd rfl h0

/-! ### what is shown is read -/
theorem name_bytes {s : ByteArray} (h : nameB s = true) {c : UInt8} (hc : c ∈ bs s) : c ≠ 32 ∧ c ≠ 10 := by
  unfold nameB at h
  simp only [Bool.and_eq_true, List.all_eq_true] at h
  have h1 := h.1 c hc
  constructor
  · intro e; rw [e] at h1; exact absurd h1 (by decide)
  · intro e; rw [e] at h1; exact absurd h1 (by decide)
theorem digs_bytes {n : Nat} {c : UInt8} (hc : c ∈ digs n) : c ≠ 32 ∧ c ≠ 10 := by
  have h1 := digs_all n c hc
  constructor
  · intro e; rw [e] at h1; exact absurd h1 (by decide)
  · intro e; rw [e] at h1; exact absurd h1 (by decide)
theorem vw_ok {v : Int} (h0 : 1 ≤ v) (h1 : v ≤ 13) : (∀ c ∈ vw v, c ≠ 32 ∧ c ≠ 10) ∧ (vw v).length ≤ 12 := by
  rcases verb_cases h0 h1 with rfl | rfl | rfl | rfl | rfl | rfl | rfl | rfl | rfl | rfl | rfl | rfl | rfl <;> decide
theorem words_ok {c : Cm} (h : COk c) {k : Nat} (hk : k ≤ 64) : ∀ w ∈ wordsK c k, (∀ x ∈ w, x ≠ 32 ∧ x ≠ 10) ∧ w.length ≤ 12 := by
  intro w hw
  unfold wordsK at hw
  rcases List.mem_append.1 hw with hw | hw
  · rcases List.mem_append.1 hw with hw | hw
    · rcases List.mem_cons.1 hw with rfl | hw
      · exact vw_ok h.v0 h.v1
      · split at hw
        · simp at hw
        · rename_i h13
          rw [List.mem_singleton.1 hw]
          exact ⟨fun x hx => name_bytes (h.nm h13) hx, by rw [bs_len]; exact (nameB_size (h.nm h13)).2⟩
    · obtain ⟨n, hn, rfl⟩ := List.mem_map.1 hw
      have := nums_small h hk n hn
      exact ⟨fun x hx => digs_bytes hx, Nat.le_trans (digs_len 6 n (by omega)) (by omega)⟩
  · split at hw
    · rw [List.mem_singleton.1 hw]
      decide
    · simp at hw
theorem want_le (v : Int) : want v ≤ 4 := by
  unfold want
  split <;> split <;> split <;> omega
theorem words_len (c : Cm) (k : Nat) : (wordsK c k).length ≤ 7 := by
  rw [words_core, List.length_append, core_len]
  have := want_le c.V
  split <;> split <;> simp <;> omega
theorem line_ok {c : Cm} (h : COk c) {k : Nat} (hk : k ≤ 64) : 10 ∉ lineK c k ∧ (lineK c k).length ≤ 100 := by
  have ho := words_ok h hk
  constructor
  · intro hx
    rcases wordsL_mem _ hx with e | ⟨w, hw, hx⟩
    · exact absurd e (by decide)
    · exact ((ho w hw).1 10 hx).2 rfl
  · have h1 := wordsL_len (wordsK c k) 12 (fun w hw => (ho w hw).2)
    have h2 := words_len c k
    unfold lineK
    have : (wordsK c k).length * (12 + 1) ≤ 7 * 13 := Nat.mul_le_mul_right _ h2
    omega
theorem split_show {c : Cm} (h : COk c) {k : Nat} (hk : k ≤ 64) : splitL 32 (lineK c k) = wordsK c k :=
  split_words _ (by unfold wordsK; simp) (fun w hw hx => ((words_ok h hk w hw).1 32 hx).1 rfl)
theorem head_words (c : Cm) (k : Nat) : (wordsK c k).headD [] = vw c.V := by unfold wordsK; simp
theorem bare_back {c : Cm} {b : ByteArray} (h : c.B = b) : (⟨c.V, c.N, c.F, c.U, b, c.C, c.D, c.Q⟩ : Cm) = c := by cases c; simp at h; subst h; rfl
/-- of a line of a right command -/
theorem line_told {c : Cm} (h : COk c) (u : List UInt8) : cmdLine (lineK c c.B.size) u =
    if sized c.V = false then (c, (lineK c c.B.size).length + 1, 0)
    else if u.length ≤ c.B.size then (Cm.zero, 0, 1)
    else if u[c.B.size]? ≠ some 10 then (Cm.zero, (lineK c c.B.size).length + 1, 3)
    else (⟨c.V, c.N, c.F, c.U, tx (u.take c.B.size), c.C, c.D, c.Q⟩, (lineK c c.B.size).length + 1 + c.B.size + 1, 0) := by
  unfold cmdLine
  rw [split_show h h.b1, head_words, verbOf_vw h.v0 h.v1, if_neg (by have := h.v0; omega), line_show h]
  dsimp only [bare]
  by_cases hs : sized c.V = false
  · rw [if_pos hs, if_pos hs, bare_back (h.b hs)]
  · rw [if_neg hs, if_neg hs]
theorem cmd_show {c : Cm} (h : COk c) (u : List UInt8) : cmdOf (showL c ++ u) = (c, (showL c).length, 0) := by
  obtain ⟨h1, h2⟩ := line_ok h h.b1
  unfold showL
  rw [List.append_assoc, List.cons_append, cmd_line h1 h2, line_told h]
  by_cases hs : sized c.V = false
  · rw [if_pos hs, hs]
    simp
  · have hs' : sized c.V = true := by simpa using hs
    have e : ∀ x : List UInt8, (bs c.B ++ [10]) ++ x = bs c.B ++ 10 :: x := fun x => by simp
    rw [if_neg hs, hs', if_pos rfl, e, if_neg (by simp [bs_len]), if_neg, ← bs_len, List.take_left, tx_bs, bare_back rfl]
    · simp only [List.length_append, List.length_cons, List.length_nil]
      congr 2
      omega
    · rw [← bs_len, List.getElem?_append_right (Nat.le_refl _), Nat.sub_self]
      simp
/-- cut it is not yet one -/
theorem cmd_cut {c : Cm} (h : COk c) {m : Nat} (hm : m < (showL c).length) : cmdOf ((showL c).take m) = (Cm.zero, 0, 1) := by
  obtain ⟨h1, h2⟩ := line_ok h h.b1
  by_cases hl : m ≤ (lineK c c.B.size).length
  · have e : (showL c).take m = (lineK c c.B.size).take m := by unfold showL; rw [List.take_append_of_le_length hl]
    rw [e]
    have hno : 10 ∉ (lineK c c.B.size).take m := fun hx => h1 (List.mem_of_mem_take hx)
    have hle : ((lineK c c.B.size).take m).length ≤ 100 := by rw [List.length_take]; omega
    exact cmd_more (by rw [lineOf_all hno]; omega) (by rw [lineOf_all hno])
  · have hs : sized c.V = true := by
      cases hq : sized c.V with
      | true => rfl
      | false =>
        unfold showL at hm
        rw [hq] at hm
        simp at hm
        omega
    have e : (showL c).take m = lineK c c.B.size ++ 10 :: (bs c.B ++ [10]).take (m - (lineK c c.B.size).length - 1) := by
      unfold showL
      rw [hs, if_pos rfl, List.take_append, List.take_of_length_le (by omega)]
      obtain ⟨j, hj⟩ : ∃ j, m - (lineK c c.B.size).length = j + 1 := ⟨m - (lineK c c.B.size).length - 1, by omega⟩
      rw [hj, List.take_succ_cons]
      rfl
    have hlen : ((bs c.B ++ [10]).take (m - (lineK c c.B.size).length - 1)).length ≤ c.B.size := by
      unfold showL at hm
      rw [hs, if_pos rfl] at hm
      simp [bs_len] at hm
      rw [List.length_take]
      omega
    rw [e, cmd_line h1 h2, line_told h, if_neg (by rw [hs]; decide), if_pos hlen]

/-! ### what comes later changes nothing -/
theorem lineOf_more (t u : List UInt8) : (lineOf t).length ≤ (lineOf (t ++ u)).length := by
  unfold lineOf
  rw [List.takeWhile_append]
  split
  · rw [List.length_append]
    rename_i h
    rw [h]
    omega
  · exact Nat.le_refl _
theorem cmd_prefix {t : List UInt8} (h : (cmdOf t).2.2 ≠ 1) (u : List UInt8) : cmdOf (t ++ u) = cmdOf t := by
  rcases cmd_cases t with ⟨hl, e⟩ | ⟨-, -, e⟩ | ⟨l, r, ht, hn, hl, e⟩
  · rw [e]
    exact cmd_long (Nat.lt_of_lt_of_le hl (lineOf_more t u))
  · rw [e] at h
    exact absurd rfl h
  · have e2 : t ++ u = l ++ 10 :: (r ++ u) := by rw [ht]; simp
    rw [e2, cmd_line hn hl, e]
    rw [e] at h
    unfold cmdLine at h ⊢
    split
    · rfl
    · rename_i hv
      rw [if_neg hv] at h
      split
      · rfl
      · rename_i c k hk
        rw [hk] at h
        dsimp only at h
        split
        · rfl
        · rename_i hs
          rw [if_neg hs] at h
          by_cases hr : r.length ≤ k
          · rw [if_pos hr] at h
            exact absurd rfl h
          · rw [if_neg hr, if_neg (by rw [List.length_append]; omega), List.getElem?_append_left (by omega), List.take_append_of_le_length (by omega)]

/-! ### one behind the other -/
noncomputable def cmdsF : Nat → List UInt8 → List Cm × List Int × Nat
  | 0, _ => ([], [], 0)
  | f + 1, t => if (cmdOf t).2.2 = 1 then ([], [], 0) else
    ((if (cmdOf t).2.2 = 0 then [(cmdOf t).1] else []) ++ (cmdsF f (t.drop (cmdOf t).2.1)).1, (cmdOf t).2.2 :: (cmdsF f (t.drop (cmdOf t).2.1)).2.1, (cmdOf t).2.1 + (cmdsF f (t.drop (cmdOf t).2.1)).2.2)
theorem cmdsF_fuel : ∀ (f g : Nat) (t : List UInt8), t.length < f → t.length < g → cmdsF f t = cmdsF g t
  | 0, g, t, h, _ => by omega
  | f + 1, 0, t, _, h => by omega
  | f + 1, g + 1, t, h1, h2 => by
    unfold cmdsF
    by_cases hk : (cmdOf t).2.2 = 1
    · rw [if_pos hk, if_pos hk]
    · obtain ⟨-, -, -, hm⟩ := cmd_codes (t := t) (c := (cmdOf t).1) (m := (cmdOf t).2.1) (k := (cmdOf t).2.2) rfl
      have := hm hk
      rw [if_neg hk, if_neg hk, cmdsF_fuel f g (t.drop (cmdOf t).2.1) (by rw [List.length_drop]; omega) (by rw [List.length_drop]; omega)]
noncomputable def cmdsL (t : List UInt8) : List Cm × List Int × Nat := cmdsF (t.length + 1) t
theorem cmds_stop {t : List UInt8} (h : (cmdOf t).2.2 = 1) : cmdsL t = ([], [], 0) := by unfold cmdsL cmdsF; rw [if_pos h]
theorem cmds_step {t : List UInt8} (h : (cmdOf t).2.2 ≠ 1) : cmdsL t =
    ((if (cmdOf t).2.2 = 0 then [(cmdOf t).1] else []) ++ (cmdsL (t.drop (cmdOf t).2.1)).1, (cmdOf t).2.2 :: (cmdsL (t.drop (cmdOf t).2.1)).2.1, (cmdOf t).2.1 + (cmdsL (t.drop (cmdOf t).2.1)).2.2) := by
  obtain ⟨-, -, -, hm⟩ := cmd_codes (t := t) (c := (cmdOf t).1) (m := (cmdOf t).2.1) (k := (cmdOf t).2.2) rfl
  have := hm h
  have e := cmdsF_fuel t.length ((t.drop (cmdOf t).2.1).length + 1) (t.drop (cmdOf t).2.1) (by rw [List.length_drop]; omega) (by omega)
  unfold cmdsL
  conv => lhs; unfold cmdsF
  rw [if_neg h, e]
theorem cmds_le (n : Nat) : ∀ t : List UInt8, t.length ≤ n → (cmdsL t).2.2 ≤ t.length := by
  induction n with
  | zero =>
    intro t ht
    by_cases hk : (cmdOf t).2.2 = 1
    · rw [cmds_stop hk]; exact Nat.zero_le _
    · have := (cmd_codes (t := t) (c := (cmdOf t).1) (m := (cmdOf t).2.1) (k := (cmdOf t).2.2) rfl).2.2.2 hk
      omega
  | succ n ih =>
    intro t ht
    by_cases hk : (cmdOf t).2.2 = 1
    · rw [cmds_stop hk]; exact Nat.zero_le _
    · have hm := (cmd_codes (t := t) (c := (cmdOf t).1) (m := (cmdOf t).2.1) (k := (cmdOf t).2.2) rfl).2.2.2 hk
      rw [cmds_step hk]
      have := ih (t.drop (cmdOf t).2.1) (by rw [List.length_drop]; omega)
      rw [List.length_drop] at this
      show (cmdOf t).2.1 + (cmdsL (t.drop (cmdOf t).2.1)).2.2 ≤ t.length
      omega
theorem cmds_take (t : List UInt8) : (cmdsL t).2.2 ≤ t.length := cmds_le t.length t (Nat.le_refl _)
/-- wherever bytes are cut -/
theorem cmds_cut (n : Nat) : ∀ (t : List UInt8) (k : Nat), t.length ≤ n → k ≤ t.length →
    cmdsL t = ((cmdsL (t.take k)).1 ++ (cmdsL (t.drop (cmdsL (t.take k)).2.2)).1, (cmdsL (t.take k)).2.1 ++ (cmdsL (t.drop (cmdsL (t.take k)).2.2)).2.1, (cmdsL (t.take k)).2.2 + (cmdsL (t.drop (cmdsL (t.take k)).2.2)).2.2) := by
  induction n with
  | zero =>
    intro t k ht hk
    have : t = [] := List.eq_nil_of_length_eq_zero (by omega)
    subst this
    have e : cmdOf [] = (Cm.zero, 0, 1) := cmd_more (by decide) rfl
    have : cmdsL [] = ([], [], 0) := cmds_stop (by rw [e])
    simp [this]
  | succ n ih =>
    intro t k ht hk
    by_cases h1 : (cmdOf (t.take k)).2.2 = 1
    · rw [cmds_stop h1]
      simp
    · have hm := (cmd_codes (t := t.take k) (c := (cmdOf (t.take k)).1) (m := (cmdOf (t.take k)).2.1) (k := (cmdOf (t.take k)).2.2) rfl).2.2.2 h1
      have e : cmdOf t = cmdOf (t.take k) := by
        have := cmd_prefix h1 (t.drop k)
        rw [List.take_append_drop] at this
        exact this
      rw [List.length_take] at hm
      obtain ⟨m, hme⟩ : ∃ m, (cmdOf (t.take k)).2.1 = m := ⟨_, rfl⟩
      have h2 : (cmdOf t).2.2 ≠ 1 := by rw [e]; exact h1
      have hd : (t.take k).drop m = (t.drop m).take (k - m) := List.drop_take ..
      have hi := ih (t.drop m) (k - m) (by rw [List.length_drop]; omega) (by rw [List.length_drop]; omega)
      rw [cmds_step h1, cmds_step h2, e, hme, hd]
      rw [← List.drop_drop]
      rw [hi]
      simp [Nat.add_assoc]
theorem cmds_cut' (t : List UInt8) {k : Nat} (hk : k ≤ t.length) : (cmdsL (t.take k)).1 ++ (cmdsL (t.drop (cmdsL (t.take k)).2.2)).1 = (cmdsL t).1 ∧ (cmdsL (t.take k)).2.1 ++ (cmdsL (t.drop (cmdsL (t.take k)).2.2)).2.1 = (cmdsL t).2.1 ∧ (cmdsL (t.take k)).2.2 + (cmdsL (t.drop (cmdsL (t.take k)).2.2)).2.2 = (cmdsL t).2.2 := by
  have h := cmds_cut t.length t k (Nat.le_refl _) hk
  exact ⟨(congrArg (·.1) h).symm, (congrArg (·.2.1) h).symm, (congrArg (·.2.2) h).symm⟩
/-- there are as many commands as codes that say so -/
theorem cmds_good (n : Nat) : ∀ t : List UInt8, t.length ≤ n → (cmdsL t).2.1.count 0 = (cmdsL t).1.length := by
  induction n with
  | zero =>
    intro t ht
    by_cases hk : (cmdOf t).2.2 = 1
    · rw [cmds_stop hk]; rfl
    · have := (cmd_codes (t := t) (c := (cmdOf t).1) (m := (cmdOf t).2.1) (k := (cmdOf t).2.2) rfl).2.2.2 hk
      omega
  | succ n ih =>
    intro t ht
    by_cases hk : (cmdOf t).2.2 = 1
    · rw [cmds_stop hk]; rfl
    · have hm := (cmd_codes (t := t) (c := (cmdOf t).1) (m := (cmdOf t).2.1) (k := (cmdOf t).2.2) rfl).2.2.2 hk
      have hi := ih (t.drop (cmdOf t).2.1) (by rw [List.length_drop]; omega)
      rw [cmds_step hk]
      dsimp only
      rw [List.count_cons, hi, List.length_append]
      by_cases h0 : (cmdOf t).2.2 = 0
      · simp [h0]
        omega
      · simp [h0]
end Go.Proofs.Ytmnjmghlkiljhaa.cm
