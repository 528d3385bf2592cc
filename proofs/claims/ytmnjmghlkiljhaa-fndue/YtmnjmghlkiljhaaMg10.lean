/- Texts laid together: Cx2 Cx3 Px0 Bx0 Bx1 Ax0 Zx0 Sn5 Io2. -/
import Derived.Test.YtmnjmghlkiljhaaMg09
import Derived.Test.YtmnjmghlkiljhaaMg00
/- Mathematics of commands, second part: what a line that is read is shown as; what stands at the head of bytes. -/
namespace Go.Proofs.Ytmnjmghlkiljhaa.cm
open Go.RowKit
open Go.Proofs.Ytmnjmghlkiljhaa.rg (nameB nbB nameB_size)
set_option linter.unusedVariables false

theorem list_two {l : List (List UInt8)} (h : 2 ≤ l.length) : ∃ a b r, l = a :: b :: r := by
  match l, h with
  | a :: b :: r, _ => exact ⟨a, b, r, rfl⟩
/-- the numbers of what is built are the numbers -/
theorem build_nums {v : Int} {q : Bool} {nm : ByteArray} {n : List Nat} (hl : n.length = want v) : numsK (build v q nm n) (sizeN v n) = n ∧ (build v q nm n).V = v ∧ (build v q nm n).N = nm ∧ (build v q nm n).Q = q ∧ (build v q nm n).B = emp ∧ (sized v = false → sizeN v n = 0) := by
  unfold want at hl
  unfold build sizeN numsK
  cases hfull : full v with
  | true =>
    have hs : sized v = true := by
      unfold full at hfull
      unfold sized
      simp at hfull ⊢
      omega
    rw [hfull, hs] at hl
    by_cases h8 : v = 8
    · have e8 : sized 8 = true := rfl
      have f8 : full 8 = true := rfl
      simp [h8] at hl
      match n, hl with
      | [a, b, c, d], _ => simp [h8, e8, f8, nth]
    · simp [h8] at hl
      match n, hl with
      | [a, b, c], _ => simp [h8, hs, hfull, nth]
  | false =>
    have h8 : v ≠ 8 := fun e => by rw [e] at hfull; simp [full] at hfull
    cases hs : sized v with
    | true =>
      rw [hfull, hs] at hl
      simp [h8] at hl
      match n, hl with
      | [a], _ => simp [h8, hs, hfull]
    | false =>
      by_cases h11 : v = 11
      · have e11 : sized 11 = false := rfl
        have f11 : full 11 = false := rfl
        rw [hfull, hs] at hl
        simp [h11] at hl
        match n, hl with
        | [a], _ => simp [h11, e11, f11, nth]
      · cases hst : stepV v with
        | true =>
          rw [hfull, hs, hst] at hl
          simp [h8, h11] at hl
          match n, hl with
          | [a], _ => simp [h8, h11, hs, hfull, hst, nth]
        | false =>
          rw [hfull, hs, hst] at hl
          simp [h8, h11] at hl
          rw [hl]
          simp [h8, h11, hs, hfull, hst]
/-- a line that is read is what it is shown as -/
theorem line_is {v : Int} {w : List (List UInt8)} {c : Cm} {k : Nat} (h : lineL v w = some (c, k)) (hw : w.head? = some (vw v)) : COk c ∧ c.V = v ∧ c.B = emp ∧ k ≤ 64 ∧ (sized v = false → k = 0) ∧ wordsK c k = w := by
  unfold lineL at h
  split at h
  · cases h
  · rename_i hn
    split at h
    · rename_i hy
      simp only [Option.some.injEq, Prod.mk.injEq] at h
      obtain ⟨hc, hk⟩ := h
      simp only [not_or, Classical.not_not, ne_eq] at hn
      obtain ⟨h1, h2, h3⟩ := hn
      obtain ⟨b1, b2, b3, b4, b5, b6⟩ := build_nums (v := v) (q := quietB v w) (nm := nameW v (plainW v w)) (n := (restW v (plainW v w)).map (val 0)) (by rw [List.length_map]; exact h3)
      rw [hc, hk] at b1
      rw [hc] at b2 b3 b4 b5
      rw [hk] at b6
      rw [hc, hk] at hy
      refine ⟨hy.2, b2, b5, hy.1, b6, ?_⟩
      have hd := map_digs h2
      unfold wordsK
      rw [b1, b2, b3, b4, hd]
      have hpl : vw v :: (if v = 13 then [] else [bs (nameW v (plainW v w))]) ++ restW v (plainW v w) = plainW v w := by
        have hhead : (plainW v w).head? = some (vw v) := by
          unfold plainW
          split
          · rename_i hq
            unfold quietB at hq
            simp only [Bool.and_eq_true, decide_eq_true_eq] at hq
            match w, hw, hq with
            | a :: b :: r, hw, _ => simpa using hw
          · exact hw
        unfold nameW restW
        by_cases h13 : v = 13
        · cases hp : plainW v w with
          | nil => rw [hp] at hhead; simp at hhead
          | cons a r =>
            rw [hp] at hhead
            have ha : a = vw v := by simpa using hhead
            simp [h13, ha]
        · obtain ⟨a, b, r, hp⟩ := list_two (l := plainW v w) (Nat.le_of_not_lt fun q => h1 ⟨h13, q⟩)
          rw [hp] at hhead ⊢
          have ha : a = vw v := by simpa using hhead
          simp [h13, ha, bs_tx]
      rw [hpl]
      unfold plainW
      cases hq : quietB v w with
      | false => simp
      | true =>
        simp only [if_true]
        unfold quietB at hq
        simp only [Bool.and_eq_true, decide_eq_true_eq, beq_iff_eq] at hq
        have hne : w ≠ [] := fun e => by rw [e] at hw; simp at hw
        have hl : w.getLast hne = quiet := by
          have := hq.1.1.2
          rw [List.getLast?_eq_some_getLast hne] at this
          simpa using this
        rw [← hl, List.dropLast_concat_getLast]
    · cases h

/-! ### what stands at the head -/
/-- the number of a verb's word; 0: it is none -/
def verbOf (w : List UInt8) : Int := ((verbs.findIdx? (· == w)).map fun i => (i : Int) + 1).getD 0
theorem verbOf_pos {w : List UInt8} (h : verbOf w ≠ 0) : 1 ≤ verbOf w ∧ verbOf w ≤ 13 ∧ vw (verbOf w) = w := by
  unfold verbOf at h ⊢
  cases e : verbs.findIdx? (· == w) with
  | none => rw [e] at h; simp at h
  | some i =>
    obtain ⟨hi, h2, -⟩ := List.findIdx?_eq_some_iff_getElem.1 e
    have hi' : i < 13 := hi
    refine ⟨by simp; omega, by simp; omega, ?_⟩
    show (verbs[(((i : Int) + 1) - 1).toNat]?).getD [] = w
    rw [Int.add_sub_cancel, Int.toNat_natCast, List.getElem?_eq_getElem hi]
    simpa using h2
theorem verbOf_vw {v : Int} (h0 : 1 ≤ v) (h1 : v ≤ 13) : verbOf (vw v) = v := by
  rcases verb_cases h0 h1 with rfl | rfl | rfl | rfl | rfl | rfl | rfl | rfl | rfl | rfl | rfl | rfl | rfl <;> decide
/-- the line that stands at the head -/
def lineOf (t : List UInt8) : List UInt8 := t.takeWhile fun c => c != 10
noncomputable def cmdOf (t : List UInt8) : Cm × Nat × Int :=
  if 100 < (lineOf t).length then (Cm.zero, 101, 3)
  else if (lineOf t).length = t.length then (Cm.zero, 0, 1)
  else if verbOf ((splitL 32 (lineOf t)).headD []) = 0 then (Cm.zero, (lineOf t).length + 1, 2)
  else match lineL (verbOf ((splitL 32 (lineOf t)).headD [])) (splitL 32 (lineOf t)) with
    | none => (Cm.zero, (lineOf t).length + 1, 3)
    | some (c, k) =>
      if sized c.V = false then (c, (lineOf t).length + 1, 0)
      else if t.length ≤ (lineOf t).length + 1 + k then (Cm.zero, 0, 1)
      else if t[(lineOf t).length + 1 + k]? ≠ some 10 then (Cm.zero, (lineOf t).length + 1, 3)
      else (⟨c.V, c.N, c.F, c.U, tx ((t.drop ((lineOf t).length + 1)).take k), c.C, c.D, c.Q⟩, (lineOf t).length + 1 + k + 1, 0)

theorem lineOf_le (t : List UInt8) : (lineOf t).length ≤ t.length := (List.takeWhile_sublist _).length_le
theorem lineOf_no (t : List UInt8) : 10 ∉ lineOf t := fun h => by
  have := List.all_eq_true.1 (List.all_takeWhile (p := fun c => c != 10) (l := t)) 10 h
  simp at this
/-- behind the line stands a byte 10, or nothing -/
theorem lineOf_end {t : List UInt8} (h : (lineOf t).length ≠ t.length) : ∃ u, t = lineOf t ++ 10 :: u := by
  have e : lineOf t ++ t.dropWhile (fun c => c != 10) = t := List.takeWhile_append_dropWhile
  cases hd : t.dropWhile (fun c => c != 10) with
  | nil => rw [hd, List.append_nil] at e; exact absurd (congrArg List.length e) h
  | cons c r =>
    have hc : (c != 10) = false := by
      have := List.head?_dropWhile_not (fun c => c != 10) t
      rw [hd] at this
      simpa using this
    have : c = 10 := by simpa using hc
    rw [hd, this] at e
    exact ⟨r, e.symm⟩
theorem lineOf_app {l : List UInt8} (h : 10 ∉ l) (u : List UInt8) : lineOf (l ++ 10 :: u) = l := by
  unfold lineOf
  rw [List.takeWhile_append_of_pos (fun c hc => by simp; intro e; rw [e] at hc; exact h hc)]
  simp
theorem lineOf_all : ∀ {l : List UInt8}, 10 ∉ l → lineOf l = l
  | [], _ => rfl
  | c :: r, h => by
    simp only [List.mem_cons, not_or] at h
    have hc : (c != 10) = true := by simp; exact fun e => h.1 e.symm
    have := lineOf_all h.2
    unfold lineOf at this ⊢
    rw [List.takeWhile_cons, hc, if_pos rfl, this]
/-- a line of at most a hundred bytes -/
theorem cmd_long {t : List UInt8} (h : 100 < (lineOf t).length) : cmdOf t = (Cm.zero, 101, 3) := by unfold cmdOf; rw [if_pos h]
theorem cmd_more {t : List UInt8} (h : ¬ 100 < (lineOf t).length) (h2 : (lineOf t).length = t.length) : cmdOf t = (Cm.zero, 0, 1) := by unfold cmdOf; rw [if_neg h, if_pos h2]
/-- what is told of a whole line l and what stands behind it -/
noncomputable def cmdLine (l u : List UInt8) : Cm × Nat × Int :=
  if verbOf ((splitL 32 l).headD []) = 0 then (Cm.zero, l.length + 1, 2)
  else match lineL (verbOf ((splitL 32 l).headD [])) (splitL 32 l) with
    | none => (Cm.zero, l.length + 1, 3)
    | some (c, k) =>
      if sized c.V = false then (c, l.length + 1, 0)
      else if u.length ≤ k then (Cm.zero, 0, 1)
      else if u[k]? ≠ some 10 then (Cm.zero, l.length + 1, 3)
      else (⟨c.V, c.N, c.F, c.U, tx (u.take k), c.C, c.D, c.Q⟩, l.length + 1 + k + 1, 0)
theorem cmd_line {l u : List UInt8} (h : 10 ∉ l) (hl : l.length ≤ 100) : cmdOf (l ++ 10 :: u) = cmdLine l u := by
  unfold cmdOf cmdLine
  rw [lineOf_app h, if_neg (by omega), if_neg (by simp)]
  split
  · rfl
  · split
    · rfl
    · rename_i c k e
      have e1 : ((l ++ 10 :: u).length ≤ l.length + 1 + k) = (u.length ≤ k) := by simp only [List.length_append, List.length_cons, eq_iff_iff]; omega
      have e2 : (l ++ 10 :: u)[l.length + 1 + k]? = u[k]? := by
        rw [List.getElem?_append_right (by omega), show l.length + 1 + k - l.length = k + 1 by omega, List.getElem?_cons_succ]
      have e3 : (l ++ 10 :: u).drop (l.length + 1) = u := by
        rw [List.drop_append, List.drop_eq_nil_of_le (by omega), show l.length + 1 - l.length = 1 by omega]
        rfl
      simp only [e1, e2, e3]
/-- bytes: a line that is too long, a line that does not end, or a line and what stands behind it -/
theorem cmd_cases (t : List UInt8) : (100 < (lineOf t).length ∧ cmdOf t = (Cm.zero, 101, 3)) ∨ (10 ∉ t ∧ t.length ≤ 100 ∧ cmdOf t = (Cm.zero, 0, 1)) ∨ ∃ l u, t = l ++ 10 :: u ∧ 10 ∉ l ∧ l.length ≤ 100 ∧ cmdOf t = cmdLine l u := by
  by_cases h : 100 < (lineOf t).length
  · exact .inl ⟨h, cmd_long h⟩
  · by_cases h2 : (lineOf t).length = t.length
    · have e : lineOf t = t := (List.takeWhile_sublist _).eq_of_length h2
      refine .inr (.inl ⟨e ▸ lineOf_no t, by omega, cmd_more h h2⟩)
    · obtain ⟨u, hu⟩ := lineOf_end h2
      refine .inr (.inr ⟨lineOf t, u, hu, lineOf_no t, by omega, ?_⟩)
      conv => lhs; rw [hu]
      exact cmd_line (lineOf_no t) (by omega)
/-- what is told of a line, one of four ways -/
inductive Told (l u : List UInt8) : Cm × Nat × Int → Prop
  | bad (k : Int) (h : k = 2 ∨ k = 3) : Told l u (Cm.zero, l.length + 1, k)
  | more (c : Cm) (k : Nat) (hc : COk c) (hb : c.B = emp) (hw : wordsL (wordsK c k) = l) (hs : sized c.V = true) (h : u.length ≤ k) (hk : k ≤ 64) : Told l u (Cm.zero, 0, 1)
  | plain (c : Cm) (hc : COk c) (hw : showL c = l ++ [10]) : Told l u (c, l.length + 1, 0)
  | bytes (c : Cm) (r : List UInt8) (hc : COk c) (hu : u = bs c.B ++ 10 :: r) (hw : showL c = l ++ 10 :: (bs c.B ++ [10])) : Told l u (c, (l.length + 1 + c.B.size) + 1, 0)
theorem told (l u : List UInt8) : Told l u (cmdLine l u) := by
  unfold cmdLine
  split
  · exact .bad 2 (.inl rfl)
  · rename_i hv
    obtain ⟨v0, v1, vv⟩ := verbOf_pos hv
    split
    · exact .bad 3 (.inr rfl)
    · rename_i c k e
      have hh : (splitL 32 l).head? = some (vw (verbOf ((splitL 32 l).headD []))) := by
        rw [vv]
        cases hs : splitL 32 l with
        | nil => exact absurd hs (splitL_ne _ _)
        | cons a r => rfl
      obtain ⟨b1, b2, b3, b4, b5, b6⟩ := line_is e hh
      rw [← b2] at b5
      have hl : wordsL (wordsK c k) = l := by rw [b6]; exact words_split l
      split
      · rename_i hs
        refine .plain c b1 ?_
        have hk := b5 hs
        unfold showL lineK
        rw [hs, b3, show emp.size = 0 from rfl, ← hk, hl]
        rfl
      · rename_i hs
        replace hs : sized c.V = true := by simpa using hs
        split
        · rename_i h
          exact .more c k b1 b3 hl hs h b4
        · rename_i h
          split
          · exact .bad 3 (.inr rfl)
          · rename_i h10
            have hk : (u.take k).length = k := by rw [List.length_take]; omega
            have h10' : u[k]? = some 10 := Classical.byContradiction h10
            have ok : COk ⟨c.V, c.N, c.F, c.U, tx (u.take k), c.C, c.D, c.Q⟩ := ⟨b1.v0, b1.v1, b1.q, b1.n0, b1.nm, b1.f, b1.u, fun q => (by rw [show sized c.V = false from q] at hs; exact absurd hs (by decide)), b1.c8, b1.d, b1.c1, b1.f1, b1.u1, by show (tx (u.take k)).size ≤ 64; rw [tx_size, hk]; exact b4, b1.d1⟩
            have hu : u = u.take k ++ 10 :: u.drop (k + 1) := by
              obtain ⟨hlt, h11⟩ := List.getElem?_eq_some_iff.1 h10'
              rw [← h11]
              simp
            have hsz : (tx (u.take k)).size = k := by rw [tx_size, hk]
            have := Told.bytes (l := l) (u := u) ⟨c.V, c.N, c.F, c.U, tx (u.take k), c.C, c.D, c.Q⟩ (u.drop (k + 1)) ok (by show u = bs (tx (u.take k)) ++ _; rw [bs_tx]; exact hu) (by
              show lineK _ (tx (u.take k)).size ++ 10 :: (if sized c.V then bs (tx (u.take k)) ++ [10] else []) = l ++ 10 :: (bs (tx (u.take k)) ++ [10])
              rw [hsz, hs, if_pos rfl]
              congr 1)
            dsimp only at this
            rw [hsz] at this
            exact this
end Go.Proofs.Ytmnjmghlkiljhaa.cm
/- Mathematics of commands, third part: what the laws FnCmds and FnCut say. -/
namespace Go.Proofs.Ytmnjmghlkiljhaa.cm
open Go.RowKit
open Go.Proofs.Ytmnjmghlkiljhaa.rg (nameB nbB nameB_size)
set_option linter.unusedVariables false

/-- what stands there is shown as it stands -/
theorem cmd_sound {t : List UInt8} {c : Cm} {m : Nat} (h : cmdOf t = (c, m, 0)) : COk c ∧ showL c = t.take m ∧ 1 ≤ m ∧ m ≤ t.length := by
  rcases cmd_cases t with ⟨-, e⟩ | ⟨-, -, e⟩ | ⟨l, u, ht, -, -, e⟩
  · rw [e] at h; simp at h
  · rw [e] at h; simp at h
  · rw [e] at h
    have ho := told l u
    rw [h] at ho
    cases ho with
    | bad k hk => omega
    | plain c hc hw =>
      refine ⟨hc, ?_, by omega, by rw [ht]; simp⟩
      rw [hw, ht, List.take_append, List.take_of_length_le (by omega), show l.length + 1 - l.length = 1 by omega]
      rfl
    | bytes c r hc hu hw =>
      refine ⟨hc, ?_, by omega, by rw [ht, hu]; simp [bs_len]; omega⟩
      have e2 : t = (l ++ 10 :: (bs c.B ++ [10])) ++ r := by rw [ht, hu]; simp
      have hl : (l ++ 10 :: (bs c.B ++ [10])).length = l.length + 1 + c.B.size + 1 := by simp [bs_len]; omega
      rw [hw, e2, ← hl, List.take_left]
/-- the codes -/
theorem cmd_codes {t : List UInt8} {c : Cm} {m : Nat} {k : Int} (h : cmdOf t = (c, m, k)) : (k = 0 ∨ k = 1 ∨ k = 2 ∨ k = 3) ∧ (k ≠ 0 → c = Cm.zero) ∧ (k = 1 → m = 0) ∧ (k ≠ 1 → 1 ≤ m ∧ m ≤ t.length) := by
  by_cases h0 : k = 0
  · rw [h0] at h
    obtain ⟨-, -, h1, h2⟩ := cmd_sound h
    exact ⟨.inl h0, fun q => absurd h0 q, fun q => by omega, fun _ => ⟨h1, h2⟩⟩
  · rcases cmd_cases t with ⟨hl, e⟩ | ⟨-, -, e⟩ | ⟨l, u, ht, -, -, e⟩
    · rw [e] at h
      simp only [Prod.mk.injEq] at h
      have := lineOf_le t
      exact ⟨by omega, fun _ => h.1.symm, fun q => by omega, fun _ => by omega⟩
    · rw [e] at h
      simp only [Prod.mk.injEq] at h
      exact ⟨by omega, fun _ => h.1.symm, fun q => by omega, fun q => absurd h.2.2.symm q⟩
    · rw [e] at h
      have ho := told l u
      rw [h] at ho
      cases ho with
      | bad k hk => exact ⟨by omega, fun _ => rfl, fun q => by omega, fun _ => ⟨by omega, by rw [ht]; simp⟩⟩
      | more c k hc hb hw hs h1 h2 => exact ⟨by omega, fun _ => rfl, fun _ => rfl, fun q => absurd rfl q⟩
      | plain c hc hw => exact absurd rfl h0
      | bytes c r hc hu hw => exact absurd rfl h0

/-! ### what is shown is read -/
theorem name_bytes {s : ByteArray} (h : nameB s = true) {c : UInt8} (hc : c ∈ bs s) : c ≠ 32 ∧ c ≠ 10 := by
  unfold nameB at h
  simp only [Bool.and_eq_true, List.all_eq_true] at h
  have h1 := h.1 c hc
  constructor
  · intro e; rw [e] at h1; exact absurd h1 (by decide)
  · intro e; rw [e] at h1; exact absurd h1 (by decide)
theorem digs_bytes {n : Nat} {c : UInt8} (hc : c ∈ digs n) : c ≠ 32 ∧ c ≠ 10 := by
  have h1 := digs_all n c hc
  constructor
  · intro e; rw [e] at h1; exact absurd h1 (by decide)
  · intro e; rw [e] at h1; exact absurd h1 (by decide)
theorem vw_ok {v : Int} (h0 : 1 ≤ v) (h1 : v ≤ 13) : (∀ c ∈ vw v, c ≠ 32 ∧ c ≠ 10) ∧ (vw v).length ≤ 12 := by
  rcases verb_cases h0 h1 with rfl | rfl | rfl | rfl | rfl | rfl | rfl | rfl | rfl | rfl | rfl | rfl | rfl <;> decide
theorem words_ok {c : Cm} (h : COk c) {k : Nat} (hk : k ≤ 64) : ∀ w ∈ wordsK c k, (∀ x ∈ w, x ≠ 32 ∧ x ≠ 10) ∧ w.length ≤ 12 := by
  intro w hw
  unfold wordsK at hw
  rcases List.mem_append.1 hw with hw | hw
  · rcases List.mem_append.1 hw with hw | hw
    · rcases List.mem_cons.1 hw with rfl | hw
      · exact vw_ok h.v0 h.v1
      · split at hw
        · simp at hw
        · rename_i h13
          rw [List.mem_singleton.1 hw]
          exact ⟨fun x hx => name_bytes (h.nm h13) hx, by rw [bs_len]; exact (nameB_size (h.nm h13)).2⟩
    · obtain ⟨n, hn, rfl⟩ := List.mem_map.1 hw
      have := nums_small h hk n hn
      exact ⟨fun x hx => digs_bytes hx, Nat.le_trans (digs_len 6 n (by omega)) (by omega)⟩
  · split at hw
    · rw [List.mem_singleton.1 hw]
      decide
    · simp at hw
theorem want_le (v : Int) : want v ≤ 4 := by
  unfold want
  split <;> split <;> split <;> omega
theorem words_len (c : Cm) (k : Nat) : (wordsK c k).length ≤ 7 := by
  rw [words_core, List.length_append, core_len]
  have := want_le c.V
  split <;> split <;> simp <;> omega
theorem line_ok {c : Cm} (h : COk c) {k : Nat} (hk : k ≤ 64) : 10 ∉ lineK c k ∧ (lineK c k).length ≤ 100 := by
  have ho := words_ok h hk
  constructor
  · intro hx
    rcases wordsL_mem _ hx with e | ⟨w, hw, hx⟩
    · exact absurd e (by decide)
    · exact ((ho w hw).1 10 hx).2 rfl
  · have h1 := wordsL_len (wordsK c k) 12 (fun w hw => (ho w hw).2)
    have h2 := words_len c k
    unfold lineK
    have : (wordsK c k).length * (12 + 1) ≤ 7 * 13 := Nat.mul_le_mul_right _ h2
    omega
theorem split_show {c : Cm} (h : COk c) {k : Nat} (hk : k ≤ 64) : splitL 32 (lineK c k) = wordsK c k :=
  split_words _ (by unfold wordsK; simp) (fun w hw hx => ((words_ok h hk w hw).1 32 hx).1 rfl)
theorem head_words (c : Cm) (k : Nat) : (wordsK c k).headD [] = vw c.V := by unfold wordsK; simp
theorem bare_back {c : Cm} {b : ByteArray} (h : c.B = b) : (⟨c.V, c.N, c.F, c.U, b, c.C, c.D, c.Q⟩ : Cm) = c := by cases c; simp at h; subst h; rfl
/-- of a line of a right command -/
theorem line_told {c : Cm} (h : COk c) (u : List UInt8) : cmdLine (lineK c c.B.size) u =
    if sized c.V = false then (c, (lineK c c.B.size).length + 1, 0)
    else if u.length ≤ c.B.size then (Cm.zero, 0, 1)
    else if u[c.B.size]? ≠ some 10 then (Cm.zero, (lineK c c.B.size).length + 1, 3)
    else (⟨c.V, c.N, c.F, c.U, tx (u.take c.B.size), c.C, c.D, c.Q⟩, (lineK c c.B.size).length + 1 + c.B.size + 1, 0) := by
  unfold cmdLine
  rw [split_show h h.b1, head_words, verbOf_vw h.v0 h.v1, if_neg (by have := h.v0; omega), line_show h]
  dsimp only [bare]
  by_cases hs : sized c.V = false
  · rw [if_pos hs, if_pos hs, bare_back (h.b hs)]
  · rw [if_neg hs, if_neg hs]
theorem cmd_show {c : Cm} (h : COk c) (u : List UInt8) : cmdOf (showL c ++ u) = (c, (showL c).length, 0) := by
  obtain ⟨h1, h2⟩ := line_ok h h.b1
  unfold showL
  rw [List.append_assoc, List.cons_append, cmd_line h1 h2, line_told h]
  by_cases hs : sized c.V = false
  · rw [if_pos hs, hs]
    simp
  · have hs' : sized c.V = true := by simpa using hs
    have e : ∀ x : List UInt8, (bs c.B ++ [10]) ++ x = bs c.B ++ 10 :: x := fun x => by simp
    rw [if_neg hs, hs', if_pos rfl, e, if_neg (by simp [bs_len]), if_neg, ← bs_len, List.take_left, tx_bs, bare_back rfl]
    · simp only [List.length_append, List.length_cons, List.length_nil]
      congr 2
      omega
    · rw [← bs_len, List.getElem?_append_right (Nat.le_refl _), Nat.sub_self]
      simp
/-- cut it is not yet one -/
theorem cmd_cut {c : Cm} (h : COk c) {m : Nat} (hm : m < (showL c).length) : cmdOf ((showL c).take m) = (Cm.zero, 0, 1) := by
  obtain ⟨h1, h2⟩ := line_ok h h.b1
  by_cases hl : m ≤ (lineK c c.B.size).length
  · have e : (showL c).take m = (lineK c c.B.size).take m := by unfold showL; rw [List.take_append_of_le_length hl]
    rw [e]
    have hno : 10 ∉ (lineK c c.B.size).take m := fun hx => h1 (List.mem_of_mem_take hx)
    have hle : ((lineK c c.B.size).take m).length ≤ 100 := by rw [List.length_take]; omega
    exact cmd_more (by rw [lineOf_all hno]; omega) (by rw [lineOf_all hno])
  · have hs : sized c.V = true := by
      cases hq : sized c.V with
      | true => rfl
      | false =>
        unfold showL at hm
        rw [hq] at hm
        simp at hm
        omega
    have e : (showL c).take m = lineK c c.B.size ++ 10 :: (bs c.B ++ [10]).take (m - (lineK c c.B.size).length - 1) := by
      unfold showL
      rw [hs, if_pos rfl, List.take_append, List.take_of_length_le (by omega)]
      obtain ⟨j, hj⟩ : ∃ j, m - (lineK c c.B.size).length = j + 1 := ⟨m - (lineK c c.B.size).length - 1, by omega⟩
      rw [hj, List.take_succ_cons]
      rfl
    have hlen : ((bs c.B ++ [10]).take (m - (lineK c c.B.size).length - 1)).length ≤ c.B.size := by
      unfold showL at hm
      rw [hs, if_pos rfl] at hm
      simp [bs_len] at hm
      rw [List.length_take]
      omega
    rw [e, cmd_line h1 h2, line_told h, if_neg (by rw [hs]; decide), if_pos hlen]

/-! ### what comes later changes nothing -/
theorem lineOf_more (t u : List UInt8) : (lineOf t).length ≤ (lineOf (t ++ u)).length := by
  unfold lineOf
  rw [List.takeWhile_append]
  split
  · rw [List.length_append]
    rename_i h
    rw [h]
    omega
  · exact Nat.le_refl _
theorem cmd_prefix {t : List UInt8} (h : (cmdOf t).2.2 ≠ 1) (u : List UInt8) : cmdOf (t ++ u) = cmdOf t := by
  rcases cmd_cases t with ⟨hl, e⟩ | ⟨-, -, e⟩ | ⟨l, r, ht, hn, hl, e⟩
  · rw [e]
    exact cmd_long (Nat.lt_of_lt_of_le hl (lineOf_more t u))
  · rw [e] at h
    exact absurd rfl h
  · have e2 : t ++ u = l ++ 10 :: (r ++ u) := by rw [ht]; simp
    rw [e2, cmd_line hn hl, e]
    rw [e] at h
    unfold cmdLine at h ⊢
    split
    · rfl
    · rename_i hv
      rw [if_neg hv] at h
      split
      · rfl
      · rename_i c k hk
        rw [hk] at h
        dsimp only at h
        split
        · rfl
        · rename_i hs
          rw [if_neg hs] at h
          by_cases hr : r.length ≤ k
          · rw [if_pos hr] at h
            exact absurd rfl h
          · rw [if_neg hr, if_neg (by rw [List.length_append]; omega), List.getElem?_append_left (by omega), List.take_append_of_le_length (by omega)]

/-! ### one behind the other -/
noncomputable def cmdsF : Nat → List UInt8 → List Cm × List Int × Nat
  | 0, _ => ([], [], 0)
  | f + 1, t => if (cmdOf t).2.2 = 1 then ([], [], 0) else
    ((if (cmdOf t).2.2 = 0 then [(cmdOf t).1] else []) ++ (cmdsF f (t.drop (cmdOf t).2.1)).1, (cmdOf t).2.2 :: (cmdsF f (t.drop (cmdOf t).2.1)).2.1, (cmdOf t).2.1 + (cmdsF f (t.drop (cmdOf t).2.1)).2.2)
theorem cmdsF_fuel : ∀ (f g : Nat) (t : List UInt8), t.length < f → t.length < g → cmdsF f t = cmdsF g t
  | 0, g, t, h, _ => by omega
  | f + 1, 0, t, _, h => by omega
  | f + 1, g + 1, t, h1, h2 => by
    unfold cmdsF
    by_cases hk : (cmdOf t).2.2 = 1
    · rw [if_pos hk, if_pos hk]
    · obtain ⟨-, -, -, hm⟩ := cmd_codes (t := t) (c := (cmdOf t).1) (m := (cmdOf t).2.1) (k := (cmdOf t).2.2) rfl
      have := hm hk
      rw [if_neg hk, if_neg hk, cmdsF_fuel f g (t.drop (cmdOf t).2.1) (by rw [List.length_drop]; omega) (by rw [List.length_drop]; omega)]
noncomputable def cmdsL (t : List UInt8) : List Cm × List Int × Nat := cmdsF (t.length + 1) t
theorem cmds_stop {t : List UInt8} (h : (cmdOf t).2.2 = 1) : cmdsL t = ([], [], 0) := by unfold cmdsL cmdsF; rw [if_pos h]
theorem cmds_step {t : List UInt8} (h : (cmdOf t).2.2 ≠ 1) : cmdsL t =
    ((if (cmdOf t).2.2 = 0 then [(cmdOf t).1] else []) ++ (cmdsL (t.drop (cmdOf t).2.1)).1, (cmdOf t).2.2 :: (cmdsL (t.drop (cmdOf t).2.1)).2.1, (cmdOf t).2.1 + (cmdsL (t.drop (cmdOf t).2.1)).2.2) := by
  obtain ⟨-, -, -, hm⟩ := cmd_codes (t := t) (c := (cmdOf t).1) (m := (cmdOf t).2.1) (k := (cmdOf t).2.2) rfl
  have := hm h
  have e := cmdsF_fuel t.length ((t.drop (cmdOf t).2.1).length + 1) (t.drop (cmdOf t).2.1) (by rw [List.length_drop]; omega) (by omega)
  unfold cmdsL
  conv => lhs; unfold cmdsF
  rw [if_neg h, e]
theorem cmds_le (n : Nat) : ∀ t : List UInt8, t.length ≤ n → (cmdsL t).2.2 ≤ t.length := by
  induction n with
  | zero =>
    intro t ht
    by_cases hk : (cmdOf t).2.2 = 1
    · rw [cmds_stop hk]; exact Nat.zero_le _
    · have := (cmd_codes (t := t) (c := (cmdOf t).1) (m := (cmdOf t).2.1) (k := (cmdOf t).2.2) rfl).2.2.2 hk
      omega
  | succ n ih =>
    intro t ht
    by_cases hk : (cmdOf t).2.2 = 1
    · rw [cmds_stop hk]; exact Nat.zero_le _
    · have hm := (cmd_codes (t := t) (c := (cmdOf t).1) (m := (cmdOf t).2.1) (k := (cmdOf t).2.2) rfl).2.2.2 hk
      rw [cmds_step hk]
      have := ih (t.drop (cmdOf t).2.1) (by rw [List.length_drop]; omega)
      rw [List.length_drop] at this
      show (cmdOf t).2.1 + (cmdsL (t.drop (cmdOf t).2.1)).2.2 ≤ t.length
      omega
theorem cmds_take (t : List UInt8) : (cmdsL t).2.2 ≤ t.length := cmds_le t.length t (Nat.le_refl _)
/-- wherever bytes are cut -/
theorem cmds_cut (n : Nat) : ∀ (t : List UInt8) (k : Nat), t.length ≤ n → k ≤ t.length →
    cmdsL t = ((cmdsL (t.take k)).1 ++ (cmdsL (t.drop (cmdsL (t.take k)).2.2)).1, (cmdsL (t.take k)).2.1 ++ (cmdsL (t.drop (cmdsL (t.take k)).2.2)).2.1, (cmdsL (t.take k)).2.2 + (cmdsL (t.drop (cmdsL (t.take k)).2.2)).2.2) := by
  induction n with
  | zero =>
    intro t k ht hk
    have : t = [] := List.eq_nil_of_length_eq_zero (by omega)
    subst this
    have e : cmdOf [] = (Cm.zero, 0, 1) := cmd_more (by decide) rfl
    have : cmdsL [] = ([], [], 0) := cmds_stop (by rw [e])
    simp [this]
  | succ n ih =>
    intro t k ht hk
    by_cases h1 : (cmdOf (t.take k)).2.2 = 1
    · rw [cmds_stop h1]
      simp
    · have hm := (cmd_codes (t := t.take k) (c := (cmdOf (t.take k)).1) (m := (cmdOf (t.take k)).2.1) (k := (cmdOf (t.take k)).2.2) rfl).2.2.2 h1
      have e : cmdOf t = cmdOf (t.take k) := by
        have := cmd_prefix h1 (t.drop k)
        rw [List.take_append_drop] at this
        exact this
      rw [List.length_take] at hm
      obtain ⟨m, hme⟩ : ∃ m, (cmdOf (t.take k)).2.1 = m := ⟨_, rfl⟩
      have h2 : (cmdOf t).2.2 ≠ 1 := by rw [e]; exact h1
      have hd : (t.take k).drop m = (t.drop m).take (k - m) := List.drop_take ..
      have hi := ih (t.drop m) (k - m) (by rw [List.length_drop]; omega) (by rw [List.length_drop]; omega)
      rw [cmds_step h1, cmds_step h2, e, hme, hd]
      rw [← List.drop_drop]
      rw [hi]
      simp [Nat.add_assoc]
theorem cmds_cut' (t : List UInt8) {k : Nat} (hk : k ≤ t.length) : (cmdsL (t.take k)).1 ++ (cmdsL (t.drop (cmdsL (t.take k)).2.2)).1 = (cmdsL t).1 ∧ (cmdsL (t.take k)).2.1 ++ (cmdsL (t.drop (cmdsL (t.take k)).2.2)).2.1 = (cmdsL t).2.1 ∧ (cmdsL (t.take k)).2.2 + (cmdsL (t.drop (cmdsL (t.take k)).2.2)).2.2 = (cmdsL t).2.2 := by
  have h := cmds_cut t.length t k (Nat.le_refl _) hk
  exact ⟨(congrArg (·.1) h).symm, (congrArg (·.2.1) h).symm, (congrArg (·.2.2) h).symm⟩
/-- there are as many commands as codes that say so -/
theorem cmds_good (n : Nat) : ∀ t : List UInt8, t.length ≤ n → (cmdsL t).2.1.count 0 = (cmdsL t).1.length := by
  induction n with
  | zero =>
    intro t ht
    by_cases hk : (cmdOf t).2.2 = 1
    · rw [cmds_stop hk]; rfl
    · have := (cmd_codes (t := t) (c := (cmdOf t).1) (m := (cmdOf t).2.1) (k := (cmdOf t).2.2) rfl).2.2.2 hk
      omega
  | succ n ih =>
    intro t ht
    by_cases hk : (cmdOf t).2.2 = 1
    · rw [cmds_stop hk]; rfl
    · have hm := (cmd_codes (t := t) (c := (cmdOf t).1) (m := (cmdOf t).2.1) (k := (cmdOf t).2.2) rfl).2.2.2 hk
      have hi := ih (t.drop (cmdOf t).2.1) (by rw [List.length_drop]; omega)
      rw [cmds_step hk]
      dsimp only
      rw [List.count_cons, hi, List.length_append]
      by_cases h0 : (cmdOf t).2.2 = 0
      · simp [h0]
        omega
      · simp [h0]
end Go.Proofs.Ytmnjmghlkiljhaa.cm
/- Mathematics of replies, no Go in sight: right ones, how they are shown; of whatever stands there at most one is shown so. -/
namespace Go.Proofs.Ytmnjmghlkiljhaa.cm
open Go.RowKit
open Go.Proofs.Ytmnjmghlkiljhaa.rg (nameB nbB nameB_size)
set_option linter.unusedVariables false

/-- a reply -/
structure Rp where
  K : Int
  N : ByteArray
  F : Int
  B : ByteArray
  C : Int
  M : Int
def Rp.zero : Rp := ⟨0, emp, 0, emp, 0, 0⟩
/-- a right one -/
structure POk (r : Rp) : Prop where
  k0 : 1 ≤ r.K
  k1 : r.K ≤ 12
  nm : r.K = 5 → nameB r.N = true
  n0 : r.K ≠ 5 → r.N = emp
  f1 : r.K = 5 → 0 ≤ r.F ∧ r.F ≤ 65535
  f0 : r.K ≠ 5 → r.F = 0
  b1 : r.B.size ≤ 64
  b0 : r.K ≠ 5 → r.B = emp
  c1 : r.K = 5 → 0 ≤ r.C ∧ r.C ≤ 1000000
  c0 : r.K ≠ 5 → r.C = 0
  m1 : r.K = 6 → 0 ≤ r.M ∧ r.M ≤ 999999999
  m0 : r.K ≠ 6 → r.M = 0
open Classical in
noncomputable def repB (r : Rp) : Bool := decide (POk r)
open Classical in
theorem repB_iff {r : Rp} : repB r = true ↔ POk r := by unfold repB; exact decide_eq_true_iff
def kinds : List (List UInt8) := [[115, 116, 111, 114, 101, 100], [110, 111, 116], [101, 120, 105, 115, 116, 115], [109, 105, 115, 115, 105, 110, 103], [118, 97, 108, 117, 101], [110, 117, 109, 98, 101, 114], [116, 111, 117, 99, 104, 101, 100], [99, 117, 116], [99, 108, 101, 97, 114, 101, 100], [101, 114, 114, 111, 114], [98, 97, 100], [98, 105, 103]]
def kw (k : Int) : List UInt8 := (kinds[(k - 1).toNat]?).getD []
def wordsR (r : Rp) : List (List UInt8) :=
  kw r.K :: (if r.K = 6 then [digs r.M.toNat] else if r.K = 5 then [bs r.N, digs r.F.toNat, digs r.B.size] ++ (if r.C = 0 then [] else [digs r.C.toNat]) else [])
def tailR (r : Rp) : List UInt8 := if r.K = 5 then bs r.B ++ [10] else []
def showR (r : Rp) : List UInt8 := wordsL (wordsR r) ++ 10 :: tailR r
theorem kind_cases {v : Int} (h0 : 1 ≤ v) (h1 : v ≤ 12) : v = 1 ∨ v = 2 ∨ v = 3 ∨ v = 4 ∨ v = 5 ∨ v = 6 ∨ v = 7 ∨ v = 8 ∨ v = 9 ∨ v = 10 ∨ v = 11 ∨ v = 12 := by omega
theorem kw_ok {v : Int} (h0 : 1 ≤ v) (h1 : v ≤ 12) : (∀ c ∈ kw v, c ≠ 32 ∧ c ≠ 10) ∧ (kw v).length ≤ 12 := by
  rcases kind_cases h0 h1 with rfl | rfl | rfl | rfl | rfl | rfl | rfl | rfl | rfl | rfl | rfl | rfl <;> decide
def kindOf (w : List UInt8) : Int := ((kinds.findIdx? (· == w)).map fun i => (i : Int) + 1).getD 0
theorem kindOf_kw {v : Int} (h0 : 1 ≤ v) (h1 : v ≤ 12) : kindOf (kw v) = v := by
  rcases kind_cases h0 h1 with rfl | rfl | rfl | rfl | rfl | rfl | rfl | rfl | rfl | rfl | rfl | rfl <;> decide
theorem wordsR_ok {r : Rp} (h : POk r) : ∀ w ∈ wordsR r, ∀ x ∈ w, x ≠ 32 ∧ x ≠ 10 := by
  intro w hw
  unfold wordsR at hw
  rcases List.mem_cons.1 hw with rfl | hw
  · exact (kw_ok h.k0 h.k1).1
  · split at hw
    · rw [List.mem_singleton.1 hw]
      exact fun x hx => digs_bytes hx
    · split at hw
      · rename_i h5
        rcases List.mem_append.1 hw with hw | hw
        · simp only [List.mem_cons, List.not_mem_nil, or_false] at hw
          rcases hw with rfl | rfl | rfl
          · exact fun x hx => name_bytes (h.nm h5) hx
          · exact fun x hx => digs_bytes hx
          · exact fun x hx => digs_bytes hx
        · split at hw
          · simp at hw
          · rw [List.mem_singleton.1 hw]
            exact fun x hx => digs_bytes hx
      · simp at hw
theorem lineR_no {r : Rp} (h : POk r) : 10 ∉ wordsL (wordsR r) := fun hx => by
  rcases wordsL_mem _ hx with e | ⟨w, hw, hx⟩
  · exact absurd e (by decide)
  · exact (wordsR_ok h w hw 10 hx).2 rfl
theorem splitR {r : Rp} (h : POk r) : splitL 32 (wordsL (wordsR r)) = wordsR r :=
  split_words _ (by unfold wordsR; simp) (fun w hw hx => (wordsR_ok h w hw 32 hx).1 rfl)
theorem lineOf_show {r : Rp} (h : POk r) (u : List UInt8) : lineOf (showR r ++ u) = wordsL (wordsR r) := by
  unfold showR
  rw [List.append_assoc, List.cons_append]
  exact lineOf_app (lineR_no h) _
theorem digs_inj {a b : Nat} (h : digs a = digs b) : a = b := by rw [← val_digs a, h, val_digs]
theorem bs_inj {a b : ByteArray} (h : bs a = bs b) : a = b := by rw [← tx_bs a, h, tx_bs]
theorem nat_inj {a b : Int} (ha : 0 ≤ a) (hb : 0 ≤ b) (h : a.toNat = b.toNat) : a = b := by omega
/-- of whatever stands there at most one reply is shown so -/
theorem show_inj {r r' : Rp} (h : POk r) (h' : POk r') {u u' : List UInt8} (e : showR r ++ u = showR r' ++ u') : r = r' := by
  have e1 : wordsL (wordsR r) = wordsL (wordsR r') := by rw [← lineOf_show h u, e, lineOf_show h' u']
  have e2 : wordsR r = wordsR r' := by rw [← splitR h, e1, splitR h']
  have eK : r.K = r'.K := by
    have : kw r.K = kw r'.K := by
      have := congrArg List.head? e2
      unfold wordsR at this
      simpa using this
    rw [← kindOf_kw h.k0 h.k1, this, kindOf_kw h'.k0 h'.k1]
  obtain ⟨K, N, F, B, C, M⟩ := r
  obtain ⟨K', N', F', B', C', M'⟩ := r'
  dsimp only at eK
  subst eK
  by_cases h6 : K = 6
  · have h5 : K ≠ 5 := by omega
    have n1 := h.n0 h5
    have n2 := h'.n0 h5
    have f1 := h.f0 h5
    have f2 := h'.f0 h5
    have b1 := h.b0 h5
    have b2 := h'.b0 h5
    have c1 := h.c0 h5
    have c2 := h'.c0 h5
    have m1 := (h.m1 h6).1
    have m2 := (h'.m1 h6).1
    dsimp only at n1 n2 f1 f2 b1 b2 c1 c2 m1 m2
    unfold wordsR at e2
    simp only [h6, if_true, List.cons.injEq, and_true, true_and] at e2
    have := nat_inj m1 m2 (digs_inj e2)
    rw [n1, n2, f1, f2, b1, b2, c1, c2, this]
  · have m1 := h.m0 h6
    have m2 := h'.m0 h6
    dsimp only at m1 m2
    by_cases h5 : K = 5
    · have f1 := (h.f1 h5).1
      have f2 := (h'.f1 h5).1
      have c1 := (h.c1 h5).1
      have c2 := (h'.c1 h5).1
      dsimp only at f1 f2 c1 c2
      have hN : bs N = bs N' ∧ digs F.toNat = digs F'.toNat ∧ digs B.size = digs B'.size ∧ (if C = 0 then [] else [digs C.toNat]) = (if C' = 0 then [] else [digs C'.toNat]) := by
        unfold wordsR at e2
        simp only [h5] at e2
        simp at e2
        exact e2
      obtain ⟨q1, q2, q3, q4⟩ := hN
      have eC : C = C' := by
        by_cases z : C = 0
        · by_cases z' : C' = 0
          · rw [z, z']
          · rw [if_pos z, if_neg z'] at q4
            simp at q4
        · by_cases z' : C' = 0
          · rw [if_neg z, if_pos z'] at q4
            simp at q4
          · rw [if_neg z, if_neg z'] at q4
            exact nat_inj c1 c2 (digs_inj (by simpa using q4))
      have eB : B = B' := by
        unfold showR tailR at e
        rw [e1, if_pos h5, if_pos h5] at e
        simp only [List.append_assoc, List.cons_append, List.nil_append] at e
        have e3 := List.append_cancel_left e
        simp only [List.cons.injEq, true_and] at e3
        have hl : (bs B).length = (bs B').length := by rw [bs_len, bs_len]; exact digs_inj q3
        exact bs_inj (List.append_inj_left e3 hl)
      rw [bs_inj q1, nat_inj f1 f2 (digs_inj q2), eB, eC, m1, m2]
    · have n1 := h.n0 h5
      have n2 := h'.n0 h5
      have f1 := h.f0 h5
      have f2 := h'.f0 h5
      have b1 := h.b0 h5
      have b2 := h'.b0 h5
      have c1 := h.c0 h5
      have c2 := h'.c0 h5
      dsimp only at n1 n2 f1 f2 b1 b2 c1 c2
      rw [n1, n2, f1, f2, b1, b2, c1, c2, m1, m2]
/-- the reply that stands at the head of bytes -/
def Reads (t : List UInt8) (r : Rp) : Prop := POk r ∧ showR r <+: t
theorem reads_one {t : List UInt8} {r r' : Rp} (h : Reads t r) (h' : Reads t r') : r = r' := by
  obtain ⟨u, e⟩ := h.2
  obtain ⟨u', e'⟩ := h'.2
  exact show_inj h.1 h'.1 (e.trans e'.symm)
open Classical in
noncomputable def repL (t : List UInt8) : Option Rp := if h : ∃ r, Reads t r then some h.choose else none
theorem repL_some {t : List UInt8} {r : Rp} (h : Reads t r) : repL t = some r := by
  have hx : ∃ r, Reads t r := ⟨r, h⟩
  unfold repL
  rw [dif_pos hx, reads_one hx.choose_spec h]
theorem repL_is {t : List UInt8} {r : Rp} (h : repL t = some r) : Reads t r := by
  unfold repL at h
  split at h
  · rename_i hx
    rw [← Option.some.inj h]
    exact hx.choose_spec
  · cases h
theorem repL_none {t : List UInt8} (h : ∀ r, ¬ Reads t r) : repL t = none := by
  unfold repL
  rw [dif_neg (fun ⟨r, hr⟩ => h r hr)]
theorem repL_show {r : Rp} (h : POk r) (u : List UInt8) : repL (showR r ++ u) = some r := repL_some ⟨h, List.prefix_append _ _⟩
end Go.Proofs.Ytmnjmghlkiljhaa.cm
/- Mathematics of books, no Go in sight: things put where they belong, stamped, over, asked for. -/
namespace Go.Proofs.Ytmnjmghlkiljhaa.rg
open Go.RowKit
open Go.Proofs.Ytmnjmghlkiljhaa.cm
set_option linter.unusedVariables false

theorem less_flip : ∀ x y : List UInt8, Op.bytesLess x y = false → x ≠ y → Op.bytesLess y x = true
  | [], [], _, h => absurd rfl h
  | [], b :: y, h, _ => by simp [Op.bytesLess] at h
  | a :: x, [], _, _ => by simp [Op.bytesLess]
  | a :: x, b :: y, h, hn => by
    simp only [Op.bytesLess, Bool.or_eq_false_iff, Bool.and_eq_false_iff, decide_eq_false_iff_not, beq_eq_false_iff_ne, Bool.or_eq_true, Bool.and_eq_true, decide_eq_true_eq, beq_iff_eq] at h ⊢
    obtain ⟨h1, h2⟩ := h
    by_cases e : a = b
    · subst e
      rcases h2 with h2 | h2
      · exact absurd rfl h2
      · exact .inr ⟨rfl, less_flip x y h2 (fun e => hn (by rw [e]))⟩
    · refine .inl ?_
      have h3 : ¬ a.toNat < b.toNat := h1
      have h4 : a.toNat ≠ b.toNat := fun q => e (UInt8.toNat_inj.1 q)
      show b.toNat < a.toNat
      omega
theorem bytes_eq {a b : ByteArray} (h : a.toList = b.toList) : a = b := by
  rw [ByteArray.toList_eq, ByteArray.toList_eq] at h
  cases a; cases b; simp at h; rw [h]
theorem ltS_total {a b : ByteArray} (h : ltS a b = false) (hn : a ≠ b) : ltS b a = true := less_flip _ _ h fun e => hn (bytes_eq e)

/-- in the order of their names -/
def Srt (l : List It) : Prop := l.Pairwise fun x y => ltS x.N y.N = true
theorem srt_map {l : List It} : (l.map (·.N)).Pairwise (fun x y => ltS x y = true) ↔ Srt l := List.pairwise_map
theorem BOk.srt {b : List It} (h : BOk b) : Srt b := srt_map.1 h.2.1
theorem bok_of {b : List It} (h1 : ∀ i ∈ b, itemB i = true) (h2 : Srt b) (h3 : b.length ≤ 20) : BOk b := ⟨h1, srt_map.2 h2, h3⟩
theorem Srt.one {l : List It} (h : Srt l) {x y : It} (hx : x ∈ l) (hy : y ∈ l) (e : x.N = y.N) : x = y := by
  induction l with
  | nil => simp at hx
  | cons a r ih =>
    obtain ⟨h1, h2⟩ := List.pairwise_cons.1 h
    rcases List.mem_cons.1 hx with rfl | hx'
    · rcases List.mem_cons.1 hy with rfl | hy'
      · rfl
      · exact absurd e (ltS_ne (h1 y hy'))
    · rcases List.mem_cons.1 hy with rfl | hy'
      · exact absurd e.symm (ltS_ne (h1 x hx'))
      · exact ih h2 hx' hy'

/-- a thing is put where it belongs -/
def behind (i : It) : List It → List It
  | [] => []
  | x :: r => if x.N = i.N then r else x :: r
theorem behind_yes {i x : It} (h : x.N = i.N) (r : List It) : behind i (x :: r) = r := if_pos h
theorem behind_no {i x : It} (h : x.N ≠ i.N) (r : List It) : behind i (x :: r) = x :: r := if_neg h
def putL (l : List It) (i : It) : List It := l.takeWhile (fun x => ltS x.N i.N) ++ i :: behind i (l.dropWhile fun x => ltS x.N i.N)
theorem put_cons (x : It) (l : List It) (i : It) : putL (x :: l) i = if ltS x.N i.N = true then x :: putL l i else i :: behind i (x :: l) := by
  unfold putL
  rw [List.takeWhile_cons, List.dropWhile_cons]
  cases ltS x.N i.N <;> simp
theorem put_mem {l : List It} (h : Srt l) (i : It) : ∀ x, x ∈ putL l i ↔ x = i ∨ (x ∈ l ∧ x.N ≠ i.N) := by
  induction l with
  | nil => intro x; simp [putL, behind]
  | cons y r ih =>
    obtain ⟨h1, h2⟩ := List.pairwise_cons.1 h
    intro x
    rw [put_cons]
    by_cases hy : ltS y.N i.N = true
    · rw [if_pos hy, List.mem_cons, ih h2 x, List.mem_cons]
      constructor
      · rintro (rfl | rfl | ⟨h3, h4⟩)
        · exact .inr ⟨.inl rfl, ltS_ne hy⟩
        · exact .inl rfl
        · exact .inr ⟨.inr h3, h4⟩
      · rintro (rfl | ⟨rfl | h3, h4⟩)
        · exact .inr (.inl rfl)
        · exact .inl rfl
        · exact .inr (.inr ⟨h3, h4⟩)
    · rw [if_neg hy, List.mem_cons]
      by_cases hn : y.N = i.N
      · rw [behind_yes hn]
        constructor
        · rintro (rfl | h3)
          · exact .inl rfl
          · exact .inr ⟨List.mem_cons_of_mem _ h3, fun e => ltS_ne (h1 x h3) (hn.trans e.symm)⟩
        · rintro (rfl | ⟨h3, h4⟩)
          · exact .inl rfl
          · rcases List.mem_cons.1 h3 with rfl | h3
            · exact absurd hn h4
            · exact .inr h3
      · rw [behind_no hn]
        constructor
        · rintro (rfl | h3)
          · exact .inl rfl
          · refine .inr ⟨h3, fun e => ?_⟩
            rcases List.mem_cons.1 h3 with rfl | h3
            · exact hn e
            · exact hy (e ▸ h1 x h3)
        · rintro (rfl | ⟨h3, h4⟩)
          · exact .inl rfl
          · exact .inr h3
theorem put_srt {l : List It} (h : Srt l) (i : It) : Srt (putL l i) := by
  induction l with
  | nil => simp [putL, behind, Srt]
  | cons y r ih =>
    obtain ⟨h1, h2⟩ := List.pairwise_cons.1 h
    rw [put_cons]
    by_cases hy : ltS y.N i.N = true
    · rw [if_pos hy]
      refine List.pairwise_cons.2 ⟨fun x hx => ?_, ih h2⟩
      rcases (put_mem h2 i x).1 hx with rfl | ⟨h3, -⟩
      · exact hy
      · exact h1 x h3
    · rw [if_neg hy]
      have hy' : ltS y.N i.N = false := by simpa using hy
      by_cases hn : y.N = i.N
      · rw [behind_yes hn]
        exact List.pairwise_cons.2 ⟨fun x hx => hn ▸ h1 x hx, h2⟩
      · rw [behind_no hn]
        have hi := ltS_total hy' hn
        refine List.pairwise_cons.2 ⟨fun x hx => ?_, h⟩
        rcases List.mem_cons.1 hx with rfl | hx
        · exact hi
        · exact ltS_trans hi (h1 x hx)
theorem put_len {l : List It} (h : Srt l) (i : It) : (putL l i).length ≤ l.length + 1 ∧ ((∃ x ∈ l, x.N = i.N) → (putL l i).length = l.length) := by
  induction l with
  | nil => exact ⟨by simp [putL, behind], fun ⟨x, hx, _⟩ => by simp at hx⟩
  | cons y r ih =>
    obtain ⟨h1, h2⟩ := List.pairwise_cons.1 h
    obtain ⟨i1, i2⟩ := ih h2
    rw [put_cons]
    by_cases hy : ltS y.N i.N = true
    · rw [if_pos hy]
      refine ⟨by simp; omega, fun ⟨x, hx, e⟩ => ?_⟩
      rcases List.mem_cons.1 hx with rfl | hx
      · exact absurd e (ltS_ne hy)
      · have := i2 ⟨x, hx, e⟩
        simp
        omega
    · rw [if_neg hy]
      by_cases hn : y.N = i.N
      · rw [behind_yes hn]
        exact ⟨by simp, fun _ => by simp⟩
      · rw [behind_no hn]
        refine ⟨by simp, fun ⟨x, hx, e⟩ => ?_⟩
        rcases List.mem_cons.1 hx with rfl | hx
        · exact absurd e hn
        · exact absurd (e ▸ h1 x hx) hy

/-- the one with a name -/
def lookI (l : List It) (s : ByteArray) : Option It := if 0 ≤ findI l s then l[(findI l s).toNat]? else none
theorem look_some {l : List It} {s : ByteArray} {x : It} (h : lookI l s = some x) : x ∈ l ∧ x.N = s ∧ ∃ k : Nat, ∃ hk : k < l.length, findI l s = k ∧ l[k] = x := by
  unfold lookI at h
  split at h
  · rename_i h0
    obtain ⟨k, hk, e1, e2⟩ := findI_at h0
    rw [e1, Int.toNat_natCast, List.getElem?_eq_getElem hk] at h
    have e3 : l[k] = x := Option.some.inj h
    rw [e3] at e2
    exact ⟨e3 ▸ List.getElem_mem hk, e2, k, hk, e1, e3⟩
  · cases h
theorem look_none {l : List It} {s : ByteArray} (h : lookI l s = none) : findI l s = -1 ∧ ∀ x ∈ l, x.N ≠ s := by
  have hneg : ¬ 0 ≤ findI l s := fun h0 => by
    unfold lookI at h
    rw [if_pos h0] at h
    obtain ⟨k, hk, e1, e2⟩ := findI_at h0
    rw [e1, Int.toNat_natCast, List.getElem?_eq_getElem hk] at h
    cases h
  have hb := posS_bd s (l.map (·.N))
  refine ⟨by unfold findI at hneg ⊢; omega, fun x hx e => hneg ?_⟩
  unfold findI
  exact posS_mem.1 (List.mem_map.2 ⟨x, hx, e⟩)
theorem look_mem {l : List It} (h : Srt l) {x : It} (hx : x ∈ l) : lookI l x.N = some x := by
  cases e : lookI l x.N with
  | none => exact absurd rfl ((look_none e).2 x hx)
  | some y =>
    obtain ⟨hy, hn, -⟩ := look_some e
    rw [h.one hy hx hn]

/-! ### books -/
structure Bk where
  I : List It
  X : Int
def Bk.zero : Bk := ⟨[], 0⟩
def Bk.new : Bk := ⟨[], 1⟩
def storeB (b : Bk) : Bool := bookB b.I && (decide (1 ≤ b.X) && decide (b.X ≤ 1000000))
structure StOk (b : Bk) : Prop where
  bk : BOk b.I
  x0 : 1 ≤ b.X
  x1 : b.X ≤ 1000000
theorem storeB_iff {b : Bk} : storeB b = true ↔ StOk b := by
  simp only [storeB, Bool.and_eq_true, decide_eq_true_eq, bookB_iff]
  exact ⟨fun ⟨h1, h2, h3⟩ => ⟨h1, h2, h3⟩, fun ⟨h1, h2, h3⟩ => ⟨h1, h2, h3⟩⟩
theorem new_ok : StOk Bk.new := ⟨⟨by simp [Bk.new], by simp [Bk.new], by simp [Bk.new]⟩, by decide, by decide⟩
def timeB (n : Int) : Bool := decide (0 ≤ n) && decide (n ≤ 1000000)
def ageL (l : List It) (now : Int) : List It := l.filter fun i => !overB i now
def goneL (l : List It) (now : Int) : List ByteArray := (l.filter fun i => overB i now).map (·.N)
def agR (b : Bk) (now : Int) : Bk := if (storeB b && timeB now) = true then ⟨ageL b.I now, b.X⟩ else Bk.zero
def agN (b : Bk) (now : Int) : List ByteArray := if (storeB b && timeB now) = true then goneL b.I now else []
theorem age_mem {l : List It} {now : Int} {x : It} : x ∈ ageL l now ↔ x ∈ l ∧ overB x now = false := by unfold ageL; rw [List.mem_filter]; simp
theorem age_ok {l : List It} (h : BOk l) (now : Int) : BOk (ageL l now) :=
  bok_of (fun i hi => h.1 i (age_mem.1 hi).1) (h.srt.filter _) (Nat.le_trans (List.length_filter_le _ _) h.2.2)
theorem age_twice (l : List It) (now : Int) : ageL (ageL l now) now = ageL l now ∧ goneL (ageL l now) now = [] := by
  constructor
  · unfold ageL
    rw [List.filter_filter]
    simp
  · unfold goneL
    have : (ageL l now).filter (fun i => overB i now) = [] := by
      rw [List.filter_eq_nil_iff]
      intro x hx
      rw [(age_mem.1 hx).2]
      decide
    rw [this]
    rfl
theorem age_len (l : List It) (now : Int) : (goneL l now).length + (ageL l now).length = l.length := by
  induction l with
  | nil => rfl
  | cons x r ih =>
    unfold goneL ageL at ih ⊢
    simp only [List.filter_cons, List.length_map] at ih ⊢
    cases overB x now <;> simp <;> omega
theorem gone_mem {l : List It} (h : Srt l) {now : Int} {x : It} (hx : x ∈ l) : x.N ∈ goneL l now ↔ overB x now = true := by
  unfold goneL
  rw [List.mem_map]
  constructor
  · rintro ⟨y, hy, e⟩
    obtain ⟨h1, h2⟩ := List.mem_filter.1 hy
    rw [← h.one h1 hx e]
    exact h2
  · exact fun ho => ⟨x, List.mem_filter.2 ⟨hx, ho⟩, rfl⟩
theorem stays_find {l : List It} (h : Srt l) {now : Int} {x : It} (hx : x ∈ l) : 0 ≤ findI (ageL l now) x.N ↔ overB x now = false := by
  constructor
  · intro h0
    obtain ⟨k, hk, e1, e2⟩ := findI_at h0
    obtain ⟨m1, m2⟩ := age_mem.1 (List.getElem_mem hk)
    rw [← h.one m1 hx e2]
    exact m2
  · intro ho
    unfold findI
    exact posS_mem.1 (List.mem_map.2 ⟨x, age_mem.2 ⟨hx, ho⟩, rfl⟩)
/-- at time 0 nothing is over -/
theorem age_zero {l : List It} (h : BOk l) : ageL l 0 = l := by
  unfold ageL
  rw [List.filter_eq_self]
  intro i hi
  have := (itemB_iff.1 (h.1 i hi)).u0
  unfold overB
  by_cases h0 : i.U = 0
  · simp [h0]
  · simp [h0]
    omega

/-! ### stamped -/
def stampI (b : Bk) (i : It) : It := ⟨i.N, i.F, i.B, b.X, i.U⟩
def stampOk (b : Bk) (i : It) : Bool := itemB (stampI b i) && decide (((putL b.I (stampI b i)).length : Int) ≤ 20)
def nextX (x : Int) : Int := if x + 1 > 1000000 then 1 else x + 1
def stampR (b : Bk) (i : It) : Bk := ⟨putL b.I (stampI b i), nextX b.X⟩
def stB (b : Bk) (i : It) : Bool := storeB b && stampOk b i
def stR (b : Bk) (i : It) : Bk := if storeB b = true then (if stampOk b i = true then stampR b i else b) else Bk.zero
theorem nextX_ok {x : Int} (h0 : 1 ≤ x) (h1 : x ≤ 1000000) : 1 ≤ nextX x ∧ nextX x ≤ 1000000 ∧ nextX x ≠ x := by unfold nextX; split <;> omega
theorem stamp_ok {b : Bk} (h : StOk b) {i : It} (hi : stampOk b i = true) : StOk (stampR b i) ∧ stampI b i ∈ (stampR b i).I ∧ ∀ x ∈ b.I, x.N ≠ i.N → x ∈ (stampR b i).I := by
  unfold stampOk at hi
  simp only [Bool.and_eq_true, decide_eq_true_eq] at hi
  obtain ⟨h1, h2⟩ := hi
  have hm := put_mem h.bk.srt (stampI b i)
  obtain ⟨n1, n2, -⟩ := nextX_ok h.x0 h.x1
  refine ⟨⟨bok_of (fun x hx => ?_) (put_srt h.bk.srt _) (by show (putL b.I (stampI b i)).length ≤ 20; omega), n1, n2⟩, (hm _).2 (.inl rfl), fun x hx hn => (hm x).2 (.inr ⟨hx, hn⟩)⟩
  rcases (hm x).1 hx with rfl | ⟨h3, -⟩
  · exact h1
  · exact h.bk.1 x h3
end Go.Proofs.Ytmnjmghlkiljhaa.rg
/- Mathematics of books, second part: what a command does to a book; what the laws FnBooks, FnCas say. -/
namespace Go.Proofs.Ytmnjmghlkiljhaa.rg
open Go.RowKit
open Go.Proofs.Ytmnjmghlkiljhaa.cm
set_option linter.unusedVariables false

def rp (k : Int) : Rp := ⟨k, emp, 0, emp, 0, 0⟩
def fresh (c : Cm) : It := ⟨c.N, c.F, c.B, 0, c.U⟩
def keepK (b : Bk) (i : It) : Bk × Rp := if stampOk b i = true then (stampR b i, rp 1) else (b, rp 2)
def keepBig (b : Bk) (i : It) : Bk × Rp := if i.B.size > 64 then (b, rp 12) else keepK b i
def touchI (u : Int) (x : It) : It := ⟨x.N, x.F, x.B, x.C, u⟩
def touchL (l : List It) (s : ByteArray) (u : Int) : List It := l.map fun x => if x.N = s then touchI u x else x
def dropL (l : List It) (s : ByteArray) : List It := l.filter fun x => decide (x.N ≠ s)
/-- a number from 0 on, as it is shown -/
def numB (s : ByteArray) : Option Nat := if canon (bs s) = true then some (val 0 (bs s)) else none
def upN (c : Cm) (n : Nat) : Nat := if c.V = 9 then (n + c.D.toNat) % 1000000000 else n - c.D.toNat
def withB (o : It) (l : List UInt8) : It := ⟨o.N, o.F, tx l, o.C, o.U⟩
def doK (b : Bk) (c : Cm) : Bk × Rp :=
  if c.V = 13 then (⟨[], b.X⟩, rp 9)
  else if c.V = 3 then keepK b (fresh c)
  else match lookI b.I c.N with
  | none => if c.V = 4 then keepK b (fresh c) else if c.V = 5 ∨ c.V = 6 ∨ c.V = 7 then (b, rp 2) else (b, rp 4)
  | some o =>
    if c.V = 4 then (b, rp 2)
    else if c.V = 5 then keepBig b (fresh c)
    else if c.V = 6 then keepBig b (withB o (bs o.B ++ bs c.B))
    else if c.V = 7 then keepBig b (withB o (bs c.B ++ bs o.B))
    else if c.V = 1 ∨ c.V = 2 then (b, ⟨5, o.N, o.F, o.B, if c.V = 2 then o.C else 0, 0⟩)
    else if c.V = 8 then (if o.C = c.C then keepK b (fresh c) else (b, rp 3))
    else if c.V = 11 then (⟨touchL b.I c.N c.U, b.X⟩, rp 7)
    else if c.V = 12 then (⟨dropL b.I c.N, b.X⟩, rp 8)
    else match numB o.B with
      | none => (b, rp 11)
      | some n => ((if stampOk b (withB o (digs (upN c n))) = true then stampR b (withB o (digs (upN c n))) else b), ⟨6, emp, 0, emp, 0, (upN c n : Int)⟩)
open Classical in
noncomputable def diR (b : Bk) (c : Cm) (now : Int) : Bk × Rp :=
  if (storeB b && timeB now) = true then (if cmdB c = true then doK (agR b now) c else (b, rp 10)) else (Bk.zero, rp 10)

theorem rp_ok {k : Int} (h0 : 1 ≤ k) (h1 : k ≤ 12) (h5 : k ≠ 5) (h6 : k ≠ 6) : POk (rp k) :=
  ⟨h0, h1, fun h => absurd h h5, fun _ => rfl, fun h => absurd h h5, fun _ => rfl, by show emp.size ≤ 64; decide, fun _ => rfl, fun h => absurd h h5, fun _ => rfl, fun h => absurd h h6, fun _ => rfl⟩
theorem touch_map (l : List It) (s : ByteArray) (u : Int) : (touchL l s u).map (·.N) = l.map (·.N) := by
  unfold touchL
  rw [List.map_map]
  refine List.map_congr_left fun x _ => ?_
  show (if x.N = s then touchI u x else x).N = x.N
  split <;> rfl
theorem touch_ok {l : List It} (h : BOk l) (s : ByteArray) {u : Int} (h0 : 0 ≤ u) (h1 : u ≤ 1000000) : BOk (touchL l s u) := by
  refine ⟨fun i hi => ?_, by rw [touch_map]; exact h.2.1, by unfold touchL; rw [List.length_map]; exact h.2.2⟩
  obtain ⟨x, hx, rfl⟩ := List.mem_map.1 hi
  have hk := itemB_iff.1 (h.1 x hx)
  split
  · exact itemB_iff.2 ⟨hk.nm, hk.f0, hk.f1, hk.b1, hk.c0, hk.c1, h0, h1⟩
  · exact h.1 x hx
theorem touch_stays {l : List It} {s : ByteArray} {u : Int} {x : It} (hx : x ∈ l) (hn : x.N ≠ s) : x ∈ touchL l s u := List.mem_map.2 ⟨x, hx, if_neg hn⟩
/-- by its place -/
theorem touch_at {l : List It} (h : Srt l) {k : Nat} (hk : k < l.length) (u : Int) : touchL l l[k].N u = l.set k (touchI u l[k]) := by
  have e0 : touchL l l[k].N u = l.map fun x => if x.N = l[k].N then touchI u x else x := rfl
  rw [e0]
  refine List.ext_getElem (by simp) fun j h1 h2 => ?_
  rw [List.getElem_map, List.getElem_set]
  have hj : j < l.length := by simpa using h1
  by_cases e : k = j
  · subst e
    rw [if_pos rfl, if_pos rfl]
  · rw [if_neg e, if_neg]
    intro en
    rcases Nat.lt_or_gt_of_ne e with q | q
    · exact ltS_ne (List.pairwise_iff_getElem.1 h k j hk hj q) en.symm
    · exact ltS_ne (List.pairwise_iff_getElem.1 h j k hj hk q) en
theorem drop_at {l : List It} (h : Srt l) {k : Nat} (hk : k < l.length) : dropL l l[k].N = l.take k ++ l.drop (k + 1) := by
  have h1 : l = l.take k ++ l[k] :: l.drop (k + 1) := by simp
  have h0 : ∀ s : ByteArray, dropL l s = (l.take k ++ l[k] :: l.drop (k + 1)).filter fun x => decide (x.N ≠ s) := fun s => by rw [← h1]; rfl
  rw [h0, List.filter_append, List.filter_cons, if_neg (by simp)]
  congr 1
  · rw [List.filter_eq_self]
    intro x hx
    obtain ⟨j, hj, e⟩ := List.mem_iff_getElem.1 hx
    simp at hj e
    rw [← e]
    exact decide_eq_true (ltS_ne (List.pairwise_iff_getElem.1 h j k (by omega) hk (by omega)))
  · rw [List.filter_eq_self]
    intro x hx
    obtain ⟨j, hj, e⟩ := List.mem_iff_getElem.1 hx
    simp at hj e
    rw [← e]
    exact decide_eq_true fun q => ltS_ne (List.pairwise_iff_getElem.1 h k (k + 1 + j) hk (by omega) (by omega)) q.symm
theorem drop_no {l : List It} {s : ByteArray} (h : ∀ x ∈ l, x.N ≠ s) : dropL l s = l := by
  unfold dropL
  rw [List.filter_eq_self]
  exact fun x hx => decide_eq_true (h x hx)
theorem drop_ok {l : List It} (h : BOk l) (s : ByteArray) : BOk (dropL l s) :=
  bok_of (fun i hi => h.1 i (List.mem_filter.1 hi).1) (h.srt.filter _) (Nat.le_trans (List.length_filter_le _ _) h.2.2)
theorem drop_stays {l : List It} {s : ByteArray} {x : It} (hx : x ∈ l) (hn : x.N ≠ s) : x ∈ dropL l s := List.mem_filter.2 ⟨hx, decide_eq_true hn⟩

/-- what FnBooks says of a right command on a right book -/
structure Did (a : Bk) (c : Cm) (r : Bk × Rp) : Prop where
  ok : StOk r.1
  rk : POk r.2
  stay : c.V ≠ 13 → ∀ y ∈ a.I, y.N ≠ c.N → y ∈ r.1.I
  new : r.2.K = 1 ∨ r.2.K = 6 → ∃ y ∈ r.1.I, y.N = c.N ∧ y.C = a.X
  same : r.2.K ≠ 1 → r.2.K ≠ 6 → c.V = 11 ∨ c.V = 12 ∨ c.V = 13 ∨ r.1 = a
theorem did_same {a : Bk} {c : Cm} (h : StOk a) {r : Rp} (hr : POk r) (h1 : r.K ≠ 1) (h6 : r.K ≠ 6) : Did a c (a, r) :=
  ⟨h, hr, fun _ y hy _ => hy, fun q => by rcases q with q | q; exact absurd q h1; exact absurd q h6, fun _ _ => .inr (.inr (.inr rfl))⟩
theorem did_keep {a : Bk} {c : Cm} (h : StOk a) {i : It} (hi : i.N = c.N) : Did a c (keepK a i) := by
  unfold keepK
  split
  · rename_i hs
    obtain ⟨s1, s2, s3⟩ := stamp_ok h hs
    exact ⟨s1, rp_ok (by decide) (by decide) (by decide) (by decide), fun _ y hy hn => s3 y hy (by rw [hi]; exact hn), fun _ => ⟨_, s2, hi, rfl⟩, fun q _ => absurd rfl q⟩
  · exact did_same h (rp_ok (by decide) (by decide) (by decide) (by decide)) (by decide) (by decide)
theorem did_big {a : Bk} {c : Cm} (h : StOk a) {i : It} (hi : i.N = c.N) : Did a c (keepBig a i) := by
  unfold keepBig
  split
  · exact did_same h (rp_ok (by decide) (by decide) (by decide) (by decide)) (by decide) (by decide)
  · exact did_keep h hi
theorem up_le {c : Cm} {n : Nat} (h : n ≤ 999999999) : upN c n ≤ 999999999 := by
  unfold upN
  split
  · have := Nat.mod_lt (n + c.D.toNat) (show 0 < 1000000000 by decide)
    omega
  · omega
theorem numB_some {s : ByteArray} {n : Nat} (h : numB s = some n) : canon (bs s) = true ∧ val 0 (bs s) = n ∧ n ≤ 999999999 := by
  unfold numB at h
  split at h
  · rename_i hc
    have := Option.some.inj h
    exact ⟨hc, this, by rw [← this]; exact val_canon hc⟩
  · cases h
/-- a number in the place of a thing's bytes is always stamped -/
theorem stamp_num {a : Bk} (h : StOk a) {o : It} (ho : o ∈ a.I) {m : Nat} (hm : m ≤ 999999999) : stampOk a (withB o (digs m)) = true := by
  have hk := itemB_iff.1 (h.bk.1 o ho)
  have hl : (digs m).length ≤ 9 := digs_len 8 m (by omega)
  have hp := (put_len h.bk.srt (stampI a (withB o (digs m)))).2 ⟨o, ho, rfl⟩
  have h20 := h.bk.2.2
  unfold stampOk
  rw [hp]
  simp only [Bool.and_eq_true, decide_eq_true_eq]
  refine ⟨itemB_iff.2 ⟨hk.nm, hk.f0, hk.f1, ?_, h.x0, h.x1, hk.u0, hk.u1⟩, by omega⟩
  show (tx (digs m)).size ≤ 64
  rw [tx_size]
  omega
theorem do_none {a : Bk} {c : Cm} (h : StOk a) : Did a c (if c.V = 4 then keepK a (fresh c) else if c.V = 5 ∨ c.V = 6 ∨ c.V = 7 then (a, rp 2) else (a, rp 4)) := by
  by_cases h4 : c.V = 4
  · rw [if_pos h4]
    exact did_keep h rfl
  · rw [if_neg h4]
    by_cases h5 : c.V = 5 ∨ c.V = 6 ∨ c.V = 7
    · rw [if_pos h5]
      exact did_same h (rp_ok (by decide) (by decide) (by decide) (by decide)) (by decide) (by decide)
    · rw [if_neg h5]
      exact did_same h (rp_ok (by decide) (by decide) (by decide) (by decide)) (by decide) (by decide)
theorem do_up {a : Bk} {c : Cm} (h : StOk a) {o : It} (ho : o ∈ a.I) (hn : o.N = c.N) : Did a c (match numB o.B with
      | none => (a, rp 11)
      | some n => ((if stampOk a (withB o (digs (upN c n))) = true then stampR a (withB o (digs (upN c n))) else a), ⟨6, emp, 0, emp, 0, (upN c n : Int)⟩)) := by
  cases hnum : numB o.B with
  | none => exact did_same h (rp_ok (by decide) (by decide) (by decide) (by decide)) (by decide) (by decide)
  | some n =>
    obtain ⟨-, -, hle⟩ := numB_some hnum
    have hu := up_le (c := c) hle
    have hs := stamp_num h ho hu
    obtain ⟨s1, s2, s3⟩ := stamp_ok h hs
    dsimp only
    rw [if_pos hs]
    refine ⟨s1, ⟨by show (1 : Int) ≤ 6; decide, by show (6 : Int) ≤ 12; decide, fun q => absurd q (by show ¬ ((6 : Int) = 5); decide), fun _ => rfl, fun q => absurd q (by show ¬ ((6 : Int) = 5); decide), fun _ => rfl, by show emp.size ≤ 64; decide, fun _ => rfl, fun q => absurd q (by show ¬ ((6 : Int) = 5); decide), fun _ => rfl, fun _ => ?_, fun q => absurd rfl q⟩, fun _ y hy hn2 => s3 y hy (by show y.N ≠ o.N; rw [hn]; exact hn2), fun _ => ⟨_, s2, hn, rfl⟩, fun _ q => absurd rfl q⟩
    show (0 : Int) ≤ (upN c n : Int) ∧ (upN c n : Int) ≤ 999999999
    omega
theorem no16 {r : Rp} {P : Prop} (h1 : r.K ≠ 1) (h6 : r.K ≠ 6) : r.K = 1 ∨ r.K = 6 → P := fun q => by
  rcases q with q | q
  · exact absurd q h1
  · exact absurd q h6
theorem do_did {a : Bk} {c : Cm} (h : StOk a) (hc : COk c) : Did a c (doK a c) := by
  unfold doK
  by_cases h13 : c.V = 13
  · rw [if_pos h13]
    exact ⟨⟨⟨by simp, by simp, by simp⟩, h.x0, h.x1⟩, rp_ok (by decide) (by decide) (by decide) (by decide), fun q => absurd h13 q, no16 (r := rp 9) (by decide) (by decide), fun _ _ => .inr (.inr (.inl h13))⟩
  rw [if_neg h13]
  by_cases h3 : c.V = 3
  · rw [if_pos h3]
    exact did_keep h rfl
  rw [if_neg h3]
  cases e : lookI a.I c.N with
  | none => exact do_none h
  | some o =>
    obtain ⟨ho, hn, -⟩ := look_some e
    have hk := itemB_iff.1 (h.bk.1 o ho)
    dsimp only
    by_cases h4 : c.V = 4
    · rw [if_pos h4]
      exact did_same h (rp_ok (by decide) (by decide) (by decide) (by decide)) (by decide) (by decide)
    rw [if_neg h4]
    by_cases h5 : c.V = 5
    · rw [if_pos h5]
      exact did_big h rfl
    rw [if_neg h5]
    by_cases h6 : c.V = 6
    · rw [if_pos h6]
      exact did_big h hn
    rw [if_neg h6]
    by_cases h7 : c.V = 7
    · rw [if_pos h7]
      exact did_big h hn
    rw [if_neg h7]
    by_cases h12 : c.V = 1 ∨ c.V = 2
    · rw [if_pos h12]
      refine did_same h ⟨by show (1 : Int) ≤ 5; decide, by show (5 : Int) ≤ 12; decide, fun _ => hk.nm, fun q => absurd rfl q, fun _ => ⟨hk.f0, hk.f1⟩, fun q => absurd rfl q, hk.b1, fun q => absurd rfl q, fun _ => ?_, fun q => absurd rfl q, fun q => absurd q (by show ¬ ((5 : Int) = 6); decide), fun _ => rfl⟩ (by show (5 : Int) ≠ 1; decide) (by show (5 : Int) ≠ 6; decide)
      have q1 := hk.c0
      have q2 := hk.c1
      show (0 : Int) ≤ (if c.V = 2 then o.C else 0) ∧ (if c.V = 2 then o.C else 0) ≤ 1000000
      by_cases h2 : c.V = 2
      · rw [if_pos h2]
        omega
      · rw [if_neg h2]
        omega
    rw [if_neg h12]
    by_cases h8 : c.V = 8
    · rw [if_pos h8]
      by_cases hx : o.C = c.C
      · rw [if_pos hx]
        exact did_keep h rfl
      · rw [if_neg hx]
        exact did_same h (rp_ok (by decide) (by decide) (by decide) (by decide)) (by decide) (by decide)
    rw [if_neg h8]
    by_cases h11 : c.V = 11
    · rw [if_pos h11]
      exact ⟨⟨touch_ok h.bk _ hc.u1.1 hc.u1.2, h.x0, h.x1⟩, rp_ok (by decide) (by decide) (by decide) (by decide), fun _ y hy hn => touch_stays hy hn, no16 (r := rp 7) (by decide) (by decide), fun _ _ => .inl h11⟩
    rw [if_neg h11]
    by_cases hcut : c.V = 12
    · rw [if_pos hcut]
      exact ⟨⟨drop_ok h.bk _, h.x0, h.x1⟩, rp_ok (by decide) (by decide) (by decide) (by decide), fun _ y hy hn => drop_stays hy hn, no16 (r := rp 8) (by decide) (by decide), fun _ _ => .inr (.inl hcut)⟩
    rw [if_neg hcut]
    exact do_up h ho hn

/-! ### FnCas -/
/-- what is stored is told with its stamp -/
theorem gets_told {x : Bk} (h : StOk x) {y : It} (hy : y ∈ x.I) (c : Cm) (hv : c.V = 2) (hn : c.N = y.N) : doK x c = (x, ⟨5, y.N, y.F, y.B, y.C, 0⟩) := by
  unfold doK
  rw [hn, look_mem h.bk.srt hy]
  simp [hv]
theorem cas_stores {x : Bk} (h : StOk x) {y : It} (hy : y ∈ x.I) (c : Cm) (hc : COk c) (hv : c.V = 8) (hn : c.N = y.N) (hx : y.C = c.C) : doK x c = (stampR x (fresh c), rp 1) := by
  have hs : stampOk x (fresh c) = true := by
    have hp := (put_len h.bk.srt (stampI x (fresh c))).2 ⟨y, hy, hn.symm⟩
    have h20 := h.bk.2.2
    unfold stampOk
    rw [hp]
    simp only [Bool.and_eq_true, decide_eq_true_eq]
    exact ⟨itemB_iff.2 ⟨hc.nm (by omega), hc.f1.1, hc.f1.2, hc.b1, h.x0, h.x1, hc.u1.1, hc.u1.2⟩, by omega⟩
  unfold doK
  rw [hn, look_mem h.bk.srt hy]
  simp [hv, hx, keepK, hs]
theorem cas_exists {x : Bk} (h : StOk x) {y : It} (hy : y ∈ x.I) (c : Cm) (hv : c.V = 8) (hn : c.N = y.N) (hx : y.C ≠ c.C) : doK x c = (x, rp 3) := by
  unfold doK
  rw [hn, look_mem h.bk.srt hy]
  simp [hv, hx]
end Go.Proofs.Ytmnjmghlkiljhaa.rg
/- Mathematics of what is over, no Go in sight: those that are due, soonest first. -/
namespace Go.Proofs.Ytmnjmghlkiljhaa.rg
open Go.RowKit
set_option linter.unusedVariables false

def outB (a b : It) : Bool := itemB a && itemB b && (decide (a.U = 0) || (!decide (b.U = 0) && decide (b.U ≤ a.U)))
/-- put behind those that are no later -/
def insU (l : List It) (x : It) : List It := l.takeWhile (fun y => decide (y.U ≤ x.U)) ++ x :: l.dropWhile (fun y => decide (y.U ≤ x.U))
def dueF (l : List It) : List It := l.foldl insU []
def dueL (b : List It) (now : Int) : List It := dueF (b.filter fun i => overB i now)
def duR (b : List It) (now : Int) : List ByteArray := if bookB b = true then (dueL b now).map (·.N) else []
/-- sooner, or at the same time with a lesser name -/
def Ear (x y : It) : Prop := x.U < y.U ∨ (x.U = y.U ∧ ltS x.N y.N = true)
theorem ins_cons (y : It) (l : List It) (x : It) : insU (y :: l) x = if y.U ≤ x.U then y :: insU l x else x :: y :: l := by
  unfold insU
  rw [List.takeWhile_cons, List.dropWhile_cons]
  by_cases h : y.U ≤ x.U <;> simp [h]
theorem ins_mem (x : It) : ∀ (l : List It) (z : It), z ∈ insU l x ↔ z = x ∨ z ∈ l
  | [], z => by simp [insU]
  | y :: l, z => by
    rw [ins_cons]
    by_cases h : y.U ≤ x.U
    · rw [if_pos h, List.mem_cons, ins_mem x l z, List.mem_cons]
      constructor
      · rintro (q | q | q)
        · exact .inr (.inl q)
        · exact .inl q
        · exact .inr (.inr q)
      · rintro (q | q | q)
        · exact .inr (.inl q)
        · exact .inl q
        · exact .inr (.inr q)
    · rw [if_neg h, List.mem_cons]
theorem ins_len (x : It) : ∀ l : List It, (insU l x).length = l.length + 1
  | [] => rfl
  | y :: l => by
    rw [ins_cons]
    split
    · simp [ins_len x l]
    · rfl
theorem ins_ear (x : It) : ∀ l : List It, l.Pairwise Ear → (∀ y ∈ l, ltS y.N x.N = true) → (insU l x).Pairwise Ear
  | [], _, _ => by simp [insU]
  | y :: l, h, hn => by
    obtain ⟨h1, h2⟩ := List.pairwise_cons.1 h
    rw [ins_cons]
    by_cases hu : y.U ≤ x.U
    · rw [if_pos hu]
      refine List.pairwise_cons.2 ⟨fun z hz => ?_, ins_ear x l h2 fun z hz => hn z (List.mem_cons_of_mem _ hz)⟩
      rcases (ins_mem x l z).1 hz with rfl | hz
      · by_cases e : y.U = z.U
        · exact .inr ⟨e, hn y (List.mem_cons_self ..)⟩
        · exact .inl (by omega)
      · exact h1 z hz
    · rw [if_neg hu]
      refine List.pairwise_cons.2 ⟨fun z hz => .inl ?_, h⟩
      rcases List.mem_cons.1 hz with rfl | hz
      · omega
      · rcases h1 z hz with q | q
        · omega
        · omega
theorem dueF_snoc (l : List It) (x : It) : dueF (l ++ [x]) = insU (dueF l) x := by unfold dueF; rw [List.foldl_append]; rfl
theorem dueF_mem : ∀ (n : Nat) (l : List It), l.length = n → ∀ z, z ∈ dueF l ↔ z ∈ l
  | 0, l, hl, z => by rw [List.eq_nil_of_length_eq_zero hl]; simp [dueF]
  | n + 1, l, hl, z => by
    have hne : l ≠ [] := fun e => by rw [e] at hl; simp at hl
    have e : l = l.dropLast ++ [l.getLast hne] := (List.dropLast_concat_getLast hne).symm
    rw [e, dueF_snoc, ins_mem, dueF_mem n l.dropLast (by rw [List.length_dropLast]; omega), List.mem_append, List.mem_singleton]
    exact ⟨fun q => q.symm, fun q => q.symm⟩
theorem dueF_len : ∀ (n : Nat) (l : List It), l.length = n → (dueF l).length = n
  | 0, l, hl => by rw [List.eq_nil_of_length_eq_zero hl]; rfl
  | n + 1, l, hl => by
    have hne : l ≠ [] := fun e => by rw [e] at hl; simp at hl
    have e : l = l.dropLast ++ [l.getLast hne] := (List.dropLast_concat_getLast hne).symm
    rw [e, dueF_snoc, ins_len, dueF_len n l.dropLast (by rw [List.length_dropLast]; omega)]
theorem dueF_ear : ∀ (n : Nat) (l : List It), l.length = n → Srt l → (dueF l).Pairwise Ear
  | 0, l, hl, _ => by rw [List.eq_nil_of_length_eq_zero hl]; simp [dueF]
  | n + 1, l, hl, h => by
    have hne : l ≠ [] := fun e => by rw [e] at hl; simp at hl
    have e : l = l.dropLast ++ [l.getLast hne] := (List.dropLast_concat_getLast hne).symm
    have h' := h
    rw [e] at h'
    obtain ⟨h1, -, h3⟩ := List.pairwise_append.1 h'
    rw [e, dueF_snoc]
    refine ins_ear _ _ (dueF_ear n l.dropLast (by rw [List.length_dropLast]; omega) h1) fun y hy => ?_
    exact h3 y ((dueF_mem _ _ rfl y).1 hy) _ (List.mem_singleton.2 rfl)
theorem due_mem {b : List It} {now : Int} {z : It} : z ∈ dueL b now ↔ z ∈ b ∧ overB z now = true := by
  unfold dueL
  rw [dueF_mem _ _ rfl, List.mem_filter]
theorem due_ear {b : List It} (h : Srt b) (now : Int) : (dueL b now).Pairwise Ear := dueF_ear _ _ rfl (h.filter _)
theorem due_len (b : List It) (now : Int) : (dueL b now).length = (b.filter fun i => overB i now).length := dueF_len _ _ rfl
theorem due_name {b : List It} (h : Srt b) {now : Int} {x : It} (hx : x ∈ b) : x.N ∈ (dueL b now).map (·.N) ↔ overB x now = true := by
  rw [List.mem_map]
  constructor
  · rintro ⟨y, hy, e⟩
    obtain ⟨h1, h2⟩ := due_mem.1 hy
    rw [← h.one h1 hx e]
    exact h2
  · exact fun ho => ⟨x, due_mem.2 ⟨hx, ho⟩, rfl⟩
/-- how many of the first k are over -/
def overN (b : List It) (now : Int) (k : Nat) : Nat := ((b.take k).filter fun i => overB i now).length
theorem overN_next {b : List It} {now : Int} {k : Nat} (hk : k < b.length) : overN b now (k + 1) = overN b now k + (if overB b[k] now = true then 1 else 0) := by
  unfold overN
  rw [List.take_succ_eq_append_getElem hk, List.filter_append, List.length_append]
  cases h : overB b[k] now <;> simp [h]
theorem over_u {x : It} {now : Int} (h : overB x now = true) : x.U ≠ 0 ∧ x.U ≤ now := by
  unfold overB at h
  simp only [Bool.and_eq_true, Bool.not_eq_true', beq_eq_false_iff_ne, decide_eq_true_eq] at h
  exact h
/-- the soonest -/
def sooF (n : Int) (l : List It) : Int := l.foldl (fun n i => if i.U ≠ 0 ∧ (n = 0 ∨ i.U < n) then i.U else n) n
def sooI (b : List It) : Int := if bookB b = true then sooF 0 b else 0
theorem sooF_cons (n : Int) (i : It) (l : List It) : sooF n (i :: l) = sooF (if i.U ≠ 0 ∧ (n = 0 ∨ i.U < n) then i.U else n) l := by unfold sooF; rw [List.foldl_cons]
theorem sooF_snoc (l : List It) (i : It) (n : Int) : sooF n (l ++ [i]) = if i.U ≠ 0 ∧ (sooF n l = 0 ∨ i.U < sooF n l) then i.U else sooF n l := by
  unfold sooF
  rw [List.foldl_append, List.foldl_cons, List.foldl_nil]
theorem sooF_is : ∀ (l : List It) (n : Int), (∀ i ∈ l, 0 ≤ i.U) → 0 ≤ n → 0 ≤ sooF n l ∧ (n ≠ 0 → sooF n l ≠ 0 ∧ sooF n l ≤ n) ∧ (∀ i ∈ l, i.U ≠ 0 → sooF n l ≠ 0 ∧ sooF n l ≤ i.U) ∧ (sooF n l ≠ 0 → sooF n l = n ∨ ∃ i ∈ l, sooF n l = i.U)
  | [], n, _, hn => ⟨hn, fun h => ⟨h, Int.le_refl _⟩, fun i hi => by simp at hi, fun _ => .inl rfl⟩
  | i :: l, n, hu, hn => by
    have hi := hu i (List.mem_cons_self ..)
    have hl : ∀ j ∈ l, 0 ≤ j.U := fun j hj => hu j (List.mem_cons_of_mem _ hj)
    rw [sooF_cons]
    by_cases hc : i.U ≠ 0 ∧ (n = 0 ∨ i.U < n)
    · rw [if_pos hc]
      obtain ⟨a1, a2, a3, a4⟩ := sooF_is l i.U hl hi
      refine ⟨a1, fun h => ⟨(a2 hc.1).1, ?_⟩, fun j hj h0 => ?_, fun h0 => ?_⟩
      · have := (a2 hc.1).2
        rcases hc.2 with q | q
        · exact absurd q h
        · omega
      · rcases List.mem_cons.1 hj with rfl | hj
        · exact a2 hc.1
        · exact a3 j hj h0
      · rcases a4 h0 with q | ⟨j, hj, q⟩
        · exact .inr ⟨i, List.mem_cons_self .., q⟩
        · exact .inr ⟨j, List.mem_cons_of_mem _ hj, q⟩
    · rw [if_neg hc]
      obtain ⟨a1, a2, a3, a4⟩ := sooF_is l n hl hn
      refine ⟨a1, a2, fun j hj h0 => ?_, fun h0 => ?_⟩
      · rcases List.mem_cons.1 hj with rfl | hj
        · have h1 : n ≠ 0 := fun e => hc ⟨h0, .inl e⟩
          have h2 : ¬ j.U < n := fun e => hc ⟨h0, .inr e⟩
          have := a2 h1
          exact ⟨this.1, by omega⟩
        · exact a3 j hj h0
      · rcases a4 h0 with q | ⟨j, hj, q⟩
        · exact .inl q
        · exact .inr ⟨j, List.mem_cons_of_mem _ hj, q⟩
/-- the first of those that are due is the soonest of all -/
theorem due_first {b : List It} (h : BOk b) {now : Int} {x : It} {r : List It} (e : dueL b now = x :: r) : x.U = sooF 0 b := by
  have hu : ∀ i ∈ b, 0 ≤ i.U := fun i hi => (itemB_iff.1 (h.1 i hi)).u0
  obtain ⟨a1, -, a3, a4⟩ := sooF_is b 0 hu (Int.le_refl _)
  have hx : x ∈ dueL b now := by rw [e]; exact List.mem_cons_self ..
  obtain ⟨hxb, hxo⟩ := due_mem.1 hx
  obtain ⟨u1, u2⟩ := over_u hxo
  obtain ⟨s1, s2⟩ := a3 x hxb u1
  rcases a4 s1 with q | ⟨j, hj, q⟩
  · exact absurd q s1
  · have hjo : overB j now = true := by
      unfold overB
      simp only [Bool.and_eq_true, Bool.not_eq_true', beq_eq_false_iff_ne, decide_eq_true_eq]
      exact ⟨by rw [← q]; exact s1, by omega⟩
    have hjd : j ∈ dueL b now := due_mem.2 ⟨hj, hjo⟩
    have hp := due_ear h.srt now
    rw [e] at hp hjd
    rcases List.mem_cons.1 hjd with rfl | hjr
    · exact q.symm
    · rcases (List.pairwise_cons.1 hp).1 j hjr with z | z
      · omega
      · omega
theorem ear_out {b : List It} (h : BOk b) {now : Int} {x y : It} (hx : x ∈ dueL b now) (hy : y ∈ dueL b now) (hr : Ear x y) : outB y x = true ∧ (x.U = y.U → ltS x.N y.N = true) := by
  obtain ⟨x1, x2⟩ := due_mem.1 hx
  obtain ⟨y1, y2⟩ := due_mem.1 hy
  have ux := over_u x2
  constructor
  · unfold outB
    rw [h.1 x x1, h.1 y y1]
    have h1 : decide (x.U = 0) = false := decide_eq_false ux.1
    have h2 : decide (x.U ≤ y.U) = true := decide_eq_true (by rcases hr with q | q <;> omega)
    rw [h1, h2]
    simp
  · intro e
    rcases hr with q | q
    · omega
    · exact q.2
end Go.Proofs.Ytmnjmghlkiljhaa.rg
/- Mathematics of a heap of things, no Go in sight: what is put on top of it and what is taken. -/
namespace Go.Proofs.Ytmnjmghlkiljhaa.rg
open Go.RowKit
set_option linter.unusedVariables false

def earB (x y : It) : Bool := if x.U = y.U then ltS x.N y.N else decide (x.U < y.U)
theorem earB_iff {x y : It} : earB x y = true ↔ Ear x y := by
  unfold earB Ear
  by_cases h : x.U = y.U
  · rw [if_pos h]
    exact ⟨fun q => .inr ⟨h, q⟩, fun q => q.elim (fun z => by omega) (fun z => z.2)⟩
  · rw [if_neg h, decide_eq_true_eq]
    exact ⟨.inl, fun q => q.elim id (fun z => absurd z.1 h)⟩
theorem ear_trans {x y z : It} (h : Ear x y) (k : Ear y z) : Ear x z := by
  rcases h with h | ⟨h, h'⟩ <;> rcases k with k | ⟨k, k'⟩
  · exact .inl (by omega)
  · exact .inl (by omega)
  · exact .inl (by omega)
  · exact .inr ⟨h.trans k, ltS_trans h' k'⟩
theorem ear_irr {x : It} (h : Ear x x) : False := by
  rcases h with h | ⟨_, h⟩
  · omega
  · exact ltS_ne h rfl
theorem ear_asym {x y : It} (h : Ear x y) (k : Ear y x) : False := ear_irr (ear_trans h k)
/-- no later -/
def Nl (x y : It) : Prop := ¬ Ear y x
theorem ear_flip {x y : It} (h : ¬ Ear x y) (hn : x.N ≠ y.N) : Ear y x := by
  by_cases e : x.U = y.U
  · refine .inr ⟨e.symm, ?_⟩
    cases q : ltS x.N y.N with
    | false => exact ltS_total q hn
    | true => exact absurd (.inr ⟨e, q⟩) h
  · by_cases l : x.U < y.U
    · exact absurd (.inl l) h
    · exact .inl (by omega)
theorem nl_trans {x y z : It} (h : Nl x y) (k : Nl y z) : Nl x z := fun q => by
  -- q : z before x; y not before x; z not before y
  rcases q with q | ⟨q, q'⟩
  · by_cases a : y.U < x.U
    · exact h (.inl a)
    · by_cases b : z.U < y.U
      · exact k (.inl b)
      · omega
  · by_cases a : y.U < x.U
    · exact h (.inl a)
    · by_cases b : z.U < y.U
      · exact k (.inl b)
      · have e1 : y.U = x.U := by omega
        have e2 : z.U = y.U := by omega
        have h1 : ltS y.N x.N = false := by
          cases c : ltS y.N x.N with
          | false => rfl
          | true => exact absurd (.inr ⟨e1, c⟩) h
        have h2 : ltS z.N y.N = false := by
          cases c : ltS z.N y.N with
          | false => rfl
          | true => exact absurd (.inr ⟨e2, c⟩) k
        by_cases n : y.N = x.N
        · rw [n] at h2; rw [h2] at q'; cases q'
        · have h3 := ltS_total h1 n
          have h4 := ltS_trans q' h3
          rw [h2] at h4; cases h4
theorem nl_refl (x : It) : Nl x x := fun q => ear_irr q
theorem nl_of {x y : It} (h : Ear x y) : Nl x y := fun q => ear_asym h q

/-- two are swapped -/
def swp (l : List It) (i j : Nat) : List It := if h : i < l.length ∧ j < l.length then (l.set i l[j]).set j l[i] else l
theorem swp_len (l : List It) (i j : Nat) : (swp l i j).length = l.length := by unfold swp; split <;> simp
theorem swp_is {l : List It} {i j : Nat} (hi : i < l.length) (hj : j < l.length) : swp l i j = (l.set i l[j]).set j l[i] := dif_pos ⟨hi, hj⟩
theorem swp_at {l : List It} {i j : Nat} (hi : i < l.length) (hj : j < l.length) (k : Nat) (hk : k < (swp l i j).length) (hk' : k < l.length) :
    (swp l i j)[k] = if k = j then l[i] else if k = i then l[j] else l[k] := by
  have e := swp_is hi hj
  simp only [e, List.getElem_set]
  by_cases a : k = j
  · subst a; simp
  · rw [if_neg (show ¬ j = k from fun q => a q.symm), if_neg a]
    by_cases b : k = i
    · subst b; simp
    · rw [if_neg (show ¬ i = k from fun q => b q.symm), if_neg b]
theorem set_perm {l : List It} {i : Nat} (hi : i < l.length) (x : It) : (l[i] :: l.set i x).Perm (x :: l) := by
  induction l generalizing i with
  | nil => simp at hi
  | cons a r ih =>
    cases i with
    | zero => simpa using List.Perm.swap x a r
    | succ k =>
      have hk : k < r.length := by simpa using hi
      simp only [List.getElem_cons_succ, List.set_cons_succ]
      exact ((List.Perm.swap a r[k] (r.set k x)).trans ((ih hk).cons a)).trans (List.Perm.swap x a r)
theorem swp_perm (l : List It) (i j : Nat) : (swp l i j).Perm l := by
  by_cases h : i < l.length ∧ j < l.length
  · obtain ⟨hi, hj⟩ := h
    rw [swp_is hi hj]
    by_cases e : i = j
    · subst e; simp
    · have h1 := set_perm hi l[j]
      have hj2 : j < (l.set i l[j]).length := by simpa using hj
      have h2 := set_perm hj2 l[i]
      rw [List.getElem_set_ne e] at h2
      -- l[j] :: S ~ l[i] :: A ~ l[j] :: l
      exact (h2.trans h1).cons_inv
  · unfold swp; rw [dif_neg h]

/-- where one's better lies -/
def par (k : Nat) : Nat := (k - 1) / 2
/-- the first n are a heap -/
def Hp (n : Nat) (l : List It) : Prop := ∀ k (h : k < l.length), 0 < k → k < n → Nl (l[par k]'(by unfold par; omega)) l[k]
theorem hp_first {n : Nat} {l : List It} (h : Hp n l) (hn : n ≤ l.length) : ∀ k (hk : k < l.length), k < n → Nl (l[0]'(by omega)) l[k] := by
  intro k
  induction k using Nat.strongRecOn with
  | _ k ih =>
    intro hk hkn
    by_cases e : k = 0
    · subst e; exact nl_refl _
    · have hp : par k < k := by unfold par; omega
      exact nl_trans (ih (par k) hp (by omega) (by omega)) (h k hk (by omega) hkn)
/-- a heap but that the j-th may be sooner than its better -/
structure Up (n j : Nat) (l : List It) : Prop where
  a : ∀ k (h : k < l.length), 0 < k → k < n → k ≠ j → Nl (l[par k]'(by unfold par; omega)) l[k]
  b : ∀ k (h : k < l.length), 0 < k → k < n → (e : par k = j) → 0 < j → Nl (l[par j]'(by unfold par at *; omega)) l[k]
theorem up_end {n j : Nat} {l : List It} (u : Up n j l) (hj : j < l.length) (h : j = 0 ∨ Nl (l[par j]'(by unfold par; omega)) l[j]) : Hp n l := fun k hk h0 hn => by
  by_cases e : k = j
  · subst e
    rcases h with h | h
    · omega
    · exact h
  · exact u.a k hk h0 hn e
theorem up_step {n j : Nat} {l : List It} (u : Up n j l) (hj : j < l.length) (hn : n ≤ l.length) (hjn : j < n) (h0 : 0 < j) (h : Ear l[j] (l[par j]'(by unfold par; omega))) : Up n (par j) (swp l (par j) j) := by
  have hp : par j < j := by unfold par; omega
  have hpl : par j < l.length := by omega
  have L := swp_len l (par j) j
  have A : ∀ k (hk : k < (swp l (par j) j).length) (hk' : k < l.length), (swp l (par j) j)[k] = if k = j then l[par j] else if k = par j then l[j] else l[k] := swp_at hpl hj
  constructor
  · intro k hk k0 kn kp
    have hk' : k < l.length := by omega
    have hpk : par k < k := by unfold par; omega
    rw [A k hk hk', A (par k) (by omega) (by omega)]
    by_cases e : k = j
    · subst e
      rw [if_pos rfl, if_neg (by omega), if_pos rfl]
      exact nl_of h
    · rw [if_neg e, if_neg kp]
      by_cases e2 : par k = j
      · rw [if_pos e2]
        exact u.b k hk' k0 kn e2 h0
      · rw [if_neg e2]
        by_cases e3 : par k = par j
        · rw [if_pos e3]
          have := u.a k hk' k0 kn e
          simp only [e3] at this
          exact nl_trans (nl_of h) this
        · rw [if_neg e3]
          exact u.a k hk' k0 kn e
  · intro k hk k0 kn kp p0
    have hk' : k < l.length := by omega
    have hpp : par (par j) < par j := by unfold par at *; omega
    have hpk : par k < k := by unfold par; omega
    rw [A k hk hk', A (par (par j)) (by omega) (by omega), if_neg (by omega), if_neg (by omega)]
    have hpj := u.a (par j) hpl p0 (by omega) (by omega)
    by_cases e : k = j
    · subst e
      rw [if_pos rfl]
      exact hpj
    · rw [if_neg e, if_neg (by omega)]
      have := u.a k hk' k0 kn e
      simp only [kp] at this
      exact nl_trans hpj this
/-- a heap but that the i-th may be later than those below it -/
structure Dn (n i : Nat) (l : List It) : Prop where
  a : ∀ k (h : k < l.length), 0 < k → k < n → par k ≠ i → Nl (l[par k]'(by unfold par; omega)) l[k]
  b : ∀ k (h : k < l.length), 0 < k → k < n → (e : par k = i) → 0 < i → Nl (l[par i]'(by unfold par at *; omega)) l[k]
theorem dn_end {n i : Nat} {l : List It} (u : Dn n i l) (h : ∀ k (h : k < l.length), 0 < k → k < n → par k = i → Nl (l[par k]'(by unfold par; omega)) l[k]) : Hp n l := fun k hk h0 hn => by
  by_cases e : par k = i
  · exact h k hk h0 hn e
  · exact u.a k hk h0 hn e
/-- j is below i, and none below i is sooner -/
theorem dn_step {n i j : Nat} {l : List It} (u : Dn n i l) (hn : n ≤ l.length) (hj0 : 0 < j) (hjn : j < n) (hpj : par j = i) (h : Ear (l[j]'(by omega)) (l[i]'(by unfold par at hpj; omega)))
    (hs : ∀ k (h : k < l.length), 0 < k → k < n → par k = i → Nl (l[j]'(by omega)) l[k]) : Dn n j (swp l i j) := by
  have hij : i < j := by unfold par at hpj; omega
  have hjl : j < l.length := by omega
  have hil : i < l.length := by omega
  have L := swp_len l i j
  have A : ∀ k (hk : k < (swp l i j).length) (hk' : k < l.length), (swp l i j)[k] = if k = j then l[i] else if k = i then l[j] else l[k] := swp_at hil hjl
  constructor
  · intro k hk k0 kn kp
    have hk' : k < l.length := by omega
    have hpk : par k < k := by unfold par; omega
    rw [A k hk hk', A (par k) (by omega) (by omega), if_neg kp]
    by_cases e : k = j
    · subst e
      rw [if_pos rfl, if_pos hpj]
      exact nl_of h
    · rw [if_neg e]
      by_cases e1 : par k = i
      · rw [if_pos e1, if_neg (by omega)]
        exact hs k hk' k0 kn e1
      · rw [if_neg e1]
        by_cases e2 : k = i
        · subst e2
          rw [if_pos rfl]
          have := u.b j hjl hj0 hjn hpj (by omega)
          exact this
        · rw [if_neg e2]
          exact u.a k hk' k0 kn e1
  · intro k hk k0 kn kp j0
    have hk' : k < l.length := by omega
    have hpk : par k < k := by unfold par; omega
    rw [A k hk hk', A (par j) (by omega) (by omega), if_neg (show ¬ par j = j by omega), if_pos hpj, if_neg (show ¬ k = j by omega), if_neg (show ¬ k = i by omega)]
    have := u.a k hk' k0 kn (by omega)
    simp only [kp] at this
    exact this
/-- of the two below -/
theorem below_two {k i : Nat} (h0 : 0 < k) (h : par k = i) : k = 2 * i + 1 ∨ k = 2 * i + 2 := by unfold par at h; omega
theorem hp_up {n : Nat} {l : List It} (h : Hp n l) (hl : l.length = n) (x : It) : Up (n + 1) n (l ++ [x]) := by
  constructor
  · intro k hk k0 kn kj
    have hkn : k < n := by omega
    have hpk : par k < k := by unfold par; omega
    rw [List.getElem_append_left (by omega), List.getElem_append_left (by omega)]
    exact h k (by omega) k0 hkn
  · intro k hk k0 kn kp j0
    unfold par at kp; omega
/-- the first and the last are swapped: all but the last are a heap but for the first -/
theorem hp_dn {n : Nat} {l : List It} (h : Hp (n + 1) l) (hl : l.length = n + 1) : Dn n 0 (swp l 0 n) := by
  have A : ∀ k (hk : k < (swp l 0 n).length) (hk' : k < l.length), (swp l 0 n)[k] = if k = n then l[0] else if k = 0 then l[n] else l[k] := swp_at (by omega) (by omega)
  have L := swp_len l 0 n
  constructor
  · intro k hk k0 kn kp
    have hpk : par k < k := by unfold par; omega
    rw [A k hk (by omega), A (par k) (by omega) (by omega), if_neg (show ¬ par k = n by omega), if_neg kp, if_neg (show ¬ k = n by omega), if_neg (show ¬ k = 0 by omega)]
    exact h k (by omega) k0 (by omega)
  · intro k hk k0 kn kp i0
    omega
theorem hp_take {n : Nat} {l : List It} (h : Hp n l) : Hp n (l.take n) := fun k hk k0 kn => by
  have hpk : par k < k := by unfold par; omega
  have hk2 : k < l.length := by rw [List.length_take] at hk; omega
  rw [List.getElem_take, List.getElem_take]
  exact h k hk2 k0 kn
theorem hp_zero (l : List It) (n : Nat) (h : n ≤ 1) : Hp n l := fun k hk k0 kn => by omega
/-- what is the same but for an order is the same in order -/
theorem sorted_one : ∀ (P D : List It), P.Perm D → P.Pairwise Ear → D.Pairwise Ear → P = D
  | [], D, hp, _, _ => (List.Perm.nil_eq hp)
  | x :: P, [], hp, _, _ => by have := hp.length_eq; simp at this
  | x :: P, y :: D, hp, h1, h2 => by
    obtain ⟨a1, a2⟩ := List.pairwise_cons.1 h1
    obtain ⟨b1, b2⟩ := List.pairwise_cons.1 h2
    have e : x = y := by
      have hx : x ∈ y :: D := hp.subset (List.mem_cons_self ..)
      have hy : y ∈ x :: P := hp.symm.subset (List.mem_cons_self ..)
      rcases List.mem_cons.1 hx with q | q
      · exact q
      · rcases List.mem_cons.1 hy with r | r
        · exact r.symm
        · exact (ear_asym (b1 x q) (a1 y r)).elim
    subst e
    rw [sorted_one P D hp.cons_inv a2 b2]
/-- what has been taken, and what is left -/
structure Tk (b : List It) (P q : List It) : Prop where
  perm : (P ++ q).Perm b
  s : P.Pairwise Ear
  pq : ∀ x ∈ P, ∀ y ∈ q, Ear x y
theorem tk_start {b q : List It} (h : q.Perm b) : Tk b [] q := ⟨by simpa using h, .nil, fun x hx => by simp at hx⟩
theorem names_apart {b P : List It} (h : Srt b) {x : It} {r : List It} (hp : (P ++ (x :: r)).Perm b) : ∀ y ∈ r, x.N ≠ y.N := by
  intro y hy e
  have hb : (b.map (·.N)).Nodup := by
    have := srt_map.2 h
    exact this.imp fun q => ltS_ne q
  have h2 : ((P ++ (x :: r)).map (·.N)).Nodup := (hp.map _).nodup_iff.2 hb
  rw [List.map_append, List.map_cons] at h2
  have h3 := (List.nodup_append.1 h2).2.1
  exact (List.nodup_cons.1 h3).1 (e ▸ List.mem_map_of_mem hy)
theorem tk_next {b P q : List It} (hb : Srt b) (t : Tk b P q) {x : It} {r : List It} (hq : (x :: r).Perm q) (hm : ∀ y ∈ r, Nl x y) : Tk b (P ++ [x]) r := by
  have hp : (P ++ (x :: r)).Perm b := (List.Perm.append_left P hq).trans t.perm
  have hx : x ∈ q := hq.subset (List.mem_cons_self ..)
  refine ⟨by simpa using hp, ?_, fun z hz y hy => ?_⟩
  · refine List.pairwise_append.2 ⟨t.s, by simp, fun z hz y hy => ?_⟩
    rw [List.mem_singleton.1 hy]
    exact t.pq z hz x hx
  · rcases List.mem_append.1 hz with hz | hz
    · exact t.pq z hz y (hq.subset (List.mem_cons_of_mem _ hy))
    · rw [List.mem_singleton.1 hz]
      exact ear_flip (hm y hy) fun e => names_apart hb hp y hy e.symm
theorem tk_end {b P : List It} (t : Tk b P []) {D : List It} (hD : D.Perm b) (hs : D.Pairwise Ear) : P = D := by
  have := t.perm
  rw [List.append_nil] at this
  exact sorted_one P D (this.trans hD.symm) t.s hs
theorem ins_perm (x : It) : ∀ l : List It, (insU l x).Perm (x :: l)
  | [] => by simp [insU]
  | y :: l => by
    rw [ins_cons]
    split
    · exact ((ins_perm x l).cons y).trans (List.Perm.swap x y l)
    · exact .refl _
theorem dueF_perm : ∀ (n : Nat) (l : List It), l.length = n → (dueF l).Perm l
  | 0, l, hl => by rw [List.eq_nil_of_length_eq_zero hl]; simp [dueF]
  | n + 1, l, hl => by
    have hne : l ≠ [] := fun e => by rw [e] at hl; simp at hl
    have e : l = l.dropLast ++ [l.getLast hne] := (List.dropLast_concat_getLast hne).symm
    rw [e, dueF_snoc]
    refine (ins_perm _ _).trans ?_
    refine ((dueF_perm n l.dropLast (by rw [List.length_dropLast]; omega)).cons _).trans ?_
    exact (List.perm_append_singleton _ _).symm
theorem due_perm (b : List It) (now : Int) : (dueL b now).Perm (b.filter fun i => overB i now) := dueF_perm _ _ rfl
end Go.Proofs.Ytmnjmghlkiljhaa.rg
/- Rows that a call made, of whatever things: written at a place, cut short, copied into. -/
namespace Go.Proofs.Ytmnjmghlkiljhaa.ro
open Go.ChangeShapes Go.WideShapes Go.ChangeAt Go.RowKit
open Go.Proofs.Ytmnjmghlkiljhaa.ce
set_option linter.unusedVariables false
variable {α : Type}

theorem write_list {β : Type} (L : List β) (k n i m : Nat) (R : List β) (hR : R.length = m * k) (hin : i ≤ n) (hL : n * k ≤ L.length) (hc : (i + m) * k ≤ L.length) :
    (L.take (i * k) ++ R ++ L.drop (i * k + R.length)).take ((if i + m ≤ n then n else i + m) * k) = (L.take (n * k)).take (i * k) ++ R ++ (L.take (n * k)).drop ((i + m) * k) := by
  have e1 : (i + m) * k = i * k + m * k := Nat.add_mul _ _ _
  have h1 : i * k ≤ n * k := Nat.mul_le_mul_right _ hin
  have h2 : (L.take (i * k)).length = i * k := by rw [List.length_take]; omega
  rw [List.take_take, Nat.min_eq_left h1]
  have h3 : (L.take (i * k) ++ R).length = (i + m) * k := by rw [List.length_append, h2, hR, e1]
  rw [hR, ← e1]
  split
  · next h =>
    have h4 : (i + m) * k ≤ n * k := Nat.mul_le_mul_right _ h
    rw [List.take_append, h3, List.take_of_length_le (by rw [h3]; exact h4), List.drop_take]
  · next h =>
    have h4 : n * k ≤ (i + m) * k := Nat.mul_le_mul_right _ (by omega)
    rw [List.take_append_of_le_length (by rw [h3]; exact Nat.le_refl _), List.take_of_length_le (by rw [h3]; exact Nat.le_refl _), List.drop_of_length_le (by rw [List.length_take]; omega), List.append_nil]
/-- the block g has room for cap things; the first of them are xs -/
structure RowAt (E : Enc α) (w : World) (g cap : Nat) (xs : List α) : Prop where
  blk : ∃ cur : Array Value, w.heap[g]? = some (.cells cur E.t (0, 0)) ∧ cur.size = cap * E.k ∧ cur.toList.take (xs.length * E.k) = E.row xs
  le : xs.length ≤ cap
  cap : cap ≤ maxLen
theorem Own.at {E : Enc α} {w : World} {lo hi g n cap : Nat} {xs : List α} (o : Own E w lo hi (.slice (some ⟨g, 0, none⟩) n cap) xs) (hne : xs ≠ []) : RowAt E w g cap xs ∧ lo ≤ g ∧ g < hi := by
  rcases o.row with ⟨e, -⟩ | ⟨g', cap', cur, e, hg, hb, hc1, hc2, hc3, htk⟩
  · exact absurd e hne
  cases e
  exact ⟨⟨⟨cur, hb, hc3, htk⟩, hc1, hc2⟩, hg⟩
theorem RowAt.own {E : Enc α} {w : World} {g cap : Nat} {xs : List α} (r : RowAt E w g cap xs) {lo hi n : Nat} (h1 : lo ≤ g) (h2 : g < hi) (hn : n = xs.length) : Own E w lo hi (.slice (some ⟨g, 0, none⟩) n cap) xs := by
  subst hn
  obtain ⟨cur, hb, hs, ht⟩ := r.blk
  exact ⟨.inr ⟨g, cap, cur, rfl, ⟨h1, h2⟩, hb, r.le, r.cap, hs, ht⟩⟩
theorem RowAt.lt {E : Enc α} {w : World} {g cap : Nat} {xs : List α} (r : RowAt E w g cap xs) : g < w.heap.size := by
  obtain ⟨cur, hb, -, -⟩ := r.blk
  exact (Array.getElem?_eq_some_iff.1 hb).1
theorem RowAt.of {E : Enc α} {w w' : World} {g cap : Nat} {xs : List α} (r : RowAt E w g cap xs) (e : w'.heap[g]? = w.heap[g]?) : RowAt E w' g cap xs := by
  obtain ⟨cur, hb, hs, ht⟩ := r.blk
  exact ⟨⟨cur, by rw [e]; exact hb, hs, ht⟩, r.le, r.cap⟩
theorem RowAt.grow {E : Enc α} {w w' : World} {g cap : Nat} {xs : List α} (r : RowAt E w g cap xs) (hb : Below w.heap.size w w') : RowAt E w' g cap xs := r.of (hb.block g r.lt)
/-- things are written at the place i, maybe over the end -/
theorem RowAt.write {E : Enc α} {w : World} {g cap : Nat} {xs : List α} (r : RowAt E w g cap xs) (i : Nat) (hi' : i ≤ xs.length) (ys : List α) (hc : i + ys.length ≤ cap) : RowAt E (w.setCells g (i * E.k) (E.row ys)) g cap (xs.take i ++ ys ++ xs.drop (i + ys.length)) := by
  obtain ⟨cur, hb, hc3, htk⟩ := r.blk
  have hc1 := r.le
  have hL : cur.toList.length = cap * E.k := by rw [Array.length_toList, hc3]
  have hk : (i + ys.length) * E.k ≤ cap * E.k := Nat.mul_le_mul_right _ hc
  have hk1 : xs.length * E.k ≤ cap * E.k := Nat.mul_le_mul_right _ hc1
  have hRl := E.row_len ys
  have e1 : (i + ys.length) * E.k = i * E.k + ys.length * E.k := Nat.add_mul _ _ _
  have hlen : (xs.take i ++ ys ++ xs.drop (i + ys.length)).length = if i + ys.length ≤ xs.length then xs.length else i + ys.length := by
    simp only [List.length_append, List.length_take, List.length_drop]
    split <;> omega
  have hw := write_list cur.toList E.k xs.length i ys.length (E.row ys) hRl hi' (by rw [hL]; exact hk1) (by rw [hL]; exact hk)
  refine ⟨⟨(cur.toList.take (i * E.k) ++ E.row ys ++ cur.toList.drop (i * E.k + (E.row ys).length)).toArray, ?_, ?_, ?_⟩, ?_, r.cap⟩
  · exact heap_setCells g E.t (E.row ys) (i * E.k) w cur.toList (by simpa using hb) (by rw [hL, hRl]; omega)
  · simp only [List.size_toArray, List.length_append, List.length_take, List.length_drop, hL, hRl]; omega
  · rw [hlen]
    show (cur.toList.take (i * E.k) ++ E.row ys ++ cur.toList.drop (i * E.k + (E.row ys).length)).take _ = _
    rw [hw, htk, E.row_take, E.row_append, E.row_append]
    congr 1
    by_cases h : i + ys.length ≤ xs.length
    · exact E.row_drop xs _ h
    · have e3 : xs.drop (i + ys.length) = [] := List.drop_of_length_le (by omega)
      rw [e3, List.drop_of_length_le (by rw [E.row_len]; exact Nat.mul_le_mul_right _ (by omega))]; rfl
  · rw [hlen]; split <;> omega
theorem RowAt.cut {E : Enc α} {w : World} {g cap : Nat} {xs : List α} (r : RowAt E w g cap xs) (m : Nat) : RowAt E w g cap (xs.take m) := by
  obtain ⟨cur, hb, hs, ht⟩ := r.blk
  have hl := r.le
  have h2 : (xs.take m).length = min m xs.length := List.length_take
  refine ⟨⟨cur, hb, hs, ?_⟩, by omega, r.cap⟩
  rw [h2, ← E.row_take, ← ht, List.take_take, ← Nat.mul_min_mul_right]
/-- the cells of a row are there -/
theorem RowAt.there {E : Enc α} {w : World} {g cap : Nat} {xs : List α} (r : RowAt E w g cap xs) : (∀ j, j < cap * E.k → (w.cell? ⟨g, j, none⟩).isSome = true) ∧ (∀ j, w.frozen? ⟨g, j, none⟩ = false) ∧ w.shape? g = some (E.t, cap * E.k) := by
  obtain ⟨cur, hb, hs, ht⟩ := r.blk
  refine ⟨fun j hj => ?_, fun j => frozen_of_row _ _ _ _ _ hb, ?_⟩
  · rw [cell_of_row _ _ _ _ _ _ hb]
    simp; omega
  · simp [World.shape?, hb, hs]
theorem RowAt.ty {E : Enc α} {w w' : World} {g cap lo : Nat} {xs : List α} (r : RowAt E w g cap xs) (hg : lo ≤ g) (h : Only g w w') : Ty lo E.t w w' := by
  obtain ⟨cur, hb, hs, htk⟩ := r.blk
  refine ⟨h.2.2 _ hg, fun k cu t' f hk ht => h.2.1 k fun e => ?_⟩
  subst e
  rw [hk] at hb
  simp at hb
  exact ht hb.2.1
/-- the things from the place i on are read -/
theorem RowAt.range {E : Enc α} {w : World} {g cap : Nat} {xs : List α} (r : RowAt E w g cap xs) (i : Nat) (hi' : i ≤ xs.length) : w.rangeAt g (i * E.k) (E.row (xs.drop i)) := fun j v hv => by
  obtain ⟨cur, hb, hs, ht⟩ := r.blk
  rw [cell_of_row _ _ _ _ _ _ hb]
  rw [← E.row_drop xs i hi', ← ht, List.getElem?_drop, List.getElem?_take] at hv
  split at hv
  · simpa using hv
  · cases hv
theorem RowAt.head {E : Enc α} {w : World} {g cap : Nat} {xs : List α} (r : RowAt E w g cap xs) (i : Nat) : w.rangeAt g 0 (E.row (xs.take i)) := by
  have := (r.cut i).range 0 (Nat.zero_le _)
  simpa using this
/-- the elements are read at a, all of them or as many as there is room for -/
theorem run_copy_e {P : Program} {E : Enc α} (w : World) (dT sT ty : TypeId) (hu : P.underlying dT = some (.slice E.t)) (hs : (P.info? E.t).map (·.size) = some E.k) (g j dLen dCap b off sLen sCap : Nat) (ys : List α) (hn : ys.length = Nat.min sLen dLen)
    (hr : w.rangeAt b off (E.row ys)) (hc : ∀ q, q < ys.length * E.k → (w.cell? ⟨g, j + q, none⟩).isSome = true) (hf : ∀ q, w.frozen? ⟨g, q, none⟩ = false) :
    (Builtin.copy_ #[dT, sT] ty #[.slice (some ⟨g, j, none⟩) dLen dCap, .slice (some ⟨b, off, none⟩) sLen sCap]).run P w = .ok (goInt ys.length) (w.setCells g j (E.row ys)) := by
  have hl := run_loadCells_list (P := P) w ⟨b, off, none⟩ (E.row ys) (fun q v hv => by rw [Addr.add_mid]; exact hr q v hv)
  have hst := run_storeCells_cells (P := P) g j (E.row ys) 0 w (by rw [E.row_len]; simpa using hc) (by intro q hq; exact hf _) (E.row_cells ys)
  have hrl := E.row_len ys
  cases hq : P.info? E.t with
  | none => simp [hq] at hs
  | some i =>
    have hi : i.size = E.k := by simpa [hq] using hs
    have hm : min sLen dLen = ys.length := hn.symm
    simp [Builtin.copy_, run_underlying hu, Builtin.lenOf, Builtin.firstCells, sizeOf, typeInfo, hq, hi, hm, ← hrl, hl, hst]
section
variable {ops : Array Oper} {rest : List Oper} {o : Oper} {a : Act} {w : World} {Q : Exit → Act → World → Prop} {K : Act → World → Prop} {X : Prop}
theorem wpList_cp (hgd : o.guard = none) (d s : Operand) (dT sT : TypeId) (ho : o.op = .call { callee := .builtin .copy, args := #[d, s], argTypes := #[dT, sT] }) (v u : Value) (hd : a.eval d = v) (hs : a.eval s = u) {v' : Value} {w' : World} (hr : (Builtin.copy_ #[dT, sT] o.type #[v, u]).run Try.prog w = .ok v' w')
    (h : wpList Try.prog ops Q rest (a.put o.dst v') w') : wpList Try.prog ops Q (o :: rest) a w :=
  wpList_val hgd (v := v') (w' := w') (by simp [execOp, ho, resolve, invoke, builtin, hd, hs, hr, Result.andThen]) h
theorem step_cp (hgd : o.guard = none) (d s : Operand) (dT sT : TypeId) (ho : o.op = .call { callee := .builtin .copy, args := #[d, s], argTypes := #[dT, sT] }) (v u : Value) (hd : a.eval d = v) (hs : a.eval s = u) {v' : Value} {w' : World} (hr : (Builtin.copy_ #[dT, sT] o.type #[v, u]).run Try.prog w = .ok v' w')
    (h : K (a.put o.dst v') w') : if Region.wanted o (yielded ops a.tmps) = true then Oper.wp Try.prog o a w K Q else X :=
  step_val hgd (v := v') (w' := w') (by simp [execOp, ho, resolve, invoke, builtin, hd, hs, hr, Result.andThen]) h
/-- a thing is stored at a place of a row that the call made -/
theorem wpList_store_e {E : Enc α} (hsz : (Try.prog.info? E.t).map (·.size) = some E.k) (hgd : o.guard = none) (x y : Operand) (ho : o.op = .store E.t x y) (lo hi g n cap i j0 : Nat) (xs : List α) (c : α) (hx : a.eval x = .pointer (some ⟨g, j0, none⟩)) (hj0 : j0 = i * E.k) (hy : a.eval y = .agg (E.put c).toArray)
    (own : Own E w lo hi (.slice (some ⟨g, 0, none⟩) n cap) xs) (hlt : i < xs.length) (h : ∀ w', Only g w w' → Own E w' lo hi (.slice (some ⟨g, 0, none⟩) n cap) (xs.set i c) → wpList Try.prog ops Q rest (a.put o.dst undef) w') : wpList Try.prog ops Q (o :: rest) a w := by
  subst hj0
  have hne : xs ≠ [] := fun e => by rw [e] at hlt; simp at hlt
  obtain ⟨r, hg1, hg2⟩ := own.at hne
  obtain ⟨h1, h2, -⟩ := r.there
  obtain ⟨hn, hc, -⟩ := own.rd.cap
  have es : xs.take i ++ [c] ++ xs.drop (i + [c].length) = xs.set i c := by
    rw [List.set_eq_take_append_cons_drop, if_pos hlt]; simp
  have hw := r.write i (by omega) [c] (by simp; omega)
  rw [E.row_one', es] at hw
  refine wpList_store_mid hgd E.t x y ho g (i * E.k) (E.put c).toArray hx hy (fun j hj => ⟨h1 _ ?_, h2 _⟩) (by rw [hsz, List.size_toArray, E.len]) (all_oneCell_toArray (E.one c)) (h _ (only_setCells _ _ _ _) (hw.own hg1 hg2 (by simp; omega)))
  rw [List.size_toArray, E.len] at hj
  have : (i + 1) * E.k ≤ cap * E.k := Nat.mul_le_mul_right _ (by omega)
  rw [Nat.add_mul] at this
  omega
end
end Go.Proofs.Ytmnjmghlkiljhaa.ro
/- Contracts: the program's answers on one thing; a thing around its name. -/
namespace Go.Proofs.Ytmnjmghlkiljhaa.rg
open Go.ChangeShapes Go.WideShapes Go.ChangeAt Go.RowKit
open Go.Proofs.Ytmnjmghlkiljhaa.ce Go.Proofs.Ytmnjmghlkiljhaa.ro
set_option linter.unusedVariables false

theorem sizeTh : (Try.prog.info? 148).map (·.size) = some 5 := by kernel_rfl
theorem zeroTh (w : World) : (zeroValue 148).run Try.prog w = .ok (.agg [Value.string ⟨#[]⟩, .int .i64 0, .string ⟨#[]⟩, .int .i64 0, .int .i64 0].toArray) w := Try.zeroValue148 w

theorem field_thing (N B : ByteArray) (F C U : Int) : ∀ w : World, (Instr.field 148 (.agg #[.string N, .int .i64 F, .string B, .int .i64 C, .int .i64 U]) 0).run Try.prog w = .ok (.string N) w := fun _ => by kernel_rfl

theorem within_is (x lo hi : Int) (y : Bool) (h : (decide (lo ≤ x) && decide (x ≤ hi)) = y) (w : World) : Calls Try.prog 144 #[.int .i64 x, .int .i64 lo, .int .i64 hi] w fun e w' => e = .returned (.bool y) ∧ w' = w := by
  by_cases h1 : lo ≤ x
  · by_cases h3 : x ≤ hi
    · rw [decide_eq_true h1, decide_eq_true h3] at h
      subst h
      go_enter Try.func144, Try.ntmps144
      go_wp2
      go_ret
      exact ⟨rfl, rfl⟩
    · rw [decide_eq_true h1, decide_eq_false h3] at h
      subst h
      go_enter Try.func144, Try.ntmps144
      go_wp2
      go_ret
      exact ⟨rfl, rfl⟩
  · rw [decide_eq_false h1] at h
    subst h
    go_enter Try.func144, Try.ntmps144
    go_wp2
    go_ret
    exact ⟨rfl, rfl⟩

theorem nameRight_any (s : ByteArray) (y : Bool) (hy : Hid (nameB s = y)) (hs : s.size ≤ 9223372036854775807) (w : World) : Calls Try.prog 143 #[.string s] w fun e w' => e = .returned (.bool y) ∧ w' = w := by
  go_enter Try.func143, Try.ntmps143
  go_wp2_with (first | (go_at_call 50; refine (implNameOk_any _ hs _).mono ?_; rintro e wq ⟨rfl, hq⟩; subst wq; rw [hy.out]) | (fail))
  go_ret
  exact ⟨rfl, rfl⟩
theorem standsAhead_any (s n : ByteArray) (y : Bool) (hy : ltS s n = y) (w : World) : Calls Try.prog 140 #[.string s, .string n] w fun e w' => e = .returned (.bool y) ∧ w' = w := by
  go_enter Try.func140, Try.ntmps140
  go_wp2
  go_ret
  exact ⟨by rw [← hy]; rfl, rfl⟩
theorem thingOf_any (N B : ByteArray) (F C U : Int) (w : World) :
    Calls Try.prog 123 #[.agg #[.string N, .int .i64 F, .string B, .int .i64 C, .int .i64 U]] w fun e w' => e = .returned (.agg #[.string N, .int .i64 F, .string B, .int .i64 C, .int .i64 U]) ∧ Below w.heap.size w w' := by
  go_enter Try.func123, Try.ntmps123
  go_wp2_with (first | (refine wpList_box_v rfl 53 _ rfl [.string N, .int .i64 F, .string B, .int .i64 C, .int .i64 U] rfl ?_; intro b1 w1 hb1 hw1 hB1 V1; have hz1 := hB1.size) | (refine wpList_alloc_v rfl 148 rfl _ zeroTh ?_; intro b2 w2 hb2 hw2 hB2 V2; have hz2 := hB2.size; replace V1 := vblk_grow V1 hB2; obtain ⟨c0, c1, c2, c3, c4⟩ := cells5 V1) | (refine wpList_store_v rfl 148 _ _ rfl b2 [.string N, .int .i64 F, .string B, .int .i64 C, .int .i64 U] rfl rfl sizeTh V2 rfl (ic_one ⟨N, F, B, C, U⟩) ?_; intro w3 hO3 V3) | (fail))
  refine row_retv rfl rfl V3 Try.underlying148 sizeTh rfl ⟨rfl, ?_⟩
  exact (hB1.trans (hB2.mono hz1)).trans (hO3.2.2 _ (by omega))

set_option maxHeartbeats 4000000 in
theorem right_any (N B : ByteArray) (F C U : Int) (y : Bool) (hy : Hid (itemB ⟨N, F, B, C, U⟩ = y)) (hN : N.size ≤ 9223372036854775807) (hB : B.size ≤ 9223372036854775807) (w : World) :
    Calls Try.prog 124 #[.agg #[.string N, .int .i64 F, .string B, .int .i64 C, .int .i64 U]] w fun e w' => e = .returned (.bool y) ∧ Below w.heap.size w w' := by
  obtain ⟨x1, h1⟩ := hid_ex (nameB N)
  obtain ⟨x2, h2⟩ := hid_ex (decide (0 ≤ F) && decide (F ≤ 65535))
  obtain ⟨x4, h4⟩ := hid_ex (decide (1 ≤ C) && decide (C ≤ 1000000))
  obtain ⟨x5, h5⟩ := hid_ex (decide (0 ≤ U) && decide (U ≤ 1000000))
  have hy2 : (x1 && x2 && decide ((B.size : Int) ≤ 64) && x4 && x5) = y := by rw [← h1.out, ← h2.out, ← h4.out, ← h5.out]; exact hy.out
  clear hy
  by_cases h3 : (B.size : Int) ≤ 64
  · rw [decide_eq_true h3] at hy2
    cases x1 <;> cases x2 <;> cases x4 <;> cases x5
    all_goals
      subst hy2
      go_enter Try.func124, Try.ntmps124
      have m1 : Hid True := trivial
      have m2 : Hid True := trivial
      have m3 : Hid True := trivial
      go_wp2_with (first | (refine wpList_box_v rfl 148 _ rfl [.string N, .int .i64 F, .string B, .int .i64 C, .int .i64 U] rfl ?_; intro b1 w1 hb1 hw1 hB1 V1; obtain ⟨c0, c1, c2, c3, c4⟩ := cells5 V1) | (go_at_call 143; refine (nameRight_any _ _ h1 hN _).mono ?_; rintro e wq ⟨rfl, hq⟩; subst wq) | (clear m1; go_at_call 144; refine (within_is F 0 65535 _ h2.out _).mono ?_; rintro e wq ⟨rfl, hq⟩; subst wq) | (clear m2; go_at_call 144; refine (within_is C 1 1000000 _ h4.out _).mono ?_; rintro e wq ⟨rfl, hq⟩; subst wq) | (clear m3; go_at_call 144; refine (within_is U 0 1000000 _ h5.out _).mono ?_; rintro e wq ⟨rfl, hq⟩; subst wq) | (fail))
      go_ret
      exact ⟨rfl, hB1⟩
  · rw [decide_eq_false h3, Bool.and_false, Bool.false_and, Bool.false_and] at hy2
    cases x1 <;> cases x2
    all_goals
      subst hy2
      go_enter Try.func124, Try.ntmps124
      go_wp2_with (first | (refine wpList_box_v rfl 148 _ rfl [.string N, .int .i64 F, .string B, .int .i64 C, .int .i64 U] rfl ?_; intro b1 w1 hb1 hw1 hB1 V1; obtain ⟨c0, c1, c2, c3, c4⟩ := cells5 V1) | (go_at_call 143; refine (nameRight_any _ _ h1 hN _).mono ?_; rintro e wq ⟨rfl, hq⟩; subst wq) | (go_at_call 144; refine (within_is F 0 65535 _ h2.out _).mono ?_; rintro e wq ⟨rfl, hq⟩; subst wq) | (fail))
      go_ret
      exact ⟨rfl, hB1⟩

theorem implItemOk_any (N B : ByteArray) (F C U : Int) (y : Bool) (hy : Hid (itemB ⟨N, F, B, C, U⟩ = y)) (hN : N.size ≤ 9223372036854775807) (hB : B.size ≤ 9223372036854775807) (w : World) :
    Calls Try.prog 79 #[.agg #[.string N, .int .i64 F, .string B, .int .i64 C, .int .i64 U]] w fun e w' => e = .returned (.bool y) ∧ Below w.heap.size w w' := by
  go_enter Try.func79, Try.ntmps79
  go_wp2_with (first | (refine wpList_box_v rfl 53 _ rfl [.string N, .int .i64 F, .string B, .int .i64 C, .int .i64 U] rfl ?_; intro b1 w1 hb1 hw1 hB1 V1; have hz1 := hB1.size) | (refine wpList_load_r rfl 53 _ rfl b1 0 [.string N, .int .i64 F, .string B, .int .i64 C, .int .i64 U] rfl _ Try.underlying53 rfl sizeIt V1.range ?_) | (go_at_call 123; refine (thingOf_any N B F C U _).mono ?_; rintro e w2 ⟨rfl, hB2⟩; have hz2 := hB2.size) | (go_at_call 124; refine (right_any N B F C U _ hy hN hB _).mono ?_; rintro e w3 ⟨rfl, hB3⟩) | (fail))
  go_ret
  exact ⟨rfl, (hB1.trans (hB2.mono hz1)).trans (hB3.mono (by omega))⟩

theorem implOverAt_any (N B : ByteArray) (F C U now : Int) (y : Bool) (hy : Hid (overB ⟨N, F, B, C, U⟩ now = y)) (w : World) :
    Calls Try.prog 80 #[.agg #[.string N, .int .i64 F, .string B, .int .i64 C, .int .i64 U], .int .i64 now] w fun e w' => e = .returned (.bool y) ∧ Below w.heap.size w w' := by
  have h := hy.out
  clear hy
  unfold overB at h
  by_cases hu : U = 0
  · have hb : (U == 0) = true := by simpa using hu
    have hb' : (U != 0) = false := by simp [hu]
    rw [hb] at h
    clear hu
    subst h
    go_enter Try.func80, Try.ntmps80
    go_wp2_with (first | (refine wpList_box_v rfl 53 _ rfl [.string N, .int .i64 F, .string B, .int .i64 C, .int .i64 U] rfl ?_; intro b1 w1 hb1 hw1 hB1 V1; obtain ⟨c0, c1, c2, c3, c4⟩ := cells5 V1) | (fail))
    go_ret
    exact ⟨rfl, hB1⟩
  · have hb : (U == 0) = false := by simpa using hu
    have hb' : (U != 0) = true := by simp [hu]
    rw [hb] at h
    clear hu
    subst h
    go_enter Try.func80, Try.ntmps80
    go_wp2_with (first | (refine wpList_box_v rfl 53 _ rfl [.string N, .int .i64 F, .string B, .int .i64 C, .int .i64 U] rfl ?_; intro b1 w1 hb1 hw1 hB1 V1; obtain ⟨c0, c1, c2, c3, c4⟩ := cells5 V1) | (fail))
    go_ret
    exact ⟨by simp, hB1⟩
end Go.Proofs.Ytmnjmghlkiljhaa.rg
