/- Mathematics of commands, second part: what a line that is read is shown as; what stands at the head of bytes. -/
import Derived.Test.YtmnjmghlkiljhaaCx1
namespace Go.Proofs.Ytmnjmghlkiljhaa.cm
open Go.RowKit
open Go.Proofs.Ytmnjmghlkiljhaa.rg (nameB nbB nameB_size)
set_option linter.unusedVariables false

theorem list_two {l : List (List UInt8)} (h : 2 ≤ l.length) : ∃ a b r, l = a :: b :: r := by
  match l, h with
  | a :: b :: r, _ => exact ⟨a, b, r, rfl⟩
/-- the numbers of what is built are the numbers -/
theorem build_nums {v : Int} {q : Bool} {nm : ByteArray} {n : List Nat} (hl : n.length = want v) : numsK (build v q nm n) (sizeN v n) = n ∧ (build v q nm n).V = v ∧ (build v q nm n).N = nm ∧ (build v q nm n).Q = q ∧ (build v q nm n).B = emp ∧ (sized v = false → sizeN v n = 0) := by
  unfold want at hl
  unfold build sizeN numsK
  cases hfull : full v with
  | true =>
    have hs : sized v = true := by
      unfold full at hfull
      unfold sized
      simp at hfull ⊢
      omega
    rw [hfull, hs] at hl
    by_cases h8 : v = 8
    · have e8 : sized 8 = true := rfl
      have f8 : full 8 = true := rfl
      simp [h8] at hl
      match n, hl with
      | [a, b, c, d], _ => simp [h8, e8, f8, nth]
    · simp [h8] at hl
      match n, hl with
      | [a, b, c], _ => simp [h8, hs, hfull, nth]
  | false =>
    have h8 : v ≠ 8 := fun e => by rw [e] at hfull; simp [full] at hfull
    cases hs : sized v with
    | true =>
      rw [hfull, hs] at hl
      simp [h8] at hl
      match n, hl with
      | [a], _ => simp [h8, hs, hfull]
    | false =>
      by_cases h11 : v = 11
      · have e11 : sized 11 = false := rfl
        have f11 : full 11 = false := rfl
        rw [hfull, hs] at hl
        simp [h11] at hl
        match n, hl with
        | [a], _ => simp [h11, e11, f11, nth]
      · cases hst : stepV v with
        | true =>
          rw [hfull, hs, hst] at hl
          simp [h8, h11] at hl
          match n, hl with
          | [a], _ => simp [h8, h11, hs, hfull, hst, nth]
        | false =>
          rw [hfull, hs, hst] at hl
          simp [h8, h11] at hl
          rw [hl]
          simp [h8, h11, hs, hfull, hst]
/-- a line that is read is what it is shown as -/
theorem line_is {v : Int} {w : List (List UInt8)} {c : Cm} {k : Nat} (h : lineL v w = some (c, k)) (hw : w.head? = some (vw v)) : COk c ∧ c.V = v ∧ c.B = emp ∧ k ≤ 64 ∧ (sized v = false → k = 0) ∧ wordsK c k = w := by
  unfold lineL at h
  split at h
  · cases h
  · rename_i hn
    split at h
    · rename_i hy
      simp only [Option.some.injEq, Prod.mk.injEq] at h
      obtain ⟨hc, hk⟩ := h
      simp only [not_or, Classical.not_not, ne_eq] at hn
      obtain ⟨h1, h2, h3⟩ := hn
      obtain ⟨b1, b2, b3, b4, b5, b6⟩ := build_nums (v := v) (q := quietB v w) (nm := nameW v (plainW v w)) (n := (restW v (plainW v w)).map (val 0)) (by rw [List.length_map]; exact h3)
      rw [hc, hk] at b1
      rw [hc] at b2 b3 b4 b5
      rw [hk] at b6
      rw [hc, hk] at hy
      refine ⟨hy.2, b2, b5, hy.1, b6, ?_⟩
      have hd := map_digs h2
      unfold wordsK
      rw [b1, b2, b3, b4, hd]
      have hpl : vw v :: (if v = 13 then [] else [bs (nameW v (plainW v w))]) ++ restW v (plainW v w) = plainW v w := by
        have hhead : (plainW v w).head? = some (vw v) := by
          unfold plainW
          split
          · rename_i hq
            unfold quietB at hq
            simp only [Bool.and_eq_true, decide_eq_true_eq] at hq
            match w, hw, hq with
            | a :: b :: r, hw, _ => simpa using hw
          · exact hw
        unfold nameW restW
        by_cases h13 : v = 13
        · cases hp : plainW v w with
          | nil => rw [hp] at hhead; simp at hhead
          | cons a r =>
            rw [hp] at hhead
            have ha : a = vw v := by simpa using hhead
            simp [h13, ha]
        · obtain ⟨a, b, r, hp⟩ := list_two (l := plainW v w) (Nat.le_of_not_lt fun q => h1 ⟨h13, q⟩)
          rw [hp] at hhead ⊢
          have ha : a = vw v := by simpa using hhead
          simp [h13, ha, bs_tx]
      rw [hpl]
      unfold plainW
      cases hq : quietB v w with
      | false => simp
      | true =>
        simp only [if_true]
        unfold quietB at hq
        simp only [Bool.and_eq_true, decide_eq_true_eq, beq_iff_eq] at hq
        have hne : w ≠ [] := fun e => by rw [e] at hw; simp at hw
        have hl : w.getLast hne = quiet := by
          have := hq.1.1.2
          rw [List.getLast?_eq_some_getLast hne] at this
          simpa using this
        rw [← hl, List.dropLast_concat_getLast]
    · cases h

/-! ### what stands at the head -/
/-- the number of a verb's word; 0: it is none -/
def verbOf (w : List UInt8) : Int := ((verbs.findIdx? (· == w)).map fun i => (i : Int) + 1).getD 0
theorem verbOf_pos {w : List UInt8} (h : verbOf w ≠ 0) : 1 ≤ verbOf w ∧ verbOf w ≤ 13 ∧ vw (verbOf w) = w := by
  unfold verbOf at h ⊢
  cases e : verbs.findIdx? (· == w) with
  | none => rw [e] at h; simp at h
  | some i =>
    obtain ⟨hi, h2, -⟩ := List.findIdx?_eq_some_iff_getElem.1 e
    have hi' : i < 13 := hi
    refine ⟨by simp; omega, by simp; omega, ?_⟩
    show (verbs[(((i : Int) + 1) - 1).toNat]?).getD [] = w
    rw [Int.add_sub_cancel, Int.toNat_natCast, List.getElem?_eq_getElem hi]
    simpa using h2
theorem verbOf_vw {v : Int} (h0 : 1 ≤ v) (h1 : v ≤ 13) : verbOf (vw v) = v := by
  rcases verb_cases h0 h1 with rfl | rfl | rfl | rfl | rfl | rfl | rfl | rfl | rfl | rfl | rfl | rfl | rfl <;> decide
/-- the line that stands at the head -/
def lineOf (t : List UInt8) : List UInt8 := t.takeWhile fun c => c != 10
noncomputable def cmdOf (t : List UInt8) : Cm × Nat × Int :=
  if 100 < (lineOf t).length then (Cm.zero, 101, 3)
  else if (lineOf t).length = t.length then (Cm.zero, 0, 1)
  else if verbOf ((splitL 32 (lineOf t)).headD []) = 0 then (Cm.zero, (lineOf t).length + 1, 2)
  else match lineL (verbOf ((splitL 32 (lineOf t)).headD [])) (splitL 32 (lineOf t)) with
    | none => (Cm.zero, (lineOf t).length + 1, 3)
    | some (c, k) =>
      if sized c.V = false then (c, (lineOf t).length + 1, 0)
      else if t.length ≤ (lineOf t).length + 1 + k then (Cm.zero, 0, 1)
      else if t[(lineOf t).length + 1 + k]? ≠ some 10 then (Cm.zero, (lineOf t).length + 1, 3)
      else (⟨c.V, c.N, c.F, c.U, tx ((t.drop ((lineOf t).length + 1)).take k), c.C, c.D, c.Q⟩, (lineOf t).length + 1 + k + 1, 0)

theorem lineOf_le (t : List UInt8) : (lineOf t).length ≤ t.length := (List.takeWhile_sublist _).length_le
theorem lineOf_no (t : List UInt8) : 10 ∉ lineOf t := fun h => by
  have := List.all_eq_true.1 (List.all_takeWhile (p := fun c => c != 10) (l := t)) 10 h
  simp at this
/-- behind the line stands a byte 10, or nothing -/
theorem lineOf_end {t : List UInt8} (h : (lineOf t).length ≠ t.length) : ∃ u, t = lineOf t ++ 10 :: u := by
  have e : lineOf t ++ t.dropWhile (fun c => c != 10) = t := List.takeWhile_append_dropWhile
  cases hd : t.dropWhile (fun c => c != 10) with
  | nil => rw [hd, List.append_nil] at e; exact absurd (congrArg List.length e) h
  | cons c r =>
    have hc : (c != 10) = false := by
      have := List.head?_dropWhile_not (fun c => c != 10) t
      rw [hd] at this
      simpa using this
    have : c = 10 := by simpa using hc
    rw [hd, this] at e
    exact ⟨r, e.symm⟩
theorem lineOf_app {l : List UInt8} (h : 10 ∉ l) (u : List UInt8) : lineOf (l ++ 10 :: u) = l := by
  unfold lineOf
  rw [List.takeWhile_append_of_pos (fun c hc => by simp; intro e; rw [e] at hc; exact h hc)]
  simp
theorem lineOf_all : ∀ {l : List UInt8}, 10 ∉ l → lineOf l = l
  | [], _ => rfl
  | c :: r, h => by
    simp only [List.mem_cons, not_or] at h
    have hc : (c != 10) = true := by simp; exact fun e => h.1 e.symm
    have := lineOf_all h.2
    unfold lineOf at this ⊢
    rw [List.takeWhile_cons, hc, if_pos rfl, this]
/-- a line of at most a hundred bytes -/
theorem cmd_long {t : List UInt8} (h : 100 < (lineOf t).length) : cmdOf t = (Cm.zero, 101, 3) := by unfold cmdOf; rw [if_pos h]
theorem cmd_more {t : List UInt8} (h : ¬ 100 < (lineOf t).length) (h2 : (lineOf t).length = t.length) : cmdOf t = (Cm.zero, 0, 1) := by unfold cmdOf; rw [if_neg h, if_pos h2]
/-- what is told of a whole line l and what stands behind it -/
noncomputable def cmdLine (l u : List UInt8) : Cm × Nat × Int :=
  if verbOf ((splitL 32 l).headD []) = 0 then (Cm.zero, l.length + 1, 2)
  else match lineL (verbOf ((splitL 32 l).headD [])) (splitL 32 l) with
    | none => (Cm.zero, l.length + 1, 3)
    | some (c, k) =>
      if sized c.V = false then (c, l.length + 1, 0)
      else if u.length ≤ k then (Cm.zero, 0, 1)
      else if u[k]? ≠ some 10 then (Cm.zero, l.length + 1, 3)
      else (⟨c.V, c.N, c.F, c.U, tx (u.take k), c.C, c.D, c.Q⟩, l.length + 1 + k + 1, 0)
theorem cmd_line {l u : List UInt8} (h : 10 ∉ l) (hl : l.length ≤ 100) : cmdOf (l ++ 10 :: u) = cmdLine l u := by
  unfold cmdOf cmdLine
  rw [lineOf_app h, if_neg (by omega), if_neg (by simp)]
  split
  · rfl
  · split
    · rfl
    · rename_i c k e
      have e1 : ((l ++ 10 :: u).length ≤ l.length + 1 + k) = (u.length ≤ k) := by simp only [List.length_append, List.length_cons, eq_iff_iff]; omega
      have e2 : (l ++ 10 :: u)[l.length + 1 + k]? = u[k]? := by
        rw [List.getElem?_append_right (by omega), show l.length + 1 + k - l.length = k + 1 by omega, List.getElem?_cons_succ]
      have e3 : (l ++ 10 :: u).drop (l.length + 1) = u := by
        rw [List.drop_append, List.drop_eq_nil_of_le (by omega), show l.length + 1 - l.length = 1 by omega]
        rfl
      simp only [e1, e2, e3]
/-- bytes: a line that is too long, a line that does not end, or a line and what stands behind it -/
theorem cmd_cases (t : List UInt8) : (100 < (lineOf t).length ∧ cmdOf t = (Cm.zero, 101, 3)) ∨ (10 ∉ t ∧ t.length ≤ 100 ∧ cmdOf t = (Cm.zero, 0, 1)) ∨ ∃ l u, t = l ++ 10 :: u ∧ 10 ∉ l ∧ l.length ≤ 100 ∧ cmdOf t = cmdLine l u := by
  by_cases h : 100 < (lineOf t).length
  · exact .inl ⟨h, cmd_long h⟩
  · by_cases h2 : (lineOf t).length = t.length
    · have e : lineOf t = t := (List.takeWhile_sublist _).eq_of_length h2
      refine .inr (.inl ⟨e ▸ lineOf_no t, by omega, cmd_more h h2⟩)
    · obtain ⟨u, hu⟩ := lineOf_end h2
      refine .inr (.inr ⟨lineOf t, u, hu, lineOf_no t, by omega, ?_⟩)
      conv => lhs; rw [hu]
      exact cmd_line (lineOf_no t) (by omega)
/-- what is told of a line, one of four ways -/
inductive Told (l u : List UInt8) : Cm × Nat × Int → Prop
  | bad (k : Int) (h : k = 2 ∨ k = 3) : Told l u (Cm.zero, l.length + 1, k)
  | more (c : Cm) (k : Nat) (hc : COk c) (hb : c.B = emp) (hw : wordsL (wordsK c k) = l) (hs : sized c.V = true) (h : u.length ≤ k) (hk : k ≤ 64) : Told l u (Cm.zero, 0, 1)
  | plain (c : Cm) (hc : COk c) (hw : showL c = l ++ [10]) : Told l u (c, l.length + 1, 0)
  | bytes (c : Cm) (r : List UInt8) (hc : COk c) (hu : u = bs c.B ++ 10 :: r) (hw : showL c = l ++ 10 :: (bs c.B ++ [10])) : Told l u (c, (l.length + 1 + c.B.size) + 1, 0)
theorem told (l u : List UInt8) : Told l u (cmdLine l u) := by
  unfold cmdLine
  split
  · exact .bad 2 (.inl rfl)
  · rename_i hv
    obtain ⟨v0, v1, vv⟩ := verbOf_pos hv
    split
    · exact .bad 3 (.inr rfl)
    · rename_i c k e
      have hh : (splitL 32 l).head? = some (vw (verbOf ((splitL 32 l).headD []))) := by
        rw [vv]
        cases hs : splitL 32 l with
        | nil => exact absurd hs (splitL_ne _ _)
        | cons a r => rfl
      obtain ⟨b1, b2, b3, b4, b5, b6⟩ := line_is e hh
      rw [← b2] at b5
      have hl : wordsL (wordsK c k) = l := by rw [b6]; exact words_split l
      split
      · rename_i hs
        refine .plain c b1 ?_
        have hk := b5 hs
        unfold showL lineK
        rw [hs, b3, show emp.size = 0 from rfl, ← hk, hl]
        rfl
      · rename_i hs
        replace hs : sized c.V = true := by simpa using hs
        split
        · rename_i h
          exact .more c k b1 b3 hl hs h b4
        · rename_i h
          split
          · exact .bad 3 (.inr rfl)
          · rename_i h10
            have hk : (u.take k).length = k := by rw [List.length_take]; omega
            have h10' : u[k]? = some 10 := Classical.byContradiction h10
            have ok : COk ⟨c.V, c.N, c.F, c.U, tx (u.take k), c.C, c.D, c.Q⟩ := ⟨b1.v0, b1.v1, b1.q, b1.n0, b1.nm, b1.f, b1.u, fun q => (by rw [show sized c.V = false from q] at hs; exact absurd hs (by decide)), b1.c8, b1.d, b1.c1, b1.f1, b1.u1, by show (tx (u.take k)).size ≤ 64; rw [tx_size, hk]; exact b4, b1.d1⟩
            have hu : u = u.take k ++ 10 :: u.drop (k + 1) := by
              obtain ⟨hlt, h11⟩ := List.getElem?_eq_some_iff.1 h10'
              rw [← h11]
              simp
            have hsz : (tx (u.take k)).size = k := by rw [tx_size, hk]
            have := Told.bytes (l := l) (u := u) ⟨c.V, c.N, c.F, c.U, tx (u.take k), c.C, c.D, c.Q⟩ (u.drop (k + 1)) ok (by show u = bs (tx (u.take k)) ++ _; rw [bs_tx]; exact hu) (by
              show lineK _ (tx (u.take k)).size ++ 10 :: (if sized c.V then bs (tx (u.take k)) ++ [10] else []) = l ++ 10 :: (bs (tx (u.take k)) ++ [10])
              rw [hsz, hs, if_pos rfl]
              congr 1)
            dsimp only at this
            rw [hsz] at this
            exact this
end Go.Proofs.Ytmnjmghlkiljhaa.cm
