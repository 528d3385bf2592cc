/- Texts laid together: Cx2 Cx3 Cy0 Ro3 Rs1 Rs2 Cy1. -/
import Derived.Test.YtaabmkhckbndgaaGreatDoorMg00
import Derived.Deep.LoopGhost
/- Mathematics of commands, second part: what a line that is read is shown as; what stands at the head of bytes. -/
namespace Go.Proofs.YtaabmkhckbndgaaGreatDoor.cm
open Go.RowKit
open Go.Proofs.YtaabmkhckbndgaaGreatDoor.rg (nameB nbB nameB_size)
set_option linter.unusedVariables false

theorem list_two {l : List (List UInt8)} (h : 2 ≤ l.length) : ∃ a b r, l = a :: b :: r := by
  match l, h with
  | a :: b :: r, _ => exact ⟨a, b, r, rfl⟩
/-- the numbers of what is built are the numbers -/
theorem build_nums {v : Int} {q : Bool} {nm : ByteArray} {n : List Nat} (hl : n.length = want v) : numsK (build v q nm n) (sizeN v n) = n ∧ (build v q nm n).V = v ∧ (build v q nm n).N = nm ∧ (build v q nm n).Q = q ∧ (build v q nm n).B = emp ∧ (sized v = false → sizeN v n = 0) := by
  unfold want at hl
  unfold build sizeN numsK
  cases hfull : full v with
  | true =>
    have hs : sized v = true := by
      unfold full at hfull
      unfold sized
      simp at hfull ⊢
      omega
    rw [hfull, hs] at hl
    by_cases h8 : v = 8
    · have e8 : sized 8 = true := rfl
      have f8 : full 8 = true := rfl
      simp [h8] at hl
      match n, hl with
      | [a, b, c, d], _ => simp [h8, e8, f8, nth]
    · simp [h8] at hl
      match n, hl with
      | [a, b, c], _ => simp [h8, hs, hfull, nth]
  | false =>
    have h8 : v ≠ 8 := fun e => by rw [e] at hfull; simp [full] at hfull
    cases hs : sized v with
    | true =>
      rw [hfull, hs] at hl
      simp [h8] at hl
      match n, hl with
      | [a], _ => simp [h8, hs, hfull]
    | false =>
      by_cases h11 : v = 11
      · have e11 : sized 11 = false := rfl
        have f11 : full 11 = false := rfl
        rw [hfull, hs] at hl
        simp [h11] at hl
        match n, hl with
        | [a], _ => simp [h11, e11, f11, nth]
      · cases hst : stepV v with
        | true =>
          rw [hfull, hs, hst] at hl
          simp [h8, h11] at hl
          match n, hl with
          | [a], _ => simp [h8, h11, hs, hfull, hst, nth]
        | false =>
          rw [hfull, hs, hst] at hl
          simp [h8, h11] at hl
          rw [hl]
          simp [h8, h11, hs, hfull, hst]
/-- a line that is read is what it is shown as -/
theorem line_is {v : Int} {w : List (List UInt8)} {c : Cm} {k : Nat} (h : lineL v w = some (c, k)) (hw : w.head? = some (vw v)) : COk c ∧ c.V = v ∧ c.B = emp ∧ k ≤ 64 ∧ (sized v = false → k = 0) ∧ wordsK c k = w := by
  unfold lineL at h
  split at h
  · cases h
  · rename_i hn
    split at h
    · rename_i hy
      simp only [Option.some.injEq, Prod.mk.injEq] at h
      obtain ⟨hc, hk⟩ := h
      simp only [not_or, Classical.not_not, ne_eq] at hn
      obtain ⟨h1, h2, h3⟩ := hn
      obtain ⟨b1, b2, b3, b4, b5, b6⟩ := build_nums (v := v) (q := quietB v w) (nm := nameW v (plainW v w)) (n := (restW v (plainW v w)).map (val 0)) (by rw [List.length_map]; exact h3)
      rw [hc, hk] at b1
      rw [hc] at b2 b3 b4 b5
      rw [hk] at b6
      rw [hc, hk] at hy
      refine ⟨hy.2, b2, b5, hy.1, b6, ?_⟩
      have hd := map_digs h2
      unfold wordsK
      rw [b1, b2, b3, b4, hd]
      have hpl : vw v :: (if v = 13 then [] else [bs (nameW v (plainW v w))]) ++ restW v (plainW v w) = plainW v w := by
        have hhead : (plainW v w).head? = some (vw v) := by
          unfold plainW
          split
          · rename_i hq
            unfold quietB at hq
            simp only [Bool.and_eq_true, decide_eq_true_eq] at hq
            match w, hw, hq with
            | a :: b :: r, hw, _ => simpa using hw
          · exact hw
        unfold nameW restW
        by_cases h13 : v = 13
        · cases hp : plainW v w with
          | nil => rw [hp] at hhead; simp at hhead
          | cons a r =>
            rw [hp] at hhead
            have ha : a = vw v := by simpa using hhead
            simp [h13, ha]
        · obtain ⟨a, b, r, hp⟩ := list_two (l := plainW v w) (Nat.le_of_not_lt fun q => h1 ⟨h13, q⟩)
          rw [hp] at hhead ⊢
          have ha : a = vw v := by simpa using hhead
          simp [h13, ha, bs_tx]
      rw [hpl]
      unfold plainW
      cases hq : quietB v w with
      | false => simp
      | true =>
        simp only [if_true]
        unfold quietB at hq
        simp only [Bool.and_eq_true, decide_eq_true_eq, beq_iff_eq] at hq
        have hne : w ≠ [] := fun e => by rw [e] at hw; simp at hw
        have hl : w.getLast hne = quiet := by
          have := hq.1.1.2
          rw [List.getLast?_eq_some_getLast hne] at this
          simpa using this
        rw [← hl, List.dropLast_concat_getLast]
    · cases h

/-! ### what stands at the head -/
/-- the number of a verb's word; 0: it is none -/
def verbOf (w : List UInt8) : Int := ((verbs.findIdx? (· == w)).map fun i => (i : Int) + 1).getD 0
theorem verbOf_pos {w : List UInt8} (h : verbOf w ≠ 0) : 1 ≤ verbOf w ∧ verbOf w ≤ 13 ∧ vw (verbOf w) = w := by
  unfold verbOf at h ⊢
  cases e : verbs.findIdx? (· == w) with
  | none => rw [e] at h; simp at h
  | some i =>
    obtain ⟨hi, h2, -⟩ := List.findIdx?_eq_some_iff_getElem.1 e
    have hi' : i < 13 := hi
    refine ⟨by simp; omega, by simp; omega, ?_⟩
    show (verbs[(((i : Int) + 1) - 1).toNat]?).getD [] = w
    rw [Int.add_sub_cancel, Int.toNat_natCast, List.getElem?_eq_getElem hi]
    simpa using h2
theorem verbOf_vw {v : Int} (h0 : 1 ≤ v) (h1 : v ≤ 13) : verbOf (vw v) = v := by
  rcases verb_cases h0 h1 with rfl | rfl | rfl | rfl | rfl | rfl | rfl | rfl | rfl | rfl | rfl | rfl | rfl <;> decide
/-- the line that stands at the head -/
def lineOf (t : List UInt8) : List UInt8 := t.takeWhile fun c => c != 10
noncomputable def cmdOf (t : List UInt8) : Cm × Nat × Int :=
  if 100 < (lineOf t).length then (Cm.zero, 101, 3)
  else if (lineOf t).length = t.length then (Cm.zero, 0, 1)
  else if verbOf ((splitL 32 (lineOf t)).headD []) = 0 then (Cm.zero, (lineOf t).length + 1, 2)
  else match lineL (verbOf ((splitL 32 (lineOf t)).headD [])) (splitL 32 (lineOf t)) with
    | none => (Cm.zero, (lineOf t).length + 1, 3)
    | some (c, k) =>
      if sized c.V = false then (c, (lineOf t).length + 1, 0)
      else if t.length ≤ (lineOf t).length + 1 + k then (Cm.zero, 0, 1)
      else if t[(lineOf t).length + 1 + k]? ≠ some 10 then (Cm.zero, (lineOf t).length + 1, 3)
      else (⟨c.V, c.N, c.F, c.U, tx ((t.drop ((lineOf t).length + 1)).take k), c.C, c.D, c.Q⟩, (lineOf t).length + 1 + k + 1, 0)

theorem lineOf_le (t : List UInt8) : (lineOf t).length ≤ t.length := (List.takeWhile_sublist _).length_le
theorem lineOf_no (t : List UInt8) : 10 ∉ lineOf t := fun h => by
  have := List.all_eq_true.1 (List.all_takeWhile (p := fun c => c != 10) (l := t)) 10 h
  simp at this
/-- behind the line stands a byte 10, or nothing -/
theorem lineOf_end {t : List UInt8} (h : (lineOf t).length ≠ t.length) : ∃ u, t = lineOf t ++ 10 :: u := by
  have e : lineOf t ++ t.dropWhile (fun c => c != 10) = t := List.takeWhile_append_dropWhile
  cases hd : t.dropWhile (fun c => c != 10) with
  | nil => rw [hd, List.append_nil] at e; exact absurd (congrArg List.length e) h
  | cons c r =>
    have hc : (c != 10) = false := by
      have := List.head?_dropWhile_not (fun c => c != 10) t
      rw [hd] at this
      simpa using this
    have : c = 10 := by simpa using hc
    rw [hd, this] at e
    exact ⟨r, e.symm⟩
theorem lineOf_app {l : List UInt8} (h : 10 ∉ l) (u : List UInt8) : lineOf (l ++ 10 :: u) = l := by
  unfold lineOf
  rw [List.takeWhile_append_of_pos (fun c hc => by simp; intro e; rw [e] at hc; exact h hc)]
  simp
theorem lineOf_all : ∀ {l : List UInt8}, 10 ∉ l → lineOf l = l
  | [], _ => rfl
  | c :: r, h => by
    simp only [List.mem_cons, not_or] at h
    have hc : (c != 10) = true := by simp; exact fun e => h.1 e.symm
    have := lineOf_all h.2
    unfold lineOf at this ⊢
    rw [List.takeWhile_cons, hc, if_pos rfl, this]
/-- a line of at most a hundred bytes -/
theorem cmd_long {t : List UInt8} (h : 100 < (lineOf t).length) : cmdOf t = (Cm.zero, 101, 3) := by unfold cmdOf; rw [if_pos h]
theorem cmd_more {t : List UInt8} (h : ¬ 100 < (lineOf t).length) (h2 : (lineOf t).length = t.length) : cmdOf t = (Cm.zero, 0, 1) := by unfold cmdOf; rw [if_neg h, if_pos h2]
/-- what is told of a whole line l and what stands behind it -/
noncomputable def cmdLine (l u : List UInt8) : Cm × Nat × Int :=
  if verbOf ((splitL 32 l).headD []) = 0 then (Cm.zero, l.length + 1, 2)
  else match lineL (verbOf ((splitL 32 l).headD [])) (splitL 32 l) with
    | none => (Cm.zero, l.length + 1, 3)
    | some (c, k) =>
      if sized c.V = false then (c, l.length + 1, 0)
      else if u.length ≤ k then (Cm.zero, 0, 1)
      else if u[k]? ≠ some 10 then (Cm.zero, l.length + 1, 3)
      else (⟨c.V, c.N, c.F, c.U, tx (u.take k), c.C, c.D, c.Q⟩, l.length + 1 + k + 1, 0)
theorem cmd_line {l u : List UInt8} (h : 10 ∉ l) (hl : l.length ≤ 100) : cmdOf (l ++ 10 :: u) = cmdLine l u := by
  unfold cmdOf cmdLine
  rw [lineOf_app h, if_neg (by omega), if_neg (by simp)]
  split
  · rfl
  · split
    · rfl
    · rename_i c k e
      have e1 : ((l ++ 10 :: u).length ≤ l.length + 1 + k) = (u.length ≤ k) := by simp only [List.length_append, List.length_cons, eq_iff_iff]; omega
      have e2 : (l ++ 10 :: u)[l.length + 1 + k]? = u[k]? := by
        rw [List.getElem?_append_right (by omega), show l.length + 1 + k - l.length = k + 1 by omega, List.getElem?_cons_succ]
      have e3 : (l ++ 10 :: u).drop (l.length + 1) = u := by
        rw [List.drop_append, List.drop_eq_nil_of_le (by omega), show l.length + 1 - l.length = 1 by omega]
        rfl
      simp only [e1, e2, e3]
/-- bytes: a line that is too long, a line that does not end, or a line and what stands behind it -/
theorem cmd_cases (t : List UInt8) : (100 < (lineOf t).length ∧ cmdOf t = (Cm.zero, 101, 3)) ∨ (10 ∉ t ∧ t.length ≤ 100 ∧ cmdOf t = (Cm.zero, 0, 1)) ∨ ∃ l u, t = l ++ 10 :: u ∧ 10 ∉ l ∧ l.length ≤ 100 ∧ cmdOf t = cmdLine l u := by
  by_cases h : 100 < (lineOf t).length
  · exact .inl ⟨h, cmd_long h⟩
  · by_cases h2 : (lineOf t).length = t.length
    · have e : lineOf t = t := (List.takeWhile_sublist _).eq_of_length h2
      refine .inr (.inl ⟨e ▸ lineOf_no t, by omega, cmd_more h h2⟩)
    · obtain ⟨u, hu⟩ := lineOf_end h2
      refine .inr (.inr ⟨lineOf t, u, hu, lineOf_no t, by omega, ?_⟩)
      conv => lhs; rw [hu]
      exact cmd_line (lineOf_no t) (by omega)
/-- what is told of a line, one of four ways -/
inductive Told (l u : List UInt8) : Cm × Nat × Int → Prop
  | bad (k : Int) (h : k = 2 ∨ k = 3) : Told l u (Cm.zero, l.length + 1, k)
  | more (c : Cm) (k : Nat) (hc : COk c) (hb : c.B = emp) (hw : wordsL (wordsK c k) = l) (hs : sized c.V = true) (h : u.length ≤ k) (hk : k ≤ 64) : Told l u (Cm.zero, 0, 1)
  | plain (c : Cm) (hc : COk c) (hw : showL c = l ++ [10]) : Told l u (c, l.length + 1, 0)
  | bytes (c : Cm) (r : List UInt8) (hc : COk c) (hu : u = bs c.B ++ 10 :: r) (hw : showL c = l ++ 10 :: (bs c.B ++ [10])) : Told l u (c, (l.length + 1 + c.B.size) + 1, 0)
theorem told (l u : List UInt8) : Told l u (cmdLine l u) := by
  unfold cmdLine
  split
  · exact .bad 2 (.inl rfl)
  · rename_i hv
    obtain ⟨v0, v1, vv⟩ := verbOf_pos hv
    split
    · exact .bad 3 (.inr rfl)
    · rename_i c k e
      have hh : (splitL 32 l).head? = some (vw (verbOf ((splitL 32 l).headD []))) := by
        rw [vv]
        cases hs : splitL 32 l with
        | nil => exact absurd hs (splitL_ne _ _)
        | cons a r => rfl
      obtain ⟨b1, b2, b3, b4, b5, b6⟩ := line_is e hh
      rw [← b2] at b5
      have hl : wordsL (wordsK c k) = l := by rw [b6]; exact words_split l
      split
      · rename_i hs
        refine .plain c b1 ?_
        have hk := b5 hs
        unfold showL lineK
        rw [hs, b3, show emp.size = 0 from rfl, ← hk, hl]
        rfl
      · rename_i hs
        replace hs : sized c.V = true := by simpa using hs
        split
        · rename_i h
          exact .more c k b1 b3 hl hs h b4
        · rename_i h
          split
          · exact .bad 3 (.inr rfl)
          · rename_i h10
            have hk : (u.take k).length = k := by rw [List.length_take]; omega
            have h10' : u[k]? = some 10 := Classical.byContradiction h10
            have ok : COk ⟨c.V, c.N, c.F, c.U, tx (u.take k), c.C, c.D, c.Q⟩ := ⟨b1.v0, b1.v1, b1.q, b1.n0, b1.nm, b1.f, b1.u, fun q => (by rw [show sized c.V = false from q] at hs; exact absurd hs (by decide)), b1.c8, b1.d, b1.c1, b1.f1, b1.u1, by show (tx (u.take k)).size ≤ 64; rw [tx_size, hk]; exact b4, b1.d1⟩
            have hu : u = u.take k ++ 10 :: u.drop (k + 1) := by
              obtain ⟨hlt, h11⟩ := List.getElem?_eq_some_iff.1 h10'
              rw [← h11]
              simp
            have hsz : (tx (u.take k)).size = k := by rw [tx_size, hk]
            have := Told.bytes (l := l) (u := u) ⟨c.V, c.N, c.F, c.U, tx (u.take k), c.C, c.D, c.Q⟩ (u.drop (k + 1)) ok (by show u = bs (tx (u.take k)) ++ _; rw [bs_tx]; exact hu) (by
              show lineK _ (tx (u.take k)).size ++ 10 :: (if sized c.V then bs (tx (u.take k)) ++ [10] else []) = l ++ 10 :: (bs (tx (u.take k)) ++ [10])
              rw [hsz, hs, if_pos rfl]
              congr 1)
            dsimp only at this
            rw [hsz] at this
            exact this
end Go.Proofs.YtaabmkhckbndgaaGreatDoor.cm
/- Mathematics of commands, third part: what the laws FnCmds and FnCut say. -/
namespace Go.Proofs.YtaabmkhckbndgaaGreatDoor.cm
open Go.RowKit
open Go.Proofs.YtaabmkhckbndgaaGreatDoor.rg (nameB nbB nameB_size)
set_option linter.unusedVariables false

/-- what stands there is shown as it stands -/
theorem cmd_sound {t : List UInt8} {c : Cm} {m : Nat} (h : cmdOf t = (c, m, 0)) : COk c ∧ showL c = t.take m ∧ 1 ≤ m ∧ m ≤ t.length := by
  rcases cmd_cases t with ⟨-, e⟩ | ⟨-, -, e⟩ | ⟨l, u, ht, -, -, e⟩
  · rw [e] at h; simp at h
  · rw [e] at h; simp at h
  · rw [e] at h
    have ho := told l u
    rw [h] at ho
    cases ho with
    | bad k hk => omega
    | plain c hc hw =>
      refine ⟨hc, ?_, by omega, by rw [ht]; simp⟩
      rw [hw, ht, List.take_append, List.take_of_length_le (by omega), show l.length + 1 - l.length = 1 by omega]
      rfl
    | bytes c r hc hu hw =>
      refine ⟨hc, ?_, by omega, by rw [ht, hu]; simp [bs_len]; omega⟩
      have e2 : t = (l ++ 10 :: (bs c.B ++ [10])) ++ r := by rw [ht, hu]; simp
      have hl : (l ++ 10 :: (bs c.B ++ [10])).length = l.length + 1 + c.B.size + 1 := by simp [bs_len]; omega
      rw [hw, e2, ← hl, List.take_left]
/-- the codes -/
theorem cmd_codes {t : List UInt8} {c : Cm} {m : Nat} {k : Int} (h : cmdOf t = (c, m, k)) : (k = 0 ∨ k = 1 ∨ k = 2 ∨ k = 3) ∧ (k ≠ 0 → c = Cm.zero) ∧ (k = 1 → m = 0) ∧ (k ≠ 1 → 1 ≤ m ∧ m ≤ t.length) := by
  by_cases h0 : k = 0
  · rw [h0] at h
    obtain ⟨-, -, h1, h2⟩ := cmd_sound h
    exact ⟨.inl h0, fun q => absurd h0 q, fun q => by omega, fun _ => ⟨h1, h2⟩⟩
  · rcases cmd_cases t with ⟨hl, e⟩ | ⟨-, -, e⟩ | ⟨l, u, ht, -, -, e⟩
    · rw [e] at h
      simp only [Prod.mk.injEq] at h
      have := lineOf_le t
      exact ⟨by omega, fun _ => h.1.symm, fun q => by omega, fun _ => by omega⟩
    · rw [e] at h
      simp only [Prod.mk.injEq] at h
      exact ⟨by omega, fun _ => h.1.symm, fun q => by omega, fun q => absurd h.2.2.symm q⟩
    · rw [e] at h
      have ho := told l u
      rw [h] at ho
      cases ho with
      | bad k hk => exact ⟨by omega, fun _ => rfl, fun q => by omega, fun _ => ⟨by omega, by rw [ht]; simp⟩⟩
      | more c k hc hb hw hs h1 h2 => exact ⟨by omega, fun _ => rfl, fun _ => rfl, fun q => absurd rfl q⟩
      | plain c hc hw => exact absurd rfl h0
      | bytes c r hc hu hw => exact absurd rfl h0

/-! ### what is shown is read -/
theorem name_bytes {s : ByteArray} (h : nameB s = true) {c : UInt8} (hc : c ∈ bs s) : c ≠ 32 ∧ c ≠ 10 := by
  unfold nameB at h
  simp only [Bool.and_eq_true, List.all_eq_true] at h
  have h1 := h.1 c hc
  constructor
  · intro e; rw [e] at h1; exact absurd h1 (by decide)
  · intro e; rw [e] at h1; exact absurd h1 (by decide)
theorem digs_bytes {n : Nat} {c : UInt8} (hc : c ∈ digs n) : c ≠ 32 ∧ c ≠ 10 := by
  have h1 := digs_all n c hc
  constructor
  · intro e; rw [e] at h1; exact absurd h1 (by decide)
  · intro e; rw [e] at h1; exact absurd h1 (by decide)
theorem vw_ok {v : Int} (h0 : 1 ≤ v) (h1 : v ≤ 13) : (∀ c ∈ vw v, c ≠ 32 ∧ c ≠ 10) ∧ (vw v).length ≤ 12 := by
  rcases verb_cases h0 h1 with rfl | rfl | rfl | rfl | rfl | rfl | rfl | rfl | rfl | rfl | rfl | rfl | rfl <;> decide
theorem words_ok {c : Cm} (h : COk c) {k : Nat} (hk : k ≤ 64) : ∀ w ∈ wordsK c k, (∀ x ∈ w, x ≠ 32 ∧ x ≠ 10) ∧ w.length ≤ 12 := by
  intro w hw
  unfold wordsK at hw
  rcases List.mem_append.1 hw with hw | hw
  · rcases List.mem_append.1 hw with hw | hw
    · rcases List.mem_cons.1 hw with rfl | hw
      · exact vw_ok h.v0 h.v1
      · split at hw
        · simp at hw
        · rename_i h13
          rw [List.mem_singleton.1 hw]
          exact ⟨fun x hx => name_bytes (h.nm h13) hx, by rw [bs_len]; exact (nameB_size (h.nm h13)).2⟩
    · obtain ⟨n, hn, rfl⟩ := List.mem_map.1 hw
      have := nums_small h hk n hn
      exact ⟨fun x hx => digs_bytes hx, Nat.le_trans (digs_len 6 n (by omega)) (by omega)⟩
  · split at hw
    · rw [List.mem_singleton.1 hw]
      decide
    · simp at hw
theorem want_le (v : Int) : want v ≤ 4 := by
  unfold want
  split <;> split <;> split <;> omega
theorem words_len (c : Cm) (k : Nat) : (wordsK c k).length ≤ 7 := by
  rw [words_core, List.length_append, core_len]
  have := want_le c.V
  split <;> split <;> simp <;> omega
theorem line_ok {c : Cm} (h : COk c) {k : Nat} (hk : k ≤ 64) : 10 ∉ lineK c k ∧ (lineK c k).length ≤ 100 := by
  have ho := words_ok h hk
  constructor
  · intro hx
    rcases wordsL_mem _ hx with e | ⟨w, hw, hx⟩
    · exact absurd e (by decide)
    · exact ((ho w hw).1 10 hx).2 rfl
  · have h1 := wordsL_len (wordsK c k) 12 (fun w hw => (ho w hw).2)
    have h2 := words_len c k
    unfold lineK
    have : (wordsK c k).length * (12 + 1) ≤ 7 * 13 := Nat.mul_le_mul_right _ h2
    omega
theorem split_show {c : Cm} (h : COk c) {k : Nat} (hk : k ≤ 64) : splitL 32 (lineK c k) = wordsK c k :=
  split_words _ (by unfold wordsK; simp) (fun w hw hx => ((words_ok h hk w hw).1 32 hx).1 rfl)
theorem head_words (c : Cm) (k : Nat) : (wordsK c k).headD [] = vw c.V := by unfold wordsK; simp
theorem bare_back {c : Cm} {b : ByteArray} (h : c.B = b) : (⟨c.V, c.N, c.F, c.U, b, c.C, c.D, c.Q⟩ : Cm) = c := by cases c; simp at h; subst h; rfl
/-- of a line of a right command -/
theorem line_told {c : Cm} (h : COk c) (u : List UInt8) : cmdLine (lineK c c.B.size) u =
    if sized c.V = false then (c, (lineK c c.B.size).length + 1, 0)
    else if u.length ≤ c.B.size then (Cm.zero, 0, 1)
    else if u[c.B.size]? ≠ some 10 then (Cm.zero, (lineK c c.B.size).length + 1, 3)
    else (⟨c.V, c.N, c.F, c.U, tx (u.take c.B.size), c.C, c.D, c.Q⟩, (lineK c c.B.size).length + 1 + c.B.size + 1, 0) := by
  unfold cmdLine
  rw [split_show h h.b1, head_words, verbOf_vw h.v0 h.v1, if_neg (by have := h.v0; omega), line_show h]
  dsimp only [bare]
  by_cases hs : sized c.V = false
  · rw [if_pos hs, if_pos hs, bare_back (h.b hs)]
  · rw [if_neg hs, if_neg hs]
theorem cmd_show {c : Cm} (h : COk c) (u : List UInt8) : cmdOf (showL c ++ u) = (c, (showL c).length, 0) := by
  obtain ⟨h1, h2⟩ := line_ok h h.b1
  unfold showL
  rw [List.append_assoc, List.cons_append, cmd_line h1 h2, line_told h]
  by_cases hs : sized c.V = false
  · rw [if_pos hs, hs]
    simp
  · have hs' : sized c.V = true := by simpa using hs
    have e : ∀ x : List UInt8, (bs c.B ++ [10]) ++ x = bs c.B ++ 10 :: x := fun x => by simp
    rw [if_neg hs, hs', if_pos rfl, e, if_neg (by simp [bs_len]), if_neg, ← bs_len, List.take_left, tx_bs, bare_back rfl]
    · simp only [List.length_append, List.length_cons, List.length_nil]
      congr 2
      omega
    · rw [← bs_len, List.getElem?_append_right (Nat.le_refl _), Nat.sub_self]
      simp
/-- cut it is not yet one -/
theorem cmd_cut {c : Cm} (h : COk c) {m : Nat} (hm : m < (showL c).length) : cmdOf ((showL c).take m) = (Cm.zero, 0, 1) := by
  obtain ⟨h1, h2⟩ := line_ok h h.b1
  by_cases hl : m ≤ (lineK c c.B.size).length
  · have e : (showL c).take m = (lineK c c.B.size).take m := by unfold showL; rw [List.take_append_of_le_length hl]
    rw [e]
    have hno : 10 ∉ (lineK c c.B.size).take m := fun hx => h1 (List.mem_of_mem_take hx)
    have hle : ((lineK c c.B.size).take m).length ≤ 100 := by rw [List.length_take]; omega
    exact cmd_more (by rw [lineOf_all hno]; omega) (by rw [lineOf_all hno])
  · have hs : sized c.V = true := by
      cases hq : sized c.V with
      | true => rfl
      | false =>
        unfold showL at hm
        rw [hq] at hm
        simp at hm
        omega
    have e : (showL c).take m = lineK c c.B.size ++ 10 :: (bs c.B ++ [10]).take (m - (lineK c c.B.size).length - 1) := by
      unfold showL
      rw [hs, if_pos rfl, List.take_append, List.take_of_length_le (by omega)]
      obtain ⟨j, hj⟩ : ∃ j, m - (lineK c c.B.size).length = j + 1 := ⟨m - (lineK c c.B.size).length - 1, by omega⟩
      rw [hj, List.take_succ_cons]
      rfl
    have hlen : ((bs c.B ++ [10]).take (m - (lineK c c.B.size).length - 1)).length ≤ c.B.size := by
      unfold showL at hm
      rw [hs, if_pos rfl] at hm
      simp [bs_len] at hm
      rw [List.length_take]
      omega
    rw [e, cmd_line h1 h2, line_told h, if_neg (by rw [hs]; decide), if_pos hlen]

/-! ### what comes later changes nothing -/
theorem lineOf_more (t u : List UInt8) : (lineOf t).length ≤ (lineOf (t ++ u)).length := by
  unfold lineOf
  rw [List.takeWhile_append]
  split
  · rw [List.length_append]
    rename_i h
    rw [h]
    omega
  · exact Nat.le_refl _
theorem cmd_prefix {t : List UInt8} (h : (cmdOf t).2.2 ≠ 1) (u : List UInt8) : cmdOf (t ++ u) = cmdOf t := by
  rcases cmd_cases t with ⟨hl, e⟩ | ⟨-, -, e⟩ | ⟨l, r, ht, hn, hl, e⟩
  · rw [e]
    exact cmd_long (Nat.lt_of_lt_of_le hl (lineOf_more t u))
  · rw [e] at h
    exact absurd rfl h
  · have e2 : t ++ u = l ++ 10 :: (r ++ u) := by rw [ht]; simp
    rw [e2, cmd_line hn hl, e]
    rw [e] at h
    unfold cmdLine at h ⊢
    split
    · rfl
    · rename_i hv
      rw [if_neg hv] at h
      split
      · rfl
      · rename_i c k hk
        rw [hk] at h
        dsimp only at h
        split
        · rfl
        · rename_i hs
          rw [if_neg hs] at h
          by_cases hr : r.length ≤ k
          · rw [if_pos hr] at h
            exact absurd rfl h
          · rw [if_neg hr, if_neg (by rw [List.length_append]; omega), List.getElem?_append_left (by omega), List.take_append_of_le_length (by omega)]

/-! ### one behind the other -/
noncomputable def cmdsF : Nat → List UInt8 → List Cm × List Int × Nat
  | 0, _ => ([], [], 0)
  | f + 1, t => if (cmdOf t).2.2 = 1 then ([], [], 0) else
    ((if (cmdOf t).2.2 = 0 then [(cmdOf t).1] else []) ++ (cmdsF f (t.drop (cmdOf t).2.1)).1, (cmdOf t).2.2 :: (cmdsF f (t.drop (cmdOf t).2.1)).2.1, (cmdOf t).2.1 + (cmdsF f (t.drop (cmdOf t).2.1)).2.2)
theorem cmdsF_fuel : ∀ (f g : Nat) (t : List UInt8), t.length < f → t.length < g → cmdsF f t = cmdsF g t
  | 0, g, t, h, _ => by omega
  | f + 1, 0, t, _, h => by omega
  | f + 1, g + 1, t, h1, h2 => by
    unfold cmdsF
    by_cases hk : (cmdOf t).2.2 = 1
    · rw [if_pos hk, if_pos hk]
    · obtain ⟨-, -, -, hm⟩ := cmd_codes (t := t) (c := (cmdOf t).1) (m := (cmdOf t).2.1) (k := (cmdOf t).2.2) rfl
      have := hm hk
      rw [if_neg hk, if_neg hk, cmdsF_fuel f g (t.drop (cmdOf t).2.1) (by rw [List.length_drop]; omega) (by rw [List.length_drop]; omega)]
noncomputable def cmdsL (t : List UInt8) : List Cm × List Int × Nat := cmdsF (t.length + 1) t
theorem cmds_stop {t : List UInt8} (h : (cmdOf t).2.2 = 1) : cmdsL t = ([], [], 0) := by unfold cmdsL cmdsF; rw [if_pos h]
theorem cmds_step {t : List UInt8} (h : (cmdOf t).2.2 ≠ 1) : cmdsL t =
    ((if (cmdOf t).2.2 = 0 then [(cmdOf t).1] else []) ++ (cmdsL (t.drop (cmdOf t).2.1)).1, (cmdOf t).2.2 :: (cmdsL (t.drop (cmdOf t).2.1)).2.1, (cmdOf t).2.1 + (cmdsL (t.drop (cmdOf t).2.1)).2.2) := by
  obtain ⟨-, -, -, hm⟩ := cmd_codes (t := t) (c := (cmdOf t).1) (m := (cmdOf t).2.1) (k := (cmdOf t).2.2) rfl
  have := hm h
  have e := cmdsF_fuel t.length ((t.drop (cmdOf t).2.1).length + 1) (t.drop (cmdOf t).2.1) (by rw [List.length_drop]; omega) (by omega)
  unfold cmdsL
  conv => lhs; unfold cmdsF
  rw [if_neg h, e]
theorem cmds_le (n : Nat) : ∀ t : List UInt8, t.length ≤ n → (cmdsL t).2.2 ≤ t.length := by
  induction n with
  | zero =>
    intro t ht
    by_cases hk : (cmdOf t).2.2 = 1
    · rw [cmds_stop hk]; exact Nat.zero_le _
    · have := (cmd_codes (t := t) (c := (cmdOf t).1) (m := (cmdOf t).2.1) (k := (cmdOf t).2.2) rfl).2.2.2 hk
      omega
  | succ n ih =>
    intro t ht
    by_cases hk : (cmdOf t).2.2 = 1
    · rw [cmds_stop hk]; exact Nat.zero_le _
    · have hm := (cmd_codes (t := t) (c := (cmdOf t).1) (m := (cmdOf t).2.1) (k := (cmdOf t).2.2) rfl).2.2.2 hk
      rw [cmds_step hk]
      have := ih (t.drop (cmdOf t).2.1) (by rw [List.length_drop]; omega)
      rw [List.length_drop] at this
      show (cmdOf t).2.1 + (cmdsL (t.drop (cmdOf t).2.1)).2.2 ≤ t.length
      omega
theorem cmds_take (t : List UInt8) : (cmdsL t).2.2 ≤ t.length := cmds_le t.length t (Nat.le_refl _)
/-- wherever bytes are cut -/
theorem cmds_cut (n : Nat) : ∀ (t : List UInt8) (k : Nat), t.length ≤ n → k ≤ t.length →
    cmdsL t = ((cmdsL (t.take k)).1 ++ (cmdsL (t.drop (cmdsL (t.take k)).2.2)).1, (cmdsL (t.take k)).2.1 ++ (cmdsL (t.drop (cmdsL (t.take k)).2.2)).2.1, (cmdsL (t.take k)).2.2 + (cmdsL (t.drop (cmdsL (t.take k)).2.2)).2.2) := by
  induction n with
  | zero =>
    intro t k ht hk
    have : t = [] := List.eq_nil_of_length_eq_zero (by omega)
    subst this
    have e : cmdOf [] = (Cm.zero, 0, 1) := cmd_more (by decide) rfl
    have : cmdsL [] = ([], [], 0) := cmds_stop (by rw [e])
    simp [this]
  | succ n ih =>
    intro t k ht hk
    by_cases h1 : (cmdOf (t.take k)).2.2 = 1
    · rw [cmds_stop h1]
      simp
    · have hm := (cmd_codes (t := t.take k) (c := (cmdOf (t.take k)).1) (m := (cmdOf (t.take k)).2.1) (k := (cmdOf (t.take k)).2.2) rfl).2.2.2 h1
      have e : cmdOf t = cmdOf (t.take k) := by
        have := cmd_prefix h1 (t.drop k)
        rw [List.take_append_drop] at this
        exact this
      rw [List.length_take] at hm
      obtain ⟨m, hme⟩ : ∃ m, (cmdOf (t.take k)).2.1 = m := ⟨_, rfl⟩
      have h2 : (cmdOf t).2.2 ≠ 1 := by rw [e]; exact h1
      have hd : (t.take k).drop m = (t.drop m).take (k - m) := List.drop_take ..
      have hi := ih (t.drop m) (k - m) (by rw [List.length_drop]; omega) (by rw [List.length_drop]; omega)
      rw [cmds_step h1, cmds_step h2, e, hme, hd]
      rw [← List.drop_drop]
      rw [hi]
      simp [Nat.add_assoc]
theorem cmds_cut' (t : List UInt8) {k : Nat} (hk : k ≤ t.length) : (cmdsL (t.take k)).1 ++ (cmdsL (t.drop (cmdsL (t.take k)).2.2)).1 = (cmdsL t).1 ∧ (cmdsL (t.take k)).2.1 ++ (cmdsL (t.drop (cmdsL (t.take k)).2.2)).2.1 = (cmdsL t).2.1 ∧ (cmdsL (t.take k)).2.2 + (cmdsL (t.drop (cmdsL (t.take k)).2.2)).2.2 = (cmdsL t).2.2 := by
  have h := cmds_cut t.length t k (Nat.le_refl _) hk
  exact ⟨(congrArg (·.1) h).symm, (congrArg (·.2.1) h).symm, (congrArg (·.2.2) h).symm⟩
/-- there are as many commands as codes that say so -/
theorem cmds_good (n : Nat) : ∀ t : List UInt8, t.length ≤ n → (cmdsL t).2.1.count 0 = (cmdsL t).1.length := by
  induction n with
  | zero =>
    intro t ht
    by_cases hk : (cmdOf t).2.2 = 1
    · rw [cmds_stop hk]; rfl
    · have := (cmd_codes (t := t) (c := (cmdOf t).1) (m := (cmdOf t).2.1) (k := (cmdOf t).2.2) rfl).2.2.2 hk
      omega
  | succ n ih =>
    intro t ht
    by_cases hk : (cmdOf t).2.2 = 1
    · rw [cmds_stop hk]; rfl
    · have hm := (cmd_codes (t := t) (c := (cmdOf t).1) (m := (cmdOf t).2.1) (k := (cmdOf t).2.2) rfl).2.2.2 hk
      have hi := ih (t.drop (cmdOf t).2.1) (by rw [List.length_drop]; omega)
      rw [cmds_step hk]
      dsimp only
      rw [List.count_cons, hi, List.length_append]
      by_cases h0 : (cmdOf t).2.2 = 0
      · simp [h0]
        omega
      · simp [h0]
end Go.Proofs.YtaabmkhckbndgaaGreatDoor.cm
/- Texts and their bytes: what stands between the walk's texts (s ++ t, s.extract a b, s[i]) and lists of bytes; what the loops over texts keep. No Go in sight. -/
namespace Go.Proofs.YtaabmkhckbndgaaGreatDoor.cm
open Go.RowKit
set_option linter.unusedVariables false

theorem bs_app (a b : ByteArray) : bs (a ++ b) = bs a ++ bs b := by unfold bs; rw [ByteArray.data_append, Array.toList_append]
theorem bs_extract (s : ByteArray) (a b : Nat) : bs (s.extract a b) = ((bs s).drop a).take (b - a) := by
  unfold bs
  rw [ByteArray.data_extract, Array.toList_extract, List.extract]
theorem bs_get (s : ByteArray) (i : Nat) (h : i < s.size) : (bs s)[i]'(by rw [bs_len]; exact h) = s[i] := by
  unfold bs
  rw [Array.getElem_toList]
  rfl
theorem bs_inj0 {a b : ByteArray} (h : bs a = bs b) : a = b := by rw [← tx_bs a, ← tx_bs b, h]
theorem tx_app (l m : List UInt8) : tx (l ++ m) = tx l ++ tx m := bs_inj0 (by rw [bs_app, bs_tx, bs_tx, bs_tx])
theorem bs_toList (s : ByteArray) : s.toList = bs s := ByteArray.toList_eq ..
theorem bs_take_succ {s : ByteArray} {i : Nat} (h : i < s.size) : (bs s).take (i + 1) = (bs s).take i ++ [s[i]] := by
  rw [List.take_succ_eq_append_getElem (by rw [bs_len]; exact h), bs_get s i h]
theorem bs_drop_cons {s : ByteArray} {i : Nat} (h : i < s.size) : (bs s).drop i = s[i] :: (bs s).drop (i + 1) := by
  rw [List.drop_eq_getElem_cons (by rw [bs_len]; exact h), bs_get s i h]

/-! ### a number is shown, the last digit first -/
/-- while a number is shown: what is left of it and what is shown -/
structure Dig (n q : Nat) (out : List UInt8) : Prop where
  at0 : out = [] → q = n
  on : out ≠ [] → digs n = (if q = 0 then [] else digs q) ++ out
theorem dig_start (n : Nat) : Dig n n [] := ⟨fun _ => rfl, fun h => absurd rfl h⟩
theorem dig_step {n q : Nat} {out : List UInt8} (h : Dig n q out) (hg : out = [] ∨ q ≠ 0) : Dig n (q / 10) (dg (q % 10) :: out) := by
  refine ⟨fun e => by simp at e, fun _ => ?_⟩
  have hq : (if q / 10 = 0 then [] else digs (q / 10)) ++ dg (q % 10) :: out = digs q ++ out := by
    by_cases h10 : q < 10
    · rw [if_pos (by omega), digs_small h10, Nat.mod_eq_of_lt h10]; rfl
    · rw [if_neg (by omega), digs_big h10]; simp
  rw [hq]
  rcases hg with e | e
  · subst e
    rw [h.at0 rfl, List.append_nil]
  · by_cases ho : out = []
    · subst ho
      rw [h.at0 rfl, List.append_nil]
    · rw [h.on ho, if_neg e]
theorem dig_end {n : Nat} {out : List UInt8} (h : Dig n 0 out) (ho : out ≠ []) : out = digs n := by
  have := h.on ho
  rw [if_pos rfl, List.nil_append] at this
  exact this.symm

/-! ### words, one behind the other -/
/-- the words of the first i, joined -/
theorem words_zero : wordsL [] = [] := rfl
theorem words_snoc : ∀ (ws : List (List UInt8)) (w : List UInt8), wordsL (ws ++ [w]) = if ws = [] then w else wordsL ws ++ 32 :: w
  | [], w => by simp [wordsL]
  | [a], w => by
    rw [if_neg (by simp)]
    show wordsL (a :: [w]) = _
    rw [wordsL_cons (by simp)]
    simp [wordsL]
  | a :: b :: r, w => by
    rw [if_neg (by simp), List.cons_append, wordsL_cons (by simp), wordsL_cons (w := a) (ws := b :: r) (by simp), words_snoc (b :: r) w, if_neg (by simp)]
    simp

/-! ### a text is split -/
/-- the first i bytes have been looked at: what is done, and where the open word begins -/
structure Spl (x : UInt8) (l : List UInt8) (i f : Nat) (out : List (List UInt8)) : Prop where
  fi : f ≤ i
  il : i ≤ l.length
  no : x ∉ (l.take i).drop f
  is : splitL x l = out ++ splitL x (l.drop f)
theorem spl_start (x : UInt8) (l : List UInt8) : Spl x l 0 0 [] := ⟨Nat.le_refl _, Nat.zero_le _, by simp, by simp⟩
theorem split_nox {x : UInt8} : ∀ (w : List UInt8), x ∉ w → splitL x w = [w]
  | [], _ => by simp [splitL]
  | c :: r, h => by
    have hc : c ≠ x := fun e => h (by rw [e]; simp)
    rw [splitL_no hc (split_nox r fun q => h (List.mem_cons_of_mem _ q))]
theorem split_appx {x : UInt8} : ∀ (w s : List UInt8), x ∉ w → splitL x (w ++ x :: s) = w :: splitL x s
  | [], s, _ => by rw [List.nil_append, splitL_yes rfl]
  | c :: r, s, h => by
    have hc : c ≠ x := fun e => h (by rw [e]; simp)
    rw [List.cons_append, splitL_no hc (split_appx r s fun q => h (List.mem_cons_of_mem _ q))]
theorem spl_pass {x : UInt8} {l : List UInt8} {i f : Nat} {out : List (List UInt8)} (h : Spl x l i f out) (hi : i < l.length) (hn : l[i] ≠ x) : Spl x l (i + 1) f out := by
  have h1 := h.fi
  refine ⟨by omega, by omega, fun q => ?_, h.is⟩
  rw [List.take_succ_eq_append_getElem hi, List.drop_append_of_le_length (by rw [List.length_take]; omega)] at q
  rcases List.mem_append.1 q with q | q
  · exact h.no q
  · exact hn (List.mem_singleton.1 q).symm
theorem spl_word {l : List UInt8} {i f : Nat} (h1 : f ≤ i) : (l.drop f).take (i - f) = (l.take i).drop f := by
  rw [List.drop_take]
theorem spl_cut {x : UInt8} {l : List UInt8} {i f : Nat} {out : List (List UInt8)} (h : Spl x l i f out) (hi : i < l.length) (hy : l[i] = x) : Spl x l (i + 1) (i + 1) (out ++ [(l.take i).drop f]) := by
  have h1 := h.fi
  have e : l.drop f = (l.take i).drop f ++ x :: l.drop (i + 1) := by
    have e1 : l = l.take i ++ x :: l.drop (i + 1) := by
      rw [← hy, ← List.drop_eq_getElem_cons hi, List.take_append_drop]
    conv => lhs; rw [e1]
    rw [List.drop_append_of_le_length (by rw [List.length_take]; omega)]
  refine ⟨Nat.le_refl _, by omega, by simp, ?_⟩
  rw [h.is, e, split_appx _ _ h.no]
  simp
theorem spl_end {x : UInt8} {l : List UInt8} {i f : Nat} {out : List (List UInt8)} (h : Spl x l i f out) (hi : i = l.length) : splitL x l = out ++ [(l.take i).drop f] := by
  subst hi
  have := h.no
  rw [List.take_length] at this ⊢
  rw [h.is, split_nox _ this]

/-! ### a number is read -/
/-- the first k bytes are digits, and they are so much -/
structure Rdn (l : List UInt8) (k n : Nat) : Prop where
  all : ∀ c ∈ l.take k, isD c = true
  is : n = val 0 (l.take k)
theorem rdn_start (l : List UInt8) : Rdn l 0 0 := ⟨by simp, by rw [List.take_zero, val_nil]⟩
theorem rdn_step {l : List UInt8} {k n : Nat} (h : Rdn l k n) (hk : k < l.length) (hd : isD l[k] = true) : Rdn l (k + 1) (n * 10 + (l[k].toNat - 48)) := by
  refine ⟨fun c hc => ?_, ?_⟩
  · rw [List.take_succ_eq_append_getElem hk] at hc
    rcases List.mem_append.1 hc with q | q
    · exact h.all c q
    · rw [List.mem_singleton.1 q]; exact hd
  · rw [List.take_succ_eq_append_getElem hk, val_snoc, h.is]
theorem rdn_lt {l : List UInt8} {k n : Nat} (h : Rdn l k n) (hk : k ≤ l.length) : n < 10 ^ k := by
  have := val_lt (l.take k) 0 0 h.all (by decide)
  rw [List.length_take, Nat.min_eq_left hk, Nat.zero_add] at this
  rw [h.is]; exact this
theorem rdn_not {l : List UInt8} {k : Nat} (hk : k < l.length) (hd : isD l[k] = false) : canon l = false := by
  cases hc : canon l with
  | false => rfl
  | true =>
    have := (canon_iff.1 hc).1 l[k] (List.getElem_mem hk)
    rw [hd] at this
    cases this
theorem rdn_end {l : List UInt8} {n : Nat} (h : Rdn l l.length n) (h1 : 1 ≤ l.length) (h9 : l.length ≤ 9) : n = val 0 l ∧ canon l = !(l.head? == some 48 && decide (1 < l.length)) := by
  have ha := h.all
  have hi := h.is
  rw [List.take_length] at ha hi
  refine ⟨hi, ?_⟩
  have h3 : l.all isD = true := List.all_eq_true.2 ha
  unfold canon
  rw [h3, decide_eq_true h1, decide_eq_true h9]
  rfl
theorem canon_len {l : List UInt8} (h : ¬ (1 ≤ l.length ∧ l.length ≤ 9)) : canon l = false := by
  cases hc : canon l with
  | false => rfl
  | true => exact absurd ⟨(canon_iff.1 hc).2.1, (canon_iff.1 hc).2.2.1⟩ h
/-- what begins with a minus is no number as one is shown -/
theorem canon_minus {l : List UInt8} (h : l.head? = some 45) : canon l = false := by
  cases l with
  | nil => simp at h
  | cons c r =>
    simp at h
    subst h
    exact rdn_not (k := 0) (by simp) (show isD 45 = false by decide)
end Go.Proofs.YtaabmkhckbndgaaGreatDoor.cm
/- Contracts: the place of a text in a row, right names, right rings: the model's. -/
namespace Go.Proofs.YtaabmkhckbndgaaGreatDoor.rg
open Go.ChangeShapes Go.WideShapes Go.ChangeAt Go.RowKit
open Go.Proofs.YtaabmkhckbndgaaGreatDoor.ce Go.Proofs.YtaabmkhckbndgaaGreatDoor.ro
set_option linter.unusedVariables false

theorem l1At_any (N : List ByteArray) (s : ByteArray) (v : Value) (w : World) (r : Rd encS w v N) :
    Calls Tryz.prog 66 #[v, .string s] w fun e w' => e = .returned (.int .i64 (posS s N)) ∧ w' = w := by
  have hl := r.len
  obtain ⟨a, cap, rfl⟩ := r.form
  have R : Hid (Rd encS w (.slice a N.length cap) N) := r
  clear r
  obtain ⟨y, hy⟩ := hid_ex (posS s N)
  rw [hy.out]
  go_enter Tryz.func66, Tryz.ntmps66
  go_wp2
  go_loop [5] (fun p => ∃ i : Nat, i ≤ N.length ∧ p = .int .i64 i ∧ Hid (s ∉ N.take i)) (fun p => N.length - (intOf p).toNat)
  case atStart => exact ⟨0, by omega, rfl, (by unfold Hid; simp)⟩
  case round =>
    obtain ⟨i, hi1, rfl, hno⟩ := hrel
    by_cases hlt : i < N.length
    · obtain ⟨b, off, rfl, hb, d0⟩ := rdS_cell R.out i hlt
      have hlt' : (i : Int) < (N.length : Int) := by omega
      obtain ⟨z, hz⟩ := hid_ex (N[i])
      rw [hz.out] at d0
      by_cases he : z.toList = s.toList
      · have ey : y = i := by rw [← hy.out]; exact posS_at hlt (hz.out.trans (str_eq he)) hno.out
        subst ey
        have hbe : (z.toList == s.toList) = true := by simpa using he
        clear he
        go_wp2
        go_ret
        exact ⟨rfl, rfl⟩
      · have hno2 : Hid (s ∉ N.take (i + 1)) := by
          unfold Hid
          rw [List.take_succ_eq_append_getElem hlt, List.mem_append, hz.out, List.mem_singleton]
          rintro (h | h)
          · exact hno.out h
          · exact he (by rw [h])
        have hbe : (z.toList == s.toList) = false := by simpa using he
        clear he
        go_wp2
        go_round
        case rel => exact ⟨i + 1, by omega, by go_num, hno2⟩
        case measure => simp [intOf]; omega
    · have hlt' : ¬ (i : Int) < (N.length : Int) := by omega
      have ey : y = -1 := by
        have h := hno.out
        rw [List.take_of_length_le (by omega)] at h
        rw [← hy.out]; exact posS_no h
      subst ey
      go_wp2
      go_ret
      exact ⟨rfl, rfl⟩

/-- a ring is read -/
structure RdR (w : World) (vN vU : Value) (r : Rg) : Prop where
  n : Rd encS w vN r.N
  u : Rd encB w vU r.U
  s : ∀ s ∈ r.N, s.size ≤ 9223372036854775807
theorem RdR.grow {w w' : World} {vN vU : Value} {r : Rg} (h : RdR w vN vU r) (hb : Below w.heap.size w w') : RdR w' vN vU r := ⟨h.n.grow hb, h.u.grow hb, h.s⟩
/-- a ring is owned -/
structure OwnR (w : World) (lo hi : Nat) (vN vU : Value) (r : Rg) : Prop where
  n : Own encS w lo hi vN r.N
  u : Own encB w lo hi vU r.U
theorem OwnR.grow {w w' : World} {lo hi : Nat} {vN vU : Value} {r : Rg} (h : OwnR w lo hi vN vU r) (hb : Below w.heap.size w w') : OwnR w' lo hi vN vU r := ⟨h.n.grow hb, h.u.grow hb⟩
theorem OwnR.within {w w' : World} {lo hi l2 h2 : Nat} {vN vU : Value} {r : Rg} (h : OwnR w lo hi vN vU r) (hw : Within l2 h2 w w') (hd : hi ≤ l2 ∨ h2 ≤ lo) : OwnR w' lo hi vN vU r := ⟨h.n.within hw hd, h.u.within hw hd⟩
theorem OwnR.wide {w : World} {lo hi lo' hi' : Nat} {vN vU : Value} {r : Rg} (h : OwnR w lo hi vN vU r) (h1 : lo' ≤ lo) (h2 : hi ≤ hi') : OwnR w lo' hi' vN vU r := ⟨h.n.wide h1 h2, h.u.wide h1 h2⟩
theorem OwnR.top {w : World} {lo hi : Nat} {vN vU : Value} {r : Rg} (h : OwnR w lo hi vN vU r) : OwnR w lo w.heap.size vN vU r := ⟨h.n.top, h.u.top⟩
theorem OwnR.rd {w : World} {lo hi : Nat} {vN vU : Value} {r : Rg} (h : OwnR w lo hi vN vU r) (hs : ∀ s ∈ r.N, s.size ≤ 9223372036854775807) : RdR w vN vU r := ⟨h.n.rd, h.u.rd, hs⟩
theorem OwnR.only {w w' : World} {lo hi b : Nat} {vN vU : Value} {r : Rg} {t : TypeId} {vs : List Value} (h : OwnR w lo hi vN vU r) (ho : Only b w w') (hb : VBlk w b t vs) (h1 : 9 ≠ t) (h2 : 4 ≠ t) : OwnR w' lo hi vN vU r := ⟨h.n.only ho hb h1, h.u.only ho hb h2⟩
theorem ownR_zero (w : World) (lo hi : Nat) : OwnR w lo hi (.slice none 0 0) (.slice none 0 0) Rg.zero := ⟨own_zero _ _ _ _ _, own_zero _ _ _ _ _⟩
theorem cells3 {w : World} {b : Nat} {t : TypeId} {u v x : Value} (h : VBlk w b t [u, v, x]) : w.cell? ⟨b, 0, none⟩ = some u ∧ w.cell? ⟨b, 1, none⟩ = some v ∧ w.cell? ⟨b, 2, none⟩ = some x := ⟨h.cell 0 (by simp), h.cell 1 (by simp), h.cell 2 (by simp)⟩
theorem cells2 {w : World} {b : Nat} {t : TypeId} {u v : Value} (h : VBlk w b t [u, v]) : w.cell? ⟨b, 0, none⟩ = some u ∧ w.cell? ⟨b, 1, none⟩ = some v := ⟨h.cell 0 (by simp), h.cell 1 (by simp)⟩

end Go.Proofs.YtaabmkhckbndgaaGreatDoor.rg
/- Contracts of the laws' helpers on rows of texts and of truths: sizes, copies, comparisons, marks. -/
namespace Go.Proofs.YtaabmkhckbndgaaGreatDoor.rg
open Go.ChangeShapes Go.WideShapes Go.ChangeAt Go.RowKit
open Go.Proofs.YtaabmkhckbndgaaGreatDoor.ce Go.Proofs.YtaabmkhckbndgaaGreatDoor.ro
set_option linter.unusedVariables false

theorem wpList_make_string {o : Oper} {a : Act} {w : World} {ops : Array Oper} {rest : List Oper} {Q : Exit → Act → World → Prop} (hgd : o.guard = none) (l c : Operand) (t : TypeId) (ho : o.op = .makeSlice t l c) (ht : Tryz.prog.underlying t = some (.slice 9)) (n : Nat) (hn : n ≤ 1048576) (hl : a.eval l = .int .i64 n) (hc : a.eval c = .int .i64 n)
    (h : ∀ b w', w.heap.size ≤ b → b < w'.heap.size → Below w.heap.size w w' → Own encS w' w.heap.size w'.heap.size (.slice (some ⟨b, 0, none⟩) n n) (List.replicate n (⟨#[]⟩ : ByteArray)) → wpList Tryz.prog ops Q rest (a.put o.dst (.slice (some ⟨b, 0, none⟩) n n)) w') : wpList Tryz.prog ops Q (o :: rest) a w := by
  have hi : (Tryz.prog.info? 9).map (fun i => (i.zero, i.size, i.bytes ≤ 16)) = some (some (Value.string ⟨#[]⟩), 1, True) := by
    obtain ⟨i, z, h1, h2, h3, h4, h5⟩ := infoS.ex
    have : Tryz.prog.info? 9 = some i := h1
    have hh : (Tryz.prog.info? 9).map (fun i => (i.zero, i.size, decide (i.bytes ≤ 16))) = some (some (Value.string ⟨#[]⟩), 1, true) := by kernel_rfl
    rw [this] at hh ⊢
    simp at hh ⊢
    exact hh
  obtain ⟨i0, hi0, hz⟩ := Option.map_eq_some_iff.1 hi
  simp only [Prod.mk.injEq, eq_iff_iff, iff_true] at hz
  refine wpList_make_full _ hgd l c t ho w.heap.size 9 i0 _ 1 ht hi0 hz.1 hz.2.1 .i64 .i64 n n n hl hc rfl rfl (by have h3 := hz.2.2; have := Nat.mul_le_mul h3 hn; omega) (by unfold maxLen; omega) (Nat.le_refl _) ?_
  intro w1 h1 h2
  have hb : Below w.heap.size w w1 := ro.below_grown h2 (Nat.le_refl _) (fun k hk => by cases hk)
  refine h _ w1 (Nat.le_refl _) (h1.lt _ rfl).2 hb (own_of ?_)
  have hr : (madeCells (Value.cells (Value.string ⟨#[]⟩)) (n * 1)).toList = encS.row (List.replicate n (⟨#[]⟩ : ByteArray)) := by
    rw [Enc.row_replicate encS (⟨#[]⟩ : ByteArray) n (Value.string ⟨#[]⟩) rfl]
    simp [Value.cells, toList_madeCells_one]
  rw [hr] at h1
  rw [List.length_replicate]
  exact h1

theorem wpList_make_bool {o : Oper} {a : Act} {w : World} {ops : Array Oper} {rest : List Oper} {Q : Exit → Act → World → Prop} (hgd : o.guard = none) (l c : Operand) (t : TypeId) (ho : o.op = .makeSlice t l c) (ht : Tryz.prog.underlying t = some (.slice 4)) (n : Nat) (hn : n ≤ 1048576) (hl : a.eval l = .int .i64 n) (hc : a.eval c = .int .i64 n)
    (h : ∀ b w', w.heap.size ≤ b → b < w'.heap.size → Below w.heap.size w w' → Own encB w' w.heap.size w'.heap.size (.slice (some ⟨b, 0, none⟩) n n) (List.replicate n false) → wpList Tryz.prog ops Q rest (a.put o.dst (.slice (some ⟨b, 0, none⟩) n n)) w') : wpList Tryz.prog ops Q (o :: rest) a w := by
  have hi : (Tryz.prog.info? 4).map (fun i => (i.zero, i.size, i.bytes ≤ 16)) = some (some (Value.bool false), 1, True) := by
    obtain ⟨i, z, h1, h2, h3, h4, h5⟩ := infoB.ex
    have : Tryz.prog.info? 4 = some i := h1
    have hh : (Tryz.prog.info? 4).map (fun i => (i.zero, i.size, decide (i.bytes ≤ 16))) = some (some (Value.bool false), 1, true) := by kernel_rfl
    rw [this] at hh ⊢
    simp at hh ⊢
    exact hh
  obtain ⟨i0, hi0, hz⟩ := Option.map_eq_some_iff.1 hi
  simp only [Prod.mk.injEq, eq_iff_iff, iff_true] at hz
  refine wpList_make_full _ hgd l c t ho w.heap.size 4 i0 _ 1 ht hi0 hz.1 hz.2.1 .i64 .i64 n n n hl hc rfl rfl (by have h3 := hz.2.2; have := Nat.mul_le_mul h3 hn; omega) (by unfold maxLen; omega) (Nat.le_refl _) ?_
  intro w1 h1 h2
  have hb : Below w.heap.size w w1 := ro.below_grown h2 (Nat.le_refl _) (fun k hk => by cases hk)
  refine h _ w1 (Nat.le_refl _) (h1.lt _ rfl).2 hb (own_of ?_)
  have hr : (madeCells (Value.cells (Value.bool false)) (n * 1)).toList = encB.row (List.replicate n false) := by
    rw [Enc.row_replicate encB false n (Value.bool false) rfl]
    simp [Value.cells, toList_madeCells_one]
  rw [hr] at h1
  rw [List.length_replicate]
  exact h1

end Go.Proofs.YtaabmkhckbndgaaGreatDoor.rg
/- Contracts of the laws' marks on rows of texts and of truths. -/
namespace Go.Proofs.YtaabmkhckbndgaaGreatDoor.rg
open Go.ChangeShapes Go.WideShapes Go.ChangeAt Go.RowKit
open Go.Proofs.YtaabmkhckbndgaaGreatDoor.ce Go.Proofs.YtaabmkhckbndgaaGreatDoor.ro
set_option linter.unusedVariables false

theorem own_ty {α : Type} {E : Enc α} {w : World} {lo hi g n cap : Nat} {xs : List α} (o : Own E w lo hi (.slice (some ⟨g, 0, none⟩) n cap) xs) (h : 1 ≤ xs.length) (j : Nat) (x : Value) : Ty lo E.t w (w.setCell ⟨g, j, none⟩ x) := by
  rcases o.row with ⟨rfl, -⟩ | ⟨g2, cap2, cur, e2, hg, hb, -⟩
  · simp at h
  · cases e2
    exact ⟨(only_set w g j x).2.2 _ hg.1, fun k cur' t' f hk hn => (only_set w g j x).2.1 k fun e => by
      rw [e, hb] at hk
      simp at hk
      exact hn hk.2.1.symm⟩
theorem own_lo {α : Type} {E : Enc α} {w : World} {lo hi n cap : Nat} {a : Option Addr} {xs : List α} (o : Own E w lo hi (.slice a n cap) xs) (h : 1 ≤ xs.length) : lo ≤ w.heap.size := by
  obtain ⟨g, c, e, h1, h2, h3⟩ := o.form h
  omega
def dig (d : Nat) : ByteArray := ⟨#[UInt8.ofNat (48 + d)]⟩
/-- what markText tells -/
def mgo : Nat → Nat → ByteArray → ByteArray
  | 0, _, out => ⟨#[109]⟩ ++ out
  | f + 1, k, out => if k = 0 then ⟨#[109]⟩ ++ out else mgo f (k / 10) (dig (k % 10) ++ out)
theorem mgo_zero (f : Nat) (out : ByteArray) : mgo f 0 out = ⟨#[109]⟩ ++ out := by cases f <;> simp [mgo]
theorem mgo_step {f k : Nat} (h : 0 < k) (out : ByteArray) : mgo (f + 1) k out = mgo f (k / 10) (dig (k % 10) ++ out) := by
  simp only [mgo]
  rw [if_neg (by omega)]
def mtx (k : Nat) : ByteArray := mgo k k ⟨#[]⟩
theorem dig_conv (d : Nat) (h1 : d ≤ 9) (w : World) : (convert 22 9 (Value.slice (some { block := w.heap.size, off := 0 }) 1 1)).run Tryz.prog (w.alloc (Obj.cells #[Value.int IntKind.u8 (48 + (d : Int))] 5)) = .ok (.string (dig d)) (w.alloc (Obj.cells #[Value.int IntKind.u8 (48 + (d : Int))] 5)) :=
  run_convert_bytes_back (P := Tryz.prog) (w.alloc (Obj.cells #[Value.int IntKind.u8 (48 + (d : Int))] 5)) 22 9 5 ⟨w.heap.size, 0, none⟩ 1 [UInt8.ofNat (48 + d)] Tryz.underlying22 Tryz.underlying5 Tryz.underlying9 (fun j hj => by
    have hj0 : j = 0 := by simpa using hj
    subst hj0
    have e : (((UInt8.ofNat (48 + d)).toNat : Nat) : Int) = 48 + d := by
      rw [UInt8.toNat_ofNat']; omega
    simp only [List.getElem_cons_zero, e]
    show (w.alloc _).cell? ⟨w.heap.size, 0, none⟩ = _
    rw [cell_of_row _ _ 0 _ _ _ (heap_alloc_new w _)]; rfl)

theorem markText_any (k : Nat) (h0 : 1 ≤ k) (h1 : k ≤ 16777216) (w : World) :
    Calls Tryz.prog 155 #[.int .i64 k] w fun e w' => e = .returned (.string (mtx k)) ∧ Below w.heap.size w w' := by
  obtain ⟨C, hC⟩ := hid_ex (mtx k)
  rw [hC.out]
  have hk0 : ¬ (k : Int) ≤ 0 := by omega
  go_enter Tryz.func155, Tryz.ntmps155
  go_wp2
  go_loopw [0, 3] (fun v s wr => ∃ (q f : Nat) (out : ByteArray), v = .int .i64 q ∧ s = .string out ∧ q ≤ 16777216 ∧ Hid (q ≤ f) ∧ Hid (mgo f q out = C) ∧ out.size + q ≤ 16777216 ∧ Below w.heap.size w wr) (fun v _ _ => (intOf v).toNat)
  case atStart => exact ⟨k, k, ⟨#[]⟩, rfl, rfl, h1, Nat.le_refl _, hC, by show 0 + k ≤ 16777216; omega, Below.refl _ _⟩
  case round =>
    obtain ⟨q, f, out, rfl, rfl, hq1, hqf, hM, hsz, hB⟩ := hrel
    by_cases hq : 0 < q
    · have hq' : (0 : Int) < (q : Int) := by omega
      obtain ⟨f', rfl⟩ : ∃ f', f = f' + 1 := ⟨f - 1, by have := hqf.out; omega⟩
      have hM2 : Hid (mgo f' (q / 10) (dig (q % 10) ++ out) = C) := by unfold Hid; rw [← hM.out, mgo_step hq]
      have hqf2 : Hid (q / 10 ≤ f') := by have := hqf.out; unfold Hid; omega
      obtain ⟨d, hd⟩ := hid_ex (q % 10)
      have hd9 : d ≤ 9 := by have := hd.out; omega
      rw [hd.out] at hM2
      have hcv := dig_conv d hd9 wr
      have hds : (dig d).size = 1 := rfl
      have hmod : (q : Int) % 10 = (d : Int) := by have := hd.out; omega
      obtain ⟨q2, hq2⟩ := hid_ex (q / 10)
      rw [hq2.out] at hM2 hqf2
      have hq3 : q2 < q := by have := hq2.out; omega
      have hdiv : (q : Int) / 10 = (q2 : Int) := by have := hq2.out; omega
      have hout : (dig d ++ out).size = 1 + out.size := by rw [ByteArray.size_append]; rfl
      go_wp2
      go_roundw
      case rel => exact ⟨q2, f', dig d ++ out, rfl, rfl, by omega, hqf2, hM2, by omega, hB.alloc hB.size _⟩
      case measure => simp [intOf]; omega
    · have hq' : ¬ (0 : Int) < (q : Int) := by omega
      have eq0 : q = 0 := by omega
      have hM3 := hM.out
      rw [eq0, mgo_zero] at hM3
      subst hM3
      go_wp2
      go_ret
      exact ⟨rfl, hB⟩

def smarks (k n : Nat) : List ByteArray := (List.range n).map fun j => mtx (k + j)
theorem smarks_len (k n : Nat) : (smarks k n).length = n := by simp [smarks]
theorem smarks_succ (k n : Nat) : smarks k (n + 1) = smarks k n ++ [mtx (k + n)] := by simp [smarks, List.range_succ]
theorem smarks_get (k n i : Nat) (h : i < (smarks k n).length) : (smarks k n)[i] = mtx (k + i) := by simp [smarks]
def bmarks (k n : Nat) : List Bool := (List.range n).map fun j => ((((k + j : Nat) : Int) % 3) == 0)
theorem bmarks_len (k n : Nat) : (bmarks k n).length = n := by simp [bmarks]
theorem bmarks_succ (k n : Nat) : bmarks k (n + 1) = bmarks k n ++ [((((k + n : Nat) : Int) % 3) == 0)] := by simp [bmarks, List.range_succ]
theorem bmarks_get (k n i : Nat) (h : i < (bmarks k n).length) : (bmarks k n)[i] = ((((k + i : Nat) : Int) % 3) == 0) := by simp [bmarks]
end Go.Proofs.YtaabmkhckbndgaaGreatDoor.rg
/- Contracts of the model's helpers on texts: a number is shown. -/
namespace Go.Proofs.YtaabmkhckbndgaaGreatDoor.cm
open Go.ChangeShapes Go.WideShapes Go.ChangeAt Go.RowKit
open Go.Proofs.YtaabmkhckbndgaaGreatDoor.ce Go.Proofs.YtaabmkhckbndgaaGreatDoor.ro Go.Proofs.YtaabmkhckbndgaaGreatDoor.rg
set_option linter.unusedVariables false

theorem dig_tx (d : Nat) : dig d = tx [dg d] := rfl
theorem tx_nonempty {l : List UInt8} (h : l ≠ []) : (tx l).toList ≠ [] := by rw [bs_toList, bs_tx]; exact h
theorem dig_len {n q : Nat} {l : List UInt8} (h : Dig n q l) : l.length ≤ (digs n).length := by
  by_cases e : l = []
  · rw [e]; exact Nat.zero_le _
  · rw [h.on e, List.length_append]; omega
/-- what l1Int tells of a number that is not below 0 -/
theorem l1Int_is (n : Nat) (hn : n ≤ 1000000000000) (w : World) :
    Calls Tryz.prog 120 #[.int .i64 n] w fun e w' => e = .returned (.string (tx (digs n))) ∧ Below w.heap.size w w' := by
  have hn0 : ¬ (n : Int) < 0 := by omega
  go_enter Tryz.func120, Tryz.ntmps120
  go_wp2
  go_loopg [0, 3, 5] (2 * n + 1) (fun k v s d wr => ∃ (q : Nat) (l : List UInt8) (out : ByteArray), v = .int .i64 q ∧ s = .string out ∧ q ≤ 1000000000000 ∧ Hid (out = tx l) ∧ Hid (Dig n q l) ∧ Hid (l = [] → 2 * q + 1 ≤ k) ∧ Hid (l ≠ [] → 2 * q ≤ k) ∧ Below w.heap.size w wr)
  case atStart => exact ⟨n, [], ⟨#[]⟩, rfl, rfl, hn, rfl, dig_start n, fun _ => Nat.le_refl _, fun h => absurd rfl h, Below.refl _ _⟩
  case round =>
    obtain ⟨q, l, out, rfl, rfl, hq, ho, hD, hk1, hk2, hB⟩ := hrel
    obtain ⟨d, hd⟩ := hid_ex (q % 10)
    have hd9 : d ≤ 9 := by have := hd.out; omega
    have hcv := dig_conv d hd9 wr
    have hmod : (q : Int) % 10 = (d : Int) := by have := hd.out; omega
    obtain ⟨q2, hq2⟩ := hid_ex (q / 10)
    have hdiv : (q : Int) / 10 = (q2 : Int) := by have := hq2.out; omega
    have hd0 : ¬ (d : Int) < 0 := by omega
    have hds : (dig d).size = 1 := rfl
    have hosz : out.size ≤ 13 := by
      rw [ho.out, tx_size]
      exact Nat.le_trans (dig_len hD.out) (digs_len 12 n (by omega))
    have hout : Hid (dig d ++ out = tx (dg d :: l)) := by
      unfold Hid
      rw [ho.out, dig_tx, ← tx_app]
      rfl
    have hle : q2 ≤ 1000000000000 := by have := hq2.out; omega
    by_cases he : l = []
    · have hb : (out.toList == []) = true := by rw [ho.out, he, bs_toList, bs_tx]; rfl
      have hD2 : Hid (Dig n q2 (dg d :: l)) := by
        have := dig_step hD.out (Or.inl he)
        rw [hd.out, hq2.out] at this
        exact this
      have hgk := hk1.out he
      have hg2 : 2 * q2 < gk := by have := hq2.out; omega
      clear he hgk
      go_wp2
      go_roundg (2 * q2)
      case measure => exact hg2
      case rel => exact ⟨q2, dg d :: l, dig d ++ out, rfl, rfl, hle, hout, hD2, fun h => by simp at h, fun _ => Nat.le_refl _, hB.alloc hB.size _⟩
    · have hb : (out.toList == []) = false := by
        rw [ho.out]
        have := tx_nonempty he
        cases hx : (tx l).toList with
        | nil => exact absurd hx this
        | cons x r => rfl
      by_cases hq0 : q = 0
      · have hqb : ((q : Int) != 0) = false := by rw [hq0]; rfl
        have hend : Hid (out = tx (digs n)) := by
          unfold Hid
          have h := hD.out
          rw [hq0] at h
          rw [ho.out, ← dig_end h he]
        clear hq0 he
        go_wp2
        go_ret
        exact ⟨by rw [hend.out]; rfl, hB⟩
      · have hqb : ((q : Int) != 0) = true := by simp; omega
        have hD2 : Hid (Dig n q2 (dg d :: l)) := by
          have := dig_step hD.out (Or.inr hq0)
          rw [hd.out, hq2.out] at this
          exact this
        have hgk := hk2.out he
        have hg2 : 2 * q2 < gk := by have := hq2.out; omega
        clear he hq0 hgk
        go_wp2
        go_roundg (2 * q2)
        case measure => exact hg2
        case rel => exact ⟨q2, dg d :: l, dig d ++ out, rfl, rfl, hle, hout, hD2, fun h => by simp at h, fun _ => Nat.le_refl _, hB.alloc hB.size _⟩
end Go.Proofs.YtaabmkhckbndgaaGreatDoor.cm
