/- Texts laid together: Cx2 Cx3 Px0 Bx0 Bx1. -/
import Derived.Test.YtjkkjpgebcnhgaaGreatDoorMg01
import Derived.Test.YtjkkjpgebcnhgaaGreatDoorMg00
/- Mathematics of commands, second part: what a line that is read is shown as; what stands at the head of bytes. -/
namespace Go.Proofs.YtjkkjpgebcnhgaaGreatDoor.cm
open Go.RowKit
open Go.Proofs.YtjkkjpgebcnhgaaGreatDoor.rg (nameB nbB nameB_size)
set_option linter.unusedVariables false

theorem list_two {l : List (List UInt8)} (h : 2 ≤ l.length) : ∃ a b r, l = a :: b :: r := by
  match l, h with
  | a :: b :: r, _ => exact ⟨a, b, r, rfl⟩
/-- the numbers of what is built are the numbers -/
theorem build_nums {v : Int} {q : Bool} {nm : ByteArray} {n : List Nat} (hl : n.length = want v) : numsK (build v q nm n) (sizeN v n) = n ∧ (build v q nm n).V = v ∧ (build v q nm n).N = nm ∧ (build v q nm n).Q = q ∧ (build v q nm n).B = emp ∧ (sized v = false → sizeN v n = 0) := by
  unfold want at hl
  unfold build sizeN numsK
  cases hfull : full v with
  | true =>
    have hs : sized v = true := by
      unfold full at hfull
      unfold sized
      simp at hfull ⊢
      omega
    rw [hfull, hs] at hl
    by_cases h8 : v = 8
    · have e8 : sized 8 = true := rfl
      have f8 : full 8 = true := rfl
      simp [h8] at hl
      match n, hl with
      | [a, b, c, d], _ => simp [h8, e8, f8, nth]
    · simp [h8] at hl
      match n, hl with
      | [a, b, c], _ => simp [h8, hs, hfull, nth]
  | false =>
    have h8 : v ≠ 8 := fun e => by rw [e] at hfull; simp [full] at hfull
    cases hs : sized v with
    | true =>
      rw [hfull, hs] at hl
      simp [h8] at hl
      match n, hl with
      | [a], _ => simp [h8, hs, hfull]
    | false =>
      by_cases h11 : v = 11
      · have e11 : sized 11 = false := rfl
        have f11 : full 11 = false := rfl
        rw [hfull, hs] at hl
        simp [h11] at hl
        match n, hl with
        | [a], _ => simp [h11, e11, f11, nth]
      · cases hst : stepV v with
        | true =>
          rw [hfull, hs, hst] at hl
          simp [h8, h11] at hl
          match n, hl with
          | [a], _ => simp [h8, h11, hs, hfull, hst, nth]
        | false =>
          rw [hfull, hs, hst] at hl
          simp [h8, h11] at hl
          rw [hl]
          simp [h8, h11, hs, hfull, hst]
/-- a line that is read is what it is shown as -/
theorem line_is {v : Int} {w : List (List UInt8)} {c : Cm} {k : Nat} (h : lineL v w = some (c, k)) (hw : w.head? = some (vw v)) : COk c ∧ c.V = v ∧ c.B = emp ∧ k ≤ 64 ∧ (sized v = false → k = 0) ∧ wordsK c k = w := by
  unfold lineL at h
  split at h
  · cases h
  · rename_i hn
    split at h
    · rename_i hy
      simp only [Option.some.injEq, Prod.mk.injEq] at h
      obtain ⟨hc, hk⟩ := h
      simp only [not_or, Classical.not_not, ne_eq] at hn
      obtain ⟨h1, h2, h3⟩ := hn
      obtain ⟨b1, b2, b3, b4, b5, b6⟩ := build_nums (v := v) (q := quietB v w) (nm := nameW v (plainW v w)) (n := (restW v (plainW v w)).map (val 0)) (by rw [List.length_map]; exact h3)
      rw [hc, hk] at b1
      rw [hc] at b2 b3 b4 b5
      rw [hk] at b6
      rw [hc, hk] at hy
      refine ⟨hy.2, b2, b5, hy.1, b6, ?_⟩
      have hd := map_digs h2
      unfold wordsK
      rw [b1, b2, b3, b4, hd]
      have hpl : vw v :: (if v = 13 then [] else [bs (nameW v (plainW v w))]) ++ restW v (plainW v w) = plainW v w := by
        have hhead : (plainW v w).head? = some (vw v) := by
          unfold plainW
          split
          · rename_i hq
            unfold quietB at hq
            simp only [Bool.and_eq_true, decide_eq_true_eq] at hq
            match w, hw, hq with
            | a :: b :: r, hw, _ => simpa using hw
          · exact hw
        unfold nameW restW
        by_cases h13 : v = 13
        · cases hp : plainW v w with
          | nil => rw [hp] at hhead; simp at hhead
          | cons a r =>
            rw [hp] at hhead
            have ha : a = vw v := by simpa using hhead
            simp [h13, ha]
        · obtain ⟨a, b, r, hp⟩ := list_two (l := plainW v w) (Nat.le_of_not_lt fun q => h1 ⟨h13, q⟩)
          rw [hp] at hhead ⊢
          have ha : a = vw v := by simpa using hhead
          simp [h13, ha, bs_tx]
      rw [hpl]
      unfold plainW
      cases hq : quietB v w with
      | false => simp
      | true =>
        simp only [if_true]
        unfold quietB at hq
        simp only [Bool.and_eq_true, decide_eq_true_eq, beq_iff_eq] at hq
        have hne : w ≠ [] := fun e => by rw [e] at hw; simp at hw
        have hl : w.getLast hne = quiet := by
          have := hq.1.1.2
          rw [List.getLast?_eq_some_getLast hne] at this
          simpa using this
        rw [← hl, List.dropLast_concat_getLast]
    · cases h

/-! ### what stands at the head -/
/-- the number of a verb's word; 0: it is none -/
def verbOf (w : List UInt8) : Int := ((verbs.findIdx? (· == w)).map fun i => (i : Int) + 1).getD 0
theorem verbOf_pos {w : List UInt8} (h : verbOf w ≠ 0) : 1 ≤ verbOf w ∧ verbOf w ≤ 13 ∧ vw (verbOf w) = w := by
  unfold verbOf at h ⊢
  cases e : verbs.findIdx? (· == w) with
  | none => rw [e] at h; simp at h
  | some i =>
    obtain ⟨hi, h2, -⟩ := List.findIdx?_eq_some_iff_getElem.1 e
    have hi' : i < 13 := hi
    refine ⟨by simp; omega, by simp; omega, ?_⟩
    show (verbs[(((i : Int) + 1) - 1).toNat]?).getD [] = w
    rw [Int.add_sub_cancel, Int.toNat_natCast, List.getElem?_eq_getElem hi]
    simpa using h2
/-- what is told of a whole line l and what stands behind it -/
noncomputable def cmdLine (l u : List UInt8) : Cm × Nat × Int :=
  if verbOf ((splitL 32 l).headD []) = 0 then (Cm.zero, l.length + 1, 2)
  else match lineL (verbOf ((splitL 32 l).headD [])) (splitL 32 l) with
    | none => (Cm.zero, l.length + 1, 3)
    | some (c, k) =>
      if sized c.V = false then (c, l.length + 1, 0)
      else if u.length ≤ k then (Cm.zero, 0, 1)
      else if u[k]? ≠ some 10 then (Cm.zero, l.length + 1, 3)
      else (⟨c.V, c.N, c.F, c.U, tx (u.take k), c.C, c.D, c.Q⟩, l.length + 1 + k + 1, 0)
/-- what is told of a line, one of four ways -/
inductive Told (l u : List UInt8) : Cm × Nat × Int → Prop
  | bad (k : Int) (h : k = 2 ∨ k = 3) : Told l u (Cm.zero, l.length + 1, k)
  | more (c : Cm) (k : Nat) (hc : COk c) (hb : c.B = emp) (hw : wordsL (wordsK c k) = l) (hs : sized c.V = true) (h : u.length ≤ k) (hk : k ≤ 64) : Told l u (Cm.zero, 0, 1)
  | plain (c : Cm) (hc : COk c) (hw : showL c = l ++ [10]) : Told l u (c, l.length + 1, 0)
  | bytes (c : Cm) (r : List UInt8) (hc : COk c) (hu : u = bs c.B ++ 10 :: r) (hw : showL c = l ++ 10 :: (bs c.B ++ [10])) : Told l u (c, (l.length + 1 + c.B.size) + 1, 0)
theorem told (l u : List UInt8) : Told l u (cmdLine l u) := by
  unfold cmdLine
  split
  · exact .bad 2 (.inl rfl)
  · rename_i hv
    obtain ⟨v0, v1, vv⟩ := verbOf_pos hv
    split
    · exact .bad 3 (.inr rfl)
    · rename_i c k e
      have hh : (splitL 32 l).head? = some (vw (verbOf ((splitL 32 l).headD []))) := by
        rw [vv]
        cases hs : splitL 32 l with
        | nil => exact absurd hs (splitL_ne _ _)
        | cons a r => rfl
      obtain ⟨b1, b2, b3, b4, b5, b6⟩ := line_is e hh
      rw [← b2] at b5
      have hl : wordsL (wordsK c k) = l := by rw [b6]; exact words_split l
      split
      · rename_i hs
        refine .plain c b1 ?_
        have hk := b5 hs
        unfold showL lineK
        rw [hs, b3, show emp.size = 0 from rfl, ← hk, hl]
        rfl
      · rename_i hs
        replace hs : sized c.V = true := by simpa using hs
        split
        · rename_i h
          exact .more c k b1 b3 hl hs h b4
        · rename_i h
          split
          · exact .bad 3 (.inr rfl)
          · rename_i h10
            have hk : (u.take k).length = k := by rw [List.length_take]; omega
            have h10' : u[k]? = some 10 := Classical.byContradiction h10
            have ok : COk ⟨c.V, c.N, c.F, c.U, tx (u.take k), c.C, c.D, c.Q⟩ := ⟨b1.v0, b1.v1, b1.q, b1.n0, b1.nm, b1.f, b1.u, fun q => (by rw [show sized c.V = false from q] at hs; exact absurd hs (by decide)), b1.c8, b1.d, b1.c1, b1.f1, b1.u1, by show (tx (u.take k)).size ≤ 64; rw [tx_size, hk]; exact b4, b1.d1⟩
            have hu : u = u.take k ++ 10 :: u.drop (k + 1) := by
              obtain ⟨hlt, h11⟩ := List.getElem?_eq_some_iff.1 h10'
              rw [← h11]
              simp
            have hsz : (tx (u.take k)).size = k := by rw [tx_size, hk]
            have := Told.bytes (l := l) (u := u) ⟨c.V, c.N, c.F, c.U, tx (u.take k), c.C, c.D, c.Q⟩ (u.drop (k + 1)) ok (by show u = bs (tx (u.take k)) ++ _; rw [bs_tx]; exact hu) (by
              show lineK _ (tx (u.take k)).size ++ 10 :: (if sized c.V then bs (tx (u.take k)) ++ [10] else []) = l ++ 10 :: (bs (tx (u.take k)) ++ [10])
              rw [hsz, hs, if_pos rfl]
              congr 1)
            dsimp only at this
            rw [hsz] at this
            exact this
end Go.Proofs.YtjkkjpgebcnhgaaGreatDoor.cm
/- Mathematics of commands, third part: what the laws FnCmds and FnCut say. -/
namespace Go.Proofs.YtjkkjpgebcnhgaaGreatDoor.cm
open Go.RowKit
open Go.Proofs.YtjkkjpgebcnhgaaGreatDoor.rg (nameB nbB nameB_size)
set_option linter.unusedVariables false

end Go.Proofs.YtjkkjpgebcnhgaaGreatDoor.cm
/- Mathematics of replies, no Go in sight: right ones, how they are shown; of whatever stands there at most one is shown so. -/
namespace Go.Proofs.YtjkkjpgebcnhgaaGreatDoor.cm
open Go.RowKit
open Go.Proofs.YtjkkjpgebcnhgaaGreatDoor.rg (nameB nbB nameB_size)
set_option linter.unusedVariables false

/-- a reply -/
structure Rp where
  K : Int
  N : ByteArray
  F : Int
  B : ByteArray
  C : Int
  M : Int
def Rp.zero : Rp := ⟨0, emp, 0, emp, 0, 0⟩
/-- a right one -/
structure POk (r : Rp) : Prop where
  k0 : 1 ≤ r.K
  k1 : r.K ≤ 12
  nm : r.K = 5 → nameB r.N = true
  n0 : r.K ≠ 5 → r.N = emp
  f1 : r.K = 5 → 0 ≤ r.F ∧ r.F ≤ 65535
  f0 : r.K ≠ 5 → r.F = 0
  b1 : r.B.size ≤ 64
  b0 : r.K ≠ 5 → r.B = emp
  c1 : r.K = 5 → 0 ≤ r.C ∧ r.C ≤ 1000000
  c0 : r.K ≠ 5 → r.C = 0
  m1 : r.K = 6 → 0 ≤ r.M ∧ r.M ≤ 999999999
  m0 : r.K ≠ 6 → r.M = 0
open Classical in
noncomputable def repB (r : Rp) : Bool := decide (POk r)
open Classical in
theorem repB_iff {r : Rp} : repB r = true ↔ POk r := by unfold repB; exact decide_eq_true_iff
end Go.Proofs.YtjkkjpgebcnhgaaGreatDoor.cm
/- Mathematics of books, no Go in sight: things put where they belong, stamped, over, asked for. -/
namespace Go.Proofs.YtjkkjpgebcnhgaaGreatDoor.rg
open Go.RowKit
open Go.Proofs.YtjkkjpgebcnhgaaGreatDoor.cm
set_option linter.unusedVariables false

theorem less_flip : ∀ x y : List UInt8, Op.bytesLess x y = false → x ≠ y → Op.bytesLess y x = true
  | [], [], _, h => absurd rfl h
  | [], b :: y, h, _ => by simp [Op.bytesLess] at h
  | a :: x, [], _, _ => by simp [Op.bytesLess]
  | a :: x, b :: y, h, hn => by
    simp only [Op.bytesLess, Bool.or_eq_false_iff, Bool.and_eq_false_iff, decide_eq_false_iff_not, beq_eq_false_iff_ne, Bool.or_eq_true, Bool.and_eq_true, decide_eq_true_eq, beq_iff_eq] at h ⊢
    obtain ⟨h1, h2⟩ := h
    by_cases e : a = b
    · subst e
      rcases h2 with h2 | h2
      · exact absurd rfl h2
      · exact .inr ⟨rfl, less_flip x y h2 (fun e => hn (by rw [e]))⟩
    · refine .inl ?_
      have h3 : ¬ a.toNat < b.toNat := h1
      have h4 : a.toNat ≠ b.toNat := fun q => e (UInt8.toNat_inj.1 q)
      show b.toNat < a.toNat
      omega
theorem bytes_eq {a b : ByteArray} (h : a.toList = b.toList) : a = b := by
  rw [ByteArray.toList_eq, ByteArray.toList_eq] at h
  cases a; cases b; simp at h; rw [h]
theorem ltS_total {a b : ByteArray} (h : ltS a b = false) (hn : a ≠ b) : ltS b a = true := less_flip _ _ h fun e => hn (bytes_eq e)

/-- in the order of their names -/
def Srt (l : List It) : Prop := l.Pairwise fun x y => ltS x.N y.N = true
theorem srt_map {l : List It} : (l.map (·.N)).Pairwise (fun x y => ltS x y = true) ↔ Srt l := List.pairwise_map
theorem BOk.srt {b : List It} (h : BOk b) : Srt b := srt_map.1 h.2.1
theorem bok_of {b : List It} (h1 : ∀ i ∈ b, itemB i = true) (h2 : Srt b) (h3 : b.length ≤ 20) : BOk b := ⟨h1, srt_map.2 h2, h3⟩
theorem Srt.one {l : List It} (h : Srt l) {x y : It} (hx : x ∈ l) (hy : y ∈ l) (e : x.N = y.N) : x = y := by
  induction l with
  | nil => simp at hx
  | cons a r ih =>
    obtain ⟨h1, h2⟩ := List.pairwise_cons.1 h
    rcases List.mem_cons.1 hx with rfl | hx'
    · rcases List.mem_cons.1 hy with rfl | hy'
      · rfl
      · exact absurd e (ltS_ne (h1 y hy'))
    · rcases List.mem_cons.1 hy with rfl | hy'
      · exact absurd e.symm (ltS_ne (h1 x hx'))
      · exact ih h2 hx' hy'

/-- a thing is put where it belongs -/
def behind (i : It) : List It → List It
  | [] => []
  | x :: r => if x.N = i.N then r else x :: r
theorem behind_yes {i x : It} (h : x.N = i.N) (r : List It) : behind i (x :: r) = r := if_pos h
theorem behind_no {i x : It} (h : x.N ≠ i.N) (r : List It) : behind i (x :: r) = x :: r := if_neg h
def putL (l : List It) (i : It) : List It := l.takeWhile (fun x => ltS x.N i.N) ++ i :: behind i (l.dropWhile fun x => ltS x.N i.N)
theorem put_cons (x : It) (l : List It) (i : It) : putL (x :: l) i = if ltS x.N i.N = true then x :: putL l i else i :: behind i (x :: l) := by
  unfold putL
  rw [List.takeWhile_cons, List.dropWhile_cons]
  cases ltS x.N i.N <;> simp
theorem put_mem {l : List It} (h : Srt l) (i : It) : ∀ x, x ∈ putL l i ↔ x = i ∨ (x ∈ l ∧ x.N ≠ i.N) := by
  induction l with
  | nil => intro x; simp [putL, behind]
  | cons y r ih =>
    obtain ⟨h1, h2⟩ := List.pairwise_cons.1 h
    intro x
    rw [put_cons]
    by_cases hy : ltS y.N i.N = true
    · rw [if_pos hy, List.mem_cons, ih h2 x, List.mem_cons]
      constructor
      · rintro (rfl | rfl | ⟨h3, h4⟩)
        · exact .inr ⟨.inl rfl, ltS_ne hy⟩
        · exact .inl rfl
        · exact .inr ⟨.inr h3, h4⟩
      · rintro (rfl | ⟨rfl | h3, h4⟩)
        · exact .inr (.inl rfl)
        · exact .inl rfl
        · exact .inr (.inr ⟨h3, h4⟩)
    · rw [if_neg hy, List.mem_cons]
      by_cases hn : y.N = i.N
      · rw [behind_yes hn]
        constructor
        · rintro (rfl | h3)
          · exact .inl rfl
          · exact .inr ⟨List.mem_cons_of_mem _ h3, fun e => ltS_ne (h1 x h3) (hn.trans e.symm)⟩
        · rintro (rfl | ⟨h3, h4⟩)
          · exact .inl rfl
          · rcases List.mem_cons.1 h3 with rfl | h3
            · exact absurd hn h4
            · exact .inr h3
      · rw [behind_no hn]
        constructor
        · rintro (rfl | h3)
          · exact .inl rfl
          · refine .inr ⟨h3, fun e => ?_⟩
            rcases List.mem_cons.1 h3 with rfl | h3
            · exact hn e
            · exact hy (e ▸ h1 x h3)
        · rintro (rfl | ⟨h3, h4⟩)
          · exact .inl rfl
          · exact .inr h3
theorem put_srt {l : List It} (h : Srt l) (i : It) : Srt (putL l i) := by
  induction l with
  | nil => simp [putL, behind, Srt]
  | cons y r ih =>
    obtain ⟨h1, h2⟩ := List.pairwise_cons.1 h
    rw [put_cons]
    by_cases hy : ltS y.N i.N = true
    · rw [if_pos hy]
      refine List.pairwise_cons.2 ⟨fun x hx => ?_, ih h2⟩
      rcases (put_mem h2 i x).1 hx with rfl | ⟨h3, -⟩
      · exact hy
      · exact h1 x h3
    · rw [if_neg hy]
      have hy' : ltS y.N i.N = false := by simpa using hy
      by_cases hn : y.N = i.N
      · rw [behind_yes hn]
        exact List.pairwise_cons.2 ⟨fun x hx => hn ▸ h1 x hx, h2⟩
      · rw [behind_no hn]
        have hi := ltS_total hy' hn
        refine List.pairwise_cons.2 ⟨fun x hx => ?_, h⟩
        rcases List.mem_cons.1 hx with rfl | hx
        · exact hi
        · exact ltS_trans hi (h1 x hx)
theorem put_len {l : List It} (h : Srt l) (i : It) : (putL l i).length ≤ l.length + 1 ∧ ((∃ x ∈ l, x.N = i.N) → (putL l i).length = l.length) := by
  induction l with
  | nil => exact ⟨by simp [putL, behind], fun ⟨x, hx, _⟩ => by simp at hx⟩
  | cons y r ih =>
    obtain ⟨h1, h2⟩ := List.pairwise_cons.1 h
    obtain ⟨i1, i2⟩ := ih h2
    rw [put_cons]
    by_cases hy : ltS y.N i.N = true
    · rw [if_pos hy]
      refine ⟨by simp; omega, fun ⟨x, hx, e⟩ => ?_⟩
      rcases List.mem_cons.1 hx with rfl | hx
      · exact absurd e (ltS_ne hy)
      · have := i2 ⟨x, hx, e⟩
        simp
        omega
    · rw [if_neg hy]
      by_cases hn : y.N = i.N
      · rw [behind_yes hn]
        exact ⟨by simp, fun _ => by simp⟩
      · rw [behind_no hn]
        refine ⟨by simp, fun ⟨x, hx, e⟩ => ?_⟩
        rcases List.mem_cons.1 hx with rfl | hx
        · exact absurd e hn
        · exact absurd (e ▸ h1 x hx) hy

/-- the one with a name -/
def lookI (l : List It) (s : ByteArray) : Option It := if 0 ≤ findI l s then l[(findI l s).toNat]? else none
theorem look_some {l : List It} {s : ByteArray} {x : It} (h : lookI l s = some x) : x ∈ l ∧ x.N = s ∧ ∃ k : Nat, ∃ hk : k < l.length, findI l s = k ∧ l[k] = x := by
  unfold lookI at h
  split at h
  · rename_i h0
    obtain ⟨k, hk, e1, e2⟩ := findI_at h0
    rw [e1, Int.toNat_natCast, List.getElem?_eq_getElem hk] at h
    have e3 : l[k] = x := Option.some.inj h
    rw [e3] at e2
    exact ⟨e3 ▸ List.getElem_mem hk, e2, k, hk, e1, e3⟩
  · cases h
theorem look_none {l : List It} {s : ByteArray} (h : lookI l s = none) : findI l s = -1 ∧ ∀ x ∈ l, x.N ≠ s := by
  have hneg : ¬ 0 ≤ findI l s := fun h0 => by
    unfold lookI at h
    rw [if_pos h0] at h
    obtain ⟨k, hk, e1, e2⟩ := findI_at h0
    rw [e1, Int.toNat_natCast, List.getElem?_eq_getElem hk] at h
    cases h
  have hb := posS_bd s (l.map (·.N))
  refine ⟨by unfold findI at hneg ⊢; omega, fun x hx e => hneg ?_⟩
  unfold findI
  exact posS_mem.1 (List.mem_map.2 ⟨x, hx, e⟩)
theorem look_mem {l : List It} (h : Srt l) {x : It} (hx : x ∈ l) : lookI l x.N = some x := by
  cases e : lookI l x.N with
  | none => exact absurd rfl ((look_none e).2 x hx)
  | some y =>
    obtain ⟨hy, hn, -⟩ := look_some e
    rw [h.one hy hx hn]

/-! ### books -/
structure Bk where
  I : List It
  X : Int
def Bk.zero : Bk := ⟨[], 0⟩
def Bk.new : Bk := ⟨[], 1⟩
def storeB (b : Bk) : Bool := bookB b.I && (decide (1 ≤ b.X) && decide (b.X ≤ 1000000))
structure StOk (b : Bk) : Prop where
  bk : BOk b.I
  x0 : 1 ≤ b.X
  x1 : b.X ≤ 1000000
theorem storeB_iff {b : Bk} : storeB b = true ↔ StOk b := by
  simp only [storeB, Bool.and_eq_true, decide_eq_true_eq, bookB_iff]
  exact ⟨fun ⟨h1, h2, h3⟩ => ⟨h1, h2, h3⟩, fun ⟨h1, h2, h3⟩ => ⟨h1, h2, h3⟩⟩
def timeB (n : Int) : Bool := decide (0 ≤ n) && decide (n ≤ 1000000)
def ageL (l : List It) (now : Int) : List It := l.filter fun i => !overB i now
def goneL (l : List It) (now : Int) : List ByteArray := (l.filter fun i => overB i now).map (·.N)
def agR (b : Bk) (now : Int) : Bk := if (storeB b && timeB now) = true then ⟨ageL b.I now, b.X⟩ else Bk.zero
def agN (b : Bk) (now : Int) : List ByteArray := if (storeB b && timeB now) = true then goneL b.I now else []
theorem age_mem {l : List It} {now : Int} {x : It} : x ∈ ageL l now ↔ x ∈ l ∧ overB x now = false := by unfold ageL; rw [List.mem_filter]; simp
theorem age_ok {l : List It} (h : BOk l) (now : Int) : BOk (ageL l now) :=
  bok_of (fun i hi => h.1 i (age_mem.1 hi).1) (h.srt.filter _) (Nat.le_trans (List.length_filter_le _ _) h.2.2)
/-! ### stamped -/
def stampI (b : Bk) (i : It) : It := ⟨i.N, i.F, i.B, b.X, i.U⟩
def stampOk (b : Bk) (i : It) : Bool := itemB (stampI b i) && decide (((putL b.I (stampI b i)).length : Int) ≤ 20)
def nextX (x : Int) : Int := if x + 1 > 1000000 then 1 else x + 1
def stampR (b : Bk) (i : It) : Bk := ⟨putL b.I (stampI b i), nextX b.X⟩
def stB (b : Bk) (i : It) : Bool := storeB b && stampOk b i
def stR (b : Bk) (i : It) : Bk := if storeB b = true then (if stampOk b i = true then stampR b i else b) else Bk.zero
theorem nextX_ok {x : Int} (h0 : 1 ≤ x) (h1 : x ≤ 1000000) : 1 ≤ nextX x ∧ nextX x ≤ 1000000 ∧ nextX x ≠ x := by unfold nextX; split <;> omega
theorem stamp_ok {b : Bk} (h : StOk b) {i : It} (hi : stampOk b i = true) : StOk (stampR b i) ∧ stampI b i ∈ (stampR b i).I ∧ ∀ x ∈ b.I, x.N ≠ i.N → x ∈ (stampR b i).I := by
  unfold stampOk at hi
  simp only [Bool.and_eq_true, decide_eq_true_eq] at hi
  obtain ⟨h1, h2⟩ := hi
  have hm := put_mem h.bk.srt (stampI b i)
  obtain ⟨n1, n2, -⟩ := nextX_ok h.x0 h.x1
  refine ⟨⟨bok_of (fun x hx => ?_) (put_srt h.bk.srt _) (by show (putL b.I (stampI b i)).length ≤ 20; omega), n1, n2⟩, (hm _).2 (.inl rfl), fun x hx hn => (hm x).2 (.inr ⟨hx, hn⟩)⟩
  rcases (hm x).1 hx with rfl | ⟨h3, -⟩
  · exact h1
  · exact h.bk.1 x h3
end Go.Proofs.YtjkkjpgebcnhgaaGreatDoor.rg
/- Mathematics of books, second part: what a command does to a book; what the laws FnBooks, FnCas say. -/
namespace Go.Proofs.YtjkkjpgebcnhgaaGreatDoor.rg
open Go.RowKit
open Go.Proofs.YtjkkjpgebcnhgaaGreatDoor.cm
set_option linter.unusedVariables false

def rp (k : Int) : Rp := ⟨k, emp, 0, emp, 0, 0⟩
def fresh (c : Cm) : It := ⟨c.N, c.F, c.B, 0, c.U⟩
def keepK (b : Bk) (i : It) : Bk × Rp := if stampOk b i = true then (stampR b i, rp 1) else (b, rp 2)
def keepBig (b : Bk) (i : It) : Bk × Rp := if i.B.size > 64 then (b, rp 12) else keepK b i
def touchI (u : Int) (x : It) : It := ⟨x.N, x.F, x.B, x.C, u⟩
def touchL (l : List It) (s : ByteArray) (u : Int) : List It := l.map fun x => if x.N = s then touchI u x else x
def dropL (l : List It) (s : ByteArray) : List It := l.filter fun x => decide (x.N ≠ s)
/-- a number from 0 on, as it is shown -/
def numB (s : ByteArray) : Option Nat := if canon (bs s) = true then some (val 0 (bs s)) else none
def upN (c : Cm) (n : Nat) : Nat := if c.V = 9 then (n + c.D.toNat) % 1000000000 else n - c.D.toNat
def withB (o : It) (l : List UInt8) : It := ⟨o.N, o.F, tx l, o.C, o.U⟩
def doK (b : Bk) (c : Cm) : Bk × Rp :=
  if c.V = 13 then (⟨[], b.X⟩, rp 9)
  else if c.V = 3 then keepK b (fresh c)
  else match lookI b.I c.N with
  | none => if c.V = 4 then keepK b (fresh c) else if c.V = 5 ∨ c.V = 6 ∨ c.V = 7 then (b, rp 2) else (b, rp 4)
  | some o =>
    if c.V = 4 then (b, rp 2)
    else if c.V = 5 then keepBig b (fresh c)
    else if c.V = 6 then keepBig b (withB o (bs o.B ++ bs c.B))
    else if c.V = 7 then keepBig b (withB o (bs c.B ++ bs o.B))
    else if c.V = 1 ∨ c.V = 2 then (b, ⟨5, o.N, o.F, o.B, if c.V = 2 then o.C else 0, 0⟩)
    else if c.V = 8 then (if o.C = c.C then keepK b (fresh c) else (b, rp 3))
    else if c.V = 11 then (⟨touchL b.I c.N c.U, b.X⟩, rp 7)
    else if c.V = 12 then (⟨dropL b.I c.N, b.X⟩, rp 8)
    else match numB o.B with
      | none => (b, rp 11)
      | some n => ((if stampOk b (withB o (digs (upN c n))) = true then stampR b (withB o (digs (upN c n))) else b), ⟨6, emp, 0, emp, 0, (upN c n : Int)⟩)
open Classical in
noncomputable def diR (b : Bk) (c : Cm) (now : Int) : Bk × Rp :=
  if (storeB b && timeB now) = true then (if cmdB c = true then doK (agR b now) c else (b, rp 10)) else (Bk.zero, rp 10)

theorem rp_ok {k : Int} (h0 : 1 ≤ k) (h1 : k ≤ 12) (h5 : k ≠ 5) (h6 : k ≠ 6) : POk (rp k) :=
  ⟨h0, h1, fun h => absurd h h5, fun _ => rfl, fun h => absurd h h5, fun _ => rfl, by show emp.size ≤ 64; decide, fun _ => rfl, fun h => absurd h h5, fun _ => rfl, fun h => absurd h h6, fun _ => rfl⟩
theorem touch_map (l : List It) (s : ByteArray) (u : Int) : (touchL l s u).map (·.N) = l.map (·.N) := by
  unfold touchL
  rw [List.map_map]
  refine List.map_congr_left fun x _ => ?_
  show (if x.N = s then touchI u x else x).N = x.N
  split <;> rfl
theorem touch_ok {l : List It} (h : BOk l) (s : ByteArray) {u : Int} (h0 : 0 ≤ u) (h1 : u ≤ 1000000) : BOk (touchL l s u) := by
  refine ⟨fun i hi => ?_, by rw [touch_map]; exact h.2.1, by unfold touchL; rw [List.length_map]; exact h.2.2⟩
  obtain ⟨x, hx, rfl⟩ := List.mem_map.1 hi
  have hk := itemB_iff.1 (h.1 x hx)
  split
  · exact itemB_iff.2 ⟨hk.nm, hk.f0, hk.f1, hk.b1, hk.c0, hk.c1, h0, h1⟩
  · exact h.1 x hx
theorem touch_stays {l : List It} {s : ByteArray} {u : Int} {x : It} (hx : x ∈ l) (hn : x.N ≠ s) : x ∈ touchL l s u := List.mem_map.2 ⟨x, hx, if_neg hn⟩
/-- by its place -/
theorem touch_at {l : List It} (h : Srt l) {k : Nat} (hk : k < l.length) (u : Int) : touchL l l[k].N u = l.set k (touchI u l[k]) := by
  have e0 : touchL l l[k].N u = l.map fun x => if x.N = l[k].N then touchI u x else x := rfl
  rw [e0]
  refine List.ext_getElem (by simp) fun j h1 h2 => ?_
  rw [List.getElem_map, List.getElem_set]
  have hj : j < l.length := by simpa using h1
  by_cases e : k = j
  · subst e
    rw [if_pos rfl, if_pos rfl]
  · rw [if_neg e, if_neg]
    intro en
    rcases Nat.lt_or_gt_of_ne e with q | q
    · exact ltS_ne (List.pairwise_iff_getElem.1 h k j hk hj q) en.symm
    · exact ltS_ne (List.pairwise_iff_getElem.1 h j k hj hk q) en
theorem drop_at {l : List It} (h : Srt l) {k : Nat} (hk : k < l.length) : dropL l l[k].N = l.take k ++ l.drop (k + 1) := by
  have h1 : l = l.take k ++ l[k] :: l.drop (k + 1) := by simp
  have h0 : ∀ s : ByteArray, dropL l s = (l.take k ++ l[k] :: l.drop (k + 1)).filter fun x => decide (x.N ≠ s) := fun s => by rw [← h1]; rfl
  rw [h0, List.filter_append, List.filter_cons, if_neg (by simp)]
  congr 1
  · rw [List.filter_eq_self]
    intro x hx
    obtain ⟨j, hj, e⟩ := List.mem_iff_getElem.1 hx
    simp at hj e
    rw [← e]
    exact decide_eq_true (ltS_ne (List.pairwise_iff_getElem.1 h j k (by omega) hk (by omega)))
  · rw [List.filter_eq_self]
    intro x hx
    obtain ⟨j, hj, e⟩ := List.mem_iff_getElem.1 hx
    simp at hj e
    rw [← e]
    exact decide_eq_true fun q => ltS_ne (List.pairwise_iff_getElem.1 h k (k + 1 + j) hk (by omega) (by omega)) q.symm
theorem drop_no {l : List It} {s : ByteArray} (h : ∀ x ∈ l, x.N ≠ s) : dropL l s = l := by
  unfold dropL
  rw [List.filter_eq_self]
  exact fun x hx => decide_eq_true (h x hx)
theorem drop_ok {l : List It} (h : BOk l) (s : ByteArray) : BOk (dropL l s) :=
  bok_of (fun i hi => h.1 i (List.mem_filter.1 hi).1) (h.srt.filter _) (Nat.le_trans (List.length_filter_le _ _) h.2.2)
theorem drop_stays {l : List It} {s : ByteArray} {x : It} (hx : x ∈ l) (hn : x.N ≠ s) : x ∈ dropL l s := List.mem_filter.2 ⟨hx, decide_eq_true hn⟩

/-- what FnBooks says of a right command on a right book -/
structure Did (a : Bk) (c : Cm) (r : Bk × Rp) : Prop where
  ok : StOk r.1
  rk : POk r.2
  stay : c.V ≠ 13 → ∀ y ∈ a.I, y.N ≠ c.N → y ∈ r.1.I
  new : r.2.K = 1 ∨ r.2.K = 6 → ∃ y ∈ r.1.I, y.N = c.N ∧ y.C = a.X
  same : r.2.K ≠ 1 → r.2.K ≠ 6 → c.V = 11 ∨ c.V = 12 ∨ c.V = 13 ∨ r.1 = a
theorem did_same {a : Bk} {c : Cm} (h : StOk a) {r : Rp} (hr : POk r) (h1 : r.K ≠ 1) (h6 : r.K ≠ 6) : Did a c (a, r) :=
  ⟨h, hr, fun _ y hy _ => hy, fun q => by rcases q with q | q; exact absurd q h1; exact absurd q h6, fun _ _ => .inr (.inr (.inr rfl))⟩
theorem did_keep {a : Bk} {c : Cm} (h : StOk a) {i : It} (hi : i.N = c.N) : Did a c (keepK a i) := by
  unfold keepK
  split
  · rename_i hs
    obtain ⟨s1, s2, s3⟩ := stamp_ok h hs
    exact ⟨s1, rp_ok (by decide) (by decide) (by decide) (by decide), fun _ y hy hn => s3 y hy (by rw [hi]; exact hn), fun _ => ⟨_, s2, hi, rfl⟩, fun q _ => absurd rfl q⟩
  · exact did_same h (rp_ok (by decide) (by decide) (by decide) (by decide)) (by decide) (by decide)
theorem did_big {a : Bk} {c : Cm} (h : StOk a) {i : It} (hi : i.N = c.N) : Did a c (keepBig a i) := by
  unfold keepBig
  split
  · exact did_same h (rp_ok (by decide) (by decide) (by decide) (by decide)) (by decide) (by decide)
  · exact did_keep h hi
theorem up_le {c : Cm} {n : Nat} (h : n ≤ 999999999) : upN c n ≤ 999999999 := by
  unfold upN
  split
  · have := Nat.mod_lt (n + c.D.toNat) (show 0 < 1000000000 by decide)
    omega
  · omega
theorem numB_some {s : ByteArray} {n : Nat} (h : numB s = some n) : canon (bs s) = true ∧ val 0 (bs s) = n ∧ n ≤ 999999999 := by
  unfold numB at h
  split at h
  · rename_i hc
    have := Option.some.inj h
    exact ⟨hc, this, by rw [← this]; exact val_canon hc⟩
  · cases h
/-- a number in the place of a thing's bytes is always stamped -/
theorem stamp_num {a : Bk} (h : StOk a) {o : It} (ho : o ∈ a.I) {m : Nat} (hm : m ≤ 999999999) : stampOk a (withB o (digs m)) = true := by
  have hk := itemB_iff.1 (h.bk.1 o ho)
  have hl : (digs m).length ≤ 9 := digs_len 8 m (by omega)
  have hp := (put_len h.bk.srt (stampI a (withB o (digs m)))).2 ⟨o, ho, rfl⟩
  have h20 := h.bk.2.2
  unfold stampOk
  rw [hp]
  simp only [Bool.and_eq_true, decide_eq_true_eq]
  refine ⟨itemB_iff.2 ⟨hk.nm, hk.f0, hk.f1, ?_, h.x0, h.x1, hk.u0, hk.u1⟩, by omega⟩
  show (tx (digs m)).size ≤ 64
  rw [tx_size]
  omega
theorem do_none {a : Bk} {c : Cm} (h : StOk a) : Did a c (if c.V = 4 then keepK a (fresh c) else if c.V = 5 ∨ c.V = 6 ∨ c.V = 7 then (a, rp 2) else (a, rp 4)) := by
  by_cases h4 : c.V = 4
  · rw [if_pos h4]
    exact did_keep h rfl
  · rw [if_neg h4]
    by_cases h5 : c.V = 5 ∨ c.V = 6 ∨ c.V = 7
    · rw [if_pos h5]
      exact did_same h (rp_ok (by decide) (by decide) (by decide) (by decide)) (by decide) (by decide)
    · rw [if_neg h5]
      exact did_same h (rp_ok (by decide) (by decide) (by decide) (by decide)) (by decide) (by decide)
theorem do_up {a : Bk} {c : Cm} (h : StOk a) {o : It} (ho : o ∈ a.I) (hn : o.N = c.N) : Did a c (match numB o.B with
      | none => (a, rp 11)
      | some n => ((if stampOk a (withB o (digs (upN c n))) = true then stampR a (withB o (digs (upN c n))) else a), ⟨6, emp, 0, emp, 0, (upN c n : Int)⟩)) := by
  cases hnum : numB o.B with
  | none => exact did_same h (rp_ok (by decide) (by decide) (by decide) (by decide)) (by decide) (by decide)
  | some n =>
    obtain ⟨-, -, hle⟩ := numB_some hnum
    have hu := up_le (c := c) hle
    have hs := stamp_num h ho hu
    obtain ⟨s1, s2, s3⟩ := stamp_ok h hs
    dsimp only
    rw [if_pos hs]
    refine ⟨s1, ⟨by show (1 : Int) ≤ 6; decide, by show (6 : Int) ≤ 12; decide, fun q => absurd q (by show ¬ ((6 : Int) = 5); decide), fun _ => rfl, fun q => absurd q (by show ¬ ((6 : Int) = 5); decide), fun _ => rfl, by show emp.size ≤ 64; decide, fun _ => rfl, fun q => absurd q (by show ¬ ((6 : Int) = 5); decide), fun _ => rfl, fun _ => ?_, fun q => absurd rfl q⟩, fun _ y hy hn2 => s3 y hy (by show y.N ≠ o.N; rw [hn]; exact hn2), fun _ => ⟨_, s2, hn, rfl⟩, fun _ q => absurd rfl q⟩
    show (0 : Int) ≤ (upN c n : Int) ∧ (upN c n : Int) ≤ 999999999
    omega
theorem no16 {r : Rp} {P : Prop} (h1 : r.K ≠ 1) (h6 : r.K ≠ 6) : r.K = 1 ∨ r.K = 6 → P := fun q => by
  rcases q with q | q
  · exact absurd q h1
  · exact absurd q h6
theorem do_did {a : Bk} {c : Cm} (h : StOk a) (hc : COk c) : Did a c (doK a c) := by
  unfold doK
  by_cases h13 : c.V = 13
  · rw [if_pos h13]
    exact ⟨⟨⟨by simp, by simp, by simp⟩, h.x0, h.x1⟩, rp_ok (by decide) (by decide) (by decide) (by decide), fun q => absurd h13 q, no16 (r := rp 9) (by decide) (by decide), fun _ _ => .inr (.inr (.inl h13))⟩
  rw [if_neg h13]
  by_cases h3 : c.V = 3
  · rw [if_pos h3]
    exact did_keep h rfl
  rw [if_neg h3]
  cases e : lookI a.I c.N with
  | none => exact do_none h
  | some o =>
    obtain ⟨ho, hn, -⟩ := look_some e
    have hk := itemB_iff.1 (h.bk.1 o ho)
    dsimp only
    by_cases h4 : c.V = 4
    · rw [if_pos h4]
      exact did_same h (rp_ok (by decide) (by decide) (by decide) (by decide)) (by decide) (by decide)
    rw [if_neg h4]
    by_cases h5 : c.V = 5
    · rw [if_pos h5]
      exact did_big h rfl
    rw [if_neg h5]
    by_cases h6 : c.V = 6
    · rw [if_pos h6]
      exact did_big h hn
    rw [if_neg h6]
    by_cases h7 : c.V = 7
    · rw [if_pos h7]
      exact did_big h hn
    rw [if_neg h7]
    by_cases h12 : c.V = 1 ∨ c.V = 2
    · rw [if_pos h12]
      refine did_same h ⟨by show (1 : Int) ≤ 5; decide, by show (5 : Int) ≤ 12; decide, fun _ => hk.nm, fun q => absurd rfl q, fun _ => ⟨hk.f0, hk.f1⟩, fun q => absurd rfl q, hk.b1, fun q => absurd rfl q, fun _ => ?_, fun q => absurd rfl q, fun q => absurd q (by show ¬ ((5 : Int) = 6); decide), fun _ => rfl⟩ (by show (5 : Int) ≠ 1; decide) (by show (5 : Int) ≠ 6; decide)
      have q1 := hk.c0
      have q2 := hk.c1
      show (0 : Int) ≤ (if c.V = 2 then o.C else 0) ∧ (if c.V = 2 then o.C else 0) ≤ 1000000
      by_cases h2 : c.V = 2
      · rw [if_pos h2]
        omega
      · rw [if_neg h2]
        omega
    rw [if_neg h12]
    by_cases h8 : c.V = 8
    · rw [if_pos h8]
      by_cases hx : o.C = c.C
      · rw [if_pos hx]
        exact did_keep h rfl
      · rw [if_neg hx]
        exact did_same h (rp_ok (by decide) (by decide) (by decide) (by decide)) (by decide) (by decide)
    rw [if_neg h8]
    by_cases h11 : c.V = 11
    · rw [if_pos h11]
      exact ⟨⟨touch_ok h.bk _ hc.u1.1 hc.u1.2, h.x0, h.x1⟩, rp_ok (by decide) (by decide) (by decide) (by decide), fun _ y hy hn => touch_stays hy hn, no16 (r := rp 7) (by decide) (by decide), fun _ _ => .inl h11⟩
    rw [if_neg h11]
    by_cases hcut : c.V = 12
    · rw [if_pos hcut]
      exact ⟨⟨drop_ok h.bk _, h.x0, h.x1⟩, rp_ok (by decide) (by decide) (by decide) (by decide), fun _ y hy hn => drop_stays hy hn, no16 (r := rp 8) (by decide) (by decide), fun _ _ => .inr (.inl hcut)⟩
    rw [if_neg hcut]
    exact do_up h ho hn

end Go.Proofs.YtjkkjpgebcnhgaaGreatDoor.rg
