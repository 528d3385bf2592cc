/- Mathematics of books, no Go in sight: things put where they belong, stamped, over, asked for. -/
import Derived.Test.YtmnjmghlkiljhaaIx0
import Derived.Test.YtmnjmghlkiljhaaPx0
namespace Go.Proofs.Ytmnjmghlkiljhaa.rg
open Go.RowKit
open Go.Proofs.Ytmnjmghlkiljhaa.cm
set_option linter.unusedVariables false

theorem less_flip : ∀ x y : List UInt8, Op.bytesLess x y = false → x ≠ y → Op.bytesLess y x = true
  | [], [], _, h => absurd rfl h
  | [], b :: y, h, _ => by simp [Op.bytesLess] at h
  | a :: x, [], _, _ => by simp [Op.bytesLess]
  | a :: x, b :: y, h, hn => by
    simp only [Op.bytesLess, Bool.or_eq_false_iff, Bool.and_eq_false_iff, decide_eq_false_iff_not, beq_eq_false_iff_ne, Bool.or_eq_true, Bool.and_eq_true, decide_eq_true_eq, beq_iff_eq] at h ⊢
    obtain ⟨h1, h2⟩ := h
    by_cases e : a = b
    · subst e
      rcases h2 with h2 | h2
      · exact absurd rfl h2
      · exact .inr ⟨rfl, less_flip x y h2 (fun e => hn (by rw [e]))⟩
    · refine .inl ?_
      have h3 : ¬ a.toNat < b.toNat := h1
      have h4 : a.toNat ≠ b.toNat := fun q => e (UInt8.toNat_inj.1 q)
      show b.toNat < a.toNat
      omega
theorem bytes_eq {a b : ByteArray} (h : a.toList = b.toList) : a = b := by
  rw [ByteArray.toList_eq, ByteArray.toList_eq] at h
  cases a; cases b; simp at h; rw [h]
theorem ltS_total {a b : ByteArray} (h : ltS a b = false) (hn : a ≠ b) : ltS b a = true := less_flip _ _ h fun e => hn (bytes_eq e)

/-- in the order of their names -/
def Srt (l : List It) : Prop := l.Pairwise fun x y => ltS x.N y.N = true
theorem srt_map {l : List It} : (l.map (·.N)).Pairwise (fun x y => ltS x y = true) ↔ Srt l := List.pairwise_map
theorem BOk.srt {b : List It} (h : BOk b) : Srt b := srt_map.1 h.2.1
theorem bok_of {b : List It} (h1 : ∀ i ∈ b, itemB i = true) (h2 : Srt b) (h3 : b.length ≤ 20) : BOk b := ⟨h1, srt_map.2 h2, h3⟩
theorem Srt.one {l : List It} (h : Srt l) {x y : It} (hx : x ∈ l) (hy : y ∈ l) (e : x.N = y.N) : x = y := by
  induction l with
  | nil => simp at hx
  | cons a r ih =>
    obtain ⟨h1, h2⟩ := List.pairwise_cons.1 h
    rcases List.mem_cons.1 hx with rfl | hx'
    · rcases List.mem_cons.1 hy with rfl | hy'
      · rfl
      · exact absurd e (ltS_ne (h1 y hy'))
    · rcases List.mem_cons.1 hy with rfl | hy'
      · exact absurd e.symm (ltS_ne (h1 x hx'))
      · exact ih h2 hx' hy'

/-- a thing is put where it belongs -/
def behind (i : It) : List It → List It
  | [] => []
  | x :: r => if x.N = i.N then r else x :: r
theorem behind_yes {i x : It} (h : x.N = i.N) (r : List It) : behind i (x :: r) = r := if_pos h
theorem behind_no {i x : It} (h : x.N ≠ i.N) (r : List It) : behind i (x :: r) = x :: r := if_neg h
def putL (l : List It) (i : It) : List It := l.takeWhile (fun x => ltS x.N i.N) ++ i :: behind i (l.dropWhile fun x => ltS x.N i.N)
theorem put_cons (x : It) (l : List It) (i : It) : putL (x :: l) i = if ltS x.N i.N = true then x :: putL l i else i :: behind i (x :: l) := by
  unfold putL
  rw [List.takeWhile_cons, List.dropWhile_cons]
  cases ltS x.N i.N <;> simp
theorem put_mem {l : List It} (h : Srt l) (i : It) : ∀ x, x ∈ putL l i ↔ x = i ∨ (x ∈ l ∧ x.N ≠ i.N) := by
  induction l with
  | nil => intro x; simp [putL, behind]
  | cons y r ih =>
    obtain ⟨h1, h2⟩ := List.pairwise_cons.1 h
    intro x
    rw [put_cons]
    by_cases hy : ltS y.N i.N = true
    · rw [if_pos hy, List.mem_cons, ih h2 x, List.mem_cons]
      constructor
      · rintro (rfl | rfl | ⟨h3, h4⟩)
        · exact .inr ⟨.inl rfl, ltS_ne hy⟩
        · exact .inl rfl
        · exact .inr ⟨.inr h3, h4⟩
      · rintro (rfl | ⟨rfl | h3, h4⟩)
        · exact .inr (.inl rfl)
        · exact .inl rfl
        · exact .inr (.inr ⟨h3, h4⟩)
    · rw [if_neg hy, List.mem_cons]
      by_cases hn : y.N = i.N
      · rw [behind_yes hn]
        constructor
        · rintro (rfl | h3)
          · exact .inl rfl
          · exact .inr ⟨List.mem_cons_of_mem _ h3, fun e => ltS_ne (h1 x h3) (hn.trans e.symm)⟩
        · rintro (rfl | ⟨h3, h4⟩)
          · exact .inl rfl
          · rcases List.mem_cons.1 h3 with rfl | h3
            · exact absurd hn h4
            · exact .inr h3
      · rw [behind_no hn]
        constructor
        · rintro (rfl | h3)
          · exact .inl rfl
          · refine .inr ⟨h3, fun e => ?_⟩
            rcases List.mem_cons.1 h3 with rfl | h3
            · exact hn e
            · exact hy (e ▸ h1 x h3)
        · rintro (rfl | ⟨h3, h4⟩)
          · exact .inl rfl
          · exact .inr h3
theorem put_srt {l : List It} (h : Srt l) (i : It) : Srt (putL l i) := by
  induction l with
  | nil => simp [putL, behind, Srt]
  | cons y r ih =>
    obtain ⟨h1, h2⟩ := List.pairwise_cons.1 h
    rw [put_cons]
    by_cases hy : ltS y.N i.N = true
    · rw [if_pos hy]
      refine List.pairwise_cons.2 ⟨fun x hx => ?_, ih h2⟩
      rcases (put_mem h2 i x).1 hx with rfl | ⟨h3, -⟩
      · exact hy
      · exact h1 x h3
    · rw [if_neg hy]
      have hy' : ltS y.N i.N = false := by simpa using hy
      by_cases hn : y.N = i.N
      · rw [behind_yes hn]
        exact List.pairwise_cons.2 ⟨fun x hx => hn ▸ h1 x hx, h2⟩
      · rw [behind_no hn]
        have hi := ltS_total hy' hn
        refine List.pairwise_cons.2 ⟨fun x hx => ?_, h⟩
        rcases List.mem_cons.1 hx with rfl | hx
        · exact hi
        · exact ltS_trans hi (h1 x hx)
theorem put_len {l : List It} (h : Srt l) (i : It) : (putL l i).length ≤ l.length + 1 ∧ ((∃ x ∈ l, x.N = i.N) → (putL l i).length = l.length) := by
  induction l with
  | nil => exact ⟨by simp [putL, behind], fun ⟨x, hx, _⟩ => by simp at hx⟩
  | cons y r ih =>
    obtain ⟨h1, h2⟩ := List.pairwise_cons.1 h
    obtain ⟨i1, i2⟩ := ih h2
    rw [put_cons]
    by_cases hy : ltS y.N i.N = true
    · rw [if_pos hy]
      refine ⟨by simp; omega, fun ⟨x, hx, e⟩ => ?_⟩
      rcases List.mem_cons.1 hx with rfl | hx
      · exact absurd e (ltS_ne hy)
      · have := i2 ⟨x, hx, e⟩
        simp
        omega
    · rw [if_neg hy]
      by_cases hn : y.N = i.N
      · rw [behind_yes hn]
        exact ⟨by simp, fun _ => by simp⟩
      · rw [behind_no hn]
        refine ⟨by simp, fun ⟨x, hx, e⟩ => ?_⟩
        rcases List.mem_cons.1 hx with rfl | hx
        · exact absurd e hn
        · exact absurd (e ▸ h1 x hx) hy

/-- the one with a name -/
def lookI (l : List It) (s : ByteArray) : Option It := if 0 ≤ findI l s then l[(findI l s).toNat]? else none
theorem look_some {l : List It} {s : ByteArray} {x : It} (h : lookI l s = some x) : x ∈ l ∧ x.N = s ∧ ∃ k : Nat, ∃ hk : k < l.length, findI l s = k ∧ l[k] = x := by
  unfold lookI at h
  split at h
  · rename_i h0
    obtain ⟨k, hk, e1, e2⟩ := findI_at h0
    rw [e1, Int.toNat_natCast, List.getElem?_eq_getElem hk] at h
    have e3 : l[k] = x := Option.some.inj h
    rw [e3] at e2
    exact ⟨e3 ▸ List.getElem_mem hk, e2, k, hk, e1, e3⟩
  · cases h
theorem look_none {l : List It} {s : ByteArray} (h : lookI l s = none) : findI l s = -1 ∧ ∀ x ∈ l, x.N ≠ s := by
  have hneg : ¬ 0 ≤ findI l s := fun h0 => by
    unfold lookI at h
    rw [if_pos h0] at h
    obtain ⟨k, hk, e1, e2⟩ := findI_at h0
    rw [e1, Int.toNat_natCast, List.getElem?_eq_getElem hk] at h
    cases h
  have hb := posS_bd s (l.map (·.N))
  refine ⟨by unfold findI at hneg ⊢; omega, fun x hx e => hneg ?_⟩
  unfold findI
  exact posS_mem.1 (List.mem_map.2 ⟨x, hx, e⟩)
theorem look_mem {l : List It} (h : Srt l) {x : It} (hx : x ∈ l) : lookI l x.N = some x := by
  cases e : lookI l x.N with
  | none => exact absurd rfl ((look_none e).2 x hx)
  | some y =>
    obtain ⟨hy, hn, -⟩ := look_some e
    rw [h.one hy hx hn]

/-! ### books -/
structure Bk where
  I : List It
  X : Int
def Bk.zero : Bk := ⟨[], 0⟩
def Bk.new : Bk := ⟨[], 1⟩
def storeB (b : Bk) : Bool := bookB b.I && (decide (1 ≤ b.X) && decide (b.X ≤ 1000000))
structure StOk (b : Bk) : Prop where
  bk : BOk b.I
  x0 : 1 ≤ b.X
  x1 : b.X ≤ 1000000
theorem storeB_iff {b : Bk} : storeB b = true ↔ StOk b := by
  simp only [storeB, Bool.and_eq_true, decide_eq_true_eq, bookB_iff]
  exact ⟨fun ⟨h1, h2, h3⟩ => ⟨h1, h2, h3⟩, fun ⟨h1, h2, h3⟩ => ⟨h1, h2, h3⟩⟩
theorem new_ok : StOk Bk.new := ⟨⟨by simp [Bk.new], by simp [Bk.new], by simp [Bk.new]⟩, by decide, by decide⟩
def timeB (n : Int) : Bool := decide (0 ≤ n) && decide (n ≤ 1000000)
def ageL (l : List It) (now : Int) : List It := l.filter fun i => !overB i now
def goneL (l : List It) (now : Int) : List ByteArray := (l.filter fun i => overB i now).map (·.N)
def agR (b : Bk) (now : Int) : Bk := if (storeB b && timeB now) = true then ⟨ageL b.I now, b.X⟩ else Bk.zero
def agN (b : Bk) (now : Int) : List ByteArray := if (storeB b && timeB now) = true then goneL b.I now else []
theorem age_mem {l : List It} {now : Int} {x : It} : x ∈ ageL l now ↔ x ∈ l ∧ overB x now = false := by unfold ageL; rw [List.mem_filter]; simp
theorem age_ok {l : List It} (h : BOk l) (now : Int) : BOk (ageL l now) :=
  bok_of (fun i hi => h.1 i (age_mem.1 hi).1) (h.srt.filter _) (Nat.le_trans (List.length_filter_le _ _) h.2.2)
theorem age_twice (l : List It) (now : Int) : ageL (ageL l now) now = ageL l now ∧ goneL (ageL l now) now = [] := by
  constructor
  · unfold ageL
    rw [List.filter_filter]
    simp
  · unfold goneL
    have : (ageL l now).filter (fun i => overB i now) = [] := by
      rw [List.filter_eq_nil_iff]
      intro x hx
      rw [(age_mem.1 hx).2]
      decide
    rw [this]
    rfl
theorem age_len (l : List It) (now : Int) : (goneL l now).length + (ageL l now).length = l.length := by
  induction l with
  | nil => rfl
  | cons x r ih =>
    unfold goneL ageL at ih ⊢
    simp only [List.filter_cons, List.length_map] at ih ⊢
    cases overB x now <;> simp <;> omega
theorem gone_mem {l : List It} (h : Srt l) {now : Int} {x : It} (hx : x ∈ l) : x.N ∈ goneL l now ↔ overB x now = true := by
  unfold goneL
  rw [List.mem_map]
  constructor
  · rintro ⟨y, hy, e⟩
    obtain ⟨h1, h2⟩ := List.mem_filter.1 hy
    rw [← h.one h1 hx e]
    exact h2
  · exact fun ho => ⟨x, List.mem_filter.2 ⟨hx, ho⟩, rfl⟩
theorem stays_find {l : List It} (h : Srt l) {now : Int} {x : It} (hx : x ∈ l) : 0 ≤ findI (ageL l now) x.N ↔ overB x now = false := by
  constructor
  · intro h0
    obtain ⟨k, hk, e1, e2⟩ := findI_at h0
    obtain ⟨m1, m2⟩ := age_mem.1 (List.getElem_mem hk)
    rw [← h.one m1 hx e2]
    exact m2
  · intro ho
    unfold findI
    exact posS_mem.1 (List.mem_map.2 ⟨x, age_mem.2 ⟨hx, ho⟩, rfl⟩)
/-- at time 0 nothing is over -/
theorem age_zero {l : List It} (h : BOk l) : ageL l 0 = l := by
  unfold ageL
  rw [List.filter_eq_self]
  intro i hi
  have := (itemB_iff.1 (h.1 i hi)).u0
  unfold overB
  by_cases h0 : i.U = 0
  · simp [h0]
  · simp [h0]
    omega

/-! ### stamped -/
def stampI (b : Bk) (i : It) : It := ⟨i.N, i.F, i.B, b.X, i.U⟩
def stampOk (b : Bk) (i : It) : Bool := itemB (stampI b i) && decide (((putL b.I (stampI b i)).length : Int) ≤ 20)
def nextX (x : Int) : Int := if x + 1 > 1000000 then 1 else x + 1
def stampR (b : Bk) (i : It) : Bk := ⟨putL b.I (stampI b i), nextX b.X⟩
def stB (b : Bk) (i : It) : Bool := storeB b && stampOk b i
def stR (b : Bk) (i : It) : Bk := if storeB b = true then (if stampOk b i = true then stampR b i else b) else Bk.zero
theorem nextX_ok {x : Int} (h0 : 1 ≤ x) (h1 : x ≤ 1000000) : 1 ≤ nextX x ∧ nextX x ≤ 1000000 ∧ nextX x ≠ x := by unfold nextX; split <;> omega
theorem stamp_ok {b : Bk} (h : StOk b) {i : It} (hi : stampOk b i = true) : StOk (stampR b i) ∧ stampI b i ∈ (stampR b i).I ∧ ∀ x ∈ b.I, x.N ≠ i.N → x ∈ (stampR b i).I := by
  unfold stampOk at hi
  simp only [Bool.and_eq_true, decide_eq_true_eq] at hi
  obtain ⟨h1, h2⟩ := hi
  have hm := put_mem h.bk.srt (stampI b i)
  obtain ⟨n1, n2, -⟩ := nextX_ok h.x0 h.x1
  refine ⟨⟨bok_of (fun x hx => ?_) (put_srt h.bk.srt _) (by show (putL b.I (stampI b i)).length ≤ 20; omega), n1, n2⟩, (hm _).2 (.inl rfl), fun x hx hn => (hm x).2 (.inr ⟨hx, hn⟩)⟩
  rcases (hm x).1 hx with rfl | ⟨h3, -⟩
  · exact h1
  · exact h.bk.1 x h3
end Go.Proofs.Ytmnjmghlkiljhaa.rg
