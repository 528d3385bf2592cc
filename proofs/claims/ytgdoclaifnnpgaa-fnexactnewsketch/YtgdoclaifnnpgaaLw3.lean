/- Contracts of the laws' helpers that write numbers into a sketch's rows and look for them. -/
import Derived.Test.YtgdoclaifnnpgaaLw2
namespace Go.Proofs.Ytgdoclaifnnpgaa.sk
open Go.ChangeShapes Go.WideShapes Go.ChangeAt Go.RowKit
set_option linter.unusedVariables false

/-- of what was there, nothing turned but the blocks from lo up to hi -/
structure Within (lo hi : Nat) (w w' : World) : Prop where
  os : w'.os = w.os
  tape : w'.tape = w.tape
  output : w'.output = w.output
  size : w.heap.size ≤ w'.heap.size
  block : ∀ k, k < w.heap.size → (k < lo ∨ hi ≤ k) → w'.heap[k]? = w.heap[k]?
theorem Within.refl (lo hi : Nat) (w : World) : Within lo hi w w := ⟨rfl, rfl, rfl, Nat.le_refl _, fun _ _ _ => rfl⟩
theorem Within.below {lo hi B : Nat} {w w' : World} (h : Within lo hi w w') (hB : B ≤ lo) (hB2 : B ≤ w.heap.size) : Below B w w' := ⟨h.os, h.tape, h.output, h.size, fun k hk => h.block k (by omega) (.inl (by omega))⟩
theorem Within.trans {lo hi : Nat} {a b c : World} (h : Within lo hi a b) (k : Within lo hi b c) : Within lo hi a c :=
  ⟨k.os.trans h.os, k.tape.trans h.tape, k.output.trans h.output, Nat.le_trans h.size k.size, fun j hj hn => (k.block j (Nat.lt_of_lt_of_le hj h.size) hn).trans (h.block j hj hn)⟩
theorem Within.of_below {lo hi B : Nat} {w w' : World} (h : Below B w w') (hB : w.heap.size ≤ B) : Within lo hi w w' := ⟨h.os, h.tape, h.output, h.size, fun k hk _ => h.block k (by omega)⟩
theorem Within.setCell {lo hi : Nat} {a w : World} (h : Within lo hi a w) {p : Addr} (h1 : lo ≤ p.block) (h2 : p.block < hi) (u : Value) : Within lo hi a (w.setCell p u) :=
  h.trans ⟨rfl, rfl, rfl, by simp, fun k hk hn => Below.heap_setCell _ _ _ _ (by omega)⟩
theorem Within.wide {lo hi lo' hi' : Nat} {w w' : World} (h : Within lo hi w w') (h1 : lo' ≤ lo) (h2 : hi ≤ hi') : Within lo' hi' w w' := ⟨h.os, h.tape, h.output, h.size, fun k hk hn => h.block k hk (by omega)⟩

/-- numbers from k on -/
def marks (k : Int) (n : Nat) : List Int := (List.range n).map fun j : Nat => k + (j : Int)
theorem marks_len (k : Int) (n : Nat) : (marks k n).length = n := by simp [marks]
theorem marks_get (k : Int) (n i : Nat) (h : i < (marks k n).length) : (marks k n)[i] = k + i := by simp [marks]

theorem markRow (xs : List Int) (g c : Nat) (k : Int) (h0 : 0 ≤ k) (h1 : k ≤ 4611686018427387904) (hx : xs.length ≤ 1048576) (w : World) (hr : Row w g xs) :
    Calls Try.prog 55 #[.slice (some ⟨g, 0, none⟩) xs.length c, .int .i64 k] w fun e w' => e = .returned (.int .i64 (k + xs.length)) ∧ Row w' g (marks k xs.length) ∧ Within g (g + 1) w w' := by
  have hR : Hid (Row w g xs) := hr
  clear hr
  go_enter Try.func55, Try.ntmps55
  go_wp2
  go_loopw [1, 5] (fun q v' wr => ∃ i : Nat, i ≤ xs.length ∧ v' = .int .i64 i ∧ q = .int .i64 (k + i) ∧ Hid (Row wr g (marks k i ++ xs.drop i)) ∧ Within g (g + 1) w wr) (fun _ v' _ => xs.length - (intOf v').toNat)
  case atStart => exact ⟨0, by omega, rfl, by simp, by simpa [marks] using hR, Within.refl _ _ _⟩
  case round =>
    obtain ⟨i, hi, rfl, rfl, hrow, hW⟩ := hrel
    by_cases hlt : i < xs.length
    · have hl : Hid ((marks k i ++ xs.drop i).length = xs.length) := by unfold Hid; simp [marks_len]; omega
      have hc := hrow.out.cell i (by rw [hl.out]; exact hlt)
      have hf := hrow.out.frozen i (by rw [hl.out]; exact hlt)
      have hlt' : (i : Int) < xs.length := by omega
      go_wp2
      go_roundw
      case rel =>
        have hl : (marks k i ++ xs.drop i).length = xs.length := by simp [marks_len]; omega
        have h1 := hrow.out.set i (by rw [hl]; exact hlt) (k + i)
        have e : (marks k i ++ xs.drop i).set i (k + i) = marks k (i + 1) ++ xs.drop (i + 1) := by
          have e1 : marks k (i + 1) = marks k i ++ [k + (i : Int)] := by simp [marks, List.range_succ]
          rw [List.set_append_right _ _ (by rw [marks_len]; omega), marks_len, Nat.sub_self, List.drop_eq_getElem_cons hlt, List.set_cons_zero, e1]
          simp
        rw [e] at h1
        exact ⟨i + 1, by omega, by go_num, by go_num, h1, hW.setCell (Nat.le_refl _) (by show g < g + 1; omega) _⟩
      case measure => simp [intOf]; omega
    · have e : i = xs.length := by omega
      have hr' : Row wr g (marks k xs.length) := by have := hrow.out; rw [e, List.drop_length, List.append_nil] at this; exact this
      clear hrow
      go_wp2
      go_ret
      exact ⟨by first | rfl | (rw [e]; rfl), hr', hW⟩

theorem heldRow (n : Nat) (a : Option Addr) (c : Nat) (k : Int) (h0 : 0 ≤ k) (h1 : k ≤ 4611686018427387904) (hx : n ≤ 1048576) (w : World) (lo hi : Nat) (hr : RowR w lo hi a (marks k n)) :
    Calls Try.prog 56 #[.slice a n c, .int .i64 k] w fun e w' => e = .returned (.int .i64 (k + n)) ∧ w' = w := by
  have hR : Hid (RowR w lo hi a (marks k n)) := hr
  clear hr
  go_enter Try.func56, Try.ntmps56
  go_wp2
  go_loop [1, 5] (fun q v' => ∃ i : Nat, i ≤ n ∧ v' = .int .i64 i ∧ q = .int .i64 (k + i)) (fun _ v' => n - (intOf v').toNat)
  case atStart => exact ⟨0, by omega, rfl, by simp⟩
  case round =>
    obtain ⟨i, hi', rfl, rfl⟩ := hrel
    by_cases hlt : i < n
    · obtain ⟨b, off, rfl, -, -, hrange⟩ := rd_row hR.out (by rw [marks_len]; omega)
      have hc := range_cell hrange i (by rw [marks_len]; exact hlt)
      rw [marks_get] at hc
      have hlt' : (i : Int) < n := by omega
      clear hrange
      go_wp2
      go_round
      case rel => exact ⟨i + 1, by omega, by go_num, by go_num⟩
      case measure => simp [intOf]; omega
    · have e : i = n := by omega
      go_wp2
      go_ret
      exact ⟨by first | rfl | (rw [e]; rfl), rfl⟩

/-- how many numbers lie in the rows -/
def sumLen (R : List (List Int)) : Nat := (R.map List.length).sum
theorem sumLen_snoc (R : List (List Int)) (i : Nat) (h : i < R.length) : sumLen (R.take (i + 1)) = sumLen (R.take i) + (R[i]).length := by
  unfold sumLen; rw [take_snoc R i h, List.map_append, List.sum_append]; simp
theorem sumLen_le (R : List (List Int)) (hm : ∀ xs ∈ R, xs.length ≤ 1048576) : sumLen R ≤ R.length * 1048576 := by
  induction R with
  | nil => simp [sumLen]
  | cons x R ih =>
    have h1 := hm x (by simp)
    have h2 := ih (fun y hy => hm y (by simp [hy]))
    simp only [sumLen, List.map_cons, List.sum_cons, List.length_cons] at h2 ⊢
    omega
theorem sumLen_take_le (R : List (List Int)) (hm : Modest R) (i : Nat) : sumLen (R.take i) ≤ 1099511627776 := by
  have h1 := sumLen_le (R.take i) (fun xs hx => hm.2 xs (List.mem_of_mem_take hx))
  have h2 := hm.1
  have h3 : (R.take i).length ≤ 1048576 := by simp; omega
  have h4 : (R.take i).length * 1048576 ≤ 1048576 * 1048576 := Nat.mul_le_mul_right _ h3
  omega
/-- the rows filled with numbers from k on -/
def markR (k : Int) (R : List (List Int)) : List (List Int) := R.mapIdx fun i xs => marks (k + (sumLen (R.take i) : Int)) xs.length
theorem markR_len (k : Int) (R : List (List Int)) : (markR k R).length = R.length := by simp [markR]
theorem markR_get (k : Int) (R : List (List Int)) (i : Nat) (h : i < R.length) (h' : i < (markR k R).length) : (markR k R)[i] = marks (k + (sumLen (R.take i) : Int)) (R[i]).length := by simp [markR]

theorem OwnAt.setRow {w w' : World} {lo hi bo : Nat} {B C : Nat → Nat} {R : List (List Int)} (h : OwnAt w lo hi bo B C R) (i : Nat) (hi' : i < R.length) (ys : List Int) (hl : ys.length = (R[i]).length) (hW : Within (B i) (B i + 1) w w') (hr : Row w' (B i) ys) :
    OwnAt w' lo hi bo B C (R.set i ys) := by
  obtain ⟨h0, h1, h2, h3⟩ := h
  have hne : R ≠ [] := by intro e; subst e; simp at hi'
  have hb := h0 hne
  obtain ⟨d1, d2, d3, d4, d5, d6⟩ := h3 i hi'
  refine ⟨fun _ => hb, by have := hW.size; omega, fun a b ha hb => h2 a b (by simpa using ha) (by simpa using hb), fun j hj => ?_⟩
  have hj' : j < R.length := by simpa using hj
  obtain ⟨c1, c2, c3, c4, c5, c6⟩ := h3 j hj'
  have hcell : w'.cell? ⟨bo, j, none⟩ = w.cell? ⟨bo, j, none⟩ := World.cell?_of_block (w := w) (hW.block bo (by omega) (by omega))
  by_cases e : i = j
  · subst e
    simp only [List.getElem_set_self]
    exact ⟨by rw [hcell, hl]; exact c1, by rw [hl]; exact c2, c3, c4, c5, hr⟩
  · rw [List.getElem_set_ne e]
    have hB := h2 j i hj' hi' (fun q => e q.symm)
    exact ⟨by rw [hcell]; exact c1, c2, c3, c4, c5, c6.of' (hW.block _ c6.1 (by omega))⟩

theorem markRows (R : List (List Int)) (hm : Modest R) (v : Value) (w : World) (lo hi : Nat) (hown : Own w lo hi v R) :
    Calls Try.prog 37 #[v, .int .i64 1] w fun e w' => e = .returned (.int .i64 (1 + sumLen R)) ∧ Own w' lo hi v (markR 1 R) ∧ Within lo hi w w' := by
  obtain ⟨hRl, a, cap, bo, B, C, rfl, hA0, hoa⟩ := hown
  have hm1 := hm.1
  have hM : Hid (Modest R) := hm
  have hA : Hid (R ≠ [] → a = some ⟨bo, 0, none⟩) := hA0
  have hO : Hid (OwnAt w lo hi bo B C R) := hoa
  clear hA0 hoa hm
  obtain ⟨T, hT⟩ : ∃ T, Hid (T = markR 1 R) := ⟨_, rfl⟩
  have hTR : Hid (T.length = R.length) := by unfold Hid; rw [hT.out, markR_len]
  go_enter Try.func37, Try.ntmps37
  go_wp2
  go_loopw [1, 5] (fun q v' wr => ∃ i s : Nat, i ≤ R.length ∧ v' = .int .i64 i ∧ q = .int .i64 (1 + (s : Int)) ∧ Hid (s = sumLen (R.take i)) ∧ s ≤ 1099511627776 ∧ Hid (OwnAt wr lo hi bo B C (mix T R i)) ∧ Within lo hi w wr) (fun _ v' _ => R.length - (intOf v').toNat)
  case atStart => exact ⟨0, 0, by omega, rfl, by simp, by simp [Hid, sumLen], by omega, by rw [mix_zero]; exact hO, Within.refl _ _ _⟩
  case round =>
    obtain ⟨i, s, hi', rfl, rfl, hs, hsb, hown, hW⟩ := hrel
    by_cases hlt : i < R.length
    · have hne : R ≠ [] := by intro e; rw [e] at hlt; simp at hlt
      obtain rfl := hA.out hne
      have hiT : i < T.length := by rw [hTR.out]; exact hlt
      obtain ⟨xs, hxs⟩ : ∃ xs, R[i] = xs := ⟨_, rfl⟩
      have hxm : xs.length ≤ 1048576 := by rw [← hxs]; exact hM.out.2 _ (List.getElem_mem hlt)
      have him : i < (mix T R i).length := by rw [mix_len T R i hTR.out]; exact hlt
      have hmi : Hid ((mix T R i)[i] = xs) := by unfold Hid; rw [mix_get T R i hTR.out hlt, hxs]
      obtain ⟨r1, r2, r3, r4, r5⟩ := hown.out.row i him xs hmi.out
      have eT : Hid (T[i] = marks (1 + (s : Int)) xs.length) := by
        unfold Hid
        have := hT.out; subst this
        rw [markR_get 1 R i hlt, hxs, hs.out]
      have hs1 : Hid (s + xs.length = sumLen (R.take (i + 1))) := by unfold Hid; rw [sumLen_snoc R i hlt, hxs, hs.out]
      have hsb1 : s + xs.length ≤ 1099511627776 := by rw [hs1.out]; exact sumLen_take_le R hM.out _
      have R5 : Hid (Row wr (B i) xs) := r5
      clear r5 hxs hne
      have hlt' : (i : Int) < R.length := by omega
      go_wp2_with (first | (go_at_call 55; refine (markRow xs (B i) (C i) (1 + (s : Int)) (by omega) (by omega) hxm _ R5.out).mono ?_; rintro e w5 ⟨rfl, hr5, hW5⟩; have HR5 : Hid (Row w5 (B i) (marks (1 + (s : Int)) xs.length)) := hr5; clear hr5))
      go_roundw
      case rel =>
        have o1 := hown.out.setRow i him (marks (1 + (s : Int)) xs.length) (by rw [marks_len, hmi.out]) hW5 HR5.out
        rw [← eT.out, mix_set T R i hTR.out hiT] at o1
        exact ⟨i + 1, s + xs.length, by omega, by go_num, by go_num, hs1, hsb1, o1, hW.trans (hW5.wide r2 (by omega))⟩
      case measure => simp [intOf]; omega
    · have e : i = R.length := by omega
      have ho : OwnAt wr lo hi bo B C T := by rw [← mix_all T R i (by rw [hTR.out]; omega) (by omega)]; exact hown.out
      have HO : Hid _ := ho
      clear ho hown
      go_wp2
      go_ret
      refine ⟨?_, ⟨by rw [markR_len]; exact hRl, a, cap, bo, B, C, by rw [markR_len], fun hn => hA.out (by intro e; apply hn; rw [e]; rfl), by rw [← hT.out]; exact HO.out⟩, hW⟩
      have es : s = sumLen R := by rw [hs.out, e, List.take_length]
      rw [← es]; rfl

theorem heldRows (R : List (List Int)) (hm : Modest R) (v : Value) (w : World) (lo hi : Nat) (hv : Rd w lo hi v (markR 1 R)) :
    Calls Try.prog 38 #[v, .int .i64 1] w fun e w' => e = .returned (.int .i64 (1 + sumLen R)) ∧ w' = w := by
  obtain ⟨hRl, a, cap, rfl, hrows⟩ := hv
  have hM : Hid (Modest R) := hm
  have hm1 := hm.1
  obtain ⟨b, off, hA0, hC0⟩ := rd_at (n := 0) (c := 0) hrows
  have hA : Hid (markR 1 R ≠ [] → a = some ⟨b, off, none⟩ ∧ b < hi) := hA0
  have hC : Hid (∀ i (h : i < (markR 1 R).length), ∃ a' c', w.cell? ⟨b, off + i, none⟩ = some (.slice a' ((markR 1 R)[i]).length c') ∧ RowR w lo hi a' (markR 1 R)[i]) := hC0
  clear hA0 hC0 hrows hm hRl
  rw [markR_len]
  go_enter Try.func38, Try.ntmps38
  go_wp2
  go_loop [1, 5] (fun q v' => ∃ i s : Nat, i ≤ R.length ∧ v' = .int .i64 i ∧ q = .int .i64 (1 + (s : Int)) ∧ Hid (s = sumLen (R.take i)) ∧ s ≤ 1099511627776) (fun _ v' => R.length - (intOf v').toNat)
  case atStart => exact ⟨0, 0, by omega, rfl, by simp, by simp [Hid, sumLen], by omega⟩
  case round =>
    obtain ⟨i, s, hi', rfl, rfl, hs, hsb⟩ := hrel
    by_cases hlt : i < R.length
    · have him : i < (markR 1 R).length := by rw [markR_len]; exact hlt
      obtain ⟨ra, rc, hcell, hrow⟩ := hC.out i him
      obtain ⟨rfl, -⟩ := hA.out (by intro e; rw [e] at him; simp at him)
      obtain ⟨n, hn⟩ : ∃ n, (R[i]).length = n := ⟨_, rfl⟩
      have hnm : n ≤ 1048576 := by rw [← hn]; exact hM.out.2 _ (List.getElem_mem hlt)
      rw [markR_get 1 R i hlt, hn, ← hs.out] at hrow hcell
      rw [marks_len] at hcell
      have hs1 : Hid (s + n = sumLen (R.take (i + 1))) := by unfold Hid; rw [sumLen_snoc R i hlt, hn, hs.out]
      have hsb1 : s + n ≤ 1099511627776 := by rw [hs1.out]; exact sumLen_take_le R hM.out _
      have hRow : Hid (RowR w lo hi ra (marks (1 + (s : Int)) n)) := hrow
      clear hrow hn
      have hlt' : (i : Int) < R.length := by omega
      go_wp2_with (first | (go_at_call 56; refine (heldRow n ra rc (1 + (s : Int)) (by omega) (by omega) hnm _ lo hi hRow.out).mono ?_; rintro e wq ⟨rfl, hq⟩; subst wq))
      go_round
      case rel => exact ⟨i + 1, s + n, by omega, by go_num, by go_num, hs1, hsb1⟩
      case measure => simp [intOf]; omega
    · have e : i = R.length := by omega
      go_wp2
      go_ret
      have es : s = sumLen R := by rw [hs.out, e, List.take_length]
      exact ⟨by rw [← es]; rfl, rfl⟩

theorem markSketch_any (R : List (List Int)) (hm : Modest R) (v : Value) (adds : Int) (w : World) (lo hi : Nat) (hown : Own w lo hi v R) (hh : hi ≤ w.heap.size) :
    Calls Try.prog 17 #[skv v adds, .int .i64 1] w fun e w' => e = .returned (.int .i64 (1 + sumLen R)) ∧ Own w' lo hi v (markR 1 R) ∧ Within lo hi w w' := by
  have hO : Hid (Own w lo hi v R) := hown
  clear hown
  go_enter Try.func17, Try.ntmps17
  go_wp2_with (first | (refine wpList_box_v rfl 27 _ rfl [v, .int .i64 adds] rfl ?_; intro b1 w1 hb1 hw1 hB1 hV1; have hc0 := hV1.cell 0 (by simp); simp only [List.getElem_cons_zero] at hc0) | (go_at_call 37; refine (markRows R hm v _ lo hi (hO.out.below hB1 hh)).mono ?_; rintro e w2 ⟨rfl, ho2, hW2⟩))
  go_ret
  exact ⟨rfl, ho2, (Within.of_below hB1 (Nat.le_refl _)).trans hW2⟩

theorem heldSketch_any (R : List (List Int)) (hm : Modest R) (v : Value) (adds : Int) (w : World) (lo hi : Nat) (hh : hi ≤ w.heap.size) (hv : Rd w lo hi v (markR 1 R)) :
    Calls Try.prog 18 #[skv v adds, .int .i64 1] w fun e w' => e = .returned (.int .i64 (1 + sumLen R)) ∧ Below w.heap.size w w' := by
  have hV : Hid (Rd w lo hi v (markR 1 R)) := hv
  clear hv
  go_enter Try.func18, Try.ntmps18
  go_wp2_with (first | (refine wpList_box_v rfl 27 _ rfl [v, .int .i64 adds] rfl ?_; intro b1 w1 hb1 hw1 hB1 hV1; have hc0 := hV1.cell 0 (by simp); simp only [List.getElem_cons_zero] at hc0) | (go_at_call 38; refine (heldRows R hm v _ lo hi (hV.out.below hB1 hh)).mono ?_; rintro e wq ⟨rfl, hq⟩; subst wq))
  go_ret
  exact ⟨rfl, hB1⟩

end Go.Proofs.Ytgdoclaifnnpgaa.sk
