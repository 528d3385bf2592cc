/- Texts laid together: Lw3 Ch3 Lw4 Ch4. -/
import Derived.Test.YtapchjkiiifhdaaMg09
import Derived.Test.YtapchjkiiifhdaaMg08
import Derived.Lib.SmallJoins
import Derived.Deep.Slices
import Derived.Deep.RegionHeld3
import Derived.BigQuiet
import Derived.Deep.DeepCutAuto
/- Contracts of the laws' helpers that write numbers into a sketch's rows and look for them. -/
namespace Go.Proofs.Ytapchjkiiifhdaa.sk
open Go.ChangeShapes Go.WideShapes Go.ChangeAt Go.RowKit
set_option linter.unusedVariables false

/-- of what was there, nothing turned but the blocks from lo up to hi -/
structure Within (lo hi : Nat) (w w' : World) : Prop where
  os : w'.os = w.os
  tape : w'.tape = w.tape
  output : w'.output = w.output
  size : w.heap.size ≤ w'.heap.size
  block : ∀ k, k < w.heap.size → (k < lo ∨ hi ≤ k) → w'.heap[k]? = w.heap[k]?
set_option maxRecDepth 100000 in
theorem Within.refl (lo hi : Nat) (w : World) : Within lo hi w w := ⟨rfl, rfl, rfl, Nat.le_refl _, fun _ _ _ => rfl⟩
set_option maxRecDepth 100000 in
theorem Within.below {lo hi B : Nat} {w w' : World} (h : Within lo hi w w') (hB : B ≤ lo) (hB2 : B ≤ w.heap.size) : Below B w w' := ⟨h.os, h.tape, h.output, h.size, fun k hk => h.block k (by omega) (.inl (by omega))⟩
set_option maxRecDepth 100000 in
theorem Within.trans {lo hi : Nat} {a b c : World} (h : Within lo hi a b) (k : Within lo hi b c) : Within lo hi a c :=
  ⟨k.os.trans h.os, k.tape.trans h.tape, k.output.trans h.output, Nat.le_trans h.size k.size, fun j hj hn => (k.block j (Nat.lt_of_lt_of_le hj h.size) hn).trans (h.block j hj hn)⟩
set_option maxRecDepth 100000 in
theorem Within.of_below {lo hi B : Nat} {w w' : World} (h : Below B w w') (hB : w.heap.size ≤ B) : Within lo hi w w' := ⟨h.os, h.tape, h.output, h.size, fun k hk _ => h.block k (by omega)⟩
set_option maxRecDepth 100000 in
theorem Within.setCell {lo hi : Nat} {a w : World} (h : Within lo hi a w) {p : Addr} (h1 : lo ≤ p.block) (h2 : p.block < hi) (u : Value) : Within lo hi a (w.setCell p u) :=
  h.trans ⟨rfl, rfl, rfl, by simp, fun k hk hn => Below.heap_setCell _ _ _ _ (by omega)⟩
set_option maxRecDepth 100000 in
theorem Within.wide {lo hi lo' hi' : Nat} {w w' : World} (h : Within lo hi w w') (h1 : lo' ≤ lo) (h2 : hi ≤ hi') : Within lo' hi' w w' := ⟨h.os, h.tape, h.output, h.size, fun k hk hn => h.block k hk (by omega)⟩

/-- numbers from k on -/
def marks (k : Int) (n : Nat) : List Int := (List.range n).map fun j : Nat => k + (j : Int)
set_option maxRecDepth 100000 in
theorem marks_len (k : Int) (n : Nat) : (marks k n).length = n := by simp [marks]
set_option maxRecDepth 100000 in
theorem marks_get (k : Int) (n i : Nat) (h : i < (marks k n).length) : (marks k n)[i] = k + i := by simp [marks]

set_option maxRecDepth 100000 in
theorem markRow (xs : List Int) (g c : Nat) (k : Int) (h0 : 0 ≤ k) (h1 : k ≤ 4611686018427387904) (hx : xs.length ≤ 1048576) (w : World) (hr : Row w g xs) :
    Calls Try.prog 181 #[.slice (some ⟨g, 0, none⟩) xs.length c, .int .i64 k] w fun e w' => e = .returned (.int .i64 (k + xs.length)) ∧ Row w' g (marks k xs.length) ∧ Within g (g + 1) w w' := by
  have hR : Hid (Row w g xs) := hr
  clear hr
  go_enter Try.func181, Try.ntmps181
  go_wp2
  go_loopw [1, 5] (fun q v' wr => ∃ i : Nat, i ≤ xs.length ∧ v' = .int .i64 i ∧ q = .int .i64 (k + i) ∧ Hid (Row wr g (marks k i ++ xs.drop i)) ∧ Within g (g + 1) w wr) (fun _ v' _ => xs.length - (intOf v').toNat)
  case atStart => exact ⟨0, by omega, rfl, by simp, by simpa [marks] using hR, Within.refl _ _ _⟩
  case round =>
    obtain ⟨i, hi, rfl, rfl, hrow, hW⟩ := hrel
    by_cases hlt : i < xs.length
    · have hl : Hid ((marks k i ++ xs.drop i).length = xs.length) := by unfold Hid; simp [marks_len]; omega
      have hc := hrow.out.cell i (by rw [hl.out]; exact hlt)
      have hf := hrow.out.frozen i (by rw [hl.out]; exact hlt)
      have hlt' : (i : Int) < xs.length := by omega
      go_wp2
      go_roundw
      case rel =>
        have hl : (marks k i ++ xs.drop i).length = xs.length := by simp [marks_len]; omega
        have h1 := hrow.out.set i (by rw [hl]; exact hlt) (k + i)
        have e : (marks k i ++ xs.drop i).set i (k + i) = marks k (i + 1) ++ xs.drop (i + 1) := by
          have e1 : marks k (i + 1) = marks k i ++ [k + (i : Int)] := by simp [marks, List.range_succ]
          rw [List.set_append_right _ _ (by rw [marks_len]; omega), marks_len, Nat.sub_self, List.drop_eq_getElem_cons hlt, List.set_cons_zero, e1]
          simp
        rw [e] at h1
        exact ⟨i + 1, by omega, by go_num, by go_num, h1, hW.setCell (Nat.le_refl _) (by show g < g + 1; omega) _⟩
      case measure => simp [intOf]; omega
    · have e : i = xs.length := by omega
      have hr' : Row wr g (marks k xs.length) := by have := hrow.out; rw [e, List.drop_length, List.append_nil] at this; exact this
      clear hrow
      go_wp2
      go_ret
      exact ⟨by first | rfl | (rw [e]; rfl), hr', hW⟩

set_option maxRecDepth 100000 in
theorem heldRow (n : Nat) (a : Option Addr) (c : Nat) (k : Int) (h0 : 0 ≤ k) (h1 : k ≤ 4611686018427387904) (hx : n ≤ 1048576) (w : World) (lo hi : Nat) (hr : RowR w lo hi a (marks k n)) :
    Calls Try.prog 182 #[.slice a n c, .int .i64 k] w fun e w' => e = .returned (.int .i64 (k + n)) ∧ w' = w := by
  have hR : Hid (RowR w lo hi a (marks k n)) := hr
  clear hr
  go_enter Try.func182, Try.ntmps182
  go_wp2
  go_loop [1, 5] (fun q v' => ∃ i : Nat, i ≤ n ∧ v' = .int .i64 i ∧ q = .int .i64 (k + i)) (fun _ v' => n - (intOf v').toNat)
  case atStart => exact ⟨0, by omega, rfl, by simp⟩
  case round =>
    obtain ⟨i, hi', rfl, rfl⟩ := hrel
    by_cases hlt : i < n
    · obtain ⟨b, off, rfl, -, -, hrange⟩ := rd_row hR.out (by rw [marks_len]; omega)
      have hc := range_cell hrange i (by rw [marks_len]; exact hlt)
      rw [marks_get] at hc
      have hlt' : (i : Int) < n := by omega
      clear hrange
      go_wp2
      go_round
      case rel => exact ⟨i + 1, by omega, by go_num, by go_num⟩
      case measure => simp [intOf]; omega
    · have e : i = n := by omega
      go_wp2
      go_ret
      exact ⟨by first | rfl | (rw [e]; rfl), rfl⟩

/-- how many numbers lie in the rows -/
def sumLen (R : List (List Int)) : Nat := (R.map List.length).sum
set_option maxRecDepth 100000 in
theorem sumLen_snoc (R : List (List Int)) (i : Nat) (h : i < R.length) : sumLen (R.take (i + 1)) = sumLen (R.take i) + (R[i]).length := by
  unfold sumLen; rw [take_snoc R i h, List.map_append, List.sum_append]; simp
set_option maxRecDepth 100000 in
theorem sumLen_le (R : List (List Int)) (hm : ∀ xs ∈ R, xs.length ≤ 1048576) : sumLen R ≤ R.length * 1048576 := by
  induction R with
  | nil => simp [sumLen]
  | cons x R ih =>
    have h1 := hm x (by simp)
    have h2 := ih (fun y hy => hm y (by simp [hy]))
    simp only [sumLen, List.map_cons, List.sum_cons, List.length_cons] at h2 ⊢
    omega
set_option maxRecDepth 100000 in
theorem sumLen_take_le (R : List (List Int)) (hm : Modest R) (i : Nat) : sumLen (R.take i) ≤ 1099511627776 := by
  have h1 := sumLen_le (R.take i) (fun xs hx => hm.2 xs (List.mem_of_mem_take hx))
  have h2 := hm.1
  have h3 : (R.take i).length ≤ 1048576 := by simp; omega
  have h4 : (R.take i).length * 1048576 ≤ 1048576 * 1048576 := Nat.mul_le_mul_right _ h3
  omega
/-- the rows filled with numbers from k on -/
def markR (k : Int) (R : List (List Int)) : List (List Int) := R.mapIdx fun i xs => marks (k + (sumLen (R.take i) : Int)) xs.length
set_option maxRecDepth 100000 in
theorem markR_len (k : Int) (R : List (List Int)) : (markR k R).length = R.length := by simp [markR]
set_option maxRecDepth 100000 in
theorem markR_get (k : Int) (R : List (List Int)) (i : Nat) (h : i < R.length) (h' : i < (markR k R).length) : (markR k R)[i] = marks (k + (sumLen (R.take i) : Int)) (R[i]).length := by simp [markR]

set_option maxRecDepth 100000 in
theorem OwnAt.setRow {w w' : World} {lo hi bo : Nat} {B C : Nat → Nat} {R : List (List Int)} (h : OwnAt w lo hi bo B C R) (i : Nat) (hi' : i < R.length) (ys : List Int) (hl : ys.length = (R[i]).length) (hW : Within (B i) (B i + 1) w w') (hr : Row w' (B i) ys) :
    OwnAt w' lo hi bo B C (R.set i ys) := by
  obtain ⟨h0, h1, h2, h3⟩ := h
  have hne : R ≠ [] := by intro e; subst e; simp at hi'
  have hb := h0 hne
  obtain ⟨d1, d2, d3, d4, d5, d6⟩ := h3 i hi'
  refine ⟨fun _ => hb, by have := hW.size; omega, fun a b ha hb => h2 a b (by simpa using ha) (by simpa using hb), fun j hj => ?_⟩
  have hj' : j < R.length := by simpa using hj
  obtain ⟨c1, c2, c3, c4, c5, c6⟩ := h3 j hj'
  have hcell : w'.cell? ⟨bo, j, none⟩ = w.cell? ⟨bo, j, none⟩ := World.cell?_of_block (w := w) (hW.block bo (by omega) (by omega))
  by_cases e : i = j
  · subst e
    simp only [List.getElem_set_self]
    exact ⟨by rw [hcell, hl]; exact c1, by rw [hl]; exact c2, c3, c4, c5, hr⟩
  · rw [List.getElem_set_ne e]
    have hB := h2 j i hj' hi' (fun q => e q.symm)
    exact ⟨by rw [hcell]; exact c1, c2, c3, c4, c5, c6.of' (hW.block _ c6.1 (by omega))⟩

set_option maxRecDepth 100000 in
theorem markRows (R : List (List Int)) (hm : Modest R) (v : Value) (w : World) (lo hi : Nat) (hown : Own w lo hi v R) :
    Calls Try.prog 133 #[v, .int .i64 1] w fun e w' => e = .returned (.int .i64 (1 + sumLen R)) ∧ Own w' lo hi v (markR 1 R) ∧ Within lo hi w w' := by
  obtain ⟨hRl, a, cap, bo, B, C, rfl, hA0, hoa⟩ := hown
  have hm1 := hm.1
  have hM : Hid (Modest R) := hm
  have hA : Hid (R ≠ [] → a = some ⟨bo, 0, none⟩) := hA0
  have hO : Hid (OwnAt w lo hi bo B C R) := hoa
  clear hA0 hoa hm
  obtain ⟨T, hT⟩ : ∃ T, Hid (T = markR 1 R) := ⟨_, rfl⟩
  have hTR : Hid (T.length = R.length) := by unfold Hid; rw [hT.out, markR_len]
  go_enter Try.func133, Try.ntmps133
  go_wp2
  go_loopw [1, 5] (fun q v' wr => ∃ i s : Nat, i ≤ R.length ∧ v' = .int .i64 i ∧ q = .int .i64 (1 + (s : Int)) ∧ Hid (s = sumLen (R.take i)) ∧ s ≤ 1099511627776 ∧ Hid (OwnAt wr lo hi bo B C (mix T R i)) ∧ Within lo hi w wr) (fun _ v' _ => R.length - (intOf v').toNat)
  case atStart => exact ⟨0, 0, by omega, rfl, by simp, by simp [Hid, sumLen], by omega, by rw [mix_zero]; exact hO, Within.refl _ _ _⟩
  case round =>
    obtain ⟨i, s, hi', rfl, rfl, hs, hsb, hown, hW⟩ := hrel
    by_cases hlt : i < R.length
    · have hne : R ≠ [] := by intro e; rw [e] at hlt; simp at hlt
      obtain rfl := hA.out hne
      have hiT : i < T.length := by rw [hTR.out]; exact hlt
      obtain ⟨xs, hxs⟩ : ∃ xs, R[i] = xs := ⟨_, rfl⟩
      have hxm : xs.length ≤ 1048576 := by rw [← hxs]; exact hM.out.2 _ (List.getElem_mem hlt)
      have him : i < (mix T R i).length := by rw [mix_len T R i hTR.out]; exact hlt
      have hmi : Hid ((mix T R i)[i] = xs) := by unfold Hid; rw [mix_get T R i hTR.out hlt, hxs]
      obtain ⟨r1, r2, r3, r4, r5⟩ := hown.out.row i him xs hmi.out
      have eT : Hid (T[i] = marks (1 + (s : Int)) xs.length) := by
        unfold Hid
        have := hT.out; subst this
        rw [markR_get 1 R i hlt, hxs, hs.out]
      have hs1 : Hid (s + xs.length = sumLen (R.take (i + 1))) := by unfold Hid; rw [sumLen_snoc R i hlt, hxs, hs.out]
      have hsb1 : s + xs.length ≤ 1099511627776 := by rw [hs1.out]; exact sumLen_take_le R hM.out _
      have R5 : Hid (Row wr (B i) xs) := r5
      clear r5 hxs hne
      have hlt' : (i : Int) < R.length := by omega
      go_wp2_with (first | (go_at_call 181; refine (markRow xs (B i) (C i) (1 + (s : Int)) (by omega) (by omega) hxm _ R5.out).mono ?_; rintro e w5 ⟨rfl, hr5, hW5⟩; have HR5 : Hid (Row w5 (B i) (marks (1 + (s : Int)) xs.length)) := hr5; clear hr5))
      go_roundw
      case rel =>
        have o1 := hown.out.setRow i him (marks (1 + (s : Int)) xs.length) (by rw [marks_len, hmi.out]) hW5 HR5.out
        rw [← eT.out, mix_set T R i hTR.out hiT] at o1
        exact ⟨i + 1, s + xs.length, by omega, by go_num, by go_num, hs1, hsb1, o1, hW.trans (hW5.wide r2 (by omega))⟩
      case measure => simp [intOf]; omega
    · have e : i = R.length := by omega
      have ho : OwnAt wr lo hi bo B C T := by rw [← mix_all T R i (by rw [hTR.out]; omega) (by omega)]; exact hown.out
      have HO : Hid _ := ho
      clear ho hown
      go_wp2
      go_ret
      refine ⟨?_, ⟨by rw [markR_len]; exact hRl, a, cap, bo, B, C, by rw [markR_len], fun hn => hA.out (by intro e; apply hn; rw [e]; rfl), by rw [← hT.out]; exact HO.out⟩, hW⟩
      have es : s = sumLen R := by rw [hs.out, e, List.take_length]
      rw [← es]; rfl

set_option maxRecDepth 100000 in
theorem heldRows (R : List (List Int)) (hm : Modest R) (v : Value) (w : World) (lo hi : Nat) (hv : Rd w lo hi v (markR 1 R)) :
    Calls Try.prog 135 #[v, .int .i64 1] w fun e w' => e = .returned (.int .i64 (1 + sumLen R)) ∧ w' = w := by
  obtain ⟨hRl, a, cap, rfl, hrows⟩ := hv
  have hM : Hid (Modest R) := hm
  have hm1 := hm.1
  obtain ⟨b, off, hA0, hC0⟩ := rd_at (n := 0) (c := 0) hrows
  have hA : Hid (markR 1 R ≠ [] → a = some ⟨b, off, none⟩ ∧ b < hi) := hA0
  have hC : Hid (∀ i (h : i < (markR 1 R).length), ∃ a' c', w.cell? ⟨b, off + i, none⟩ = some (.slice a' ((markR 1 R)[i]).length c') ∧ RowR w lo hi a' (markR 1 R)[i]) := hC0
  clear hA0 hC0 hrows hm hRl
  rw [markR_len]
  go_enter Try.func135, Try.ntmps135
  go_wp2
  go_loop [1, 5] (fun q v' => ∃ i s : Nat, i ≤ R.length ∧ v' = .int .i64 i ∧ q = .int .i64 (1 + (s : Int)) ∧ Hid (s = sumLen (R.take i)) ∧ s ≤ 1099511627776) (fun _ v' => R.length - (intOf v').toNat)
  case atStart => exact ⟨0, 0, by omega, rfl, by simp, by simp [Hid, sumLen], by omega⟩
  case round =>
    obtain ⟨i, s, hi', rfl, rfl, hs, hsb⟩ := hrel
    by_cases hlt : i < R.length
    · have him : i < (markR 1 R).length := by rw [markR_len]; exact hlt
      obtain ⟨ra, rc, hcell, hrow⟩ := hC.out i him
      obtain ⟨rfl, -⟩ := hA.out (by intro e; rw [e] at him; simp at him)
      obtain ⟨n, hn⟩ : ∃ n, (R[i]).length = n := ⟨_, rfl⟩
      have hnm : n ≤ 1048576 := by rw [← hn]; exact hM.out.2 _ (List.getElem_mem hlt)
      rw [markR_get 1 R i hlt, hn, ← hs.out] at hrow hcell
      rw [marks_len] at hcell
      have hs1 : Hid (s + n = sumLen (R.take (i + 1))) := by unfold Hid; rw [sumLen_snoc R i hlt, hn, hs.out]
      have hsb1 : s + n ≤ 1099511627776 := by rw [hs1.out]; exact sumLen_take_le R hM.out _
      have hRow : Hid (RowR w lo hi ra (marks (1 + (s : Int)) n)) := hrow
      clear hrow hn
      have hlt' : (i : Int) < R.length := by omega
      go_wp2_with (first | (go_at_call 182; refine (heldRow n ra rc (1 + (s : Int)) (by omega) (by omega) hnm _ lo hi hRow.out).mono ?_; rintro e wq ⟨rfl, hq⟩; subst wq))
      go_round
      case rel => exact ⟨i + 1, s + n, by omega, by go_num, by go_num, hs1, hsb1⟩
      case measure => simp [intOf]; omega
    · have e : i = R.length := by omega
      go_wp2
      go_ret
      have es : s = sumLen R := by rw [hs.out, e, List.take_length]
      exact ⟨by rw [← es]; rfl, rfl⟩

set_option maxRecDepth 100000 in
theorem markSketch_any (R : List (List Int)) (hm : Modest R) (v : Value) (adds : Int) (w : World) (lo hi : Nat) (hown : Own w lo hi v R) (hh : hi ≤ w.heap.size) :
    Calls Try.prog 77 #[skv v adds, .int .i64 1] w fun e w' => e = .returned (.int .i64 (1 + sumLen R)) ∧ Own w' lo hi v (markR 1 R) ∧ Within lo hi w w' := by
  have hO : Hid (Own w lo hi v R) := hown
  clear hown
  go_enter Try.func77, Try.ntmps77
  go_wp2_with (first | (refine wpList_box_v rfl 34 _ rfl [v, .int .i64 adds] rfl ?_; intro b1 w1 hb1 hw1 hB1 hV1; have hc0 := hV1.cell 0 (by simp); simp only [List.getElem_cons_zero] at hc0) | (go_at_call 133; refine (markRows R hm v _ lo hi (hO.out.below hB1 hh)).mono ?_; rintro e w2 ⟨rfl, ho2, hW2⟩))
  go_ret
  exact ⟨rfl, ho2, (Within.of_below hB1 (Nat.le_refl _)).trans hW2⟩

set_option maxRecDepth 100000 in
theorem heldSketch_any (R : List (List Int)) (hm : Modest R) (v : Value) (adds : Int) (w : World) (lo hi : Nat) (hh : hi ≤ w.heap.size) (hv : Rd w lo hi v (markR 1 R)) :
    Calls Try.prog 79 #[skv v adds, .int .i64 1] w fun e w' => e = .returned (.int .i64 (1 + sumLen R)) ∧ Below w.heap.size w w' := by
  have hV : Hid (Rd w lo hi v (markR 1 R)) := hv
  clear hv
  go_enter Try.func79, Try.ntmps79
  go_wp2_with (first | (refine wpList_box_v rfl 34 _ rfl [v, .int .i64 adds] rfl ?_; intro b1 w1 hb1 hw1 hB1 hV1; have hc0 := hV1.cell 0 (by simp); simp only [List.getElem_cons_zero] at hc0) | (go_at_call 135; refine (heldRows R hm v _ lo hi (hV.out.below hB1 hh)).mono ?_; rintro e wq ⟨rfl, hq⟩; subst wq))
  go_ret
  exact ⟨rfl, hB1⟩

end Go.Proofs.Ytapchjkiiifhdaa.sk
/- The laws' helpers on choices. -/
namespace Go.Proofs.Ytapchjkiiifhdaa.rg
open Go.ChangeShapes Go.WideShapes Go.ChangeAt Go.RowKit
open Go.Deep Go.Joins
open Go.Proofs.Ytapchjkiiifhdaa.ce Go.Proofs.Ytapchjkiiifhdaa.ro
set_option linter.unusedVariables false
set_option linter.unusedSimpArgs false

theorem szBools_le (U : List Bool) (v : Value) (L : Int) (hL : L ≤ 1048576) (hL0 : 0 ≤ L) (w : World) (r : Rd encB w v U) :
    Calls Try.prog 120 #[v, .int .i64 L] w fun e w' => ∃ q : Int, e = .returned (.int .i64 q) ∧ w' = w ∧ q ≤ 1048576 ∧ (0 ≤ q → (U.length : Int) ≤ 1048576) := by
  have hl := r.len
  obtain ⟨a, cap, rfl⟩ := r.form
  clear r
  have e : IntKind.i64.wrap (L - (U.length : Int)) = L - U.length := by rw [IntKind.wrap_i64]; omega
  by_cases h : L - (U.length : Int) < 0
  · go_enter Try.func120, Try.ntmps120
    go_wp2
    go_ret
    exact ⟨-1, rfl, rfl, by omega, fun _ => by omega⟩
  · go_enter Try.func120, Try.ntmps120
    go_wp2
    go_ret
    exact ⟨_, rfl, rfl, by omega, fun _ => by omega⟩
set_option maxRecDepth 100000 in
theorem szRing_le (r : Rg) (vN vU : Value) (w : World) (h : RdR w vN vU r) :
    Calls Try.prog 62 #[.agg #[vN, vU, .int .i64 r.A], .int .i64 1048576] w fun e w' => ∃ q : Int, e = .returned (.int .i64 q) ∧ Below w.heap.size w w' ∧ q ≤ 1048576 ∧ (0 ≤ q → r.N.length ≤ 1048576 ∧ r.U.length ≤ 1048576) := by
  obtain ⟨a, cap, rfl⟩ := h.n.form
  obtain ⟨c, dc, rfl⟩ := h.u.form
  have R : Hid (RdR w (.slice a r.N.length cap) (.slice c r.U.length dc) r) := h
  clear h
  have m1 : Hid True := trivial
  go_enter Try.func62, Try.ntmps62
  go_wp2_with (first | (clear m1; refine wpList_box_v rfl 25 _ rfl [.slice a r.N.length cap, .slice c r.U.length dc, .int .i64 r.A] rfl ?_; intro b2 w1 hb2 hw2 hB1 V2; have hz1 := hB1.size; obtain ⟨c0, c1, c2⟩ := cells3 V2) | (go_at_call 63; refine (szTexts_any r.N _ 1048576 (by omega) (by omega) _ (R.out.grow hB1).n R.out.s).mono ?_; rintro e wq ⟨q, rfl, hq, hq1, hq2⟩; subst wq; by_cases hneg : q < 0) | (go_at_call 120; refine (szBools_le r.U _ q (by omega) (by omega) _ (R.out.grow hB1).u).mono ?_; rintro e wq ⟨q', rfl, hq', hq4, hq3⟩; subst wq; by_cases hneg2 : q' < 0) | (fail))
  · go_ret
    exact ⟨-1, rfl, hB1, by omega, fun z => by omega⟩
  · go_ret
    exact ⟨-1, rfl, hB1, by omega, fun z => by omega⟩
  · go_ret
    exact ⟨q', rfl, hB1, hq4, fun z => ⟨by have := hq2 (by omega); omega, by have := hq3 (by omega); omega⟩⟩
theorem wpList_store_sub {ops : Array Oper} {rest : List Oper} {o : Oper} {a : Act} {w : World} {Q : Exit → Act → World → Prop} (hgd : o.guard = none) (t : TypeId) (x y : Operand) (ho : o.op = .store t x y) (b k : Nat) (ys : List Value) (hx : a.eval x = .pointer (some ⟨b, k, none⟩)) (hy : a.eval y = .agg ys.toArray)
    (hi : (Try.prog.info? t).map (·.size) = some ys.length) {t' : TypeId} {vs ws : List Value} (hb : VBlk w b t' vs) (hk : k + ys.length ≤ vs.length) (hws : vs.take k ++ ys ++ vs.drop (k + ys.length) = ws) (h1 : ∀ v ∈ ys, v.oneCell' = true)
    (h : ∀ w', Only b w w' → VBlk w' b t' ws → wpList Try.prog ops Q rest (a.put o.dst undef) w') : wpList Try.prog ops Q (o :: rest) a w := by
  refine wpList_store_mid hgd t x y ho b k ys.toArray hx hy ?_ (by rw [hi]; simp) (all_oneCell_toArray h1) ?_
  · intro j hj
    have hj' : j < ys.length := by simpa using hj
    have := hb.there (k + j) (by omega)
    simpa [Nat.add_assoc] using this
  · refine h _ (only_setCells _ _ _ _) ?_
    unfold VBlk
    rw [heap_setCells b t' _ k w vs hb (by simpa using hk), ← hws]
theorem szI1 : (Try.prog.info? 2).map (·.size) = some 1 := by kernel_rfl
theorem sizeSk2 : (Try.prog.info? 34).map (·.size) = some 2 := by kernel_rfl
/-- at most so much -/
structure Mod (c : Ch) : Prop where
  n : c.R.N.length ≤ 1048576
  u : c.R.U.length ≤ 1048576
  q : c.Q.length ≤ 1048576
  s : sk.Modest c.S
set_option maxRecDepth 100000 in
set_option maxHeartbeats 4000000 in
theorem szChoice_any (c : Ch) (vN vU vQ vS : Value) (w : World) (h : RdC w vN vU vQ vS c) :
    Calls Try.prog 14 #[.agg #[.int .i64 c.K, vN, vU, .int .i64 c.R.A, vQ, vS, .int .i64 c.D], .int .i64 1048576] w fun e w' => ∃ q : Int, e = .returned (.int .i64 q) ∧ Below w.heap.size w w' ∧ (0 ≤ q → Mod c) := by
  obtain ⟨K, ⟨N, U, A⟩, Q, S, D⟩ := c
  obtain ⟨aN, cN, rfl⟩ := h.r.n.form
  obtain ⟨aU, cU, rfl⟩ := h.r.u.form
  obtain ⟨aQ, cQ, rfl⟩ := h.q.form
  obtain ⟨aS, cS, rfl⟩ := sk_form h.s

  have R : Hid (RdC w (.slice aN N.length cN) (.slice aU U.length cU) (.slice aQ Q.length cQ) (.slice aS S.length cS) ⟨K, ⟨N, U, A⟩, Q, S, D⟩) := h
  clear h
  go_enter Try.func14, Try.ntmps14
  go_wp2_with (first | (refine wpList_box_v rfl 30 _ rfl [.int .i64 K, .slice aN N.length cN, .slice aU U.length cU, .int .i64 A, .slice aQ Q.length cQ, .slice aS S.length cS, .int .i64 D] rfl ?_; intro b1 w1 hb1 hw1 hB1 V1; obtain ⟨c10, c11, c12, c13, c14, c15, c16⟩ := cells7c V1; have hz1 := hB1.size) | (go_at_call 62; refine (szRing_le ⟨N, U, A⟩ _ _ _ (R.out.grow hB1).r).mono ?_; rintro e w2 ⟨q, rfl, hB2, hq1, hq⟩; replace V1 := vblk_grow V1 hB2; clear c10 c11 c12 c13 c14 c15 c16; obtain ⟨c10, c11, c12, c13, c14, c15, c16⟩ := cells7c V1; have hB12 := hB1.trans (hB2.mono hz1); have hz2 := hB12.size; by_cases hneg : q < 0) | (go_at_call 63; refine (szTexts_any Q _ q hq1 (by omega) _ (R.out.grow hB12).q R.out.qs).mono ?_; rintro e wq ⟨q2, rfl, hqq, hq2, hqr⟩; subst wq; by_cases hneg2 : q2 < 0) | (go_at_call 64; refine (sk.szSketch_any S _ D q2 (by omega) hq2 _ 0 _ (Nat.le_refl _) (R.out.grow hB12).s).mono ?_; rintro e w3 ⟨q3, rfl, hm, hB3⟩; have hB13 := hB12.trans (hB3.mono hz2); by_cases hneg3 : q3 < 0) | (fail))
  · go_ret
    exact ⟨-1, rfl, hB12, fun z => by omega⟩
  · go_ret
    exact ⟨-1, rfl, hB12, fun z => by omega⟩
  · go_ret
    exact ⟨-1, rfl, hB13, fun z => by omega⟩
  · go_ret
    exact ⟨q3, rfl, hB13, fun z => ⟨(hq (by omega)).1, (hq (by omega)).2, by have := hqr (by omega); dsimp only; omega, hm z⟩⟩
set_option maxRecDepth 100000 in
set_option maxHeartbeats 4000000 in
theorem eqChoice_any (c : Ch) (vN vU vQ vS vN' vU' vQ' vS' : Value) (w : World) (h : RdC w vN vU vQ vS c) (h' : RdC w vN' vU' vQ' vS' c) :
    Calls Try.prog 18 #[.agg #[.int .i64 c.K, vN, vU, .int .i64 c.R.A, vQ, vS, .int .i64 c.D], .agg #[.int .i64 c.K, vN', vU', .int .i64 c.R.A, vQ', vS', .int .i64 c.D]] w fun e w' => e = .returned (.bool true) ∧ Below w.heap.size w w' := by
  obtain ⟨K, ⟨N, U, A⟩, Q, S, D⟩ := c
  obtain ⟨aN, cN, rfl⟩ := h.r.n.form
  obtain ⟨aU, cU, rfl⟩ := h.r.u.form
  obtain ⟨aQ, cQ, rfl⟩ := h.q.form
  obtain ⟨aS, cS, rfl⟩ := sk_form h.s

  obtain ⟨bN, dN, rfl⟩ := h'.r.n.form
  obtain ⟨bU, dU, rfl⟩ := h'.r.u.form
  obtain ⟨bQ, dQ, rfl⟩ := h'.q.form
  obtain ⟨bS, dS, rfl⟩ := sk_form h'.s
  have R : Hid (RdC w (.slice aN N.length cN) (.slice aU U.length cU) (.slice aQ Q.length cQ) (.slice aS S.length cS) ⟨K, ⟨N, U, A⟩, Q, S, D⟩) := h
  have R' : Hid (RdC w (.slice bN N.length dN) (.slice bU U.length dU) (.slice bQ Q.length dQ) (.slice bS S.length dS) ⟨K, ⟨N, U, A⟩, Q, S, D⟩) := h'
  clear h h'
  have hKK : (K != K) = false := by simp
  have m1 : Hid True := trivial
  go_enter Try.func18, Try.ntmps18
  go_wp2_with (first | (clear m1; refine wpList_box_v rfl 36 _ rfl [.int .i64 K, .slice aN N.length cN, .slice aU U.length cU, .int .i64 A, .slice aQ Q.length cQ, .slice aS S.length cS, .int .i64 D] rfl ?_; intro b1 w1 hb1 hw1 hB1 V1; have hz1 := hB1.size) | (refine wpList_box_v rfl 36 _ rfl [.int .i64 K, .slice bN N.length dN, .slice bU U.length dU, .int .i64 A, .slice bQ Q.length dQ, .slice bS S.length dS, .int .i64 D] rfl ?_; intro b2 w2 hb2 hw2 hB2 V2; replace V1 := vblk_grow V1 hB2; obtain ⟨c10, c11, c12, c13, c14, c15, c16⟩ := cells7c V1; obtain ⟨c20, c21, c22, c23, c24, c25, c26⟩ := cells7c V2; have hB := hB1.trans (hB2.mono hz1); have hz := hB.size) | (go_at_call 72; refine (eqRing_any ⟨N, U, A⟩ _ _ _ _ _ (R.out.grow hB).r.n (R.out.grow hB).r.u (R'.out.grow hB).r.n (R'.out.grow hB).r.u).mono ?_; rintro e w3 ⟨rfl, hB3⟩; replace V1 := vblk_grow V1 hB3; replace V2 := vblk_grow V2 hB3; clear c10 c11 c12 c13 c14 c15 c16 c20 c21 c22 c23 c24 c25 c26; obtain ⟨c10, c11, c12, c13, c14, c15, c16⟩ := cells7c V1; obtain ⟨c20, c21, c22, c23, c24, c25, c26⟩ := cells7c V2; replace hB := hB.trans (hB3.mono hz); replace hz := hB.size) | (go_at_call 29; refine (eqTexts_any Q _ _ _ (R.out.grow hB).q (R'.out.grow hB).q).mono ?_; rintro e w4 ⟨rfl, hB4⟩; replace V1 := vblk_grow V1 hB4; replace V2 := vblk_grow V2 hB4; clear c10 c11 c12 c13 c14 c15 c16 c20 c21 c22 c23 c24 c25 c26; obtain ⟨c10, c11, c12, c13, c14, c15, c16⟩ := cells7c V1; obtain ⟨c20, c21, c22, c23, c24, c25, c26⟩ := cells7c V2; replace hB := hB.trans (hB4.mono hz); replace hz := hB.size) | (go_at_call 73; refine (sk.eqSketch_any S D _ _ _ 0 _ 0 _ (Nat.le_refl _) (Nat.le_refl _) (R.out.grow hB).s (R'.out.grow hB).s).mono ?_; rintro e w5 ⟨rfl, hB5⟩; replace hB := hB.trans (hB5.mono hz)) | (fail))
  go_ret
  exact ⟨rfl, hB⟩
set_option maxRecDepth 100000 in
set_option maxHeartbeats 4000000 in
theorem toChoice_any (c : Ch) (hm : Mod c) (vN vU vQ vS : Value) (w : World) (h : RdC w vN vU vQ vS c) :
    Calls Try.prog 16 #[.agg #[.int .i64 c.K, vN, vU, .int .i64 c.R.A, vQ, vS, .int .i64 c.D]] w fun e w' => ∃ vN' vU' vQ' vS', e = .returned (.agg #[.int .i64 c.K, vN', vU', .int .i64 c.R.A, vQ', vS', .int .i64 c.D]) ∧ OwnC w' w.heap.size w'.heap.size vN' vU' vQ' vS' c ∧ Below w.heap.size w w' := by
  obtain ⟨K, ⟨N, U, A⟩, Q, S, D⟩ := c
  obtain ⟨aN, cN, rfl⟩ := h.r.n.form
  obtain ⟨aU, cU, rfl⟩ := h.r.u.form
  obtain ⟨aQ, cQ, rfl⟩ := h.q.form
  obtain ⟨aS, cS, rfl⟩ := sk_form h.s

  have R : Hid (RdC w (.slice aN N.length cN) (.slice aU U.length cU) (.slice aQ Q.length cQ) (.slice aS S.length cS) ⟨K, ⟨N, U, A⟩, Q, S, D⟩) := h
  clear h
  have m1 : Hid True := trivial
  have m2 : Hid True := trivial
  have m3 : Hid True := trivial
  go_enter Try.func16, Try.ntmps16
  go_wp2_with (first | (clear m1; refine wpList_box_v rfl 30 _ rfl [.int .i64 K, .slice aN N.length cN, .slice aU U.length cU, .int .i64 A, .slice aQ Q.length cQ, .slice aS S.length cS, .int .i64 D] rfl ?_; intro b1 w1 hb1 hw1 hB1 V1; have hz1 := hB1.size) | (clear m2; refine wpList_alloc_v rfl 36 rfl _ zeroCh ?_; intro b2 w2 hb2 hw2 hB2 V2; have hz2 := hB2.size; replace V1 := vblk_grow V1 hB2; have hB := hB1.trans (hB2.mono hz1)) | (clear m3; refine wpList_alloc_v rfl 36 rfl _ zeroCh ?_; intro b3 w3 hb3 hw3 hB3 V3; have hz3 := hB3.size; replace V1 := vblk_grow V1 hB3; replace V2 := vblk_grow V2 hB3; replace hB := hB.trans (hB3.mono (by omega)); obtain ⟨c10, c11, c12, c13, c14, c15, c16⟩ := cells7c V1) | (refine wpList_store_cc rfl 2 _ _ rfl b3 0 (.int .i64 K) rfl rfl rfl szI1 V3 (by simp) ?_; intro w4 hO4 V3x; have hz4 := Nat.le_of_eq hO4.1.symm; have hy4 := Nat.le_of_eq hO4.1; replace V1 := vblk_only V1 hO4 (by omega); replace V2 := vblk_only V2 hO4 (by omega); replace hB := hB.trans (hO4.2.2 _ (by omega)); clear V3; have V3 : VBlk w4 b3 36 [.int .i64 K, .slice none 0 0, .slice none 0 0, .int .i64 0, .slice none 0 0, .slice none 0 0, .int .i64 0] := V3x; clear V3x; clear c10 c11 c12 c13 c14 c15 c16; obtain ⟨c10, c11, c12, c13, c14, c15, c16⟩ := cells7c V1) | (go_at_call 68; refine (toRing_any ⟨N, U, A⟩ _ _ _ (R.out.grow hB).r hm.n hm.u).mono ?_; rintro e w5 ⟨vN5, vU5, rfl, oR, hB5⟩; have hz5 : w4.heap.size ≤ w5.heap.size := hB5.size; replace V1 := vblk_grow V1 hB5; replace V2 := vblk_grow V2 hB5; replace V3 := vblk_grow V3 hB5; replace hB := hB.trans (hB5.mono (by omega)); clear c10 c11 c12 c13 c14 c15 c16; obtain ⟨c10, c11, c12, c13, c14, c15, c16⟩ := cells7c V1; obtain ⟨aN5, nN5, kN5, rfl⟩ := oR.n.slice; obtain ⟨aU5, nU5, kU5, rfl⟩ := oR.u.slice) | (refine wpList_store_sub rfl 33 _ _ rfl b3 1 [.slice aN5 nN5 kN5, .slice aU5 nU5 kU5, .int .i64 A] rfl rfl sizeRg V3 (by simp) rfl (by simp [Value.oneCell']) ?_; intro w6 hO6 V3x; have hz6 : w5.heap.size ≤ w6.heap.size := Nat.le_of_eq hO6.1.symm; have hy6 : w6.heap.size ≤ w5.heap.size := Nat.le_of_eq hO6.1; replace oR := oR.only hO6 V3 (by decide) (by decide); replace V1 := vblk_only V1 hO6 (by omega); replace V2 := vblk_only V2 hO6 (by omega); replace hB := hB.trans (hO6.2.2 _ (by omega)); clear V3; have V3 : VBlk w6 b3 36 [.int .i64 K, .slice aN5 nN5 kN5, .slice aU5 nU5 kU5, .int .i64 A, .slice none 0 0, .slice none 0 0, .int .i64 0] := V3x; clear V3x; clear c10 c11 c12 c13 c14 c15 c16; obtain ⟨c10, c11, c12, c13, c14, c15, c16⟩ := cells7c V1) | (go_at_call 69; refine (toTexts_any Q _ _ (R.out.grow hB).q hm.q).mono ?_; rintro e w7 ⟨vQ7, rfl, oQ, hB7⟩; have hz7 : w6.heap.size ≤ w7.heap.size := hB7.size; replace V1 := vblk_grow V1 hB7; replace V2 := vblk_grow V2 hB7; replace V3 := vblk_grow V3 hB7; replace oR := oR.grow hB7; replace hB := hB.trans (hB7.mono (by omega)); clear c10 c11 c12 c13 c14 c15 c16; obtain ⟨c10, c11, c12, c13, c14, c15, c16⟩ := cells7c V1; obtain ⟨aQ7, nQ7, kQ7, rfl⟩ := oQ.slice) | (refine wpList_store_cc rfl 22 _ _ rfl b3 4 (.slice aQ7 nQ7 kQ7) rfl rfl rfl szSl V3 (by simp) ?_; intro w8 hO8 V3x; have hz8 : w7.heap.size ≤ w8.heap.size := Nat.le_of_eq hO8.1.symm; have hy8 : w8.heap.size ≤ w7.heap.size := Nat.le_of_eq hO8.1; replace oR := oR.only hO8 V3 (by decide) (by decide); replace oQ := oQ.only hO8 V3 (by decide); replace V1 := vblk_only V1 hO8 (by omega); replace V2 := vblk_only V2 hO8 (by omega); replace hB := hB.trans (hO8.2.2 _ (by omega)); clear V3; have V3 : VBlk w8 b3 36 [.int .i64 K, .slice aN5 nN5 kN5, .slice aU5 nU5 kU5, .int .i64 A, .slice aQ7 nQ7 kQ7, .slice none 0 0, .int .i64 0] := V3x; clear V3x; clear c10 c11 c12 c13 c14 c15 c16; obtain ⟨c10, c11, c12, c13, c14, c15, c16⟩ := cells7c V1) | (go_at_call 70; refine (sk.toSketch_any S hm.s _ D _ 0 _ (Nat.le_refl _) (R.out.grow hB).s).mono ?_; rintro e w9 ⟨vS9, rfl, oS, hB9⟩; have hz9 : w8.heap.size ≤ w9.heap.size := hB9.size; replace V1 := vblk_grow V1 hB9; replace V2 := vblk_grow V2 hB9; replace V3 := vblk_grow V3 hB9; replace oR := oR.grow hB9; replace oQ := oQ.grow hB9; replace hB := hB.trans (hB9.mono (by omega)); clear c10 c11 c12 c13 c14 c15 c16; obtain ⟨c10, c11, c12, c13, c14, c15, c16⟩ := cells7c V1; obtain ⟨aS9, nS9, kS9, rfl⟩ := sk.Own.form oS) | (refine wpList_store_sub rfl 34 _ _ rfl b3 5 [.slice aS9 nS9 kS9, .int .i64 D] rfl rfl sizeSk2 V3 (by simp) rfl (by simp [Value.oneCell']) ?_; intro w10 hO10 V3x; have hz10 : w9.heap.size ≤ w10.heap.size := Nat.le_of_eq hO10.1.symm; have hy10 : w10.heap.size ≤ w9.heap.size := Nat.le_of_eq hO10.1; replace oR := oR.only hO10 V3 (by decide) (by decide); replace oQ := oQ.only hO10 V3 (by decide); replace oS := (sk.Own.keep oS (fun j h1 h2 => hO10.2.1 j (by omega)) (Nat.le_of_eq hO10.1.symm)); replace V1 := vblk_only V1 hO10 (by omega); replace V2 := vblk_only V2 hO10 (by omega); replace hB := hB.trans (hO10.2.2 _ (by omega)); clear V3; have V3 : VBlk w10 b3 36 [.int .i64 K, .slice aN5 nN5 kN5, .slice aU5 nU5 kU5, .int .i64 A, .slice aQ7 nQ7 kQ7, .slice aS9 nS9 kS9, .int .i64 D] := V3x; clear V3x; clear c10 c11 c12 c13 c14 c15 c16; obtain ⟨c10, c11, c12, c13, c14, c15, c16⟩ := cells7c V1; obtain ⟨c30, c31, c32, c33, c34, c35, c36⟩ := cells7c V3) | (refine wpList_store_v rfl 36 _ _ rfl b2 [.int .i64 K, .slice aN5 nN5 kN5, .slice aU5 nU5 kU5, .int .i64 A, .slice aQ7 nQ7 kQ7, .slice aS9 nS9 kS9, .int .i64 D] rfl rfl sizeCh V2 rfl (by simp [Value.oneCell']) ?_; intro w11 hO11 V2x; have hz11 : w10.heap.size ≤ w11.heap.size := Nat.le_of_eq hO11.1.symm; have hy11 : w11.heap.size ≤ w10.heap.size := Nat.le_of_eq hO11.1; replace oR := oR.only hO11 V2 (by decide) (by decide); replace oQ := oQ.only hO11 V2 (by decide); replace oS := (sk.Own.keep oS (fun j h1 h2 => hO11.2.1 j (by omega)) (Nat.le_of_eq hO11.1.symm)); replace hB := hB.trans (hO11.2.2 _ (by omega))) | (fail))
  exact row_retv rfl rfl V2x Try.underlying36 sizeCh rfl ⟨_, _, _, _, rfl, ⟨⟨_, _, _, _, _, _, oR, oQ, oS, ⟨by omega, by omega, by omega, by omega, by omega, by omega⟩, by omega, by omega, by omega⟩, Nat.le_refl _⟩, hB⟩

theorem ring_of_trod {H : Type} {enc : TypeId × Value → H} {w : World} {n : Nat} {v0 v1 v2 : Value} {x : DataW H × List MemPlace} (h : DataW.trod enc Try.prog w 0 (fun _ => true) true n 25 [v0, v1, v2] = some x) : ∃ rr : Rg, v2 = .int .i64 rr.A ∧ RdR w v0 v1 rr := by
  obtain ⟨xs, m', -, -, hl, hxs, hf⟩ := DataW.trod_struct Try.underlying25 h
  match xs, hxs with
  | [y0, y1, y2], _ =>
    have h0 := hf 0 _ rfl
    have h1 := hf 1 _ rfl
    have h2 := hf 2 _ rfl
    simp [cellsInt, cellsSs, cellsBs] at h0 h1 h2
    obtain ⟨N, rN, sN⟩ := rdS_of_trod h0
    obtain ⟨U, rU⟩ := rdB_of_trod h1
    obtain ⟨n, e0, -, -⟩ := DataW.trod_int Try.underlying2 h2
    simp at e0
    subst e0
    exact ⟨⟨N, U, n⟩, rfl, ⟨rN, rU, sN⟩⟩
theorem cellsRR : Try.prog.cellsOf 26 = 1 := by kernel_rfl
theorem sketch_of_trod {H : Type} {enc : TypeId × Value → H} {w : World} {n : Nat} {v0 v1 : Value} {x : DataW H × List MemPlace} (h : DataW.trod enc Try.prog w 0 (fun _ => true) true n 28 [v0, v1] = some x) : ∃ S D, v1 = .int .i64 D ∧ sk.Rd w 0 w.heap.size v0 S := by
  obtain ⟨xs, m', -, -, hl, hxs, hf⟩ := DataW.trod_struct Try.underlying28 h
  match xs, hxs with
  | [y0, y1], _ =>
    have h0 := hf 0 _ rfl
    have h1 := hf 1 _ rfl
    simp [cellsInt, cellsRR] at h0 h1
    obtain ⟨R, hR⟩ := sk.rd_of_trod h0
    obtain ⟨n, e0, -, -⟩ := DataW.trod_int Try.underlying2 h1
    simp at e0
    subst e0
    exact ⟨R, n, rfl, hR⟩
theorem cellsLCh : Try.prog.cellsOf 30 = 7 := by kernel_rfl
theorem cellsLRg2 : Try.prog.cellsOf 25 = 3 := by kernel_rfl
theorem cellsLSk : Try.prog.cellsOf 28 = 2 := by kernel_rfl
set_option maxRecDepth 100000 in
/-- a choice among the arguments -/
theorem open_choice {H : Type} {enc : TypeId × Value → H} {W : World} {r : Reach} {b0 : Nat} {v : Value} {d : DataW H} {p : List MemPlace} (hw : Value.okWide Try.prog W r b0 30 v) (h : DataW.Trod enc Try.prog W 0 (fun _ => true) true 30 v d p) :
    ∃ vN vU vQ vS, ∃ c : Ch, v = .agg #[.int .i64 c.K, vN, vU, .int .i64 c.R.A, vQ, vS, .int .i64 c.D] ∧ RdC W vN vU vQ vS c := by
  obtain ⟨cs, rfl, hsz⟩ := okWide_struct Try.underlying30 hw
  obtain ⟨m, hm⟩ := h
  have hm' : DataW.trod enc Try.prog W 0 (fun _ => true) true m 30 cs.toList = some (d, p) := by simpa [Value.cells] using hm
  obtain ⟨xs, m', -, -, hl, hxs, hf⟩ := DataW.trod_struct Try.underlying30 hm'
  rw [cellsLCh] at hl
  have e : ∃ v0 v1 v2 v3 v4 v5 v6, cs.toList = [v0, v1, v2, v3, v4, v5, v6] := by
    match cs.toList, hl with
    | [v0, v1, v2, v3, v4, v5, v6], _ => exact ⟨v0, v1, v2, v3, v4, v5, v6, rfl⟩
  obtain ⟨v0, v1, v2, v3, v4, v5, v6, e⟩ := e
  rw [e] at hf
  match xs, hxs with
  | [y0, y1, y2, y3], _ =>
    have h0 := hf 0 _ rfl
    have h1 := hf 1 _ rfl
    have h2 := hf 2 _ rfl
    have h3 := hf 3 _ rfl
    simp [cellsInt, cellsSs, cellsLRg2, cellsLSk] at h0 h1 h2 h3
    obtain ⟨k, e0, -, -⟩ := DataW.trod_int Try.underlying2 h0
    simp at e0
    subst e0
    obtain ⟨rr, e1, hR⟩ := ring_of_trod h1
    obtain ⟨Q, rQ, sQ⟩ := rdS_of_trod h2
    obtain ⟨S, D, e3, hS⟩ := sketch_of_trod h3
    subst e1 e3
    refine ⟨v1, v2, v4, v5, ⟨k, rr, Q, S, D⟩, ?_, ⟨hR, rQ, sQ, hS⟩⟩
    have : cs = (cs.toList).toArray := by simp
    rw [this, e]
end Go.Proofs.Ytapchjkiiifhdaa.rg
/- Small facts on how many numbers a sketch holds. -/
namespace Go.Proofs.Ytapchjkiiifhdaa.sk
open Go.ChangeShapes Go.WideShapes Go.ChangeAt Go.RowKit
set_option linter.unusedVariables false
set_option maxRecDepth 100000 in
theorem Four.modest {R : List (List Int)} (h : Four R) : Modest R := ⟨by rw [h.1]; omega, fun xs hx => by rw [h.2 xs hx]; omega⟩
set_option maxRecDepth 100000 in
theorem zeros_modest : Modest zeros := zeros_four.modest
set_option maxRecDepth 100000 in
theorem addedR_modest (R : List (List Int)) (adds : Int) (key : ByteArray) : Modest (addedR R adds key) := by
  unfold addedR
  split
  · rename_i h
    split
    · exact (halfR_four (addR_four h.four)).modest
    · exact (addR_four h.four).modest
  · exact ⟨by simp, fun xs hx => by simp at hx⟩
end Go.Proofs.Ytapchjkiiifhdaa.sk
/- The laws' marks on a choice without names; a choice kept. -/
namespace Go.Proofs.Ytapchjkiiifhdaa.rg
open Go.ChangeShapes Go.WideShapes Go.ChangeAt Go.RowKit
open Go.Deep Go.Joins
open Go.Proofs.Ytapchjkiiifhdaa.ce Go.Proofs.Ytapchjkiiifhdaa.ro
set_option linter.unusedVariables false
set_option linter.unusedSimpArgs false

theorem within_sk {lo hi : Nat} {w w' : World} (h : sk.Within lo hi w w') : Within lo hi w w' := ⟨h.os, h.tape, h.output, h.size, h.block⟩
def mkC (c : Ch) : Ch := ⟨c.K, c.R, c.Q, sk.markR 1 c.S, c.D⟩
theorem markR_modest {S : List (List Int)} (hm : sk.Modest S) : sk.Modest (sk.markR 1 S) := by
  refine ⟨by rw [sk.markR_len]; exact hm.1, fun xs hx => ?_⟩
  obtain ⟨i, hi, rfl⟩ := List.mem_iff_getElem.1 hx
  have hi2 : i < S.length := by rw [← sk.markR_len 1 S]; exact hi
  rw [sk.markR_get 1 S i hi2 hi, sk.marks_len]
  exact hm.2 _ (List.getElem_mem hi2)
/-- no names in it -/
structure Bare (c : Ch) : Prop where
  n : c.R.N = []
  u : c.R.U = []
  q : c.Q = []
  s : sk.Modest c.S
theorem bare_new (k : Int) : Bare (cpC (newC k)) := by
  unfold cpC
  split
  · exact ⟨rfl, rfl, rfl, sk.zeros_modest⟩
  · exact ⟨rfl, rfl, rfl, ⟨by show (0 : Nat) ≤ _; omega, fun xs hx => by cases hx⟩⟩
theorem Bare.rd {w : World} {lo hi : Nat} {vN vU vQ vS : Value} {c : Ch} (b : Bare c) (h : OwnC w lo hi vN vU vQ vS c) : RdC w vN vU vQ vS c :=
  h.rd (fun s hs => by rw [b.n] at hs; cases hs) (fun s hs => by rw [b.q] at hs; cases hs)
theorem RdC.forms {w : World} {vN vU vQ vS : Value} {c : Ch} (h : RdC w vN vU vQ vS c) : (∃ a n k, vN = .slice a n k) ∧ (∃ a n k, vU = .slice a n k) ∧ (∃ a n k, vQ = .slice a n k) ∧ ∃ a n k, vS = .slice a n k := by
  obtain ⟨a, b, e1⟩ := h.r.n.form
  obtain ⟨a2, b2, e2⟩ := h.r.u.form
  obtain ⟨a3, b3, e3⟩ := h.q.form
  obtain ⟨a4, b4, e4⟩ := sk_form h.s
  exact ⟨⟨_, _, _, e1⟩, ⟨_, _, _, e2⟩, ⟨_, _, _, e3⟩, ⟨_, _, _, e4⟩⟩
theorem sk_within {w w' : World} {lo hi l2 h2 : Nat} {v : Value} {R : List (List Int)} (h : sk.Own w lo hi v R) (hw : Within l2 h2 w w') (hd : hi ≤ l2 ∨ h2 ≤ lo) : sk.Own w' lo hi v R :=
  sk.Own.keep h (fun k x y => hw.block k (by have := sk_hi h; omega) (by omega)) hw.size
set_option maxRecDepth 100000 in
set_option maxHeartbeats 4000000 in
theorem markBare_any (c : Ch) (b : Bare c) (mm : Nat) (hmm : Hid (mm = 1 + sk.sumLen c.S)) (vN vU vQ vS : Value) (lo hi : Nat) (w : World) (o : OwnC w lo hi vN vU vQ vS c) :
    Calls Try.prog 21 #[.agg #[.int .i64 c.K, vN, vU, .int .i64 c.R.A, vQ, vS, .int .i64 c.D], .int .i64 1] w fun e w' => e = .returned (.int .i64 mm) ∧ OwnC w' lo hi vN vU vQ vS (mkC c) ∧ Within lo hi w w' := by
  obtain ⟨K, ⟨N, U, A⟩, Q, S, D⟩ := c
  obtain ⟨h1, h2, h3, hm⟩ := b
  dsimp only at h1 h2 h3
  subst h1 h2 h3
  dsimp only at hmm
  obtain ⟨⟨aN1, nN1, kN1, rfl⟩, ⟨aU1, nU1, kU1, rfl⟩, ⟨aQ1, nQ1, kQ1, rfl⟩, ⟨aS1, nS1, kS1, rfl⟩⟩ := o.forms
  obtain ⟨⟨l1, h1, l2, h2, l3, h3, oR, oQ, oS, ⟨e1, e2, e3, e4, e5, e6⟩, e7, e8, e9⟩, sz⟩ := o
  dsimp only at oR oQ oS
  have em : (1 : Int) + (sk.sumLen S : Int) = (mm : Int) := by have := hmm.out; omega
  have m1 : Hid True := trivial
  go_enter Try.func21, Try.ntmps21
  go_wp2_with (first | (clear m1; refine wpList_box_v rfl 36 _ rfl [.int .i64 K, .slice aN1 nN1 kN1, .slice aU1 nU1 kU1, .int .i64 A, .slice aQ1 nQ1 kQ1, .slice aS1 nS1 kS1, .int .i64 D] rfl ?_; intro b1 w1 hb1 hw1 hB1 V1; replace oR := oR.grow hB1; replace oQ := oQ.grow hB1; replace oS := ownS_grow oS hB1; obtain ⟨c0, c1, c2, c3, c4, c5, c6⟩ := cells7c V1; have hW : Within lo hi w w1 := Within.of_below hB1 (Nat.le_refl _); have hz1 := hB1.size) | (go_at_call 76; refine (markRing_any ⟨[], [], A⟩ 1 rfl (by simp) (by simp) _ _ l1 h1 _ oR).mono ?_; rintro e w2 ⟨rfl, oR2, hM2⟩; have hz2 := hM2.size; replace V1 := V1.of (hM2.block _ V1.lt (by omega)); clear c0 c1 c2 c3 c4 c5 c6; obtain ⟨c0, c1, c2, c3, c4, c5, c6⟩ := cells7c V1; clear oR; replace oQ := oQ.within hM2 (by omega); replace oS := sk_within oS hM2 (by omega); replace hW := hW.trans (hM2.wide (by omega) (by omega))) | (go_at_call 30; refine (markTexts_any [] _ l2 h2 1 (by omega) (by simp) 1 rfl _ oQ).mono ?_; rintro e w3 ⟨rfl, oQ3, hM3, -⟩; have hz3 := hM3.size; replace V1 := V1.of (hM3.block _ V1.lt (by omega)); clear c0 c1 c2 c3 c4 c5 c6; obtain ⟨c0, c1, c2, c3, c4, c5, c6⟩ := cells7c V1; clear oQ; have oR3 := oR2.within hM3 (by omega); clear oR2; replace oS := sk_within oS hM3 (by omega); replace hW := hW.trans (hM3.wide (by omega) (by omega))) | (go_at_call 77; refine (sk.markSketch_any S hm _ D _ l3 h3 oS (sk_hi oS)).mono ?_; rintro e w4 ⟨rfl, oS4, hM4s⟩; have hM4 := within_sk hM4s; have oR4 := oR3.within hM4 (by omega); have oQ4 := oQ3.within hM4 (by omega); replace hW := hW.trans (hM4.wide (by omega) (by omega))) | (fail))
  go_ret
  exact ⟨rfl, ⟨⟨l1, h1, l2, h2, l3, h3, oR4, oQ4, oS4, ⟨e1, e2, e3, e4, e5, e6⟩, e7, e8, e9⟩, Nat.le_trans sz hW.size⟩, hW⟩
set_option maxRecDepth 100000 in
set_option maxHeartbeats 4000000 in
theorem heldBare_any (c : Ch) (b : Bare c) (mm : Nat) (hmm : Hid (mm = 1 + sk.sumLen c.S)) (vN vU vQ vS : Value) (lo hi : Nat) (w : World) (o : OwnC w lo hi vN vU vQ vS (mkC c)) :
    Calls Try.prog 22 #[.agg #[.int .i64 c.K, vN, vU, .int .i64 c.R.A, vQ, vS, .int .i64 c.D], .int .i64 1] w fun e w' => e = .returned (.int .i64 mm) ∧ Below w.heap.size w w' := by
  obtain ⟨K, ⟨N, U, A⟩, Q, S, D⟩ := c
  obtain ⟨h1, h2, h3, hm⟩ := b
  dsimp only at h1 h2 h3
  subst h1 h2 h3
  dsimp only at hmm
  obtain ⟨⟨aN1, nN1, kN1, rfl⟩, ⟨aU1, nU1, kU1, rfl⟩, ⟨aQ1, nQ1, kQ1, rfl⟩, ⟨aS1, nS1, kS1, rfl⟩⟩ := o.forms
  have rd := Bare.rd (c := mkC ⟨K, ⟨[], [], A⟩, [], S, D⟩) ⟨rfl, rfl, rfl, markR_modest hm⟩ o
  have R : Hid (RdC w (.slice aN1 nN1 kN1) (.slice aU1 nU1 kU1) (.slice aQ1 nQ1 kQ1) (.slice aS1 nS1 kS1) ⟨K, ⟨[], [], A⟩, [], sk.markR 1 S, D⟩) := rd
  clear rd o
  have em : (1 : Int) + (sk.sumLen S : Int) = (mm : Int) := by have := hmm.out; omega
  have e0 : ¬ ((mm : Int) < 0) := by omega
  have m1 : Hid True := trivial
  go_enter Try.func22, Try.ntmps22
  go_wp2_with (first | (clear m1; refine wpList_box_v rfl 36 _ rfl [.int .i64 K, .slice aN1 nN1 kN1, .slice aU1 nU1 kU1, .int .i64 A, .slice aQ1 nQ1 kQ1, .slice aS1 nS1 kS1, .int .i64 D] rfl ?_; intro b1 w1 hb1 hw1 hB1 V1; obtain ⟨c0, c1, c2, c3, c4, c5, c6⟩ := cells7c V1; have hB := hB1; have hz := hB.size) | (go_at_call 78; refine (heldRing_any ⟨[], [], A⟩ 1 rfl (by simp) (by simp) _ _ _ (R.out.grow hB).r.n (R.out.grow hB).r.u).mono ?_; rintro e w2 ⟨rfl, hB2⟩; replace V1 := vblk_grow V1 hB2; clear c0 c1 c2 c3 c4 c5 c6; obtain ⟨c0, c1, c2, c3, c4, c5, c6⟩ := cells7c V1; replace hB := hB.trans (hB2.mono hz); replace hz := hB.size) | (go_at_call 31; refine (heldTexts_any 0 _ 1 (by omega) (by omega) 1 rfl _ (R.out.grow hB).q).mono ?_; rintro e w3 ⟨rfl, hB3⟩; replace V1 := vblk_grow V1 hB3; clear c0 c1 c2 c3 c4 c5 c6; obtain ⟨c0, c1, c2, c3, c4, c5, c6⟩ := cells7c V1; replace hB := hB.trans (hB3.mono hz); replace hz := hB.size) | (go_at_call 79; refine (sk.heldSketch_any S hm _ D _ 0 _ (Nat.le_refl _) (R.out.grow hB).s).mono ?_; rintro e w4 ⟨rfl, hB4⟩; rw [em]; replace hB := hB.trans (hB4.mono hz)) | (fail))
  go_ret
  exact ⟨rfl, hB⟩
end Go.Proofs.Ytapchjkiiifhdaa.rg
