/- Contracts: the program's Opened, Stored, Doubled, NewSplit. -/
import Derived.Test.YtbialeffdpmcjaaSz2
import Derived.Test.YtbialeffdpmcjaaSz1
import Derived.Test.YtbialeffdpmcjaaSy3
namespace Go.Proofs.Ytbialeffdpmcjaa.sx
open Go.ChangeShapes Go.WideShapes Go.ChangeAt Go.RowKit
open Go.Proofs.Ytbialeffdpmcjaa.ce
set_option linter.unusedVariables false

set_option maxRecDepth 100000 in
set_option maxHeartbeats 4000000 in
theorem implNewSplit_all (w : World) :
    Calls Try.prog 18 #[] w fun e w' => ∃ v', e = .returned (.agg #[.int .i64 1, v']) ∧ OwnI w' w.heap.size w'.heap.size v' [0] ∧ Below w.heap.size w w' := by
  go_enter Try.func18, Try.ntmps18
  go_wp2_with (first | (refine wpList_alloc_v rfl 27 rfl _ zeroSp ?_; intro b1 w1 hb1 hw1 hB1 hV1; have hz1 := hB1.size) | (go_at_call 50; refine (implMarkKey_any _ _).mono ?_; rintro er wq ⟨rfl, hq⟩; subst wq; rw [keyB00]) | (refine wpList_store_v rfl 27 _ _ rfl b1 [.int .i64 1, .slice (some ⟨w1.heap.size, 0, none⟩) 1 1] rfl rfl sizeSp (hV1.of (heap_alloc_old _ _ hw1)) rfl (by simp [Value.oneCell']) ?_; intro w3 hO3 hV3) | (fail))
  have hBa : Below w1.heap.size w1 (w1.alloc (.cells #[.int .i64 0] 2)) := (Below.refl _ _).alloc (Nat.le_refl _) _
  have ho : OwnI (w1.alloc (.cells #[.int .i64 0] 2)) w1.heap.size (w1.alloc (.cells #[.int .i64 0] 2)).heap.size (.slice (some ⟨w1.heap.size, 0, none⟩) 1 1) [0] :=
    ⟨⟨rfl, .inr ⟨w1.heap.size, 1, #[.int .i64 0], rfl, Nat.le_refl _, heap_alloc_new _ _, Nat.le_refl _, by unfold maxLen; omega, rfl, rfl⟩⟩, fun g hg => by cases hg; simp⟩
  refine row_retv rfl rfl hV3 Try.underlying27 sizeSp rfl ⟨_, rfl, (ho.keep fun j j1 j2 => hO3.2.1 j (by omega)).wide hB1.size (by have := hO3.1; omega), (hB1.trans (hBa.mono hz1)).trans (hO3.2.2 _ hb1)⟩

set_option maxRecDepth 100000 in
set_option maxHeartbeats 4000000 in
theorem implOpened_all (n : Int) (ks : List Int) (hb63 : ∀ k ∈ ks, k ≤ 9223372036854775807) (v : Value) (hi : Nat) (w : World) (hh : hi ≤ w.heap.size) (r : RdI w hi v ks) (b : Int) :
    Calls Try.prog 22 #[.agg #[.int .i64 n, v], .int .i64 b] w fun e w' => ∃ v', e = .returned (.tuple #[.agg #[.int .i64 (opN n ks), v'], .bool (opB n ks b)]) ∧ OwnI w' w.heap.size w'.heap.size v' (opK n ks b) ∧ Below w.heap.size w w' := by
  obtain ⟨a, cap, rfl⟩ := r.form
  have R : Hid (RdI w hi (.slice a ks.length cap) ks) := r
  have K63 : Hid (∀ k ∈ ks, k ≤ 9223372036854775807) := hb63
  clear r hb63
  by_cases hok : splitB n ks = true
  · by_cases hb : 0 ≤ b ∧ b < n
    · obtain ⟨hb0, hb1⟩ := hb
      have e1 : opN n ks = n := if_pos hok
      have e2 : opB n ks b = true := by unfold opB; rw [hok, decide_eq_true hb0, decide_eq_true hb1]; rfl
      have e3 : opK n ks b = opn b.toNat ks b := by unfold opK; rw [if_pos hok, if_pos ⟨hb0, hb1⟩]
      have hD : door n b = b := if_pos ⟨hb0, hb1⟩
      have hne : (b == -1) = false := by rw [beq_eq_false_iff_ne]; omega
      rw [e1, e2, e3]
      have HK : Hid (splitB n ks = true) := hok
      have OK := splitB_iff.1 hok
      have hk1 := OK.pos
      have hk2 := OK.len
      have hn := OK.bd
      have OKH : Hid (SOk n ks) := OK
      clear hok OK
      go_enter Try.func22, Try.ntmps22
      have mk1 : Hid True := trivial
      have mk2 : Hid True := trivial
      have mk3 : Hid True := trivial
      have mk4 : Hid True := trivial
      have mk5 : Hid True := trivial
      have mk6 : Hid True := trivial
      have mk7 : Hid True := trivial
      go_wp2_with (first | (clear mk1; refine wpList_box_v rfl 27 _ rfl [.int .i64 n, .slice a ks.length cap] rfl ?_; intro b2 w1 hb2 hwb2 hB1 hVb2; have hz1 : w.heap.size ≤ w1.heap.size := hB1.size; have hB := hB1; have hzw := hB.size; have c2 : SV w1 b2 27 (.int .i64 n) (.slice a ks.length cap) := ⟨hVb2⟩; clear hVb2; obtain ⟨c20, c21⟩ := c2.cells) | (clear mk2; refine wpList_alloc_v rfl 27 rfl _ zeroSp ?_; intro b4 w2 hb4 hwb4 hB2 hVb4; have hz2 : w1.heap.size ≤ w2.heap.size := hB2.size; replace c2 := c2.below hB2 (by omega); replace hB := hB.trans (hB2.mono (by omega)); replace hzw := hB.size; clear c20 c21; obtain ⟨c20, c21⟩ := c2.cells; have c4 : SV w2 b4 27 (.int .i64 0) (.slice none 0 0) := ⟨hVb4⟩; clear hVb4; obtain ⟨c40, c41⟩ := c4.cells) | (clear mk3; go_at_call 15; refine (implSplitOk_any n ks K63.out _ hi _ (by omega) (R.out.below hB hh)).mono ?_; rintro er w3 ⟨rfl, hB3⟩; have hz3 : w2.heap.size ≤ w3.heap.size := hB3.size; replace c2 := c2.below hB3 (by omega); replace c4 := c4.below hB3 (by omega); replace hB := hB.trans (hB3.mono (by omega)); replace hzw := hB.size; clear c20 c21; obtain ⟨c20, c21⟩ := c2.cells; clear c40 c41; obtain ⟨c40, c41⟩ := c4.cells; rw [HK.out]) | (clear mk4; go_at_call 55; refine (byNumber_any _ _).mono ?_; rintro er w4 ⟨rfl, hq4⟩; have hB4 : Below _ _ w4 := hq4 ▸ (Below.refl _ _).alloc (Nat.le_refl _) _; have cn : w4.cell? ⟨w3.heap.size, 0, none⟩ = some (.int .i64 n) := (by rw [hq4]; simp); clear hq4; have hz4 : w3.heap.size ≤ w4.heap.size := hB4.size; replace c2 := c2.below hB4 (by omega); replace c4 := c4.below hB4 (by omega); replace hB := hB.trans (hB4.mono (by omega)); replace hzw := hB.size; clear c20 c21; obtain ⟨c20, c21⟩ := c2.cells; clear c40 c41; obtain ⟨c40, c41⟩ := c4.cells) | (clear mk5; go_at_call 83; refine (byNumber1_any n b _ _ cn).mono ?_; rintro er wq ⟨rfl, hq⟩; subst wq; rw [hD]; clear cn) | (clear mk6; go_at_call 57; refine (spOpened_any n ks b OKH.out hb0 hb1 _ hi _ (by omega) (R.out.below hB hh)).mono ?_; rintro er w5 ⟨v5, rfl, o5, hB5⟩; have hz5 : w4.heap.size ≤ w5.heap.size := hB5.size; replace c2 := c2.below hB5 (by omega); replace c4 := c4.below hB5 (by omega); replace hB := hB.trans (hB5.mono (by omega)); replace hzw := hB.size; clear c20 c21; obtain ⟨c20, c21⟩ := c2.cells; clear c40 c41; obtain ⟨c40, c41⟩ := c4.cells; obtain ⟨ac, nc, kc, rfl⟩ := own_slice o5; have oc := o5) | (clear mk7; refine wpList_store_v rfl 27 _ _ rfl b4 [.int .i64 n, .slice ac nc kc] rfl rfl sizeSp c4.blk rfl (by simp [Value.oneCell']) ?_; intro w6 hO6 hVb4; have hz6 : w5.heap.size ≤ w6.heap.size := (Nat.le_of_eq hO6.1.symm); replace oc := oc.keep (w' := w6) (fun k g1 g2 => hO6.2.1 k (by omega)); replace c2 := c2.keep (w' := w6) (fun k g1 g2 => hO6.2.1 k (by omega)); replace hB := hB.trans (hO6.2.2 _ (by omega)); replace hzw := hB.size; clear c20 c21; obtain ⟨c20, c21⟩ := c2.cells; replace c4 : SV w6 b4 27 (.int .i64 n) (.slice ac nc kc) := ⟨hVb4⟩; clear hVb4; clear c40 c41; obtain ⟨c40, c41⟩ := c4.cells) | (fail))
      exact row_cell_tmp' rfl rfl rfl c4.blk Try.underlying27 sizeSp rfl ⟨_, rfl, oc.wide (by omega) (by omega), hB⟩
    · have e1 : opN n ks = n := if_pos hok
      have e2 : opB n ks b = false := by unfold opB; by_cases h0 : 0 ≤ b; (· rw [decide_eq_false (show ¬ b < n from fun h => hb ⟨h0, h⟩)]; simp); (· rw [decide_eq_false h0]; simp)
      have e3 : opK n ks b = ks := by unfold opK; rw [if_pos hok, if_neg hb]
      have hD : door n b = -1 := if_neg hb
      rw [e1, e2, e3]
      have HK : Hid (splitB n ks = true) := hok
      have OK := splitB_iff.1 hok
      have hk1 := OK.pos
      have hk2 := OK.len
      have hn := OK.bd
      have OKH : Hid (SOk n ks) := OK
      clear hok OK
      go_enter Try.func22, Try.ntmps22
      have mk1 : Hid True := trivial
      have mk2 : Hid True := trivial
      have mk3 : Hid True := trivial
      have mk4 : Hid True := trivial
      have mk5 : Hid True := trivial
      have mk6 : Hid True := trivial
      have mk7 : Hid True := trivial
      go_wp2_with (first | (clear mk1; refine wpList_box_v rfl 27 _ rfl [.int .i64 n, .slice a ks.length cap] rfl ?_; intro b2 w1 hb2 hwb2 hB1 hVb2; have hz1 : w.heap.size ≤ w1.heap.size := hB1.size; have hB := hB1; have hzw := hB.size; have c2 : SV w1 b2 27 (.int .i64 n) (.slice a ks.length cap) := ⟨hVb2⟩; clear hVb2; obtain ⟨c20, c21⟩ := c2.cells) | (clear mk2; refine wpList_alloc_v rfl 27 rfl _ zeroSp ?_; intro b4 w2 hb4 hwb4 hB2 hVb4; have hz2 : w1.heap.size ≤ w2.heap.size := hB2.size; replace c2 := c2.below hB2 (by omega); replace hB := hB.trans (hB2.mono (by omega)); replace hzw := hB.size; clear c20 c21; obtain ⟨c20, c21⟩ := c2.cells; have c4 : SV w2 b4 27 (.int .i64 0) (.slice none 0 0) := ⟨hVb4⟩; clear hVb4; obtain ⟨c40, c41⟩ := c4.cells) | (clear mk3; go_at_call 15; refine (implSplitOk_any n ks K63.out _ hi _ (by omega) (R.out.below hB hh)).mono ?_; rintro er w3 ⟨rfl, hB3⟩; have hz3 : w2.heap.size ≤ w3.heap.size := hB3.size; replace c2 := c2.below hB3 (by omega); replace c4 := c4.below hB3 (by omega); replace hB := hB.trans (hB3.mono (by omega)); replace hzw := hB.size; clear c20 c21; obtain ⟨c20, c21⟩ := c2.cells; clear c40 c41; obtain ⟨c40, c41⟩ := c4.cells; rw [HK.out]) | (clear mk4; go_at_call 55; refine (byNumber_any _ _).mono ?_; rintro er w4 ⟨rfl, hq4⟩; have hB4 : Below _ _ w4 := hq4 ▸ (Below.refl _ _).alloc (Nat.le_refl _) _; have cn : w4.cell? ⟨w3.heap.size, 0, none⟩ = some (.int .i64 n) := (by rw [hq4]; simp); clear hq4; have hz4 : w3.heap.size ≤ w4.heap.size := hB4.size; replace c2 := c2.below hB4 (by omega); replace c4 := c4.below hB4 (by omega); replace hB := hB.trans (hB4.mono (by omega)); replace hzw := hB.size; clear c20 c21; obtain ⟨c20, c21⟩ := c2.cells; clear c40 c41; obtain ⟨c40, c41⟩ := c4.cells) | (clear mk5; go_at_call 83; refine (byNumber1_any n b _ _ cn).mono ?_; rintro er wq ⟨rfl, hq⟩; subst wq; rw [hD]; clear cn) | (clear mk6; go_at_call 56; refine (spCopied_any n ks _ hi _ (by omega) (R.out.below hB hh) hk1 (by omega)).mono ?_; rintro er w5 ⟨v5, rfl, o5, hB5⟩; have hz5 : w4.heap.size ≤ w5.heap.size := hB5.size; replace c2 := c2.below hB5 (by omega); replace c4 := c4.below hB5 (by omega); replace hB := hB.trans (hB5.mono (by omega)); replace hzw := hB.size; clear c20 c21; obtain ⟨c20, c21⟩ := c2.cells; clear c40 c41; obtain ⟨c40, c41⟩ := c4.cells; obtain ⟨ac, nc, kc, rfl⟩ := own_slice o5; have oc := o5) | (clear mk7; refine wpList_store_v rfl 27 _ _ rfl b4 [.int .i64 n, .slice ac nc kc] rfl rfl sizeSp c4.blk rfl (by simp [Value.oneCell']) ?_; intro w6 hO6 hVb4; have hz6 : w5.heap.size ≤ w6.heap.size := (Nat.le_of_eq hO6.1.symm); replace oc := oc.keep (w' := w6) (fun k g1 g2 => hO6.2.1 k (by omega)); replace c2 := c2.keep (w' := w6) (fun k g1 g2 => hO6.2.1 k (by omega)); replace hB := hB.trans (hO6.2.2 _ (by omega)); replace hzw := hB.size; clear c20 c21; obtain ⟨c20, c21⟩ := c2.cells; replace c4 : SV w6 b4 27 (.int .i64 n) (.slice ac nc kc) := ⟨hVb4⟩; clear hVb4; clear c40 c41; obtain ⟨c40, c41⟩ := c4.cells) | (fail))
      exact row_cell_tmp' rfl rfl rfl c4.blk Try.underlying27 sizeSp rfl ⟨_, rfl, oc.wide (by omega) (by omega), hB⟩
  · have e1 : opN n ks = 0 := if_neg hok
    have e2 : opB n ks b = false := by unfold opB; rw [show splitB n ks = false by simpa using hok]; rfl
    have e3 : opK n ks b = [] := if_neg hok
    rw [e1, e2, e3]
    have HK : Hid (splitB n ks = false) := by unfold Hid; simpa using hok
    clear hok
    go_enter Try.func22, Try.ntmps22
    have mk1 : Hid True := trivial
    have mk2 : Hid True := trivial
    have mk3 : Hid True := trivial
    have mk4 : Hid True := trivial
    go_wp2_with (first | (clear mk1; refine wpList_box_v rfl 27 _ rfl [.int .i64 n, .slice a ks.length cap] rfl ?_; intro b2 w1 hb2 hwb2 hB1 hVb2; have hz1 : w.heap.size ≤ w1.heap.size := hB1.size; have hB := hB1; have hzw := hB.size; have c2 : SV w1 b2 27 (.int .i64 n) (.slice a ks.length cap) := ⟨hVb2⟩; clear hVb2; obtain ⟨c20, c21⟩ := c2.cells) | (clear mk2; refine wpList_alloc_v rfl 27 rfl _ zeroSp ?_; intro b4 w2 hb4 hwb4 hB2 hVb4; have hz2 : w1.heap.size ≤ w2.heap.size := hB2.size; replace c2 := c2.below hB2 (by omega); replace hB := hB.trans (hB2.mono (by omega)); replace hzw := hB.size; clear c20 c21; obtain ⟨c20, c21⟩ := c2.cells; have c4 : SV w2 b4 27 (.int .i64 0) (.slice none 0 0) := ⟨hVb4⟩; clear hVb4; obtain ⟨c40, c41⟩ := c4.cells) | (clear mk3; go_at_call 15; refine (implSplitOk_any n ks K63.out _ hi _ (by omega) (R.out.below hB hh)).mono ?_; rintro er w3 ⟨rfl, hB3⟩; have hz3 : w2.heap.size ≤ w3.heap.size := hB3.size; replace c2 := c2.below hB3 (by omega); replace c4 := c4.below hB3 (by omega); replace hB := hB.trans (hB3.mono (by omega)); replace hzw := hB.size; clear c20 c21; obtain ⟨c20, c21⟩ := c2.cells; clear c40 c41; obtain ⟨c40, c41⟩ := c4.cells; rw [HK.out]) | (clear mk4; refine wpList_store_v rfl 27 _ _ rfl b4 [.int .i64 0, .slice none 0 0] rfl rfl sizeSp c4.blk rfl (by simp [Value.oneCell']) ?_; intro w4 hO4 hVb4; have hz4 : w3.heap.size ≤ w4.heap.size := (Nat.le_of_eq hO4.1.symm); replace c2 := c2.keep (w' := w4) (fun k g1 g2 => hO4.2.1 k (by omega)); replace hB := hB.trans (hO4.2.2 _ (by omega)); replace hzw := hB.size; clear c20 c21; obtain ⟨c20, c21⟩ := c2.cells; replace c4 : SV w4 b4 27 (.int .i64 0) (.slice none 0 0) := ⟨hVb4⟩; clear hVb4; clear c40 c41; obtain ⟨c40, c41⟩ := c4.cells) | (fail))
    exact row_cell_tmp' rfl rfl rfl c4.blk Try.underlying27 sizeSp rfl ⟨_, rfl, ownI_none _ _ _, hB⟩

set_option maxRecDepth 100000 in
set_option maxHeartbeats 4000000 in
theorem implDoubled_all (n : Int) (ks : List Int) (hb63 : ∀ k ∈ ks, k ≤ 9223372036854775807) (v : Value) (hi : Nat) (w : World) (hh : hi ≤ w.heap.size) (r : RdI w hi v ks) :
    Calls Try.prog 26 #[.agg #[.int .i64 n, v]] w fun e w' => ∃ v', e = .returned (.tuple #[.agg #[.int .i64 (dbN n ks), v'], .bool (dbB n ks)]) ∧ OwnI w' w.heap.size w'.heap.size v' (dbK n ks) ∧ Below w.heap.size w w' := by
  obtain ⟨a, cap, rfl⟩ := r.form
  have R : Hid (RdI w hi (.slice a ks.length cap) ks) := r
  have K63 : Hid (∀ k ∈ ks, k ≤ 9223372036854775807) := hb63
  clear r hb63
  by_cases hok : splitB n ks = true
  · by_cases h64 : n = 64
    · have e1 : dbN n ks = n := by unfold dbN; rw [if_pos hok, if_pos h64]
      have e2 : dbB n ks = false := by unfold dbB; rw [h64]; simp
      have e3 : dbK n ks = ks := if_pos hok
      rw [e1, e2, e3]
      have h64b : (n == 64) = true := by simpa using h64
      clear h64 e1 e2 e3
      have HK : Hid (splitB n ks = true) := hok
      have OK := splitB_iff.1 hok
      have hk1 := OK.pos
      have hk2 := OK.len
      have hn := OK.bd
      have OKH : Hid (SOk n ks) := OK
      clear hok OK
      go_enter Try.func26, Try.ntmps26
      have mk1 : Hid True := trivial
      have mk2 : Hid True := trivial
      have mk3 : Hid True := trivial
      have mk4 : Hid True := trivial
      have mk5 : Hid True := trivial
      have mk6 : Hid True := trivial
      have mk7 : Hid True := trivial
      go_wp2_with (first | (clear mk1; refine wpList_box_v rfl 27 _ rfl [.int .i64 n, .slice a ks.length cap] rfl ?_; intro b2 w1 hb2 hwb2 hB1 hVb2; have hz1 : w.heap.size ≤ w1.heap.size := hB1.size; have hB := hB1; have hzw := hB.size; have c2 : SV w1 b2 27 (.int .i64 n) (.slice a ks.length cap) := ⟨hVb2⟩; clear hVb2; obtain ⟨c20, c21⟩ := c2.cells) | (clear mk2; refine wpList_alloc_v rfl 27 rfl _ zeroSp ?_; intro b4 w2 hb4 hwb4 hB2 hVb4; have hz2 : w1.heap.size ≤ w2.heap.size := hB2.size; replace c2 := c2.below hB2 (by omega); replace hB := hB.trans (hB2.mono (by omega)); replace hzw := hB.size; clear c20 c21; obtain ⟨c20, c21⟩ := c2.cells; have c4 : SV w2 b4 27 (.int .i64 0) (.slice none 0 0) := ⟨hVb4⟩; clear hVb4; obtain ⟨c40, c41⟩ := c4.cells) | (clear mk3; go_at_call 15; refine (implSplitOk_any n ks K63.out _ hi _ (by omega) (R.out.below hB hh)).mono ?_; rintro er w3 ⟨rfl, hB3⟩; have hz3 : w2.heap.size ≤ w3.heap.size := hB3.size; replace c2 := c2.below hB3 (by omega); replace c4 := c4.below hB3 (by omega); replace hB := hB.trans (hB3.mono (by omega)); replace hzw := hB.size; clear c20 c21; obtain ⟨c20, c21⟩ := c2.cells; clear c40 c41; obtain ⟨c40, c41⟩ := c4.cells; rw [HK.out]) | (clear mk4; go_at_call 56; refine (spCopied_any n ks _ hi _ (by omega) (R.out.below hB hh) hk1 (by omega)).mono ?_; rintro er w4 ⟨v4, rfl, o4, hB4⟩; have hz4 : w3.heap.size ≤ w4.heap.size := hB4.size; replace c2 := c2.below hB4 (by omega); replace c4 := c4.below hB4 (by omega); replace hB := hB.trans (hB4.mono (by omega)); replace hzw := hB.size; clear c20 c21; obtain ⟨c20, c21⟩ := c2.cells; clear c40 c41; obtain ⟨c40, c41⟩ := c4.cells; obtain ⟨ac, nc, kc, rfl⟩ := own_slice o4; have oc := o4) | (clear mk5; refine wpList_alloc_v rfl 27 rfl _ zeroSp ?_; intro b6 w5 hb6 hwb6 hB5 hVb6; have hz5 : w4.heap.size ≤ w5.heap.size := hB5.size; replace oc := oc.below hB5 (by omega); replace c2 := c2.below hB5 (by omega); replace c4 := c4.below hB5 (by omega); replace hB := hB.trans (hB5.mono (by omega)); replace hzw := hB.size; clear c20 c21; obtain ⟨c20, c21⟩ := c2.cells; clear c40 c41; obtain ⟨c40, c41⟩ := c4.cells; have c6 : SV w5 b6 27 (.int .i64 0) (.slice none 0 0) := ⟨hVb6⟩; clear hVb6; obtain ⟨c60, c61⟩ := c6.cells) | (clear mk6; refine wpList_store_v rfl 27 _ _ rfl b6 [.int .i64 n, .slice ac nc kc] rfl rfl sizeSp c6.blk rfl (by simp [Value.oneCell']) ?_; intro w6 hO6 hVb6; have hz6 : w5.heap.size ≤ w6.heap.size := (Nat.le_of_eq hO6.1.symm); replace oc := oc.keep (w' := w6) (fun k g1 g2 => hO6.2.1 k (by omega)); replace c2 := c2.keep (w' := w6) (fun k g1 g2 => hO6.2.1 k (by omega)); replace c4 := c4.keep (w' := w6) (fun k g1 g2 => hO6.2.1 k (by omega)); replace hB := hB.trans (hO6.2.2 _ (by omega)); replace hzw := hB.size; clear c20 c21; obtain ⟨c20, c21⟩ := c2.cells; clear c40 c41; obtain ⟨c40, c41⟩ := c4.cells; replace c6 : SV w6 b6 27 (.int .i64 n) (.slice ac nc kc) := ⟨hVb6⟩; clear hVb6; clear c60 c61; obtain ⟨c60, c61⟩ := c6.cells) | (clear mk7; refine wpList_store_v rfl 27 _ _ rfl b4 [.int .i64 n, .slice ac nc kc] rfl rfl sizeSp c4.blk rfl (by simp [Value.oneCell']) ?_; intro w7 hO7 hVb4; have hz7 : w6.heap.size ≤ w7.heap.size := (Nat.le_of_eq hO7.1.symm); replace oc := oc.keep (w' := w7) (fun k g1 g2 => hO7.2.1 k (by omega)); replace c2 := c2.keep (w' := w7) (fun k g1 g2 => hO7.2.1 k (by omega)); replace c6 := c6.keep (w' := w7) (fun k g1 g2 => hO7.2.1 k (by omega)); replace hB := hB.trans (hO7.2.2 _ (by omega)); replace hzw := hB.size; clear c20 c21; obtain ⟨c20, c21⟩ := c2.cells; clear c60 c61; obtain ⟨c60, c61⟩ := c6.cells; replace c4 : SV w7 b4 27 (.int .i64 n) (.slice ac nc kc) := ⟨hVb4⟩; clear hVb4; clear c40 c41; obtain ⟨c40, c41⟩ := c4.cells) | (fail))
      exact row_cell_tmp' rfl rfl rfl c4.blk Try.underlying27 sizeSp rfl ⟨_, rfl, oc.wide (by omega) (by omega), hB⟩
    · have e1 : dbN n ks = 2 * n := by unfold dbN; rw [if_pos hok, if_neg h64]
      have e2 : dbB n ks = true := by unfold dbB; rw [hok]; simpa using h64
      have e3 : dbK n ks = ks := if_pos hok
      rw [e1, e2, e3]
      have h64b : (n == 64) = false := by simpa using h64
      have HK : Hid (splitB n ks = true) := hok
      have OK := splitB_iff.1 hok
      have hk1 := OK.pos
      have hk2 := OK.len
      have hn := OK.bd
      have OKH : Hid (SOk n ks) := OK
      clear hok OK
      have hw : wrap64 (2 * n) = 2 * n := IntWalk.wrap64_in _ ⟨by omega, by omega⟩
      have hw2 : n * 2 = 2 * n := by omega
      go_enter Try.func26, Try.ntmps26
      have mk1 : Hid True := trivial
      have mk2 : Hid True := trivial
      have mk3 : Hid True := trivial
      have mk4 : Hid True := trivial
      have mk5 : Hid True := trivial
      have mk6 : Hid True := trivial
      have mk7 : Hid True := trivial
      have mk8 : Hid True := trivial
      go_wp2_with (first | (clear mk1; refine wpList_box_v rfl 27 _ rfl [.int .i64 n, .slice a ks.length cap] rfl ?_; intro b2 w1 hb2 hwb2 hB1 hVb2; have hz1 : w.heap.size ≤ w1.heap.size := hB1.size; have hB := hB1; have hzw := hB.size; have c2 : SV w1 b2 27 (.int .i64 n) (.slice a ks.length cap) := ⟨hVb2⟩; clear hVb2; obtain ⟨c20, c21⟩ := c2.cells) | (clear mk2; refine wpList_alloc_v rfl 27 rfl _ zeroSp ?_; intro b4 w2 hb4 hwb4 hB2 hVb4; have hz2 : w1.heap.size ≤ w2.heap.size := hB2.size; replace c2 := c2.below hB2 (by omega); replace hB := hB.trans (hB2.mono (by omega)); replace hzw := hB.size; clear c20 c21; obtain ⟨c20, c21⟩ := c2.cells; have c4 : SV w2 b4 27 (.int .i64 0) (.slice none 0 0) := ⟨hVb4⟩; clear hVb4; obtain ⟨c40, c41⟩ := c4.cells) | (clear mk3; go_at_call 15; refine (implSplitOk_any n ks K63.out _ hi _ (by omega) (R.out.below hB hh)).mono ?_; rintro er w3 ⟨rfl, hB3⟩; have hz3 : w2.heap.size ≤ w3.heap.size := hB3.size; replace c2 := c2.below hB3 (by omega); replace c4 := c4.below hB3 (by omega); replace hB := hB.trans (hB3.mono (by omega)); replace hzw := hB.size; clear c20 c21; obtain ⟨c20, c21⟩ := c2.cells; clear c40 c41; obtain ⟨c40, c41⟩ := c4.cells; rw [HK.out]) | (clear mk4; go_at_call 56; refine (spCopied_any n ks _ hi _ (by omega) (R.out.below hB hh) hk1 (by omega)).mono ?_; rintro er w4 ⟨v4, rfl, o4, hB4⟩; have hz4 : w3.heap.size ≤ w4.heap.size := hB4.size; replace c2 := c2.below hB4 (by omega); replace c4 := c4.below hB4 (by omega); replace hB := hB.trans (hB4.mono (by omega)); replace hzw := hB.size; clear c20 c21; obtain ⟨c20, c21⟩ := c2.cells; clear c40 c41; obtain ⟨c40, c41⟩ := c4.cells; obtain ⟨ac, nc, kc, rfl⟩ := own_slice o4; have oc := o4) | (clear mk5; refine wpList_alloc_v rfl 27 rfl _ zeroSp ?_; intro b6 w5 hb6 hwb6 hB5 hVb6; have hz5 : w4.heap.size ≤ w5.heap.size := hB5.size; replace oc := oc.below hB5 (by omega); replace c2 := c2.below hB5 (by omega); replace c4 := c4.below hB5 (by omega); replace hB := hB.trans (hB5.mono (by omega)); replace hzw := hB.size; clear c20 c21; obtain ⟨c20, c21⟩ := c2.cells; clear c40 c41; obtain ⟨c40, c41⟩ := c4.cells; have c6 : SV w5 b6 27 (.int .i64 0) (.slice none 0 0) := ⟨hVb6⟩; clear hVb6; obtain ⟨c60, c61⟩ := c6.cells) | (clear mk6; refine wpList_store_v rfl 27 _ _ rfl b6 [.int .i64 n, .slice ac nc kc] rfl rfl sizeSp c6.blk rfl (by simp [Value.oneCell']) ?_; intro w6 hO6 hVb6; have hz6 : w5.heap.size ≤ w6.heap.size := (Nat.le_of_eq hO6.1.symm); replace oc := oc.keep (w' := w6) (fun k g1 g2 => hO6.2.1 k (by omega)); replace c2 := c2.keep (w' := w6) (fun k g1 g2 => hO6.2.1 k (by omega)); replace c4 := c4.keep (w' := w6) (fun k g1 g2 => hO6.2.1 k (by omega)); replace hB := hB.trans (hO6.2.2 _ (by omega)); replace hzw := hB.size; clear c20 c21; obtain ⟨c20, c21⟩ := c2.cells; clear c40 c41; obtain ⟨c40, c41⟩ := c4.cells; replace c6 : SV w6 b6 27 (.int .i64 n) (.slice ac nc kc) := ⟨hVb6⟩; clear hVb6; clear c60 c61; obtain ⟨c60, c61⟩ := c6.cells) | (clear mk7; refine wpList_store_n rfl _ _ rfl b6 0 (2 * n) rfl (by first | rfl | (simp [go_sem]; omega)) c6.blk (by simp) ?_; intro w7 hO7 hVb6; have hz7 : w6.heap.size ≤ w7.heap.size := (Nat.le_of_eq hO7.1.symm); replace oc := oc.keep (w' := w7) (fun k g1 g2 => hO7.2.1 k (by omega)); replace c2 := c2.keep (w' := w7) (fun k g1 g2 => hO7.2.1 k (by omega)); replace c4 := c4.keep (w' := w7) (fun k g1 g2 => hO7.2.1 k (by omega)); replace hB := hB.trans (hO7.2.2 _ (by omega)); replace hzw := hB.size; clear c20 c21; obtain ⟨c20, c21⟩ := c2.cells; clear c40 c41; obtain ⟨c40, c41⟩ := c4.cells; replace c6 : SV w7 b6 27 (.int .i64 (2 * n)) (.slice ac nc kc) := ⟨hVb6⟩; clear c60 c61; obtain ⟨c60, c61⟩ := c6.cells) | (clear mk8; refine wpList_store_v rfl 27 _ _ rfl b4 [.int .i64 (2 * n), .slice ac nc kc] rfl rfl sizeSp c4.blk rfl (by simp [Value.oneCell']) ?_; intro w8 hO8 hVb4; have hz8 : w7.heap.size ≤ w8.heap.size := (Nat.le_of_eq hO8.1.symm); replace oc := oc.keep (w' := w8) (fun k g1 g2 => hO8.2.1 k (by omega)); replace c2 := c2.keep (w' := w8) (fun k g1 g2 => hO8.2.1 k (by omega)); replace c6 := c6.keep (w' := w8) (fun k g1 g2 => hO8.2.1 k (by omega)); replace hB := hB.trans (hO8.2.2 _ (by omega)); replace hzw := hB.size; clear c20 c21; obtain ⟨c20, c21⟩ := c2.cells; clear c60 c61; obtain ⟨c60, c61⟩ := c6.cells; replace c4 : SV w8 b4 27 (.int .i64 (2 * n)) (.slice ac nc kc) := ⟨hVb4⟩; clear hVb4; clear c40 c41; obtain ⟨c40, c41⟩ := c4.cells) | (fail))
      exact row_cell_tmp' rfl rfl rfl c4.blk Try.underlying27 sizeSp rfl ⟨_, rfl, oc.wide (by omega) (by omega), hB⟩
  · have e1 : dbN n ks = 0 := if_neg hok
    have e2 : dbB n ks = false := by unfold dbB; rw [show splitB n ks = false by simpa using hok]; rfl
    have e3 : dbK n ks = [] := if_neg hok
    rw [e1, e2, e3]
    have HK : Hid (splitB n ks = false) := by unfold Hid; simpa using hok
    clear hok
    go_enter Try.func26, Try.ntmps26
    have mk1 : Hid True := trivial
    have mk2 : Hid True := trivial
    have mk3 : Hid True := trivial
    have mk4 : Hid True := trivial
    go_wp2_with (first | (clear mk1; refine wpList_box_v rfl 27 _ rfl [.int .i64 n, .slice a ks.length cap] rfl ?_; intro b2 w1 hb2 hwb2 hB1 hVb2; have hz1 : w.heap.size ≤ w1.heap.size := hB1.size; have hB := hB1; have hzw := hB.size; have c2 : SV w1 b2 27 (.int .i64 n) (.slice a ks.length cap) := ⟨hVb2⟩; clear hVb2; obtain ⟨c20, c21⟩ := c2.cells) | (clear mk2; refine wpList_alloc_v rfl 27 rfl _ zeroSp ?_; intro b4 w2 hb4 hwb4 hB2 hVb4; have hz2 : w1.heap.size ≤ w2.heap.size := hB2.size; replace c2 := c2.below hB2 (by omega); replace hB := hB.trans (hB2.mono (by omega)); replace hzw := hB.size; clear c20 c21; obtain ⟨c20, c21⟩ := c2.cells; have c4 : SV w2 b4 27 (.int .i64 0) (.slice none 0 0) := ⟨hVb4⟩; clear hVb4; obtain ⟨c40, c41⟩ := c4.cells) | (clear mk3; go_at_call 15; refine (implSplitOk_any n ks K63.out _ hi _ (by omega) (R.out.below hB hh)).mono ?_; rintro er w3 ⟨rfl, hB3⟩; have hz3 : w2.heap.size ≤ w3.heap.size := hB3.size; replace c2 := c2.below hB3 (by omega); replace c4 := c4.below hB3 (by omega); replace hB := hB.trans (hB3.mono (by omega)); replace hzw := hB.size; clear c20 c21; obtain ⟨c20, c21⟩ := c2.cells; clear c40 c41; obtain ⟨c40, c41⟩ := c4.cells; rw [HK.out]) | (clear mk4; refine wpList_store_v rfl 27 _ _ rfl b4 [.int .i64 0, .slice none 0 0] rfl rfl sizeSp c4.blk rfl (by simp [Value.oneCell']) ?_; intro w4 hO4 hVb4; have hz4 : w3.heap.size ≤ w4.heap.size := (Nat.le_of_eq hO4.1.symm); replace c2 := c2.keep (w' := w4) (fun k g1 g2 => hO4.2.1 k (by omega)); replace hB := hB.trans (hO4.2.2 _ (by omega)); replace hzw := hB.size; clear c20 c21; obtain ⟨c20, c21⟩ := c2.cells; replace c4 : SV w4 b4 27 (.int .i64 0) (.slice none 0 0) := ⟨hVb4⟩; clear hVb4; clear c40 c41; obtain ⟨c40, c41⟩ := c4.cells) | (fail))
    exact row_cell_tmp' rfl rfl rfl c4.blk Try.underlying27 sizeSp rfl ⟨_, rfl, ownI_none _ _ _, hB⟩

set_option maxRecDepth 100000 in
set_option maxHeartbeats 4000000 in
theorem implStored_all (n : Int) (ks : List Int) (hb63 : ∀ k ∈ ks, k ≤ 9223372036854775807) (v : Value) (hi : Nat) (w : World) (hh : hi ≤ w.heap.size) (r : RdI w hi v ks) (h : Int) :
    Calls Try.prog 24 #[.agg #[.int .i64 n, v], .int .i64 h] w fun e w' => ∃ v', e = .returned (.tuple #[.agg #[.int .i64 (opN n ks), v'], .bool (stB n ks h)]) ∧ OwnI w' w.heap.size w'.heap.size v' (stK n ks h) ∧ Below w.heap.size w w' := by
  obtain ⟨a, cap, rfl⟩ := r.form
  have R : Hid (RdI w hi (.slice a ks.length cap) ks) := r
  have K63 : Hid (∀ k ∈ ks, k ≤ 9223372036854775807) := hb63
  clear r hb63
  by_cases hok : splitB n ks = true
  · by_cases hf : 0 ≤ h ∧ h ≤ 32767
    · obtain ⟨hf0, hf1⟩ := hf
      cases hA : isAt ks (itk h) with
      | false =>
        have e1 : opN n ks = n := if_pos hok
        have e2 : stB n ks h = true := by unfold stB; rw [hok, decide_eq_true hf0, decide_eq_true hf1, hA]; rfl
        have e3 : stK n ks h = ins (opn (h % n).toNat ks (h % n)) (itk h) := by unfold stK; rw [if_pos hok, if_pos ⟨⟨hf0, hf1⟩, by rw [hA]; exact Bool.false_ne_true⟩]
        rw [e1, e2, e3]
        clear e1 e2 e3
        have HK : Hid (splitB n ks = true) := hok
        have OK := splitB_iff.1 hok
        have hk1 := OK.pos
        have hk2 := OK.len
        have hn := OK.bd
        have OKH : Hid (SOk n ks) := OK
        clear hok OK
        have eik : keyB h 1 = itk h := by rw [keyB_yes h 1 hf0 hf1]; rfl
        obtain ⟨P, hP⟩ := hid_ex (pos (itk h) ks)
        have hm := mod_bd h hn.1
        have hD : hdoor n h = h % n := if_pos ⟨hf0, hf1⟩
        have hne : ((h % n) == -1) = false := by rw [beq_eq_false_iff_ne]; omega
        have hop := opn_ok OKH.out (h % n).toNat hm.2
        have hop1 := hop.pos
        have hop3 := hop.len
        have hop2 : Hid ((opn (h % n).toNat ks (h % n)).Pairwise (· < ·)) := hop.rise
        clear hop
        go_enter Try.func24, Try.ntmps24
        have mk1 : Hid True := trivial
        have mk2 : Hid True := trivial
        have mk3 : Hid True := trivial
        have mk4 : Hid True := trivial
        have mk5 : Hid True := trivial
        go_wp2_with (first | (clear mk1; refine wpList_box_v rfl 27 _ rfl [.int .i64 n, .slice a ks.length cap] rfl ?_; intro b2 w1 hb2 hwb2 hB1 hVb2; have hz1 : w.heap.size ≤ w1.heap.size := hB1.size; have hB := hB1; have hzw := hB.size; have c2 : SV w1 b2 27 (.int .i64 n) (.slice a ks.length cap) := ⟨hVb2⟩; clear hVb2; obtain ⟨c20, c21⟩ := c2.cells) | (clear mk2; refine wpList_alloc_v rfl 27 rfl _ zeroSp ?_; intro b4 w2 hb4 hwb4 hB2 hVb4; have hz2 : w1.heap.size ≤ w2.heap.size := hB2.size; replace c2 := c2.below hB2 (by omega); replace hB := hB.trans (hB2.mono (by omega)); replace hzw := hB.size; clear c20 c21; obtain ⟨c20, c21⟩ := c2.cells; have c4 : SV w2 b4 27 (.int .i64 0) (.slice none 0 0) := ⟨hVb4⟩; clear hVb4; obtain ⟨c40, c41⟩ := c4.cells) | (clear mk3; go_at_call 15; refine (implSplitOk_any n ks K63.out _ hi _ (by omega) (R.out.below hB hh)).mono ?_; rintro er w3 ⟨rfl, hB3⟩; have hz3 : w2.heap.size ≤ w3.heap.size := hB3.size; replace c2 := c2.below hB3 (by omega); replace c4 := c4.below hB3 (by omega); replace hB := hB.trans (hB3.mono (by omega)); replace hzw := hB.size; clear c20 c21; obtain ⟨c20, c21⟩ := c2.cells; clear c40 c41; obtain ⟨c40, c41⟩ := c4.cells; rw [HK.out]) | (clear mk4; go_at_call 62; refine (byHash_any _ _).mono ?_; rintro er w4 ⟨rfl, hq4⟩; have hB4 : Below _ _ w4 := hq4 ▸ (Below.refl _ _).alloc (Nat.le_refl _) _; have cn : w4.cell? ⟨w3.heap.size, 0, none⟩ = some (.int .i64 n) := (by rw [hq4]; simp); clear hq4; have hz4 : w3.heap.size ≤ w4.heap.size := hB4.size; replace c2 := c2.below hB4 (by omega); replace c4 := c4.below hB4 (by omega); replace hB := hB.trans (hB4.mono (by omega)); replace hzw := hB.size; clear c20 c21; obtain ⟨c20, c21⟩ := c2.cells; clear c40 c41; obtain ⟨c40, c41⟩ := c4.cells) | (clear mk5; go_at_call 86; refine (byHash1_any n h hn.1 _ _ cn).mono ?_; rintro er wq ⟨rfl, hq⟩; subst wq; rw [hD]; clear cn) | (fail))
        have hBd : Below w4.heap.size w4 w4.drew := (Below.refl _ _).drew
        have hzd : w4.drew.heap.size ≤ w4.heap.size := Nat.le_refl _
        have hzd2 : w4.heap.size ≤ w4.drew.heap.size := Nat.le_refl _
        have S1 : (w4.drew.cell? ⟨b2, 0, none⟩ = some (.int .i64 n) ∧ w4.drew.cell? ⟨b2, 1, none⟩ = some (.slice a ks.length cap)) := ⟨c20, c21⟩
        replace c2 := c2.below hBd (by omega)
        replace c4 := c4.below hBd (by omega)
        clear c20 c21
        obtain ⟨c20, c21⟩ := c2.cells
        clear c40 c41
        obtain ⟨c40, c41⟩ := c4.cells
        replace hB := hB.trans (hBd.mono (by omega))
        replace hzw := hB.size
        have mk6 : Hid True := trivial
        have mk7 : Hid True := trivial
        go_region_held3 (fun w' => (w'.cell? ⟨b2, 0, none⟩ = some (.int .i64 n) ∧ w'.cell? ⟨b2, 1, none⟩ = some (.slice a ks.length cap))) (first | assumption | exact S1) (first | (clear mk6; go_at_call 64; refine (implItemKey_any _ _).mono ?_; rintro er wq ⟨rfl, hq⟩; subst wq; rw [eik]) | (clear mk7; go_at_call 63; refine (spHas_any n ks (itk h) OKH.out.rise hk1 (by omega) _ hi w4.drew (by omega) (R.out.below hB hh)).mono ?_; rintro er w5 ⟨rfl, hB5⟩; have hz5 : w4.drew.heap.size ≤ w5.heap.size := hB5.size; replace c2 := c2.below hB5 (by omega); replace c4 := c4.below hB5 (by omega); replace hB := hB.trans (hB5.mono (by omega)); replace hzw := hB.size; clear c20 c21; obtain ⟨c20, c21⟩ := c2.cells; clear c40 c41; obtain ⟨c40, c41⟩ := c4.cells; rw [hA]; have S2 : (w5.cell? ⟨b2, 0, none⟩ = some (.int .i64 n) ∧ w5.cell? ⟨b2, 1, none⟩ = some (.slice a ks.length cap)) := ⟨c20, c21⟩) | (fail))
        clear S1 hBd
        have mk8 : Hid True := trivial
        have mk9 : Hid True := trivial
        have mk10 : Hid True := trivial
        have mk11 : Hid True := trivial
        go_wp2_with (first | (clear mk8; go_at_call 57; refine (spOpened_any n ks (h % n) OKH.out hm.1 hm.2 _ hi _ (by omega) (R.out.below hB hh)).mono ?_; rintro er w6 ⟨v6, rfl, o6, hB6⟩; have hz6 : w5.heap.size ≤ w6.heap.size := hB6.size; replace c2 := c2.below hB6 (by omega); replace c4 := c4.below hB6 (by omega); replace hB := hB.trans (hB6.mono (by omega)); replace hzw := hB.size; clear c20 c21; obtain ⟨c20, c21⟩ := c2.cells; clear c40 c41; obtain ⟨c40, c41⟩ := c4.cells; have od := o6; obtain ⟨ad, nd, kd, rfl⟩ := own_slice od) | (clear mk9; go_at_call 64; refine (implItemKey_any _ _).mono ?_; rintro er wq ⟨rfl, hq⟩; subst wq; rw [eik]) | (clear mk10; go_at_call 65; refine (spWith_any n (opn (h % n).toNat ks (h % n)) (itk h) hop2.out hop1 (by omega) _ w6.heap.size _ (Nat.le_refl _) od.rd).mono ?_; rintro er w7 ⟨v7, rfl, o7, hB7⟩; have hz7 : w6.heap.size ≤ w7.heap.size := hB7.size; replace od := od.below hB7 (by omega); replace c2 := c2.below hB7 (by omega); replace c4 := c4.below hB7 (by omega); replace hB := hB.trans (hB7.mono (by omega)); replace hzw := hB.size; clear c20 c21; obtain ⟨c20, c21⟩ := c2.cells; clear c40 c41; obtain ⟨c40, c41⟩ := c4.cells; obtain ⟨ac, nc, kc, rfl⟩ := own_slice o7; have oc := o7) | (clear mk11; refine wpList_store_v rfl 27 _ _ rfl b4 [.int .i64 n, .slice ac nc kc] rfl rfl sizeSp c4.blk rfl (by simp [Value.oneCell']) ?_; intro w8 hO8 hVb4; have hz8 : w7.heap.size ≤ w8.heap.size := (Nat.le_of_eq hO8.1.symm); replace od := od.keep (w' := w8) (fun k g1 g2 => hO8.2.1 k (by omega)); replace oc := oc.keep (w' := w8) (fun k g1 g2 => hO8.2.1 k (by omega)); replace c2 := c2.keep (w' := w8) (fun k g1 g2 => hO8.2.1 k (by omega)); replace hB := hB.trans (hO8.2.2 _ (by omega)); replace hzw := hB.size; clear c20 c21; obtain ⟨c20, c21⟩ := c2.cells; replace c4 : SV w8 b4 27 (.int .i64 n) (.slice ac nc kc) := ⟨hVb4⟩; clear hVb4; clear c40 c41; obtain ⟨c40, c41⟩ := c4.cells) | (fail))
        exact row_cell_tmp' rfl rfl rfl c4.blk Try.underlying27 sizeSp rfl ⟨_, rfl, oc.wide (by omega) (by omega), hB⟩
      | true =>
        have e1 : opN n ks = n := if_pos hok
        have e2 : stB n ks h = false := by unfold stB; rw [hA]; simp
        have e3 : stK n ks h = ks := by unfold stK; rw [if_pos hok, if_neg (by rw [hA]; simp)]
        rw [e1, e2, e3]
        clear e1 e2 e3
        have HK : Hid (splitB n ks = true) := hok
        have OK := splitB_iff.1 hok
        have hk1 := OK.pos
        have hk2 := OK.len
        have hn := OK.bd
        have OKH : Hid (SOk n ks) := OK
        clear hok OK
        have eik : keyB h 1 = itk h := by rw [keyB_yes h 1 hf0 hf1]; rfl
        obtain ⟨P, hP⟩ := hid_ex (pos (itk h) ks)
        have hm := mod_bd h hn.1
        have hD : hdoor n h = h % n := if_pos ⟨hf0, hf1⟩
        have hne : ((h % n) == -1) = false := by rw [beq_eq_false_iff_ne]; omega
        go_enter Try.func24, Try.ntmps24
        have mk1 : Hid True := trivial
        have mk2 : Hid True := trivial
        have mk3 : Hid True := trivial
        have mk4 : Hid True := trivial
        have mk5 : Hid True := trivial
        go_wp2_with (first | (clear mk1; refine wpList_box_v rfl 27 _ rfl [.int .i64 n, .slice a ks.length cap] rfl ?_; intro b2 w1 hb2 hwb2 hB1 hVb2; have hz1 : w.heap.size ≤ w1.heap.size := hB1.size; have hB := hB1; have hzw := hB.size; have c2 : SV w1 b2 27 (.int .i64 n) (.slice a ks.length cap) := ⟨hVb2⟩; clear hVb2; obtain ⟨c20, c21⟩ := c2.cells) | (clear mk2; refine wpList_alloc_v rfl 27 rfl _ zeroSp ?_; intro b4 w2 hb4 hwb4 hB2 hVb4; have hz2 : w1.heap.size ≤ w2.heap.size := hB2.size; replace c2 := c2.below hB2 (by omega); replace hB := hB.trans (hB2.mono (by omega)); replace hzw := hB.size; clear c20 c21; obtain ⟨c20, c21⟩ := c2.cells; have c4 : SV w2 b4 27 (.int .i64 0) (.slice none 0 0) := ⟨hVb4⟩; clear hVb4; obtain ⟨c40, c41⟩ := c4.cells) | (clear mk3; go_at_call 15; refine (implSplitOk_any n ks K63.out _ hi _ (by omega) (R.out.below hB hh)).mono ?_; rintro er w3 ⟨rfl, hB3⟩; have hz3 : w2.heap.size ≤ w3.heap.size := hB3.size; replace c2 := c2.below hB3 (by omega); replace c4 := c4.below hB3 (by omega); replace hB := hB.trans (hB3.mono (by omega)); replace hzw := hB.size; clear c20 c21; obtain ⟨c20, c21⟩ := c2.cells; clear c40 c41; obtain ⟨c40, c41⟩ := c4.cells; rw [HK.out]) | (clear mk4; go_at_call 62; refine (byHash_any _ _).mono ?_; rintro er w4 ⟨rfl, hq4⟩; have hB4 : Below _ _ w4 := hq4 ▸ (Below.refl _ _).alloc (Nat.le_refl _) _; have cn : w4.cell? ⟨w3.heap.size, 0, none⟩ = some (.int .i64 n) := (by rw [hq4]; simp); clear hq4; have hz4 : w3.heap.size ≤ w4.heap.size := hB4.size; replace c2 := c2.below hB4 (by omega); replace c4 := c4.below hB4 (by omega); replace hB := hB.trans (hB4.mono (by omega)); replace hzw := hB.size; clear c20 c21; obtain ⟨c20, c21⟩ := c2.cells; clear c40 c41; obtain ⟨c40, c41⟩ := c4.cells) | (clear mk5; go_at_call 86; refine (byHash1_any n h hn.1 _ _ cn).mono ?_; rintro er wq ⟨rfl, hq⟩; subst wq; rw [hD]; clear cn) | (fail))
        have hBd : Below w4.heap.size w4 w4.drew := (Below.refl _ _).drew
        have hzd : w4.drew.heap.size ≤ w4.heap.size := Nat.le_refl _
        have hzd2 : w4.heap.size ≤ w4.drew.heap.size := Nat.le_refl _
        have S1 : (w4.drew.cell? ⟨b2, 0, none⟩ = some (.int .i64 n) ∧ w4.drew.cell? ⟨b2, 1, none⟩ = some (.slice a ks.length cap)) := ⟨c20, c21⟩
        replace c2 := c2.below hBd (by omega)
        replace c4 := c4.below hBd (by omega)
        clear c20 c21
        obtain ⟨c20, c21⟩ := c2.cells
        clear c40 c41
        obtain ⟨c40, c41⟩ := c4.cells
        replace hB := hB.trans (hBd.mono (by omega))
        replace hzw := hB.size
        have mk6 : Hid True := trivial
        have mk7 : Hid True := trivial
        go_region_held3 (fun w' => (w'.cell? ⟨b2, 0, none⟩ = some (.int .i64 n) ∧ w'.cell? ⟨b2, 1, none⟩ = some (.slice a ks.length cap))) (first | assumption | exact S1) (first | (clear mk6; go_at_call 64; refine (implItemKey_any _ _).mono ?_; rintro er wq ⟨rfl, hq⟩; subst wq; rw [eik]) | (clear mk7; go_at_call 63; refine (spHas_any n ks (itk h) OKH.out.rise hk1 (by omega) _ hi w4.drew (by omega) (R.out.below hB hh)).mono ?_; rintro er w5 ⟨rfl, hB5⟩; have hz5 : w4.drew.heap.size ≤ w5.heap.size := hB5.size; replace c2 := c2.below hB5 (by omega); replace c4 := c4.below hB5 (by omega); replace hB := hB.trans (hB5.mono (by omega)); replace hzw := hB.size; clear c20 c21; obtain ⟨c20, c21⟩ := c2.cells; clear c40 c41; obtain ⟨c40, c41⟩ := c4.cells; rw [hA]; have S2 : (w5.cell? ⟨b2, 0, none⟩ = some (.int .i64 n) ∧ w5.cell? ⟨b2, 1, none⟩ = some (.slice a ks.length cap)) := ⟨c20, c21⟩) | (fail))
        clear S1 hBd
        have mk8 : Hid True := trivial
        have mk9 : Hid True := trivial
        go_wp2_with (first | (clear mk8; go_at_call 56; refine (spCopied_any n ks _ hi _ (by omega) (R.out.below hB hh) hk1 (by omega)).mono ?_; rintro er w6 ⟨v6, rfl, o6, hB6⟩; have hz6 : w5.heap.size ≤ w6.heap.size := hB6.size; replace c2 := c2.below hB6 (by omega); replace c4 := c4.below hB6 (by omega); replace hB := hB.trans (hB6.mono (by omega)); replace hzw := hB.size; clear c20 c21; obtain ⟨c20, c21⟩ := c2.cells; clear c40 c41; obtain ⟨c40, c41⟩ := c4.cells; obtain ⟨ac, nc, kc, rfl⟩ := own_slice o6; have oc := o6) | (clear mk9; refine wpList_store_v rfl 27 _ _ rfl b4 [.int .i64 n, .slice ac nc kc] rfl rfl sizeSp c4.blk rfl (by simp [Value.oneCell']) ?_; intro w7 hO7 hVb4; have hz7 : w6.heap.size ≤ w7.heap.size := (Nat.le_of_eq hO7.1.symm); replace oc := oc.keep (w' := w7) (fun k g1 g2 => hO7.2.1 k (by omega)); replace c2 := c2.keep (w' := w7) (fun k g1 g2 => hO7.2.1 k (by omega)); replace hB := hB.trans (hO7.2.2 _ (by omega)); replace hzw := hB.size; clear c20 c21; obtain ⟨c20, c21⟩ := c2.cells; replace c4 : SV w7 b4 27 (.int .i64 n) (.slice ac nc kc) := ⟨hVb4⟩; clear hVb4; clear c40 c41; obtain ⟨c40, c41⟩ := c4.cells) | (fail))
        exact row_cell_tmp' rfl rfl rfl c4.blk Try.underlying27 sizeSp rfl ⟨_, rfl, oc.wide (by omega) (by omega), hB⟩
    · have e1 : opN n ks = n := if_pos hok
      have e2 : stB n ks h = false := by unfold stB; by_cases h0 : 0 ≤ h; (· rw [decide_eq_false (show ¬ h ≤ 32767 from fun q => hf ⟨h0, q⟩)]; simp); (· rw [decide_eq_false h0]; simp)
      have e3 : stK n ks h = ks := by unfold stK; rw [if_pos hok, if_neg (fun q => hf q.1)]
      have hD : hdoor n h = -1 := if_neg hf
      rw [e1, e2, e3]
      clear e1 e2 e3
      have HK : Hid (splitB n ks = true) := hok
      have OK := splitB_iff.1 hok
      have hk1 := OK.pos
      have hk2 := OK.len
      have hn := OK.bd
      have OKH : Hid (SOk n ks) := OK
      clear hok OK
      have hfif : h < 0 ∨ 32767 < h := by omega
      go_enter Try.func24, Try.ntmps24
      have mk1 : Hid True := trivial
      have mk2 : Hid True := trivial
      have mk3 : Hid True := trivial
      have mk4 : Hid True := trivial
      have mk5 : Hid True := trivial
      go_wp2_with (first | (clear mk1; refine wpList_box_v rfl 27 _ rfl [.int .i64 n, .slice a ks.length cap] rfl ?_; intro b2 w1 hb2 hwb2 hB1 hVb2; have hz1 : w.heap.size ≤ w1.heap.size := hB1.size; have hB := hB1; have hzw := hB.size; have c2 : SV w1 b2 27 (.int .i64 n) (.slice a ks.length cap) := ⟨hVb2⟩; clear hVb2; obtain ⟨c20, c21⟩ := c2.cells) | (clear mk2; refine wpList_alloc_v rfl 27 rfl _ zeroSp ?_; intro b4 w2 hb4 hwb4 hB2 hVb4; have hz2 : w1.heap.size ≤ w2.heap.size := hB2.size; replace c2 := c2.below hB2 (by omega); replace hB := hB.trans (hB2.mono (by omega)); replace hzw := hB.size; clear c20 c21; obtain ⟨c20, c21⟩ := c2.cells; have c4 : SV w2 b4 27 (.int .i64 0) (.slice none 0 0) := ⟨hVb4⟩; clear hVb4; obtain ⟨c40, c41⟩ := c4.cells) | (clear mk3; go_at_call 15; refine (implSplitOk_any n ks K63.out _ hi _ (by omega) (R.out.below hB hh)).mono ?_; rintro er w3 ⟨rfl, hB3⟩; have hz3 : w2.heap.size ≤ w3.heap.size := hB3.size; replace c2 := c2.below hB3 (by omega); replace c4 := c4.below hB3 (by omega); replace hB := hB.trans (hB3.mono (by omega)); replace hzw := hB.size; clear c20 c21; obtain ⟨c20, c21⟩ := c2.cells; clear c40 c41; obtain ⟨c40, c41⟩ := c4.cells; rw [HK.out]) | (clear mk4; go_at_call 62; refine (byHash_any _ _).mono ?_; rintro er w4 ⟨rfl, hq4⟩; have hB4 : Below _ _ w4 := hq4 ▸ (Below.refl _ _).alloc (Nat.le_refl _) _; have cn : w4.cell? ⟨w3.heap.size, 0, none⟩ = some (.int .i64 n) := (by rw [hq4]; simp); clear hq4; have hz4 : w3.heap.size ≤ w4.heap.size := hB4.size; replace c2 := c2.below hB4 (by omega); replace c4 := c4.below hB4 (by omega); replace hB := hB.trans (hB4.mono (by omega)); replace hzw := hB.size; clear c20 c21; obtain ⟨c20, c21⟩ := c2.cells; clear c40 c41; obtain ⟨c40, c41⟩ := c4.cells) | (clear mk5; go_at_call 86; refine (byHash1_any n h hn.1 _ _ cn).mono ?_; rintro er wq ⟨rfl, hq⟩; subst wq; rw [hD]; clear cn) | (fail))
      go_big_quiet (fail)
      have hBq : Below w4.heap.size w4 (w4.drewN nq) := below_drewN _ _
      replace c2 := c2.below hBq (by omega)
      clear c20 c21
      obtain ⟨c20, c21⟩ := c2.cells
      replace c4 := c4.below hBq (by omega)
      clear c40 c41
      obtain ⟨c40, c41⟩ := c4.cells
      replace hB := hB.trans (hBq.mono (by omega))
      obtain ⟨wx, hwx⟩ : ∃ wx, w4.drewN nq = wx := ⟨_, rfl⟩
      have hzx : wx.heap.size = w4.heap.size := by rw [← hwx]; rfl
      rw [hwx] at hB hBq c2 c4 c20 c21 c40 c41 ⊢
      clear hwx
      have mk6 : Hid True := trivial
      have mk7 : Hid True := trivial
      go_wp2_with (first | (clear mk6; go_at_call 56; refine (spCopied_any n ks _ hi _ (by omega) (R.out.below hB hh) hk1 (by omega)).mono ?_; rintro er w5 ⟨v5, rfl, o5, hB5⟩; have hz5 : wx.heap.size ≤ w5.heap.size := hB5.size; replace c2 := c2.below hB5 (by omega); replace c4 := c4.below hB5 (by omega); replace hB := hB.trans (hB5.mono (by omega)); replace hzw := hB.size; clear c20 c21; obtain ⟨c20, c21⟩ := c2.cells; clear c40 c41; obtain ⟨c40, c41⟩ := c4.cells; obtain ⟨ac, nc, kc, rfl⟩ := own_slice o5; have oc := o5) | (clear mk7; refine wpList_store_v rfl 27 _ _ rfl b4 [.int .i64 n, .slice ac nc kc] rfl rfl sizeSp c4.blk rfl (by simp [Value.oneCell']) ?_; intro w6 hO6 hVb4; have hz6 : w5.heap.size ≤ w6.heap.size := (Nat.le_of_eq hO6.1.symm); replace oc := oc.keep (w' := w6) (fun k g1 g2 => hO6.2.1 k (by omega)); replace c2 := c2.keep (w' := w6) (fun k g1 g2 => hO6.2.1 k (by omega)); replace hB := hB.trans (hO6.2.2 _ (by omega)); replace hzw := hB.size; clear c20 c21; obtain ⟨c20, c21⟩ := c2.cells; replace c4 : SV w6 b4 27 (.int .i64 n) (.slice ac nc kc) := ⟨hVb4⟩; clear hVb4; clear c40 c41; obtain ⟨c40, c41⟩ := c4.cells) | (fail))
      exact row_cell_tmp' rfl rfl rfl c4.blk Try.underlying27 sizeSp rfl ⟨_, rfl, oc.wide (by omega) (by omega), hB⟩
  · have e1 : opN n ks = 0 := if_neg hok
    have e2 : stB n ks h = false := by unfold stB; rw [show splitB n ks = false by simpa using hok]; rfl
    have e3 : stK n ks h = [] := if_neg hok
    rw [e1, e2, e3]
    have HK : Hid (splitB n ks = false) := by unfold Hid; simpa using hok
    clear hok
    go_enter Try.func24, Try.ntmps24
    have mk1 : Hid True := trivial
    have mk2 : Hid True := trivial
    have mk3 : Hid True := trivial
    have mk4 : Hid True := trivial
    go_wp2_with (first | (clear mk1; refine wpList_box_v rfl 27 _ rfl [.int .i64 n, .slice a ks.length cap] rfl ?_; intro b2 w1 hb2 hwb2 hB1 hVb2; have hz1 : w.heap.size ≤ w1.heap.size := hB1.size; have hB := hB1; have hzw := hB.size; have c2 : SV w1 b2 27 (.int .i64 n) (.slice a ks.length cap) := ⟨hVb2⟩; clear hVb2; obtain ⟨c20, c21⟩ := c2.cells) | (clear mk2; refine wpList_alloc_v rfl 27 rfl _ zeroSp ?_; intro b4 w2 hb4 hwb4 hB2 hVb4; have hz2 : w1.heap.size ≤ w2.heap.size := hB2.size; replace c2 := c2.below hB2 (by omega); replace hB := hB.trans (hB2.mono (by omega)); replace hzw := hB.size; clear c20 c21; obtain ⟨c20, c21⟩ := c2.cells; have c4 : SV w2 b4 27 (.int .i64 0) (.slice none 0 0) := ⟨hVb4⟩; clear hVb4; obtain ⟨c40, c41⟩ := c4.cells) | (clear mk3; go_at_call 15; refine (implSplitOk_any n ks K63.out _ hi _ (by omega) (R.out.below hB hh)).mono ?_; rintro er w3 ⟨rfl, hB3⟩; have hz3 : w2.heap.size ≤ w3.heap.size := hB3.size; replace c2 := c2.below hB3 (by omega); replace c4 := c4.below hB3 (by omega); replace hB := hB.trans (hB3.mono (by omega)); replace hzw := hB.size; clear c20 c21; obtain ⟨c20, c21⟩ := c2.cells; clear c40 c41; obtain ⟨c40, c41⟩ := c4.cells; rw [HK.out]) | (clear mk4; refine wpList_store_v rfl 27 _ _ rfl b4 [.int .i64 0, .slice none 0 0] rfl rfl sizeSp c4.blk rfl (by simp [Value.oneCell']) ?_; intro w4 hO4 hVb4; have hz4 : w3.heap.size ≤ w4.heap.size := (Nat.le_of_eq hO4.1.symm); replace c2 := c2.keep (w' := w4) (fun k g1 g2 => hO4.2.1 k (by omega)); replace hB := hB.trans (hO4.2.2 _ (by omega)); replace hzw := hB.size; clear c20 c21; obtain ⟨c20, c21⟩ := c2.cells; replace c4 : SV w4 b4 27 (.int .i64 0) (.slice none 0 0) := ⟨hVb4⟩; clear hVb4; clear c40 c41; obtain ⟨c40, c41⟩ := c4.cells) | (fail))
    exact row_cell_tmp' rfl rfl rfl c4.blk Try.underlying27 sizeSp rfl ⟨_, rfl, ownI_none _ _ _, hB⟩
end Go.Proofs.Ytbialeffdpmcjaa.sx
