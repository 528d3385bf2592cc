/- Contracts: the program's answers on one thing; a thing around its name. -/
import Derived.Test.YtmnjmghlkiljhaaIo1
namespace Go.Proofs.Ytmnjmghlkiljhaa.rg
open Go.ChangeShapes Go.WideShapes Go.ChangeAt Go.RowKit
open Go.Proofs.Ytmnjmghlkiljhaa.ce Go.Proofs.Ytmnjmghlkiljhaa.ro
set_option linter.unusedVariables false

theorem sizeTh : (Try.prog.info? 148).map (·.size) = some 5 := by kernel_rfl
theorem zeroTh (w : World) : (zeroValue 148).run Try.prog w = .ok (.agg [Value.string ⟨#[]⟩, .int .i64 0, .string ⟨#[]⟩, .int .i64 0, .int .i64 0].toArray) w := Try.zeroValue148 w

theorem field_thing (N B : ByteArray) (F C U : Int) : ∀ w : World, (Instr.field 148 (.agg #[.string N, .int .i64 F, .string B, .int .i64 C, .int .i64 U]) 0).run Try.prog w = .ok (.string N) w := fun _ => by kernel_rfl

theorem within_is (x lo hi : Int) (y : Bool) (h : (decide (lo ≤ x) && decide (x ≤ hi)) = y) (w : World) : Calls Try.prog 144 #[.int .i64 x, .int .i64 lo, .int .i64 hi] w fun e w' => e = .returned (.bool y) ∧ w' = w := by
  by_cases h1 : lo ≤ x
  · by_cases h3 : x ≤ hi
    · rw [decide_eq_true h1, decide_eq_true h3] at h
      subst h
      go_enter Try.func144, Try.ntmps144
      go_wp2
      go_ret
      exact ⟨rfl, rfl⟩
    · rw [decide_eq_true h1, decide_eq_false h3] at h
      subst h
      go_enter Try.func144, Try.ntmps144
      go_wp2
      go_ret
      exact ⟨rfl, rfl⟩
  · rw [decide_eq_false h1] at h
    subst h
    go_enter Try.func144, Try.ntmps144
    go_wp2
    go_ret
    exact ⟨rfl, rfl⟩

theorem nameRight_any (s : ByteArray) (y : Bool) (hy : Hid (nameB s = y)) (hs : s.size ≤ 9223372036854775807) (w : World) : Calls Try.prog 143 #[.string s] w fun e w' => e = .returned (.bool y) ∧ w' = w := by
  go_enter Try.func143, Try.ntmps143
  go_wp2_with (first | (go_at_call 50; refine (implNameOk_any _ hs _).mono ?_; rintro e wq ⟨rfl, hq⟩; subst wq; rw [hy.out]) | (fail))
  go_ret
  exact ⟨rfl, rfl⟩
theorem standsAhead_any (s n : ByteArray) (y : Bool) (hy : ltS s n = y) (w : World) : Calls Try.prog 140 #[.string s, .string n] w fun e w' => e = .returned (.bool y) ∧ w' = w := by
  go_enter Try.func140, Try.ntmps140
  go_wp2
  go_ret
  exact ⟨by rw [← hy]; rfl, rfl⟩
theorem thingOf_any (N B : ByteArray) (F C U : Int) (w : World) :
    Calls Try.prog 123 #[.agg #[.string N, .int .i64 F, .string B, .int .i64 C, .int .i64 U]] w fun e w' => e = .returned (.agg #[.string N, .int .i64 F, .string B, .int .i64 C, .int .i64 U]) ∧ Below w.heap.size w w' := by
  go_enter Try.func123, Try.ntmps123
  go_wp2_with (first | (refine wpList_box_v rfl 53 _ rfl [.string N, .int .i64 F, .string B, .int .i64 C, .int .i64 U] rfl ?_; intro b1 w1 hb1 hw1 hB1 V1; have hz1 := hB1.size) | (refine wpList_alloc_v rfl 148 rfl _ zeroTh ?_; intro b2 w2 hb2 hw2 hB2 V2; have hz2 := hB2.size; replace V1 := vblk_grow V1 hB2; obtain ⟨c0, c1, c2, c3, c4⟩ := cells5 V1) | (refine wpList_store_v rfl 148 _ _ rfl b2 [.string N, .int .i64 F, .string B, .int .i64 C, .int .i64 U] rfl rfl sizeTh V2 rfl (ic_one ⟨N, F, B, C, U⟩) ?_; intro w3 hO3 V3) | (fail))
  refine row_retv rfl rfl V3 Try.underlying148 sizeTh rfl ⟨rfl, ?_⟩
  exact (hB1.trans (hB2.mono hz1)).trans (hO3.2.2 _ (by omega))

set_option maxHeartbeats 4000000 in
theorem right_any (N B : ByteArray) (F C U : Int) (y : Bool) (hy : Hid (itemB ⟨N, F, B, C, U⟩ = y)) (hN : N.size ≤ 9223372036854775807) (hB : B.size ≤ 9223372036854775807) (w : World) :
    Calls Try.prog 124 #[.agg #[.string N, .int .i64 F, .string B, .int .i64 C, .int .i64 U]] w fun e w' => e = .returned (.bool y) ∧ Below w.heap.size w w' := by
  obtain ⟨x1, h1⟩ := hid_ex (nameB N)
  obtain ⟨x2, h2⟩ := hid_ex (decide (0 ≤ F) && decide (F ≤ 65535))
  obtain ⟨x4, h4⟩ := hid_ex (decide (1 ≤ C) && decide (C ≤ 1000000))
  obtain ⟨x5, h5⟩ := hid_ex (decide (0 ≤ U) && decide (U ≤ 1000000))
  have hy2 : (x1 && x2 && decide ((B.size : Int) ≤ 64) && x4 && x5) = y := by rw [← h1.out, ← h2.out, ← h4.out, ← h5.out]; exact hy.out
  clear hy
  by_cases h3 : (B.size : Int) ≤ 64
  · rw [decide_eq_true h3] at hy2
    cases x1 <;> cases x2 <;> cases x4 <;> cases x5
    all_goals
      subst hy2
      go_enter Try.func124, Try.ntmps124
      have m1 : Hid True := trivial
      have m2 : Hid True := trivial
      have m3 : Hid True := trivial
      go_wp2_with (first | (refine wpList_box_v rfl 148 _ rfl [.string N, .int .i64 F, .string B, .int .i64 C, .int .i64 U] rfl ?_; intro b1 w1 hb1 hw1 hB1 V1; obtain ⟨c0, c1, c2, c3, c4⟩ := cells5 V1) | (go_at_call 143; refine (nameRight_any _ _ h1 hN _).mono ?_; rintro e wq ⟨rfl, hq⟩; subst wq) | (clear m1; go_at_call 144; refine (within_is F 0 65535 _ h2.out _).mono ?_; rintro e wq ⟨rfl, hq⟩; subst wq) | (clear m2; go_at_call 144; refine (within_is C 1 1000000 _ h4.out _).mono ?_; rintro e wq ⟨rfl, hq⟩; subst wq) | (clear m3; go_at_call 144; refine (within_is U 0 1000000 _ h5.out _).mono ?_; rintro e wq ⟨rfl, hq⟩; subst wq) | (fail))
      go_ret
      exact ⟨rfl, hB1⟩
  · rw [decide_eq_false h3, Bool.and_false, Bool.false_and, Bool.false_and] at hy2
    cases x1 <;> cases x2
    all_goals
      subst hy2
      go_enter Try.func124, Try.ntmps124
      go_wp2_with (first | (refine wpList_box_v rfl 148 _ rfl [.string N, .int .i64 F, .string B, .int .i64 C, .int .i64 U] rfl ?_; intro b1 w1 hb1 hw1 hB1 V1; obtain ⟨c0, c1, c2, c3, c4⟩ := cells5 V1) | (go_at_call 143; refine (nameRight_any _ _ h1 hN _).mono ?_; rintro e wq ⟨rfl, hq⟩; subst wq) | (go_at_call 144; refine (within_is F 0 65535 _ h2.out _).mono ?_; rintro e wq ⟨rfl, hq⟩; subst wq) | (fail))
      go_ret
      exact ⟨rfl, hB1⟩

theorem implItemOk_any (N B : ByteArray) (F C U : Int) (y : Bool) (hy : Hid (itemB ⟨N, F, B, C, U⟩ = y)) (hN : N.size ≤ 9223372036854775807) (hB : B.size ≤ 9223372036854775807) (w : World) :
    Calls Try.prog 79 #[.agg #[.string N, .int .i64 F, .string B, .int .i64 C, .int .i64 U]] w fun e w' => e = .returned (.bool y) ∧ Below w.heap.size w w' := by
  go_enter Try.func79, Try.ntmps79
  go_wp2_with (first | (refine wpList_box_v rfl 53 _ rfl [.string N, .int .i64 F, .string B, .int .i64 C, .int .i64 U] rfl ?_; intro b1 w1 hb1 hw1 hB1 V1; have hz1 := hB1.size) | (refine wpList_load_r rfl 53 _ rfl b1 0 [.string N, .int .i64 F, .string B, .int .i64 C, .int .i64 U] rfl _ Try.underlying53 rfl sizeIt V1.range ?_) | (go_at_call 123; refine (thingOf_any N B F C U _).mono ?_; rintro e w2 ⟨rfl, hB2⟩; have hz2 := hB2.size) | (go_at_call 124; refine (right_any N B F C U _ hy hN hB _).mono ?_; rintro e w3 ⟨rfl, hB3⟩) | (fail))
  go_ret
  exact ⟨rfl, (hB1.trans (hB2.mono hz1)).trans (hB3.mono (by omega))⟩

theorem implOverAt_any (N B : ByteArray) (F C U now : Int) (y : Bool) (hy : Hid (overB ⟨N, F, B, C, U⟩ now = y)) (w : World) :
    Calls Try.prog 80 #[.agg #[.string N, .int .i64 F, .string B, .int .i64 C, .int .i64 U], .int .i64 now] w fun e w' => e = .returned (.bool y) ∧ Below w.heap.size w w' := by
  have h := hy.out
  clear hy
  unfold overB at h
  by_cases hu : U = 0
  · have hb : (U == 0) = true := by simpa using hu
    have hb' : (U != 0) = false := by simp [hu]
    rw [hb] at h
    clear hu
    subst h
    go_enter Try.func80, Try.ntmps80
    go_wp2_with (first | (refine wpList_box_v rfl 53 _ rfl [.string N, .int .i64 F, .string B, .int .i64 C, .int .i64 U] rfl ?_; intro b1 w1 hb1 hw1 hB1 V1; obtain ⟨c0, c1, c2, c3, c4⟩ := cells5 V1) | (fail))
    go_ret
    exact ⟨rfl, hB1⟩
  · have hb : (U == 0) = false := by simpa using hu
    have hb' : (U != 0) = true := by simp [hu]
    rw [hb] at h
    clear hu
    subst h
    go_enter Try.func80, Try.ntmps80
    go_wp2_with (first | (refine wpList_box_v rfl 53 _ rfl [.string N, .int .i64 F, .string B, .int .i64 C, .int .i64 U] rfl ?_; intro b1 w1 hb1 hw1 hB1 V1; obtain ⟨c0, c1, c2, c3, c4⟩ := cells5 V1) | (fail))
    go_ret
    exact ⟨by simp, hB1⟩
end Go.Proofs.Ytmnjmghlkiljhaa.rg
