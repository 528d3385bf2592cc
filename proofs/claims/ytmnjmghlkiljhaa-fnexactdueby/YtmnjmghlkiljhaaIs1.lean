/- Contracts of the laws' helpers on things and books: sizes, copies, comparisons. -/
import Derived.Test.YtmnjmghlkiljhaaIo3
import Derived.Test.YtmnjmghlkiljhaaRo9
namespace Go.Proofs.Ytmnjmghlkiljhaa.rg
open Go.ChangeShapes Go.WideShapes Go.ChangeAt Go.RowKit
open Go.Proofs.Ytmnjmghlkiljhaa.ce Go.Proofs.Ytmnjmghlkiljhaa.ro
set_option linter.unusedVariables false

theorem szItem_any (N B : ByteArray) (F C U : Int) (hN : N.size ≤ 9223372036854775807) (hB : B.size ≤ 9223372036854775807) (L : Int) (hL : L ≤ 1048576) (hL0 : 0 ≤ L) (w : World) :
    Calls Try.prog 82 #[.agg #[.string N, .int .i64 F, .string B, .int .i64 C, .int .i64 U], .int .i64 L] w fun e w' => ∃ q : Int, e = .returned (.int .i64 q) ∧ Below w.heap.size w w' ∧ q ≤ 1048576 ∧ (0 ≤ q → N.size ≤ 1048576 ∧ B.size ≤ 1048576) := by
  have e1 : IntKind.i64.wrap (L - (N.size : Int)) = L - N.size := by rw [IntKind.wrap_i64]; omega
  by_cases h1 : L - (N.size : Int) < 0
  · go_enter Try.func82, Try.ntmps82
    go_wp2_with (first | (refine wpList_box_v rfl 110 _ rfl [.string N, .int .i64 F, .string B, .int .i64 C, .int .i64 U] rfl ?_; intro b1 w1 hb1 hw1 hB1 V1; obtain ⟨c0, c1, c2, c3, c4⟩ := cells5 V1) | (fail))
    go_ret
    exact ⟨-1, rfl, hB1, by omega, fun _ => by omega⟩
  · have e2 : IntKind.i64.wrap (L - (N.size : Int) - (B.size : Int)) = L - N.size - B.size := by rw [IntKind.wrap_i64]; omega
    by_cases h2 : L - (N.size : Int) - (B.size : Int) < 0
    · go_enter Try.func82, Try.ntmps82
      go_wp2_with (first | (refine wpList_box_v rfl 110 _ rfl [.string N, .int .i64 F, .string B, .int .i64 C, .int .i64 U] rfl ?_; intro b1 w1 hb1 hw1 hB1 V1; obtain ⟨c0, c1, c2, c3, c4⟩ := cells5 V1) | (fail))
      go_ret
      exact ⟨-1, rfl, hB1, by omega, fun _ => by omega⟩
    · go_enter Try.func82, Try.ntmps82
      go_wp2_with (first | (refine wpList_box_v rfl 110 _ rfl [.string N, .int .i64 F, .string B, .int .i64 C, .int .i64 U] rfl ?_; intro b1 w1 hb1 hw1 hB1 V1; obtain ⟨c0, c1, c2, c3, c4⟩ := cells5 V1) | (fail))
      go_ret
      exact ⟨_, rfl, hB1, by omega, fun _ => by omega⟩

set_option maxHeartbeats 1000000 in
theorem toItem_any (N B : ByteArray) (F C U : Int) (w : World) :
    Calls Try.prog 83 #[.agg #[.string N, .int .i64 F, .string B, .int .i64 C, .int .i64 U]] w fun e w' => e = .returned (.agg #[.string N, .int .i64 F, .string B, .int .i64 C, .int .i64 U]) ∧ Below w.heap.size w w' := by
  go_enter Try.func83, Try.ntmps83
  go_wp2
  have h1 : VBlk ((w.alloc (.cells #[.string N, .int .i64 F, .string B, .int .i64 C, .int .i64 U] 110)).alloc (.cells #[.string N, .int .i64 F, .string B, .int .i64 C, .int .i64 U] 53)) (w.heap.size + 1) 53 [.string N, .int .i64 F, .string B, .int .i64 C, .int .i64 U] := by
    have := heap_alloc_new (w.alloc (.cells #[.string N, .int .i64 F, .string B, .int .i64 C, .int .i64 U] 110)) (.cells #[.string N, .int .i64 F, .string B, .int .i64 C, .int .i64 U] 53)
    simpa [VBlk] using this
  refine row_retv rfl rfl (h1.of (Below.heap_alloc _ _ _ h1.lt)) Try.underlying53 sizeIt rfl ⟨rfl, ?_⟩
  exact (((Below.refl _ w).alloc (Nat.le_refl _) _).alloc (by simp) _).alloc (by simp <;> omega) _

theorem eqItem_any (N B : ByteArray) (F C U : Int) (w : World) :
    Calls Try.prog 84 #[.agg #[.string N, .int .i64 F, .string B, .int .i64 C, .int .i64 U], .agg #[.string N, .int .i64 F, .string B, .int .i64 C, .int .i64 U]] w fun e w' => e = .returned (.bool true) ∧ Below w.heap.size w w' := by
  have hN : (N.toList == N.toList) = true := by simp
  have hB : (B.toList == B.toList) = true := by simp
  have h1 : (F != F) = false := by simp
  have h2 : (C != C) = false := by simp
  have h3 : (U != U) = false := by simp
  have m1 : Hid True := trivial
  go_enter Try.func84, Try.ntmps84
  go_wp2_with (first | (clear m1; refine wpList_box_v rfl 53 _ rfl [.string N, .int .i64 F, .string B, .int .i64 C, .int .i64 U] rfl ?_; intro b1 w1 hb1 hw1 hB1 V1; have hz1 := hB1.size) | (refine wpList_box_v rfl 53 _ rfl [.string N, .int .i64 F, .string B, .int .i64 C, .int .i64 U] rfl ?_; intro b2 w2 hb2 hw2 hB2 V2; obtain ⟨c0, c1, c2, c3, c4⟩ := cells5 (vblk_grow V1 hB2); obtain ⟨d0, d1, d2, d3, d4⟩ := cells5 V2) | (fail))
  go_ret
  exact ⟨rfl, hB1.trans (hB2.mono hz1)⟩
end Go.Proofs.Ytmnjmghlkiljhaa.rg
