/- withItem; the program's Stamped. -/
import Derived.Test.YtjkkjpgebcnhgaaGreatDoorMg04
import Derived.Deep.DeepCutAuto
namespace Go.Proofs.YtjkkjpgebcnhgaaGreatDoor.rg
open Go.ChangeShapes Go.WideShapes Go.ChangeAt Go.RowKit
open Go.Deep Go.Joins
open Go.Proofs.YtjkkjpgebcnhgaaGreatDoor.ce Go.Proofs.YtjkkjpgebcnhgaaGreatDoor.ro
set_option linter.unusedVariables false

set_option maxRecDepth 100000 in
set_option maxHeartbeats 2000000 in
theorem withItem_any (I : List It) (N B : ByteArray) (F C U : Int) (v : Value) (w : World) (r : Rd encIt w v I) (hS : Srt I) (hl : I.length ≤ 1000000) :
    Calls Tryz.prog 61 #[v, .agg #[.string N, .int .i64 F, .string B, .int .i64 C, .int .i64 U]] w fun e w' => ∃ v', e = .returned v' ∧ Own encIt w' w.heap.size w'.heap.size v' (putL I ⟨N, F, B, C, U⟩) ∧ Below w.heap.size w w' := by
  obtain ⟨a, cap, rfl⟩ := r.form
  have R : Hid (Rd encIt w (.slice a I.length cap) I) := r
  have HS : Hid (Srt I) := hS
  have HD : Hid (Srt (dropL I N)) := hS.filter _
  have hdl : (dropL I N).length ≤ 1048576 := by have := List.length_filter_le (fun x : It => decide (x.N ≠ N)) I; unfold dropL; omega
  clear r hS
  have m1 : Hid True := trivial
  have m2 : Hid True := trivial
  go_enter Tryz.func61, Tryz.ntmps61
  go_wp2_with (first
    | (clear m1; refine wpList_box_v rfl 56 _ rfl [.string N, .int .i64 F, .string B, .int .i64 C, .int .i64 U] rfl ?_; intro b3 w1 hb3 hw3 hB1 V1; have hz1 := hB1.size; obtain ⟨c0, c1, c2, c3, c4⟩ := cells5 V1)
    | (go_at_call 102; refine (without_any I N _ _ (R.out.grow hB1) HS.out (by omega)).mono ?_; rintro e w2 ⟨v2, rfl, o2, hB2⟩; have V2 := vblk_grow V1 hB2; have hz2 := hB2.size; clear c0 c1 c2 c3 c4; obtain ⟨c0, c1, c2, c3, c4⟩ := cells5 V2; obtain ⟨A2, n2, k2, rfl⟩ := o2.slice)
    | (go_at_call 103; refine (bsf_any (dropL I N) N _ _ o2.rd HD.out hdl).mono ?_; rintro e w3 ⟨k, y, rfl, hk, hk1, hk2, hB3⟩; have V3 := vblk_grow V2 hB3; have hz3 := hB3.size; have o3 := (o2.grow hB3); have HK : Hid ((dropL I N).take k ++ (⟨N, F, B, C, U⟩ : It) :: (dropL I N).drop k = putL I ⟨N, F, B, C, U⟩) := with_is HS.out ⟨N, F, B, C, U⟩ hk hk1 hk2; clear hk1 hk2)
    | (clear m2; refine wpList_load_r rfl 56 _ rfl b3 0 [.string N, .int .i64 F, .string B, .int .i64 C, .int .i64 U] rfl _ Tryz.underlying56 rfl sizeIt V3.range ?_)
    | (go_at_call 106; refine (insert_any (dropL I N) ⟨N, F, B, C, U⟩ k w3.heap.size w.heap.size _ _ ((o3.top.grow ((Below.refl _ _).alloc (Nat.le_refl _) _)).wide hz1 (Nat.le_refl _)) (heap_alloc_new _ _) (by omega) hk hdl).mono ?_; rintro e w4 ⟨v4, rfl, o4, hT4⟩; rw [HK.out] at o4)
    | (fail))
  go_ret
  have hB34 : Below w3.heap.size w3 (w3.alloc (.cells #[.string N, .int .i64 F, .string B, .int .i64 C, .int .i64 U] 56)) := (Below.refl _ _).alloc (Nat.le_refl _) _
  exact ⟨_, rfl, o4, (((hB1.trans (hB2.mono hz1)).trans (hB3.mono (by omega))).trans (hB34.mono (by omega))).trans hT4.low⟩
end Go.Proofs.YtjkkjpgebcnhgaaGreatDoor.rg
