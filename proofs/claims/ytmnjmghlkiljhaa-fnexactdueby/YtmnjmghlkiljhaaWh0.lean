/- A heap of things in memory: what is first, how many, which of two goes first, two swapped. -/
import Derived.Test.YtmnjmghlkiljhaaZx0
import Derived.Test.YtmnjmghlkiljhaaSn5
import Derived.Test.YtmnjmghlkiljhaaIo4
import Derived.Test.YtmnjmghlkiljhaaRg2
import Derived.Lib.SmallJoins
import Derived.Deep.Slices
import Derived.Deep.RegionHeld3
import Derived.BigQuiet
import Derived.Deep.DeepCutAuto
namespace Go.Proofs.Ytmnjmghlkiljhaa.rg
open Go.ChangeShapes Go.WideShapes Go.ChangeAt Go.RowKit
open Go.Deep Go.Joins
open Go.Proofs.Ytmnjmghlkiljhaa.ce Go.Proofs.Ytmnjmghlkiljhaa.ro
set_option linter.unusedVariables false
set_option linter.unusedSimpArgs false

set_option maxRecDepth 100000 in
set_option maxHeartbeats 4000000 in
theorem goesFirst_any (N B N2 B2 : ByteArray) (F C U F2 C2 U2 : Int) (y : Bool) (hy : Hid (earB ⟨N, F, B, C, U⟩ ⟨N2, F2, B2, C2, U2⟩ = y)) (w : World) :
    Calls Try.prog 164 #[.agg #[.string N, .int .i64 F, .string B, .int .i64 C, .int .i64 U], .agg #[.string N2, .int .i64 F2, .string B2, .int .i64 C2, .int .i64 U2]] w fun e w' => e = .returned (.bool y) ∧ Below w.heap.size w w' := by
  have m1 : Hid True := trivial
  by_cases hU : U = U2
  · have hU' : (U != U2) = false := by simpa using hU
    have hl : ltS N N2 = y := by have := hy.out; unfold earB at this; rw [if_pos hU] at this; exact this
    have HL : Hid (ltS N N2 = y) := hl
    clear hl hU
    go_enter Try.func164, Try.ntmps164
    go_upto_region 3 with (first | (clear m1; refine wpList_box_v rfl 53 _ rfl [.string N, .int .i64 F, .string B, .int .i64 C, .int .i64 U] rfl ?_; intro b1 w1 hb1 hw1 hB1 V1; have hz1 := hB1.size) | (refine wpList_box_v rfl 53 _ rfl [.string N2, .int .i64 F2, .string B2, .int .i64 C2, .int .i64 U2] rfl ?_; intro b2 w2 hb2 hw2 hB2 V2; replace V1 := vblk_grow V1 hB2; have hB12 := hB1.trans (hB2.mono hz1); have hz2 := hB12.size; obtain ⟨c0, c1, c2, c3, c4⟩ := cells5 V1; obtain ⟨d0, d1, d2, d3, d4⟩ := cells5 V2) | (fail))
    have hf := field_thing N B F C U
    have S1 : w2.drew.cell? ⟨b1, 0, none⟩ = some (.string N) ∧ w2.drew.cell? ⟨b1, 1, none⟩ = some (.int .i64 F) ∧ w2.drew.cell? ⟨b1, 2, none⟩ = some (.string B) ∧ w2.drew.cell? ⟨b1, 3, none⟩ = some (.int .i64 C) ∧ w2.drew.cell? ⟨b1, 4, none⟩ = some (.int .i64 U) ∧ w2.drew.cell? ⟨b2, 0, none⟩ = some (.string N2) := ⟨c0, c1, c2, c3, c4, d0⟩
    go_region_held3 (fun w' => w'.cell? ⟨b1, 0, none⟩ = some (.string N) ∧ w'.cell? ⟨b1, 1, none⟩ = some (.int .i64 F) ∧ w'.cell? ⟨b1, 2, none⟩ = some (.string B) ∧ w'.cell? ⟨b1, 3, none⟩ = some (.int .i64 C) ∧ w'.cell? ⟨b1, 4, none⟩ = some (.int .i64 U) ∧ w'.cell? ⟨b2, 0, none⟩ = some (.string N2)) (first | with_reducible assumption | with_reducible exact S1 | (fail)) (first | (go_at_call 123; refine (thingOf_any N B F C U _).mono ?_; rintro e w3 ⟨rfl, hB3⟩; have hB13 : Below w.heap.size w w3 := (hB12.drew).trans (hB3.mono (by show _ ≤ w2.heap.size; omega)); have V13 := vblk_grow (vblk_grow V1 (Below.refl _ _).drew) hB3; have V23 := vblk_grow (vblk_grow V2 (Below.refl _ _).drew) hB3; clear c0 c1 c2 c3 c4 d0 d1 d2 d3 d4; obtain ⟨c0, c1, c2, c3, c4⟩ := cells5 V13; obtain ⟨d0, d1, d2, d3, d4⟩ := cells5 V23; have S2 : w3.cell? ⟨b1, 0, none⟩ = some (.string N) ∧ w3.cell? ⟨b1, 1, none⟩ = some (.int .i64 F) ∧ w3.cell? ⟨b1, 2, none⟩ = some (.string B) ∧ w3.cell? ⟨b1, 3, none⟩ = some (.int .i64 C) ∧ w3.cell? ⟨b1, 4, none⟩ = some (.int .i64 U) ∧ w3.cell? ⟨b2, 0, none⟩ = some (.string N2) := ⟨c0, c1, c2, c3, c4, d0⟩) | (go_at_call 140; refine (standsAhead_any N N2 y HL.out _).mono ?_; rintro e wq ⟨rfl, hq⟩; subst wq) | (fail))
    go_wp2
    go_ret
    exact ⟨rfl, hB13⟩
  · have hU' : (U != U2) = true := by simpa using hU
    have hl : decide (U < U2) = y := by have := hy.out; unfold earB at this; rw [if_neg hU] at this; exact this
    clear hU
    go_enter Try.func164, Try.ntmps164
    go_wp2_with (first | (clear m1; refine wpList_box_v rfl 53 _ rfl [.string N, .int .i64 F, .string B, .int .i64 C, .int .i64 U] rfl ?_; intro b1 w1 hb1 hw1 hB1 V1; have hz1 := hB1.size) | (refine wpList_box_v rfl 53 _ rfl [.string N2, .int .i64 F2, .string B2, .int .i64 C2, .int .i64 U2] rfl ?_; intro b2 w2 hb2 hw2 hB2 V2; replace V1 := vblk_grow V1 hB2; have hB12 := hB1.trans (hB2.mono hz1); obtain ⟨c0, c1, c2, c3, c4⟩ := cells5 V1; obtain ⟨d0, d1, d2, d3, d4⟩ := cells5 V2) | (fail))
    go_ret
    exact ⟨by subst hl; rfl, hB12⟩
theorem len_any (a : Option Addr) (n k : Nat) (w : World) : Calls Try.prog 75 #[.slice a n k] w fun e w' => e = .returned (.int .i64 n) ∧ w' = w := by
  go_enter Try.func75, Try.ntmps75
  go_wp2
  go_ret
  exact ⟨rfl, rfl⟩
end Go.Proofs.Ytmnjmghlkiljhaa.rg
