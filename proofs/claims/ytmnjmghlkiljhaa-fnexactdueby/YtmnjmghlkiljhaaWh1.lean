/- A heap of things in memory: which of two goes first, two swapped. -/
import Derived.Test.YtmnjmghlkiljhaaWh0
namespace Go.Proofs.Ytmnjmghlkiljhaa.rg
open Go.ChangeShapes Go.WideShapes Go.ChangeAt Go.RowKit
open Go.Deep Go.Joins
open Go.Proofs.Ytmnjmghlkiljhaa.ce Go.Proofs.Ytmnjmghlkiljhaa.ro
set_option linter.unusedVariables false
set_option linter.unusedSimpArgs false

theorem row_cells {w : World} {g cap : Nat} {xs : List It} (r : RowAt encIt w g cap xs) (i : Nat) (hi : i < xs.length) : w.cell? ⟨g, i * 5, none⟩ = some (.string xs[i].N) ∧ w.cell? ⟨g, i * 5 + 1, none⟩ = some (.int .i64 xs[i].F) ∧ w.cell? ⟨g, i * 5 + 2, none⟩ = some (.string xs[i].B) ∧ w.cell? ⟨g, i * 5 + 3, none⟩ = some (.int .i64 xs[i].C) ∧ w.cell? ⟨g, i * 5 + 4, none⟩ = some (.int .i64 xs[i].U) := by
  have o := r.own (lo := g) (hi := g + 1) (n := xs.length) (Nat.le_refl _) (Nat.lt_succ_self _) rfl
  have k : ∀ j (hj : j < 5), w.cell? ⟨g, i * 5 + j, none⟩ = some ((ic xs[i])[j]'(by exact hj)) := fun j hj => by
    obtain ⟨g2, e, -, h, -⟩ := o.cell i j hi hj
    cases e
    exact h
  exact ⟨k 0 (by omega), k 1 (by omega), k 2 (by omega), k 3 (by omega), k 4 (by omega)⟩
set_option maxRecDepth 100000 in
set_option maxHeartbeats 4000000 in
theorem less_any (xs : List It) (g L cap : Nat) (w : World) (r : RowAt encIt w g cap xs) (hL : L = xs.length) (hl : L ≤ 1000000) (i j : Nat) (hi : i < L) (hj : j < L) (y : Bool) (hy : Hid (earB (xs[i]'(hL ▸ hi)) (xs[j]'(hL ▸ hj)) = y)) :
    Calls Try.prog 162 #[.slice (some ⟨g, 0, none⟩) L cap, .int .i64 i, .int .i64 j] w fun e w' => e = .returned (.bool y) ∧ Below w.heap.size w w' := by
  subst hL
  have hi' : (i : Int) < (xs.length : Int) := by omega
  have hj' : (j : Int) < (xs.length : Int) := by omega
  have hi0 : (0 : Int) ≤ (i : Int) := by omega
  have hj0 : (0 : Int) ≤ (j : Int) := by omega
  obtain ⟨c0, c1, c2, c3, c4⟩ := row_cells r i hi
  obtain ⟨d0, d1, d2, d3, d4⟩ := row_cells r j hj
  obtain ⟨⟨N, F, B, C, U⟩, hx⟩ := hid_ex (xs[i])
  obtain ⟨⟨N2, F2, B2, C2, U2⟩, hx2⟩ := hid_ex (xs[j])
  rw [hx.out] at c0 c1 c2 c3 c4 hy
  rw [hx2.out] at d0 d1 d2 d3 d4 hy
  dsimp only at c0 c1 c2 c3 c4 d0 d1 d2 d3 d4
  go_enter Try.func162, Try.ntmps162
  go_upto_region 1 with (fail)
  have S1 : w.drew.cell? ⟨g, i * 5, none⟩ = some (.string N) ∧ w.drew.cell? ⟨g, i * 5 + 1, none⟩ = some (.int .i64 F) ∧ w.drew.cell? ⟨g, i * 5 + 2, none⟩ = some (.string B) ∧ w.drew.cell? ⟨g, i * 5 + 3, none⟩ = some (.int .i64 C) ∧ w.drew.cell? ⟨g, i * 5 + 4, none⟩ = some (.int .i64 U) ∧ w.drew.cell? ⟨g, j * 5, none⟩ = some (.string N2) ∧ w.drew.cell? ⟨g, j * 5 + 1, none⟩ = some (.int .i64 F2) ∧ w.drew.cell? ⟨g, j * 5 + 2, none⟩ = some (.string B2) ∧ w.drew.cell? ⟨g, j * 5 + 3, none⟩ = some (.int .i64 C2) ∧ w.drew.cell? ⟨g, j * 5 + 4, none⟩ = some (.int .i64 U2) := ⟨c0, c1, c2, c3, c4, d0, d1, d2, d3, d4⟩
  go_region_held3 (fun w' => w'.cell? ⟨g, i * 5, none⟩ = some (.string N) ∧ w'.cell? ⟨g, i * 5 + 1, none⟩ = some (.int .i64 F) ∧ w'.cell? ⟨g, i * 5 + 2, none⟩ = some (.string B) ∧ w'.cell? ⟨g, i * 5 + 3, none⟩ = some (.int .i64 C) ∧ w'.cell? ⟨g, i * 5 + 4, none⟩ = some (.int .i64 U) ∧ w'.cell? ⟨g, j * 5, none⟩ = some (.string N2) ∧ w'.cell? ⟨g, j * 5 + 1, none⟩ = some (.int .i64 F2) ∧ w'.cell? ⟨g, j * 5 + 2, none⟩ = some (.string B2) ∧ w'.cell? ⟨g, j * 5 + 3, none⟩ = some (.int .i64 C2) ∧ w'.cell? ⟨g, j * 5 + 4, none⟩ = some (.int .i64 U2)) (first | with_reducible assumption | with_reducible exact S1 | (fail)) (first | (go_at_call 164; refine (goesFirst_any N B N2 B2 F C U F2 C2 U2 y hy _).mono ?_; rintro e w3 ⟨rfl, hB3⟩; have hB13 : Below w.heap.size w w3 := (Below.refl _ _).drew.trans hB3; have S2 : w3.cell? ⟨g, i * 5, none⟩ = some (.string N) ∧ w3.cell? ⟨g, i * 5 + 1, none⟩ = some (.int .i64 F) ∧ w3.cell? ⟨g, i * 5 + 2, none⟩ = some (.string B) ∧ w3.cell? ⟨g, i * 5 + 3, none⟩ = some (.int .i64 C) ∧ w3.cell? ⟨g, i * 5 + 4, none⟩ = some (.int .i64 U) ∧ w3.cell? ⟨g, j * 5, none⟩ = some (.string N2) ∧ w3.cell? ⟨g, j * 5 + 1, none⟩ = some (.int .i64 F2) ∧ w3.cell? ⟨g, j * 5 + 2, none⟩ = some (.string B2) ∧ w3.cell? ⟨g, j * 5 + 3, none⟩ = some (.int .i64 C2) ∧ w3.cell? ⟨g, j * 5 + 4, none⟩ = some (.int .i64 U2) := (by obtain ⟨p0, p1, p2, p3, p4⟩ := row_cells (r.grow hB13) i hi; obtain ⟨q0, q1, q2, q3, q4⟩ := row_cells (r.grow hB13) j hj; rw [hx.out] at p0 p1 p2 p3 p4; rw [hx2.out] at q0 q1 q2 q3 q4; exact ⟨p0, p1, p2, p3, p4, q0, q1, q2, q3, q4⟩)) | (fail))
  go_wp2
  go_ret
  exact ⟨rfl, hB13⟩
end Go.Proofs.Ytmnjmghlkiljhaa.rg
