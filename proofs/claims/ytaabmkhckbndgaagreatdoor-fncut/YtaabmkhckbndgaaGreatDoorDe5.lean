/- What the laws of chapter 10 draw: DrawItemOk, DrawOverAt, DrawBookOk, DrawHeavy, DrawFindItem. -/
import Derived.Test.YtaabmkhckbndgaaGreatDoorDe4
namespace Go.Proofs.YtaabmkhckbndgaaGreatDoor.rg
open Go.ChangeShapes Go.WideShapes Go.ChangeAt Go.RowKit
open Go.Proofs.YtaabmkhckbndgaaGreatDoor.ce Go.Proofs.YtaabmkhckbndgaaGreatDoor.ro Go.Proofs.YtaabmkhckbndgaaGreatDoor.draw
set_option linter.unusedVariables false

theorem gbi_low {w w2 w3 : World} {p : Nat} (hB : Below w.heap.size w w2) (hp : w.heap.size ≤ p) (hg : w2.grownBy w3 (some p)) : Below w.heap.size w w3 := hB.grown hg hB.size (fun k hk => by cases hk; exact hp)
theorem gbi_vblk {w2 w3 : World} {p b : Nat} {t : TypeId} {vs : List Value} (hv : VBlk w2 b t vs) (hn : b ≠ p) (hg : w2.grownBy w3 (some p)) : VBlk w3 b t vs := hv.of (hg.block b hv.lt (fun e => by cases e; exact hn rfl))
theorem codei_below {w w' : World} {a0 : Option Addr} {len : Nat} (h : CodeAt w a0 len) (hB : Below w.heap.size w w') : CodeAt w' a0 len := by
  refine ⟨h.1, ?_⟩
  rcases h.2 with h0 | ⟨b, off, e, hl, hc⟩
  · exact .inl h0
  · refine .inr ⟨b, off, e, Nat.lt_of_lt_of_le hl hB.size, fun k hk => ?_⟩
    obtain ⟨c, hcell, h1, h2⟩ := hc k hk
    exact ⟨c, by rw [hB.cell hl]; exact hcell, h1, h2⟩
theorem curi_d {w : World} {p : Nat} {a0 : Option Addr} {len cap : Nat} (h : Cur w p a0 len cap) : Cur w.drew p a0 len cap := cur_drewN h 1
theorem gbi_d {w w' : World} {p : Nat} (h : w.drew.grownBy w' (some p)) : w.grownBy w' (some p) := ⟨h.os, h.tape, h.output, h.size, h.block⟩
def set5 (w : World) (b : Nat) (y0 y1 y2 y3 y4 : Value) : World := ((((w.setCell ⟨b, 0, none⟩ y0).setCell ⟨b, 1, none⟩ y1).setCell ⟨b, 2, none⟩ y2).setCell ⟨b, 3, none⟩ y3).setCell ⟨b, 4, none⟩ y4
theorem set5_only (w : World) (b : Nat) (y0 y1 y2 y3 y4 : Value) : Only b w (set5 w b y0 y1 y2 y3 y4) := only_setCells w b [y0, y1, y2, y3, y4] 0
theorem set5_blk {w : World} {b : Nat} {t : TypeId} {q0 q1 q2 q3 q4 y0 y1 y2 y3 y4 : Value} (hv : VBlk w b t [q0, q1, q2, q3, q4]) : VBlk (set5 w b y0 y1 y2 y3 y4) b t [y0, y1, y2, y3, y4] := by
  unfold set5
  simpa using ((((hv.set 0 y0).set 1 y1).set 2 y2).set 3 y3).set 4 y4
theorem keep5 {w : World} {b b' : Nat} {t : TypeId} {u0 u1 u2 u3 u4 y0 y1 y2 y3 y4 : Value} (hn : b' ≠ b) (h : VBlk w b' t [u0, u1, u2, u3, u4]) :
    (((((w.setCell ⟨b, 0, none⟩ y0).setCell ⟨b, 1, none⟩ y1).setCell ⟨b, 2, none⟩ y2).setCell ⟨b, 3, none⟩ y3).setCell ⟨b, 4, none⟩ y4).cell? ⟨b', 0, none⟩ = some u0 ∧ (((((w.setCell ⟨b, 0, none⟩ y0).setCell ⟨b, 1, none⟩ y1).setCell ⟨b, 2, none⟩ y2).setCell ⟨b, 3, none⟩ y3).setCell ⟨b, 4, none⟩ y4).cell? ⟨b', 1, none⟩ = some u1 ∧ (((((w.setCell ⟨b, 0, none⟩ y0).setCell ⟨b, 1, none⟩ y1).setCell ⟨b, 2, none⟩ y2).setCell ⟨b, 3, none⟩ y3).setCell ⟨b, 4, none⟩ y4).cell? ⟨b', 2, none⟩ = some u2 ∧ (((((w.setCell ⟨b, 0, none⟩ y0).setCell ⟨b, 1, none⟩ y1).setCell ⟨b, 2, none⟩ y2).setCell ⟨b, 3, none⟩ y3).setCell ⟨b, 4, none⟩ y4).cell? ⟨b', 3, none⟩ = some u3 ∧ (((((w.setCell ⟨b, 0, none⟩ y0).setCell ⟨b, 1, none⟩ y1).setCell ⟨b, 2, none⟩ y2).setCell ⟨b, 3, none⟩ y3).setCell ⟨b, 4, none⟩ y4).cell? ⟨b', 4, none⟩ = some u4 :=
  cells5 (w := set5 w b y0 y1 y2 y3 y4) (h.of ((set5_only w b y0 y1 y2 y3 y4).2.1 b' hn))

/-- what a law has drawn -/
structure GotB (w : World) (v : Value) (q : List It) (w' : World) : Prop where
  o : Own encIt w' w.heap.size w'.heap.size v q
  s : ∀ x ∈ q, SmI x
  l : q.length ≤ 30
  low : Below w.heap.size w w'
end Go.Proofs.YtaabmkhckbndgaaGreatDoor.rg
