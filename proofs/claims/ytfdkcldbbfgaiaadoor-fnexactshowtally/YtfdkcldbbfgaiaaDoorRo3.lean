/- Contracts: the place of a text in a row, right names, right rings: the model's. -/
import Derived.Test.YtfdkcldbbfgaiaaDoorRo2
namespace Go.Proofs.YtfdkcldbbfgaiaaDoor.rg
open Go.ChangeShapes Go.WideShapes Go.ChangeAt Go.RowKit
open Go.Proofs.YtfdkcldbbfgaiaaDoor.ce Go.Proofs.YtfdkcldbbfgaiaaDoor.ro
set_option linter.unusedVariables false

/-- a ring is read -/
structure RdR (w : World) (vN vU : Value) (r : Rg) : Prop where
  n : Rd encS w vN r.N
  u : Rd encB w vU r.U
  s : ∀ s ∈ r.N, s.size ≤ 9223372036854775807
theorem RdR.grow {w w' : World} {vN vU : Value} {r : Rg} (h : RdR w vN vU r) (hb : Below w.heap.size w w') : RdR w' vN vU r := ⟨h.n.grow hb, h.u.grow hb, h.s⟩
/-- a ring is owned -/
structure OwnR (w : World) (lo hi : Nat) (vN vU : Value) (r : Rg) : Prop where
  n : Own encS w lo hi vN r.N
  u : Own encB w lo hi vU r.U
theorem OwnR.grow {w w' : World} {lo hi : Nat} {vN vU : Value} {r : Rg} (h : OwnR w lo hi vN vU r) (hb : Below w.heap.size w w') : OwnR w' lo hi vN vU r := ⟨h.n.grow hb, h.u.grow hb⟩
theorem OwnR.within {w w' : World} {lo hi l2 h2 : Nat} {vN vU : Value} {r : Rg} (h : OwnR w lo hi vN vU r) (hw : Within l2 h2 w w') (hd : hi ≤ l2 ∨ h2 ≤ lo) : OwnR w' lo hi vN vU r := ⟨h.n.within hw hd, h.u.within hw hd⟩
theorem OwnR.wide {w : World} {lo hi lo' hi' : Nat} {vN vU : Value} {r : Rg} (h : OwnR w lo hi vN vU r) (h1 : lo' ≤ lo) (h2 : hi ≤ hi') : OwnR w lo' hi' vN vU r := ⟨h.n.wide h1 h2, h.u.wide h1 h2⟩
theorem OwnR.top {w : World} {lo hi : Nat} {vN vU : Value} {r : Rg} (h : OwnR w lo hi vN vU r) : OwnR w lo w.heap.size vN vU r := ⟨h.n.top, h.u.top⟩
theorem OwnR.rd {w : World} {lo hi : Nat} {vN vU : Value} {r : Rg} (h : OwnR w lo hi vN vU r) (hs : ∀ s ∈ r.N, s.size ≤ 9223372036854775807) : RdR w vN vU r := ⟨h.n.rd, h.u.rd, hs⟩
theorem OwnR.only {w w' : World} {lo hi b : Nat} {vN vU : Value} {r : Rg} {t : TypeId} {vs : List Value} (h : OwnR w lo hi vN vU r) (ho : Only b w w') (hb : VBlk w b t vs) (h1 : 9 ≠ t) (h2 : 4 ≠ t) : OwnR w' lo hi vN vU r := ⟨h.n.only ho hb h1, h.u.only ho hb h2⟩
theorem ownR_zero (w : World) (lo hi : Nat) : OwnR w lo hi (.slice none 0 0) (.slice none 0 0) Rg.zero := ⟨own_zero _ _ _ _ _, own_zero _ _ _ _ _⟩
theorem cells3 {w : World} {b : Nat} {t : TypeId} {u v x : Value} (h : VBlk w b t [u, v, x]) : w.cell? ⟨b, 0, none⟩ = some u ∧ w.cell? ⟨b, 1, none⟩ = some v ∧ w.cell? ⟨b, 2, none⟩ = some x := ⟨h.cell 0 (by simp), h.cell 1 (by simp), h.cell 2 (by simp)⟩
theorem cells2 {w : World} {b : Nat} {t : TypeId} {u v : Value} (h : VBlk w b t [u, v]) : w.cell? ⟨b, 0, none⟩ = some u ∧ w.cell? ⟨b, 1, none⟩ = some v := ⟨h.cell 0 (by simp), h.cell 1 (by simp)⟩

end Go.Proofs.YtfdkcldbbfgaiaaDoor.rg
