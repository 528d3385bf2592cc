/- What a row's list of package-level variables gives: a table of numbers, an error, as they lie in memory. -/
import Derived.Test.YtjkkjpgebcnhgaaGreatDoorMg00
import Derived.ChangeOld
import Derived.Handed
import Derived.HandedShaped
import Derived.LaidMore
import Derived.Lay
import Derived.Lib.LaidTab
import Derived.Shelf.Vars
namespace Go.Proofs.YtjkkjpgebcnhgaaGreatDoor.cm
open Go.ChangeShapes Go.WideShapes Go.ChangeAt Go.RowKit
set_option linter.unusedVariables false

theorem laid_get {P : Program} {w : World} : ∀ {l : List (String × DataW Unit)} {ps : List MemPlace}, DataW.LaidVars P w l ps → ∀ {n : String} {d : DataW Unit}, (n, d) ∈ l → ∃ g t cs fuel p, P.globalNamed n = some g ∧ (P.globals[g]?).map (·.type) = some t ∧ w.var? P n = some cs ∧ DataW.trod (fun _ => ()) P w 0 (fun _ => true) false fuel t cs.toList = some (d, p)
  | [], _, _, n, d, h => by simp at h
  | (m, e) :: r, ps, hl, n, d, h => by
    obtain ⟨g, t, cs, fuel, p, q, h1, h2, h3, h4, h5, -⟩ := hl
    rcases List.mem_cons.1 h with h | h
    · obtain ⟨rfl, rfl⟩ := Prod.mk.inj h
      exact ⟨g, t, cs, fuel, p, h1, h2, h3, h4⟩
    · exact laid_get h5 h
theorem tab_get {P : Program} {w : World} {l : List (String × DataW Unit)} (h : laidMet P l w) {n : String} {k : IntKind} {zs : List Int} {g : Nat} {t e : TypeId} {m : Nat} (hm : (n, Lib.tabData k zs) ∈ l) (hg : P.globalNamed n = some g) (hty : (P.globals[g]?).map (·.type) = some t) (ht : P.underlying t = some (.array m e)) (he : P.underlying e = some (.int k)) (hce : P.cellsOf e = 1) (hct : P.cellsOf t = m) : Lib.TabIs P w n k zs := by
  obtain ⟨ps, hl, -⟩ := h
  obtain ⟨g', t', cs, fuel, p, h1, h2, h3, h4⟩ := laid_get hl hm
  obtain rfl := Option.some.inj (hg.symm.trans h1)
  obtain rfl := Option.some.inj (hty.symm.trans h2)
  unfold Lib.TabIs
  rw [h3, ← Lib.cells_of_tab ht he hce hct h4]
theorem iface_get {P : Program} {w : World} {l : List (String × DataW Unit)} (h : laidMet P l w) {n nm : String} {d : DataW Unit} {g : Nat} {t : TypeId} (hm : (n, DataW.iface nm d) ∈ l) (hg : P.globalNamed n = some g) (hty : (P.globals[g]?).map (·.type) = some t) (ht0 : ∃ ms, P.underlying t = some (.interface ms)) : ∃ te pe, w.cell? ⟨g, 0, none⟩ = some (.iface te pe) := by
  obtain ⟨ps, hl, -⟩ := h
  obtain ⟨g', t', cs, fuel, p, h1, h2, h3, h4⟩ := laid_get hl hm
  obtain rfl := Option.some.inj (hg.symm.trans h1)
  obtain rfl := Option.some.inj (hty.symm.trans h2)
  obtain ⟨ms, ht⟩ := ht0
  have h0 := World.var?_cell hg h3 0
  rw [← Array.getElem?_toList] at h0
  generalize cs.toList = cl at h4 h0
  cases fuel with
  | zero => simp [DataW.trod] at h4
  | succ fuel =>
    match cl, h4, h0 with
    | [], h4, _ => simp [DataW.trod, ht] at h4
    | [.iface u v], _, h0 => exact ⟨u, v, h0⟩
    | [.int _ _], h4, _ => simp [DataW.trod, ht] at h4
    | [.nilIface], h4, _ => simp [DataW.trod, ht] at h4
    | [x], h4, h0 => (cases x <;> first | exact ⟨_, _, h0⟩ | (simp [DataW.trod, ht] at h4))
    | x :: y :: r, h4, _ => (cases x <;> simp [DataW.trod, ht] at h4)
end Go.Proofs.YtjkkjpgebcnhgaaGreatDoor.cm
