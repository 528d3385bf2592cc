/- The package-level variables that chapter 11 reads, as they lie in memory. -/
import Derived.Test.YtaabmkhckbndgaaGreatDoorMg07
import Derived.Test.YtaabmkhckbndgaaGreatDoorCu6
import Derived.Test.YtaabmkhckbndgaaGreatDoorShelf
import Derived.Lib.AppendIntMem
namespace Go.Proofs.YtaabmkhckbndgaaGreatDoor.cm
open Go.ChangeShapes Go.WideShapes Go.ChangeAt Go.RowKit
open Go.Proofs.YtaabmkhckbndgaaGreatDoor.ce Go.Proofs.YtaabmkhckbndgaaGreatDoor.ro Go.Proofs.YtaabmkhckbndgaaGreatDoor.rg
set_option linter.unusedVariables false

/-- the verbs' words, the nought ahead -/
def vws : List ByteArray := tx [] :: vtx
/-- what those who show read -/
structure EnvW (w : World) : Prop where
  vw : ∀ i (h : i < vws.length), w.cell? ⟨0, i, none⟩ = some (.string vws[i])
  tab : Lib.TabIs Tryz.prog w "internal/strconv.uint64pow10" .u64 Lib.pow10Tab
theorem cell_grow {w w' : World} {B b i : Nat} {v : Value} (hb : Below B w w') (hB : b < B) (h : w.cell? ⟨b, i, none⟩ = some v) : w'.cell? ⟨b, i, none⟩ = some v := by
  rw [World.cell?_of_block (w := w) (w' := w') (a := ⟨b, i, none⟩) (hb.block b hB)]
  exact h
theorem EnvW.grow {w w' : World} (h : EnvW w) (hb : Below w.heap.size w w') : EnvW w' := by
  refine ⟨fun i hi => cell_grow hb (World.block_lt_of_cell? w _ (h.vw i hi)) (h.vw i hi), ?_⟩
  have ht := h.tab
  unfold Lib.TabIs World.var? at ht ⊢
  cases hg : Tryz.prog.globalNamed "internal/strconv.uint64pow10" with
  | none => rw [hg] at ht; exact ht
  | some g =>
    rw [hg] at ht
    simp only [Option.bind_some] at ht ⊢
    have hlt : g < w.heap.size := by
      cases hh : w.heap[g]? with
      | none => rw [hh] at ht; cases ht
      | some o => exact (Array.getElem?_eq_some_iff.1 hh).1
    rw [hb.block g hlt]
    exact ht
theorem EnvW.drew {w : World} (h : EnvW w) : EnvW w.drew := h.grow (Below.refl _ _).drew
/-- a number is shown by the library as we show it -/
theorem itoa_digs (n : Nat) : Lib.itoa (n : Int) = digs n := by
  unfold Lib.itoa
  rw [if_neg (by omega), dec_digs]
  simp
theorem decimal_is (n : Int) (l : List UInt8) (hl : Lib.itoa n = l) (h0 : -9223372036854775808 ≤ n) (h1 : n ≤ 9223372036854775807) (w : World) (en : EnvW w) : Calls Tryz.prog 57 #[.int .i64 n] w fun e w' => e = .returned (.string (tx l)) ∧ Below w.heap.size w w' := by
  subst hl
  go_enter Tryz.func57, Tryz.ntmps57
  go_wp2_with (first | (go_at_call 109; refine (Tryz.strconv_FormatInt_10 n h0 h1 _ en.tab).mono ?_; rintro e w2 ⟨rfl, k, os, rfl⟩) | (fail))
  go_ret
  exact ⟨rfl, Go.Lib.below_grow _ w (Nat.le_refl _) k os⟩
theorem decimal_nat (n : Nat) (x : ByteArray) (hx : tx (digs n) = x) (h1 : n ≤ 1000000000) (w : World) (en : EnvW w) : Calls Tryz.prog 57 #[.int .i64 n] w fun e w' => e = .returned (.string x) ∧ Below w.heap.size w w' := by
  subst hx
  exact decimal_is n _ (itoa_digs n) (by omega) (by omega) w en
end Go.Proofs.YtaabmkhckbndgaaGreatDoor.cm
