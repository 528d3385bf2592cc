/- A sketch that came in as an argument, read as rows. -/
import Derived.Test.YtgdoclaifnnpgaaLw2
import Derived.Deep.Matrix
import Derived.Lib.SmallJoins
import Derived.ShutString
import Derived.ChangeOld
namespace Go.Proofs.Ytgdoclaifnnpgaa.sk
open Go.ChangeShapes Go.WideShapes Go.ChangeAt Go.RowKit
open Go.Deep Go.Joins
set_option linter.unusedVariables false

theorem cells46 : Try.prog.cellsOf 46 = 1 := by kernel_rfl
theorem cells24 : Try.prog.cellsOf 24 = 2 := by kernel_rfl
theorem add_none {a : Addr} (h : a.spot = none) (j : Nat) : a.add j = ⟨a.block, a.off + j, none⟩ := by
  obtain ⟨b, o, s⟩ := a
  simp at h
  subst h
  exact Addr.add_mid b o j

theorem rd_of_trod {H : Type} {enc : TypeId × Value → H} {w : World} {n : Nat} {v : Value} {x : DataW H × List MemPlace} (h : DataW.trod enc Try.prog w 0 (fun _ => true) true n 22 [v] = some x) : ∃ R, Rd w 0 w.heap.size v R := by
  rcases open_int_rows Try.underlying22 Try.underlying46 Try.underlying2 cells46 cells2 h with ⟨hcs, -⟩ | ⟨a, len, cap, A, L, C, Z, hcs, -, hl, hm, -, hrow⟩
  · obtain rfl : v = .slice none 0 0 := by simpa using hcs
    exact ⟨[], by simp, none, 0, rfl, .inl rfl⟩
  · obtain rfl : v = .slice (some a) len cap := by simpa using hcs
    refine ⟨(List.range len).map fun r => (Z r).take (L r), by simp; omega, some a, cap, by simp, ?_⟩
    by_cases h0 : len = 0
    · subst h0; exact .inl rfl
    have hc0 := (hrow 0 (by omega)).1
    have hspot : (a.add 0).spot = none := World.cell?_spot hc0
    have hsp : a.spot = none := by
      obtain ⟨b, o, s⟩ := a
      cases s with
      | none => rfl
      | some s => simp [Addr.add] at hspot
    rw [add_none hsp] at hc0
    refine .inr ⟨a.block, a.off, by obtain ⟨b, o, s⟩ := a; simp at hsp; subst hsp; rfl, Nat.zero_le _, World.block_lt_of_cell? w ⟨a.block, a.off + 0, none⟩ hc0, fun i hi => ?_⟩
    have hi' : i < len := by simpa using hi
    obtain ⟨c1, c2, c3, c4, c5, c6, c7⟩ := hrow i (by omega)
    have hlen : ((Z i).take (L i)).length = L i := by simp; omega
    refine ⟨A i, C i, ?_, ?_, ?_⟩
    · rw [add_none hsp] at c1
      simp only [List.getElem_map, List.getElem_range, hlen]
      exact c1
    · simp only [List.getElem_map, List.getElem_range, hlen]; omega
    · simp only [List.getElem_map, List.getElem_range]
      by_cases hL : L i = 0
      · left; rw [hL]; rfl
      · right
        cases hA : A i with
        | none => have := c6 hA; omega
        | some a' =>
          obtain ⟨-, hcell⟩ := c7 a' hA
          have hd0 := hcell 0 (by omega)
          have hspot' : (a'.add 0).spot = none := World.cell?_spot hd0
          have hsp' : a'.spot = none := by
            obtain ⟨b, o, s⟩ := a'
            cases s with
            | none => rfl
            | some s => simp [Addr.add] at hspot'
          rw [add_none hsp'] at hd0
          refine ⟨a'.block, a'.off, by obtain ⟨b, o, s⟩ := a'; simp at hsp'; subst hsp'; rfl, Nat.zero_le _, World.block_lt_of_cell? w ⟨a'.block, a'.off + 0, none⟩ hd0, fun j u hj => ?_⟩
          have hjl : j < L i := by have := (List.getElem?_eq_some_iff.1 hj).1; simp [ints] at this; omega
          have := hcell j (by omega)
          rw [add_none hsp'] at this
          rw [this]
          have hjz : j < (Z i).length := by omega
          rw [ints_get, List.getElem?_take, if_pos hjl, List.getElem?_eq_getElem hjz] at hj
          rw [List.getD_eq_getElem?_getD, List.getElem?_eq_getElem hjz]
          simpa using hj

/-- a sketch among the arguments -/
theorem open_sketch {H : Type} {enc : TypeId × Value → H} {W : World} {r : Reach} {b0 : Nat} {v : Value} {d : DataW H} {p : List MemPlace} (hv : Value.okWide Try.prog W r b0 24 v) (h : DataW.Trod enc Try.prog W 0 (fun _ => true) true 24 v d p) :
    ∃ v0 adds R, v = skv v0 adds ∧ Rd W 0 W.heap.size v0 R ∧ (Lit.int .i64 adds).wf = true := by
  obtain ⟨c0, c1, y0, y1, m, rfl, rfl, rfl, hy0, hy1⟩ := open_agg2 Try.underlying24 (by kernel_rfl) cells24 hv h
  obtain ⟨x, e1, rfl, wx⟩ := DataW.trod_int Try.underlying2 hy1
  simp at e1
  subst e1
  obtain ⟨R, hR⟩ := rd_of_trod hy0
  exact ⟨c0, x, R, rfl, hR, wx⟩

end Go.Proofs.Ytgdoclaifnnpgaa.sk
