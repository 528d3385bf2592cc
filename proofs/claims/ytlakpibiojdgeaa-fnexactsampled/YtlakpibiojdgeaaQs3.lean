/- A list of texts among the arguments. -/
import Derived.Test.YtlakpibiojdgeaaRs2
import Derived.Deep.Slices
import Derived.Lib.SmallJoins
import Derived.ShutString
import Derived.ChangeOld
namespace Go.Proofs.Ytlakpibiojdgeaa.rg
open Go.ChangeShapes Go.WideShapes Go.ChangeAt Go.RowKit
open Go.Deep Go.Joins
open Go.Proofs.Ytlakpibiojdgeaa.ce Go.Proofs.Ytlakpibiojdgeaa.ro
set_option linter.unusedVariables false

theorem add_noneR {a : Addr} (h : a.spot = none) (j : Nat) : a.add j = ⟨a.block, a.off + j, none⟩ := by
  obtain ⟨b, o, s⟩ := a
  simp at h
  subst h
  simp [Addr.add]
theorem rd_of_trod {α : Type} [Inhabited α] (E : Enc α) (hk : E.k = 1) (p : α → Prop) {H : Type} {enc : TypeId × Value → H} {w : World} {n : Nat} {v : Value} {T : TypeId} {x : DataW H × List MemPlace} (hT : Try.prog.underlying T = some (.slice E.t)) (hc : Try.prog.cellsOf E.t = 1)
    (dec : ∀ m cs y, DataW.trod enc Try.prog w 0 (fun _ => true) true m E.t cs = some y → ∃ z, cs = E.put z ∧ p z)
    (h : DataW.trod enc Try.prog w 0 (fun _ => true) true n T [v] = some x) : ∃ L, Rd E w v L ∧ ∀ z ∈ L, p z := by
  rcases open_slice hT h with ⟨hcs, -⟩ | ⟨a, len, cap, m, n', D, Pl, hcs, -, hl, hm, hmm, -, hrow⟩
  · obtain rfl : v = .slice none 0 0 := by simpa using hcs
    exact ⟨[], rd_zero E w none 0 (Nat.zero_le _), fun k hk => by simp at hk⟩
  · obtain rfl : v = .slice (some a) len cap := by simpa using hcs
    rw [hc] at hrow
    have hlm : len ≤ m := by rw [hmm]; simp; exact hl
    have hex : ∀ i, i < len → ∃ z : α, w.cells? 0 (a.add (i * 1)) 1 = some (E.put z) ∧ p z := fun i hi => by
      obtain ⟨cs', h1, h2⟩ := hrow i (by omega)
      obtain ⟨z, e0, hz⟩ := dec _ _ _ h2
      rw [e0] at h1
      exact ⟨z, h1, hz⟩
    obtain ⟨F, hF⟩ := choose_lt hex
    refine ⟨(List.range len).map F, ⟨some a, cap, by simp, by simpa using hl, hm, fun hn => ?_⟩, fun k hk => ?_⟩
    rotate_left
    · obtain ⟨i, hi, rfl⟩ := List.mem_map.1 hk
      exact (hF i (by simpa using hi)).2
    have h0 : 0 < len := by
      rcases Nat.eq_zero_or_pos len with e | e
      · subst e; exact absurd rfl hn
      · exact e
    have hcell : ∀ i, i < len → (E.put (F i))[0]? = w.cell? (a.add i) := fun i hi => by
      obtain ⟨h1, h2, h3⟩ := World.cells?_some (hF i hi).1
      have := h3 0 (by omega)
      rw [Nat.mul_one] at this
      have e : (a.add i).add 0 = a.add i := by obtain ⟨b, o, s⟩ := a; cases s <;> simp [Addr.add]
      rw [e] at this
      rw [this]
    have hsome : ∀ i, i < len → ∃ u, w.cell? (a.add i) = some u := fun i hi => by
      rw [← hcell i hi, List.getElem?_eq_getElem (by rw [E.len, hk]; decide)]
      exact ⟨_, rfl⟩
    have hspot : a.spot = none := by
      obtain ⟨u, hu⟩ := hsome 0 h0
      have h5 : (a.add 0).spot = none := World.cell?_spot hu
      obtain ⟨b, o, s⟩ := a
      cases s with
      | none => rfl
      | some s => simp [Addr.add] at h5
    have hlt : a.block < w.heap.size := by
      obtain ⟨u, hu⟩ := hsome 0 h0
      rw [add_noneR hspot] at hu
      exact World.block_lt_of_cell? w ⟨a.block, a.off + 0, none⟩ hu
    refine ⟨a.block, a.off, by obtain ⟨b, o, s⟩ := a; simp at hspot; subst hspot; rfl, hlt, fun k u hku => ?_⟩
    have hkl : k < len := by
      have := (List.getElem?_eq_some_iff.1 hku).1
      rw [Enc.row_len, hk] at this
      simpa using this
    have hg := E.row_get ((List.range len).map F) k 0 (by simpa using hkl) (by rw [hk]; decide)
    rw [hk, Nat.mul_one, Nat.add_zero] at hg
    rw [hg] at hku
    have e : ((List.range len).map F)[k]'(by simpa using hkl) = F k := by simp
    rw [e, hcell k hkl, add_noneR hspot] at hku
    exact hku
theorem cellsStr : Try.prog.cellsOf 9 = 1 := by kernel_rfl
theorem rdS_of_trod {H : Type} {enc : TypeId × Value → H} {w : World} {n : Nat} {v : Value} {x : DataW H × List MemPlace} (h : DataW.trod enc Try.prog w 0 (fun _ => true) true n 22 [v] = some x) : ∃ L, Rd encS w v L ∧ ∀ s ∈ L, s.size ≤ 9223372036854775807 :=
  rd_of_trod encS rfl _ Try.underlying22 cellsStr (fun m cs y hy => by
    obtain ⟨s, e, -, h1⟩ := DataW.trod_string Try.underlying9 hy
    exact ⟨s, e, h1⟩) h
set_option maxRecDepth 100000 in
theorem open_texts {H : Type} {enc : TypeId × Value → H} {W : World} {r : Reach} {b0 : Nat} {v : Value} {d : DataW H} {p : List MemPlace} (hw : Value.okWide Try.prog W r b0 22 v) (h : DataW.Trod enc Try.prog W 0 (fun _ => true) true 22 v d p) :
    ∃ L, Rd encS W v L ∧ ∀ s ∈ L, s.size ≤ 9223372036854775807 := by
  obtain ⟨a, len, cap, rfl⟩ := okWide_slice Try.underlying22 hw
  obtain ⟨m, hm⟩ := h
  exact rdS_of_trod (n := m) (by simpa [Value.cells] using hm)
end Go.Proofs.Ytlakpibiojdgeaa.rg
