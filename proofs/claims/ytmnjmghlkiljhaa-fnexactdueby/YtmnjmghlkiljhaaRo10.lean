/- A row of whatever things that came in as an argument, read as a list. -/
import Derived.Test.YtmnjmghlkiljhaaRo1
import Derived.Deep.Slices
import Derived.Lib.SmallJoins
import Derived.ShutString
import Derived.ChangeOld
namespace Go.Proofs.Ytmnjmghlkiljhaa.ro
open Go.ChangeShapes Go.WideShapes Go.ChangeAt Go.RowKit
open Go.Deep Go.Joins
open Go.Proofs.Ytmnjmghlkiljhaa.ce
set_option linter.unusedVariables false

theorem add_noneK {a : Addr} (h : a.spot = none) (j : Nat) : a.add j = ⟨a.block, a.off + j, none⟩ := by
  obtain ⟨b, o, s⟩ := a
  simp at h
  subst h
  simp [Addr.add]
/-- a row of whatever things, among the arguments -/
theorem rd_of_trodK {α : Type} [Inhabited α] (E : Enc α) (p : α → Prop) {H : Type} {enc : TypeId × Value → H} {w : World} {n : Nat} {v : Value} {T : TypeId} {x : DataW H × List MemPlace} (hT : Try.prog.underlying T = some (.slice E.t)) (hc : Try.prog.cellsOf E.t = E.k)
    (dec : ∀ m cs y, DataW.trod enc Try.prog w 0 (fun _ => true) true m E.t cs = some y → ∃ z, cs = E.put z ∧ p z)
    (h : DataW.trod enc Try.prog w 0 (fun _ => true) true n T [v] = some x) : ∃ L, Rd E w v L ∧ ∀ z ∈ L, p z := by
  have hkp := E.pos
  rcases open_slice hT h with ⟨hcs, -⟩ | ⟨a, len, cap, m, n', D, Pl, hcs, -, hl, hm, hmm, -, hrow⟩
  · obtain rfl : v = .slice none 0 0 := by simpa using hcs
    exact ⟨[], rd_zero E w none 0 (Nat.zero_le _), fun k hk => by simp at hk⟩
  · obtain rfl : v = .slice (some a) len cap := by simpa using hcs
    rw [hc] at hrow
    have hlm : len ≤ m := by rw [hmm]; simp; exact hl
    have hex : ∀ i, i < len → ∃ z : α, w.cells? 0 (a.add (i * E.k)) E.k = some (E.put z) ∧ p z := fun i hi => by
      obtain ⟨cs', h1, h2⟩ := hrow i (by omega)
      obtain ⟨z, e0, hz⟩ := dec _ _ _ h2
      rw [e0] at h1
      exact ⟨z, h1, hz⟩
    obtain ⟨F, hF⟩ := choose_lt hex
    refine ⟨(List.range len).map F, ⟨some a, cap, by simp, by simpa using hl, hm, fun hn => ?_⟩, fun k hk => ?_⟩
    rotate_left
    · obtain ⟨i, hi, rfl⟩ := List.mem_map.1 hk
      exact (hF i (by simpa using hi)).2
    have h0 : 0 < len := by
      rcases Nat.eq_zero_or_pos len with e | e
      · subst e; exact absurd rfl hn
      · exact e
    have hcell : ∀ i, i < len → ∀ j, j < E.k → w.cell? ((a.add (i * E.k)).add j) = (E.put (F i))[j]? := fun i hi j hj => by
      obtain ⟨h1, h2, h3⟩ := World.cells?_some (hF i hi).1
      exact h3 j hj
    have hsome : ∀ i, i < len → ∀ j, j < E.k → ∃ u, w.cell? ((a.add (i * E.k)).add j) = some u := fun i hi j hj => by
      rw [hcell i hi j hj, List.getElem?_eq_getElem (by rw [E.len]; exact hj)]
      exact ⟨_, rfl⟩
    have hspot : a.spot = none := by
      obtain ⟨u, hu⟩ := hsome 0 h0 0 hkp
      have h5 : ((a.add (0 * E.k)).add 0).spot = none := World.cell?_spot hu
      obtain ⟨b, o, s⟩ := a
      cases s with
      | none => rfl
      | some s => simp [Addr.add] at h5
    have hlt : a.block < w.heap.size := by
      obtain ⟨u, hu⟩ := hsome 0 h0 0 hkp
      rw [add_noneK hspot, Addr.add_mid] at hu
      exact World.block_lt_of_cell? w ⟨a.block, a.off + 0 * E.k + 0, none⟩ hu
    refine ⟨a.block, a.off, by obtain ⟨b, o, s⟩ := a; simp at hspot; subst hspot; rfl, hlt, fun k u hku => ?_⟩
    have hkl : k < len * E.k := by
      have := (List.getElem?_eq_some_iff.1 hku).1
      rw [Enc.row_len] at this
      simpa using this
    obtain ⟨i, j, rfl, hj⟩ : ∃ i j, k = i * E.k + j ∧ j < E.k := ⟨k / E.k, k % E.k, by rw [Nat.mul_comm]; exact (Nat.div_add_mod k E.k).symm, Nat.mod_lt _ hkp⟩
    have hi : i < len := by
      rcases Nat.lt_or_ge i len with q | q
      · exact q
      · have := Nat.mul_le_mul_right E.k q; omega
    have hg := E.row_get ((List.range len).map F) i j (by simpa using hi) hj
    rw [hg] at hku
    have e : ((List.range len).map F)[i]'(by simpa using hi) = F i := by simp
    have := hcell i hi j hj
    rw [add_noneK hspot, Addr.add_mid, Nat.add_assoc] at this
    rw [e, ← this] at hku
    exact hku
end Go.Proofs.Ytmnjmghlkiljhaa.ro
