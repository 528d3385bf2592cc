/- Cells that came in as an argument, read as a list. -/
import Derived.Test.YtnjeepmbkogaeaaCl1
import Derived.Deep.Slices
import Derived.Lib.SmallJoins
import Derived.ShutString
import Derived.ChangeOld
namespace Go.Proofs.Ytnjeepmbkogaeaa.ce
open Go.ChangeShapes Go.WideShapes Go.ChangeAt Go.RowKit
open Go.Deep Go.Joins
set_option linter.unusedVariables false

theorem cellsLC : Try.prog.cellsOf 56 = 4 := by kernel_rfl
theorem cellsI : Try.prog.cellsOf 2 = 1 := by kernel_rfl
theorem cellsB : Try.prog.cellsOf 4 = 1 := by kernel_rfl
theorem add_none {a : Addr} (h : a.spot = none) (j : Nat) : a.add j = ⟨a.block, a.off + j, none⟩ := by
  obtain ⟨b, o, s⟩ := a
  simp at h
  subst h
  exact Addr.add_mid b o j
set_option maxRecDepth 100000 in
theorem cv_of_trod {H : Type} {enc : TypeId × Value → H} {w : World} {n : Nat} {cs : List Value} {x : DataW H × List MemPlace} (h : DataW.trod enc Try.prog w 0 (fun _ => true) true n 56 cs = some x) : ∃ c : C, cs = cv c := by
  obtain ⟨xs, m, -, -, hl, hxs, hf⟩ := DataW.trod_struct Try.underlying56 h
  rw [cellsLC] at hl
  match cs, hl with
  | [v0, v1, v2, v3], _ =>
    match xs, hxs with
    | [y0, y1, y2, y3], _ =>
      have h0 := hf 0 _ rfl
      have h1 := hf 1 _ rfl
      have h2 := hf 2 _ rfl
      have h3 := hf 3 _ rfl
      simp [cellsI, cellsB] at h0 h1 h2 h3
      obtain ⟨k, e0, -, -⟩ := DataW.trod_int Try.underlying2 h0
      obtain ⟨x, e1, -, -⟩ := DataW.trod_int Try.underlying2 h1
      obtain ⟨q, e2, -, -⟩ := DataW.trod_int Try.underlying2 h2
      obtain ⟨g, e3, -⟩ := DataW.trod_bool Try.underlying4 h3
      simp at e0 e1 e2 e3
      subst e0 e1 e2 e3
      exact ⟨⟨k, x, q, g⟩, rfl⟩

theorem rd_of_trod {H : Type} {enc : TypeId × Value → H} {w : World} {n : Nat} {v : Value} {x : DataW H × List MemPlace} (h : DataW.trod enc Try.prog w 0 (fun _ => true) true n 22 [v] = some x) : ∃ L, Rd w w.heap.size v L := by
  rcases open_slice Try.underlying22 h with ⟨hcs, -⟩ | ⟨a, len, cap, m, n', D, Pl, hcs, -, hl, hm, hmm, -, hrow⟩
  · obtain rfl : v = .slice none 0 0 := by simpa using hcs
    exact ⟨[], none, 0, rfl, Nat.le_refl _, Nat.zero_le _, fun h => absurd rfl h⟩
  · obtain rfl : v = .slice (some a) len cap := by simpa using hcs
    rw [cellsLC] at hrow
    have hlm : len ≤ m := by rw [hmm]; simp; exact hl
    have hex : ∀ i, i < len → ∃ c : C, w.cells? 0 (a.add (i * 4)) 4 = some (cv c) := fun i hi => by
      obtain ⟨cs', h1, h2⟩ := hrow i (by omega)
      obtain ⟨c, rfl⟩ := cv_of_trod h2
      exact ⟨c, h1⟩
    have : Inhabited C := ⟨⟨0, 0, 0, false⟩⟩
    obtain ⟨F, hF⟩ := choose_lt hex
    refine ⟨(List.range len).map F, some a, cap, by simp, by simpa using hl, hm, fun hn => ?_⟩
    have h0 : 0 < len := by
      rcases Nat.eq_zero_or_pos len with e | e
      · subst e; exact absurd rfl hn
      · exact e
    have hc : ∀ i, i < len → ∀ j, j < 4 → w.cell? ((a.add (i * 4)).add j) = (cv (F i))[j]? := fun i hi j hj => by
      obtain ⟨h1, h2, h3⟩ := World.cells?_some (hF i hi)
      exact h3 j hj
    have hspot : a.spot = none := by
      have := hc 0 h0 0 (by omega)
      simp only [Nat.zero_mul] at this
      have h5 : ((a.add 0).add 0).spot = none := World.cell?_spot (v := .int .i64 (F 0).key) (by rw [this]; rfl)
      obtain ⟨b, o, s⟩ := a
      cases s with
      | none => rfl
      | some s => simp [Addr.add] at h5
    have hlt : a.block < w.heap.size := by
      have := hc 0 h0 0 (by omega)
      rw [add_none hspot, Addr.add_mid] at this
      exact World.block_lt_of_cell? w ⟨a.block, a.off + 0 * 4 + 0, none⟩ (by rw [this]; rfl)
    refine ⟨a.block, a.off, by obtain ⟨b, o, s⟩ := a; simp at hspot; subst hspot; rfl, hlt, fun k u hk => ?_⟩
    have hkl : k < len * 4 := by
      have := (List.getElem?_eq_some_iff.1 hk).1
      rw [cvs_len] at this
      simpa using this
    obtain ⟨i, j, rfl, hj⟩ : ∃ i j, k = i * 4 + j ∧ j < 4 := ⟨k / 4, k % 4, by omega, by omega⟩
    have hi : i < len := by omega
    rw [cvs_get _ i (by simpa using hi) j hj] at hk
    have := hc i hi j hj
    rw [add_none hspot, Addr.add_mid, Nat.add_assoc] at this
    rw [this]
    simpa using hk

/-- cells among the arguments -/
theorem open_cells {H : Type} {enc : TypeId × Value → H} {W : World} {r : Reach} {b0 : Nat} {v : Value} {d : DataW H} {p : List MemPlace} (hv : Value.okWide Try.prog W r b0 22 v) (h : DataW.Trod enc Try.prog W 0 (fun _ => true) true 22 v d p) :
    ∃ L, Rd W W.heap.size v L := by
  obtain ⟨a, len, cap, rfl⟩ := okWide_slice Try.underlying22 hv
  obtain ⟨m, hm⟩ := h
  exact rd_of_trod (n := m) (by simpa [Value.cells] using hm)
theorem freshH_le (H : List C) (key value next : Int) : (freshH H key value next).length ≤ 1048576 := by
  unfold freshH
  split
  · rename_i h
    have := h.1.2
    split
    · simp; omega
    · omega
  · simp
theorem swappedH_le (H : List C) (p next to : Int) : (swappedH H p next to).length ≤ 1048576 := by
  unfold swappedH
  split
  · rename_i h
    have := h.1.2
    rw [swap1_len]; omega
  · simp
theorem struckH_le (H : List C) (p next : Int) : (struckH H p next).length ≤ 1048576 := by
  unfold struckH
  split
  · rename_i h
    have := h.1.2
    rw [strike1_len]; omega
  · simp

end Go.Proofs.Ytnjeepmbkogaeaa.ce
