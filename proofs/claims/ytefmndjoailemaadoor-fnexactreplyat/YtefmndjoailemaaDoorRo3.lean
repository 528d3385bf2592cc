/- Contracts: the place of a text in a row, right names, right rings: the model's. -/
import Derived.Test.YtefmndjoailemaaDoorRo2
namespace Go.Proofs.YtefmndjoailemaaDoor.rg
open Go.ChangeShapes Go.WideShapes Go.ChangeAt Go.RowKit
open Go.Proofs.YtefmndjoailemaaDoor.ce Go.Proofs.YtefmndjoailemaaDoor.ro
set_option linter.unusedVariables false

theorem l1At_any (N : List ByteArray) (s : ByteArray) (v : Value) (w : World) (r : Rd encS w v N) :
    Calls Tryd.prog 31 #[v, .string s] w fun e w' => e = .returned (.int .i64 (posS s N)) ∧ w' = w := by
  have hl := r.len
  obtain ⟨a, cap, rfl⟩ := r.form
  have R : Hid (Rd encS w (.slice a N.length cap) N) := r
  clear r
  obtain ⟨y, hy⟩ := hid_ex (posS s N)
  rw [hy.out]
  go_enter Tryd.func31, Tryd.ntmps31
  go_wp2
  go_loop [5] (fun p => ∃ i : Nat, i ≤ N.length ∧ p = .int .i64 i ∧ Hid (s ∉ N.take i)) (fun p => N.length - (intOf p).toNat)
  case atStart => exact ⟨0, by omega, rfl, (by unfold Hid; simp)⟩
  case round =>
    obtain ⟨i, hi1, rfl, hno⟩ := hrel
    by_cases hlt : i < N.length
    · obtain ⟨b, off, rfl, hb, d0⟩ := rdS_cell R.out i hlt
      have hlt' : (i : Int) < (N.length : Int) := by omega
      obtain ⟨z, hz⟩ := hid_ex (N[i])
      rw [hz.out] at d0
      by_cases he : z.toList = s.toList
      · have ey : y = i := by rw [← hy.out]; exact posS_at hlt (hz.out.trans (str_eq he)) hno.out
        subst ey
        have hbe : (z.toList == s.toList) = true := by simpa using he
        clear he
        go_wp2
        go_ret
        exact ⟨rfl, rfl⟩
      · have hno2 : Hid (s ∉ N.take (i + 1)) := by
          unfold Hid
          rw [List.take_succ_eq_append_getElem hlt, List.mem_append, hz.out, List.mem_singleton]
          rintro (h | h)
          · exact hno.out h
          · exact he (by rw [h])
        have hbe : (z.toList == s.toList) = false := by simpa using he
        clear he
        go_wp2
        go_round
        case rel => exact ⟨i + 1, by omega, by go_num, hno2⟩
        case measure => simp [intOf]; omega
    · have hlt' : ¬ (i : Int) < (N.length : Int) := by omega
      have ey : y = -1 := by
        have h := hno.out
        rw [List.take_of_length_le (by omega)] at h
        rw [← hy.out]; exact posS_no h
      subst ey
      go_wp2
      go_ret
      exact ⟨rfl, rfl⟩

/-- a ring is read -/
structure RdR (w : World) (vN vU : Value) (r : Rg) : Prop where
  n : Rd encS w vN r.N
  u : Rd encB w vU r.U
  s : ∀ s ∈ r.N, s.size ≤ 9223372036854775807
theorem RdR.grow {w w' : World} {vN vU : Value} {r : Rg} (h : RdR w vN vU r) (hb : Below w.heap.size w w') : RdR w' vN vU r := ⟨h.n.grow hb, h.u.grow hb, h.s⟩
/-- a ring is owned -/
structure OwnR (w : World) (lo hi : Nat) (vN vU : Value) (r : Rg) : Prop where
  n : Own encS w lo hi vN r.N
  u : Own encB w lo hi vU r.U
theorem OwnR.grow {w w' : World} {lo hi : Nat} {vN vU : Value} {r : Rg} (h : OwnR w lo hi vN vU r) (hb : Below w.heap.size w w') : OwnR w' lo hi vN vU r := ⟨h.n.grow hb, h.u.grow hb⟩
theorem OwnR.within {w w' : World} {lo hi l2 h2 : Nat} {vN vU : Value} {r : Rg} (h : OwnR w lo hi vN vU r) (hw : Within l2 h2 w w') (hd : hi ≤ l2 ∨ h2 ≤ lo) : OwnR w' lo hi vN vU r := ⟨h.n.within hw hd, h.u.within hw hd⟩
theorem OwnR.wide {w : World} {lo hi lo' hi' : Nat} {vN vU : Value} {r : Rg} (h : OwnR w lo hi vN vU r) (h1 : lo' ≤ lo) (h2 : hi ≤ hi') : OwnR w lo' hi' vN vU r := ⟨h.n.wide h1 h2, h.u.wide h1 h2⟩
theorem OwnR.top {w : World} {lo hi : Nat} {vN vU : Value} {r : Rg} (h : OwnR w lo hi vN vU r) : OwnR w lo w.heap.size vN vU r := ⟨h.n.top, h.u.top⟩
theorem OwnR.rd {w : World} {lo hi : Nat} {vN vU : Value} {r : Rg} (h : OwnR w lo hi vN vU r) (hs : ∀ s ∈ r.N, s.size ≤ 9223372036854775807) : RdR w vN vU r := ⟨h.n.rd, h.u.rd, hs⟩
theorem OwnR.only {w w' : World} {lo hi b : Nat} {vN vU : Value} {r : Rg} {t : TypeId} {vs : List Value} (h : OwnR w lo hi vN vU r) (ho : Only b w w') (hb : VBlk w b t vs) (h1 : 9 ≠ t) (h2 : 4 ≠ t) : OwnR w' lo hi vN vU r := ⟨h.n.only ho hb h1, h.u.only ho hb h2⟩
theorem ownR_zero (w : World) (lo hi : Nat) : OwnR w lo hi (.slice none 0 0) (.slice none 0 0) Rg.zero := ⟨own_zero _ _ _ _ _, own_zero _ _ _ _ _⟩
theorem cells3 {w : World} {b : Nat} {t : TypeId} {u v x : Value} (h : VBlk w b t [u, v, x]) : w.cell? ⟨b, 0, none⟩ = some u ∧ w.cell? ⟨b, 1, none⟩ = some v ∧ w.cell? ⟨b, 2, none⟩ = some x := ⟨h.cell 0 (by simp), h.cell 1 (by simp), h.cell 2 (by simp)⟩
theorem cells2 {w : World} {b : Nat} {t : TypeId} {u v : Value} (h : VBlk w b t [u, v]) : w.cell? ⟨b, 0, none⟩ = some u ∧ w.cell? ⟨b, 1, none⟩ = some v := ⟨h.cell 0 (by simp), h.cell 1 (by simp)⟩

end Go.Proofs.YtefmndjoailemaaDoor.rg
