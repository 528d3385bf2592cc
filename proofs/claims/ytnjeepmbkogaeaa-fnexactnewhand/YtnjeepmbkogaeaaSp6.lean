/- Contracts: the model's ValueAt. -/
import Derived.Test.YtnjeepmbkogaeaaSp5
namespace Go.Proofs.Ytnjeepmbkogaeaa.ce
open Go.ChangeShapes Go.WideShapes Go.ChangeAt Go.RowKit
set_option linter.unusedVariables false

def hit (H : List C) (key : Int) (x : Int) : Bool := !(nth H x).gone && (nth H x).key == key
theorem find_none {p : Int → Bool} {M : List Int} (h : ∀ x ∈ M, p x = false) : M.find? p = none := List.find?_eq_none.2 fun x hx => by rw [h x hx]; simp
theorem find_at {p : Int → Bool} {M : List Int} (k : Nat) (hk : k < M.length) (h : ∀ x ∈ M.take k, p x = false) (hp : p M[k] = true) : M.find? p = some M[k] := by
  have e : M = M.take k ++ M[k] :: M.drop (k + 1) := by rw [← List.drop_eq_getElem_cons hk, List.take_append_drop]
  have h1 : List.find? p (M.take k ++ M[k] :: M.drop (k + 1)) = some M[k] := by
    rw [List.find?_append, find_none h, List.find?_cons, hp]
    rfl
  rw [← e] at h1
  exact h1
theorem valueAt_find {H : List C} {M : List Int} (hM : chain H = 0 :: M) (key : Int) : valueAt H key = match M.find? (hit H key) with | some x => ((nth H x).value, true) | none => (0, false) := by
  unfold valueAt
  rw [hM]
  rfl

theorem specValueAt_any (H : List C) (key : Int) (v : Value) (hi : Nat) (w : World) (hh : hi ≤ w.heap.size) (r : Rd w hi v H) :
    Calls Try.prog 33 #[v, .int .i64 key] w fun e w' => e = .returned (.tuple #[.int .i64 (valueL H key).1, .bool (valueL H key).2]) ∧ Below w.heap.size w w' := by
  obtain ⟨a, cap, rfl⟩ := r.form
  have R : Hid (Rd w hi (.slice a H.length cap) H) := r
  clear r
  by_cases hok : heapOk H
  · have eL : Hid (valueL H key = valueAt H key) := if_pos hok
    have eC : Hid (chainL H = chain H) := if_pos hok
    rw [eL.out]
    have h2 : H.length ≤ 1048576 := by have := hok.1.2; omega
    have u : Up H := up_ok hok
    obtain ⟨M, hM, -⟩ := chain_head u
    have hcl : M.length + 1 ≤ 65536 := by have := chain_len u; rw [hM] at this; simpa using this
    have hM' : Hid (chain H = 0 :: M) := hM
    have hMh : Hid (∀ x ∈ M, has H x) := fun x hx => chain_has u x (by rw [hM]; exact List.mem_cons_of_mem _ hx)
    obtain ⟨y, hy⟩ := hid_ex (valueAt H key)
    rw [hy.out]
    clear hok hM
    go_enter Try.func33, Try.ntmps33
    go_wp2_with (first | (go_at_call 56; refine (specChain_any H _ hi _ hh R.out).mono ?_; rintro e w1 ⟨vl, rfl, hO1, hB1⟩; rw [eC.out, hM'.out] at hO1) | (fail))
    have hz1 := hB1.size
    have R1 : Hid (Rd w1 hi (.slice a H.length cap) H) := R.out.below hB1 hh
    have RL : Hid (RdI w1 w1.heap.size vl (0 :: M)) := hO1.rd
    obtain ⟨al, capl, rfl⟩ := hO1.rd.form
    clear hO1 R
    go_loopw [7] (fun p wr => ∃ k : Nat, k ≤ M.length ∧ p = .int .i64 ((k : Int) + 1) ∧ Hid (∀ x ∈ M.take k, hit H key x = false) ∧ Below w1.heap.size w1 wr) (fun p _ => M.length + 1 - (intOf p).toNat)
    case atStart => exact ⟨0, by omega, rfl, (fun x hx => by simp at hx), Below.refl _ _⟩
    case round =>
      obtain ⟨k, hk, rfl, hno, hBr⟩ := hrel
      have hzr := hBr.size
      by_cases hlt : k < M.length
      · obtain ⟨i, hi1, ei, en⟩ := chain_at u hMh.out k hlt
        obtain ⟨z, hz⟩ := hid_ex (H[i])
        obtain ⟨b, off, rfl, hb, d0⟩ := (RL.out.below hBr (Nat.le_refl _)).cell (k + 1) (by simp; omega)
        obtain ⟨b', off', rfl, hb', c0, c1, c2, c3⟩ := (R1.out.below hBr (by omega)).cell i hi1
        simp only [List.getElem_cons_succ] at d0
        rw [ei] at d0
        rw [hz.out] at c0 c1 c2 c3 en
        have hlt' : (k : Int) + 1 < (M.length : Int) + 1 := by omega
        have hi1' : (i : Int) < H.length := by omega
        have hhit : Hid (hit H key M[k] = (!z.gone && z.key == key)) := by unfold Hid hit; rw [en]
        have goOn : Hid (hit H key M[k] = false → ∀ x ∈ M.take (k + 1), hit H key x = false) := fun h x hx => by
          rw [List.take_succ_eq_append_getElem hlt] at hx
          rcases List.mem_append.1 hx with hx | hx
          · exact hno.out x hx
          · rw [List.mem_singleton.1 hx]; exact h
        have stop : Hid (hit H key M[k] = true → y = (z.value, true)) := fun h => by
          rw [← hy.out, valueAt_find hM'.out, find_at k hlt hno.out h]
          simp only [en]
        cases hg : z.gone with
        | true =>
          rw [hg] at c3
          have gone : Hid (∀ x ∈ M.take (k + 1), hit H key x = false) := goOn.out (by rw [hhit.out, hg]; simp)
          rw [hg] at hhit
          go_wp2
          go_roundw
          case rel => exact ⟨k + 1, by omega, by go_num, gone, hBr.alloc (by omega) _⟩
          case measure => simp [intOf]; omega
        | false =>
          rw [hg] at c3
          by_cases hke : z.key = key
          · have st := stop.out (by rw [hhit.out, hg]; simp [hke])
            have hkb : (z.key == key) = true := by simpa using hke
            subst st
            go_wp2
            go_ret2
            exact ⟨rfl, (hB1.trans (hBr.mono hz1)).alloc (by omega) _⟩
          · have gone : Hid (∀ x ∈ M.take (k + 1), hit H key x = false) := goOn.out (by rw [hhit.out, hg]; simp [hke])
            have hkb : (z.key == key) = false := by simpa using hke
            rw [hg] at hhit
            go_wp2
            exact ⟨⟨k + 1, by omega, by go_num, gone, hBr.alloc (by omega) _⟩, by simp [intOf]; omega⟩
      · have ek : k = M.length := by omega
        have hlt' : ¬ ((k : Int) + 1 < (M.length : Int) + 1) := by omega
        have ey : y = (0, false) := by
          have h := hno.out
          rw [ek, List.take_length] at h
          rw [← hy.out, valueAt_find hM'.out, find_none h]
        subst ey
        go_wp2
        go_ret2
        exact ⟨rfl, hB1.trans (hBr.mono hz1)⟩
  · have eL : Hid (valueL H key = (0, false)) := if_neg hok
    have eC : Hid (chainL H = []) := if_neg hok
    rw [eL.out]
    clear hok
    go_enter Try.func33, Try.ntmps33
    go_wp2_with (first | (go_at_call 56; refine (specChain_any H _ hi _ hh R.out).mono ?_; rintro e w1 ⟨vl, rfl, hO1, hB1⟩; rw [eC.out] at hO1) | (fail))
    obtain ⟨al, capl, rfl⟩ := hO1.rd.form
    go_loop [7] (fun p => p = .int .i64 1) (fun p => 0)
    case atStart => rfl
    case round =>
      subst hrel
      go_wp2
      go_ret2
      exact ⟨rfl, hB1⟩
end Go.Proofs.Ytnjeepmbkogaeaa.ce
