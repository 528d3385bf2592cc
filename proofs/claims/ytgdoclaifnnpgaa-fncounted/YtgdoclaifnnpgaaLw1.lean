/- Contracts of the laws' helpers on sketches: sizes, copies, comparisons. -/
import Derived.Test.YtgdoclaifnnpgaaSk8
namespace Go.Proofs.Ytgdoclaifnnpgaa.sk
open Go.ChangeShapes Go.WideShapes Go.ChangeAt Go.RowKit
set_option linter.unusedVariables false

theorem szRow (a : Option Addr) (n c : Nat) (left : Int) (hn : n ≤ 9223372036854775807) (h0 : 0 ≤ left) (h1 : left ≤ 1048576) (w : World) :
    Calls Try.prog 51 #[.slice a n c, .int .i64 left] w fun e w' => ∃ r : Int, e = .returned (.int .i64 r) ∧ w' = w ∧ -1 ≤ r ∧ r ≤ left ∧ (0 ≤ r → n ≤ 1048576) := by
  by_cases h : (n : Int) ≤ left
  · have e : Hid (wrap64 (left - n) = left - n) := IntWalk.wrap64_in _ ⟨by omega, by omega⟩
    go_enter Try.func51, Try.ntmps51
    go_wp2
    go_ret
    exact ⟨_, rfl, rfl, by omega, by omega, fun _ => by omega⟩
  · go_enter Try.func51, Try.ntmps51
    go_wp2
    go_ret
    exact ⟨-1, rfl, rfl, by omega, by omega, fun _ => by omega⟩

theorem szRows (R : List (List Int)) (v : Value) (left : Int) (h0 : 0 ≤ left) (h1 : left ≤ 1048576) (w : World) (lo hi : Nat) (hv : Rd w lo hi v R) :
    Calls Try.prog 31 #[v, .int .i64 left] w fun e w' => ∃ r : Int, e = .returned (.int .i64 r) ∧ w' = w ∧ -1 ≤ r ∧ r ≤ left ∧ (0 ≤ r → R.length ≤ 1048576 ∧ ∀ xs ∈ R, xs.length ≤ 1048576) := by
  obtain ⟨hRl, a, cap, rfl, hrows⟩ := hv
  unfold maxLen at hRl
  by_cases h : (R.length : Int) ≤ left
  · obtain ⟨b, off, hcells⟩ : ∃ b off, (R ≠ [] → a = some ⟨b, off, none⟩) ∧ ∀ i (h : i < R.length), ∃ a' c', w.cell? ⟨b, off + i, none⟩ = some (.slice a' (R[i]).length c') ∧ RowR w lo hi a' R[i] := by
      rcases hrows with rfl | ⟨b, off, rfl, -, -, hc⟩
      · exact ⟨0, 0, fun h => absurd rfl h, fun i hi => by simp at hi⟩
      · exact ⟨b, off, fun _ => rfl, hc⟩
    have hA : Hid (R ≠ [] → a = some ⟨b, off, none⟩) := hcells.1
    have hC : Hid _ := hcells.2
    clear hcells hrows
    go_enter Try.func31, Try.ntmps31
    go_wp2
    go_loop [1, 5] (fun l v' => ∃ (i : Nat) (q : Int), i ≤ R.length ∧ v' = .int .i64 i ∧ l = .int .i64 q ∧ 0 ≤ q ∧ q ≤ left ∧ Hid (∀ j (hj : j < R.length), j < i → (R[j]).length ≤ 1048576)) (fun _ v' => R.length - (intOf v').toNat)
    case atStart => exact ⟨0, left - R.length, by omega, rfl, rfl, by omega, by omega, fun j _ h => by omega⟩
    case round =>
      obtain ⟨i, q, hi, rfl, rfl, hq0, hq1, hdone⟩ := hrel
      by_cases hlt : i < R.length
      · obtain ⟨a', c', hcell, hrow⟩ := hC.out i hlt
        obtain rfl := hA.out (by intro e; rw [e] at hlt; simp at hlt)
        obtain ⟨n, hn⟩ : ∃ n, (R[i]).length = n := ⟨_, rfl⟩
        have hnm : n ≤ 9223372036854775807 := by have := hrow.1; unfold maxLen at this; omega
        rw [hn] at hcell
        have hN : Hid ((R[i]).length = n) := hn
        clear hn hrow
        have hlt' : (i : Int) < R.length := by omega
        go_wp2_with (first | (go_at_call 51; refine (szRow _ _ _ _ hnm hq0 (by omega) _).mono ?_; rintro e wq ⟨r, rfl, hwq, hr0, hr1, hr2⟩; subst wq; by_cases hneg : r < 0))
        · go_ret
          exact ⟨-1, rfl, rfl, by omega, by omega, fun _ => by omega⟩
        · go_round
          case rel =>
            refine ⟨i + 1, r, by omega, by go_num, rfl, by omega, by omega, fun j hj hji => ?_⟩
            by_cases e : j = i
            · subst e; rw [hN.out]; exact hr2 (by omega)
            · exact hdone.out j hj (by omega)
          case measure => simp [intOf]; omega
      · go_wp2
        go_ret
        refine ⟨q, rfl, rfl, by omega, by omega, fun _ => ⟨by omega, fun xs hx => ?_⟩⟩
        obtain ⟨j, hj, rfl⟩ := List.getElem_of_mem hx
        exact hdone.out j hj (by omega)
  · go_enter Try.func31, Try.ntmps31
    go_wp2
    go_ret
    exact ⟨-1, rfl, rfl, by omega, by omega, fun _ => by omega⟩

def Modest (R : List (List Int)) : Prop := R.length ≤ 1048576 ∧ ∀ xs ∈ R, xs.length ≤ 1048576

theorem szSketch_any (R : List (List Int)) (v : Value) (adds left : Int) (h0 : 0 ≤ left) (h1 : left ≤ 1048576) (w : World) (lo hi : Nat) (hh : hi ≤ w.heap.size) (hv : Rd w lo hi v R) :
    Calls Try.prog 10 #[skv v adds, .int .i64 left] w fun e w' => ∃ r : Int, e = .returned (.int .i64 r) ∧ (0 ≤ r → Modest R) ∧ Below w.heap.size w w' := by
  have hV : Hid (Rd w lo hi v R) := hv
  clear hv
  go_enter Try.func10, Try.ntmps10
  go_wp2_with (first | (refine wpList_box_v rfl 24 _ rfl [v, .int .i64 adds] rfl ?_; intro b1 w1 hb1 hw1 hB1 hV1; have hc0 := hV1.cell 0 (by simp); simp only [List.getElem_cons_zero] at hc0) | (go_at_call 31; refine (szRows R v left h0 h1 _ lo hi (hV.out.below hB1 hh)).mono ?_; rintro e wq ⟨r, rfl, hwq, hr0, hr1, hr2⟩; subst wq; by_cases hneg : r < 0))
  · go_ret
    exact ⟨-1, rfl, fun h => by omega, hB1⟩
  · go_ret
    exact ⟨r, rfl, fun h => hr2 h, hB1⟩

/-- a copy of a row -/
theorem toRow (xs : List Int) (a : Option Addr) (c : Nat) (w : World) (lo hi : Nat) (hh : hi ≤ w.heap.size) (hx : xs.length ≤ 1048576) (hr : RowR w lo hi a xs) :
    Calls Try.prog 52 #[.slice a xs.length c] w fun e w' => ∃ g, e = .returned (.slice (some ⟨g, 0, none⟩) xs.length xs.length) ∧ w.heap.size ≤ g ∧ g < w'.heap.size ∧ Blk w' g 2 xs ∧ Below w.heap.size w w' := by
  obtain ⟨b, off, hA0, hbh, hR0⟩ : ∃ b off, (xs ≠ [] → a = some ⟨b, off, none⟩) ∧ (xs ≠ [] → b < hi) ∧ w.rangeAt b off (ints xs) := by
    rcases hr.2 with rfl | ⟨b, off, rfl, -, hb, hr⟩
    · exact ⟨0, 0, fun h => absurd rfl h, fun h => absurd rfl h, fun j v hv => by simp [ints] at hv⟩
    · exact ⟨b, off, fun _ => rfl, fun _ => hb, hr⟩
  have hA : Hid (xs ≠ [] → a = some ⟨b, off, none⟩) := hA0
  have hBH : Hid (xs ≠ [] → b < hi) := hbh
  have hR : Hid (w.rangeAt b off (ints xs)) := hR0
  clear hA0 hbh hR0 hr
  go_enter Try.func52, Try.ntmps52
  go_wp2_with (first | (refine wpList_make rfl 46 2 _ _ rfl (.int .i64 0) 8 xs.length Try.underlying46 info2 rfl rfl rfl (by omega) (by omega) ?_; intro g w1 hg hw1 hB1 hV1))
  go_loopw [4] (fun v' wr => ∃ i : Nat, i ≤ xs.length ∧ v' = .int .i64 i ∧ Blk wr g 2 (xs.take i ++ List.replicate (xs.length - i) 0) ∧ Below w.heap.size w wr) (fun v' _ => xs.length - (intOf v').toNat)
  case atStart => exact ⟨0, by omega, rfl, by simpa using hV1.ints, hB1⟩
  case round =>
    obtain ⟨i, hi', rfl, hk, hBr⟩ := hrel
    by_cases hlt : i < xs.length
    · have hne : xs ≠ [] := by intro e; rw [e] at hlt; simp at hlt
      obtain rfl := hA.out hne
      have hbh := hBH.out hne
      obtain ⟨z, hz⟩ : ∃ z, xs[i] = z := ⟨_, rfl⟩
      have hcz : wr.cell? ⟨b, off + i, none⟩ = some (.int .i64 z) := by rw [hBr.cell (by show b < _; omega), range_cell hR.out i hlt, hz]
      have hlen : Hid ((xs.take i ++ List.replicate (xs.length - i) 0).length = xs.length) := by unfold Hid; simp; omega
      have hcg := hk.cell i (by rw [hlen.out]; exact hlt)
      have hfg := hk.frozen i
      have hlt' : (i : Int) < xs.length := by omega
      have hZ : Hid (xs[i] = z) := hz
      have hK : Hid (Blk wr g 2 (xs.take i ++ List.replicate (xs.length - i) 0)) := hk
      clear hz hk hne
      go_wp2
      go_roundw
      case rel =>
        refine ⟨i + 1, by omega, by go_num, ?_, hBr.setCell (by show w.heap.size ≤ g; omega) _⟩
        have h1 := hK.out.set i z
        have e : (xs.take i ++ List.replicate (xs.length - i) 0).set i z = xs.take (i + 1) ++ List.replicate (xs.length - (i + 1)) 0 := by
          rw [take_snoc xs i hlt, hZ.out, List.set_append_right _ _ (by simp; omega)]
          have e1 : i - (xs.take i).length = 0 := by simp; omega
          have e2 : xs.length - i = (xs.length - (i + 1)) + 1 := by omega
          rw [e1, e2, List.replicate_succ, List.set_cons_zero, List.append_assoc]
          rfl
        rw [e] at h1
        exact h1
      case measure => simp [intOf]; omega
    · have e : i = xs.length := by omega
      have hk' : Blk wr g 2 xs := by rw [e] at hk; simpa using hk
      clear hk
      go_wp2
      go_ret
      exact ⟨g, rfl, hg, hk'.lt, hk', hBr⟩

end Go.Proofs.Ytgdoclaifnnpgaa.sk
