/- Contract of the model's HeapOk. -/
import Derived.Test.YthjkhghlhjndmaaMg00
namespace Go.Proofs.Ythjkhghlhjndmaa.ce
open Go.ChangeShapes Go.WideShapes Go.ChangeAt Go.RowKit
set_option linter.unusedVariables false

def cellOk (H : List C) (i : Nat) (c : C) : Prop := (i = 0 ∨ 1 ≤ c.key ∧ c.key ≤ 65535) ∧ leads H c.key c.next
theorem sp_ok (H : List C) (hm : H.length ≤ 40) (hp : 1 ≤ H.length) (hk : (nth H 0).key = 0) (hg : (nth H 0).gone = false) (hd : ∀ j (hj : j < H.length), cellOk H j H[j]) : heapOk H := by
  refine ok_upto H hm hp ⟨hk, hg, ?_⟩ fun j hj h1 => ?_
  · have := (hd 0 hp).2
    have e := nth_nat H 0 hp
    simp only [Int.natCast_zero] at e
    rw [e]; exact this
  · have := hd j hj
    rcases this.1 with e | e
    · omega
    · exact ⟨e, this.2⟩
theorem sp_bad (H : List C) (j : Nat) (hj : j < H.length) (hb : ¬ cellOk H j H[j]) : ¬ heapOk H := fun ok => by
  by_cases e : j = 0
  · subst e
    refine hb ⟨.inl rfl, ?_⟩
    have := ok.2.1.2.2
    have e := nth_nat H 0 hj
    simp only [Int.natCast_zero] at e
    rw [e] at this; exact this
  · refine absurd ok (right_drop H j hj (by omega) fun r => hb ⟨.inr r.1, r.2⟩)

theorem bad_lo (H : List C) (i : Nat) (c : C) (h : c.next < -1) : ¬ cellOk H i c := fun q => by
  rcases q.2 with q | q
  · omega
  · have := q.1.1; omega
theorem bad_hi (H : List C) (i : Nat) (c : C) (hp : 1 ≤ H.length) (h : (H.length : Int) ≤ c.next) : ¬ cellOk H i c := fun q => by
  rcases q.2 with q | q
  · omega
  · have := q.1.2; omega
theorem bad_in (H : List C) (i : Nat) (c : C) (h0 : ¬ i = 0) (h : ¬ (1 ≤ c.key ∧ c.key ≤ 65535)) : ¬ cellOk H i c := fun q => by
  rcases q.1 with q | q
  · exact h0 q
  · exact h q
theorem bad_le (H : List C) (i : Nat) (c : C) (q : Nat) (hq : q < H.length) (hn : c.next = q) (h : (H[q]).key ≤ c.key) : ¬ cellOk H i c := fun z => by
  rcases z.2 with z | z
  · omega
  · have z2 := z.2
    rw [hn, nth_nat H q hq] at z2
    omega
theorem good_le (H : List C) (i : Nat) (c : C) (q : Nat) (hq : q < H.length) (hn : c.next = q) (hi : i = 0 ∨ 1 ≤ c.key ∧ c.key ≤ 65535) (h : ¬ (H[q]).key ≤ c.key) : cellOk H i c :=
  ⟨hi, .inr ⟨by unfold has; omega, by rw [hn, nth_nat H q hq]; omega⟩⟩

theorem in_any (x lo hi : Int) (w : World) : Calls Try.prog 72 #[.int .i64 x, .int .i64 lo, .int .i64 hi] w fun e w' => e = .returned (.bool (decide (lo ≤ x ∧ x ≤ hi))) ∧ w' = w := by
  by_cases h1 : lo ≤ x
  · by_cases h2 : x ≤ hi
    · go_enter Try.func72, Try.ntmps72
      go_wp2
      go_ret
      exact ⟨by rw [decide_eq_true (And.intro h1 h2)]; rfl, rfl⟩
    · have e : Hid (decide (lo ≤ x ∧ x ≤ hi) = false) := decide_eq_false (fun q => h2 q.2)
      rw [e.out]
      go_enter Try.func72, Try.ntmps72
      go_wp2
      go_ret
      exact ⟨rfl, rfl⟩
  · have e : Hid (decide (lo ≤ x ∧ x ≤ hi) = false) := decide_eq_false (fun q => h1 q.1)
    rw [e.out]
    go_enter Try.func72, Try.ntmps72
    go_wp2
    go_ret
    exact ⟨rfl, rfl⟩

theorem in_is (x lo hi : Int) (y : Bool) (h : decide (lo ≤ x ∧ x ≤ hi) = y) (w : World) : Calls Try.prog 72 #[.int .i64 x, .int .i64 lo, .int .i64 hi] w fun e w' => e = .returned (.bool y) ∧ w' = w := by
  subst h; exact in_any x lo hi w

set_option maxHeartbeats 1000000 in
theorem specHeapOk_any (H : List C) (v : Value) (hi : Nat) (w : World) (hh : hi ≤ w.heap.size) (r : Rd w hi v H) :
    Calls Try.prog 38 #[v] w fun e w' => e = .returned (.bool (decide (heapOk H))) ∧ Below w.heap.size w w' := by
  obtain ⟨a, cap, rfl, hlc, hcm, hA⟩ := r.fits
  have hl := r.len
  clear r
  by_cases hlen : 1 ≤ H.length ∧ H.length ≤ 40
  · obtain ⟨hp, hm⟩ := hlen
    have HL : Hid (decide ((1 : Int) ≤ H.length ∧ (H.length : Int) ≤ 40) = true) := decide_eq_true ⟨by omega, by omega⟩
    obtain ⟨b, off, rfl, hb, hr⟩ := hA (by intro e; subst e; simp at hp)
    have RG : Hid (w.rangeAt b off (cvs H)) := hr
    clear hA hr
    obtain ⟨c0, -, -, c3⟩ := range_cell RG.out 0 hp
    simp only [Nat.zero_mul, Nat.add_zero] at c0 c3
    have e0 : Hid (nth H 0 = H[0]) := nth_nat H 0 hp
    obtain ⟨k, hk⟩ := hid_ex (H[0]).key
    obtain ⟨g, hg⟩ := hid_ex (H[0]).gone
    rw [hk.out] at c0
    rw [hg.out] at c3
    have hpos : (0 : Int) < H.length := by omega
    have hpos' : 0 < H.length := hp
    by_cases hk0 : k = 0
    · subst hk0
      cases g
      · go_enter Try.func38, Try.ntmps38
        go_wp2_with (first | (go_at_call 72; refine (in_any (H.length : Int) 1 40 _).mono ?_; rintro e wq ⟨rfl, hq⟩; subst wq; rw [HL.out]) | (fail))
        go_loopw [4] (fun v wr => ∃ i : Nat, i ≤ H.length ∧ v = .int .i64 i ∧ Hid (∀ j (hj : j < H.length), j < i → cellOk H j H[j]) ∧ Below w.heap.size w wr) (fun v _ => H.length - (intOf v).toNat)
        case atStart => exact ⟨0, by omega, rfl, fun j hj h1 => by omega, Below.refl _ _⟩
        case round =>
          obtain ⟨i, hi1, rfl, hd, hBr⟩ := hrel
          by_cases hlt : i < H.length
          · have hil := hlt
            obtain ⟨c, hc⟩ := hid_ex (H[i])
            have rg : Hid (wr.rangeAt b (off + i * 4) (cv c)) := by
              have h1 := cv_range (range_of RG.out (hBr.block b (by omega))) i hil
              rw [hc.out] at h1
              exact h1
            have hbr := hBr.size
            have hlt' : (i : Int) < (H.length : Int) := by omega
            have m1 : Hid True := trivial
            obtain ⟨k0, x0, n0, g0⟩ := c
            by_cases hz : i = 0
            · have hz' : decide (0 < i) = false := decide_eq_false (by omega)
              have hin0 : Hid (i = 0 ∨ 1 ≤ k0 ∧ k0 ≤ 65535) := .inl hz
              clear hz
              by_cases hB : n0 < -1
              · have hbad : Hid ( ¬ cellOk H i ⟨k0, x0, n0, g0⟩) := bad_lo _ _ _ hB
                go_wp2_with (first | (clear m1; refine wpList_load_r rfl 97 _ rfl b (off + i * 4) [.int .i64 k0, .int .i64 x0, .int .i64 n0, .bool g0] rfl _ Try.underlying97 rfl sizeC rg.out ?_) | (refine wpList_alloc_v rfl 97 rfl _ zeroC ?_; intro b2 w2 hb2 hw2 hB2 hV2) | (refine wpList_store_v rfl 97 _ _ rfl b2 [.int .i64 k0, .int .i64 x0, .int .i64 n0, .bool g0] rfl rfl sizeC hV2 rfl (cvs_one1 ⟨k0, x0, n0, g0⟩) ?_; intro w3 hO3 hV3; have d0 := hV3.cell 0 (by simp); have d2 := hV3.cell 2 (by simp); simp only [List.getElem_cons_zero, List.getElem_cons_succ] at d0 d2) | (fail))
                try simp only [Act.put, List.setIfInBounds_toArray, List.set_cons_zero, List.set_cons_succ]
                go_big_quiet (fail)
                have hBx : Below w.heap.size w (w3.drewN nq) := ((hBr.trans (hB2.mono hbr)).trans (hO3.2.2 _ (by omega))).trans (below_drewN _ _)
                go_wp2
                go_ret
                exact ⟨by rw [(decide_eq_false (sp_bad H i hil (by rw [hc.out]; exact hbad.out)) : decide (heapOk H) = false)]; rfl, hBx⟩
              have fB : decide (n0 < -1) = false := decide_eq_false hB
              by_cases hC : (H.length : Int) ≤ n0
              · have fC : decide ((H.length : Int) ≤ n0) = true := decide_eq_true hC
                have hbad : Hid ( ¬ cellOk H i ⟨k0, x0, n0, g0⟩) := bad_hi _ _ _ hp hC
                go_wp2_with (first | (clear m1; refine wpList_load_r rfl 97 _ rfl b (off + i * 4) [.int .i64 k0, .int .i64 x0, .int .i64 n0, .bool g0] rfl _ Try.underlying97 rfl sizeC rg.out ?_) | (refine wpList_alloc_v rfl 97 rfl _ zeroC ?_; intro b2 w2 hb2 hw2 hB2 hV2) | (refine wpList_store_v rfl 97 _ _ rfl b2 [.int .i64 k0, .int .i64 x0, .int .i64 n0, .bool g0] rfl rfl sizeC hV2 rfl (cvs_one1 ⟨k0, x0, n0, g0⟩) ?_; intro w3 hO3 hV3; have d0 := hV3.cell 0 (by simp); have d2 := hV3.cell 2 (by simp); simp only [List.getElem_cons_zero, List.getElem_cons_succ] at d0 d2) | (fail))
                try simp only [Act.put, List.setIfInBounds_toArray, List.set_cons_zero, List.set_cons_succ]
                go_big_quiet (fail)
                have hBx : Below w.heap.size w (w3.drewN nq) := ((hBr.trans (hB2.mono hbr)).trans (hO3.2.2 _ (by omega))).trans (below_drewN _ _)
                go_wp2
                go_ret
                exact ⟨by rw [(decide_eq_false (sp_bad H i hil (by rw [hc.out]; exact hbad.out)) : decide (heapOk H) = false)]; rfl, hBx⟩
              have fC : decide ((H.length : Int) ≤ n0) = false := decide_eq_false hC
              by_cases hE : n0 = -1
              · subst hE
                have hgood : Hid ( cellOk H i ⟨k0, x0, -1, g0⟩) := ⟨hin0.out, .inl rfl⟩
                go_wp2_with (first | (clear m1; refine wpList_load_r rfl 97 _ rfl b (off + i * 4) [.int .i64 k0, .int .i64 x0, .int .i64 (-1), .bool g0] rfl _ Try.underlying97 rfl sizeC rg.out ?_) | (refine wpList_alloc_v rfl 97 rfl _ zeroC ?_; intro b2 w2 hb2 hw2 hB2 hV2) | (refine wpList_store_v rfl 97 _ _ rfl b2 [.int .i64 k0, .int .i64 x0, .int .i64 (-1), .bool g0] rfl rfl sizeC hV2 rfl (cvs_one1 ⟨k0, x0, -1, g0⟩) ?_; intro w3 hO3 hV3; have d0 := hV3.cell 0 (by simp); have d2 := hV3.cell 2 (by simp); simp only [List.getElem_cons_zero, List.getElem_cons_succ] at d0 d2) | (fail))
                try simp only [Act.put, List.setIfInBounds_toArray, List.set_cons_zero, List.set_cons_succ]
                go_big_quiet (fail)
                have hBx : Below w.heap.size w (w3.drewN nq) := ((hBr.trans (hB2.mono hbr)).trans (hO3.2.2 _ (by omega))).trans (below_drewN _ _)
                go_wp2
                go_roundw
                case rel =>
                  refine ⟨i + 1, by omega, by go_num, fun j hj h1 => ?_, hBx⟩
                  by_cases e : j = i
                  · subst e; rw [hc.out]; exact hgood.out
                  · exact hd.out j hj (by omega)
                case measure => simp [intOf]; omega
              obtain ⟨q, rfl⟩ : ∃ q : Nat, n0 = q := ⟨n0.toNat, by omega⟩
              have hq : q < H.length := by omega
              have hq' : (q : Int) < H.length := by omega
              have fC' : decide (H.length ≤ q) = false := decide_eq_false (by omega)
              obtain ⟨y, hy⟩ := hid_ex (H[q]).key
              have cy : wr.cell? ⟨b, off + q * 4, none⟩ = some (.int .i64 y) := by rw [← hy.out]; exact (range_cell (range_of RG.out (hBr.block b (by omega))) q hq).1
              by_cases hD : y ≤ k0
              · have fD : decide (y ≤ k0) = true := decide_eq_true hD
                have hbad : Hid ( ¬ cellOk H i ⟨k0, x0, q, g0⟩) := bad_le _ _ _ q hq rfl (by rw [hy.out]; exact hD)
                go_wp2_with (first | (clear m1; refine wpList_load_r rfl 97 _ rfl b (off + i * 4) [.int .i64 k0, .int .i64 x0, .int .i64 (q : Int), .bool g0] rfl _ Try.underlying97 rfl sizeC rg.out ?_) | (refine wpList_alloc_v rfl 97 rfl _ zeroC ?_; intro b2 w2 hb2 hw2 hB2 hV2) | (refine wpList_store_v rfl 97 _ _ rfl b2 [.int .i64 k0, .int .i64 x0, .int .i64 (q : Int), .bool g0] rfl rfl sizeC hV2 rfl (cvs_one1 ⟨k0, x0, q, g0⟩) ?_; intro w3 hO3 hV3; have d0 := hV3.cell 0 (by simp); have d2 := hV3.cell 2 (by simp); simp only [List.getElem_cons_zero, List.getElem_cons_succ] at d0 d2; have dy : w3.cell? ⟨b, off + q * 4, none⟩ = some (.int .i64 y) := (by rw [World.cell?_of_block (w := w2) (hO3.2.1 b (by omega)), World.cell?_of_block (w := wr) (hB2.block b (by omega))]; exact cy)) | (fail))
                try simp only [Act.put, List.setIfInBounds_toArray, List.set_cons_zero, List.set_cons_succ]
                go_big_quiet (fail)
                have hBx : Below w.heap.size w (w3.drewN nq) := ((hBr.trans (hB2.mono hbr)).trans (hO3.2.2 _ (by omega))).trans (below_drewN _ _)
                go_wp2
                go_ret
                exact ⟨by rw [(decide_eq_false (sp_bad H i hil (by rw [hc.out]; exact hbad.out)) : decide (heapOk H) = false)]; rfl, hBx⟩
              · have fD : decide (y ≤ k0) = false := decide_eq_false hD
                have hgood : Hid ( cellOk H i ⟨k0, x0, q, g0⟩) := good_le _ _ _ q hq rfl hin0.out (by rw [hy.out]; exact hD)
                go_wp2_with (first | (clear m1; refine wpList_load_r rfl 97 _ rfl b (off + i * 4) [.int .i64 k0, .int .i64 x0, .int .i64 (q : Int), .bool g0] rfl _ Try.underlying97 rfl sizeC rg.out ?_) | (refine wpList_alloc_v rfl 97 rfl _ zeroC ?_; intro b2 w2 hb2 hw2 hB2 hV2) | (refine wpList_store_v rfl 97 _ _ rfl b2 [.int .i64 k0, .int .i64 x0, .int .i64 (q : Int), .bool g0] rfl rfl sizeC hV2 rfl (cvs_one1 ⟨k0, x0, q, g0⟩) ?_; intro w3 hO3 hV3; have d0 := hV3.cell 0 (by simp); have d2 := hV3.cell 2 (by simp); simp only [List.getElem_cons_zero, List.getElem_cons_succ] at d0 d2; have dy : w3.cell? ⟨b, off + q * 4, none⟩ = some (.int .i64 y) := (by rw [World.cell?_of_block (w := w2) (hO3.2.1 b (by omega)), World.cell?_of_block (w := wr) (hB2.block b (by omega))]; exact cy)) | (fail))
                try simp only [Act.put, List.setIfInBounds_toArray, List.set_cons_zero, List.set_cons_succ]
                go_big_quiet (fail)
                have hBx : Below w.heap.size w (w3.drewN nq) := ((hBr.trans (hB2.mono hbr)).trans (hO3.2.2 _ (by omega))).trans (below_drewN _ _)
                go_wp2
                go_roundw
                case rel =>
                  refine ⟨i + 1, by omega, by go_num, fun j hj h1 => ?_, hBx⟩
                  by_cases e : j = i
                  · subst e; rw [hc.out]; exact hgood.out
                  · exact hd.out j hj (by omega)
                case measure => simp [intOf]; omega
            · have hz' : decide (0 < i) = true := decide_eq_true (by omega)
              by_cases hin1 : 1 ≤ k0 ∧ k0 ≤ 65535
              · have hin : Hid (decide (1 ≤ k0 ∧ k0 ≤ 65535) = true) := decide_eq_true hin1
                have hin0 : Hid (i = 0 ∨ 1 ≤ k0 ∧ k0 ≤ 65535) := .inr hin1
                by_cases hB : n0 < -1
                · have hbad : Hid ( ¬ cellOk H i ⟨k0, x0, n0, g0⟩) := bad_lo _ _ _ hB
                  go_wp2_with (first | (clear m1; refine wpList_load_r rfl 97 _ rfl b (off + i * 4) [.int .i64 k0, .int .i64 x0, .int .i64 n0, .bool g0] rfl _ Try.underlying97 rfl sizeC rg.out ?_) | (refine wpList_alloc_v rfl 97 rfl _ zeroC ?_; intro b2 w2 hb2 hw2 hB2 hV2) | (refine wpList_store_v rfl 97 _ _ rfl b2 [.int .i64 k0, .int .i64 x0, .int .i64 n0, .bool g0] rfl rfl sizeC hV2 rfl (cvs_one1 ⟨k0, x0, n0, g0⟩) ?_; intro w3 hO3 hV3; have d0 := hV3.cell 0 (by simp); have d2 := hV3.cell 2 (by simp); simp only [List.getElem_cons_zero, List.getElem_cons_succ] at d0 d2) | (fail))
                  try simp only [Act.put, List.setIfInBounds_toArray, List.set_cons_zero, List.set_cons_succ]
                  go_big_quiet (first | (go_at_call 72; exact Calls.quiet_of_same (in_is k0 1 65535 _ hin.out _)) | (fail))
                  have hBx : Below w.heap.size w (w3.drewN nq) := ((hBr.trans (hB2.mono hbr)).trans (hO3.2.2 _ (by omega))).trans (below_drewN _ _)
                  go_wp2
                  go_ret
                  exact ⟨by rw [(decide_eq_false (sp_bad H i hil (by rw [hc.out]; exact hbad.out)) : decide (heapOk H) = false)]; rfl, hBx⟩
                have fB : decide (n0 < -1) = false := decide_eq_false hB
                by_cases hC : (H.length : Int) ≤ n0
                · have fC : decide ((H.length : Int) ≤ n0) = true := decide_eq_true hC
                  have hbad : Hid ( ¬ cellOk H i ⟨k0, x0, n0, g0⟩) := bad_hi _ _ _ hp hC
                  go_wp2_with (first | (clear m1; refine wpList_load_r rfl 97 _ rfl b (off + i * 4) [.int .i64 k0, .int .i64 x0, .int .i64 n0, .bool g0] rfl _ Try.underlying97 rfl sizeC rg.out ?_) | (refine wpList_alloc_v rfl 97 rfl _ zeroC ?_; intro b2 w2 hb2 hw2 hB2 hV2) | (refine wpList_store_v rfl 97 _ _ rfl b2 [.int .i64 k0, .int .i64 x0, .int .i64 n0, .bool g0] rfl rfl sizeC hV2 rfl (cvs_one1 ⟨k0, x0, n0, g0⟩) ?_; intro w3 hO3 hV3; have d0 := hV3.cell 0 (by simp); have d2 := hV3.cell 2 (by simp); simp only [List.getElem_cons_zero, List.getElem_cons_succ] at d0 d2) | (fail))
                  try simp only [Act.put, List.setIfInBounds_toArray, List.set_cons_zero, List.set_cons_succ]
                  go_big_quiet (first | (go_at_call 72; exact Calls.quiet_of_same (in_is k0 1 65535 _ hin.out _)) | (fail))
                  have hBx : Below w.heap.size w (w3.drewN nq) := ((hBr.trans (hB2.mono hbr)).trans (hO3.2.2 _ (by omega))).trans (below_drewN _ _)
                  go_wp2
                  go_ret
                  exact ⟨by rw [(decide_eq_false (sp_bad H i hil (by rw [hc.out]; exact hbad.out)) : decide (heapOk H) = false)]; rfl, hBx⟩
                have fC : decide ((H.length : Int) ≤ n0) = false := decide_eq_false hC
                by_cases hE : n0 = -1
                · subst hE
                  have hgood : Hid ( cellOk H i ⟨k0, x0, -1, g0⟩) := ⟨hin0.out, .inl rfl⟩
                  go_wp2_with (first | (clear m1; refine wpList_load_r rfl 97 _ rfl b (off + i * 4) [.int .i64 k0, .int .i64 x0, .int .i64 (-1), .bool g0] rfl _ Try.underlying97 rfl sizeC rg.out ?_) | (refine wpList_alloc_v rfl 97 rfl _ zeroC ?_; intro b2 w2 hb2 hw2 hB2 hV2) | (refine wpList_store_v rfl 97 _ _ rfl b2 [.int .i64 k0, .int .i64 x0, .int .i64 (-1), .bool g0] rfl rfl sizeC hV2 rfl (cvs_one1 ⟨k0, x0, -1, g0⟩) ?_; intro w3 hO3 hV3; have d0 := hV3.cell 0 (by simp); have d2 := hV3.cell 2 (by simp); simp only [List.getElem_cons_zero, List.getElem_cons_succ] at d0 d2) | (fail))
                  try simp only [Act.put, List.setIfInBounds_toArray, List.set_cons_zero, List.set_cons_succ]
                  go_big_quiet (first | (go_at_call 72; exact Calls.quiet_of_same (in_is k0 1 65535 _ hin.out _)) | (fail))
                  have hBx : Below w.heap.size w (w3.drewN nq) := ((hBr.trans (hB2.mono hbr)).trans (hO3.2.2 _ (by omega))).trans (below_drewN _ _)
                  go_wp2
                  go_roundw
                  case rel =>
                    refine ⟨i + 1, by omega, by go_num, fun j hj h1 => ?_, hBx⟩
                    by_cases e : j = i
                    · subst e; rw [hc.out]; exact hgood.out
                    · exact hd.out j hj (by omega)
                  case measure => simp [intOf]; omega
                obtain ⟨q, rfl⟩ : ∃ q : Nat, n0 = q := ⟨n0.toNat, by omega⟩
                have hq : q < H.length := by omega
                have hq' : (q : Int) < H.length := by omega
                have fC' : decide (H.length ≤ q) = false := decide_eq_false (by omega)
                obtain ⟨y, hy⟩ := hid_ex (H[q]).key
                have cy : wr.cell? ⟨b, off + q * 4, none⟩ = some (.int .i64 y) := by rw [← hy.out]; exact (range_cell (range_of RG.out (hBr.block b (by omega))) q hq).1
                by_cases hD : y ≤ k0
                · have fD : decide (y ≤ k0) = true := decide_eq_true hD
                  have hbad : Hid ( ¬ cellOk H i ⟨k0, x0, q, g0⟩) := bad_le _ _ _ q hq rfl (by rw [hy.out]; exact hD)
                  go_wp2_with (first | (clear m1; refine wpList_load_r rfl 97 _ rfl b (off + i * 4) [.int .i64 k0, .int .i64 x0, .int .i64 (q : Int), .bool g0] rfl _ Try.underlying97 rfl sizeC rg.out ?_) | (refine wpList_alloc_v rfl 97 rfl _ zeroC ?_; intro b2 w2 hb2 hw2 hB2 hV2) | (refine wpList_store_v rfl 97 _ _ rfl b2 [.int .i64 k0, .int .i64 x0, .int .i64 (q : Int), .bool g0] rfl rfl sizeC hV2 rfl (cvs_one1 ⟨k0, x0, q, g0⟩) ?_; intro w3 hO3 hV3; have d0 := hV3.cell 0 (by simp); have d2 := hV3.cell 2 (by simp); simp only [List.getElem_cons_zero, List.getElem_cons_succ] at d0 d2; have dy : w3.cell? ⟨b, off + q * 4, none⟩ = some (.int .i64 y) := (by rw [World.cell?_of_block (w := w2) (hO3.2.1 b (by omega)), World.cell?_of_block (w := wr) (hB2.block b (by omega))]; exact cy)) | (fail))
                  try simp only [Act.put, List.setIfInBounds_toArray, List.set_cons_zero, List.set_cons_succ]
                  go_big_quiet (first | (go_at_call 72; exact Calls.quiet_of_same (in_is k0 1 65535 _ hin.out _)) | (fail))
                  have hBx : Below w.heap.size w (w3.drewN nq) := ((hBr.trans (hB2.mono hbr)).trans (hO3.2.2 _ (by omega))).trans (below_drewN _ _)
                  go_wp2
                  go_ret
                  exact ⟨by rw [(decide_eq_false (sp_bad H i hil (by rw [hc.out]; exact hbad.out)) : decide (heapOk H) = false)]; rfl, hBx⟩
                · have fD : decide (y ≤ k0) = false := decide_eq_false hD
                  have hgood : Hid ( cellOk H i ⟨k0, x0, q, g0⟩) := good_le _ _ _ q hq rfl hin0.out (by rw [hy.out]; exact hD)
                  go_wp2_with (first | (clear m1; refine wpList_load_r rfl 97 _ rfl b (off + i * 4) [.int .i64 k0, .int .i64 x0, .int .i64 (q : Int), .bool g0] rfl _ Try.underlying97 rfl sizeC rg.out ?_) | (refine wpList_alloc_v rfl 97 rfl _ zeroC ?_; intro b2 w2 hb2 hw2 hB2 hV2) | (refine wpList_store_v rfl 97 _ _ rfl b2 [.int .i64 k0, .int .i64 x0, .int .i64 (q : Int), .bool g0] rfl rfl sizeC hV2 rfl (cvs_one1 ⟨k0, x0, q, g0⟩) ?_; intro w3 hO3 hV3; have d0 := hV3.cell 0 (by simp); have d2 := hV3.cell 2 (by simp); simp only [List.getElem_cons_zero, List.getElem_cons_succ] at d0 d2; have dy : w3.cell? ⟨b, off + q * 4, none⟩ = some (.int .i64 y) := (by rw [World.cell?_of_block (w := w2) (hO3.2.1 b (by omega)), World.cell?_of_block (w := wr) (hB2.block b (by omega))]; exact cy)) | (fail))
                  try simp only [Act.put, List.setIfInBounds_toArray, List.set_cons_zero, List.set_cons_succ]
                  go_big_quiet (first | (go_at_call 72; exact Calls.quiet_of_same (in_is k0 1 65535 _ hin.out _)) | (fail))
                  have hBx : Below w.heap.size w (w3.drewN nq) := ((hBr.trans (hB2.mono hbr)).trans (hO3.2.2 _ (by omega))).trans (below_drewN _ _)
                  go_wp2
                  go_roundw
                  case rel =>
                    refine ⟨i + 1, by omega, by go_num, fun j hj h1 => ?_, hBx⟩
                    by_cases e : j = i
                    · subst e; rw [hc.out]; exact hgood.out
                    · exact hd.out j hj (by omega)
                  case measure => simp [intOf]; omega
              · have hin : Hid (decide (1 ≤ k0 ∧ k0 ≤ 65535) = false) := decide_eq_false hin1
                have hbad : Hid ( ¬ cellOk H i ⟨k0, x0, n0, g0⟩) := bad_in _ _ _ hz hin1
                go_wp2_with (first | (clear m1; refine wpList_load_r rfl 97 _ rfl b (off + i * 4) [.int .i64 k0, .int .i64 x0, .int .i64 n0, .bool g0] rfl _ Try.underlying97 rfl sizeC rg.out ?_) | (refine wpList_alloc_v rfl 97 rfl _ zeroC ?_; intro b2 w2 hb2 hw2 hB2 hV2) | (refine wpList_store_v rfl 97 _ _ rfl b2 [.int .i64 k0, .int .i64 x0, .int .i64 n0, .bool g0] rfl rfl sizeC hV2 rfl (cvs_one1 ⟨k0, x0, n0, g0⟩) ?_; intro w3 hO3 hV3; have d0 := hV3.cell 0 (by simp); have d2 := hV3.cell 2 (by simp); simp only [List.getElem_cons_zero, List.getElem_cons_succ] at d0 d2) | (fail))
                try simp only [Act.put, List.setIfInBounds_toArray, List.set_cons_zero, List.set_cons_succ]
                go_big_quiet (first | (go_at_call 72; exact Calls.quiet_of_same (in_is k0 1 65535 _ hin.out _)) | (fail))
                have hBx : Below w.heap.size w (w3.drewN nq) := ((hBr.trans (hB2.mono hbr)).trans (hO3.2.2 _ (by omega))).trans (below_drewN _ _)
                go_wp2
                go_ret
                exact ⟨by rw [(decide_eq_false (sp_bad H i hil (by rw [hc.out]; exact hbad.out)) : decide (heapOk H) = false)]; rfl, hBx⟩
          · have e : Hid (decide (heapOk H) = true) := decide_eq_true (sp_ok H hm hp (by rw [e0.out, hk.out]) (by rw [e0.out, hg.out]) (fun j hj => hd.out j hj (by omega)))
            have hlt' : ¬ ((i : Int) < (H.length : Int)) := by omega
            go_wp2
            go_ret
            exact ⟨by rw [e.out]; rfl, hBr⟩
      · have e : Hid (decide (heapOk H) = false) := decide_eq_false (fun ok => by have := ok.2.1.2.1; rw [e0.out, hg.out] at this; cases this)
        rw [e.out]
        go_enter Try.func38, Try.ntmps38
        go_wp2_with (first | (go_at_call 72; refine (in_any (H.length : Int) 1 40 _).mono ?_; rintro e wq ⟨rfl, hq⟩; subst wq; rw [HL.out]) | (fail))
        go_ret
        exact ⟨rfl, Below.refl _ _⟩
    · have e : Hid (decide (heapOk H) = false) := decide_eq_false (fun ok => by have := ok.2.1.1; rw [e0.out, hk.out] at this; exact hk0 this)
      rw [e.out]
      go_enter Try.func38, Try.ntmps38
      go_wp2_with (first | (go_at_call 72; refine (in_any (H.length : Int) 1 40 _).mono ?_; rintro e wq ⟨rfl, hq⟩; subst wq; rw [HL.out]) | (fail))
      go_ret
      exact ⟨rfl, Below.refl _ _⟩
  · have e : Hid (decide (heapOk H) = false) := decide_eq_false (fun ok => hlen ok.1)
    rw [e.out]
    have HL : Hid (decide ((1 : Int) ≤ H.length ∧ (H.length : Int) ≤ 40) = false) := decide_eq_false (fun q => by omega)
    go_enter Try.func38, Try.ntmps38
    go_wp2_with (first | (go_at_call 72; refine (in_any (H.length : Int) 1 40 _).mono ?_; rintro e wq ⟨rfl, hq⟩; subst wq; rw [HL.out]) | (fail))
    go_ret
    exact ⟨rfl, Below.refl _ _⟩

end Go.Proofs.Ythjkhghlhjndmaa.ce
