/- Contract of rowsOf: the rows of a sketch as one array, and whether it is a right sketch. -/
import Derived.Test.YtgdoclaifnnpgaaSk3
namespace Go.Proofs.Ytgdoclaifnnpgaa.sk
open Go.ChangeShapes Go.WideShapes Go.ChangeAt Go.RowKit
set_option linter.unusedVariables false

def skOk (R : List (List Int)) (adds : Int) : Prop := R.length = 4 ∧ (0 ≤ adds ∧ adds ≤ 159) ∧ (∀ xs ∈ R, xs.length = 16) ∧ ∀ xs ∈ R, ∀ x ∈ xs, 0 ≤ x ∧ x ≤ 15
instance (R : List (List Int)) (adds : Int) : Decidable (skOk R adds) := by unfold skOk; infer_instance
theorem skOk.four {R : List (List Int)} {adds : Int} (h : skOk R adds) : Four R := ⟨h.1, h.2.2.1⟩
theorem skOk.small {R : List (List Int)} {adds : Int} (h : skOk R adds) : Small R := h.2.2.2
/-- a sketch as a value -/
abbrev skv (v : Value) (adds : Int) : Value := .agg #[v, .int .i64 adds]

section ops
variable {P : Program} {ops : Array Oper} {rest : List Oper} {o : Oper} {a : Act} {w : World} {Q : Exit → Act → World → Prop}
/-- a new variable that holds a struct -/
theorem wpList_box_v (hgd : o.guard = none) (t : TypeId) (x : Operand) (ho : o.op = .box t x) (vs : List Value) (hx : a.eval x = .agg vs.toArray)
    (h : ∀ (b : Nat) (w' : World), w.heap.size ≤ b → b < w'.heap.size → Below w.heap.size w w' → VBlk w' b t vs → wpList P ops Q rest (a.put o.dst (.pointer (some ⟨b, 0, none⟩))) w') : wpList P ops Q (o :: rest) a w := by
  refine wpList_val hgd (v := .pointer (some ⟨w.heap.size, 0, none⟩)) (w' := w.alloc (.cells vs.toArray t)) ?_ (h _ _ (Nat.le_refl _) (by simp) ((Below.refl _ _).alloc (Nat.le_refl _) _) (heap_alloc_new _ _))
  unfold execOp
  simp only [ho, hx]
  rfl
theorem wpList_alloc_v (hgd : o.guard = none) (t : TypeId) (ho : o.op = .alloc t) (vs : List Value) (hz : ∀ w, (zeroValue t).run P w = .ok (.agg vs.toArray) w)
    (h : ∀ (b : Nat) (w' : World), w.heap.size ≤ b → b < w'.heap.size → Below w.heap.size w w' → VBlk w' b t vs → wpList P ops Q rest (a.put o.dst (.pointer (some ⟨b, 0, none⟩))) w') : wpList P ops Q (o :: rest) a w := by
  refine wpList_val hgd (v := .pointer (some ⟨w.heap.size, 0, none⟩)) (w' := w.alloc (.cells vs.toArray t)) ?_ (h _ _ (Nat.le_refl _) (by simp) ((Below.refl _ _).alloc (Nat.le_refl _) _) (heap_alloc_new _ _))
  unfold execOp
  simp only [ho, Instr.alloc, Sem.run_bind, hz, Result.andThen_ok]
  rfl
/-- integers are copied from one row into another -/
theorem wpList_copy (hgd : o.guard = none) (d s : Operand) (dT sT : TypeId) (ho : o.op = .call { callee := .builtin .copy, args := #[d, s], argTypes := #[dT, sT] }) (elem : TypeId) (hu : P.underlying dT = some (.slice elem)) (hsz : (P.info? elem).map (·.size) = some 1)
    (b k n c b' k' c' : Nat) (xs : List Int) (hn : xs.length = n) (hd : a.eval d = .slice (some ⟨b, k, none⟩) n c) (hs : a.eval s = .slice (some ⟨b', k', none⟩) n c') (hr : w.rangeAt b' k' (ints xs)) {t : TypeId} {ys : List Int} (hb : Blk w b t ys) (hk : k + n ≤ ys.length)
    (h : ∀ w', Only b w w' → Blk w' b t (put ys xs k) → wpList P ops Q rest (a.put o.dst (goInt n)) w') : wpList P ops Q (o :: rest) a w :=
  wpList_val hgd (exec_copy d s dT sT ho elem hu hsz b k n c b' k' c' xs hn hd hs hr (hb.there k n hk)) (h _ (only_setCells _ _ _ _) (hb.setCells xs k (by omega)))
end ops

theorem row_ret2 {fn : Func} {p u : Tmp} {ty : TypeId} (h : fn.results = #[.cell p ty, .tmp u]) {R : Ending → World → Prop} {a : Act} {w : World} {b : Nat} {t : TypeId} {xs : List Int} {n : Nat} {e : TypeId} {x : Value}
    (hp : a.tmps.getD p undef = .pointer (some ⟨b, 0, none⟩)) (hx : a.tmps.getD u undef = x) (hb : Blk w b t xs) (hu : Try.prog.underlying ty = some (.array n e))
    (hi : (Try.prog.info? ty).map (·.size) = some xs.length) (hdf : a.defers = []) (hR : R (.returned (.tuple #[arr xs, x])) w) : bodyPost Try.prog fn R .ret a w := by
  refine bodyPost_ret ?_ hdf hR
  rw [results_cell_tmp h, hp, hx]
  have hl := run_loadVar_row (P := Try.prog) w b t ty (ints xs).toArray (0, 0) _ hb hu rfl (by rw [hi, ints_size])
  simp [asAddr, hl]

def zeros : List (List Int) := List.replicate 4 (List.replicate 16 0)
def z64 : List Int := List.replicate 64 0
theorem z64_len : z64.length = 64 := by decide
theorem zero54' (w : World) : (zeroValue 54).run Try.prog w = .ok (arr z64) w := zero54 w
theorem zeros_flat : zeros.flatten = z64 := by decide
theorem zeros_four : Four zeros := ⟨by decide, by decide⟩
theorem bnd_id {xs : List Int} : xs = xs.map bnd ↔ ∀ x ∈ xs, 0 ≤ x ∧ x ≤ 15 := by
  constructor
  · intro h x hx
    rw [h] at hx
    obtain ⟨y, -, rfl⟩ := List.mem_map.1 hx
    unfold bnd
    omega
  · intro h
    apply List.ext_getElem (by simp)
    intro i h1 h2
    have := h xs[i] (List.getElem_mem h1)
    simp only [List.getElem_map, bnd]
    omega

/-- what rowsOf answers -/
def RowsAns (w w' : World) (e : Ending) (R : List (List Int)) (adds : Int) : Prop :=
  ∃ fl : List Int, e = .returned (.tuple #[arr fl, .bool (decide (skOk R adds))]) ∧ fl.length = 64 ∧ (skOk R adds → fl = R.flatten) ∧ Below w.heap.size w w'

set_option maxHeartbeats 1000000 in
theorem rowsOf_any (R : List (List Int)) (adds : Int) (v : Value) (w : World) (hi : Nat) (hh : hi ≤ w.heap.size) (hv : Rd w 0 hi v R) :
    Calls Try.prog 34 #[skv v adds] w fun e w' => RowsAns w w' e R adds := by
  obtain ⟨hRl, a, cap, rfl, hrows⟩ := hv
  have m0 : Hid True := trivial
  by_cases h4 : R.length = 4
  · by_cases ha : 0 ≤ adds ∧ adds ≤ 159
    · have h4' : Hid (R.length = 4) := h4
      have h4i : ((R.length : Int) = 4) := by omega
      rcases hrows with hnil | ⟨b, off, rfl, -, hbhi, hcells⟩
      · subst hnil; simp at h4
      clear h4
      go_enter Try.func34, Try.ntmps34
      go_wp2_with (first | (refine wpList_box_v rfl 27 _ rfl [.slice (some ⟨b, off, none⟩) R.length cap, .int .i64 adds] rfl ?_; intro b1 w1 hb1 hw1 hB1 hV1) | (clear m0; refine wpList_alloc_arr rfl 54 rfl _ zero54' ?_; intro b2 w2 hb2 hw2 hB2 hK2; replace hV1 := hV1.below hB2 hw1) | (refine wpList_alloc_arr rfl 54 rfl _ zero54' ?_; intro b4 w4 hb4 hw4 hB4 hK4; replace hV1 := hV1.below hB4 (by have := hB2.size; omega); replace hK2 := hK2.below hB4 (by omega); have hc0 := hV1.cell 0 (by simp); have hc1 := hV1.cell 1 (by simp); simp only [List.getElem_cons_zero, List.getElem_cons_succ] at hc0 hc1; have hB : Below w.heap.size w w4 := (hB1.trans (hB2.mono hB1.size)).trans (hB4.mono (by have := hB1.size; have := hB2.size; omega))))
      have hlo2 : w.heap.size ≤ b2 := by have := hB1.size; omega
      have hlo4 : w.heap.size ≤ b4 := by have := hB1.size; have := hB2.size; omega
      have hne : b2 ≠ b4 := by omega
      go_loopw [25] (fun v wr => ∃ i : Nat, i ≤ 4 ∧ v = .int .i64 i ∧ Blk wr b4 54 (mix R zeros i).flatten ∧ Blk wr b2 54 z64 ∧ (∀ j (hj : j < R.length), j < i → (R[j]).length = 16 ∧ ∀ x ∈ R[j], 0 ≤ x ∧ x ≤ 15) ∧ Below w.heap.size w wr) (fun v _ => 4 - (intOf v).toNat)
      case atStart => exact ⟨0, by omega, rfl, by rw [mix_zero, zeros_flat]; exact hK4, hK2, fun j _ h => by omega, hB⟩
      case round =>
        obtain ⟨i, hi4, rfl, hk4, hk2, hdone, hBr⟩ := hrel
        by_cases hlt : i < 4
        · have hiR : i < R.length := by rw [h4'.out]; exact hlt
          obtain ⟨a', c', hcell0, hrow0⟩ := hcells i hiR
          obtain ⟨xs, hxs⟩ : ∃ xs, R[i] = xs := ⟨_, rfl⟩
          rw [hxs] at hcell0 hrow0
          have HX : Hid (R[i] = xs) := hxs
          clear hxs
          have hcell : wr.cell? ⟨b, off + i, none⟩ = some (.slice a' xs.length c') := by
            rw [hBr.cell (by show b < _; omega)]; exact hcell0
          have hrow := hrow0.keep (Same.of_below hBr hh)
          have hDone : Hid (∀ j (hj : j < R.length), j < i → (R[j]).length = 16 ∧ ∀ x ∈ R[j], 0 ≤ x ∧ x ≤ 15) := hdone
          clear hdone hcell0 hrow0
          have hmem : Hid (∀ ys ∈ mix R zeros i, ys.length = 16) := by
            intro ys hy
            rcases List.mem_append.1 hy with h | h
            · obtain ⟨j, hj, rfl⟩ := List.mem_take_iff_getElem.1 h
              exact (hDone.out j (by omega) (by omega)).1
            · exact zeros_four.2 _ (List.mem_of_mem_drop h)
          have hml : Hid ((mix R zeros i).length = 4) := by unfold Hid; rw [mix_len R zeros i (by rw [h4'.out]; rfl)]; rfl
          have hfl : (mix R zeros i).flatten.length = 64 := by rw [flat_len 16 _ hmem.out, hml.out]
          by_cases h16 : xs.length = 16
          · obtain ⟨fb, foff, rfl, -, hfb, hrange⟩ : ∃ b off, a' = some ⟨b, off, none⟩ ∧ 0 ≤ b ∧ b < hi ∧ wr.rangeAt b off (ints xs) := by
              rcases hrow.2 with h | h
              · subst h; simp at h16
              · exact h
            rw [h16] at hcell
            have e5 : Hid ((mix R zeros i).set i xs = mix R zeros (i + 1)) := by unfold Hid; rw [← mix_set R zeros i (by rw [h4'.out]; rfl) hiR, HX.out]
            have hmem1 : Hid (∀ ys ∈ mix R zeros (i + 1), ys.length = 16) := by
              intro ys hy
              rw [← e5.out] at hy
              rcases List.mem_or_eq_of_mem_set hy with q | q
              · exact hmem.out _ q
              · rw [q]; exact h16
            have hml1 : Hid ((mix R zeros (i + 1)).length = 4) := by unfold Hid; rw [← e5.out, List.length_set, hml.out]
            have hfl1 : (mix R zeros (i + 1)).flatten.length = 64 := by rw [flat_len 16 _ hmem1.out, hml1.out]
            have hch : Hid (xs = ((mix R zeros (i + 1)).flatten.drop (i * 16)).take 16) := by
              unfold Hid
              rw [flat_chunk 16 _ hmem1.out i (by rw [hml1.out]; exact hlt)]
              simp only [← e5.out, List.getElem_set_self]
            by_cases hbd : xs = xs.map bnd
            · have hd : decide (xs = xs.map bnd) = true := decide_eq_true hbd
              have hbd' : Hid (xs = xs.map bnd) := hbd
              clear hbd
              go_wp2_with (first | (refine wpList_copy rfl _ _ _ _ rfl 2 Try.underlying46 size2 b4 (i * 16) 16 16 fb foff c' xs h16 rfl rfl hrange hk4 (by rw [hfl]; omega) ?_; intro w5 hO5 hK5; rw [flat_put 16 _ hmem.out i (by rw [hml.out]; exact hlt) xs h16, e5.out] at hK5) | (refine wpList_load_arr rfl 52 _ rfl b4 (i * 16) 16 rfl _ Try.underlying52 rfl size52 hK5 (by rw [hfl1]; omega) xs hch.out ?_) | (go_at_call 53; refine (right_any xs h16 _).mono ?_; rintro e w6 ⟨rfl, hB6⟩; have hK6 := hK5.below hB6 hK5.lt; have hk26 := (hk2.of (hO5.2.1 _ hne)).below hB6 (by rw [hO5.1]; exact hk2.lt)))
              go_roundw
              case rel =>
                refine ⟨i + 1, by omega, by go_num, hK6, hk26, fun j hj hji => ?_, (hBr.trans (hO5.2.2 _ hlo4)).trans (hB6.mono (by rw [hO5.1]; exact hBr.size))⟩
                by_cases e : j = i
                · subst e; rw [HX.out]; exact ⟨h16, bnd_id.1 hbd'.out⟩
                · exact hDone.out j hj (by omega)
              case measure => simp [intOf]; omega
            · have hd : decide (xs = xs.map bnd) = false := decide_eq_false hbd
              have hno : Hid (decide (skOk R adds) = false) := decide_eq_false (fun h => hbd (bnd_id.2 (by rw [← HX.out]; exact h.2.2.2 _ (List.getElem_mem hiR))))
              clear hbd
              go_wp2_with (first | (refine wpList_copy rfl _ _ _ _ rfl 2 Try.underlying46 size2 b4 (i * 16) 16 16 fb foff c' xs h16 rfl rfl hrange hk4 (by rw [hfl]; omega) ?_; intro w5 hO5 hK5; rw [flat_put 16 _ hmem.out i (by rw [hml.out]; exact hlt) xs h16, e5.out] at hK5) | (refine wpList_load_arr rfl 52 _ rfl b4 (i * 16) 16 rfl _ Try.underlying52 rfl size52 hK5 (by rw [hfl1]; omega) xs hch.out ?_) | (go_at_call 53; refine (right_any xs h16 _).mono ?_; rintro e w6 ⟨rfl, hB6⟩; have hK6 := hK5.below hB6 hK5.lt; have hk26 := (hk2.of (hO5.2.1 _ hne)).below hB6 (by rw [hO5.1]; exact hk2.lt)) | (refine wpList_load_arr rfl 54 _ rfl b4 0 64 rfl _ Try.underlying54 rfl size54 hK6 (by omega) _ (all64 hfl1) ?_) | (refine wpList_store_arr rfl 54 _ _ rfl b2 0 _ rfl rfl (by rw [hfl1]; exact size54) hk26 (by rw [hfl1, z64_len]; omega) ?_; intro w7 hO7 hK7; rw [put_all _ _ (by rw [hfl1]; exact z64_len)] at hK7))
              exact row_ret2 rfl rfl rfl hK7 Try.underlying54 (by rw [hfl1]; exact size54) rfl ⟨_, by rw [hno.out]; rfl, hfl1, fun h => absurd h (of_decide_eq_false hno.out), ((hBr.trans (hO5.2.2 _ hlo4)).trans (hB6.mono (by rw [hO5.1]; exact hBr.size))).trans (hO7.2.2 _ hlo2)⟩
          · have hno : Hid (decide (skOk R adds) = false) := decide_eq_false (fun h => h16 (by rw [← HX.out]; exact h.2.2.1 _ (List.getElem_mem hiR)))
            have h16i : ¬ ((xs.length : Int) = 16) := by omega
            go_wp2_with (first | (refine wpList_load_arr rfl 54 _ rfl b4 0 64 rfl _ Try.underlying54 rfl size54 hk4 (by omega) _ (all64 hfl) ?_) | (refine wpList_store_arr rfl 54 _ _ rfl b2 0 _ rfl rfl (by rw [hfl]; exact size54) hk2 (by rw [hfl, z64_len]; omega) ?_; intro w7 hO7 hK7; rw [put_all _ _ (by rw [hfl]; exact z64_len)] at hK7))
            exact row_ret2 rfl rfl rfl hK7 Try.underlying54 (by rw [hfl]; exact size54) rfl ⟨_, by rw [hno.out]; rfl, hfl, fun h => absurd h (of_decide_eq_false hno.out), hBr.trans (hO7.2.2 _ hlo2)⟩
        · obtain rfl : i = 4 := by omega
          have hyes : skOk R adds := ⟨h4'.out, ha, fun ys hy => by obtain ⟨j, hj, rfl⟩ := List.getElem_of_mem hy; exact (hdone j hj (by rw [h4'.out] at hj; exact hj)).1, fun ys hy => by obtain ⟨j, hj, rfl⟩ := List.getElem_of_mem hy; exact (hdone j hj (by rw [h4'.out] at hj; exact hj)).2⟩
          have hfl := hyes.four.len
          rw [mix_all R zeros 4 (by rw [h4'.out]; omega) (by decide)] at hk4
          have hYes : Hid (skOk R adds) := hyes
          clear hyes hdone
          go_wp2_with (first | (refine wpList_load_arr rfl 54 _ rfl b4 0 64 rfl _ Try.underlying54 rfl size54 hk4 (by omega) _ (all64 hfl) ?_) | (refine wpList_store_arr rfl 54 _ _ rfl b2 0 _ rfl rfl (by rw [hfl]; exact size54) hk2 (by rw [hfl, z64_len]; omega) ?_; intro w7 hO7 hK7; rw [put_all _ _ (by rw [hfl]; exact z64_len)] at hK7))
          exact row_ret2 rfl rfl rfl hK7 Try.underlying54 (by rw [hfl]; exact size54) rfl ⟨_, by rw [decide_eq_true hYes.out]; rfl, hfl, fun _ => rfl, hBr.trans (hO7.2.2 _ hlo2)⟩
    · have hno : Hid (decide (skOk R adds) = false) := decide_eq_false (fun h => ha h.2.1)
      have h4' : ((R.length : Int) = 4) := by omega
      by_cases hneg : adds < 0
      · go_enter Try.func34, Try.ntmps34
        go_wp2_with (first | (refine wpList_box_v rfl 27 _ rfl [.slice a R.length cap, .int .i64 adds] rfl ?_; intro b1 w1 hb1 hw1 hB1 hV1) | (clear m0; refine wpList_alloc_arr rfl 54 rfl _ zero54' ?_; intro b2 w2 hb2 hw2 hB2 hK2; replace hV1 := hV1.below hB2 hw1) | (refine wpList_alloc_arr rfl 54 rfl _ zero54' ?_; intro b4 w4 hb4 hw4 hB4 hK4; replace hV1 := hV1.below hB4 (by have := hB2.size; omega); replace hK2 := hK2.below hB4 (by omega); have hc0 := hV1.cell 0 (by simp); have hc1 := hV1.cell 1 (by simp); simp only [List.getElem_cons_zero, List.getElem_cons_succ] at hc0 hc1; have hB : Below w.heap.size w w4 := (hB1.trans (hB2.mono hB1.size)).trans (hB4.mono (by have := hB1.size; have := hB2.size; omega))) | (refine wpList_load_arr rfl 54 _ rfl b4 0 64 rfl _ Try.underlying54 rfl size54 hK4 (by rw [z64_len]; omega) _ (all64 z64_len) ?_) | (refine wpList_store_arr rfl 54 _ _ rfl b2 0 z64 rfl rfl (by rw [z64_len]; exact size54) hK2 (by omega) ?_; intro w5 hO5 hK5; rw [put_all _ _ rfl] at hK5))
        exact row_ret2 rfl rfl rfl hK5 Try.underlying54 (by rw [z64_len]; exact size54) rfl ⟨z64, by rw [hno.out]; rfl, z64_len, fun h => absurd h (of_decide_eq_false hno.out), hB.trans (hO5.2.2 _ (by have := hB1.size; omega))⟩
      · have hbig : 160 ≤ adds := by omega
        go_enter Try.func34, Try.ntmps34
        go_wp2_with (first | (refine wpList_box_v rfl 27 _ rfl [.slice a R.length cap, .int .i64 adds] rfl ?_; intro b1 w1 hb1 hw1 hB1 hV1) | (clear m0; refine wpList_alloc_arr rfl 54 rfl _ zero54' ?_; intro b2 w2 hb2 hw2 hB2 hK2; replace hV1 := hV1.below hB2 hw1) | (refine wpList_alloc_arr rfl 54 rfl _ zero54' ?_; intro b4 w4 hb4 hw4 hB4 hK4; replace hV1 := hV1.below hB4 (by have := hB2.size; omega); replace hK2 := hK2.below hB4 (by omega); have hc0 := hV1.cell 0 (by simp); have hc1 := hV1.cell 1 (by simp); simp only [List.getElem_cons_zero, List.getElem_cons_succ] at hc0 hc1; have hB : Below w.heap.size w w4 := (hB1.trans (hB2.mono hB1.size)).trans (hB4.mono (by have := hB1.size; have := hB2.size; omega))) | (refine wpList_load_arr rfl 54 _ rfl b4 0 64 rfl _ Try.underlying54 rfl size54 hK4 (by rw [z64_len]; omega) _ (all64 z64_len) ?_) | (refine wpList_store_arr rfl 54 _ _ rfl b2 0 z64 rfl rfl (by rw [z64_len]; exact size54) hK2 (by omega) ?_; intro w5 hO5 hK5; rw [put_all _ _ rfl] at hK5))
        exact row_ret2 rfl rfl rfl hK5 Try.underlying54 (by rw [z64_len]; exact size54) rfl ⟨z64, by rw [hno.out]; rfl, z64_len, fun h => absurd h (of_decide_eq_false hno.out), hB.trans (hO5.2.2 _ (by have := hB1.size; omega))⟩
  · have hno : Hid (decide (skOk R adds) = false) := decide_eq_false (fun h => h4 h.1)
    have h4' : ¬ ((R.length : Int) = 4) := by omega
    go_enter Try.func34, Try.ntmps34
    go_wp2_with (first | (refine wpList_box_v rfl 27 _ rfl [.slice a R.length cap, .int .i64 adds] rfl ?_; intro b1 w1 hb1 hw1 hB1 hV1) | (clear m0; refine wpList_alloc_arr rfl 54 rfl _ zero54' ?_; intro b2 w2 hb2 hw2 hB2 hK2; replace hV1 := hV1.below hB2 hw1) | (refine wpList_alloc_arr rfl 54 rfl _ zero54' ?_; intro b4 w4 hb4 hw4 hB4 hK4; replace hV1 := hV1.below hB4 (by have := hB2.size; omega); replace hK2 := hK2.below hB4 (by omega); have hc0 := hV1.cell 0 (by simp); have hc1 := hV1.cell 1 (by simp); simp only [List.getElem_cons_zero, List.getElem_cons_succ] at hc0 hc1; have hB : Below w.heap.size w w4 := (hB1.trans (hB2.mono hB1.size)).trans (hB4.mono (by have := hB1.size; have := hB2.size; omega))) | (refine wpList_load_arr rfl 54 _ rfl b4 0 64 rfl _ Try.underlying54 rfl size54 hK4 (by rw [z64_len]; omega) _ (all64 z64_len) ?_) | (refine wpList_store_arr rfl 54 _ _ rfl b2 0 z64 rfl rfl (by rw [z64_len]; exact size54) hK2 (by omega) ?_; intro w5 hO5 hK5; rw [put_all _ _ rfl] at hK5))
    exact row_ret2 rfl rfl rfl hK5 Try.underlying54 (by rw [z64_len]; exact size54) rfl ⟨z64, by rw [hno.out]; rfl, z64_len, fun h => absurd h (of_decide_eq_false hno.out), hB.trans (hO5.2.2 _ (by have := hB1.size; omega))⟩

end Go.Proofs.Ytgdoclaifnnpgaa.sk
