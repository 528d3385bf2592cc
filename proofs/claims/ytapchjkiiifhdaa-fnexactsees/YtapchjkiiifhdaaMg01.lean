/- Texts laid together: Sk4 Plain1 Hash1 Place1 Sk5 Sk6 CeOps Ro1. -/
import Derived.Test.YtapchjkiiifhdaaMg00
import Derived.Test.YtapchjkiiifhdaaRows
import Derived.WalkKit
import Derived.ProofKit
import Derived.OpenShut
import Derived.Below
import Derived.OwnWalk
import Derived.ArgAppend
import Derived.Deep.MidRow
import Derived.Deep.OwnRows
import Derived.Deep.RegionHeld3
import Derived.Deep.RegionLaw
import Derived.BigQuiet
import Derived.Laws.AppendOwnNone
import Derived.Lib.SliceRun
/- Contract of rowsOf: the rows of a sketch as one array, and whether it is a right sketch. -/
namespace Go.Proofs.Ytapchjkiiifhdaa.sk
open Go.ChangeShapes Go.WideShapes Go.ChangeAt Go.RowKit
set_option linter.unusedVariables false

def skOk (R : List (List Int)) (adds : Int) : Prop := R.length = 4 ∧ (0 ≤ adds ∧ adds ≤ 159) ∧ (∀ xs ∈ R, xs.length = 16) ∧ ∀ xs ∈ R, ∀ x ∈ xs, 0 ≤ x ∧ x ≤ 15
instance (R : List (List Int)) (adds : Int) : Decidable (skOk R adds) := by unfold skOk; infer_instance
set_option maxRecDepth 100000 in
theorem skOk.four {R : List (List Int)} {adds : Int} (h : skOk R adds) : Four R := ⟨h.1, h.2.2.1⟩
set_option maxRecDepth 100000 in
theorem skOk.small {R : List (List Int)} {adds : Int} (h : skOk R adds) : Small R := h.2.2.2
/-- a sketch as a value -/
abbrev skv (v : Value) (adds : Int) : Value := .agg #[v, .int .i64 adds]

section ops
variable {P : Program} {ops : Array Oper} {rest : List Oper} {o : Oper} {a : Act} {w : World} {Q : Exit → Act → World → Prop}
set_option maxRecDepth 100000 in
/-- a new variable that holds a struct -/
theorem wpList_box_v (hgd : o.guard = none) (t : TypeId) (x : Operand) (ho : o.op = .box t x) (vs : List Value) (hx : a.eval x = .agg vs.toArray)
    (h : ∀ (b : Nat) (w' : World), w.heap.size ≤ b → b < w'.heap.size → Below w.heap.size w w' → VBlk w' b t vs → wpList P ops Q rest (a.put o.dst (.pointer (some ⟨b, 0, none⟩))) w') : wpList P ops Q (o :: rest) a w := by
  refine wpList_val hgd (v := .pointer (some ⟨w.heap.size, 0, none⟩)) (w' := w.alloc (.cells vs.toArray t)) ?_ (h _ _ (Nat.le_refl _) (by simp) ((Below.refl _ _).alloc (Nat.le_refl _) _) (heap_alloc_new _ _))
  unfold execOp
  simp only [ho, hx]
  rfl
set_option maxRecDepth 100000 in
theorem wpList_alloc_v (hgd : o.guard = none) (t : TypeId) (ho : o.op = .alloc t) (vs : List Value) (hz : ∀ w, (zeroValue t).run P w = .ok (.agg vs.toArray) w)
    (h : ∀ (b : Nat) (w' : World), w.heap.size ≤ b → b < w'.heap.size → Below w.heap.size w w' → VBlk w' b t vs → wpList P ops Q rest (a.put o.dst (.pointer (some ⟨b, 0, none⟩))) w') : wpList P ops Q (o :: rest) a w := by
  refine wpList_val hgd (v := .pointer (some ⟨w.heap.size, 0, none⟩)) (w' := w.alloc (.cells vs.toArray t)) ?_ (h _ _ (Nat.le_refl _) (by simp) ((Below.refl _ _).alloc (Nat.le_refl _) _) (heap_alloc_new _ _))
  unfold execOp
  simp only [ho, Instr.alloc, Sem.run_bind, hz, Result.andThen_ok]
  rfl
set_option maxRecDepth 100000 in
/-- integers are copied from one row into another -/
theorem wpList_copy (hgd : o.guard = none) (d s : Operand) (dT sT : TypeId) (ho : o.op = .call { callee := .builtin .copy, args := #[d, s], argTypes := #[dT, sT] }) (elem : TypeId) (hu : P.underlying dT = some (.slice elem)) (hsz : (P.info? elem).map (·.size) = some 1)
    (b k n c b' k' c' : Nat) (xs : List Int) (hn : xs.length = n) (hd : a.eval d = .slice (some ⟨b, k, none⟩) n c) (hs : a.eval s = .slice (some ⟨b', k', none⟩) n c') (hr : w.rangeAt b' k' (ints xs)) {t : TypeId} {ys : List Int} (hb : Blk w b t ys) (hk : k + n ≤ ys.length)
    (h : ∀ w', Only b w w' → Blk w' b t (put ys xs k) → wpList P ops Q rest (a.put o.dst (goInt n)) w') : wpList P ops Q (o :: rest) a w :=
  wpList_val hgd (exec_copy d s dT sT ho elem hu hsz b k n c b' k' c' xs hn hd hs hr (hb.there k n hk)) (h _ (only_setCells _ _ _ _) (hb.setCells xs k (by omega)))
end ops

set_option maxRecDepth 100000 in
theorem row_ret2 {fn : Func} {p u : Tmp} {ty : TypeId} (h : fn.results = #[.cell p ty, .tmp u]) {R : Ending → World → Prop} {a : Act} {w : World} {b : Nat} {t : TypeId} {xs : List Int} {n : Nat} {e : TypeId} {x : Value}
    (hp : a.tmps.getD p undef = .pointer (some ⟨b, 0, none⟩)) (hx : a.tmps.getD u undef = x) (hb : Blk w b t xs) (hu : Try.prog.underlying ty = some (.array n e))
    (hi : (Try.prog.info? ty).map (·.size) = some xs.length) (hdf : a.defers = []) (hR : R (.returned (.tuple #[arr xs, x])) w) : bodyPost Try.prog fn R .ret a w := by
  refine bodyPost_ret ?_ hdf hR
  rw [results_cell_tmp h, hp, hx]
  have hl := run_loadVar_row (P := Try.prog) w b t ty (ints xs).toArray (0, 0) _ hb hu rfl (by rw [hi, ints_size])
  simp [asAddr, hl]

def zeros : List (List Int) := List.replicate 4 (List.replicate 16 0)
def z64 : List Int := List.replicate 64 0
set_option maxRecDepth 100000 in
theorem z64_len : z64.length = 64 := by decide
set_option maxRecDepth 100000 in
theorem zero54' (w : World) : (zeroValue 134).run Try.prog w = .ok (arr z64) w := zero54 w
set_option maxRecDepth 100000 in
theorem zeros_flat : zeros.flatten = z64 := by decide
set_option maxRecDepth 100000 in
theorem zeros_four : Four zeros := ⟨by decide, by decide⟩
set_option maxRecDepth 100000 in
theorem bnd_id {xs : List Int} : xs = xs.map bnd ↔ ∀ x ∈ xs, 0 ≤ x ∧ x ≤ 15 := by
  constructor
  · intro h x hx
    rw [h] at hx
    obtain ⟨y, -, rfl⟩ := List.mem_map.1 hx
    unfold bnd
    omega
  · intro h
    apply List.ext_getElem (by simp)
    intro i h1 h2
    have := h xs[i] (List.getElem_mem h1)
    simp only [List.getElem_map, bnd]
    omega

/-- what rowsOf answers -/
def RowsAns (w w' : World) (e : Ending) (R : List (List Int)) (adds : Int) : Prop :=
  ∃ fl : List Int, e = .returned (.tuple #[arr fl, .bool (decide (skOk R adds))]) ∧ fl.length = 64 ∧ (skOk R adds → fl = R.flatten) ∧ Below w.heap.size w w'

set_option maxRecDepth 100000 in
set_option maxHeartbeats 1000000 in
theorem rowsOf_any (R : List (List Int)) (adds : Int) (v : Value) (w : World) (hi : Nat) (hh : hi ≤ w.heap.size) (hv : Rd w 0 hi v R) :
    Calls Try.prog 118 #[skv v adds] w fun e w' => RowsAns w w' e R adds := by
  obtain ⟨hRl, a, cap, rfl, hrows⟩ := hv
  have m0 : Hid True := trivial
  by_cases h4 : R.length = 4
  · by_cases ha : 0 ≤ adds ∧ adds ≤ 159
    · have h4' : Hid (R.length = 4) := h4
      have h4i : ((R.length : Int) = 4) := by omega
      rcases hrows with hnil | ⟨b, off, rfl, -, hbhi, hcells⟩
      · subst hnil; simp at h4
      clear h4
      go_enter Try.func118, Try.ntmps118
      go_wp2_with (first | (refine wpList_box_v rfl 34 _ rfl [.slice (some ⟨b, off, none⟩) R.length cap, .int .i64 adds] rfl ?_; intro b1 w1 hb1 hw1 hB1 hV1) | (clear m0; refine wpList_alloc_arr rfl 134 rfl _ zero54' ?_; intro b2 w2 hb2 hw2 hB2 hK2; replace hV1 := hV1.below hB2 hw1) | (refine wpList_alloc_arr rfl 134 rfl _ zero54' ?_; intro b4 w4 hb4 hw4 hB4 hK4; replace hV1 := hV1.below hB4 (by have := hB2.size; omega); replace hK2 := hK2.below hB4 (by omega); have hc0 := hV1.cell 0 (by simp); have hc1 := hV1.cell 1 (by simp); simp only [List.getElem_cons_zero, List.getElem_cons_succ] at hc0 hc1; have hB : Below w.heap.size w w4 := (hB1.trans (hB2.mono hB1.size)).trans (hB4.mono (by have := hB1.size; have := hB2.size; omega))))
      have hlo2 : w.heap.size ≤ b2 := by have := hB1.size; omega
      have hlo4 : w.heap.size ≤ b4 := by have := hB1.size; have := hB2.size; omega
      have hne : b2 ≠ b4 := by omega
      go_loopw [25] (fun v wr => ∃ i : Nat, i ≤ 4 ∧ v = .int .i64 i ∧ Blk wr b4 134 (mix R zeros i).flatten ∧ Blk wr b2 134 z64 ∧ (∀ j (hj : j < R.length), j < i → (R[j]).length = 16 ∧ ∀ x ∈ R[j], 0 ≤ x ∧ x ≤ 15) ∧ Below w.heap.size w wr) (fun v _ => 4 - (intOf v).toNat)
      case atStart => exact ⟨0, by omega, rfl, by rw [mix_zero, zeros_flat]; exact hK4, hK2, fun j _ h => by omega, hB⟩
      case round =>
        obtain ⟨i, hi4, rfl, hk4, hk2, hdone, hBr⟩ := hrel
        by_cases hlt : i < 4
        · have hiR : i < R.length := by rw [h4'.out]; exact hlt
          obtain ⟨a', c', hcell0, hrow0⟩ := hcells i hiR
          obtain ⟨xs, hxs⟩ : ∃ xs, R[i] = xs := ⟨_, rfl⟩
          rw [hxs] at hcell0 hrow0
          have HX : Hid (R[i] = xs) := hxs
          clear hxs
          have hcell : wr.cell? ⟨b, off + i, none⟩ = some (.slice a' xs.length c') := by
            rw [hBr.cell (by show b < _; omega)]; exact hcell0
          have hrow := hrow0.keep (Same.of_below hBr hh)
          have hDone : Hid (∀ j (hj : j < R.length), j < i → (R[j]).length = 16 ∧ ∀ x ∈ R[j], 0 ≤ x ∧ x ≤ 15) := hdone
          clear hdone hcell0 hrow0
          have hmem : Hid (∀ ys ∈ mix R zeros i, ys.length = 16) := by
            intro ys hy
            rcases List.mem_append.1 hy with h | h
            · obtain ⟨j, hj, rfl⟩ := List.mem_take_iff_getElem.1 h
              exact (hDone.out j (by omega) (by omega)).1
            · exact zeros_four.2 _ (List.mem_of_mem_drop h)
          have hml : Hid ((mix R zeros i).length = 4) := by unfold Hid; rw [mix_len R zeros i (by rw [h4'.out]; rfl)]; rfl
          have hfl : (mix R zeros i).flatten.length = 64 := by rw [flat_len 16 _ hmem.out, hml.out]
          by_cases h16 : xs.length = 16
          · obtain ⟨fb, foff, rfl, -, hfb, hrange⟩ : ∃ b off, a' = some ⟨b, off, none⟩ ∧ 0 ≤ b ∧ b < hi ∧ wr.rangeAt b off (ints xs) := by
              rcases hrow.2 with h | h
              · subst h; simp at h16
              · exact h
            rw [h16] at hcell
            have e5 : Hid ((mix R zeros i).set i xs = mix R zeros (i + 1)) := by unfold Hid; rw [← mix_set R zeros i (by rw [h4'.out]; rfl) hiR, HX.out]
            have hmem1 : Hid (∀ ys ∈ mix R zeros (i + 1), ys.length = 16) := by
              intro ys hy
              rw [← e5.out] at hy
              rcases List.mem_or_eq_of_mem_set hy with q | q
              · exact hmem.out _ q
              · rw [q]; exact h16
            have hml1 : Hid ((mix R zeros (i + 1)).length = 4) := by unfold Hid; rw [← e5.out, List.length_set, hml.out]
            have hfl1 : (mix R zeros (i + 1)).flatten.length = 64 := by rw [flat_len 16 _ hmem1.out, hml1.out]
            have hch : Hid (xs = ((mix R zeros (i + 1)).flatten.drop (i * 16)).take 16) := by
              unfold Hid
              rw [flat_chunk 16 _ hmem1.out i (by rw [hml1.out]; exact hlt)]
              simp only [← e5.out, List.getElem_set_self]
            by_cases hbd : xs = xs.map bnd
            · have hd : decide (xs = xs.map bnd) = true := decide_eq_true hbd
              have hbd' : Hid (xs = xs.map bnd) := hbd
              clear hbd
              go_wp2_with (first | (refine wpList_copy rfl _ _ _ _ rfl 2 Try.underlying116 size2 b4 (i * 16) 16 16 fb foff c' xs h16 rfl rfl hrange hk4 (by rw [hfl]; omega) ?_; intro w5 hO5 hK5; rw [flat_put 16 _ hmem.out i (by rw [hml.out]; exact hlt) xs h16, e5.out] at hK5) | (refine wpList_load_arr rfl 132 _ rfl b4 (i * 16) 16 rfl _ Try.underlying132 rfl size52 hK5 (by rw [hfl1]; omega) xs hch.out ?_) | (go_at_call 173; refine (right_any xs h16 _).mono ?_; rintro e w6 ⟨rfl, hB6⟩; have hK6 := hK5.below hB6 hK5.lt; have hk26 := (hk2.of (hO5.2.1 _ hne)).below hB6 (by rw [hO5.1]; exact hk2.lt)))
              go_roundw
              case rel =>
                refine ⟨i + 1, by omega, by go_num, hK6, hk26, fun j hj hji => ?_, (hBr.trans (hO5.2.2 _ hlo4)).trans (hB6.mono (by rw [hO5.1]; exact hBr.size))⟩
                by_cases e : j = i
                · subst e; rw [HX.out]; exact ⟨h16, bnd_id.1 hbd'.out⟩
                · exact hDone.out j hj (by omega)
              case measure => simp [intOf]; omega
            · have hd : decide (xs = xs.map bnd) = false := decide_eq_false hbd
              have hno : Hid (decide (skOk R adds) = false) := decide_eq_false (fun h => hbd (bnd_id.2 (by rw [← HX.out]; exact h.2.2.2 _ (List.getElem_mem hiR))))
              clear hbd
              go_wp2_with (first | (refine wpList_copy rfl _ _ _ _ rfl 2 Try.underlying116 size2 b4 (i * 16) 16 16 fb foff c' xs h16 rfl rfl hrange hk4 (by rw [hfl]; omega) ?_; intro w5 hO5 hK5; rw [flat_put 16 _ hmem.out i (by rw [hml.out]; exact hlt) xs h16, e5.out] at hK5) | (refine wpList_load_arr rfl 132 _ rfl b4 (i * 16) 16 rfl _ Try.underlying132 rfl size52 hK5 (by rw [hfl1]; omega) xs hch.out ?_) | (go_at_call 173; refine (right_any xs h16 _).mono ?_; rintro e w6 ⟨rfl, hB6⟩; have hK6 := hK5.below hB6 hK5.lt; have hk26 := (hk2.of (hO5.2.1 _ hne)).below hB6 (by rw [hO5.1]; exact hk2.lt)) | (refine wpList_load_arr rfl 134 _ rfl b4 0 64 rfl _ Try.underlying134 rfl size54 hK6 (by omega) _ (all64 hfl1) ?_) | (refine wpList_store_arr rfl 134 _ _ rfl b2 0 _ rfl rfl (by rw [hfl1]; exact size54) hk26 (by rw [hfl1, z64_len]; omega) ?_; intro w7 hO7 hK7; rw [put_all _ _ (by rw [hfl1]; exact z64_len)] at hK7))
              exact row_ret2 rfl rfl rfl hK7 Try.underlying134 (by rw [hfl1]; exact size54) rfl ⟨_, by rw [hno.out]; rfl, hfl1, fun h => absurd h (of_decide_eq_false hno.out), ((hBr.trans (hO5.2.2 _ hlo4)).trans (hB6.mono (by rw [hO5.1]; exact hBr.size))).trans (hO7.2.2 _ hlo2)⟩
          · have hno : Hid (decide (skOk R adds) = false) := decide_eq_false (fun h => h16 (by rw [← HX.out]; exact h.2.2.1 _ (List.getElem_mem hiR)))
            have h16i : ¬ ((xs.length : Int) = 16) := by omega
            go_wp2_with (first | (refine wpList_load_arr rfl 134 _ rfl b4 0 64 rfl _ Try.underlying134 rfl size54 hk4 (by omega) _ (all64 hfl) ?_) | (refine wpList_store_arr rfl 134 _ _ rfl b2 0 _ rfl rfl (by rw [hfl]; exact size54) hk2 (by rw [hfl, z64_len]; omega) ?_; intro w7 hO7 hK7; rw [put_all _ _ (by rw [hfl]; exact z64_len)] at hK7))
            exact row_ret2 rfl rfl rfl hK7 Try.underlying134 (by rw [hfl]; exact size54) rfl ⟨_, by rw [hno.out]; rfl, hfl, fun h => absurd h (of_decide_eq_false hno.out), hBr.trans (hO7.2.2 _ hlo2)⟩
        · obtain rfl : i = 4 := by omega
          have hyes : skOk R adds := ⟨h4'.out, ha, fun ys hy => by obtain ⟨j, hj, rfl⟩ := List.getElem_of_mem hy; exact (hdone j hj (by rw [h4'.out] at hj; exact hj)).1, fun ys hy => by obtain ⟨j, hj, rfl⟩ := List.getElem_of_mem hy; exact (hdone j hj (by rw [h4'.out] at hj; exact hj)).2⟩
          have hfl := hyes.four.len
          rw [mix_all R zeros 4 (by rw [h4'.out]; omega) (by decide)] at hk4
          have hYes : Hid (skOk R adds) := hyes
          clear hyes hdone
          go_wp2_with (first | (refine wpList_load_arr rfl 134 _ rfl b4 0 64 rfl _ Try.underlying134 rfl size54 hk4 (by omega) _ (all64 hfl) ?_) | (refine wpList_store_arr rfl 134 _ _ rfl b2 0 _ rfl rfl (by rw [hfl]; exact size54) hk2 (by rw [hfl, z64_len]; omega) ?_; intro w7 hO7 hK7; rw [put_all _ _ (by rw [hfl]; exact z64_len)] at hK7))
          exact row_ret2 rfl rfl rfl hK7 Try.underlying134 (by rw [hfl]; exact size54) rfl ⟨_, by rw [decide_eq_true hYes.out]; rfl, hfl, fun _ => rfl, hBr.trans (hO7.2.2 _ hlo2)⟩
    · have hno : Hid (decide (skOk R adds) = false) := decide_eq_false (fun h => ha h.2.1)
      have h4' : ((R.length : Int) = 4) := by omega
      by_cases hneg : adds < 0
      · go_enter Try.func118, Try.ntmps118
        go_wp2_with (first | (refine wpList_box_v rfl 34 _ rfl [.slice a R.length cap, .int .i64 adds] rfl ?_; intro b1 w1 hb1 hw1 hB1 hV1) | (clear m0; refine wpList_alloc_arr rfl 134 rfl _ zero54' ?_; intro b2 w2 hb2 hw2 hB2 hK2; replace hV1 := hV1.below hB2 hw1) | (refine wpList_alloc_arr rfl 134 rfl _ zero54' ?_; intro b4 w4 hb4 hw4 hB4 hK4; replace hV1 := hV1.below hB4 (by have := hB2.size; omega); replace hK2 := hK2.below hB4 (by omega); have hc0 := hV1.cell 0 (by simp); have hc1 := hV1.cell 1 (by simp); simp only [List.getElem_cons_zero, List.getElem_cons_succ] at hc0 hc1; have hB : Below w.heap.size w w4 := (hB1.trans (hB2.mono hB1.size)).trans (hB4.mono (by have := hB1.size; have := hB2.size; omega))) | (refine wpList_load_arr rfl 134 _ rfl b4 0 64 rfl _ Try.underlying134 rfl size54 hK4 (by rw [z64_len]; omega) _ (all64 z64_len) ?_) | (refine wpList_store_arr rfl 134 _ _ rfl b2 0 z64 rfl rfl (by rw [z64_len]; exact size54) hK2 (by omega) ?_; intro w5 hO5 hK5; rw [put_all _ _ rfl] at hK5))
        exact row_ret2 rfl rfl rfl hK5 Try.underlying134 (by rw [z64_len]; exact size54) rfl ⟨z64, by rw [hno.out]; rfl, z64_len, fun h => absurd h (of_decide_eq_false hno.out), hB.trans (hO5.2.2 _ (by have := hB1.size; omega))⟩
      · have hbig : 160 ≤ adds := by omega
        go_enter Try.func118, Try.ntmps118
        go_wp2_with (first | (refine wpList_box_v rfl 34 _ rfl [.slice a R.length cap, .int .i64 adds] rfl ?_; intro b1 w1 hb1 hw1 hB1 hV1) | (clear m0; refine wpList_alloc_arr rfl 134 rfl _ zero54' ?_; intro b2 w2 hb2 hw2 hB2 hK2; replace hV1 := hV1.below hB2 hw1) | (refine wpList_alloc_arr rfl 134 rfl _ zero54' ?_; intro b4 w4 hb4 hw4 hB4 hK4; replace hV1 := hV1.below hB4 (by have := hB2.size; omega); replace hK2 := hK2.below hB4 (by omega); have hc0 := hV1.cell 0 (by simp); have hc1 := hV1.cell 1 (by simp); simp only [List.getElem_cons_zero, List.getElem_cons_succ] at hc0 hc1; have hB : Below w.heap.size w w4 := (hB1.trans (hB2.mono hB1.size)).trans (hB4.mono (by have := hB1.size; have := hB2.size; omega))) | (refine wpList_load_arr rfl 134 _ rfl b4 0 64 rfl _ Try.underlying134 rfl size54 hK4 (by rw [z64_len]; omega) _ (all64 z64_len) ?_) | (refine wpList_store_arr rfl 134 _ _ rfl b2 0 z64 rfl rfl (by rw [z64_len]; exact size54) hK2 (by omega) ?_; intro w5 hO5 hK5; rw [put_all _ _ rfl] at hK5))
        exact row_ret2 rfl rfl rfl hK5 Try.underlying134 (by rw [z64_len]; exact size54) rfl ⟨z64, by rw [hno.out]; rfl, z64_len, fun h => absurd h (of_decide_eq_false hno.out), hB.trans (hO5.2.2 _ (by have := hB1.size; omega))⟩
  · have hno : Hid (decide (skOk R adds) = false) := decide_eq_false (fun h => h4 h.1)
    have h4' : ¬ ((R.length : Int) = 4) := by omega
    go_enter Try.func118, Try.ntmps118
    go_wp2_with (first | (refine wpList_box_v rfl 34 _ rfl [.slice a R.length cap, .int .i64 adds] rfl ?_; intro b1 w1 hb1 hw1 hB1 hV1) | (clear m0; refine wpList_alloc_arr rfl 134 rfl _ zero54' ?_; intro b2 w2 hb2 hw2 hB2 hK2; replace hV1 := hV1.below hB2 hw1) | (refine wpList_alloc_arr rfl 134 rfl _ zero54' ?_; intro b4 w4 hb4 hw4 hB4 hK4; replace hV1 := hV1.below hB4 (by have := hB2.size; omega); replace hK2 := hK2.below hB4 (by omega); have hc0 := hV1.cell 0 (by simp); have hc1 := hV1.cell 1 (by simp); simp only [List.getElem_cons_zero, List.getElem_cons_succ] at hc0 hc1; have hB : Below w.heap.size w w4 := (hB1.trans (hB2.mono hB1.size)).trans (hB4.mono (by have := hB1.size; have := hB2.size; omega))) | (refine wpList_load_arr rfl 134 _ rfl b4 0 64 rfl _ Try.underlying134 rfl size54 hK4 (by rw [z64_len]; omega) _ (all64 z64_len) ?_) | (refine wpList_store_arr rfl 134 _ _ rfl b2 0 z64 rfl rfl (by rw [z64_len]; exact size54) hK2 (by omega) ?_; intro w5 hO5 hK5; rw [put_all _ _ rfl] at hK5))
    exact row_ret2 rfl rfl rfl hK5 Try.underlying134 (by rw [z64_len]; exact size54) rfl ⟨z64, by rw [hno.out]; rfl, z64_len, fun h => absurd h (of_decide_eq_false hno.out), hB.trans (hO5.2.2 _ (by have := hB1.size; omega))⟩

end Go.Proofs.Ytapchjkiiifhdaa.sk
/- Plain facts on numbers for chapter 1 (bits): the lowest k bits of a number in the other order, its bounds, the greatest power of two. No Go in sight. -/
namespace Go.Proofs.Ytapchjkiiifhdaa
open Go.RowKit

/-- the lowest k bits of n, in the other order -/
def rv (n : Int) : Nat → Int
  | 0 => 0
  | k + 1 => 2 * rv n k + n / 2 ^ k % 2

theorem rv_bd (n : Int) (k : Nat) : 0 ≤ rv n k ∧ rv n k < 2 ^ k := by
  induction k with
  | zero => simp [rv]
  | succ k ih =>
    have hp : (2 : Int) ^ (k + 1) = 2 * 2 ^ k := by rw [Int.pow_succ]; omega
    simp only [rv]
    rw [hp]
    omega

theorem pow_le16 (k : Nat) (h : k ≤ 16) : (2 : Int) ^ k ≤ 65536 := by
  have : (2 : Nat) ^ k ≤ 2 ^ 16 := Nat.pow_le_pow_right (by decide) h
  have e : ((2 ^ k : Nat) : Int) = (2 : Int) ^ k := by simp
  omega

theorem pow_pos (k : Nat) : (1 : Int) ≤ 2 ^ k := by
  have : 0 < (2 : Nat) ^ k := Nat.two_pow_pos k
  have e : ((2 ^ k : Nat) : Int) = (2 : Int) ^ k := by simp
  omega

theorem rv_16 (n : Int) (k : Nat) (h : k ≤ 16) : 0 ≤ rv n k ∧ rv n k ≤ 65535 := by
  have a := rv_bd n k
  have b := pow_le16 k h
  omega

theorem wraps_i64 (n : Int) (h₀ : 0 ≤ n) (h₁ : n < 2 ^ 63) : IntKind.i64.wrap n = n := by rw [IntKind.wrap_i64]; omega

theorem and1_i64 (x : Int) (h₀ : 0 ≤ x) (h₁ : x ≤ 9223372036854775807) : bits .and .i64 x 1 = x % 2 :=
  bits_mask .i64 63 (by decide) wraps_i64 1 (by decide) x h₀ (by omega)

theorem or_even_i64 (x y : Int) (h₀ : 0 ≤ x) (h₁ : x % 2 = 0) (h₂ : x ≤ 9223372036854775807) (h₃ : 0 ≤ y) (h₄ : y ≤ 1) : bits .or .i64 x y = x + y :=
  bits_join .i64 63 (by decide) wraps_i64 1 x y h₀ (by omega) (by omega) h₃ (by omega) (by omega)

/-- what Turned answers -/
def turn (n b : Int) : Int := if 1 ≤ b ∧ b ≤ 16 ∧ 0 ≤ n ∧ n < 2 ^ b.toNat then rv n b.toNat else -1

end Go.Proofs.Ytapchjkiiifhdaa
/- Contracts of Hash, the model's and the program's: each answers as a plain fold over the bytes, and the world stays. -/
namespace Go.Proofs.Ytapchjkiiifhdaa.hash
open Go.ChangeShapes Go.WideShapes Go.ChangeAt Go.RowKit
set_option linter.unusedVariables false

theorem ret_int {k : IntKind} {a b : Int} (h : a = b) : Ending.returned (.int k a) = .returned (.int k b) := by rw [h]
def step (h : Int) (c : UInt8) : Int := (257 * h + c.toNat + 1) % 65521
def run (l : List UInt8) : Int := l.foldl step 5
theorem run_snoc (l : List UInt8) (c : UInt8) : run (l ++ [c]) = (257 * run l + c.toNat + 1) % 65521 := by
  unfold run; rw [List.foldl_append]; rfl
theorem run_bd (l : List UInt8) : 0 ≤ run l ∧ run l ≤ 65520 := by
  rcases l.eq_nil_or_concat with h | ⟨l', c, h⟩
  · subst h; decide
  · subst h; rw [List.concat_eq_append, run_snoc]; omega
theorem take_snoc (s : ByteArray) (k : Nat) (h : k < s.size) : s.data.toList.take (k + 1) = s.data.toList.take k ++ [s[k]] := by
  rw [List.take_succ_eq_append_getElem (by simpa using h)]; rfl
def hashOf (s : ByteArray) : Int := run s.data.toList % 32768
theorem hashOf_bd (s : ByteArray) : 0 ≤ hashOf s ∧ hashOf s ≤ 32767 := by
  unfold hashOf
  have := run_bd s.data.toList
  omega
theorem u8_le (c : UInt8) : (c.toNat : Int) ≤ 255 := by have := c.toNat_lt; omega

theorem spec_any (s : ByteArray) (w : World) (hs : s.size ≤ maxLen) :
    Calls Try.prog 192 #[.string s] w fun e w' => e = .returned (.int .i64 (hashOf s)) ∧ w' = w := by
  unfold maxLen at hs
  go_enter Try.func192, Try.ntmps192
  go_wp2
  go_loop [3, 4] (fun o i => ∃ k : Nat, k ≤ s.size ∧ i = .int .i64 k ∧ o = .int .i64 (run (s.data.toList.take k))) (fun _ i => s.size - (intOf i).toNat)
  case atStart => exact ⟨0, Nat.zero_le _, rfl, rfl⟩
  case round =>
    obtain ⟨k, hk, rfl, rfl⟩ := hrel
    have hb := run_bd (s.data.toList.take k)
    by_cases hlt : k < s.size
    · have HS : Hid (run (s.data.toList.take (k + 1)) = (257 * run (s.data.toList.take k) + s[k].toNat + 1) % 65521) := by
        rw [take_snoc s k hlt, run_snoc]; rfl
      have hc := u8_le s[k]
      go_wp2
      go_round
      case rel => exact ⟨k + 1, by omega, by go_num, by rw [HS.out]⟩
      case measure => simp [intOf]; omega
    · go_wp2
      go_ret
      exact ⟨ret_int (by unfold hashOf; rw [List.take_of_length_le (by simp; omega)]), rfl⟩

theorem impl_any (s : ByteArray) (w : World) (hs : s.size ≤ maxLen) :
    Calls Try.prog 174 #[.string s] w fun e w' => e = .returned (.int .i64 (hashOf s)) ∧ w' = w := by
  unfold maxLen at hs
  go_enter Try.func174, Try.ntmps174
  go_wp2
  go_loop [3, 7] (fun o i => ∃ k : Nat, k ≤ s.size ∧ i = .int .i64 k ∧ o = .int .i64 (run (s.data.toList.take k))) (fun _ i => s.size - (intOf i).toNat)
  case atStart => exact ⟨0, Nat.zero_le _, rfl, rfl⟩
  case round =>
    obtain ⟨k, hk, rfl, rfl⟩ := hrel
    have hb := run_bd (s.data.toList.take k)
    by_cases hlt : k < s.size
    · have HS : Hid (run (s.data.toList.take (k + 1)) = (257 * run (s.data.toList.take k) + s[k].toNat + 1) % 65521) := by
        rw [take_snoc s k hlt, run_snoc]; rfl
      have hc := u8_le s[k]
      go_wp2
      go_round
      case rel => exact ⟨k + 1, by omega, by go_num, by rw [HS.out]⟩
      case measure => simp [intOf]; omega
    · go_wp2
      go_ret
      exact ⟨ret_int (by unfold hashOf; rw [List.take_of_length_le (by simp; omega)]), rfl⟩

end Go.Proofs.Ytapchjkiiifhdaa.hash
/- Contracts of PlaceOf, the model's and the program's: each answers as one plain function of the key and the row, and only new memory is made. -/
namespace Go.Proofs.Ytapchjkiiifhdaa.place
open Go.ChangeShapes Go.WideShapes Go.ChangeAt Go.RowKit
set_option linter.unusedVariables false

/-- the byte that row r puts behind the key -/
def tail (r : Int) : ByteArray := ⟨#[UInt8.ofNat (97 + r).toNat]⟩
def placeOf (s : ByteArray) (r : Int) : Int := hash.hashOf (s ++ tail r) % 16
set_option maxRecDepth 100000 in
theorem placeOf_bd (s : ByteArray) (r : Int) : 0 ≤ placeOf s r ∧ placeOf s r < 16 := by unfold placeOf; omega

/-- at most one new row was made -/
def One (w w' : World) : Prop := w' = w ∨ ∃ c t, w' = w.alloc (.cells c t)
set_option maxRecDepth 100000 in
theorem One.below {w w' : World} (h : One w w') : Below w.heap.size w w' := by
  rcases h with rfl | ⟨c, t, rfl⟩
  · exact Below.refl _ _
  · exact (Below.refl _ _).alloc (Nat.le_refl _) _
set_option maxRecDepth 100000 in
theorem One.grown {W w w' : World} (g : Grown W w) (h : One w w') : Grown W w' := by
  rcases h with rfl | ⟨c, t, rfl⟩
  · exact g
  · exact g.alloc c t

set_option maxRecDepth 100000 in
theorem in_yes (x lo hi : Int) (h1 : lo ≤ x) (h2 : x ≤ hi) (w : World) : Calls Try.prog 91 #[.int .i64 x, .int .i64 lo, .int .i64 hi] w fun e w' => e = .returned (.bool true) ∧ w' = w := by
  go_enter Try.func91, Try.ntmps91
  go_wp2
  go_ret
  exact ⟨rfl, rfl⟩
set_option maxRecDepth 100000 in
theorem in_any (x lo hi : Int) (w : World) : Calls Try.prog 91 #[.int .i64 x, .int .i64 lo, .int .i64 hi] w fun e w' => e = .returned (.bool (decide (lo ≤ x ∧ x ≤ hi))) ∧ w' = w := by
  by_cases h1 : lo ≤ x
  · by_cases h2 : x ≤ hi
    · refine (in_yes x lo hi h1 h2 w).mono ?_
      rintro e w' ⟨rfl, rfl⟩
      exact ⟨by simp [h1, h2], rfl⟩
    · go_enter Try.func91, Try.ntmps91
      go_wp2
      go_ret
      exact ⟨by simp; omega, rfl⟩
  · go_enter Try.func91, Try.ntmps91
    go_wp2
    go_ret
    exact ⟨by simp; omega, rfl⟩

set_option maxRecDepth 100000 in
theorem tail_size (r : Int) : (tail r).size = 1 := rfl
set_option maxRecDepth 100000 in
theorem conv (r : Int) (h0 : 0 ≤ r) (h1 : r ≤ 3) (w : World) : (convert 54 9 (Value.slice (some { block := w.heap.size, off := 0 }) 1 1)).run Try.prog (w.alloc (Obj.cells #[Value.int IntKind.u8 (97 + r)] 5)) = .ok (.string (tail r)) (w.alloc (Obj.cells #[Value.int IntKind.u8 (97 + r)] 5)) :=
  run_convert_bytes_back (P := Try.prog) (w.alloc (Obj.cells #[Value.int IntKind.u8 (97 + r)] 5)) 54 9 5 ⟨w.heap.size, 0, none⟩ 1 [UInt8.ofNat (97 + r).toNat] Try.underlying54 Try.underlying5 Try.underlying9 (fun j hj => by
    have hj0 : j = 0 := by simpa using hj
    subst hj0
    have e : (((UInt8.ofNat (97 + r).toNat).toNat : Nat) : Int) = 97 + r := by
      rw [UInt8.toNat_ofNat']; omega
    simp only [List.getElem_cons_zero, e]
    show (w.alloc _).cell? ⟨w.heap.size, 0, none⟩ = _
    rw [cell_of_row _ _ 0 _ _ _ (heap_alloc_new w _)]; rfl)

set_option maxRecDepth 100000 in
theorem spec_in (s : ByteArray) (r : Int) (h0 : 0 ≤ r) (h1 : r ≤ 3) (hs : s.size ≤ 1048576) (w : World) :
    Calls Try.prog 158 #[.string s, .int .i64 r] w fun e w' => e = .returned (.int .i64 (placeOf s r)) ∧ One w w' := by
  have hcv := conv r h0 h1 w
  have ht := tail_size r
  have hb := hash.hashOf_bd (s ++ tail r)
  go_enter Try.func158, Try.ntmps158
  go_wp2_with (first | (go_at_call 91; refine (in_yes _ _ _ (by omega) (by omega) _).mono ?_; rintro e w' ⟨rfl, rfl⟩) | (go_at_call 192; refine (hash.spec_any _ _ (by rw [ByteArray.size_append, ht]; unfold maxLen; omega)).mono ?_; rintro e w' ⟨rfl, rfl⟩))
  go_ret
  exact ⟨rfl, .inr ⟨_, _, rfl⟩⟩

set_option maxRecDepth 100000 in
theorem impl_in (s : ByteArray) (r : Int) (h0 : 0 ≤ r) (h1 : r ≤ 3) (hs : s.size ≤ 1048576) (w : World) :
    Calls Try.prog 119 #[.string s, .int .i64 r] w fun e w' => e = .returned (.int .i64 (placeOf s r)) ∧ One w w' := by
  have hcv := conv r h0 h1 w
  have ht := tail_size r
  have hb := hash.hashOf_bd (s ++ tail r)
  go_enter Try.func119, Try.ntmps119
  go_wp2_with (first | (go_at_call 174; refine (hash.impl_any _ _ (by rw [ByteArray.size_append, ht]; unfold maxLen; omega)).mono ?_; rintro e w' ⟨rfl, rfl⟩))
  go_ret
  exact ⟨rfl, .inr ⟨_, _, rfl⟩⟩

def placeAns (s : ByteArray) (r : Int) : Int := if 0 ≤ r ∧ r ≤ 3 then placeOf s r else -1
set_option maxRecDepth 100000 in
theorem spec_any (s : ByteArray) (r : Int) (hs : s.size ≤ 1048576) (w : World) :
    Calls Try.prog 158 #[.string s, .int .i64 r] w fun e w' => e = .returned (.int .i64 (placeAns s r)) ∧ One w w' := by
  by_cases h : 0 ≤ r ∧ r ≤ 3
  · refine (spec_in s r h.1 h.2 hs w).mono ?_
    rintro e w' ⟨rfl, hb⟩
    exact ⟨by simp [placeAns, h], hb⟩
  · have hd : decide (0 ≤ r ∧ r ≤ 3) = false := by simpa using h
    have HP : Hid (placeAns s r = -1) := by simp [Hid, placeAns, h]
    go_enter Try.func158, Try.ntmps158
    go_wp2_with (first | (go_at_call 91; refine (in_any _ _ _ _).mono ?_; rintro e w' ⟨rfl, rfl⟩))
    go_ret
    exact ⟨by rw [HP.out]; rfl, .inl rfl⟩
set_option maxRecDepth 100000 in
theorem impl_any (s : ByteArray) (r : Int) (hs : s.size ≤ 1048576) (w : World) :
    Calls Try.prog 119 #[.string s, .int .i64 r] w fun e w' => e = .returned (.int .i64 (placeAns s r)) ∧ One w w' := by
  by_cases h : 0 ≤ r ∧ r ≤ 3
  · refine (impl_in s r h.1 h.2 hs w).mono ?_
    rintro e w' ⟨rfl, hb⟩
    exact ⟨by simp [placeAns, h], hb⟩
  · have HP : Hid (placeAns s r = -1) := by simp [Hid, placeAns, h]
    by_cases h0 : r < 0
    · go_enter Try.func119, Try.ntmps119
      go_wp2
      go_ret
      exact ⟨by rw [HP.out]; rfl, .inl rfl⟩
    · have h3 : 4 ≤ r := by omega
      go_enter Try.func119, Try.ntmps119
      go_wp2
      go_ret
      exact ⟨by rw [HP.out]; rfl, .inl rfl⟩

end Go.Proofs.Ytapchjkiiifhdaa.place
/- Contracts of the program's SketchOk, NewSketch, Added and Estimate. -/
namespace Go.Proofs.Ytapchjkiiifhdaa.sk
open Go.ChangeShapes Go.WideShapes Go.ChangeAt Go.RowKit
set_option linter.unusedVariables false

set_option maxRecDepth 100000 in
theorem Own.form {w : World} {lo hi : Nat} {v : Value} {R : List (List Int)} (h : Own w lo hi v R) : ∃ a n c, v = .slice a n c := by
  obtain ⟨-, a, cap, -, -, -, rfl, -⟩ := h
  exact ⟨a, _, cap, rfl⟩
set_option maxRecDepth 100000 in
theorem Rd.form {w : World} {lo hi : Nat} {v : Value} {R : List (List Int)} (h : Rd w lo hi v R) : ∃ a n c, v = .slice a n c := by
  obtain ⟨-, a, cap, rfl, -⟩ := h
  exact ⟨a, _, cap, rfl⟩
set_option maxRecDepth 100000 in
/-- a struct is stored into its variable -/
theorem wpList_store_v {P : Program} {ops : Array Oper} {rest : List Oper} {o : Oper} {a : Act} {w : World} {Q : Exit → Act → World → Prop} (hgd : o.guard = none) (t : TypeId) (x y : Operand) (ho : o.op = .store t x y) (b : Nat) (ys : List Value) (hx : a.eval x = .pointer (some ⟨b, 0, none⟩)) (hy : a.eval y = .agg ys.toArray)
    (hi : (P.info? t).map (·.size) = some ys.length) {t' : TypeId} {vs : List Value} (hb : VBlk w b t' vs) (hn : ys.length = vs.length) (h1 : ∀ v ∈ ys, v.oneCell' = true)
    (h : ∀ w', Only b w w' → VBlk w' b t' ys → wpList P ops Q rest (a.put o.dst undef) w') : wpList P ops Q (o :: rest) a w := by
  refine wpList_store_mid hgd t x y ho b 0 ys.toArray hx hy ?_ (by rw [hi]; simp) (all_oneCell_toArray h1) ?_
  · rw [List.size_toArray, hn]; exact hb.there
  · refine h _ (only_setCells _ _ _ _) ?_
    unfold VBlk
    rw [heap_setCells b t' _ 0 w vs hb (by simp [hn])]
    simp [hn]

set_option maxRecDepth 100000 in
theorem row_retv {fn : Func} {p : Tmp} {ty : TypeId} (h : fn.results = #[.cell p ty]) {R : Ending → World → Prop} {a : Act} {w : World} {b : Nat} {t : TypeId} {vs : List Value} {fs : Array Field}
    (hp : a.tmps.getD p undef = .pointer (some ⟨b, 0, none⟩)) (hb : VBlk w b t vs) (hu : Try.prog.underlying ty = some (.struct fs))
    (hi : (Try.prog.info? ty).map (·.size) = some vs.length) (hdf : a.defers = []) (hR : R (.returned (.agg vs.toArray)) w) : bodyPost Try.prog fn R .ret a w :=
  bodyPost_ret (results_cell_row h a.tmps w b t _ _ _ hp hb hu rfl (by rw [hi]; simp)) hdf hR
set_option maxRecDepth 100000 in
theorem size27 : (Try.prog.info? 34).map (·.size) = some 2 := by kernel_rfl
set_option maxRecDepth 100000 in
theorem zero27 (w : World) : (zeroValue 34).run Try.prog w = .ok (.agg [Value.slice none 0 0, .int .i64 0].toArray) w := Try.zeroValue34 w

set_option maxRecDepth 100000 in
theorem implNewSketch_any (w : World) :
    Calls Try.prog 75 #[] w fun e w' => ∃ v, e = .returned (skv v 0) ∧ Own w' w.heap.size w'.heap.size v zeros ∧ Below w.heap.size w w' := by
  go_enter Try.func75, Try.ntmps75
  go_wp2_with (first | (refine wpList_alloc_v rfl 34 rfl _ zero27 ?_; intro b1 w1 hb1 hw1 hB1 hV1) | (go_at_call 129; change Calls Try.prog _ #[arr zeros.flatten] _ _; refine (lists_any zeros zeros_four _).mono ?_; rintro e w2 ⟨v, rfl, hown, hB2⟩; obtain ⟨va, vn, vc, rfl⟩ := hown.form; replace hV1 := hV1.below hB2 hw1) | (refine wpList_store_v rfl 34 _ _ rfl b1 [.slice va vn vc, .int .i64 0] rfl rfl size27 hV1 rfl (by simp [Value.oneCell']) ?_; intro w3 hO3 hV3))
  have h1 := hB1.size
  refine row_retv rfl rfl hV3 Try.underlying34 size27 rfl ⟨_, rfl, (hown.keep (fun k h2 h3 => hO3.2.1 k (by omega)) (by rw [hO3.1]; exact Nat.le_refl _)).wide h1 (by rw [hO3.1]; exact Nat.le_refl _) (Nat.le_refl _), (hB1.trans (hB2.mono h1)).trans (hO3.2.2 _ hb1)⟩

set_option maxRecDepth 100000 in
theorem wrapI (x : Int) (h0 : 0 ≤ x) (h1 : x ≤ 1000000) : IntKind.i64.wrap x = x := by rw [IntKind.wrap_i64]; omega
set_option maxRecDepth 100000 in
theorem step_store_v {P : Program} {ops : Array Oper} {o : Oper} {a : Act} {w : World} {Q : Exit → Act → World → Prop} {K : Act → World → Prop} {E : Prop} (hgd : o.guard = none) (t : TypeId) (x y : Operand) (ho : o.op = .store t x y) (b : Nat) (ys : List Value) (hx : a.eval x = .pointer (some ⟨b, 0, none⟩)) (hy : a.eval y = .agg ys.toArray)
    (hi : (P.info? t).map (·.size) = some ys.length) {t' : TypeId} {vs : List Value} (hb : VBlk w b t' vs) (hn : ys.length = vs.length) (h1 : ∀ v ∈ ys, v.oneCell' = true)
    (h : ∀ w', Only b w w' → VBlk w' b t' ys → K (a.put o.dst undef) w') : if Region.wanted o (yielded ops a.tmps) = true then Oper.wp P o a w K Q else E := by
  have hw : Region.wanted o (yielded ops a.tmps) = true := by simp [Region.wanted, hgd]
  rw [if_pos hw]
  refine wp_store_mid t x y ho b 0 ys.toArray hx hy ?_ (by rw [hi]; simp) (all_oneCell_toArray h1) ?_
  · rw [List.size_toArray, hn]; exact hb.there
  · refine h _ (only_setCells _ _ _ _) ?_
    unfold VBlk
    rw [heap_setCells b t' _ 0 w vs hb (by simp [hn])]
    simp [hn]

/-- the rows behind one more key -/
def addR (key : ByteArray) (R : List (List Int)) : List (List Int) := R.mapIdx fun i xs => raise xs (place.placeOf key i).toNat
def halfR (R : List (List Int)) : List (List Int) := R.map (·.map half)
set_option maxRecDepth 100000 in
theorem addR_four {key : ByteArray} {R : List (List Int)} (h : Four R) : Four (addR key R) := by
  refine ⟨by simp [addR, h.1], fun xs hx => ?_⟩
  obtain ⟨i, hi, rfl⟩ := List.getElem_of_mem hx
  simp only [addR, List.getElem_mapIdx, raise_len]
  exact h.2 _ (List.getElem_mem _)
set_option maxRecDepth 100000 in
theorem bnd_bd (x : Int) : 0 ≤ bnd x ∧ bnd x ≤ 15 := by unfold bnd; omega
set_option maxRecDepth 100000 in
theorem raise_small (xs : List Int) (p : Nat) : ∀ x ∈ raise xs p, 0 ≤ x ∧ x ≤ 15 := by
  intro x hx
  obtain ⟨y, -, rfl⟩ := List.mem_map.1 hx
  exact bnd_bd y
set_option maxRecDepth 100000 in
theorem addR_small (key : ByteArray) (R : List (List Int)) : Small (addR key R) := fun xs hx => by
  obtain ⟨i, hi, rfl⟩ := List.getElem_of_mem hx
  simp only [addR, List.getElem_mapIdx]
  exact raise_small _ _
set_option maxRecDepth 100000 in
theorem halfR_four {R : List (List Int)} (h : Four R) : Four (halfR R) := ⟨by simp [halfR, h.1], by simp [halfR]; intro xs hx; exact h.2 xs hx⟩
def addedR (R : List (List Int)) (adds : Int) (key : ByteArray) : List (List Int) := if skOk R adds then (if adds = 159 then halfR (addR key R) else addR key R) else []
def addedN (R : List (List Int)) (adds : Int) : Int := if skOk R adds then (if adds = 159 then 0 else adds + 1) else 0

set_option maxRecDepth 100000 in
theorem implAdded_any (R : List (List Int)) (adds : Int) (key : ByteArray) (hk : key.size ≤ 1048576) (v : Value) (w : World) (hi : Nat) (hh : hi ≤ w.heap.size) (hv : Rd w 0 hi v R) :
    Calls Try.prog 83 #[skv v adds, .string key] w fun e w' => ∃ v', e = .returned (skv v' (addedN R adds)) ∧ Own w' w.heap.size w'.heap.size v' (addedR R adds key) ∧ Below w.heap.size w w' := by
  by_cases hok : skOk R adds
  · have hd : decide (skOk R adds) = true := decide_eq_true hok
    have hR4 := hok.four
    have hsm := hok.small
    have had := hok.2.1
    have hl := hR4.len
    have hOk : Hid (skOk R adds) := hok
    clear hok
    obtain ⟨T, hT⟩ : ∃ T, Hid (T = addR key R) := ⟨_, rfl⟩
    have hT4 : Four T := by rw [hT.out]; exact addR_four hR4
    have hTs : Small T := by rw [hT.out]; exact addR_small key R
    have hlT := hT4.len
    go_enter Try.func83, Try.ntmps83
    go_wp2_with (first | (refine wpList_box_v rfl 34 _ rfl [v, .int .i64 adds] rfl ?_; intro b1 w1 hb1 hw1 hB1 hV1; have hv1 := hv.below hB1 hh) | (refine wpList_alloc_v rfl 34 rfl _ zero27 ?_; intro b2 w2 hb2 hw2 hB2 hV2; replace hV1 := hV1.below hB2 hw1; have hc0 := hV1.cell 0 (by simp); have hc1 := hV1.cell 1 (by simp); simp only [List.getElem_cons_zero, List.getElem_cons_succ] at hc0 hc1; have hv2 := hv1.below hB2 (by have := hB1.size; omega)) | (go_at_call 118; refine (rowsOf_any R adds v _ hi (by have := hB1.size; have := hB2.size; omega) hv2).mono ?_; rintro e w3 ⟨fl, rfl, hfl, hfl2, hB3⟩; obtain rfl := hfl2 hOk.out; replace hV2 := hV2.below hB3 hw2; replace hV1 := hV1.below hB3 (by have := hB2.size; omega)) | (refine wpList_alloc_arr rfl 134 rfl _ zero54' ?_; intro b4 w4 hb4 hw4 hB4 hK4; replace hV2 := hV2.below hB4 (by have := hB3.size; omega); replace hV1 := hV1.below hB4 (by have := hB3.size; have := hB2.size; omega)) | (refine wpList_store_arr rfl 134 _ _ rfl b4 0 R.flatten rfl rfl (by rw [hl]; exact size54) hK4 (by rw [hl, z64_len]; omega) ?_; intro w5 hO5 hK5; have hV15 := hV1.of (hO5.2.1 b1 (by have := hB3.size; have := hB2.size; omega)); have hV25 := hV2.of (hO5.2.1 b2 (by have := hB3.size; omega)); rw [put_all _ _ (by rw [hl, z64_len])] at hK5) | (refine wpList_load_arr rfl 134 _ rfl b4 0 64 rfl _ Try.underlying134 rfl size54 hK5 (by omega) R.flatten (all64 hl) ?_))
    have h1 := hB1.size
    have h2 := hB2.size
    have h3 := hB3.size
    have h4 := hB4.size
    have h5 := hO5.1
    have hB : Below w.heap.size w w5 := (((hB1.trans (hB2.mono h1)).trans (hB3.mono (by omega))).trans (hB4.mono (by omega))).trans (hO5.2.2 _ (by omega))
    have n14 : b1 ≠ b4 := by omega
    have n24 : b2 ≠ b4 := by omega
    have hlo2 : w.heap.size ≤ b2 := by omega
    have hlo4 : w.heap.size ≤ b4 := by omega
    go_loopw [18] (fun v' wr => ∃ i : Nat, i ≤ 4 ∧ v' = .int .i64 i ∧ Blk wr b4 134 (mix T R i).flatten ∧ VBlk wr b1 34 [v, .int .i64 adds] ∧ VBlk wr b2 34 [.slice none 0 0, .int .i64 0] ∧ Below w.heap.size w wr) (fun v' _ => 4 - (intOf v').toNat)
    case atStart => exact ⟨0, by omega, rfl, by rw [mix_zero]; exact hK5, hV15, hV25, hB⟩
    case round =>
      obtain ⟨i, hi4, rfl, hk4, hv1r, hv2r, hBr⟩ := hrel
      by_cases hlt : i < 4
      · have hiR : i < R.length := by rw [hR4.1]; exact hlt
        have hiT : i < T.length := by rw [hT4.1]; exact hlt
        obtain ⟨xs, hxs⟩ : ∃ xs, R[i] = xs := ⟨_, rfl⟩
        have hx16 : xs.length = 16 := by rw [← hxs]; exact hR4.2 _ (List.getElem_mem hiR)
        have hxb : ∀ x ∈ xs, 0 ≤ x ∧ x ≤ 15 := by rw [← hxs]; exact hsm _ (List.getElem_mem hiR)
        have hchunk : Hid ((R.flatten.drop (i * 16)).take 16 = xs) := by unfold Hid; rw [flat_chunk 16 R hR4.2 i hiR, hxs]
        have hpb := place.placeOf_bd key i
        obtain ⟨p, hp⟩ : ∃ p : Nat, place.placeOf key i = p := ⟨(place.placeOf key i).toNat, by omega⟩
        have hp16 : p < 16 := by omega
        have hP : Hid (place.placeOf key i = p) := hp
        clear hp hpb
        obtain ⟨ys, hys⟩ : ∃ ys, Hid (ys = raise xs p) := ⟨_, rfl⟩
        have hy16 : ys.length = 16 := by rw [hys.out, raise_len, hx16]
        have HX : Hid (R[i] = xs) := hxs
        clear hxs
        have eT : Hid (T[i] = ys) := by
          have : T[i] = raise R[i] (place.placeOf key i).toNat := by have := hT.out; subst this; simp [addR]
          rw [HX.out, hP.out] at this
          unfold Hid; rw [this, hys.out]; simp
        have h4' : Hid ((mix T R i).length = R.length) := mix_len T R i (by rw [hT4.1, hR4.1])
        have hm16 : Hid (∀ xs ∈ mix T R i, xs.length = 16) := mix_mem T R i 16 hT4.2 hR4.2
        have hml : (mix T R i).flatten.length = 64 := by rw [flat_len 16 _ hm16.out, h4'.out, hR4.1]
        go_wp2_with (first | (refine wpList_index_arr rfl 134 _ _ rfl R.flatten i 4 16 rfl rfl Try.underlying134 Try.sizeOf132 Try.isAgg132 hlt xs hchunk.out ?_) | (refine wpList_alloc_arr rfl 132 rfl _ zero52 ?_; intro b8 w8 hb8 hw8 hB8 hK8) | (refine wpList_store_arr rfl 132 _ _ rfl b8 0 xs rfl rfl (by rw [hx16]; exact size52) hK8 (by rw [hx16]; simp) ?_; intro w9 hO9 hK9; rw [put_all _ _ (by rw [hx16]; simp)] at hK9))
        have h8 := hB8.size
        have h9 := hO9.1
        have hbr := hBr.size
        have l1 := hv1r.lt
        have l2 := hv2r.lt
        have l4 := hk4.lt
        have n84 : b8 ≠ b4 := by omega
        have k4 : Blk w9 b4 134 (mix T R i).flatten := (hk4.below hB8 l4).of (hO9.2.1 _ (by omega))
        have v1 := (hv1r.below hB8 l1).of (hO9.2.1 _ (by omega))
        have v2 := (hv2r.below hB8 l2).of (hO9.2.1 _ (by omega))
        have hr9 : w9.drew.rangeAt b8 0 (ints xs) := hK9.drew.range0
        have ht9 : w9.drew.there b4 (i * 16) 16 := k4.drew.there _ _ (by rw [hml]; omega)
        have hBw : Below w.heap.size w w9 := (hBr.trans (hB8.mono hbr)).trans (hO9.2.2 _ (by omega))
        have hu := Try.underlying132
        have hix : (Try.prog.info? 132).map (·.size) = some (ints xs).length := by rw [ints_len, hx16]; exact size52
        have hiy : (Try.prog.info? 132).map (·.size) = some (ints ys).length := by rw [ints_len, hy16]; exact size52
        have hly : (ints ys).length = 16 := by rw [ints_len, hy16]
        have hone := ints_one ys
        go_region_held3 (fun w' => w'.rangeAt b8 0 (ints xs) ∧ w'.there b4 (i * 16) 16) (first | assumption | exact ⟨hr9, ht9⟩ | exact ⟨hr10, ht10⟩ | exact ⟨hr11, ht11⟩ | exact ⟨World.rangeAt_setCells_apart hr11 _ _ _ (.inl n84), World.there_setCells ht11 _ _ _⟩) (first | (go_at_call 119; refine (place.impl_in key i (by omega) (by omega) hk _).mono ?_; rintro e w10 ⟨he, hO10⟩; rw [hP.out] at he; subst he; have hB10 := hO10.below; have hk10 := hK9.drew.below hB10 (by show b8 < w9.heap.size; omega); have hk410 := k4.drew.below hB10 (by show b4 < w9.heap.size; omega); have hr10 := hk10.range0; have ht10 : w10.there b4 (i * 16) 16 := hk410.there _ _ (by rw [hml]; omega)) | (go_at_call 143; refine (raised_any xs hx16 hxb p hp16 _).mono ?_; rintro e w11 ⟨he, hB11⟩; rw [← hys.out] at he; subst he; have hk11 := hk10.below hB11 hk10.lt; have hk411 := hk410.below hB11 hk410.lt; have hr11 := hk11.range0; have ht11 : w11.there b4 (i * 16) 16 := hk411.there _ _ (by rw [hml]; omega)))
        have k12 := hk411.setCells ys (i * 16) (by rw [hy16, hml]; omega)
        rw [flat_put 16 _ hm16.out i (by rw [h4'.out]; exact hiR) ys hy16] at k12
        have o12 := only_setCells w11 b4 (ints ys) (i * 16)
        obtain ⟨w12, HW12⟩ : ∃ w12, Hid (w12 = w11.setCells b4 (i * 16) (ints ys)) := ⟨_, rfl⟩
        rw [← HW12.out] at k12 o12 ⊢
        go_wp2
        go_roundw
        case rel =>
          have e10 : w9.drew.heap.size = w9.heap.size := rfl
          have h10 := hB10.size
          refine ⟨i + 1, by omega, by go_num, ?_, ?_, ?_, ?_⟩
          · rw [← mix_set T R i (by rw [hT4.1, hR4.1]) hiT, eT.out]; exact k12
          · exact (((VBlk.of (w' := w9.drew) v1 rfl).below hB10 (by omega)).below hB11 (by omega)).of (o12.2.1 _ n14)
          · exact (((VBlk.of (w' := w9.drew) v2 rfl).below hB10 (by omega)).below hB11 (by omega)).of (o12.2.1 _ n24)
          · exact ((hBw.drew.trans (hB10.mono (by omega))).trans (hB11.mono (by omega))).trans (o12.2.2 _ hlo4)
        case measure => simp [intOf]; omega
      · obtain rfl : i = 4 := by omega
        rw [mix_all T R 4 (by rw [hT4.1]; omega) (by rw [hR4.1]; omega)] at hk4
        have hc1r := hv1r.cell 1 (by simp)
        simp only [List.getElem_cons_zero, List.getElem_cons_succ] at hc1r
        have hbr := hBr.size
        by_cases h159 : adds = 159
        · have hN : Hid (addedN R adds = 0) := by have := hOk.out; simp [Hid, addedN, h159]
          have hRR : Hid (addedR R adds key = halfR T) := by have := hOk.out; unfold Hid addedR; rw [if_pos this, if_pos h159, hT.out]
          subst h159
          go_wp2_with (first | (refine wpList_load_arr rfl 134 _ rfl b4 0 64 rfl _ Try.underlying134 rfl size54 hk4 (by omega) T.flatten (all64 hlT) ?_) | (go_at_call 144; refine (rowsHalved_any T hT4 hTs _).mono ?_; rintro e w10 ⟨he, hB10⟩; change e = .returned (arr (halfR T).flatten) at he; subst he; have hv210 := hv2r.below hB10 hv2r.lt) | (go_at_call 129; refine (lists_any (halfR T) (halfR_four hT4) _).mono ?_; rintro e w11 ⟨v', rfl, hown, hB11⟩; obtain ⟨va, vn, vc, rfl⟩ := hown.form; have hv211 := hv210.below hB11 hv210.lt) | (refine wpList_store_v rfl 34 _ _ rfl b2 [.slice va vn vc, .int .i64 0] rfl rfl size27 hv211 rfl (by simp [Value.oneCell']) ?_; intro w12 hO12 hV12))
          have h10 := hB10.size
          have h11 := hB11.size
          have l2 := hv2r.lt
          refine row_retv rfl rfl hV12 Try.underlying34 size27 rfl ⟨_, by rw [hN.out], ?_, ?_⟩
          · rw [hRR.out]
            exact (hown.keep (fun k h2 h3 => hO12.2.1 k (by omega)) (by rw [hO12.1]; exact Nat.le_refl _)).wide (by omega) (by rw [hO12.1]; exact Nat.le_refl _) (Nat.le_refl _)
          · exact ((hBr.trans (hB10.mono hbr)).trans (hB11.mono (by omega))).trans (hO12.2.2 _ hlo2)
        · have hN : Hid (addedN R adds = adds + 1) := by have := hOk.out; simp [Hid, addedN, this, h159]
          have hRR : Hid (addedR R adds key = T) := by have := hOk.out; unfold Hid addedR; rw [if_pos this, if_neg h159, hT.out]
          have hne160 : ¬ (adds + 1 = 160) := by omega
          go_wp2
          have l1 := hv1r.lt
          have l2 := hv2r.lt
          have l4 := hk4.lt
          refine wp_region_held_drew (S := fun w' => w'.rangeAt b4 0 (ints T.flatten) ∧ w'.cell? ⟨b1, 1, none⟩ = some (.int .i64 adds)) (by kernel_rfl) ⟨hk4.drew.range0, hc1r⟩ (fun hHeld => ?_)
          refine wpAnyH_take (i := 0) (v := arr T.flatten) rfl (by kernel_rfl) (by kernel_rfl) (by kernel_rfl) (fun _ _ _ h => h) (yieldsIf_load_mid rfl _ _ rfl b4 0 rfl (ints T.flatten) _ (fun w h => h.1) Try.underlying134 rfl (by rw [ints_len, hlT]; exact size54)) hHeld ?_
          refine wpAnyH_take (i := 2) (v := .pointer (some ⟨b1, 1, none⟩)) rfl (by kernel_rfl) (by kernel_rfl) (by kernel_rfl) (fun _ _ _ h => h) (Or.inl ⟨rfl, fun w' hS => by go_simp⟩) hHeld ?_
          refine wpAnyH_take (i := 3) (v := .int .i64 adds) rfl (by kernel_rfl) (by kernel_rfl) (by kernel_rfl) (fun _ _ _ h => h) (Or.inl ⟨rfl, fun w' hS => by have h2 := hS.2; go_simp⟩) hHeld ?_
          refine wpAnyH_take (i := 4) (v := .int .i64 (adds + 1)) rfl (by kernel_rfl) (by kernel_rfl) (by kernel_rfl) (fun _ _ _ h => h) (Or.inl ⟨rfl, fun w' hS => by go_simp; exact wrapI _ (by omega) (by omega)⟩) hHeld ?_
          simp only [Act.put, List.setIfInBounds_toArray]
          refine wpAnyH_ready (rs := [1]) (by kernel_rfl) (by simp) ?_
          refine AllReadyH.cons rfl (fun K hK => ?_) AllReadyH.nil
          go_simp
          go_at_call 129
          refine (lists_any T hT4 _).mono ?_
          rintro e w11 ⟨v', rfl, hown, hB11⟩
          obtain ⟨va, vn, vc, rfl⟩ := hown.form
          have e11 : wr.drew.heap.size = wr.heap.size := rfl
          have hS2 : w11.rangeAt b4 0 (ints T.flatten) ∧ w11.cell? ⟨b1, 1, none⟩ = some (.int .i64 adds) := ⟨(hk4.drew.below hB11 l4).range0, by rw [hB11.cell (by show b1 < _; omega)]; exact hc1r⟩
          have hv211 := VBlk.below (w := wr.drew) hv2r hB11 l2
          refine hK.out _ _ hS2 (fun _ => ?_)
          refine wpAnyH_take (i := 5) (v := .agg #[.slice va vn vc, .int .i64 (adds + 1)]) rfl (by kernel_rfl) (by kernel_rfl) (by kernel_rfl) (fun _ _ _ h => h) (Or.inl ⟨rfl, fun w' hS => by go_simp⟩) hS2 ?_
          simp only [Act.put, List.setIfInBounds_toArray]
          refine wpAnyH_ready (rs := [6]) (by kernel_rfl) (by simp) ?_
          refine AllReadyH.cons rfl (fun K2 hK2 => ?_) AllReadyH.nil
          refine step_store_v rfl 34 _ _ rfl b2 [.slice va vn vc, .int .i64 (adds + 1)] rfl rfl size27 hv211 rfl (by simp [Value.oneCell']) ?_
          intro w12 hO12 hV12
          refine hK2.out _ _ ⟨range_of hS2.1 (hO12.2.1 _ (fun e => n24 e.symm)), by rw [World.cell?_of_block (w := w11) (hO12.2.1 b1 (by omega))]; exact hS2.2⟩ (fun _ => ?_)
          refine wpAnyH_done (by kernel_rfl) ?_ _
          go_simp
          go_wp2
          have h11 := hB11.size
          refine row_retv rfl rfl hV12 Try.underlying34 size27 rfl ⟨_, by rw [hN.out], ?_, ?_⟩
          · rw [hRR.out]
            exact (hown.keep (fun k h2 h3 => hO12.2.1 k (by omega)) (by rw [hO12.1]; exact Nat.le_refl _)).wide (by omega) (by rw [hO12.1]; exact Nat.le_refl _) (Nat.le_refl _)
          · exact (hBr.drew.trans (hB11.mono (by omega))).trans (hO12.2.2 _ hlo2)
  · have hd : decide (skOk R adds) = false := decide_eq_false hok
    have hN : Hid (addedN R adds = 0) := by simp [Hid, addedN, hok]
    have hR : Hid (addedR R adds key = []) := by simp [Hid, addedR, hok]
    go_enter Try.func83, Try.ntmps83
    go_wp2_with (first | (refine wpList_box_v rfl 34 _ rfl [v, .int .i64 adds] rfl ?_; intro b1 w1 hb1 hw1 hB1 hV1; have hv1 := hv.below hB1 hh) | (refine wpList_alloc_v rfl 34 rfl _ zero27 ?_; intro b2 w2 hb2 hw2 hB2 hV2; replace hV1 := hV1.below hB2 hw1; have hc0 := hV1.cell 0 (by simp); have hc1 := hV1.cell 1 (by simp); simp only [List.getElem_cons_zero, List.getElem_cons_succ] at hc0 hc1; have hv2 := hv1.below hB2 (by have := hB1.size; omega)) | (go_at_call 118; refine (rowsOf_any R adds v _ hi (by have := hB1.size; have := hB2.size; omega) hv2).mono ?_; rintro e w3 ⟨fl, rfl, hfl, hfl2, hB3⟩; replace hV2 := hV2.below hB3 hw2) | (refine wpList_alloc_arr rfl 134 rfl _ zero54' ?_; intro b4 w4 hb4 hw4 hB4 hK4; replace hV2 := hV2.below hB4 (by have := hB3.size; omega)) | (refine wpList_store_arr rfl 134 _ _ rfl b4 0 fl rfl rfl (by rw [hfl]; exact size54) hK4 (by rw [hfl, z64_len]; omega) ?_; intro w5 hO5 hK5; have hV5 := hV2.of (hO5.2.1 b2 (by have := hB3.size; omega))) | (refine wpList_store_v rfl 34 _ _ rfl b2 [.slice none 0 0, .int .i64 0] rfl rfl size27 hV5 rfl (by simp [Value.oneCell']) ?_; intro w6 hO6 hV6))
    have h1 := hB1.size
    have h2 := hB2.size
    have h3 := hB3.size
    have h4 := hB4.size
    refine row_retv rfl rfl hV6 Try.underlying34 size27 rfl ⟨_, by rw [hN.out], by rw [hR.out]; exact own_nil _ _ _ (Nat.le_refl _), ?_⟩
    exact ((((hB1.trans (hB2.mono h1)).trans (hB3.mono (by omega))).trans (hB4.mono (by omega))).trans (hO5.2.2 _ (by omega))).trans (hO6.2.2 _ (by omega))

/-- the least count of a key in the first n rows -/
def estN (key : ByteArray) (R : List (List Int)) (n : Nat) : Int := (List.range n).foldl (fun m i => min m ((R.getD i []).getD (place.placeOf key i).toNat 0)) 15
set_option maxRecDepth 100000 in
theorem estN_succ (key : ByteArray) (R : List (List Int)) (n : Nat) : estN key R (n + 1) = min (estN key R n) ((R.getD n []).getD (place.placeOf key n).toNat 0) := by
  simp [estN, List.range_succ]
def estA (R : List (List Int)) (adds : Int) (key : ByteArray) : Int := if skOk R adds then estN key R 4 else -1
set_option maxRecDepth 100000 in
theorem min_if (a b : Int) : (if b < a then b else a) = min a b := by split <;> omega

set_option maxRecDepth 100000 in
theorem implEstimate_any (R : List (List Int)) (adds : Int) (key : ByteArray) (hk : key.size ≤ 1048576) (v : Value) (w : World) (hi : Nat) (hh : hi ≤ w.heap.size) (hv : Rd w 0 hi v R) :
    Calls Try.prog 61 #[skv v adds, .string key] w fun e w' => e = .returned (.int .i64 (estA R adds key)) ∧ Below w.heap.size w w' := by
  by_cases hok : skOk R adds
  · have hd : decide (skOk R adds) = true := decide_eq_true hok
    have hR4 := hok.four
    have hl := hR4.len
    have hE : Hid (estA R adds key = estN key R 4) := by simp [Hid, estA, hok]
    have hOk : Hid (skOk R adds) := hok
    clear hok
    go_enter Try.func61, Try.ntmps61
    go_wp2_with (first | (refine wpList_box_v rfl 34 _ rfl [v, .int .i64 adds] rfl ?_; intro b1 w1 hb1 hw1 hB1 hV1; have hv1 := hv.below hB1 hh; have hc0 := hV1.cell 0 (by simp); have hc1 := hV1.cell 1 (by simp); simp only [List.getElem_cons_zero, List.getElem_cons_succ] at hc0 hc1) | (go_at_call 118; refine (rowsOf_any R adds v _ hi (by have := hB1.size; omega) hv1).mono ?_; rintro e w3 ⟨fl, rfl, hfl, hfl2, hB3⟩; obtain rfl := hfl2 hOk.out) | (refine wpList_alloc_arr rfl 134 rfl _ zero54' ?_; intro b4 w4 hb4 hw4 hB4 hK4) | (refine wpList_store_arr rfl 134 _ _ rfl b4 0 R.flatten rfl rfl (by rw [hl]; exact size54) hK4 (by rw [hl, z64_len]; omega) ?_; intro w5 hO5 hK5; rw [put_all _ _ (by rw [hl, z64_len])] at hK5) | (refine wpList_load_arr rfl 134 _ rfl b4 0 64 rfl _ Try.underlying134 rfl size54 hK5 (by omega) R.flatten (all64 hl) ?_))
    have h1 := hB1.size
    have h3 := hB3.size
    have h4 := hB4.size
    have h5 := hO5.1
    have hB : Below w.heap.size w w5 := ((hB1.trans (hB3.mono h1)).trans (hB4.mono (by omega))).trans (hO5.2.2 _ (by omega))
    go_loopw [7, 18] (fun m v' wr => ∃ i : Nat, i ≤ 4 ∧ v' = .int .i64 i ∧ m = .int .i64 (estN key R i) ∧ Below w.heap.size w wr) (fun _ v' _ => 4 - (intOf v').toNat)
    case atStart => exact ⟨0, by omega, rfl, rfl, hB⟩
    case round =>
      obtain ⟨i, hi4, rfl, rfl, hBr⟩ := hrel
      by_cases hlt : i < 4
      · have hiR : i < R.length := by rw [hR4.1]; exact hlt
        obtain ⟨xs, hxs⟩ : ∃ xs, R[i] = xs := ⟨_, rfl⟩
        have hx16 : xs.length = 16 := by rw [← hxs]; exact hR4.2 _ (List.getElem_mem hiR)
        have hchunk : Hid ((R.flatten.drop (i * 16)).take 16 = xs) := by unfold Hid; rw [flat_chunk 16 R hR4.2 i hiR, hxs]
        have hpb := place.placeOf_bd key i
        obtain ⟨p, hp⟩ : ∃ p : Nat, place.placeOf key i = p := ⟨(place.placeOf key i).toNat, by omega⟩
        have hp16 : p < 16 := by omega
        have hP : Hid (place.placeOf key i = p) := hp
        clear hp hpb
        obtain ⟨z, hz⟩ : ∃ z, xs[p]'(by omega) = z := ⟨_, rfl⟩
        have hZ : Hid (xs[p]'(by omega) = z) := hz
        have hE1 : Hid (estN key R (i + 1) = min (estN key R i) z) := by
          unfold Hid
          rw [estN_succ, hP.out]
          congr 1
          have e1 : R.getD i [] = xs := by rw [List.getD_eq_getElem?_getD, List.getElem?_eq_getElem hiR, hxs]; rfl
          rw [e1, Int.toNat_natCast, List.getD_eq_getElem?_getD, List.getElem?_eq_getElem (by omega), ← hz]; rfl
        obtain ⟨m, hm⟩ : ∃ m, estN key R i = m := ⟨_, rfl⟩
        have hM : Hid (estN key R i = m) := hm
        rw [hm]
        clear hxs hz hm
        go_wp2_with (first | (refine wpList_index_arr rfl 134 _ _ rfl R.flatten i 4 16 rfl rfl Try.underlying134 Try.sizeOf132 Try.isAgg132 hlt xs hchunk.out ?_) | (refine wpList_alloc_arr rfl 132 rfl _ zero52 ?_; intro b8 w8 hb8 hw8 hB8 hK8) | (refine wpList_store_arr rfl 132 _ _ rfl b8 0 xs rfl rfl (by rw [hx16]; exact size52) hK8 (by rw [hx16]; simp) ?_; intro w9 hO9 hK9; rw [put_all _ _ (by rw [hx16]; simp)] at hK9) | (go_at_call 119; refine (place.impl_in key i (by omega) (by omega) hk _).mono ?_; rintro e w10 ⟨he, hO10⟩; rw [hP.out] at he; subst he; have hB10 := hO10.below; have hk10 := hK9.below hB10 hK9.lt; have hc10 := hk10.cell p (by omega); rw [hZ.out] at hc10))
        go_roundw
        case rel =>
          have h8 := hB8.size
          have h9 := hO9.1
          have hbr := hBr.size
          refine ⟨i + 1, by omega, by go_num, ?_, ((hBr.trans (hB8.mono hbr)).trans (hO9.2.2 _ (by omega))).trans (hB10.mono (by omega))⟩
          rw [hE1.out, hM.out, min_if]
        case measure => simp [intOf]; omega
      · obtain rfl : i = 4 := by omega
        go_wp2
        go_ret
        exact ⟨by rw [hE.out]; rfl, hBr⟩
  · have hd : decide (skOk R adds) = false := decide_eq_false hok
    have hE : Hid (estA R adds key = -1) := by simp [Hid, estA, hok]
    go_enter Try.func61, Try.ntmps61
    go_wp2_with (first | (refine wpList_box_v rfl 34 _ rfl [v, .int .i64 adds] rfl ?_; intro b1 w1 hb1 hw1 hB1 hV1; have hv1 := hv.below hB1 hh; have hc0 := hV1.cell 0 (by simp); have hc1 := hV1.cell 1 (by simp); simp only [List.getElem_cons_zero, List.getElem_cons_succ] at hc0 hc1) | (go_at_call 118; refine (rowsOf_any R adds v _ hi (by have := hB1.size; omega) hv1).mono ?_; rintro e w3 ⟨fl, rfl, hfl, hfl2, hB3⟩) | (refine wpList_alloc_arr rfl 134 rfl _ zero54' ?_; intro b4 w4 hb4 hw4 hB4 hK4) | (refine wpList_store_arr rfl 134 _ _ rfl b4 0 fl rfl rfl (by rw [hfl]; exact size54) hK4 (by rw [hfl, z64_len]; omega) ?_; intro w5 hO5 hK5))
    go_ret
    have h1 := hB1.size
    have h3 := hB3.size
    exact ⟨by rw [hE.out]; rfl, ((hB1.trans (hB3.mono h1)).trans (hB4.mono (by omega))).trans (hO5.2.2 _ (by omega))⟩

end Go.Proofs.Ytapchjkiiifhdaa.sk
/- Contracts of the model's SketchOk and Estimate. -/
namespace Go.Proofs.Ytapchjkiiifhdaa.sk
open Go.ChangeShapes Go.WideShapes Go.ChangeAt Go.RowKit
set_option linter.unusedVariables false

set_option maxRecDepth 100000 in
theorem min_any (a b : Int) (w : World) : Calls Try.prog 157 #[.int .i64 a, .int .i64 b] w fun e w' => e = .returned (.int .i64 (min a b)) ∧ w' = w := by
  by_cases h : a < b
  · have e : Hid (min a b = a) := by unfold Hid; omega
    go_enter Try.func157, Try.ntmps157
    go_wp2
    go_ret
    exact ⟨by rw [e.out]; rfl, rfl⟩
  · have e : Hid (min a b = b) := by unfold Hid; omega
    go_enter Try.func157, Try.ntmps157
    go_wp2
    go_ret
    exact ⟨by rw [e.out]; rfl, rfl⟩

set_option maxRecDepth 100000 in
theorem rd_row {w : World} {lo hi : Nat} {a : Option Addr} {xs : List Int} (h : RowR w lo hi a xs) (hn : 0 < xs.length) : ∃ b off, a = some ⟨b, off, none⟩ ∧ lo ≤ b ∧ b < hi ∧ w.rangeAt b off (ints xs) := by
  rcases h.2 with h | h
  · subst h; simp at hn
  · exact h
set_option maxRecDepth 100000 in
theorem range_cell {w : World} {b off : Nat} {xs : List Int} (h : w.rangeAt b off (ints xs)) (k : Nat) (hk : k < xs.length) : w.cell? ⟨b, off + k, none⟩ = some (.int .i64 xs[k]) := h k _ (by simp [ints, hk])

set_option maxRecDepth 100000 in
set_option maxHeartbeats 1000000 in
theorem specSketchOk_any (R : List (List Int)) (adds : Int) (v : Value) (w : World) (hi : Nat) (hh : hi ≤ w.heap.size) (hv : Rd w 0 hi v R) :
    Calls Try.prog 65 #[skv v adds] w fun e w' => e = .returned (.bool (decide (skOk R adds))) ∧ Below w.heap.size w w' := by
  obtain ⟨hRl, a, cap, rfl, hrows⟩ := hv
  by_cases h4 : R.length = 4
  · have h4i : ((R.length : Int) = 4) := by omega
    by_cases ha : 0 ≤ adds ∧ adds ≤ 159
    · have hda : decide (0 ≤ adds ∧ adds ≤ 159) = true := decide_eq_true ha
      have h4' : Hid (R.length = 4) := h4
      rcases hrows with hnil | ⟨b, off, rfl, -, hbhi, hcells⟩
      · subst hnil; simp at h4
      clear h4
      have hCells : Hid (∀ i (h : i < R.length), ∃ a' c', w.cell? ⟨b, off + i, none⟩ = some (.slice a' (R[i]).length c') ∧ RowR w 0 hi a' R[i]) := hcells
      clear hcells
      go_enter Try.func65, Try.ntmps65
      go_wp2_with (first | (refine wpList_box_v rfl 34 _ rfl [.slice (some ⟨b, off, none⟩) R.length cap, .int .i64 adds] rfl ?_; intro b1 w1 hb1 hw1 hB1 hV1; have hc0 := hV1.cell 0 (by simp); have hc1 := hV1.cell 1 (by simp); simp only [List.getElem_cons_zero, List.getElem_cons_succ] at hc0 hc1) | (go_at_call 91; refine (place.in_any _ _ _ _).mono ?_; rintro e wq ⟨rfl, hq⟩; subst wq))
      go_loop [3] (fun v' => ∃ i : Nat, i ≤ 4 ∧ v' = .int .i64 i ∧ Hid (∀ j (hj : j < R.length), j < i → (R[j]).length = 16 ∧ ∀ x ∈ R[j], 0 ≤ x ∧ x ≤ 15)) (fun v' => 4 - (intOf v').toNat)
      case atStart => exact ⟨0, by omega, rfl, fun j _ h => by omega⟩
      case round =>
        obtain ⟨i, hi4, rfl, hdone⟩ := hrel
        by_cases hlt : i < 4
        · have hiR : i < R.length := by rw [h4'.out]; exact hlt
          obtain ⟨a', c', hcell0, hrow0⟩ := hCells.out i hiR
          obtain ⟨xs, hxs⟩ : ∃ xs, R[i] = xs := ⟨_, rfl⟩
          rw [hxs] at hcell0 hrow0
          have HX : Hid (R[i] = xs) := hxs
          clear hxs
          have hcell : w1.cell? ⟨b, off + i, none⟩ = some (.slice a' xs.length c') := by
            rw [hB1.cell (by show b < _; omega)]; exact hcell0
          have hrow := hrow0.keep (Same.of_below hB1 hh)
          clear hcell0 hrow0
          by_cases h16 : xs.length = 16
          · obtain ⟨fb, foff, rfl, -, hfb, hrange⟩ := rd_row hrow (by omega)
            rw [h16] at hcell
            have hR' : Hid (w1.rangeAt fb foff (ints xs)) := hrange
            have h16' : Hid (xs.length = 16) := h16
            clear hrange h16
            go_wp2
            go_loop [4] (fun v' => ∃ k : Nat, k ≤ 16 ∧ v' = .int .i64 k ∧ Hid (∀ j (hj : j < xs.length), j < k → 0 ≤ xs[j] ∧ xs[j] ≤ 15)) (fun v' => 16 - (intOf v').toNat)
            case atStart => exact ⟨0, by omega, rfl, fun j _ h => by omega⟩
            case round =>
              obtain ⟨k, hk16, rfl, hin⟩ := hrel
              by_cases hk : k < 16
              · obtain ⟨z, hz⟩ : ∃ z, xs[k]'(by rw [h16'.out]; exact hk) = z := ⟨_, rfl⟩
                have hcz := range_cell hR'.out k (by rw [h16'.out]; exact hk)
                rw [hz] at hcz
                have hZ : Hid (xs[k]'(by rw [h16'.out]; exact hk) = z) := hz
                clear hz
                by_cases hzb : 0 ≤ z ∧ z ≤ 15
                · have hdz : decide (0 ≤ z ∧ z ≤ 15) = true := decide_eq_true hzb
                  go_wp2_with (first | (go_at_call 91; refine (place.in_any _ _ _ _).mono ?_; rintro e wq ⟨rfl, hq⟩; subst wq))
                  go_round
                  case rel =>
                    refine ⟨k + 1, by omega, by go_num, fun j hj hjk => ?_⟩
                    by_cases e : j = k
                    · subst e; rw [hZ.out]; exact hzb
                    · exact hin.out j hj (by omega)
                  case measure => simp [intOf]; omega
                · have hdz : decide (0 ≤ z ∧ z ≤ 15) = false := decide_eq_false hzb
                  have hno : Hid (decide (skOk R adds) = false) := decide_eq_false (fun h => hzb (by rw [← hZ.out]; exact h.2.2.2 xs (by rw [← HX.out]; exact List.getElem_mem hiR) _ (List.getElem_mem _)))
                  go_wp2_with (first | (go_at_call 91; refine (place.in_any _ _ _ _).mono ?_; rintro e wq ⟨rfl, hq⟩; subst wq))
                  go_ret
                  exact ⟨by rw [hno.out]; rfl, hB1⟩
              · obtain rfl : k = 16 := by omega
                go_wp2
                go_round
                case rel =>
                  refine ⟨i + 1, by omega, by go_num, fun j hj hji => ?_⟩
                  by_cases e : j = i
                  · subst e; rw [HX.out]; exact ⟨h16'.out, fun x hx => by obtain ⟨q, hq, rfl⟩ := List.getElem_of_mem hx; exact hin.out q hq (by rw [h16'.out] at hq; exact hq)⟩
                  · exact hdone.out j hj (by omega)
                case measure => simp [intOf]; omega
          · have hno : Hid (decide (skOk R adds) = false) := decide_eq_false (fun h => h16 (by rw [← HX.out]; exact h.2.2.1 _ (List.getElem_mem hiR)))
            have h16i : ¬ ((xs.length : Int) = 16) := by omega
            go_wp2
            go_ret
            exact ⟨by rw [hno.out]; rfl, hB1⟩
        · obtain rfl : i = 4 := by omega
          have hyes : Hid (skOk R adds) := ⟨h4'.out, ha, fun ys hy => by obtain ⟨j, hj, rfl⟩ := List.getElem_of_mem hy; exact (hdone.out j hj (by rw [h4'.out] at hj; exact hj)).1, fun ys hy => by obtain ⟨j, hj, rfl⟩ := List.getElem_of_mem hy; exact (hdone.out j hj (by rw [h4'.out] at hj; exact hj)).2⟩
          go_wp2
          go_ret
          exact ⟨by rw [decide_eq_true hyes.out]; rfl, hB1⟩
    · have hda : decide (0 ≤ adds ∧ adds ≤ 159) = false := decide_eq_false ha
      have hno : Hid (decide (skOk R adds) = false) := decide_eq_false (fun h => ha h.2.1)
      clear h4
      go_enter Try.func65, Try.ntmps65
      go_wp2_with (first | (refine wpList_box_v rfl 34 _ rfl [.slice a R.length cap, .int .i64 adds] rfl ?_; intro b1 w1 hb1 hw1 hB1 hV1; have hc0 := hV1.cell 0 (by simp); have hc1 := hV1.cell 1 (by simp); simp only [List.getElem_cons_zero, List.getElem_cons_succ] at hc0 hc1) | (go_at_call 91; refine (place.in_any _ _ _ _).mono ?_; rintro e wq ⟨rfl, hq⟩; subst wq))
      go_ret
      exact ⟨by rw [hno.out]; rfl, hB1⟩
  · have hno : Hid (decide (skOk R adds) = false) := decide_eq_false (fun h => h4 h.1)
    have h4' : ¬ ((R.length : Int) = 4) := by omega
    go_enter Try.func65, Try.ntmps65
    go_wp2_with (first | (refine wpList_box_v rfl 34 _ rfl [.slice a R.length cap, .int .i64 adds] rfl ?_; intro b1 w1 hb1 hw1 hB1 hV1; have hc0 := hV1.cell 0 (by simp); have hc1 := hV1.cell 1 (by simp); simp only [List.getElem_cons_zero, List.getElem_cons_succ] at hc0 hc1) | (go_at_call 91; refine (place.in_any _ _ _ _).mono ?_; rintro e wq ⟨rfl, hq⟩; subst wq))
    go_ret
    exact ⟨by rw [hno.out]; rfl, hB1⟩

set_option maxRecDepth 100000 in
set_option maxHeartbeats 1000000 in
theorem l2Estimate_any (R : List (List Int)) (adds : Int) (hR4 : Four R) (key : ByteArray) (hk : key.size ≤ 1048576) (v : Value) (w : World) (hi : Nat) (hh : hi ≤ w.heap.size) (hv : Rd w 0 hi v R) :
    Calls Try.prog 97 #[skv v adds, .string key] w fun e w' => e = .returned (.int .i64 (estN key R 4)) ∧ Below w.heap.size w w' := by
  obtain ⟨hRl, a, cap, rfl, hrows⟩ := hv
  have h4' : Hid (R.length = 4) := hR4.1
  have h4i : ((R.length : Int) = 4) := by have := hR4.1; omega
  rcases hrows with hnil | ⟨b, off, rfl, -, hbhi, hcells⟩
  · subst hnil; simp [Hid] at h4'
  have hCells : Hid (∀ i (h : i < R.length), ∃ a' c', w.cell? ⟨b, off + i, none⟩ = some (.slice a' (R[i]).length c') ∧ RowR w 0 hi a' R[i]) := hcells
  clear hcells
  go_enter Try.func97, Try.ntmps97
  go_wp2_with (first | (refine wpList_box_v rfl 34 _ rfl [.slice (some ⟨b, off, none⟩) R.length cap, .int .i64 adds] rfl ?_; intro b1 w1 hb1 hw1 hB1 hV1))
  go_loopw [5, 6] (fun m v' wr => ∃ i : Nat, i ≤ 4 ∧ v' = .int .i64 i ∧ m = .int .i64 (estN key R i) ∧ VBlk wr b1 34 [.slice (some ⟨b, off, none⟩) R.length cap, .int .i64 adds] ∧ Below w.heap.size w wr) (fun _ v' _ => 4 - (intOf v').toNat)
  case atStart => exact ⟨0, by omega, rfl, rfl, hV1, hB1⟩
  case round =>
    obtain ⟨i, hi4, rfl, rfl, hVr, hBr⟩ := hrel
    by_cases hlt : i < 4
    · have hiR : i < R.length := by rw [hR4.1]; exact hlt
      obtain ⟨a', c', hcell0, hrow0⟩ := hCells.out i hiR
      obtain ⟨xs, hxs⟩ : ∃ xs, R[i] = xs := ⟨_, rfl⟩
      rw [hxs] at hcell0 hrow0
      have hx16 : xs.length = 16 := by rw [← hxs]; exact hR4.2 _ (List.getElem_mem hiR)
      obtain ⟨fb, foff, rfl, -, hfb, hrange⟩ := rd_row hrow0 (by omega)
      rw [hx16] at hcell0
      have hpb := place.placeOf_bd key i
      obtain ⟨p, hp⟩ : ∃ p : Nat, place.placeOf key i = p := ⟨(place.placeOf key i).toNat, by omega⟩
      have hp16 : p < 16 := by omega
      have hpi : (p : Int) < 16 := by omega
      have hP : Hid (place.placeOf key i = p) := hp
      clear hp hpb
      obtain ⟨z, hz⟩ : ∃ z, xs[p]'(by omega) = z := ⟨_, rfl⟩
      have hcz0 := range_cell hrange p (by omega)
      rw [hz] at hcz0
      have hE1 : Hid (estN key R (i + 1) = min (estN key R i) z) := by
        unfold Hid
        rw [estN_succ, hP.out]
        congr 1
        have e1 : R.getD i [] = xs := by rw [List.getD_eq_getElem?_getD, List.getElem?_eq_getElem hiR, hxs]; rfl
        rw [e1, Int.toNat_natCast, List.getD_eq_getElem?_getD, List.getElem?_eq_getElem (by omega), ← hz]; rfl
      obtain ⟨m, hm⟩ : ∃ m, estN key R i = m := ⟨_, rfl⟩
      have hM : Hid (estN key R i = m) := hm
      rw [hm]
      have hcv := hVr.cell 0 (by simp)
      simp only [List.getElem_cons_zero] at hcv
      have hcell : wr.cell? ⟨b, off + i, none⟩ = some (.slice (some ⟨fb, foff, none⟩) 16 c') := by rw [hBr.cell (by show b < _; omega)]; exact hcell0
      have hcz : wr.cell? ⟨fb, foff + p, none⟩ = some (.int .i64 z) := by rw [hBr.cell (by show fb < _; omega)]; exact hcz0
      have lv := hVr.lt
      have hbr := hBr.size
      clear hxs hz hm hcell0 hrow0 hcz0 hrange
      have hilt : (i : Int) < R.length := by omega
      go_wp2
      go_region_held3 (fun w' => w'.cell? ⟨b1, 0, none⟩ = some (.slice (some ⟨b, off, none⟩) R.length cap) ∧ w'.cell? ⟨b, off + i, none⟩ = some (.slice (some ⟨fb, foff, none⟩) 16 c') ∧ w'.cell? ⟨fb, foff + p, none⟩ = some (.int .i64 z)) (first | assumption | exact ⟨hcv, hcell, hcz⟩ | exact ⟨hcv10, hcell10, hcz10⟩) (first | (go_at_call 158; refine (place.spec_in key i (by omega) (by omega) hk _).mono ?_; rintro e w10 ⟨he, hO10⟩; rw [hP.out] at he; subst he; have hB10 := hO10.below; have hV10 := VBlk.below (w := wr.drew) hVr hB10 lv; have hcv10 := hV10.cell 0 (by simp); simp only [List.getElem_cons_zero] at hcv10; have hcell10 : w10.cell? ⟨b, off + i, none⟩ = some (.slice (some ⟨fb, foff, none⟩) 16 c') := (by rw [hB10.cell (by show b < wr.heap.size; omega)]; exact hcell); have hcz10 : w10.cell? ⟨fb, foff + p, none⟩ = some (.int .i64 z) := (by rw [hB10.cell (by show fb < wr.heap.size; omega)]; exact hcz)) | (go_at_call 157; refine (min_any _ _ _).mono ?_; rintro e wq ⟨rfl, hq⟩; subst wq))
      go_wp2
      go_roundw
      case rel =>
        refine ⟨i + 1, by omega, by go_num, ?_, hV10, hBr.drew.trans (hB10.mono hbr)⟩
        rw [hE1.out, hM.out]
      case measure => simp [intOf]; omega
    · obtain rfl : i = 4 := by omega
      go_wp2
      go_ret
      exact ⟨rfl, hBr⟩

end Go.Proofs.Ytapchjkiiifhdaa.sk
/- Structs in memory: what the operations on whole structs do, each with a new letter for the world. -/
namespace Go.Proofs.Ytapchjkiiifhdaa.ce
open Go.ChangeShapes Go.WideShapes Go.ChangeAt Go.RowKit
set_option linter.unusedVariables false

/-- block b is a row of cells, none frozen -/
def VBlk (w : World) (b : Nat) (t : TypeId) (vs : List Value) : Prop := w.heap[b]? = some (.cells vs.toArray t (0, 0))
theorem VBlk.cell {w : World} {b : Nat} {t : TypeId} {vs : List Value} (h : VBlk w b t vs) (j : Nat) (hj : j < vs.length) : w.cell? ⟨b, j, none⟩ = some vs[j] := by
  rw [cell_of_row _ _ _ _ _ _ h]; simp [hj]
theorem VBlk.frozen {w : World} {b : Nat} {t : TypeId} {vs : List Value} (h : VBlk w b t vs) (j : Nat) : w.frozen? ⟨b, j, none⟩ = false := frozen_of_row _ _ _ _ _ h
theorem VBlk.lt {w : World} {b : Nat} {t : TypeId} {vs : List Value} (h : VBlk w b t vs) : b < w.heap.size := (Array.getElem?_eq_some_iff.1 h).1
theorem VBlk.of {w w' : World} {b : Nat} {t : TypeId} {vs : List Value} (h : VBlk w b t vs) (e : w'.heap[b]? = w.heap[b]?) : VBlk w' b t vs := by unfold VBlk; rw [e]; exact h
theorem VBlk.below {w w' : World} {B b : Nat} {t : TypeId} {vs : List Value} (h : VBlk w b t vs) (hb : Below B w w') (hlt : b < B) : VBlk w' b t vs := h.of (hb.block b hlt)
theorem VBlk.set {w : World} {b : Nat} {t : TypeId} {vs : List Value} (h : VBlk w b t vs) (i : Nat) (x : Value) : VBlk (w.setCell ⟨b, i, none⟩ x) b t (vs.set i x) := by
  unfold VBlk
  rw [heap_setCell_same w b i _ t _ h]
  simp
theorem VBlk.there {w : World} {b : Nat} {t : TypeId} {vs : List Value} (h : VBlk w b t vs) : w.there b 0 vs.length := fun j hj =>
  ⟨by simp only [Nat.zero_add]; rw [h.cell j hj]; rfl, by simp only [Nat.zero_add]; exact h.frozen j⟩
theorem VBlk.range {w : World} {b : Nat} {t : TypeId} {vs : List Value} (h : VBlk w b t vs) : w.rangeAt b 0 vs := fun j v hv => by
  rw [cell_of_row _ _ _ _ _ _ h]; simpa using hv
theorem VBlk.drew {w : World} {b : Nat} {t : TypeId} {vs : List Value} (h : VBlk w b t vs) : VBlk w.drew b t vs := h

theorem heap_setCells (b : Nat) (t : TypeId) : ∀ (vs : List Value) (k : Nat) (w : World) (cs : List Value), w.heap[b]? = some (.cells cs.toArray t (0, 0)) → k + vs.length ≤ cs.length →
    (w.setCells b k vs).heap[b]? = some (.cells (cs.take k ++ vs ++ cs.drop (k + vs.length)).toArray t (0, 0))
  | [], k, w, cs, h, hk => by simpa [World.setCells] using h
  | v :: r, k, w, cs, h, hk => by
    have h1 := heap_setCell_same w b k cs.toArray t v h
    have hk' : k < cs.length := by simp at hk; omega
    have ih := heap_setCells b t r (k + 1) (w.setCell ⟨b, k, none⟩ v) (cs.set k v) (by rw [h1]; simp) (by simp at hk ⊢; omega)
    rw [World.setCells, ih]
    congr 3
    rw [List.take_succ_eq_append_getElem (by simpa using hk'), List.getElem_set_self, List.take_set_of_le (Nat.le_refl _), List.drop_set_of_lt (by omega)]
    simp [Nat.add_comm, Nat.add_left_comm]
theorem heap_setCells_other (b : Nat) : ∀ (vs : List Value) (k : Nat) (w : World) (j : Nat), j ≠ b → (w.setCells b k vs).heap[j]? = w.heap[j]?
  | [], _, _, _, _ => rfl
  | v :: r, k, w, j, h => by rw [World.setCells, heap_setCells_other b r (k + 1) _ j h]; exact Below.heap_setCell _ _ _ _ h
theorem meta_setCells (b : Nat) : ∀ (vs : List Value) (k : Nat) (w : World), (w.setCells b k vs).os = w.os ∧ (w.setCells b k vs).tape = w.tape ∧ (w.setCells b k vs).output = w.output ∧ (w.setCells b k vs).heap.size = w.heap.size
  | [], _, _ => ⟨rfl, rfl, rfl, rfl⟩
  | v :: r, k, w => by
    rw [World.setCells]
    have ih := meta_setCells b r (k + 1) (w.setCell ⟨b, k, none⟩ v)
    exact ⟨ih.1, ih.2.1, ih.2.2.1, by rw [ih.2.2.2]; simp⟩
theorem below_setCells {B b : Nat} (w : World) (hb : B ≤ b) (vs : List Value) (k : Nat) : Below B w (w.setCells b k vs) :=
  have m := meta_setCells b vs k w
  ⟨m.1, m.2.1, m.2.2.1, by rw [m.2.2.2]; exact Nat.le_refl _, fun j hj => heap_setCells_other b vs k w j (by omega)⟩
/-- only block b is turned -/
def Only (b : Nat) (w w' : World) : Prop := w'.heap.size = w.heap.size ∧ (∀ j, j ≠ b → w'.heap[j]? = w.heap[j]?) ∧ ∀ B, B ≤ b → Below B w w'
theorem only_setCells (w : World) (b : Nat) (vs : List Value) (k : Nat) : Only b w (w.setCells b k vs) := ⟨(meta_setCells b vs k w).2.2.2, heap_setCells_other b vs k w, fun B hB => below_setCells w hB vs k⟩

/-- of the blocks that were there only those from lo up to hi may be turned -/
structure Within (lo hi : Nat) (w w' : World) : Prop where
  os : w'.os = w.os
  tape : w'.tape = w.tape
  output : w'.output = w.output
  size : w.heap.size ≤ w'.heap.size
  block : ∀ k, k < w.heap.size → (k < lo ∨ hi ≤ k) → w'.heap[k]? = w.heap[k]?
theorem Within.refl (lo hi : Nat) (w : World) : Within lo hi w w := ⟨rfl, rfl, rfl, Nat.le_refl _, fun _ _ _ => rfl⟩
theorem Within.trans {lo hi : Nat} {a b c : World} (h : Within lo hi a b) (k : Within lo hi b c) : Within lo hi a c :=
  ⟨k.os.trans h.os, k.tape.trans h.tape, k.output.trans h.output, Nat.le_trans h.size k.size, fun j hj hn => (k.block j (Nat.lt_of_lt_of_le hj h.size) hn).trans (h.block j hj hn)⟩
theorem Within.of_below {lo hi B : Nat} {w w' : World} (h : Below B w w') (hB : w.heap.size ≤ B) : Within lo hi w w' := ⟨h.os, h.tape, h.output, h.size, fun k hk _ => h.block k (by omega)⟩
theorem Within.setCell {lo hi : Nat} {a w : World} (h : Within lo hi a w) {p : Addr} (h1 : lo ≤ p.block) (h2 : p.block < hi) (u : Value) : Within lo hi a (w.setCell p u) :=
  h.trans ⟨rfl, rfl, rfl, by simp, fun k hk hn => Below.heap_setCell _ _ _ _ (by omega)⟩
theorem Within.drew {lo hi : Nat} {a w : World} (h : Within lo hi a w) : Within lo hi a w.drew := ⟨h.os, h.tape, h.output, h.size, h.block⟩
theorem Within.wide {lo hi lo' hi' : Nat} {w w' : World} (h : Within lo hi w w') (h1 : lo' ≤ lo) (h2 : hi ≤ hi') : Within lo' hi' w w' := ⟨h.os, h.tape, h.output, h.size, fun k hk hn => h.block k hk (by omega)⟩
theorem Within.below {lo hi B : Nat} {w w' : World} (h : Within lo hi w w') (h1 : B ≤ lo) (h2 : B ≤ w.heap.size) : Below B w w' := ⟨h.os, h.tape, h.output, h.size, fun k hk => h.block k (by omega) (by omega)⟩
theorem Within.only {lo hi b : Nat} {a w w' : World} (h : Within lo hi a w) (o : Only b w w') (h1 : lo ≤ b) (h2 : b < hi) : Within lo hi a w' := by
  have b0 := o.2.2 0 (Nat.zero_le _)
  exact h.trans ⟨b0.os, b0.tape, b0.output, b0.size, fun k hk hn => o.2.1 k (by omega)⟩

theorem below_drewN {B : Nat} (w : World) (n : Nat) : Below B w (w.drewN n) := ⟨rfl, rfl, rfl, Nat.le_refl _, fun _ _ => rfl⟩

section laws
variable {P : Program} {ops : Array Oper} {rest : List Oper} {o : Oper} {a : Act} {w : World} {Q : Exit → Act → World → Prop} {K : Act → World → Prop} {E : Prop}
theorem wpList_val (hgd : o.guard = none) {v : Value} {w' : World} (hr : (execOp a.eval o).run P w = .ok (.value v) w') (h : wpList P ops Q rest (a.put o.dst v) w') : wpList P ops Q (o :: rest) a w :=
  wpList_plain hgd fun K hK => by unfold Oper.wp; rw [hr]; exact hK _ _ h
theorem step_val (hgd : o.guard = none) {v : Value} {w' : World} (hr : (execOp a.eval o).run P w = .ok (.value v) w') (h : K (a.put o.dst v) w') :
    if Region.wanted o (yielded ops a.tmps) = true then Oper.wp P o a w K Q else E := by
  have hw : Region.wanted o (yielded ops a.tmps) = true := by simp [Region.wanted, hgd]
  rw [if_pos hw]
  unfold Oper.wp
  rw [hr]
  exact h

/-- a new variable that holds a struct -/
theorem wpList_box_v (hgd : o.guard = none) (t : TypeId) (x : Operand) (ho : o.op = .box t x) (vs : List Value) (hx : a.eval x = .agg vs.toArray)
    (h : ∀ (b : Nat) (w' : World), w.heap.size ≤ b → b < w'.heap.size → Below w.heap.size w w' → VBlk w' b t vs → wpList P ops Q rest (a.put o.dst (.pointer (some ⟨b, 0, none⟩))) w') : wpList P ops Q (o :: rest) a w := by
  refine wpList_val hgd (v := .pointer (some ⟨w.heap.size, 0, none⟩)) (w' := w.alloc (.cells vs.toArray t)) ?_ (h _ _ (Nat.le_refl _) (by simp) ((Below.refl _ _).alloc (Nat.le_refl _) _) (heap_alloc_new _ _))
  unfold execOp
  simp only [ho, hx]
  rfl
theorem wpList_alloc_v (hgd : o.guard = none) (t : TypeId) (ho : o.op = .alloc t) (vs : List Value) (hz : ∀ w, (zeroValue t).run P w = .ok (.agg vs.toArray) w)
    (h : ∀ (b : Nat) (w' : World), w.heap.size ≤ b → b < w'.heap.size → Below w.heap.size w w' → VBlk w' b t vs → wpList P ops Q rest (a.put o.dst (.pointer (some ⟨b, 0, none⟩))) w') : wpList P ops Q (o :: rest) a w := by
  refine wpList_val hgd (v := .pointer (some ⟨w.heap.size, 0, none⟩)) (w' := w.alloc (.cells vs.toArray t)) ?_ (h _ _ (Nat.le_refl _) (by simp) ((Below.refl _ _).alloc (Nat.le_refl _) _) (heap_alloc_new _ _))
  unfold execOp
  simp only [ho, Instr.alloc, Sem.run_bind, hz, Result.andThen_ok]
  rfl
/-- a struct is stored into its variable -/
theorem wpList_store_v (hgd : o.guard = none) (t : TypeId) (x y : Operand) (ho : o.op = .store t x y) (b : Nat) (ys : List Value) (hx : a.eval x = .pointer (some ⟨b, 0, none⟩)) (hy : a.eval y = .agg ys.toArray)
    (hi : (P.info? t).map (·.size) = some ys.length) {t' : TypeId} {vs : List Value} (hb : VBlk w b t' vs) (hn : ys.length = vs.length) (h1 : ∀ v ∈ ys, v.oneCell' = true)
    (h : ∀ w', Only b w w' → VBlk w' b t' ys → wpList P ops Q rest (a.put o.dst undef) w') : wpList P ops Q (o :: rest) a w := by
  refine wpList_store_mid hgd t x y ho b 0 ys.toArray hx hy ?_ (by rw [hi]; simp) (all_oneCell_toArray h1) ?_
  · rw [List.size_toArray, hn]; exact hb.there
  · refine h _ (only_setCells _ _ _ _) ?_
    unfold VBlk
    rw [heap_setCells b t' _ 0 w vs hb (by simp [hn])]
    simp [hn]
/-- a struct is loaded -/
theorem wpList_load_r (hgd : o.guard = none) (t : TypeId) (x : Operand) (ho : o.op = .load t x) (b k : Nat) (vs : List Value) (hx : a.eval x = .pointer (some ⟨b, k, none⟩)) (d : TypeDesc) (hu : P.underlying t = some d) (hd : d.isRow = true)
    (hi : (P.info? t).map (·.size) = some vs.length) (hr : w.rangeAt b k vs) (h : wpList P ops Q rest (a.put o.dst (.agg vs.toArray)) w) : wpList P ops Q (o :: rest) a w :=
  wpList_load_mid hgd t x ho b k hx vs d hr hu hd hi h
end laws

theorem row_retv {fn : Func} {p : Tmp} {ty : TypeId} (h : fn.results = #[.cell p ty]) {R : Ending → World → Prop} {a : Act} {w : World} {b : Nat} {t : TypeId} {vs : List Value} {fs : Array Field}
    (hp : a.tmps.getD p undef = .pointer (some ⟨b, 0, none⟩)) (hb : VBlk w b t vs) (hu : Try.prog.underlying ty = some (.struct fs))
    (hi : (Try.prog.info? ty).map (·.size) = some vs.length) (hdf : a.defers = []) (hR : R (.returned (.agg vs.toArray)) w) : bodyPost Try.prog fn R .ret a w :=
  bodyPost_ret (results_cell_row h a.tmps w b t _ _ _ hp hb hu rfl (by rw [hi]; simp)) hdf hR

theorem results_ct {fn : Func} {p u : Tmp} {ty : TypeId} (h : fn.results = #[.cell p ty, .tmp u]) (tmps : Array Value) (P : Program) (w : World) :
    (results fn tmps).run P w =
      ((asAddr (tmps.getD p undef)).run P w).andThen fun a w₁ => ((loadVar ty a).run P w₁).andThen fun v w₂ => .ok (.tuple #[v, tmps.getD u undef]) w₂ := by
  simp only [results, h]
  simp [Sem.run_bind, Result.andThen]
theorem row_ct {fn : Func} {p u : Tmp} {ty : TypeId} (h : fn.results = #[.cell p ty, .tmp u]) {R : Ending → World → Prop} {a : Act} {w : World} {b : Nat} {t : TypeId} {vs : List Value} {fs : Array Field} {x : Value}
    (hp : a.tmps.getD p undef = .pointer (some ⟨b, 0, none⟩)) (hx : a.tmps.getD u undef = x) (hb : VBlk w b t vs) (hu : Try.prog.underlying ty = some (.struct fs))
    (hi : (Try.prog.info? ty).map (·.size) = some vs.length) (hdf : a.defers = []) (hR : R (.returned (.tuple #[.agg vs.toArray, x])) w) : bodyPost Try.prog fn R .ret a w := by
  have hl := run_loadVar_row (P := Try.prog) w b t ty vs.toArray (0, 0) _ hb hu rfl (by rw [hi]; simp)
  refine bodyPost_ret ?_ hdf hR
  rw [results_ct h, hp, hx]
  simp [asAddr, hl]
end Go.Proofs.Ytapchjkiiifhdaa.ce
/- Rows in memory, of whatever things lie in k cells each: how they are read, how a call owns them, what keeps them; append. -/
namespace Go.Proofs.Ytapchjkiiifhdaa.ro
open Go.ChangeShapes Go.WideShapes Go.ChangeAt Go.RowKit
open Go.Proofs.Ytapchjkiiifhdaa.ce
set_option linter.unusedVariables false

/-- how a thing lies in memory: in k cells, in blocks of the type t -/
structure Enc (α : Type) where
  put : α → List Value
  k : Nat
  t : TypeId
  len : ∀ x, (put x).length = k
  one : ∀ x, ∀ v ∈ put x, v.oneCell' = true
  pos : 0 < k

section plain
variable {α : Type} (E : Enc α)
def Enc.row (xs : List α) : List Value := xs.flatMap E.put
theorem Enc.row_nil : E.row [] = [] := rfl
theorem Enc.row_cons (x : α) (xs : List α) : E.row (x :: xs) = E.put x ++ E.row xs := by simp [Enc.row]
theorem Enc.row_one' (x : α) : E.row [x] = E.put x := by simp [Enc.row]
theorem Enc.row_append (xs ys : List α) : E.row (xs ++ ys) = E.row xs ++ E.row ys := by simp [Enc.row]
theorem Enc.row_len : ∀ xs : List α, (E.row xs).length = xs.length * E.k
  | [] => by simp [Enc.row]
  | x :: r => by rw [Enc.row_cons, List.length_append, E.len, Enc.row_len r, List.length_cons, Nat.add_mul]; omega
theorem Enc.row_cells (xs : List α) : ∀ v ∈ E.row xs, v.oneCell' = true := by
  intro v hv
  obtain ⟨x, -, hx⟩ := List.mem_flatMap.1 hv
  exact E.one x v hx
theorem Enc.row_get : ∀ (xs : List α) (i j : Nat) (hi : i < xs.length), j < E.k → (E.row xs)[i * E.k + j]? = (E.put xs[i])[j]?
  | [], i, j, hi, _ => by simp at hi
  | x :: r, 0, j, hi, hj => by
    rw [Enc.row_cons, Nat.zero_mul, Nat.zero_add, List.getElem?_append_left (by rw [E.len]; exact hj)]
    rfl
  | x :: r, i + 1, j, hi, hj => by
    rw [Enc.row_cons, List.getElem?_append_right (by rw [E.len, Nat.add_mul]; omega), E.len, show (i + 1) * E.k + j - E.k = i * E.k + j by rw [Nat.add_mul]; omega]
    exact Enc.row_get r i j (by simpa using hi) hj
theorem Enc.row_take : ∀ (xs : List α) (m : Nat), (E.row xs).take (m * E.k) = E.row (xs.take m)
  | [], m => by simp [Enc.row]
  | x :: r, 0 => by simp [Enc.row]
  | x :: r, m + 1 => by
    rw [Enc.row_cons, List.take_succ_cons, Enc.row_cons, ← Enc.row_take r m, List.take_append, E.len, List.take_of_length_le (by rw [E.len, Nat.add_mul]; omega), show (m + 1) * E.k - E.k = m * E.k by rw [Nat.add_mul]; omega]
theorem Enc.row_drop (xs : List α) (m : Nat) (hm : m ≤ xs.length) : (E.row xs).drop (m * E.k) = E.row (xs.drop m) := by
  have h : E.row xs = E.row (xs.take m) ++ E.row (xs.drop m) := by rw [← Enc.row_append, List.take_append_drop]
  have hl : (E.row (xs.take m)).length = m * E.k := by rw [Enc.row_len, List.length_take, Nat.min_eq_left hm]
  rw [h, ← hl, List.drop_left]
theorem Enc.row_set : ∀ (xs : List α) (i j : Nat) (hi : i < xs.length), j < E.k → ∀ (u : Value) (y : α), E.put y = (E.put xs[i]).set j u → (E.row xs).set (i * E.k + j) u = E.row (xs.set i y)
  | [], i, j, hi, _, _, _, _ => by simp at hi
  | x :: r, 0, j, hi, hj, u, y, hy => by
    rw [List.set_cons_zero, Enc.row_cons, Enc.row_cons, Nat.zero_mul, Nat.zero_add, List.set_append_left _ _ (by rw [E.len]; exact hj), hy]
    rfl
  | x :: r, i + 1, j, hi, hj, u, y, hy => by
    rw [List.set_cons_succ, Enc.row_cons, Enc.row_cons, List.set_append_right _ _ (by rw [E.len, Nat.add_mul]; omega), E.len, show (i + 1) * E.k + j - E.k = i * E.k + j by rw [Nat.add_mul]; omega, Enc.row_set r i j (by simpa using hi) hj u y (by simpa using hy)]
theorem Enc.row_replicate (x : α) (n : Nat) (v : Value) (h : E.put x = [v]) : E.row (List.replicate n x) = List.replicate n v := by
  induction n with
  | zero => simp [Enc.row]
  | succ n ih => rw [List.replicate_succ, Enc.row_cons, ih, h, List.replicate_succ]; rfl
end plain

theorem range_of {w w' : World} {b off : Nat} {vs : List Value} (h : w.rangeAt b off vs) (e : w'.heap[b]? = w.heap[b]?) : w'.rangeAt b off vs := fun j v hv => by
  rw [World.cell?_of_block (w := w) (w' := w') (a := ⟨b, off + j, none⟩) e]; exact h j v hv
theorem range_lt {w : World} {b off : Nat} {vs : List Value} (h : w.rangeAt b off vs) (hn : vs ≠ []) : b < w.heap.size := by
  cases vs with
  | nil => exact absurd rfl hn
  | cons v r => exact World.block_lt_of_cell? w _ (h 0 v rfl)
theorem below_grown {B : Nat} {w w' : World} {row : Option Nat} (h : w.grownBy w' row) (hB : B ≤ w.heap.size) (hr : ∀ k, row = some k → B ≤ k) : Below B w w' := Below.grown (Below.refl _ w) h hB hr

variable {α : Type}
/-- the things xs are read at the slice v -/
structure Rd (E : Enc α) (w : World) (v : Value) (xs : List α) : Prop where
  fits : ∃ a cap, v = .slice a xs.length cap ∧ xs.length ≤ cap ∧ cap ≤ maxLen ∧ (xs ≠ [] → ∃ b off, a = some ⟨b, off, none⟩ ∧ b < w.heap.size ∧ w.rangeAt b off (E.row xs))
theorem Rd.grow {E : Enc α} {w w' : World} {v : Value} {xs : List α} (r : Rd E w v xs) (hb : Below w.heap.size w w') : Rd E w' v xs := by
  obtain ⟨a, cap, e, h1, h2, h3⟩ := r.fits
  refine ⟨a, cap, e, h1, h2, fun hn => ?_⟩
  obtain ⟨b, off, e2, h4, h5⟩ := h3 hn
  exact ⟨b, off, e2, Nat.lt_of_lt_of_le h4 hb.size, range_of h5 (hb.block b h4)⟩
theorem Rd.drew {E : Enc α} {w : World} {v : Value} {xs : List α} (r : Rd E w v xs) : Rd E w.drew v xs := r.grow (Below.refl _ _).drew
theorem Rd.form {E : Enc α} {w : World} {v : Value} {xs : List α} (r : Rd E w v xs) : ∃ a cap, v = .slice a xs.length cap := by
  obtain ⟨a, cap, e, -⟩ := r.fits
  exact ⟨a, cap, e⟩
theorem Rd.len {E : Enc α} {w : World} {v : Value} {xs : List α} (r : Rd E w v xs) : xs.length ≤ 9223372036854775807 := by
  obtain ⟨a, cap, e, h1, h2, h3⟩ := r.fits
  unfold maxLen at h2; omega
theorem Rd.cap {E : Enc α} {w : World} {a : Option Addr} {n cap : Nat} {xs : List α} (r : Rd E w (.slice a n cap) xs) : n = xs.length ∧ n ≤ cap ∧ cap ≤ 9223372036854775807 := by
  obtain ⟨a', cap', e, h1, h2, h3⟩ := r.fits
  cases e
  unfold maxLen at h2; exact ⟨rfl, h1, h2⟩
theorem Rd.cell {E : Enc α} {w : World} {n cap : Nat} {a : Option Addr} {xs : List α} (r : Rd E w (.slice a n cap) xs) (i j : Nat) (hi' : i < xs.length) (hj : j < E.k) :
    ∃ b off, a = some ⟨b, off, none⟩ ∧ b < w.heap.size ∧ w.cell? ⟨b, off + (i * E.k + j), none⟩ = some ((E.put xs[i])[j]'(by rw [E.len]; exact hj)) := by
  obtain ⟨a', cap', e, h1, h2, h3⟩ := r.fits
  cases e
  obtain ⟨b, off, rfl, h4, h5⟩ := h3 (by intro e; subst e; simp at hi')
  refine ⟨b, off, rfl, h4, h5 _ _ ?_⟩
  rw [E.row_get xs i j hi' hj]
  exact List.getElem?_eq_getElem _
theorem Rd.start {E : Enc α} {w : World} {n cap : Nat} {a : Option Addr} {xs : List α} (r : Rd E w (.slice a n cap) xs) (h : 1 ≤ xs.length) : ∃ b off, a = some ⟨b, off, none⟩ ∧ b < w.heap.size ∧ w.rangeAt b off (E.row xs) := by
  obtain ⟨a', cap', e, h1, h2, h3⟩ := r.fits
  cases e
  exact h3 (by intro e; subst e; simp at h)
theorem rd_zero (E : Enc α) (w : World) (a : Option Addr) (cap : Nat) (hc : cap ≤ maxLen) : Rd E w (.slice a 0 cap) [] := ⟨a, cap, rfl, Nat.zero_le _, hc, fun h => absurd rfl h⟩
theorem Rd.take {E : Enc α} {w : World} {b off n cap : Nat} {xs : List α} (r : Rd E w (.slice (some ⟨b, off, none⟩) n cap) xs) (m : Nat) (hm : m ≤ xs.length) : Rd E w (.slice (some ⟨b, off, none⟩) m cap) (xs.take m) := by
  obtain ⟨a', cap', e, h1, h2, h3⟩ := r.fits
  cases e
  have hl : (xs.take m).length = m := by rw [List.length_take]; omega
  refine ⟨_, cap, by rw [hl], by omega, h2, fun hn => ?_⟩
  have hx : xs ≠ [] := fun e => hn (by rw [e]; simp)
  obtain ⟨b', off', e2, h4, h5⟩ := h3 hx
  cases e2
  refine ⟨b, off, rfl, h4, fun j u hj => h5 j u ?_⟩
  rw [← E.row_take, List.getElem?_take] at hj
  split at hj
  · exact hj
  · cases hj
theorem Rd.drop {E : Enc α} {w : World} {b off n cap : Nat} {xs : List α} (r : Rd E w (.slice (some ⟨b, off, none⟩) n cap) xs) (m : Nat) (hm : m ≤ xs.length) : Rd E w (.slice (some ⟨b, off + m * E.k, none⟩) (n - m) (cap - m)) (xs.drop m) := by
  obtain ⟨a', cap', e, h1, h2, h3⟩ := r.fits
  cases e
  have hl : (xs.drop m).length = xs.length - m := by rw [List.length_drop]
  refine ⟨_, cap - m, by rw [hl], by omega, by omega, fun hn => ?_⟩
  have hx : xs ≠ [] := fun e => hn (by rw [e]; simp)
  obtain ⟨b', off', e2, h4, h5⟩ := h3 hx
  cases e2
  refine ⟨b, off + m * E.k, rfl, h4, fun j u hj => ?_⟩
  rw [Nat.add_assoc]
  refine h5 (m * E.k + j) u ?_
  rw [← E.row_drop xs m hm, List.getElem?_drop] at hj
  exact hj
/-- the rest of a slice: at the end of its capacity it begins where the slice does -/
theorem Rd.rest {E : Enc α} {w : World} {b off n cap : Nat} {xs : List α} (r : Rd E w (.slice (some ⟨b, off, none⟩) n cap) xs) (m : Nat) (hm : m ≤ xs.length) :
    (m < cap ∧ Hid (Rd E w (.slice (some ⟨b, off + m * E.k, none⟩) (n - m) (cap - m)) (xs.drop m))) ∨ (m = cap ∧ n = m ∧ xs.drop m = [] ∧ Hid (Rd E w (.slice (some ⟨b, off, none⟩) 0 0) (xs.drop m))) := by
  have hd := r.drop m hm
  obtain ⟨e, h1, h2⟩ := r.cap
  by_cases hc : m < cap
  · exact .inl ⟨hc, hd⟩
  · have e2 : xs.drop m = [] := List.drop_eq_nil_of_le (by omega)
    refine .inr ⟨by omega, by omega, e2, ?_⟩
    rw [e2]
    exact rd_zero E w _ 0 (Nat.zero_le _)

/-- the things xs lie in a row of their own, in a block from lo up to hi; or there are none, and there is no room -/
structure Own (E : Enc α) (w : World) (lo hi : Nat) (v : Value) (xs : List α) : Prop where
  row : (xs = [] ∧ ∃ a, v = .slice a 0 0) ∨ ∃ g cap cur, v = .slice (some ⟨g, 0, none⟩) xs.length cap ∧ (lo ≤ g ∧ g < hi) ∧ w.heap[g]? = some (.cells cur E.t (0, 0)) ∧ xs.length ≤ cap ∧ cap ≤ maxLen ∧ cur.size = cap * E.k ∧ cur.toList.take (xs.length * E.k) = E.row xs
theorem Own.keepT {E : Enc α} {w w' : World} {lo hi : Nat} {v : Value} {xs : List α} (o : Own E w lo hi v xs) (s : ∀ g cur, w.heap[g]? = some (.cells cur E.t (0, 0)) → lo ≤ g → g < hi → w'.heap[g]? = w.heap[g]?) : Own E w' lo hi v xs := by
  rcases o.row with h | ⟨g, cap, cur, e, hg, hb, h⟩
  · exact ⟨.inl h⟩
  · exact ⟨.inr ⟨g, cap, cur, e, hg, by rw [s g cur hb hg.1 hg.2]; exact hb, h⟩⟩
theorem Own.keep {E : Enc α} {w w' : World} {lo hi : Nat} {v : Value} {xs : List α} (o : Own E w lo hi v xs) (s : ∀ k, lo ≤ k → k < hi → w'.heap[k]? = w.heap[k]?) : Own E w' lo hi v xs := o.keepT fun g _ _ h1 h2 => s g h1 h2
theorem Own.grow {E : Enc α} {w w' : World} {lo hi : Nat} {v : Value} {xs : List α} (o : Own E w lo hi v xs) (hb : Below w.heap.size w w') : Own E w' lo hi v xs := o.keepT fun g cur h _ _ => hb.block g (Array.getElem?_eq_some_iff.1 h).1
theorem Own.below {E : Enc α} {w w' : World} {lo hi B : Nat} {v : Value} {xs : List α} (o : Own E w lo hi v xs) (hb : Below B w w') (hB : hi ≤ B) : Own E w' lo hi v xs := o.keep fun k _ h2 => hb.block k (by omega)
theorem Own.within {E : Enc α} {w w' : World} {lo hi l2 h2 : Nat} {v : Value} {xs : List α} (o : Own E w lo hi v xs) (hw : Within l2 h2 w w') (hd : hi ≤ l2 ∨ h2 ≤ lo) : Own E w' lo hi v xs := o.keepT fun g cur h _ _ => hw.block g (Array.getElem?_eq_some_iff.1 h).1 (by omega)
theorem Own.only {E : Enc α} {w w' : World} {lo hi b : Nat} {v : Value} {xs : List α} {t : TypeId} {vs : List Value} (o : Own E w lo hi v xs) (h : Only b w w') (hb : VBlk w b t vs) (ht : E.t ≠ t) : Own E w' lo hi v xs := o.keepT fun g cur hg _ _ => h.2.1 g fun e => by
  rw [e] at hg
  have := hg.symm.trans hb
  simp at this
  exact ht this.2
theorem Own.wide {E : Enc α} {w : World} {lo hi lo' hi' : Nat} {v : Value} {xs : List α} (o : Own E w lo hi v xs) (h1 : lo' ≤ lo) (h2 : hi ≤ hi') : Own E w lo' hi' v xs := by
  rcases o.row with h | ⟨g, cap, cur, e, hg, hb, h⟩
  · exact ⟨.inl h⟩
  · exact ⟨.inr ⟨g, cap, cur, e, ⟨by omega, by omega⟩, hb, h⟩⟩
theorem Own.top {E : Enc α} {w : World} {lo hi : Nat} {v : Value} {xs : List α} (o : Own E w lo hi v xs) : Own E w lo w.heap.size v xs := by
  rcases o.row with h | ⟨g, cap, cur, e, hg, hb, h⟩
  · exact ⟨.inl h⟩
  · exact ⟨.inr ⟨g, cap, cur, e, ⟨hg.1, (Array.getElem?_eq_some_iff.1 hb).1⟩, hb, h⟩⟩
theorem own_zero (E : Enc α) (w : World) (lo hi : Nat) (a : Option Addr) : Own E w lo hi (.slice a 0 0) [] := ⟨.inl ⟨rfl, a, rfl⟩⟩
theorem Own.rd {E : Enc α} {w : World} {lo hi : Nat} {v : Value} {xs : List α} (o : Own E w lo hi v xs) : Rd E w v xs := by
  rcases o.row with ⟨rfl, a, rfl⟩ | ⟨g, cap, cur, rfl, hg, hb, hc1, hc2, hc3, htk⟩
  · exact rd_zero E w a 0 (Nat.zero_le _)
  · refine ⟨some ⟨g, 0, none⟩, cap, rfl, hc1, hc2, fun _ => ⟨g, 0, rfl, (Array.getElem?_eq_some_iff.1 hb).1, fun j u hj => ?_⟩⟩
    rw [cell_of_row _ _ _ _ _ _ hb]
    rw [← htk, List.getElem?_take] at hj
    split at hj
    · simpa using hj
    · cases hj
theorem Own.slice {E : Enc α} {w : World} {lo hi : Nat} {v : Value} {xs : List α} (o : Own E w lo hi v xs) : ∃ a n k, v = .slice a n k := by
  obtain ⟨a, cap, e⟩ := o.rd.form
  exact ⟨a, _, cap, e⟩
theorem Own.form {E : Enc α} {w : World} {lo hi : Nat} {v : Value} {xs : List α} (o : Own E w lo hi v xs) (hn : 1 ≤ xs.length) : ∃ g cap, v = .slice (some ⟨g, 0, none⟩) xs.length cap ∧ lo ≤ g ∧ g < hi ∧ g < w.heap.size := by
  rcases o.row with ⟨rfl, -⟩ | ⟨g, cap, cur, rfl, hg, hb, -⟩
  · simp at hn
  · exact ⟨g, cap, rfl, hg.1, hg.2, (Array.getElem?_eq_some_iff.1 hb).1⟩
theorem Own.cell {E : Enc α} {w : World} {lo hi n cap : Nat} {a : Option Addr} {xs : List α} (o : Own E w lo hi (.slice a n cap) xs) (i j : Nat) (hi' : i < xs.length) (hj : j < E.k) :
    ∃ g, a = some ⟨g, 0, none⟩ ∧ (lo ≤ g ∧ g < hi) ∧ w.cell? ⟨g, i * E.k + j, none⟩ = some ((E.put xs[i])[j]'(by rw [E.len]; exact hj)) ∧ w.frozen? ⟨g, i * E.k + j, none⟩ = false := by
  obtain ⟨b, off, e, -, hc⟩ := o.rd.cell i j hi' hj
  rcases o.row with ⟨rfl, -⟩ | ⟨g, cap', cur, e', hg, hb, -⟩
  · simp at hi'
  · cases e'
    cases e
    rw [Nat.zero_add] at hc
    exact ⟨_, rfl, hg, hc, frozen_of_row _ _ _ _ _ hb⟩
theorem Own.set {E : Enc α} {w : World} {lo hi g n cap : Nat} {xs : List α} (o : Own E w lo hi (.slice (some ⟨g, 0, none⟩) n cap) xs) (i j : Nat) (hi' : i < xs.length) (hj : j < E.k) (u : Value) (y : α) (hy : E.put y = (E.put xs[i]).set j u) :
    Own E (w.setCell ⟨g, i * E.k + j, none⟩ u) lo hi (.slice (some ⟨g, 0, none⟩) n cap) (xs.set i y) := by
  rcases o.row with ⟨rfl, -⟩ | ⟨g', cap', cur, e', hg, hb, hc1, hc2, hc3, htk⟩
  · simp at hi'
  · cases e'
    refine ⟨.inr ⟨g, cap, cur.setIfInBounds (i * E.k + j) u, by rw [List.length_set], hg, heap_setCell_same _ _ _ _ _ _ hb, by rw [List.length_set]; exact hc1, hc2, by simpa using hc3, ?_⟩⟩
    rw [Array.toList_setIfInBounds, List.length_set, List.take_set, htk, E.row_set xs i j hi' hj u y hy]
theorem Own.owns {E : Enc α} {w : World} {lo hi : Nat} {v : Value} {xs : List α} (o : Own E w lo hi v xs) : (xs = [] ∧ ∃ a, v = .slice a 0 0) ∨ w.ownsRow lo E.t E.k v xs.length (E.row xs) := by
  rcases o.row with h | ⟨g, cap, cur, e, hg, hb, h1, h2, h3, h4⟩
  · exact .inl h
  · exact .inr ⟨E.row_len xs, .inr ⟨g, cap, cur, e, hg.1, hb, h1, h2, h3, h4⟩⟩
theorem own_of {E : Enc α} {w : World} {lo : Nat} {v : Value} {xs : List α} (h : w.ownsRow lo E.t E.k v xs.length (E.row xs)) : Own E w lo w.heap.size v xs := by
  rcases h.2 with ⟨e, h0⟩ | ⟨g, cap, cur, e, hg, hb, h1, h2, h3, h4⟩
  · exact ⟨.inl ⟨List.eq_nil_of_length_eq_zero h0, none, e⟩⟩
  · exact ⟨.inr ⟨g, cap, cur, e, ⟨hg, (Array.getElem?_eq_some_iff.1 hb).1⟩, hb, h1, h2, h3, h4⟩⟩

/-- what the program knows of the type -/
structure Info (E : Enc α) : Prop where
  ex : ∃ (i : TypeInfo) (z : Value), Try.prog.info? E.t = some i ∧ i.zero = some z ∧ i.size = E.k ∧ i.bytes ≤ 1024 ∧ z.cells.size = E.k

/-- of the blocks that were there only such of the type t from lo on may be turned -/
structure Ty (lo : Nat) (t : TypeId) (w w' : World) : Prop where
  low : Below lo w w'
  keep : ∀ (k : Nat) (cur : Array Value) (t' : TypeId) (f : Nat × Nat), w.heap[k]? = some (.cells cur t' f) → t' ≠ t → w'.heap[k]? = w.heap[k]?
theorem Ty.refl (lo : Nat) (t : TypeId) (w : World) : Ty lo t w w := ⟨Below.refl _ _, fun _ _ _ _ _ _ => rfl⟩
theorem Ty.trans {lo : Nat} {t : TypeId} {x y z : World} (h : Ty lo t x y) (k : Ty lo t y z) : Ty lo t x z := ⟨h.low.trans k.low, fun j cur t' f hj ht => (k.keep j cur t' f (by rw [h.keep j cur t' f hj ht]; exact hj) ht).trans (h.keep j cur t' f hj ht)⟩
theorem Ty.of_below {lo : Nat} {t : TypeId} {w w' : World} (h : Below w.heap.size w w') (hl : lo ≤ w.heap.size) : Ty lo t w w' := ⟨h.mono hl, fun k cur t' f hk _ => h.block k (Array.getElem?_eq_some_iff.1 hk).1⟩
theorem Ty.vblk {lo : Nat} {t t' : TypeId} {w w' : World} {b : Nat} {vs : List Value} (h : Ty lo t w w') (hb : VBlk w b t' vs) (hn : t' ≠ t) : VBlk w' b t' vs := hb.of (h.keep b _ t' _ hb hn)
theorem Ty.own {lo l2 h2 : Nat} {t : TypeId} {E : Enc α} {w w' : World} {v : Value} {xs : List α} (h : Ty lo t w w') (o : Own E w l2 h2 v xs) (hn : E.t ≠ t) : Own E w' l2 h2 v xs := o.keepT fun g cur hg _ _ => h.keep g cur E.t _ hg hn

theorem run_append_zero {P : Program} (w : World) (t ty e : TypeId) (i : TypeInfo) (ht : P.underlying t = some (.slice e)) (hi : P.info? e = some i) (base : Option Addr) (n c : Nat) (hn : n ≤ c) (b' : Option Addr) (c' : Nat) :
    (Builtin.append_ #[t, t] ty #[.slice base n c, .slice b' 0 c']).run P w = .ok (.slice base n c) w := by
  have hf : (Builtin.firstCells i.size 0 (.slice b' 0 c')).run P w = .ok #[] w := by
    cases b' with
    | none => exact run_firstCells_none w i.size 0 0 c'
    | some a => exact run_firstCells_some w i.size 0 a 0 c' [] (by simp) (fun j v hj => by simp at hj)
  cases base <;> simp [Builtin.append_, run_underlying ht, sizeOf, typeInfo, hi, Builtin.lenOf, hn, hf, storeCells]

/-- things are appended to a row that the call owns -/
theorem run_append_g {E : Enc α} (I : Info E) (w : World) (t ty : TypeId) (ht : Try.prog.underlying t = some (.slice E.t)) (lo hi : Nat) (v : Value) (xs : List α) (o : Own E w lo hi v xs) (hlo : lo ≤ w.heap.size) (vx : Value) (ys : List α) (r : Rd E w vx ys) (hlen : xs.length + ys.length ≤ 1073741824) :
    ∃ v' w', (Builtin.append_ #[t, t] ty #[v, vx]).run Try.prog w = .ok v' w' ∧ Own E w' lo w'.heap.size v' (xs ++ ys) ∧ Ty lo E.t w w' := by
  obtain ⟨i0, z, hi0, hz0, hz1, hz2, hz3⟩ := I.ex
  obtain ⟨ax, cx, rfl, hx1, hx2, hx3⟩ := r.fits
  have hby : (xs.length + ys.length) * i0.bytes ≤ 140737488355328 := Nat.le_trans (Nat.mul_le_mul hlen hz2) (by omega)
  by_cases h0 : ys = []
  · subst h0
    obtain ⟨a, cap, rfl, h1, h2, -⟩ := o.rd.fits
    exact ⟨_, w, run_append_zero w t ty E.t i0 ht hi0 a xs.length cap h1 ax cx, by simpa using o.top, Ty.refl _ _ _⟩
  · obtain ⟨b, off, rfl, hb, hr⟩ := hx3 h0
    have hnews : ∀ j u, (E.row ys)[j]? = some u → w.cell? ((⟨b, off, none⟩ : Addr).add j) = some u := fun j u hj => by rw [Addr.add_mid]; exact hr j u hj
    have hy1 : 0 < ys.length := List.length_pos_iff.2 h0
    have grown : ∀ row : Option Nat, (∀ k, row = some k → lo ≤ k ∧ ∃ cur f, w.heap[k]? = some (.cells cur E.t f)) → ∀ w', w.grownBy w' row → Ty lo E.t w w' := fun row hrow w' hg =>
      ⟨below_grown hg hlo (fun k hk => (hrow k hk).1), fun k cur t' f hk hn => hg.block k (Array.getElem?_eq_some_iff.1 hk).1 (fun e => by
        obtain ⟨-, cur', f', h'⟩ := hrow k e.symm
        have := hk.symm.trans h'
        simp at this
        exact hn this.2.1)⟩
    rcases o.owns with ⟨rfl, a, rfl⟩ | ow
    · cases a with
      | none =>
        obtain ⟨v', w', h1, h2, h3, -⟩ := run_append_own (P := Try.prog) w lo t ty E.t i0 z E.k i0.bytes ht hi0 hz0 hz1 rfl hz3 E.pos (.slice none 0 0) 0 [] (World.ownsRow_nil w lo E.t E.k) ⟨b, off, none⟩ ys.length cx (E.row ys) (E.row_len ys) hnews (E.row_cells ys) (by unfold maxLen; simp at hlen; omega) (by simpa using hby) hlo
        refine ⟨v', w', h1, own_of (by simpa using h2), grown _ (fun k hk => by cases hk) w' h3⟩
      | some g =>
        obtain ⟨v', w', h1, h2, h3⟩ := run_append_arg_grows (P := Try.prog) (w := w) t ty E.t i0 z E.k i0.bytes ht hi0 hz0 hz1 rfl hz3 E.pos g 0 0 [] (by simp) (fun j u hj => by simp at hj) ⟨b, off, none⟩ ys.length cx (E.row ys) (E.row_len ys) hnews (by omega) (by unfold maxLen; simp at hlen; omega) (by simpa using hby)
        refine ⟨v', w', h1, ?_, grown _ (fun k hk => by cases hk) w' h3⟩
        have h4 : Own E w' w.heap.size w'.heap.size v' ys := own_of (by simpa using h2)
        exact (by simpa using h4.wide hlo (Nat.le_refl _))
    · obtain ⟨v', w', h1, h2, h3, -⟩ := run_append_own (P := Try.prog) w lo t ty E.t i0 z E.k i0.bytes ht hi0 hz0 hz1 rfl hz3 E.pos v xs.length (E.row xs) ow ⟨b, off, none⟩ ys.length cx (E.row ys) (E.row_len ys) hnews (E.row_cells ys) (by unfold maxLen; omega) hby hlo
      rw [← E.row_append, ← List.length_append] at h2
      refine ⟨v', w', h1, own_of h2, grown _ (fun k hk => ⟨(ow.lt k hk).1, ?_⟩) w' h3⟩
      rcases ow.2 with ⟨rfl, -⟩ | ⟨g, cap, cur, rfl, -, hb', -⟩
      · cases hk
      · cases hk
        exact ⟨cur, _, hb'⟩

section laws
variable {ops : Array Oper} {rest : List Oper} {o : Oper} {a : Act} {w : World} {Q : Exit → Act → World → Prop} {K : Act → World → Prop} {X : Prop}
theorem wpList_append_g {E : Enc α} (I : Info E) (hgd : o.guard = none) (s x : Operand) (t : TypeId) (ho : o.op = .call { callee := .builtin .append, args := #[s, x], argTypes := #[t, t] }) (ht : Try.prog.underlying t = some (.slice E.t)) (lo hi : Nat) (v : Value) (xs : List α) (hs : a.eval s = v) (own : Own E w lo hi v xs) (hlo : lo ≤ w.heap.size) (vx : Value) (ys : List α) (hx : a.eval x = vx) (r : Rd E w vx ys) (hlen : xs.length + ys.length ≤ 1073741824)
    (h : ∀ v' w', Own E w' lo w'.heap.size v' (xs ++ ys) → Ty lo E.t w w' → wpList Try.prog ops Q rest (a.put o.dst v') w') : wpList Try.prog ops Q (o :: rest) a w := by
  obtain ⟨v', w', h1, h2, h3⟩ := run_append_g I w t o.type ht lo hi v xs own hlo vx ys r hlen
  refine wpList_val hgd (v := v') (w' := w') ?_ (h v' w' h2 h3)
  simp [execOp, ho, resolve, invoke, builtin, hs, hx, h1, Result.andThen]
theorem step_append_g {E : Enc α} (I : Info E) (hgd : o.guard = none) (s x : Operand) (t : TypeId) (ho : o.op = .call { callee := .builtin .append, args := #[s, x], argTypes := #[t, t] }) (ht : Try.prog.underlying t = some (.slice E.t)) (lo hi : Nat) (v : Value) (xs : List α) (hs : a.eval s = v) (own : Own E w lo hi v xs) (hlo : lo ≤ w.heap.size) (vx : Value) (ys : List α) (hx : a.eval x = vx) (r : Rd E w vx ys) (hlen : xs.length + ys.length ≤ 1073741824)
    (h : ∀ v' w', Own E w' lo w'.heap.size v' (xs ++ ys) → Ty lo E.t w w' → K (a.put o.dst v') w') : if Region.wanted o (yielded ops a.tmps) = true then Oper.wp Try.prog o a w K Q else X := by
  obtain ⟨v', w', h1, h2, h3⟩ := run_append_g I w t o.type ht lo hi v xs own hlo vx ys r hlen
  refine step_val hgd (v := v') (w' := w') ?_ (h v' w' h2 h3)
  simp [execOp, ho, resolve, invoke, builtin, hs, hx, h1, Result.andThen]
theorem wpList_skp (hgd : o.guard = none) {w' : World} (hr : (execOp a.eval o).run Try.prog w = .ok .skip w') (h : wpList Try.prog ops Q rest (a.put o.dst undef) w') : wpList Try.prog ops Q (o :: rest) a w :=
  wpList_plain hgd fun K hK => by unfold Oper.wp; rw [hr]; exact hK _ _ h
end laws
/-- one new thing lies in a block of its own -/
theorem rd_new {E : Enc α} (w : World) (x : α) (cs : Array Value) (h : E.put x = cs.toList) (f : Nat × Nat := (0, 0)) : Rd E (w.alloc (.cells cs E.t)) (.slice (some ⟨w.heap.size, 0, none⟩) 1 1) [x] := by
  refine ⟨_, 1, rfl, Nat.le_refl _, by unfold maxLen; omega, fun _ => ⟨w.heap.size, 0, rfl, by simp, fun j u hj => ?_⟩⟩
  rw [Enc.row_one', h] at hj
  rw [cell_of_row _ _ _ _ _ _ (heap_alloc_new w (.cells cs E.t))]
  simpa using hj
theorem vblk_grow {w w' : World} {b : Nat} {t : TypeId} {vs : List Value} (h : VBlk w b t vs) (hb : Below w.heap.size w w') : VBlk w' b t vs := h.of (hb.block b h.lt)
theorem vblk_only {w w' : World} {b b' : Nat} {t : TypeId} {vs : List Value} (h : VBlk w b t vs) (ho : Only b' w w') (hn : b ≠ b') : VBlk w' b t vs := h.of (ho.2.1 b hn)
theorem only_set (w : World) (b j : Nat) (u : Value) : Only b w (w.setCell ⟨b, j, none⟩ u) := only_setCells w b [u] j
end Go.Proofs.Ytapchjkiiifhdaa.ro
