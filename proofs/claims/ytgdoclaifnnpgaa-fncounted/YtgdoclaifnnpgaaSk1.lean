/- Contracts of the program's rows of counts, which are arrays: each answers as a plain function on lists of 16 integers; only new memory is written. -/
import Derived.Test.YtgdoclaifnnpgaaSkLaws
import Derived.ChangeKeysEq
import Derived.Deep.RegionHeld3
namespace Go.Proofs.Ytgdoclaifnnpgaa.sk
open Go.ChangeShapes Go.WideShapes Go.ChangeAt Go.RowKit
set_option linter.unusedVariables false

def bnd (x : Int) : Int := min (max x 0) 15
theorem size52 : (Try.prog.info? 52).map (·.size) = some 16 := by kernel_rfl
theorem size54 : (Try.prog.info? 54).map (·.size) = some 64 := by kernel_rfl
theorem zero52 (w : World) : (zeroValue 52).run Try.prog w = .ok (arr (List.replicate 16 0)) w := Try.zeroValue52 w
theorem zero54 (w : World) : (zeroValue 54).run Try.prog w = .ok (arr (List.replicate 64 0)) w := Try.zeroValue54 w

theorem all16 {xs : List Int} (hx : xs.length = 16) : xs = (xs.drop 0).take 16 := by simp [← hx]
theorem all64 {xs : List Int} (hx : xs.length = 64) : xs = (xs.drop 0).take 64 := by simp [← hx]

section idx
variable {P : Program} {ops : Array Oper} {rest : List Oper} {o : Oper} {a : Act} {w : World} {Q : Exit → Act → World → Prop}
theorem wpList_index_int (hgd : o.guard = none) (t : TypeId) (x y : Operand) (ho : o.op = .index t x y) (xs : List Int) (i n : Nat) (hx : a.eval x = arr xs) (hy : a.eval y = .int .i64 i)
    {e : TypeId} (hu : P.underlying t = some (.array n e)) (hz : ∀ w, (sizeOf e).run P w = .ok 1 w) (ha : ∀ w, (isAgg e).run P w = .ok false w) (hi : i < n) (hn : xs.length = n) (z : Int) (hzz : Hid (xs.getD i 0 = z))
    (h : wpList P ops Q rest (a.put o.dst (.int .i64 z)) w) : wpList P ops Q (o :: rest) a w := by
  obtain rfl := hzz.out
  refine wpList_val hgd ?_ h
  have h1 : (0 : Int) ≤ (i : Int) ∧ (i : Int) < (n : Int) := by omega
  have h2 : (ints xs)[i]? = some (.int .i64 (xs.getD i 0)) := by simp [ints, List.getD_eq_getElem?_getD, hn, hi]
  unfold execOp
  simp [ho, hx, hy, Instr.index, asIntOf, run_underlying hu, part, hz, ha, h2, hi]
theorem wpList_index_arr (hgd : o.guard = none) (t : TypeId) (x y : Operand) (ho : o.op = .index t x y) (xs : List Int) (i n m : Nat) (hx : a.eval x = arr xs) (hy : a.eval y = .int .i64 i)
    {e : TypeId} (hu : P.underlying t = some (.array n e)) (hz : ∀ w, (sizeOf e).run P w = .ok m w) (ha : ∀ w, (isAgg e).run P w = .ok true w) (hi : i < n) (ys : List Int) (hys : (xs.drop (i * m)).take m = ys)
    (h : wpList P ops Q rest (a.put o.dst (arr ys)) w) : wpList P ops Q (o :: rest) a w := by
  subst hys
  refine wpList_val hgd ?_ h
  have h2 : (ints xs).toArray.extract (i * m) (i * m + m) = (ints ((xs.drop (i * m)).take m)).toArray := by
    simp [ints, List.map_drop, List.map_take]
  unfold execOp
  simp [ho, hx, hy, Instr.index, asIntOf, run_underlying hu, part, hz, ha, hi]
  simpa using h2
end idx

/-- the first i counts are done -/
def upto (f : Int → Int) (xs : List Int) (i : Nat) : List Int := (xs.take i).map f ++ xs.drop i
theorem upto_len (f : Int → Int) (xs : List Int) (i : Nat) : (upto f xs i).length = xs.length := by simp [upto]; omega
theorem upto_zero (f : Int → Int) (xs : List Int) : upto f xs 0 = xs := by simp [upto]
theorem upto_all (f : Int → Int) (xs : List Int) (i : Nat) (h : xs.length ≤ i) : upto f xs i = xs.map f := by
  simp [upto, List.take_of_length_le h, List.drop_eq_nil_of_le h]
theorem upto_step (f : Int → Int) (xs : List Int) (i : Nat) (h : i < xs.length) : (upto f xs i).set i (f (xs.getD i 0)) = upto f xs (i + 1) := by
  apply List.ext_getElem?
  intro j
  simp only [upto, List.getElem?_set, List.getElem?_append, List.length_map, List.length_take, List.length_append, List.length_drop, List.getElem?_map, List.getElem?_take, List.getElem?_drop]
  have hd : xs.getD i 0 = xs[i] := by simp [List.getD_eq_getElem?_getD, h]
  have hm : min i xs.length = i := by omega
  have hm1 : min (i + 1) xs.length = i + 1 := by omega
  rw [hm, hm1]
  by_cases e : i = j
  · subst e
    rw [if_pos rfl, if_pos (by omega), if_pos (by omega), if_pos (by omega), hd]
    simp [h]
  · rw [if_neg e]
    by_cases l : j < i
    · rw [if_pos l, if_pos l, if_pos (by omega), if_pos (by omega)]
    · rw [if_neg l, if_neg (by omega), show i + (j - i) = i + 1 + (j - (i + 1)) by omega]

theorem bnd_if (x : Int) : (if 15 < if x < 0 then 0 else x then 15 else if x < 0 then 0 else x) = bnd x := by
  unfold bnd
  split <;> split at * <;> omega
theorem row_ret {fn : Func} {p : Tmp} {ty : TypeId} (h : fn.results = #[.cell p ty]) {R : Ending → World → Prop} {a : Act} {w : World} {b : Nat} {t : TypeId} {xs : List Int} {n : Nat} {e : TypeId}
    (hp : a.tmps.getD p undef = .pointer (some ⟨b, 0, none⟩)) (hb : Blk w b t xs) (hu : Try.prog.underlying ty = some (.array n e))
    (hi : (Try.prog.info? ty).map (·.size) = some xs.length) (hdf : a.defers = []) (hR : R (.returned (arr xs)) w) : bodyPost Try.prog fn R .ret a w :=
  bodyPost_ret (results_cell_row h a.tmps w b t _ _ _ hp hb hu rfl (by rw [hi, ints_size])) hdf hR

/-- the two functions that go along a row, each count by itself -/
theorem bounded_any (xs : List Int) (hx : xs.length = 16) (w : World) :
    Calls Try.prog 59 #[arr xs] w fun e w' => e = .returned (arr (xs.map bnd)) ∧ Below w.heap.size w w' := by
  go_enter Try.func59, Try.ntmps59
  go_wp2_with (first | (refine wpList_box_arr rfl 52 _ rfl xs rfl ?_; intro b w1 hb hw1 hB1 hK1) | (refine wpList_alloc_arr rfl 52 rfl _ zero52 ?_; intro b2 w2 hb2 hw2 hB2 hK2; replace hK1 := hK1.below hB2 hw1) | (refine wpList_load_arr rfl 52 _ rfl b 0 16 rfl _ Try.underlying52 rfl size52 hK1 (by omega) xs (all16 hx) ?_))
  have hB : Below w.heap.size w w2 := hB1.trans (hB2.mono hB1.size)
  have hne : b2 ≠ b := by omega
  go_loopw [6] (fun v wr => ∃ i : Nat, i ≤ 16 ∧ v = .int .i64 i ∧ Blk wr b 52 (upto bnd xs i) ∧ Blk wr b2 52 (List.replicate 16 0) ∧ Below w.heap.size w wr) (fun v _ => 16 - (intOf v).toNat)
  case atStart => exact ⟨0, by omega, rfl, by rw [upto_zero]; exact hK1, hK2, hB⟩
  case round =>
    obtain ⟨i, hi, rfl, hb1, hb2', hBr⟩ := hrel
    by_cases hlt : i < 16
    · have hc := hb1.cell i (by rw [upto_len]; omega)
      have hf := hb1.frozen i
      obtain ⟨z, hz⟩ : ∃ z, Hid (xs.getD i 0 = z) := ⟨_, rfl⟩
      go_wp2_with (first | (refine wpList_index_int rfl 52 _ _ rfl xs i 16 rfl rfl Try.underlying52 Try.sizeOf2 Try.isAgg2 hlt hx z hz ?_))
      go_roundw
      case rel =>
        rw [bnd_if]
        refine ⟨i + 1, by omega, by go_num, ?_, hb2'.of (heap_setCell_other _ _ _ _ hne), hBr.setCell hb _⟩
        rw [← upto_step bnd xs i (by omega), hz.out]
        exact hb1.set i _
      case measure => simp [intOf]; omega
    · obtain rfl : i = 16 := by omega
      rw [upto_all _ _ _ (by omega)] at hb1
      have hlen : (xs.map bnd).length = 16 := by simp [hx]
      go_wp2_with (first | (refine wpList_load_arr rfl 52 _ rfl b 0 16 rfl _ Try.underlying52 rfl size52 hb1 (by omega) (xs.map bnd) (all16 hlen) ?_) | (refine wpList_store_arr rfl 52 _ _ rfl b2 0 (xs.map bnd) rfl rfl (by rw [hlen]; exact size52) hb2' (by rw [hlen]; simp) ?_; intro w3 hO3 hK3; rw [put_all _ _ (by rw [hlen]; simp)] at hK3))
      refine row_ret rfl rfl hK3 Try.underlying52 (by rw [hlen]; exact size52) rfl ⟨rfl, hBr.trans (hO3.2.2 _ (by omega))⟩


theorem run_eqItems_ints {P : Program} (w : World) (d : Nat) {e : TypeId} (hu : P.underlying e = some (.int .i64)) (xs ys : List Int) : ∀ (is : List Nat), (∀ i ∈ is, i < xs.length ∧ i < ys.length) →
    (Op.eqItems (d + 1) e 1 (ints xs).toArray (ints ys).toArray is).run P w = .ok (is.all fun i => xs.getD i 0 == ys.getD i 0) w
  | [], _ => by simp [Op.eqItems]
  | i :: is, h => by
    have h0 := h i (by simp)
    have ih := run_eqItems_ints w d hu xs ys is (fun j hj => h j (by simp [hj]))
    have ha : (isAgg e).run P w = .ok false w := by unfold isAgg; rw [Sem.run_bind, run_underlying hu w]; rfl
    have p1 : (part e (ints xs).toArray (i * 1)).run P w = .ok (.int .i64 (xs.getD i 0)) w := by
      simp [part, ha, ints, h0.1]
    have p2 : (part e (ints ys).toArray (i * 1)).run P w = .ok (.int .i64 (ys.getD i 0)) w := by
      simp [part, ha, ints, h0.2]
    have p3 : (Op.equalIn (d + 1) e (.int .i64 (xs.getD i 0)) (.int .i64 (ys.getD i 0))).run P w = .ok (xs.getD i 0 == ys.getD i 0) w := by
      simp [Op.equalIn, run_underlying hu]
    simp only [Op.eqItems, Sem.run_bind, p1, p2, p3, Result.andThen_ok, List.all_cons]
    cases hc : (xs.getD i 0 == ys.getD i 0)
    · simp
    · simpa [hc] using ih
theorem all_eq (xs ys : List Int) (n : Nat) (hx : xs.length = n) (hy : ys.length = n) : ((List.range n).all fun i => xs.getD i 0 == ys.getD i 0) = decide (xs = ys) := by
  rw [Bool.eq_iff_iff]
  simp only [List.all_eq_true, List.mem_range, beq_iff_eq, decide_eq_true_eq]
  constructor
  · intro h
    apply List.ext_getElem (by omega)
    intro i h1 h2
    have := h i (by omega)
    simpa [List.getD_eq_getElem?_getD, h1, h2] using this
  · rintro rfl i _; rfl
theorem cells2 : Try.prog.cellsOf 2 = 1 := by kernel_rfl
theorem equal52 (xs ys : List Int) (hx : xs.length = 16) (hy : ys.length = 16) (w : World) : (Op.equal 52 (arr xs) (arr ys)).run Try.prog w = .ok (decide (xs = ys)) w := by
  obtain ⟨i, hi⟩ := info_of_underlying Try.underlying2
  show (Op.equalIn (9999 + 1) _ _ _).run Try.prog w = _
  rw [run_equalIn_array w 9999 _ _ Try.underlying52 hi, cells2, run_eqItems_ints w 9998 Try.underlying2 xs ys _ (fun j hj => by simp at hj; omega), all_eq xs ys 16 hx hy]

theorem right_any (xs : List Int) (hx : xs.length = 16) (w : World) :
    Calls Try.prog 53 #[arr xs] w fun e w' => e = .returned (.bool (decide (xs = xs.map bnd))) ∧ Below w.heap.size w w' := by
  have heq := equal52 xs (xs.map bnd) hx (by simp [hx])
  have hu := Try.underlying52
  have hi : (Try.prog.info? 52).map (·.size) = some (ints xs).length := by rw [ints_len, hx]; exact size52
  have hl : (ints xs).length = 16 := by rw [ints_len, hx]
  have h1 := ints_one xs
  go_enter Try.func53, Try.ntmps53
  go_wp2_with (first | (refine wpList_box_arr rfl 52 _ rfl xs rfl ?_; intro b w1 hb hw1 hB1 hK1))
  refine wp_region_held_drew (S := fun w' => w'.rangeAt b 0 (ints xs) ∧ Below w.heap.size w w') (by kernel_rfl) ⟨hK1.drew.range0, hB1.drew⟩ (fun hHeld => ?_)
  refine wpAnyH_take (i := 0) (v := arr xs) rfl (by kernel_rfl) (by kernel_rfl) (by kernel_rfl) (fun _ _ _ h => h) (yieldsIf_load_mid rfl _ _ rfl b 0 rfl (ints xs) _ (fun w h => h.1) hu rfl hi) hHeld ?_
  refine wpAnyH_take (i := 1) (v := arr xs) rfl (by kernel_rfl) (by kernel_rfl) (by kernel_rfl) (fun _ _ _ h => h) (yieldsIf_load_mid rfl _ _ rfl b 0 rfl (ints xs) _ (fun w h => h.1) hu rfl hi) hHeld ?_
  refine wpAnyH_ready (rs := [2]) (by kernel_rfl) (by simp) ?_
  refine AllReadyH.cons rfl (fun K hK => ?_) AllReadyH.nil
  go_simp
  go_at_call 59
  refine (bounded_any xs hx _).mono ?_
  rintro e w2 ⟨rfl, hB2⟩
  have hS2 : w2.rangeAt b 0 (ints xs) ∧ Below w.heap.size w w2 := ⟨(hK1.drew.below hB2 hw1).range0, hHeld.2.trans (hB2.mono hB1.size)⟩
  refine hK.out _ _ hS2 (fun _ => ?_)
  refine wpAnyH_take (i := 3) (v := .bool (decide (xs = xs.map bnd))) rfl (by kernel_rfl) (by kernel_rfl) (by kernel_rfl) (fun _ _ _ h => h) (.inl ⟨rfl, fun w h => ?_⟩) hS2 ?_
  · unfold execOp
    simp [Act.eval, eqGuard, binOp, equal52 xs (xs.map bnd) hx (by simp [hx])]
  refine wpAnyH_take (i := 4) (v := .bool (decide (xs = xs.map bnd))) rfl (by kernel_rfl) (by kernel_rfl) (by kernel_rfl) (fun _ _ _ h => h) (.inl ⟨rfl, fun w h => ?_⟩) hS2 ?_
  · unfold execOp
    simp [Act.eval, Act.put]
  refine wpAnyH_done (by kernel_rfl) ?_ _
  change Exit.then _ _ Exit.normal { tmps := #[arr xs, .pointer (some ⟨b, 0, none⟩), .bool (decide (xs = xs.map bnd)), arr xs, arr xs, arr (xs.map bnd), .bool (decide (xs = xs.map bnd))], defers := [] } w2
  go_wp2
  go_ret
  exact ⟨rfl, hS2.2⟩


theorem set_lt {xs : List Int} (p : Nat) (x : Int) : (xs.set p x).length = xs.length := by simp
def raise (xs : List Int) (p : Nat) : List Int := (xs.set p (xs.getD p 0 + 1)).map bnd
theorem raise_len (xs : List Int) (p : Nat) : (raise xs p).length = xs.length := by simp [raise]
theorem raised_any (xs : List Int) (hx : xs.length = 16) (hr : ∀ x ∈ xs, 0 ≤ x ∧ x ≤ 15) (p : Nat) (hp : p < 16) (w : World) :
    Calls Try.prog 43 #[arr xs, .int .i64 p] w fun e w' => e = .returned (arr (raise xs p)) ∧ Below w.heap.size w w' := by
  have hp' : p < xs.length := by omega
  obtain ⟨z, hz0⟩ : ∃ z, xs[p] = z := ⟨_, rfl⟩
  have hz : Hid (xs[p] = z) := hz0
  clear hz0
  have hz2 : Hid (xs.getD p 0 = z) := by unfold Hid; rw [← hz.out]; simp [List.getD_eq_getElem?_getD, hp']
  have hzb : 0 ≤ z ∧ z ≤ 15 := by rw [← hz.out]; exact hr _ (List.getElem_mem hp')
  have hl1 : (xs.set p (z + 1)).length = 16 := by simp [hx]
  have hl2 : (raise xs p).length = 16 := by rw [raise_len, hx]
  have hra : Hid ((xs.set p (z + 1)).map bnd = raise xs p) := by unfold Hid raise; rw [hz2.out]
  go_enter Try.func43, Try.ntmps43
  go_wp2_with (first | (refine wpList_box_arr rfl 52 _ rfl xs rfl ?_; intro b w1 hb hw1 hB1 hK1) | (refine wpList_alloc_arr rfl 52 rfl _ zero52 ?_; intro b2 w2 hb2 hw2 hB2 hK2; replace hK1 := hK1.below hB2 hw1; have hc := hK1.cell p hp'; rw [hz.out] at hc; have hf := hK1.frozen p; have hK3 := hK1.set p (z + 1); have hne : b2 ≠ b := (by omega); have hK4 : Blk (w2.setCell ⟨b, p, none⟩ (.int .i64 (z + 1))) b2 52 _ := hK2.of (heap_setCell_other _ _ _ _ hne); clear hK1 hK2) | (refine wpList_load_arr rfl 52 _ rfl b 0 16 rfl _ Try.underlying52 rfl size52 hK3 (by omega) _ (all16 hl1) ?_) | (go_at_call 59; refine (bounded_any _ hl1 _).mono ?_; rintro e w5 ⟨he, hB5⟩; rw [hra.out] at he; subst he; replace hK4 := hK4.below hB5 (by simpa using hw2)) | (refine wpList_store_arr rfl 52 _ _ rfl b2 0 (raise xs p) rfl rfl (by rw [hl2]; exact size52) hK4 (by rw [hl2]; simp) ?_; intro w6 hO6 hK6; rw [put_all _ _ (by rw [hl2]; simp)] at hK6))
  refine row_ret rfl rfl hK6 Try.underlying52 (by rw [hl2]; exact size52) rfl ⟨rfl, ?_⟩
  have hB : Below w.heap.size w w2 := hB1.trans (hB2.mono hB1.size)
  exact ((hB.setCell hb _).trans (hB5.mono (by simpa using hB.size))).trans (hO6.2.2 _ (by omega))

def half (x : Int) : Int := x / 2
theorem halved_any (xs : List Int) (hx : xs.length = 16) (hr : ∀ x ∈ xs, 0 ≤ x ∧ x ≤ 15) (w : World) :
    Calls Try.prog 60 #[arr xs] w fun e w' => e = .returned (arr (xs.map half)) ∧ Below w.heap.size w w' := by
  go_enter Try.func60, Try.ntmps60
  go_wp2_with (first | (refine wpList_box_arr rfl 52 _ rfl xs rfl ?_; intro b w1 hb hw1 hB1 hK1) | (refine wpList_alloc_arr rfl 52 rfl _ zero52 ?_; intro b2 w2 hb2 hw2 hB2 hK2; replace hK1 := hK1.below hB2 hw1) | (refine wpList_load_arr rfl 52 _ rfl b 0 16 rfl _ Try.underlying52 rfl size52 hK1 (by omega) xs (all16 hx) ?_))
  have hB : Below w.heap.size w w2 := hB1.trans (hB2.mono hB1.size)
  have hne : b2 ≠ b := by omega
  go_loopw [6] (fun v wr => ∃ i : Nat, i ≤ 16 ∧ v = .int .i64 i ∧ Blk wr b 52 (upto half xs i) ∧ Blk wr b2 52 (List.replicate 16 0) ∧ Below w.heap.size w wr) (fun v _ => 16 - (intOf v).toNat)
  case atStart => exact ⟨0, by omega, rfl, by rw [upto_zero]; exact hK1, hK2, hB⟩
  case round =>
    obtain ⟨i, hi, rfl, hb1, hb2', hBr⟩ := hrel
    by_cases hlt : i < 16
    · have hc := hb1.cell i (by rw [upto_len]; omega)
      have hf := hb1.frozen i
      obtain ⟨z, hz⟩ : ∃ z, Hid (xs.getD i 0 = z) := ⟨_, rfl⟩
      have hzb : 0 ≤ z ∧ z ≤ 15 := by rw [← hz.out]; exact hr _ (by rw [List.getD_eq_getElem?_getD, List.getElem?_eq_getElem (by omega : i < xs.length)]; exact List.getElem_mem _)
      go_wp2_with (first | (refine wpList_index_int rfl 52 _ _ rfl xs i 16 rfl rfl Try.underlying52 Try.sizeOf2 Try.isAgg2 hlt hx z hz ?_))
      go_roundw
      case rel =>
        refine ⟨i + 1, by omega, by go_num, ?_, hb2'.of (heap_setCell_other _ _ _ _ hne), hBr.setCell hb _⟩
        rw [← upto_step half xs i (by omega), hz.out]
        exact hb1.set i _
      case measure => simp [intOf]; omega
    · obtain rfl : i = 16 := by omega
      rw [upto_all _ _ _ (by omega)] at hb1
      have hlen : (xs.map half).length = 16 := by simp [hx]
      go_wp2_with (first | (refine wpList_load_arr rfl 52 _ rfl b 0 16 rfl _ Try.underlying52 rfl size52 hb1 (by omega) (xs.map half) (all16 hlen) ?_) | (refine wpList_store_arr rfl 52 _ _ rfl b2 0 (xs.map half) rfl rfl (by rw [hlen]; exact size52) hb2' (by rw [hlen]; simp) ?_; intro w3 hO3 hK3; rw [put_all _ _ (by rw [hlen]; simp)] at hK3))
      refine row_ret rfl rfl hK3 Try.underlying52 (by rw [hlen]; exact size52) rfl ⟨rfl, hBr.trans (hO3.2.2 _ (by omega))⟩

end Go.Proofs.Ytgdoclaifnnpgaa.sk
