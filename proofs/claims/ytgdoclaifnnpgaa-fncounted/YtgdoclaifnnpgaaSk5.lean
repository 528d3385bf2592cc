/- Contracts of the program's SketchOk, NewSketch, Added and Estimate. -/
import Derived.Test.YtgdoclaifnnpgaaSk4
import Derived.Test.YtgdoclaifnnpgaaPlace1
namespace Go.Proofs.Ytgdoclaifnnpgaa.sk
open Go.ChangeShapes Go.WideShapes Go.ChangeAt Go.RowKit
set_option linter.unusedVariables false

theorem implSketchOk_any (R : List (List Int)) (adds : Int) (v : Value) (w : World) (hi : Nat) (hh : hi ≤ w.heap.size) (hv : Rd w 0 hi v R) :
    Calls Try.prog 13 #[skv v adds] w fun e w' => e = .returned (.bool (decide (skOk R adds))) ∧ Below w.heap.size w w' := by
  go_enter Try.func13, Try.ntmps13
  go_wp2_with (first | (refine wpList_box_v rfl 27 _ rfl [v, .int .i64 adds] rfl ?_; intro b1 w1 hb1 hw1 hB1 hV1; have hc0 := hV1.cell 0 (by simp); have hc1 := hV1.cell 1 (by simp); simp only [List.getElem_cons_zero, List.getElem_cons_succ] at hc0 hc1; have hv1 := hv.below hB1 hh) | (go_at_call 34; refine (rowsOf_any R adds v _ hi (by have := hB1.size; omega) hv1).mono ?_; rintro e w2 ⟨fl, rfl, hfl, hfl2, hB2⟩) | (refine wpList_alloc_arr rfl 54 rfl _ zero54' ?_; intro b3 w3 hb3 hw3 hB3 hK3) | (refine wpList_store_arr rfl 54 _ _ rfl b3 0 fl rfl rfl (by rw [hfl]; exact size54) hK3 (by rw [hfl, z64_len]; omega) ?_; intro w4 hO4 hK4))
  go_ret
  have h2 := hB2.size
  have h1 := hB1.size
  exact ⟨rfl, ((hB1.trans (hB2.mono h1)).trans (hB3.mono (by omega))).trans (hO4.2.2 _ (by omega))⟩

theorem Own.form {w : World} {lo hi : Nat} {v : Value} {R : List (List Int)} (h : Own w lo hi v R) : ∃ a n c, v = .slice a n c := by
  obtain ⟨-, a, cap, -, -, -, rfl, -⟩ := h
  exact ⟨a, _, cap, rfl⟩
theorem Rd.form {w : World} {lo hi : Nat} {v : Value} {R : List (List Int)} (h : Rd w lo hi v R) : ∃ a n c, v = .slice a n c := by
  obtain ⟨-, a, cap, rfl, -⟩ := h
  exact ⟨a, _, cap, rfl⟩
/-- a struct is stored into its variable -/
theorem wpList_store_v {P : Program} {ops : Array Oper} {rest : List Oper} {o : Oper} {a : Act} {w : World} {Q : Exit → Act → World → Prop} (hgd : o.guard = none) (t : TypeId) (x y : Operand) (ho : o.op = .store t x y) (b : Nat) (ys : List Value) (hx : a.eval x = .pointer (some ⟨b, 0, none⟩)) (hy : a.eval y = .agg ys.toArray)
    (hi : (P.info? t).map (·.size) = some ys.length) {t' : TypeId} {vs : List Value} (hb : VBlk w b t' vs) (hn : ys.length = vs.length) (h1 : ∀ v ∈ ys, v.oneCell' = true)
    (h : ∀ w', Only b w w' → VBlk w' b t' ys → wpList P ops Q rest (a.put o.dst undef) w') : wpList P ops Q (o :: rest) a w := by
  refine wpList_store_mid hgd t x y ho b 0 ys.toArray hx hy ?_ (by rw [hi]; simp) (all_oneCell_toArray h1) ?_
  · rw [List.size_toArray, hn]; exact hb.there
  · refine h _ (only_setCells _ _ _ _) ?_
    unfold VBlk
    rw [heap_setCells b t' _ 0 w vs hb (by simp [hn])]
    simp [hn]

theorem row_retv {fn : Func} {p : Tmp} {ty : TypeId} (h : fn.results = #[.cell p ty]) {R : Ending → World → Prop} {a : Act} {w : World} {b : Nat} {t : TypeId} {vs : List Value} {fs : Array Field}
    (hp : a.tmps.getD p undef = .pointer (some ⟨b, 0, none⟩)) (hb : VBlk w b t vs) (hu : Try.prog.underlying ty = some (.struct fs))
    (hi : (Try.prog.info? ty).map (·.size) = some vs.length) (hdf : a.defers = []) (hR : R (.returned (.agg vs.toArray)) w) : bodyPost Try.prog fn R .ret a w :=
  bodyPost_ret (results_cell_row h a.tmps w b t _ _ _ hp hb hu rfl (by rw [hi]; simp)) hdf hR
theorem size27 : (Try.prog.info? 27).map (·.size) = some 2 := by kernel_rfl
theorem zero27 (w : World) : (zeroValue 27).run Try.prog w = .ok (.agg [Value.slice none 0 0, .int .i64 0].toArray) w := Try.zeroValue27 w

theorem implNewSketch_any (w : World) :
    Calls Try.prog 16 #[] w fun e w' => ∃ v, e = .returned (skv v 0) ∧ Own w' w.heap.size w'.heap.size v zeros ∧ Below w.heap.size w w' := by
  go_enter Try.func16, Try.ntmps16
  go_wp2_with (first | (refine wpList_alloc_v rfl 27 rfl _ zero27 ?_; intro b1 w1 hb1 hw1 hB1 hV1) | (go_at_call 36; change Calls Try.prog _ #[arr zeros.flatten] _ _; refine (lists_any zeros zeros_four _).mono ?_; rintro e w2 ⟨v, rfl, hown, hB2⟩; obtain ⟨va, vn, vc, rfl⟩ := hown.form; replace hV1 := hV1.below hB2 hw1) | (refine wpList_store_v rfl 27 _ _ rfl b1 [.slice va vn vc, .int .i64 0] rfl rfl size27 hV1 rfl (by simp [Value.oneCell']) ?_; intro w3 hO3 hV3))
  have h1 := hB1.size
  refine row_retv rfl rfl hV3 Try.underlying27 size27 rfl ⟨_, rfl, (hown.keep (fun k h2 h3 => hO3.2.1 k (by omega)) (by rw [hO3.1]; exact Nat.le_refl _)).wide h1 (by rw [hO3.1]; exact Nat.le_refl _) (Nat.le_refl _), (hB1.trans (hB2.mono h1)).trans (hO3.2.2 _ hb1)⟩

theorem wrapI (x : Int) (h0 : 0 ≤ x) (h1 : x ≤ 1000000) : IntKind.i64.wrap x = x := by rw [IntKind.wrap_i64]; omega
theorem step_store_v {P : Program} {ops : Array Oper} {o : Oper} {a : Act} {w : World} {Q : Exit → Act → World → Prop} {K : Act → World → Prop} {E : Prop} (hgd : o.guard = none) (t : TypeId) (x y : Operand) (ho : o.op = .store t x y) (b : Nat) (ys : List Value) (hx : a.eval x = .pointer (some ⟨b, 0, none⟩)) (hy : a.eval y = .agg ys.toArray)
    (hi : (P.info? t).map (·.size) = some ys.length) {t' : TypeId} {vs : List Value} (hb : VBlk w b t' vs) (hn : ys.length = vs.length) (h1 : ∀ v ∈ ys, v.oneCell' = true)
    (h : ∀ w', Only b w w' → VBlk w' b t' ys → K (a.put o.dst undef) w') : if Region.wanted o (yielded ops a.tmps) = true then Oper.wp P o a w K Q else E := by
  have hw : Region.wanted o (yielded ops a.tmps) = true := by simp [Region.wanted, hgd]
  rw [if_pos hw]
  refine wp_store_mid t x y ho b 0 ys.toArray hx hy ?_ (by rw [hi]; simp) (all_oneCell_toArray h1) ?_
  · rw [List.size_toArray, hn]; exact hb.there
  · refine h _ (only_setCells _ _ _ _) ?_
    unfold VBlk
    rw [heap_setCells b t' _ 0 w vs hb (by simp [hn])]
    simp [hn]

/-- the rows behind one more key -/
def addR (key : ByteArray) (R : List (List Int)) : List (List Int) := R.mapIdx fun i xs => raise xs (place.placeOf key i).toNat
def halfR (R : List (List Int)) : List (List Int) := R.map (·.map half)
theorem addR_four {key : ByteArray} {R : List (List Int)} (h : Four R) : Four (addR key R) := by
  refine ⟨by simp [addR, h.1], fun xs hx => ?_⟩
  obtain ⟨i, hi, rfl⟩ := List.getElem_of_mem hx
  simp only [addR, List.getElem_mapIdx, raise_len]
  exact h.2 _ (List.getElem_mem _)
theorem bnd_bd (x : Int) : 0 ≤ bnd x ∧ bnd x ≤ 15 := by unfold bnd; omega
theorem raise_small (xs : List Int) (p : Nat) : ∀ x ∈ raise xs p, 0 ≤ x ∧ x ≤ 15 := by
  intro x hx
  obtain ⟨y, -, rfl⟩ := List.mem_map.1 hx
  exact bnd_bd y
theorem addR_small (key : ByteArray) (R : List (List Int)) : Small (addR key R) := fun xs hx => by
  obtain ⟨i, hi, rfl⟩ := List.getElem_of_mem hx
  simp only [addR, List.getElem_mapIdx]
  exact raise_small _ _
theorem halfR_four {R : List (List Int)} (h : Four R) : Four (halfR R) := ⟨by simp [halfR, h.1], by simp [halfR]; intro xs hx; exact h.2 xs hx⟩
def addedR (R : List (List Int)) (adds : Int) (key : ByteArray) : List (List Int) := if skOk R adds then (if adds = 159 then halfR (addR key R) else addR key R) else []
def addedN (R : List (List Int)) (adds : Int) : Int := if skOk R adds then (if adds = 159 then 0 else adds + 1) else 0

theorem implAdded_any (R : List (List Int)) (adds : Int) (key : ByteArray) (hk : key.size ≤ 1048576) (v : Value) (w : World) (hi : Nat) (hh : hi ≤ w.heap.size) (hv : Rd w 0 hi v R) :
    Calls Try.prog 22 #[skv v adds, .string key] w fun e w' => ∃ v', e = .returned (skv v' (addedN R adds)) ∧ Own w' w.heap.size w'.heap.size v' (addedR R adds key) ∧ Below w.heap.size w w' := by
  by_cases hok : skOk R adds
  · have hd : decide (skOk R adds) = true := decide_eq_true hok
    have hR4 := hok.four
    have hsm := hok.small
    have had := hok.2.1
    have hl := hR4.len
    have hOk : Hid (skOk R adds) := hok
    clear hok
    obtain ⟨T, hT⟩ : ∃ T, Hid (T = addR key R) := ⟨_, rfl⟩
    have hT4 : Four T := by rw [hT.out]; exact addR_four hR4
    have hTs : Small T := by rw [hT.out]; exact addR_small key R
    have hlT := hT4.len
    go_enter Try.func22, Try.ntmps22
    go_wp2_with (first | (refine wpList_box_v rfl 27 _ rfl [v, .int .i64 adds] rfl ?_; intro b1 w1 hb1 hw1 hB1 hV1; have hv1 := hv.below hB1 hh) | (refine wpList_alloc_v rfl 27 rfl _ zero27 ?_; intro b2 w2 hb2 hw2 hB2 hV2; replace hV1 := hV1.below hB2 hw1; have hc0 := hV1.cell 0 (by simp); have hc1 := hV1.cell 1 (by simp); simp only [List.getElem_cons_zero, List.getElem_cons_succ] at hc0 hc1; have hv2 := hv1.below hB2 (by have := hB1.size; omega)) | (go_at_call 34; refine (rowsOf_any R adds v _ hi (by have := hB1.size; have := hB2.size; omega) hv2).mono ?_; rintro e w3 ⟨fl, rfl, hfl, hfl2, hB3⟩; obtain rfl := hfl2 hOk.out; replace hV2 := hV2.below hB3 hw2; replace hV1 := hV1.below hB3 (by have := hB2.size; omega)) | (refine wpList_alloc_arr rfl 54 rfl _ zero54' ?_; intro b4 w4 hb4 hw4 hB4 hK4; replace hV2 := hV2.below hB4 (by have := hB3.size; omega); replace hV1 := hV1.below hB4 (by have := hB3.size; have := hB2.size; omega)) | (refine wpList_store_arr rfl 54 _ _ rfl b4 0 R.flatten rfl rfl (by rw [hl]; exact size54) hK4 (by rw [hl, z64_len]; omega) ?_; intro w5 hO5 hK5; have hV15 := hV1.of (hO5.2.1 b1 (by have := hB3.size; have := hB2.size; omega)); have hV25 := hV2.of (hO5.2.1 b2 (by have := hB3.size; omega)); rw [put_all _ _ (by rw [hl, z64_len])] at hK5) | (refine wpList_load_arr rfl 54 _ rfl b4 0 64 rfl _ Try.underlying54 rfl size54 hK5 (by omega) R.flatten (all64 hl) ?_))
    have h1 := hB1.size
    have h2 := hB2.size
    have h3 := hB3.size
    have h4 := hB4.size
    have h5 := hO5.1
    have hB : Below w.heap.size w w5 := (((hB1.trans (hB2.mono h1)).trans (hB3.mono (by omega))).trans (hB4.mono (by omega))).trans (hO5.2.2 _ (by omega))
    have n14 : b1 ≠ b4 := by omega
    have n24 : b2 ≠ b4 := by omega
    have hlo2 : w.heap.size ≤ b2 := by omega
    have hlo4 : w.heap.size ≤ b4 := by omega
    go_loopw [18] (fun v' wr => ∃ i : Nat, i ≤ 4 ∧ v' = .int .i64 i ∧ Blk wr b4 54 (mix T R i).flatten ∧ VBlk wr b1 27 [v, .int .i64 adds] ∧ VBlk wr b2 27 [.slice none 0 0, .int .i64 0] ∧ Below w.heap.size w wr) (fun v' _ => 4 - (intOf v').toNat)
    case atStart => exact ⟨0, by omega, rfl, by rw [mix_zero]; exact hK5, hV15, hV25, hB⟩
    case round =>
      obtain ⟨i, hi4, rfl, hk4, hv1r, hv2r, hBr⟩ := hrel
      by_cases hlt : i < 4
      · have hiR : i < R.length := by rw [hR4.1]; exact hlt
        have hiT : i < T.length := by rw [hT4.1]; exact hlt
        obtain ⟨xs, hxs⟩ : ∃ xs, R[i] = xs := ⟨_, rfl⟩
        have hx16 : xs.length = 16 := by rw [← hxs]; exact hR4.2 _ (List.getElem_mem hiR)
        have hxb : ∀ x ∈ xs, 0 ≤ x ∧ x ≤ 15 := by rw [← hxs]; exact hsm _ (List.getElem_mem hiR)
        have hchunk : Hid ((R.flatten.drop (i * 16)).take 16 = xs) := by unfold Hid; rw [flat_chunk 16 R hR4.2 i hiR, hxs]
        have hpb := place.placeOf_bd key i
        obtain ⟨p, hp⟩ : ∃ p : Nat, place.placeOf key i = p := ⟨(place.placeOf key i).toNat, by omega⟩
        have hp16 : p < 16 := by omega
        have hP : Hid (place.placeOf key i = p) := hp
        clear hp hpb
        obtain ⟨ys, hys⟩ : ∃ ys, Hid (ys = raise xs p) := ⟨_, rfl⟩
        have hy16 : ys.length = 16 := by rw [hys.out, raise_len, hx16]
        have HX : Hid (R[i] = xs) := hxs
        clear hxs
        have eT : Hid (T[i] = ys) := by
          have : T[i] = raise R[i] (place.placeOf key i).toNat := by have := hT.out; subst this; simp [addR]
          rw [HX.out, hP.out] at this
          unfold Hid; rw [this, hys.out]; simp
        have h4' : Hid ((mix T R i).length = R.length) := mix_len T R i (by rw [hT4.1, hR4.1])
        have hm16 : Hid (∀ xs ∈ mix T R i, xs.length = 16) := mix_mem T R i 16 hT4.2 hR4.2
        have hml : (mix T R i).flatten.length = 64 := by rw [flat_len 16 _ hm16.out, h4'.out, hR4.1]
        go_wp2_with (first | (refine wpList_index_arr rfl 54 _ _ rfl R.flatten i 4 16 rfl rfl Try.underlying54 Try.sizeOf52 Try.isAgg52 hlt xs hchunk.out ?_) | (refine wpList_alloc_arr rfl 52 rfl _ zero52 ?_; intro b8 w8 hb8 hw8 hB8 hK8) | (refine wpList_store_arr rfl 52 _ _ rfl b8 0 xs rfl rfl (by rw [hx16]; exact size52) hK8 (by rw [hx16]; simp) ?_; intro w9 hO9 hK9; rw [put_all _ _ (by rw [hx16]; simp)] at hK9))
        have h8 := hB8.size
        have h9 := hO9.1
        have hbr := hBr.size
        have l1 := hv1r.lt
        have l2 := hv2r.lt
        have l4 := hk4.lt
        have n84 : b8 ≠ b4 := by omega
        have k4 : Blk w9 b4 54 (mix T R i).flatten := (hk4.below hB8 l4).of (hO9.2.1 _ (by omega))
        have v1 := (hv1r.below hB8 l1).of (hO9.2.1 _ (by omega))
        have v2 := (hv2r.below hB8 l2).of (hO9.2.1 _ (by omega))
        have hr9 : w9.drew.rangeAt b8 0 (ints xs) := hK9.drew.range0
        have ht9 : w9.drew.there b4 (i * 16) 16 := k4.drew.there _ _ (by rw [hml]; omega)
        have hBw : Below w.heap.size w w9 := (hBr.trans (hB8.mono hbr)).trans (hO9.2.2 _ (by omega))
        have hu := Try.underlying52
        have hix : (Try.prog.info? 52).map (·.size) = some (ints xs).length := by rw [ints_len, hx16]; exact size52
        have hiy : (Try.prog.info? 52).map (·.size) = some (ints ys).length := by rw [ints_len, hy16]; exact size52
        have hly : (ints ys).length = 16 := by rw [ints_len, hy16]
        have hone := ints_one ys
        go_region_held3 (fun w' => w'.rangeAt b8 0 (ints xs) ∧ w'.there b4 (i * 16) 16) (first | assumption | exact ⟨hr9, ht9⟩ | exact ⟨hr10, ht10⟩ | exact ⟨hr11, ht11⟩ | exact ⟨World.rangeAt_setCells_apart hr11 _ _ _ (.inl n84), World.there_setCells ht11 _ _ _⟩) (first | (go_at_call 20; refine (place.impl_in key i (by omega) (by omega) hk _).mono ?_; rintro e w10 ⟨he, hO10⟩; rw [hP.out] at he; subst he; have hB10 := hO10.below; have hk10 := hK9.drew.below hB10 (by show b8 < w9.heap.size; omega); have hk410 := k4.drew.below hB10 (by show b4 < w9.heap.size; omega); have hr10 := hk10.range0; have ht10 : w10.there b4 (i * 16) 16 := hk410.there _ _ (by rw [hml]; omega)) | (go_at_call 43; refine (raised_any xs hx16 hxb p hp16 _).mono ?_; rintro e w11 ⟨he, hB11⟩; rw [← hys.out] at he; subst he; have hk11 := hk10.below hB11 hk10.lt; have hk411 := hk410.below hB11 hk410.lt; have hr11 := hk11.range0; have ht11 : w11.there b4 (i * 16) 16 := hk411.there _ _ (by rw [hml]; omega)))
        have k12 := hk411.setCells ys (i * 16) (by rw [hy16, hml]; omega)
        rw [flat_put 16 _ hm16.out i (by rw [h4'.out]; exact hiR) ys hy16] at k12
        have o12 := only_setCells w11 b4 (ints ys) (i * 16)
        obtain ⟨w12, HW12⟩ : ∃ w12, Hid (w12 = w11.setCells b4 (i * 16) (ints ys)) := ⟨_, rfl⟩
        rw [← HW12.out] at k12 o12 ⊢
        go_wp2
        go_roundw
        case rel =>
          have e10 : w9.drew.heap.size = w9.heap.size := rfl
          have h10 := hB10.size
          refine ⟨i + 1, by omega, by go_num, ?_, ?_, ?_, ?_⟩
          · rw [← mix_set T R i (by rw [hT4.1, hR4.1]) hiT, eT.out]; exact k12
          · exact (((VBlk.of (w' := w9.drew) v1 rfl).below hB10 (by omega)).below hB11 (by omega)).of (o12.2.1 _ n14)
          · exact (((VBlk.of (w' := w9.drew) v2 rfl).below hB10 (by omega)).below hB11 (by omega)).of (o12.2.1 _ n24)
          · exact ((hBw.drew.trans (hB10.mono (by omega))).trans (hB11.mono (by omega))).trans (o12.2.2 _ hlo4)
        case measure => simp [intOf]; omega
      · obtain rfl : i = 4 := by omega
        rw [mix_all T R 4 (by rw [hT4.1]; omega) (by rw [hR4.1]; omega)] at hk4
        have hc1r := hv1r.cell 1 (by simp)
        simp only [List.getElem_cons_zero, List.getElem_cons_succ] at hc1r
        have hbr := hBr.size
        by_cases h159 : adds = 159
        · have hN : Hid (addedN R adds = 0) := by have := hOk.out; simp [Hid, addedN, h159]
          have hRR : Hid (addedR R adds key = halfR T) := by have := hOk.out; unfold Hid addedR; rw [if_pos this, if_pos h159, hT.out]
          subst h159
          go_wp2_with (first | (refine wpList_load_arr rfl 54 _ rfl b4 0 64 rfl _ Try.underlying54 rfl size54 hk4 (by omega) T.flatten (all64 hlT) ?_) | (go_at_call 44; refine (rowsHalved_any T hT4 hTs _).mono ?_; rintro e w10 ⟨he, hB10⟩; change e = .returned (arr (halfR T).flatten) at he; subst he; have hv210 := hv2r.below hB10 hv2r.lt) | (go_at_call 36; refine (lists_any (halfR T) (halfR_four hT4) _).mono ?_; rintro e w11 ⟨v', rfl, hown, hB11⟩; obtain ⟨va, vn, vc, rfl⟩ := hown.form; have hv211 := hv210.below hB11 hv210.lt) | (refine wpList_store_v rfl 27 _ _ rfl b2 [.slice va vn vc, .int .i64 0] rfl rfl size27 hv211 rfl (by simp [Value.oneCell']) ?_; intro w12 hO12 hV12))
          have h10 := hB10.size
          have h11 := hB11.size
          have l2 := hv2r.lt
          refine row_retv rfl rfl hV12 Try.underlying27 size27 rfl ⟨_, by rw [hN.out], ?_, ?_⟩
          · rw [hRR.out]
            exact (hown.keep (fun k h2 h3 => hO12.2.1 k (by omega)) (by rw [hO12.1]; exact Nat.le_refl _)).wide (by omega) (by rw [hO12.1]; exact Nat.le_refl _) (Nat.le_refl _)
          · exact ((hBr.trans (hB10.mono hbr)).trans (hB11.mono (by omega))).trans (hO12.2.2 _ hlo2)
        · have hN : Hid (addedN R adds = adds + 1) := by have := hOk.out; simp [Hid, addedN, this, h159]
          have hRR : Hid (addedR R adds key = T) := by have := hOk.out; unfold Hid addedR; rw [if_pos this, if_neg h159, hT.out]
          have hne160 : ¬ (adds + 1 = 160) := by omega
          go_wp2
          have l1 := hv1r.lt
          have l2 := hv2r.lt
          have l4 := hk4.lt
          refine wp_region_held_drew (S := fun w' => w'.rangeAt b4 0 (ints T.flatten) ∧ w'.cell? ⟨b1, 1, none⟩ = some (.int .i64 adds)) (by kernel_rfl) ⟨hk4.drew.range0, hc1r⟩ (fun hHeld => ?_)
          refine wpAnyH_take (i := 0) (v := arr T.flatten) rfl (by kernel_rfl) (by kernel_rfl) (by kernel_rfl) (fun _ _ _ h => h) (yieldsIf_load_mid rfl _ _ rfl b4 0 rfl (ints T.flatten) _ (fun w h => h.1) Try.underlying54 rfl (by rw [ints_len, hlT]; exact size54)) hHeld ?_
          refine wpAnyH_take (i := 2) (v := .pointer (some ⟨b1, 1, none⟩)) rfl (by kernel_rfl) (by kernel_rfl) (by kernel_rfl) (fun _ _ _ h => h) (Or.inl ⟨rfl, fun w' hS => by go_simp⟩) hHeld ?_
          refine wpAnyH_take (i := 3) (v := .int .i64 adds) rfl (by kernel_rfl) (by kernel_rfl) (by kernel_rfl) (fun _ _ _ h => h) (Or.inl ⟨rfl, fun w' hS => by have h2 := hS.2; go_simp⟩) hHeld ?_
          refine wpAnyH_take (i := 4) (v := .int .i64 (adds + 1)) rfl (by kernel_rfl) (by kernel_rfl) (by kernel_rfl) (fun _ _ _ h => h) (Or.inl ⟨rfl, fun w' hS => by go_simp; exact wrapI _ (by omega) (by omega)⟩) hHeld ?_
          simp only [Act.put, List.setIfInBounds_toArray]
          refine wpAnyH_ready (rs := [1]) (by kernel_rfl) (by simp) ?_
          refine AllReadyH.cons rfl (fun K hK => ?_) AllReadyH.nil
          go_simp
          go_at_call 36
          refine (lists_any T hT4 _).mono ?_
          rintro e w11 ⟨v', rfl, hown, hB11⟩
          obtain ⟨va, vn, vc, rfl⟩ := hown.form
          have e11 : wr.drew.heap.size = wr.heap.size := rfl
          have hS2 : w11.rangeAt b4 0 (ints T.flatten) ∧ w11.cell? ⟨b1, 1, none⟩ = some (.int .i64 adds) := ⟨(hk4.drew.below hB11 l4).range0, by rw [hB11.cell (by show b1 < _; omega)]; exact hc1r⟩
          have hv211 := VBlk.below (w := wr.drew) hv2r hB11 l2
          refine hK.out _ _ hS2 (fun _ => ?_)
          refine wpAnyH_take (i := 5) (v := .agg #[.slice va vn vc, .int .i64 (adds + 1)]) rfl (by kernel_rfl) (by kernel_rfl) (by kernel_rfl) (fun _ _ _ h => h) (Or.inl ⟨rfl, fun w' hS => by go_simp⟩) hS2 ?_
          simp only [Act.put, List.setIfInBounds_toArray]
          refine wpAnyH_ready (rs := [6]) (by kernel_rfl) (by simp) ?_
          refine AllReadyH.cons rfl (fun K2 hK2 => ?_) AllReadyH.nil
          refine step_store_v rfl 27 _ _ rfl b2 [.slice va vn vc, .int .i64 (adds + 1)] rfl rfl size27 hv211 rfl (by simp [Value.oneCell']) ?_
          intro w12 hO12 hV12
          refine hK2.out _ _ ⟨range_of hS2.1 (hO12.2.1 _ (fun e => n24 e.symm)), by rw [World.cell?_of_block (w := w11) (hO12.2.1 b1 (by omega))]; exact hS2.2⟩ (fun _ => ?_)
          refine wpAnyH_done (by kernel_rfl) ?_ _
          go_simp
          go_wp2
          have h11 := hB11.size
          refine row_retv rfl rfl hV12 Try.underlying27 size27 rfl ⟨_, by rw [hN.out], ?_, ?_⟩
          · rw [hRR.out]
            exact (hown.keep (fun k h2 h3 => hO12.2.1 k (by omega)) (by rw [hO12.1]; exact Nat.le_refl _)).wide (by omega) (by rw [hO12.1]; exact Nat.le_refl _) (Nat.le_refl _)
          · exact (hBr.drew.trans (hB11.mono (by omega))).trans (hO12.2.2 _ hlo2)
  · have hd : decide (skOk R adds) = false := decide_eq_false hok
    have hN : Hid (addedN R adds = 0) := by simp [Hid, addedN, hok]
    have hR : Hid (addedR R adds key = []) := by simp [Hid, addedR, hok]
    go_enter Try.func22, Try.ntmps22
    go_wp2_with (first | (refine wpList_box_v rfl 27 _ rfl [v, .int .i64 adds] rfl ?_; intro b1 w1 hb1 hw1 hB1 hV1; have hv1 := hv.below hB1 hh) | (refine wpList_alloc_v rfl 27 rfl _ zero27 ?_; intro b2 w2 hb2 hw2 hB2 hV2; replace hV1 := hV1.below hB2 hw1; have hc0 := hV1.cell 0 (by simp); have hc1 := hV1.cell 1 (by simp); simp only [List.getElem_cons_zero, List.getElem_cons_succ] at hc0 hc1; have hv2 := hv1.below hB2 (by have := hB1.size; omega)) | (go_at_call 34; refine (rowsOf_any R adds v _ hi (by have := hB1.size; have := hB2.size; omega) hv2).mono ?_; rintro e w3 ⟨fl, rfl, hfl, hfl2, hB3⟩; replace hV2 := hV2.below hB3 hw2) | (refine wpList_alloc_arr rfl 54 rfl _ zero54' ?_; intro b4 w4 hb4 hw4 hB4 hK4; replace hV2 := hV2.below hB4 (by have := hB3.size; omega)) | (refine wpList_store_arr rfl 54 _ _ rfl b4 0 fl rfl rfl (by rw [hfl]; exact size54) hK4 (by rw [hfl, z64_len]; omega) ?_; intro w5 hO5 hK5; have hV5 := hV2.of (hO5.2.1 b2 (by have := hB3.size; omega))) | (refine wpList_store_v rfl 27 _ _ rfl b2 [.slice none 0 0, .int .i64 0] rfl rfl size27 hV5 rfl (by simp [Value.oneCell']) ?_; intro w6 hO6 hV6))
    have h1 := hB1.size
    have h2 := hB2.size
    have h3 := hB3.size
    have h4 := hB4.size
    refine row_retv rfl rfl hV6 Try.underlying27 size27 rfl ⟨_, by rw [hN.out], by rw [hR.out]; exact own_nil _ _ _ (Nat.le_refl _), ?_⟩
    exact ((((hB1.trans (hB2.mono h1)).trans (hB3.mono (by omega))).trans (hB4.mono (by omega))).trans (hO5.2.2 _ (by omega))).trans (hO6.2.2 _ (by omega))

/-- the least count of a key in the first n rows -/
def estN (key : ByteArray) (R : List (List Int)) (n : Nat) : Int := (List.range n).foldl (fun m i => min m ((R.getD i []).getD (place.placeOf key i).toNat 0)) 15
theorem estN_succ (key : ByteArray) (R : List (List Int)) (n : Nat) : estN key R (n + 1) = min (estN key R n) ((R.getD n []).getD (place.placeOf key n).toNat 0) := by
  simp [estN, List.range_succ]
def estA (R : List (List Int)) (adds : Int) (key : ByteArray) : Int := if skOk R adds then estN key R 4 else -1
theorem min_if (a b : Int) : (if b < a then b else a) = min a b := by split <;> omega

theorem implEstimate_any (R : List (List Int)) (adds : Int) (key : ByteArray) (hk : key.size ≤ 1048576) (v : Value) (w : World) (hi : Nat) (hh : hi ≤ w.heap.size) (hv : Rd w 0 hi v R) :
    Calls Try.prog 24 #[skv v adds, .string key] w fun e w' => e = .returned (.int .i64 (estA R adds key)) ∧ Below w.heap.size w w' := by
  by_cases hok : skOk R adds
  · have hd : decide (skOk R adds) = true := decide_eq_true hok
    have hR4 := hok.four
    have hl := hR4.len
    have hE : Hid (estA R adds key = estN key R 4) := by simp [Hid, estA, hok]
    have hOk : Hid (skOk R adds) := hok
    clear hok
    go_enter Try.func24, Try.ntmps24
    go_wp2_with (first | (refine wpList_box_v rfl 27 _ rfl [v, .int .i64 adds] rfl ?_; intro b1 w1 hb1 hw1 hB1 hV1; have hv1 := hv.below hB1 hh; have hc0 := hV1.cell 0 (by simp); have hc1 := hV1.cell 1 (by simp); simp only [List.getElem_cons_zero, List.getElem_cons_succ] at hc0 hc1) | (go_at_call 34; refine (rowsOf_any R adds v _ hi (by have := hB1.size; omega) hv1).mono ?_; rintro e w3 ⟨fl, rfl, hfl, hfl2, hB3⟩; obtain rfl := hfl2 hOk.out) | (refine wpList_alloc_arr rfl 54 rfl _ zero54' ?_; intro b4 w4 hb4 hw4 hB4 hK4) | (refine wpList_store_arr rfl 54 _ _ rfl b4 0 R.flatten rfl rfl (by rw [hl]; exact size54) hK4 (by rw [hl, z64_len]; omega) ?_; intro w5 hO5 hK5; rw [put_all _ _ (by rw [hl, z64_len])] at hK5) | (refine wpList_load_arr rfl 54 _ rfl b4 0 64 rfl _ Try.underlying54 rfl size54 hK5 (by omega) R.flatten (all64 hl) ?_))
    have h1 := hB1.size
    have h3 := hB3.size
    have h4 := hB4.size
    have h5 := hO5.1
    have hB : Below w.heap.size w w5 := ((hB1.trans (hB3.mono h1)).trans (hB4.mono (by omega))).trans (hO5.2.2 _ (by omega))
    go_loopw [7, 18] (fun m v' wr => ∃ i : Nat, i ≤ 4 ∧ v' = .int .i64 i ∧ m = .int .i64 (estN key R i) ∧ Below w.heap.size w wr) (fun _ v' _ => 4 - (intOf v').toNat)
    case atStart => exact ⟨0, by omega, rfl, rfl, hB⟩
    case round =>
      obtain ⟨i, hi4, rfl, rfl, hBr⟩ := hrel
      by_cases hlt : i < 4
      · have hiR : i < R.length := by rw [hR4.1]; exact hlt
        obtain ⟨xs, hxs⟩ : ∃ xs, R[i] = xs := ⟨_, rfl⟩
        have hx16 : xs.length = 16 := by rw [← hxs]; exact hR4.2 _ (List.getElem_mem hiR)
        have hchunk : Hid ((R.flatten.drop (i * 16)).take 16 = xs) := by unfold Hid; rw [flat_chunk 16 R hR4.2 i hiR, hxs]
        have hpb := place.placeOf_bd key i
        obtain ⟨p, hp⟩ : ∃ p : Nat, place.placeOf key i = p := ⟨(place.placeOf key i).toNat, by omega⟩
        have hp16 : p < 16 := by omega
        have hP : Hid (place.placeOf key i = p) := hp
        clear hp hpb
        obtain ⟨z, hz⟩ : ∃ z, xs[p]'(by omega) = z := ⟨_, rfl⟩
        have hZ : Hid (xs[p]'(by omega) = z) := hz
        have hE1 : Hid (estN key R (i + 1) = min (estN key R i) z) := by
          unfold Hid
          rw [estN_succ, hP.out]
          congr 1
          have e1 : R.getD i [] = xs := by rw [List.getD_eq_getElem?_getD, List.getElem?_eq_getElem hiR, hxs]; rfl
          rw [e1, Int.toNat_natCast, List.getD_eq_getElem?_getD, List.getElem?_eq_getElem (by omega), ← hz]; rfl
        obtain ⟨m, hm⟩ : ∃ m, estN key R i = m := ⟨_, rfl⟩
        have hM : Hid (estN key R i = m) := hm
        rw [hm]
        clear hxs hz hm
        go_wp2_with (first | (refine wpList_index_arr rfl 54 _ _ rfl R.flatten i 4 16 rfl rfl Try.underlying54 Try.sizeOf52 Try.isAgg52 hlt xs hchunk.out ?_) | (refine wpList_alloc_arr rfl 52 rfl _ zero52 ?_; intro b8 w8 hb8 hw8 hB8 hK8) | (refine wpList_store_arr rfl 52 _ _ rfl b8 0 xs rfl rfl (by rw [hx16]; exact size52) hK8 (by rw [hx16]; simp) ?_; intro w9 hO9 hK9; rw [put_all _ _ (by rw [hx16]; simp)] at hK9) | (go_at_call 20; refine (place.impl_in key i (by omega) (by omega) hk _).mono ?_; rintro e w10 ⟨he, hO10⟩; rw [hP.out] at he; subst he; have hB10 := hO10.below; have hk10 := hK9.below hB10 hK9.lt; have hc10 := hk10.cell p (by omega); rw [hZ.out] at hc10))
        go_roundw
        case rel =>
          have h8 := hB8.size
          have h9 := hO9.1
          have hbr := hBr.size
          refine ⟨i + 1, by omega, by go_num, ?_, ((hBr.trans (hB8.mono hbr)).trans (hO9.2.2 _ (by omega))).trans (hB10.mono (by omega))⟩
          rw [hE1.out, hM.out, min_if]
        case measure => simp [intOf]; omega
      · obtain rfl : i = 4 := by omega
        go_wp2
        go_ret
        exact ⟨by rw [hE.out]; rfl, hBr⟩
  · have hd : decide (skOk R adds) = false := decide_eq_false hok
    have hE : Hid (estA R adds key = -1) := by simp [Hid, estA, hok]
    go_enter Try.func24, Try.ntmps24
    go_wp2_with (first | (refine wpList_box_v rfl 27 _ rfl [v, .int .i64 adds] rfl ?_; intro b1 w1 hb1 hw1 hB1 hV1; have hv1 := hv.below hB1 hh; have hc0 := hV1.cell 0 (by simp); have hc1 := hV1.cell 1 (by simp); simp only [List.getElem_cons_zero, List.getElem_cons_succ] at hc0 hc1) | (go_at_call 34; refine (rowsOf_any R adds v _ hi (by have := hB1.size; omega) hv1).mono ?_; rintro e w3 ⟨fl, rfl, hfl, hfl2, hB3⟩) | (refine wpList_alloc_arr rfl 54 rfl _ zero54' ?_; intro b4 w4 hb4 hw4 hB4 hK4) | (refine wpList_store_arr rfl 54 _ _ rfl b4 0 fl rfl rfl (by rw [hfl]; exact size54) hK4 (by rw [hfl, z64_len]; omega) ?_; intro w5 hO5 hK5))
    go_ret
    have h1 := hB1.size
    have h3 := hB3.size
    exact ⟨by rw [hE.out]; rfl, ((hB1.trans (hB3.mono h1)).trans (hB4.mono (by omega))).trans (hO5.2.2 _ (by omega))⟩

end Go.Proofs.Ytgdoclaifnnpgaa.sk
