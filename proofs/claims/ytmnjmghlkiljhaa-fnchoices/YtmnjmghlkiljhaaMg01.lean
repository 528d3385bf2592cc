/- Texts laid together: Sk5 Sk6 Sk7 Sk8 Rx0 Rt0. -/
import Derived.Test.YtmnjmghlkiljhaaMg00
import Derived.OwnWalk
import Derived.Deep.RegionLaw
import Derived.WalkKit
/- Contracts of the program's SketchOk, NewSketch, Added and Estimate. -/
namespace Go.Proofs.Ytmnjmghlkiljhaa.sk
open Go.ChangeShapes Go.WideShapes Go.ChangeAt Go.RowKit
set_option linter.unusedVariables false

set_option maxRecDepth 100000 in
theorem Own.form {w : World} {lo hi : Nat} {v : Value} {R : List (List Int)} (h : Own w lo hi v R) : ∃ a n c, v = .slice a n c := by
  obtain ⟨-, a, cap, -, -, -, rfl, -⟩ := h
  exact ⟨a, _, cap, rfl⟩
set_option maxRecDepth 100000 in
theorem Rd.form {w : World} {lo hi : Nat} {v : Value} {R : List (List Int)} (h : Rd w lo hi v R) : ∃ a n c, v = .slice a n c := by
  obtain ⟨-, a, cap, rfl, -⟩ := h
  exact ⟨a, _, cap, rfl⟩
set_option maxRecDepth 100000 in
/-- a struct is stored into its variable -/
theorem wpList_store_v {P : Program} {ops : Array Oper} {rest : List Oper} {o : Oper} {a : Act} {w : World} {Q : Exit → Act → World → Prop} (hgd : o.guard = none) (t : TypeId) (x y : Operand) (ho : o.op = .store t x y) (b : Nat) (ys : List Value) (hx : a.eval x = .pointer (some ⟨b, 0, none⟩)) (hy : a.eval y = .agg ys.toArray)
    (hi : (P.info? t).map (·.size) = some ys.length) {t' : TypeId} {vs : List Value} (hb : VBlk w b t' vs) (hn : ys.length = vs.length) (h1 : ∀ v ∈ ys, v.oneCell' = true)
    (h : ∀ w', Only b w w' → VBlk w' b t' ys → wpList P ops Q rest (a.put o.dst undef) w') : wpList P ops Q (o :: rest) a w := by
  refine wpList_store_mid hgd t x y ho b 0 ys.toArray hx hy ?_ (by rw [hi]; simp) (all_oneCell_toArray h1) ?_
  · rw [List.size_toArray, hn]; exact hb.there
  · refine h _ (only_setCells _ _ _ _) ?_
    unfold VBlk
    rw [heap_setCells b t' _ 0 w vs hb (by simp [hn])]
    simp [hn]

set_option maxRecDepth 100000 in
theorem row_retv {fn : Func} {p : Tmp} {ty : TypeId} (h : fn.results = #[.cell p ty]) {R : Ending → World → Prop} {a : Act} {w : World} {b : Nat} {t : TypeId} {vs : List Value} {fs : Array Field}
    (hp : a.tmps.getD p undef = .pointer (some ⟨b, 0, none⟩)) (hb : VBlk w b t vs) (hu : Try.prog.underlying ty = some (.struct fs))
    (hi : (Try.prog.info? ty).map (·.size) = some vs.length) (hdf : a.defers = []) (hR : R (.returned (.agg vs.toArray)) w) : bodyPost Try.prog fn R .ret a w :=
  bodyPost_ret (results_cell_row h a.tmps w b t _ _ _ hp hb hu rfl (by rw [hi]; simp)) hdf hR
set_option maxRecDepth 100000 in
theorem size27 : (Try.prog.info? 30).map (·.size) = some 2 := by kernel_rfl
set_option maxRecDepth 100000 in
theorem zero27 (w : World) : (zeroValue 30).run Try.prog w = .ok (.agg [Value.slice none 0 0, .int .i64 0].toArray) w := Try.zeroValue30 w

set_option maxRecDepth 100000 in
theorem implNewSketch_any (w : World) :
    Calls Try.prog 57 #[] w fun e w' => ∃ v, e = .returned (skv v 0) ∧ Own w' w.heap.size w'.heap.size v zeros ∧ Below w.heap.size w w' := by
  go_enter Try.func57, Try.ntmps57
  go_wp2_with (first | (refine wpList_alloc_v rfl 30 rfl _ zero27 ?_; intro b1 w1 hb1 hw1 hB1 hV1) | (go_at_call 95; change Calls Try.prog _ #[arr zeros.flatten] _ _; refine (lists_any zeros zeros_four _).mono ?_; rintro e w2 ⟨v, rfl, hown, hB2⟩; obtain ⟨va, vn, vc, rfl⟩ := hown.form; replace hV1 := hV1.below hB2 hw1) | (refine wpList_store_v rfl 30 _ _ rfl b1 [.slice va vn vc, .int .i64 0] rfl rfl size27 hV1 rfl (by simp [Value.oneCell']) ?_; intro w3 hO3 hV3))
  have h1 := hB1.size
  refine row_retv rfl rfl hV3 Try.underlying30 size27 rfl ⟨_, rfl, (hown.keep (fun k h2 h3 => hO3.2.1 k (by omega)) (by rw [hO3.1]; exact Nat.le_refl _)).wide h1 (by rw [hO3.1]; exact Nat.le_refl _) (Nat.le_refl _), (hB1.trans (hB2.mono h1)).trans (hO3.2.2 _ hb1)⟩

set_option maxRecDepth 100000 in
theorem wrapI (x : Int) (h0 : 0 ≤ x) (h1 : x ≤ 1000000) : IntKind.i64.wrap x = x := by rw [IntKind.wrap_i64]; omega
set_option maxRecDepth 100000 in
theorem step_store_v {P : Program} {ops : Array Oper} {o : Oper} {a : Act} {w : World} {Q : Exit → Act → World → Prop} {K : Act → World → Prop} {E : Prop} (hgd : o.guard = none) (t : TypeId) (x y : Operand) (ho : o.op = .store t x y) (b : Nat) (ys : List Value) (hx : a.eval x = .pointer (some ⟨b, 0, none⟩)) (hy : a.eval y = .agg ys.toArray)
    (hi : (P.info? t).map (·.size) = some ys.length) {t' : TypeId} {vs : List Value} (hb : VBlk w b t' vs) (hn : ys.length = vs.length) (h1 : ∀ v ∈ ys, v.oneCell' = true)
    (h : ∀ w', Only b w w' → VBlk w' b t' ys → K (a.put o.dst undef) w') : if Region.wanted o (yielded ops a.tmps) = true then Oper.wp P o a w K Q else E := by
  have hw : Region.wanted o (yielded ops a.tmps) = true := by simp [Region.wanted, hgd]
  rw [if_pos hw]
  refine wp_store_mid t x y ho b 0 ys.toArray hx hy ?_ (by rw [hi]; simp) (all_oneCell_toArray h1) ?_
  · rw [List.size_toArray, hn]; exact hb.there
  · refine h _ (only_setCells _ _ _ _) ?_
    unfold VBlk
    rw [heap_setCells b t' _ 0 w vs hb (by simp [hn])]
    simp [hn]

/-- the rows behind one more key -/
def addR (key : ByteArray) (R : List (List Int)) : List (List Int) := R.mapIdx fun i xs => raise xs (place.placeOf key i).toNat
def halfR (R : List (List Int)) : List (List Int) := R.map (·.map half)
set_option maxRecDepth 100000 in
theorem addR_four {key : ByteArray} {R : List (List Int)} (h : Four R) : Four (addR key R) := by
  refine ⟨by simp [addR, h.1], fun xs hx => ?_⟩
  obtain ⟨i, hi, rfl⟩ := List.getElem_of_mem hx
  simp only [addR, List.getElem_mapIdx, raise_len]
  exact h.2 _ (List.getElem_mem _)
set_option maxRecDepth 100000 in
theorem bnd_bd (x : Int) : 0 ≤ bnd x ∧ bnd x ≤ 15 := by unfold bnd; omega
set_option maxRecDepth 100000 in
theorem raise_small (xs : List Int) (p : Nat) : ∀ x ∈ raise xs p, 0 ≤ x ∧ x ≤ 15 := by
  intro x hx
  obtain ⟨y, -, rfl⟩ := List.mem_map.1 hx
  exact bnd_bd y
set_option maxRecDepth 100000 in
theorem addR_small (key : ByteArray) (R : List (List Int)) : Small (addR key R) := fun xs hx => by
  obtain ⟨i, hi, rfl⟩ := List.getElem_of_mem hx
  simp only [addR, List.getElem_mapIdx]
  exact raise_small _ _
set_option maxRecDepth 100000 in
theorem halfR_four {R : List (List Int)} (h : Four R) : Four (halfR R) := ⟨by simp [halfR, h.1], by simp [halfR]; intro xs hx; exact h.2 xs hx⟩
def addedR (R : List (List Int)) (adds : Int) (key : ByteArray) : List (List Int) := if skOk R adds then (if adds = 159 then halfR (addR key R) else addR key R) else []
def addedN (R : List (List Int)) (adds : Int) : Int := if skOk R adds then (if adds = 159 then 0 else adds + 1) else 0

set_option maxRecDepth 100000 in
theorem implAdded_any (R : List (List Int)) (adds : Int) (key : ByteArray) (hk : key.size ≤ 1048576) (v : Value) (w : World) (hi : Nat) (hh : hi ≤ w.heap.size) (hv : Rd w 0 hi v R) :
    Calls Try.prog 51 #[skv v adds, .string key] w fun e w' => ∃ v', e = .returned (skv v' (addedN R adds)) ∧ Own w' w.heap.size w'.heap.size v' (addedR R adds key) ∧ Below w.heap.size w w' := by
  by_cases hok : skOk R adds
  · have hd : decide (skOk R adds) = true := decide_eq_true hok
    have hR4 := hok.four
    have hsm := hok.small
    have had := hok.2.1
    have hl := hR4.len
    have hOk : Hid (skOk R adds) := hok
    clear hok
    obtain ⟨T, hT⟩ : ∃ T, Hid (T = addR key R) := ⟨_, rfl⟩
    have hT4 : Four T := by rw [hT.out]; exact addR_four hR4
    have hTs : Small T := by rw [hT.out]; exact addR_small key R
    have hlT := hT4.len
    go_enter Try.func51, Try.ntmps51
    go_wp2_with (first | (refine wpList_box_v rfl 30 _ rfl [v, .int .i64 adds] rfl ?_; intro b1 w1 hb1 hw1 hB1 hV1; have hv1 := hv.below hB1 hh) | (refine wpList_alloc_v rfl 30 rfl _ zero27 ?_; intro b2 w2 hb2 hw2 hB2 hV2; replace hV1 := hV1.below hB2 hw1; have hc0 := hV1.cell 0 (by simp); have hc1 := hV1.cell 1 (by simp); simp only [List.getElem_cons_zero, List.getElem_cons_succ] at hc0 hc1; have hv2 := hv1.below hB2 (by have := hB1.size; omega)) | (go_at_call 70; refine (rowsOf_any R adds v _ hi (by have := hB1.size; have := hB2.size; omega) hv2).mono ?_; rintro e w3 ⟨fl, rfl, hfl, hfl2, hB3⟩; obtain rfl := hfl2 hOk.out; replace hV2 := hV2.below hB3 hw2; replace hV1 := hV1.below hB3 (by have := hB2.size; omega)) | (refine wpList_alloc_arr rfl 95 rfl _ zero54' ?_; intro b4 w4 hb4 hw4 hB4 hK4; replace hV2 := hV2.below hB4 (by have := hB3.size; omega); replace hV1 := hV1.below hB4 (by have := hB3.size; have := hB2.size; omega)) | (refine wpList_store_arr rfl 95 _ _ rfl b4 0 R.flatten rfl rfl (by rw [hl]; exact size54) hK4 (by rw [hl, z64_len]; omega) ?_; intro w5 hO5 hK5; have hV15 := hV1.of (hO5.2.1 b1 (by have := hB3.size; have := hB2.size; omega)); have hV25 := hV2.of (hO5.2.1 b2 (by have := hB3.size; omega)); rw [put_all _ _ (by rw [hl, z64_len])] at hK5) | (refine wpList_load_arr rfl 95 _ rfl b4 0 64 rfl _ Try.underlying95 rfl size54 hK5 (by omega) R.flatten (all64 hl) ?_))
    have h1 := hB1.size
    have h2 := hB2.size
    have h3 := hB3.size
    have h4 := hB4.size
    have h5 := hO5.1
    have hB : Below w.heap.size w w5 := (((hB1.trans (hB2.mono h1)).trans (hB3.mono (by omega))).trans (hB4.mono (by omega))).trans (hO5.2.2 _ (by omega))
    have n14 : b1 ≠ b4 := by omega
    have n24 : b2 ≠ b4 := by omega
    have hlo2 : w.heap.size ≤ b2 := by omega
    have hlo4 : w.heap.size ≤ b4 := by omega
    go_loopw [18] (fun v' wr => ∃ i : Nat, i ≤ 4 ∧ v' = .int .i64 i ∧ Blk wr b4 95 (mix T R i).flatten ∧ VBlk wr b1 30 [v, .int .i64 adds] ∧ VBlk wr b2 30 [.slice none 0 0, .int .i64 0] ∧ Below w.heap.size w wr) (fun v' _ => 4 - (intOf v').toNat)
    case atStart => exact ⟨0, by omega, rfl, by rw [mix_zero]; exact hK5, hV15, hV25, hB⟩
    case round =>
      obtain ⟨i, hi4, rfl, hk4, hv1r, hv2r, hBr⟩ := hrel
      by_cases hlt : i < 4
      · have hiR : i < R.length := by rw [hR4.1]; exact hlt
        have hiT : i < T.length := by rw [hT4.1]; exact hlt
        obtain ⟨xs, hxs⟩ : ∃ xs, R[i] = xs := ⟨_, rfl⟩
        have hx16 : xs.length = 16 := by rw [← hxs]; exact hR4.2 _ (List.getElem_mem hiR)
        have hxb : ∀ x ∈ xs, 0 ≤ x ∧ x ≤ 15 := by rw [← hxs]; exact hsm _ (List.getElem_mem hiR)
        have hchunk : Hid ((R.flatten.drop (i * 16)).take 16 = xs) := by unfold Hid; rw [flat_chunk 16 R hR4.2 i hiR, hxs]
        have hpb := place.placeOf_bd key i
        obtain ⟨p, hp⟩ : ∃ p : Nat, place.placeOf key i = p := ⟨(place.placeOf key i).toNat, by omega⟩
        have hp16 : p < 16 := by omega
        have hP : Hid (place.placeOf key i = p) := hp
        clear hp hpb
        obtain ⟨ys, hys⟩ : ∃ ys, Hid (ys = raise xs p) := ⟨_, rfl⟩
        have hy16 : ys.length = 16 := by rw [hys.out, raise_len, hx16]
        have HX : Hid (R[i] = xs) := hxs
        clear hxs
        have eT : Hid (T[i] = ys) := by
          have : T[i] = raise R[i] (place.placeOf key i).toNat := by have := hT.out; subst this; simp [addR]
          rw [HX.out, hP.out] at this
          unfold Hid; rw [this, hys.out]; simp
        have h4' : Hid ((mix T R i).length = R.length) := mix_len T R i (by rw [hT4.1, hR4.1])
        have hm16 : Hid (∀ xs ∈ mix T R i, xs.length = 16) := mix_mem T R i 16 hT4.2 hR4.2
        have hml : (mix T R i).flatten.length = 64 := by rw [flat_len 16 _ hm16.out, h4'.out, hR4.1]
        go_wp2_with (first | (refine wpList_index_arr rfl 95 _ _ rfl R.flatten i 4 16 rfl rfl Try.underlying95 Try.sizeOf93 Try.isAgg93 hlt xs hchunk.out ?_) | (refine wpList_alloc_arr rfl 93 rfl _ zero52 ?_; intro b8 w8 hb8 hw8 hB8 hK8) | (refine wpList_store_arr rfl 93 _ _ rfl b8 0 xs rfl rfl (by rw [hx16]; exact size52) hK8 (by rw [hx16]; simp) ?_; intro w9 hO9 hK9; rw [put_all _ _ (by rw [hx16]; simp)] at hK9))
        have h8 := hB8.size
        have h9 := hO9.1
        have hbr := hBr.size
        have l1 := hv1r.lt
        have l2 := hv2r.lt
        have l4 := hk4.lt
        have n84 : b8 ≠ b4 := by omega
        have k4 : Blk w9 b4 95 (mix T R i).flatten := (hk4.below hB8 l4).of (hO9.2.1 _ (by omega))
        have v1 := (hv1r.below hB8 l1).of (hO9.2.1 _ (by omega))
        have v2 := (hv2r.below hB8 l2).of (hO9.2.1 _ (by omega))
        have hr9 : w9.drew.rangeAt b8 0 (ints xs) := hK9.drew.range0
        have ht9 : w9.drew.there b4 (i * 16) 16 := k4.drew.there _ _ (by rw [hml]; omega)
        have hBw : Below w.heap.size w w9 := (hBr.trans (hB8.mono hbr)).trans (hO9.2.2 _ (by omega))
        have hu := Try.underlying93
        have hix : (Try.prog.info? 93).map (·.size) = some (ints xs).length := by rw [ints_len, hx16]; exact size52
        have hiy : (Try.prog.info? 93).map (·.size) = some (ints ys).length := by rw [ints_len, hy16]; exact size52
        have hly : (ints ys).length = 16 := by rw [ints_len, hy16]
        have hone := ints_one ys
        go_region_held3 (fun w' => w'.rangeAt b8 0 (ints xs) ∧ w'.there b4 (i * 16) 16) (first | assumption | exact ⟨hr9, ht9⟩ | exact ⟨hr10, ht10⟩ | exact ⟨hr11, ht11⟩ | exact ⟨World.rangeAt_setCells_apart hr11 _ _ _ (.inl n84), World.there_setCells ht11 _ _ _⟩) (first | (go_at_call 71; refine (place.impl_in key i (by omega) (by omega) hk _).mono ?_; rintro e w10 ⟨he, hO10⟩; rw [hP.out] at he; subst he; have hB10 := hO10.below; have hk10 := hK9.drew.below hB10 (by show b8 < w9.heap.size; omega); have hk410 := k4.drew.below hB10 (by show b4 < w9.heap.size; omega); have hr10 := hk10.range0; have ht10 : w10.there b4 (i * 16) 16 := hk410.there _ _ (by rw [hml]; omega)) | (go_at_call 97; refine (raised_any xs hx16 hxb p hp16 _).mono ?_; rintro e w11 ⟨he, hB11⟩; rw [← hys.out] at he; subst he; have hk11 := hk10.below hB11 hk10.lt; have hk411 := hk410.below hB11 hk410.lt; have hr11 := hk11.range0; have ht11 : w11.there b4 (i * 16) 16 := hk411.there _ _ (by rw [hml]; omega)))
        have k12 := hk411.setCells ys (i * 16) (by rw [hy16, hml]; omega)
        rw [flat_put 16 _ hm16.out i (by rw [h4'.out]; exact hiR) ys hy16] at k12
        have o12 := only_setCells w11 b4 (ints ys) (i * 16)
        obtain ⟨w12, HW12⟩ : ∃ w12, Hid (w12 = w11.setCells b4 (i * 16) (ints ys)) := ⟨_, rfl⟩
        rw [← HW12.out] at k12 o12 ⊢
        go_wp2
        go_roundw
        case rel =>
          have e10 : w9.drew.heap.size = w9.heap.size := rfl
          have h10 := hB10.size
          refine ⟨i + 1, by omega, by go_num, ?_, ?_, ?_, ?_⟩
          · rw [← mix_set T R i (by rw [hT4.1, hR4.1]) hiT, eT.out]; exact k12
          · exact (((VBlk.of (w' := w9.drew) v1 rfl).below hB10 (by omega)).below hB11 (by omega)).of (o12.2.1 _ n14)
          · exact (((VBlk.of (w' := w9.drew) v2 rfl).below hB10 (by omega)).below hB11 (by omega)).of (o12.2.1 _ n24)
          · exact ((hBw.drew.trans (hB10.mono (by omega))).trans (hB11.mono (by omega))).trans (o12.2.2 _ hlo4)
        case measure => simp [intOf]; omega
      · obtain rfl : i = 4 := by omega
        rw [mix_all T R 4 (by rw [hT4.1]; omega) (by rw [hR4.1]; omega)] at hk4
        have hc1r := hv1r.cell 1 (by simp)
        simp only [List.getElem_cons_zero, List.getElem_cons_succ] at hc1r
        have hbr := hBr.size
        by_cases h159 : adds = 159
        · have hN : Hid (addedN R adds = 0) := by have := hOk.out; simp [Hid, addedN, h159]
          have hRR : Hid (addedR R adds key = halfR T) := by have := hOk.out; unfold Hid addedR; rw [if_pos this, if_pos h159, hT.out]
          subst h159
          go_wp2_with (first | (refine wpList_load_arr rfl 95 _ rfl b4 0 64 rfl _ Try.underlying95 rfl size54 hk4 (by omega) T.flatten (all64 hlT) ?_) | (go_at_call 98; refine (rowsHalved_any T hT4 hTs _).mono ?_; rintro e w10 ⟨he, hB10⟩; change e = .returned (arr (halfR T).flatten) at he; subst he; have hv210 := hv2r.below hB10 hv2r.lt) | (go_at_call 95; refine (lists_any (halfR T) (halfR_four hT4) _).mono ?_; rintro e w11 ⟨v', rfl, hown, hB11⟩; obtain ⟨va, vn, vc, rfl⟩ := hown.form; have hv211 := hv210.below hB11 hv210.lt) | (refine wpList_store_v rfl 30 _ _ rfl b2 [.slice va vn vc, .int .i64 0] rfl rfl size27 hv211 rfl (by simp [Value.oneCell']) ?_; intro w12 hO12 hV12))
          have h10 := hB10.size
          have h11 := hB11.size
          have l2 := hv2r.lt
          refine row_retv rfl rfl hV12 Try.underlying30 size27 rfl ⟨_, by rw [hN.out], ?_, ?_⟩
          · rw [hRR.out]
            exact (hown.keep (fun k h2 h3 => hO12.2.1 k (by omega)) (by rw [hO12.1]; exact Nat.le_refl _)).wide (by omega) (by rw [hO12.1]; exact Nat.le_refl _) (Nat.le_refl _)
          · exact ((hBr.trans (hB10.mono hbr)).trans (hB11.mono (by omega))).trans (hO12.2.2 _ hlo2)
        · have hN : Hid (addedN R adds = adds + 1) := by have := hOk.out; simp [Hid, addedN, this, h159]
          have hRR : Hid (addedR R adds key = T) := by have := hOk.out; unfold Hid addedR; rw [if_pos this, if_neg h159, hT.out]
          have hne160 : ¬ (adds + 1 = 160) := by omega
          go_wp2
          have l1 := hv1r.lt
          have l2 := hv2r.lt
          have l4 := hk4.lt
          refine wp_region_held_drew (S := fun w' => w'.rangeAt b4 0 (ints T.flatten) ∧ w'.cell? ⟨b1, 1, none⟩ = some (.int .i64 adds)) (by kernel_rfl) ⟨hk4.drew.range0, hc1r⟩ (fun hHeld => ?_)
          refine wpAnyH_take (i := 0) (v := arr T.flatten) rfl (by kernel_rfl) (by kernel_rfl) (by kernel_rfl) (fun _ _ _ h => h) (yieldsIf_load_mid rfl _ _ rfl b4 0 rfl (ints T.flatten) _ (fun w h => h.1) Try.underlying95 rfl (by rw [ints_len, hlT]; exact size54)) hHeld ?_
          refine wpAnyH_take (i := 2) (v := .pointer (some ⟨b1, 1, none⟩)) rfl (by kernel_rfl) (by kernel_rfl) (by kernel_rfl) (fun _ _ _ h => h) (Or.inl ⟨rfl, fun w' hS => by go_simp⟩) hHeld ?_
          refine wpAnyH_take (i := 3) (v := .int .i64 adds) rfl (by kernel_rfl) (by kernel_rfl) (by kernel_rfl) (fun _ _ _ h => h) (Or.inl ⟨rfl, fun w' hS => by have h2 := hS.2; go_simp⟩) hHeld ?_
          refine wpAnyH_take (i := 4) (v := .int .i64 (adds + 1)) rfl (by kernel_rfl) (by kernel_rfl) (by kernel_rfl) (fun _ _ _ h => h) (Or.inl ⟨rfl, fun w' hS => by go_simp; exact wrapI _ (by omega) (by omega)⟩) hHeld ?_
          simp only [Act.put, List.setIfInBounds_toArray]
          refine wpAnyH_ready (rs := [1]) (by kernel_rfl) (by simp) ?_
          refine AllReadyH.cons rfl (fun K hK => ?_) AllReadyH.nil
          go_simp
          go_at_call 95
          refine (lists_any T hT4 _).mono ?_
          rintro e w11 ⟨v', rfl, hown, hB11⟩
          obtain ⟨va, vn, vc, rfl⟩ := hown.form
          have e11 : wr.drew.heap.size = wr.heap.size := rfl
          have hS2 : w11.rangeAt b4 0 (ints T.flatten) ∧ w11.cell? ⟨b1, 1, none⟩ = some (.int .i64 adds) := ⟨(hk4.drew.below hB11 l4).range0, by rw [hB11.cell (by show b1 < _; omega)]; exact hc1r⟩
          have hv211 := VBlk.below (w := wr.drew) hv2r hB11 l2
          refine hK.out _ _ hS2 (fun _ => ?_)
          refine wpAnyH_take (i := 5) (v := .agg #[.slice va vn vc, .int .i64 (adds + 1)]) rfl (by kernel_rfl) (by kernel_rfl) (by kernel_rfl) (fun _ _ _ h => h) (Or.inl ⟨rfl, fun w' hS => by go_simp⟩) hS2 ?_
          simp only [Act.put, List.setIfInBounds_toArray]
          refine wpAnyH_ready (rs := [6]) (by kernel_rfl) (by simp) ?_
          refine AllReadyH.cons rfl (fun K2 hK2 => ?_) AllReadyH.nil
          refine step_store_v rfl 30 _ _ rfl b2 [.slice va vn vc, .int .i64 (adds + 1)] rfl rfl size27 hv211 rfl (by simp [Value.oneCell']) ?_
          intro w12 hO12 hV12
          refine hK2.out _ _ ⟨range_of hS2.1 (hO12.2.1 _ (fun e => n24 e.symm)), by rw [World.cell?_of_block (w := w11) (hO12.2.1 b1 (by omega))]; exact hS2.2⟩ (fun _ => ?_)
          refine wpAnyH_done (by kernel_rfl) ?_ _
          go_simp
          go_wp2
          have h11 := hB11.size
          refine row_retv rfl rfl hV12 Try.underlying30 size27 rfl ⟨_, by rw [hN.out], ?_, ?_⟩
          · rw [hRR.out]
            exact (hown.keep (fun k h2 h3 => hO12.2.1 k (by omega)) (by rw [hO12.1]; exact Nat.le_refl _)).wide (by omega) (by rw [hO12.1]; exact Nat.le_refl _) (Nat.le_refl _)
          · exact (hBr.drew.trans (hB11.mono (by omega))).trans (hO12.2.2 _ hlo2)
  · have hd : decide (skOk R adds) = false := decide_eq_false hok
    have hN : Hid (addedN R adds = 0) := by simp [Hid, addedN, hok]
    have hR : Hid (addedR R adds key = []) := by simp [Hid, addedR, hok]
    go_enter Try.func51, Try.ntmps51
    go_wp2_with (first | (refine wpList_box_v rfl 30 _ rfl [v, .int .i64 adds] rfl ?_; intro b1 w1 hb1 hw1 hB1 hV1; have hv1 := hv.below hB1 hh) | (refine wpList_alloc_v rfl 30 rfl _ zero27 ?_; intro b2 w2 hb2 hw2 hB2 hV2; replace hV1 := hV1.below hB2 hw1; have hc0 := hV1.cell 0 (by simp); have hc1 := hV1.cell 1 (by simp); simp only [List.getElem_cons_zero, List.getElem_cons_succ] at hc0 hc1; have hv2 := hv1.below hB2 (by have := hB1.size; omega)) | (go_at_call 70; refine (rowsOf_any R adds v _ hi (by have := hB1.size; have := hB2.size; omega) hv2).mono ?_; rintro e w3 ⟨fl, rfl, hfl, hfl2, hB3⟩; replace hV2 := hV2.below hB3 hw2) | (refine wpList_alloc_arr rfl 95 rfl _ zero54' ?_; intro b4 w4 hb4 hw4 hB4 hK4; replace hV2 := hV2.below hB4 (by have := hB3.size; omega)) | (refine wpList_store_arr rfl 95 _ _ rfl b4 0 fl rfl rfl (by rw [hfl]; exact size54) hK4 (by rw [hfl, z64_len]; omega) ?_; intro w5 hO5 hK5; have hV5 := hV2.of (hO5.2.1 b2 (by have := hB3.size; omega))) | (refine wpList_store_v rfl 30 _ _ rfl b2 [.slice none 0 0, .int .i64 0] rfl rfl size27 hV5 rfl (by simp [Value.oneCell']) ?_; intro w6 hO6 hV6))
    have h1 := hB1.size
    have h2 := hB2.size
    have h3 := hB3.size
    have h4 := hB4.size
    refine row_retv rfl rfl hV6 Try.underlying30 size27 rfl ⟨_, by rw [hN.out], by rw [hR.out]; exact own_nil _ _ _ (Nat.le_refl _), ?_⟩
    exact ((((hB1.trans (hB2.mono h1)).trans (hB3.mono (by omega))).trans (hB4.mono (by omega))).trans (hO5.2.2 _ (by omega))).trans (hO6.2.2 _ (by omega))

/-- the least count of a key in the first n rows -/
def estN (key : ByteArray) (R : List (List Int)) (n : Nat) : Int := (List.range n).foldl (fun m i => min m ((R.getD i []).getD (place.placeOf key i).toNat 0)) 15
set_option maxRecDepth 100000 in
theorem estN_succ (key : ByteArray) (R : List (List Int)) (n : Nat) : estN key R (n + 1) = min (estN key R n) ((R.getD n []).getD (place.placeOf key n).toNat 0) := by
  simp [estN, List.range_succ]
def estA (R : List (List Int)) (adds : Int) (key : ByteArray) : Int := if skOk R adds then estN key R 4 else -1
set_option maxRecDepth 100000 in
theorem min_if (a b : Int) : (if b < a then b else a) = min a b := by split <;> omega

set_option maxRecDepth 100000 in
theorem implEstimate_any (R : List (List Int)) (adds : Int) (key : ByteArray) (hk : key.size ≤ 1048576) (v : Value) (w : World) (hi : Nat) (hh : hi ≤ w.heap.size) (hv : Rd w 0 hi v R) :
    Calls Try.prog 26 #[skv v adds, .string key] w fun e w' => e = .returned (.int .i64 (estA R adds key)) ∧ Below w.heap.size w w' := by
  by_cases hok : skOk R adds
  · have hd : decide (skOk R adds) = true := decide_eq_true hok
    have hR4 := hok.four
    have hl := hR4.len
    have hE : Hid (estA R adds key = estN key R 4) := by simp [Hid, estA, hok]
    have hOk : Hid (skOk R adds) := hok
    clear hok
    go_enter Try.func26, Try.ntmps26
    go_wp2_with (first | (refine wpList_box_v rfl 30 _ rfl [v, .int .i64 adds] rfl ?_; intro b1 w1 hb1 hw1 hB1 hV1; have hv1 := hv.below hB1 hh; have hc0 := hV1.cell 0 (by simp); have hc1 := hV1.cell 1 (by simp); simp only [List.getElem_cons_zero, List.getElem_cons_succ] at hc0 hc1) | (go_at_call 70; refine (rowsOf_any R adds v _ hi (by have := hB1.size; omega) hv1).mono ?_; rintro e w3 ⟨fl, rfl, hfl, hfl2, hB3⟩; obtain rfl := hfl2 hOk.out) | (refine wpList_alloc_arr rfl 95 rfl _ zero54' ?_; intro b4 w4 hb4 hw4 hB4 hK4) | (refine wpList_store_arr rfl 95 _ _ rfl b4 0 R.flatten rfl rfl (by rw [hl]; exact size54) hK4 (by rw [hl, z64_len]; omega) ?_; intro w5 hO5 hK5; rw [put_all _ _ (by rw [hl, z64_len])] at hK5) | (refine wpList_load_arr rfl 95 _ rfl b4 0 64 rfl _ Try.underlying95 rfl size54 hK5 (by omega) R.flatten (all64 hl) ?_))
    have h1 := hB1.size
    have h3 := hB3.size
    have h4 := hB4.size
    have h5 := hO5.1
    have hB : Below w.heap.size w w5 := ((hB1.trans (hB3.mono h1)).trans (hB4.mono (by omega))).trans (hO5.2.2 _ (by omega))
    go_loopw [7, 18] (fun m v' wr => ∃ i : Nat, i ≤ 4 ∧ v' = .int .i64 i ∧ m = .int .i64 (estN key R i) ∧ Below w.heap.size w wr) (fun _ v' _ => 4 - (intOf v').toNat)
    case atStart => exact ⟨0, by omega, rfl, rfl, hB⟩
    case round =>
      obtain ⟨i, hi4, rfl, rfl, hBr⟩ := hrel
      by_cases hlt : i < 4
      · have hiR : i < R.length := by rw [hR4.1]; exact hlt
        obtain ⟨xs, hxs⟩ : ∃ xs, R[i] = xs := ⟨_, rfl⟩
        have hx16 : xs.length = 16 := by rw [← hxs]; exact hR4.2 _ (List.getElem_mem hiR)
        have hchunk : Hid ((R.flatten.drop (i * 16)).take 16 = xs) := by unfold Hid; rw [flat_chunk 16 R hR4.2 i hiR, hxs]
        have hpb := place.placeOf_bd key i
        obtain ⟨p, hp⟩ : ∃ p : Nat, place.placeOf key i = p := ⟨(place.placeOf key i).toNat, by omega⟩
        have hp16 : p < 16 := by omega
        have hP : Hid (place.placeOf key i = p) := hp
        clear hp hpb
        obtain ⟨z, hz⟩ : ∃ z, xs[p]'(by omega) = z := ⟨_, rfl⟩
        have hZ : Hid (xs[p]'(by omega) = z) := hz
        have hE1 : Hid (estN key R (i + 1) = min (estN key R i) z) := by
          unfold Hid
          rw [estN_succ, hP.out]
          congr 1
          have e1 : R.getD i [] = xs := by rw [List.getD_eq_getElem?_getD, List.getElem?_eq_getElem hiR, hxs]; rfl
          rw [e1, Int.toNat_natCast, List.getD_eq_getElem?_getD, List.getElem?_eq_getElem (by omega), ← hz]; rfl
        obtain ⟨m, hm⟩ : ∃ m, estN key R i = m := ⟨_, rfl⟩
        have hM : Hid (estN key R i = m) := hm
        rw [hm]
        clear hxs hz hm
        go_wp2_with (first | (refine wpList_index_arr rfl 95 _ _ rfl R.flatten i 4 16 rfl rfl Try.underlying95 Try.sizeOf93 Try.isAgg93 hlt xs hchunk.out ?_) | (refine wpList_alloc_arr rfl 93 rfl _ zero52 ?_; intro b8 w8 hb8 hw8 hB8 hK8) | (refine wpList_store_arr rfl 93 _ _ rfl b8 0 xs rfl rfl (by rw [hx16]; exact size52) hK8 (by rw [hx16]; simp) ?_; intro w9 hO9 hK9; rw [put_all _ _ (by rw [hx16]; simp)] at hK9) | (go_at_call 71; refine (place.impl_in key i (by omega) (by omega) hk _).mono ?_; rintro e w10 ⟨he, hO10⟩; rw [hP.out] at he; subst he; have hB10 := hO10.below; have hk10 := hK9.below hB10 hK9.lt; have hc10 := hk10.cell p (by omega); rw [hZ.out] at hc10))
        go_roundw
        case rel =>
          have h8 := hB8.size
          have h9 := hO9.1
          have hbr := hBr.size
          refine ⟨i + 1, by omega, by go_num, ?_, ((hBr.trans (hB8.mono hbr)).trans (hO9.2.2 _ (by omega))).trans (hB10.mono (by omega))⟩
          rw [hE1.out, hM.out, min_if]
        case measure => simp [intOf]; omega
      · obtain rfl : i = 4 := by omega
        go_wp2
        go_ret
        exact ⟨by rw [hE.out]; rfl, hBr⟩
  · have hd : decide (skOk R adds) = false := decide_eq_false hok
    have hE : Hid (estA R adds key = -1) := by simp [Hid, estA, hok]
    go_enter Try.func26, Try.ntmps26
    go_wp2_with (first | (refine wpList_box_v rfl 30 _ rfl [v, .int .i64 adds] rfl ?_; intro b1 w1 hb1 hw1 hB1 hV1; have hv1 := hv.below hB1 hh; have hc0 := hV1.cell 0 (by simp); have hc1 := hV1.cell 1 (by simp); simp only [List.getElem_cons_zero, List.getElem_cons_succ] at hc0 hc1) | (go_at_call 70; refine (rowsOf_any R adds v _ hi (by have := hB1.size; omega) hv1).mono ?_; rintro e w3 ⟨fl, rfl, hfl, hfl2, hB3⟩) | (refine wpList_alloc_arr rfl 95 rfl _ zero54' ?_; intro b4 w4 hb4 hw4 hB4 hK4) | (refine wpList_store_arr rfl 95 _ _ rfl b4 0 fl rfl rfl (by rw [hfl]; exact size54) hK4 (by rw [hfl, z64_len]; omega) ?_; intro w5 hO5 hK5))
    go_ret
    have h1 := hB1.size
    have h3 := hB3.size
    exact ⟨by rw [hE.out]; rfl, ((hB1.trans (hB3.mono h1)).trans (hB4.mono (by omega))).trans (hO5.2.2 _ (by omega))⟩

end Go.Proofs.Ytmnjmghlkiljhaa.sk
/- Contracts of the model's SketchOk and Estimate. -/
namespace Go.Proofs.Ytmnjmghlkiljhaa.sk
open Go.ChangeShapes Go.WideShapes Go.ChangeAt Go.RowKit
set_option linter.unusedVariables false

set_option maxRecDepth 100000 in
theorem min_any (a b : Int) (w : World) : Calls Try.prog 136 #[.int .i64 a, .int .i64 b] w fun e w' => e = .returned (.int .i64 (min a b)) ∧ w' = w := by
  by_cases h : a < b
  · have e : Hid (min a b = a) := by unfold Hid; omega
    go_enter Try.func136, Try.ntmps136
    go_wp2
    go_ret
    exact ⟨by rw [e.out]; rfl, rfl⟩
  · have e : Hid (min a b = b) := by unfold Hid; omega
    go_enter Try.func136, Try.ntmps136
    go_wp2
    go_ret
    exact ⟨by rw [e.out]; rfl, rfl⟩

set_option maxRecDepth 100000 in
theorem rd_row {w : World} {lo hi : Nat} {a : Option Addr} {xs : List Int} (h : RowR w lo hi a xs) (hn : 0 < xs.length) : ∃ b off, a = some ⟨b, off, none⟩ ∧ lo ≤ b ∧ b < hi ∧ w.rangeAt b off (ints xs) := by
  rcases h.2 with h | h
  · subst h; simp at hn
  · exact h
set_option maxRecDepth 100000 in
theorem range_cell {w : World} {b off : Nat} {xs : List Int} (h : w.rangeAt b off (ints xs)) (k : Nat) (hk : k < xs.length) : w.cell? ⟨b, off + k, none⟩ = some (.int .i64 xs[k]) := h k _ (by simp [ints, hk])

set_option maxRecDepth 100000 in
set_option maxHeartbeats 1000000 in
theorem specSketchOk_any (R : List (List Int)) (adds : Int) (v : Value) (w : World) (hi : Nat) (hh : hi ≤ w.heap.size) (hv : Rd w 0 hi v R) :
    Calls Try.prog 64 #[skv v adds] w fun e w' => e = .returned (.bool (decide (skOk R adds))) ∧ Below w.heap.size w w' := by
  obtain ⟨hRl, a, cap, rfl, hrows⟩ := hv
  by_cases h4 : R.length = 4
  · have h4i : ((R.length : Int) = 4) := by omega
    by_cases ha : 0 ≤ adds ∧ adds ≤ 159
    · have hda : decide (0 ≤ adds ∧ adds ≤ 159) = true := decide_eq_true ha
      have h4' : Hid (R.length = 4) := h4
      rcases hrows with hnil | ⟨b, off, rfl, -, hbhi, hcells⟩
      · subst hnil; simp at h4
      clear h4
      have hCells : Hid (∀ i (h : i < R.length), ∃ a' c', w.cell? ⟨b, off + i, none⟩ = some (.slice a' (R[i]).length c') ∧ RowR w 0 hi a' R[i]) := hcells
      clear hcells
      go_enter Try.func64, Try.ntmps64
      go_wp2_with (first | (refine wpList_box_v rfl 30 _ rfl [.slice (some ⟨b, off, none⟩) R.length cap, .int .i64 adds] rfl ?_; intro b1 w1 hb1 hw1 hB1 hV1; have hc0 := hV1.cell 0 (by simp); have hc1 := hV1.cell 1 (by simp); simp only [List.getElem_cons_zero, List.getElem_cons_succ] at hc0 hc1) | (go_at_call 69; refine (place.in_any _ _ _ _).mono ?_; rintro e wq ⟨rfl, hq⟩; subst wq))
      go_loop [3] (fun v' => ∃ i : Nat, i ≤ 4 ∧ v' = .int .i64 i ∧ Hid (∀ j (hj : j < R.length), j < i → (R[j]).length = 16 ∧ ∀ x ∈ R[j], 0 ≤ x ∧ x ≤ 15)) (fun v' => 4 - (intOf v').toNat)
      case atStart => exact ⟨0, by omega, rfl, fun j _ h => by omega⟩
      case round =>
        obtain ⟨i, hi4, rfl, hdone⟩ := hrel
        by_cases hlt : i < 4
        · have hiR : i < R.length := by rw [h4'.out]; exact hlt
          obtain ⟨a', c', hcell0, hrow0⟩ := hCells.out i hiR
          obtain ⟨xs, hxs⟩ : ∃ xs, R[i] = xs := ⟨_, rfl⟩
          rw [hxs] at hcell0 hrow0
          have HX : Hid (R[i] = xs) := hxs
          clear hxs
          have hcell : w1.cell? ⟨b, off + i, none⟩ = some (.slice a' xs.length c') := by
            rw [hB1.cell (by show b < _; omega)]; exact hcell0
          have hrow := hrow0.keep (Same.of_below hB1 hh)
          clear hcell0 hrow0
          by_cases h16 : xs.length = 16
          · obtain ⟨fb, foff, rfl, -, hfb, hrange⟩ := rd_row hrow (by omega)
            rw [h16] at hcell
            have hR' : Hid (w1.rangeAt fb foff (ints xs)) := hrange
            have h16' : Hid (xs.length = 16) := h16
            clear hrange h16
            go_wp2
            go_loop [4] (fun v' => ∃ k : Nat, k ≤ 16 ∧ v' = .int .i64 k ∧ Hid (∀ j (hj : j < xs.length), j < k → 0 ≤ xs[j] ∧ xs[j] ≤ 15)) (fun v' => 16 - (intOf v').toNat)
            case atStart => exact ⟨0, by omega, rfl, fun j _ h => by omega⟩
            case round =>
              obtain ⟨k, hk16, rfl, hin⟩ := hrel
              by_cases hk : k < 16
              · obtain ⟨z, hz⟩ : ∃ z, xs[k]'(by rw [h16'.out]; exact hk) = z := ⟨_, rfl⟩
                have hcz := range_cell hR'.out k (by rw [h16'.out]; exact hk)
                rw [hz] at hcz
                have hZ : Hid (xs[k]'(by rw [h16'.out]; exact hk) = z) := hz
                clear hz
                by_cases hzb : 0 ≤ z ∧ z ≤ 15
                · have hdz : decide (0 ≤ z ∧ z ≤ 15) = true := decide_eq_true hzb
                  go_wp2_with (first | (go_at_call 69; refine (place.in_any _ _ _ _).mono ?_; rintro e wq ⟨rfl, hq⟩; subst wq))
                  go_round
                  case rel =>
                    refine ⟨k + 1, by omega, by go_num, fun j hj hjk => ?_⟩
                    by_cases e : j = k
                    · subst e; rw [hZ.out]; exact hzb
                    · exact hin.out j hj (by omega)
                  case measure => simp [intOf]; omega
                · have hdz : decide (0 ≤ z ∧ z ≤ 15) = false := decide_eq_false hzb
                  have hno : Hid (decide (skOk R adds) = false) := decide_eq_false (fun h => hzb (by rw [← hZ.out]; exact h.2.2.2 xs (by rw [← HX.out]; exact List.getElem_mem hiR) _ (List.getElem_mem _)))
                  go_wp2_with (first | (go_at_call 69; refine (place.in_any _ _ _ _).mono ?_; rintro e wq ⟨rfl, hq⟩; subst wq))
                  go_ret
                  exact ⟨by rw [hno.out]; rfl, hB1⟩
              · obtain rfl : k = 16 := by omega
                go_wp2
                go_round
                case rel =>
                  refine ⟨i + 1, by omega, by go_num, fun j hj hji => ?_⟩
                  by_cases e : j = i
                  · subst e; rw [HX.out]; exact ⟨h16'.out, fun x hx => by obtain ⟨q, hq, rfl⟩ := List.getElem_of_mem hx; exact hin.out q hq (by rw [h16'.out] at hq; exact hq)⟩
                  · exact hdone.out j hj (by omega)
                case measure => simp [intOf]; omega
          · have hno : Hid (decide (skOk R adds) = false) := decide_eq_false (fun h => h16 (by rw [← HX.out]; exact h.2.2.1 _ (List.getElem_mem hiR)))
            have h16i : ¬ ((xs.length : Int) = 16) := by omega
            go_wp2
            go_ret
            exact ⟨by rw [hno.out]; rfl, hB1⟩
        · obtain rfl : i = 4 := by omega
          have hyes : Hid (skOk R adds) := ⟨h4'.out, ha, fun ys hy => by obtain ⟨j, hj, rfl⟩ := List.getElem_of_mem hy; exact (hdone.out j hj (by rw [h4'.out] at hj; exact hj)).1, fun ys hy => by obtain ⟨j, hj, rfl⟩ := List.getElem_of_mem hy; exact (hdone.out j hj (by rw [h4'.out] at hj; exact hj)).2⟩
          go_wp2
          go_ret
          exact ⟨by rw [decide_eq_true hyes.out]; rfl, hB1⟩
    · have hda : decide (0 ≤ adds ∧ adds ≤ 159) = false := decide_eq_false ha
      have hno : Hid (decide (skOk R adds) = false) := decide_eq_false (fun h => ha h.2.1)
      clear h4
      go_enter Try.func64, Try.ntmps64
      go_wp2_with (first | (refine wpList_box_v rfl 30 _ rfl [.slice a R.length cap, .int .i64 adds] rfl ?_; intro b1 w1 hb1 hw1 hB1 hV1; have hc0 := hV1.cell 0 (by simp); have hc1 := hV1.cell 1 (by simp); simp only [List.getElem_cons_zero, List.getElem_cons_succ] at hc0 hc1) | (go_at_call 69; refine (place.in_any _ _ _ _).mono ?_; rintro e wq ⟨rfl, hq⟩; subst wq))
      go_ret
      exact ⟨by rw [hno.out]; rfl, hB1⟩
  · have hno : Hid (decide (skOk R adds) = false) := decide_eq_false (fun h => h4 h.1)
    have h4' : ¬ ((R.length : Int) = 4) := by omega
    go_enter Try.func64, Try.ntmps64
    go_wp2_with (first | (refine wpList_box_v rfl 30 _ rfl [.slice a R.length cap, .int .i64 adds] rfl ?_; intro b1 w1 hb1 hw1 hB1 hV1; have hc0 := hV1.cell 0 (by simp); have hc1 := hV1.cell 1 (by simp); simp only [List.getElem_cons_zero, List.getElem_cons_succ] at hc0 hc1) | (go_at_call 69; refine (place.in_any _ _ _ _).mono ?_; rintro e wq ⟨rfl, hq⟩; subst wq))
    go_ret
    exact ⟨by rw [hno.out]; rfl, hB1⟩

end Go.Proofs.Ytmnjmghlkiljhaa.sk
/- Slices of rows that grow by append, and the model's functions that make them: l1Copy, NewSketch, l2Copy. -/
namespace Go.Proofs.Ytmnjmghlkiljhaa.sk
open Go.ChangeShapes Go.WideShapes Go.ChangeAt Go.RowKit
set_option linter.unusedVariables false

/-- rows of integers in blocks of their own -/
def InnerAt (w : World) (lo hi : Nat) (B : Nat → Nat) (R : List (List Int)) : Prop :=
  (∀ i j, i < R.length → j < R.length → i ≠ j → B i ≠ B j) ∧
  ∀ i (h : i < R.length), (R[i]).length ≤ maxLen ∧ lo ≤ B i ∧ B i < hi ∧ (∃ cur, w.heap[B i]? = some (.cells cur 2 (0, 0))) ∧ Row w (B i) R[i]
def outs (B C : Nat → Nat) (R : List (List Int)) : List Value := R.mapIdx fun j xs => .slice (some ⟨B j, 0, none⟩) xs.length (C j)
set_option maxRecDepth 100000 in
theorem outs_len (B C : Nat → Nat) (R : List (List Int)) : (outs B C R).length = R.length := by simp [outs]
set_option maxRecDepth 100000 in
theorem inner_nil (w : World) (lo hi : Nat) (B : Nat → Nat) : InnerAt w lo hi B [] := ⟨fun i j h => by simp at h, fun i h => by simp at h⟩
set_option maxRecDepth 100000 in
theorem InnerAt.keep {w w' : World} {lo hi : Nat} {B : Nat → Nat} {R : List (List Int)} (h : InnerAt w lo hi B R) (s : ∀ i, i < R.length → w'.heap[B i]? = w.heap[B i]?) : InnerAt w' lo hi B R := by
  refine ⟨h.1, fun i hi => ?_⟩
  obtain ⟨c1, c2, c3, ⟨cur, c4⟩, c5⟩ := h.2 i hi
  exact ⟨c1, c2, c3, ⟨cur, by rw [s i hi]; exact c4⟩, c5.of' (s i hi)⟩
set_option maxRecDepth 100000 in
theorem outs_snoc (B C : Nat → Nat) (R : List (List Int)) (g c : Nat) (xs : List Int) :
    outs (fun j => if j = R.length then g else B j) (fun j => if j = R.length then c else C j) (R ++ [xs]) = outs B C R ++ [.slice (some ⟨g, 0, none⟩) xs.length c] := by
  apply List.ext_getElem
  · simp [outs]
  · intro i h1 h2
    by_cases e : i = R.length
    · subst e; simp [outs]
    · have hi : i < R.length := by simp [outs] at h1; omega
      simp [outs, e, List.getElem_append_left, hi]
set_option maxRecDepth 100000 in
theorem InnerAt.snoc {w : World} {lo hi hi' : Nat} {B : Nat → Nat} {R : List (List Int)} (h : InnerAt w lo hi B R) (g : Nat) (xs : List Int) (h1 : hi ≤ g) (h0 : lo ≤ g) (h2 : g < hi') (h3 : hi ≤ hi') (hl : xs.length ≤ maxLen)
    (hc : ∃ cur, w.heap[g]? = some (.cells cur 2 (0, 0))) (hr : Row w g xs) : InnerAt w lo hi' (fun j => if j = R.length then g else B j) (R ++ [xs]) := by
  refine ⟨fun i j hi hj hij => ?_, fun i hi => ?_⟩
  · simp only [List.length_append, List.length_cons, List.length_nil] at hi hj
    by_cases e1 : i = R.length
    · have e2 : j ≠ R.length := fun q => hij (by omega)
      have hB := (h.2 j (by omega)).2.2.1
      simp only [e1, e2, if_true, if_false]; omega
    · by_cases e2 : j = R.length
      · have hB := (h.2 i (by omega)).2.2.1
        simp only [e1, e2, if_true, if_false]; omega
      · simp only [e1, e2, if_false]; exact h.1 i j (by omega) (by omega) hij
  · by_cases e1 : i = R.length
    · subst e1
      simp only [if_true, List.getElem_concat_length]
      exact ⟨hl, h0, h2, hc, hr⟩
    · have hi' : i < R.length := by simp at hi; omega
      obtain ⟨c1, c2, c3, c4, c5⟩ := h.2 i hi'
      simp only [e1, if_false, List.getElem_append_left hi']
      exact ⟨c1, c2, by omega, c4, c5⟩
set_option maxRecDepth 100000 in
/-- rows and the outer row that names them -/
theorem InnerAt.own {w : World} {lo hi n : Nat} {B C : Nat → Nat} {R : List (List Int)} {v : Value} (h : InnerAt w lo hi B R) (hh : hi ≤ w.heap.size) (hn : n = R.length) (ho : w.ownsRow lo 100 1 v n (outs B C R)) (hl : R.length ≤ maxLen) : Own w lo w.heap.size v R := by
  subst hn
  rcases ho.2 with ⟨rfl, h0⟩ | ⟨g, cap, cur, rfl, hg, hb, hc1, hc2, hc3, htk⟩
  · obtain rfl : R = [] := List.eq_nil_of_length_eq_zero h0
    exact own_nil w lo w.heap.size (Nat.le_refl _)
  · have hlt : g < w.heap.size := (Array.getElem?_eq_some_iff.1 hb).1
    refine ⟨hl, _, _, g, B, C, rfl, fun _ => rfl, fun _ => ⟨hg, hlt⟩, Nat.le_refl _, h.1, fun i hi => ?_⟩
    obtain ⟨c1, c2, c3, ⟨cur', c4⟩, c5⟩ := h.2 i hi
    refine ⟨?_, c1, c2, by omega, fun e => ?_, c5⟩
    · rw [cell_of_row _ _ _ _ _ _ hb]
      have : (cur.toList.take (R.length * 1))[i]? = (outs B C R)[i]? := by rw [htk]
      rw [List.getElem?_take, if_pos (by omega)] at this
      simpa [outs, hi] using this
    · rw [e, hb] at c4
      simp at c4
set_option maxRecDepth 100000 in
theorem own_row {w : World} {lo g n c : Nat} {xs : List Int} (ho : w.ownsRow lo 2 1 (.slice (some ⟨g, 0, none⟩) n c) n (ints xs)) : Row w g xs ∧ lo ≤ g ∧ (∃ cur, w.heap[g]? = some (.cells cur 2 (0, 0))) ∧ n = xs.length := by
  have hn : n = xs.length := by have := ho.1; rw [ints_len] at this; omega
  rcases ho.2 with ⟨e, -⟩ | ⟨g', cap, cur, e, hg, hb, hc1, hc2, hc3, htk⟩
  · cases e
  · cases e
    have hget : ∀ j (v : Value), (ints xs)[j]? = some v → cur[j]? = some v := fun j v hv => by
      rw [← htk, List.getElem?_take] at hv
      split at hv
      · simpa using hv
      · cases hv
    refine ⟨⟨(Array.getElem?_eq_some_iff.1 hb).1, fun j v hv => ?_, fun j hj => ?_⟩, hg, ⟨cur, hb⟩, hn⟩
    · rw [cell_of_row _ _ _ _ _ _ hb]; simp only [Nat.zero_add]; exact hget j v hv
    · refine ⟨?_, frozen_of_row _ _ _ _ _ hb⟩
      rw [cell_of_row _ _ _ _ _ _ hb]
      simp only [Nat.zero_add]
      rw [hget j (.int .i64 xs[j]) (by simp [ints, hj])]; rfl

set_option maxRecDepth 100000 in
theorem infoI : ∃ i : TypeInfo, Try.prog.info? 2 = some i ∧ i.zero = some (.int .i64 0) ∧ i.size = 1 ∧ i.bytes = 8 := by
  obtain ⟨i, hi, hz⟩ := Option.map_eq_some_iff.1 info2
  simp only [Prod.mk.injEq] at hz
  exact ⟨i, hi, hz.1, hz.2.1, hz.2.2⟩
set_option maxRecDepth 100000 in
theorem infoS : ∃ i : TypeInfo, Try.prog.info? 100 = some i ∧ i.zero = some (.slice none 0 0) ∧ i.size = 1 ∧ i.bytes = 24 := by
  obtain ⟨i, hi, hz⟩ := Option.map_eq_some_iff.1 info46
  simp only [Prod.mk.injEq] at hz
  exact ⟨i, hi, hz.1, hz.2.1, hz.2.2⟩

set_option maxRecDepth 100000 in
theorem l1Copy_any (xs : List Int) (w : World) (b off c : Nat) (hx : xs.length ≤ 1048576) (hr : w.rangeAt b off (ints xs)) (hb : b < w.heap.size) :
    Calls Try.prog 134 #[.slice (some ⟨b, off, none⟩) xs.length c] w fun e w' => ∃ g cap, e = .returned (.slice (some ⟨g, 0, none⟩) xs.length cap) ∧ w.heap.size ≤ g ∧ g < w'.heap.size ∧ (∃ cur, w'.heap[g]? = some (.cells cur 2 (0, 0))) ∧ Row w' g xs ∧ Below w.heap.size w w' := by
  obtain ⟨i0, hi, hz0, hz1, hz2⟩ := infoI
  have hown : (w.alloc (.cells #[] 2)).ownsRow w.heap.size 2 1 (.slice (some ⟨w.heap.size, 0, none⟩) 0 0) 0 [] :=
    ⟨rfl, .inr ⟨w.heap.size, 0, #[], rfl, Nat.le_refl _, heap_alloc_new _ _, Nat.le_refl _, by unfold maxLen; omega, rfl, rfl⟩⟩
  have hnews : ∀ j u, (ints xs)[j]? = some u → (w.alloc (.cells #[] 2)).cell? ((⟨b, off, none⟩ : Addr).add j) = some u := fun j u hj => by
    rw [Addr.add_mid, World.cell?_of_block (w := w) (Below.heap_alloc _ _ _ hb)]
    exact hr j u hj
  have HN : Hid _ := hnews
  clear hnews hr
  go_enter Try.func134, Try.ntmps134
  go_wp2_with (first | (at_builtin; refine wpList_append_own _ rfl _ _ 100 rfl w.heap.size 2 i0 (.int .i64 0) 1 8 Try.underlying100 hi hz0 hz1 hz2 rfl (by decide) _ 0 [] rfl hown ⟨b, off, none⟩ xs.length c (ints xs) rfl (by rw [ints_len]; omega) HN.out (ints_one xs) (by unfold maxLen; omega) (by omega) (by simp) ?_; intro v' w' h2 h3 h4))
  rw [Nat.zero_add, List.nil_append] at h2
  have hB : Below w.heap.size w w' := Below.grown ((Below.refl _ w).alloc (Nat.le_refl _) _) h3 (by simp) (fun k hk => by
    have e : (some w.heap.size : Option Nat) = some k := hk
    cases e; exact Nat.le_refl _)
  rcases h2.2 with ⟨e, -⟩ | ⟨g, cap, cur, rfl, hg⟩
  · have := (h4.1 e).1
    cases this
  · obtain ⟨r1, r2, r3, r4⟩ := own_row h2
    go_ret
    exact ⟨g, cap, rfl, r2, r1.1, r3, r1, hB⟩

set_option maxRecDepth 100000 in
theorem step_append_own {P : Program} {ops : Array Oper} {o : Oper} {a : Act} (w : World) {K : Act → World → Prop} {Q : Exit → Act → World → Prop} {E : Prop} (hgd : o.guard = none) (s x : Operand) (t : TypeId)
    (ho : o.op = .call { callee := .builtin .append, args := #[s, x], argTypes := #[t, t] })
    (base : Nat) (e : TypeId) (i : TypeInfo) (z : Value) (size bytes : Nat) (ht : P.underlying t = some (.slice e)) (hi : P.info? e = some i) (hz : i.zero = some z)
    (hsize : i.size = size) (hby : i.bytes = bytes) (hzs : z.cells.size = size) (hsz : 0 < size)
    (v : Value) (n : Nat) (xs : List Value) (hs : a.eval s = v) (hown : w.ownsRow base e size v n xs)
    (ad : Addr) (m c : Nat) (news : List Value) (hx : a.eval x = .slice (some ad) m c) (hl : news.length = m * size) (hnews : ∀ j u, news[j]? = some u → w.cell? (ad.add j) = some u) (h1 : ∀ u ∈ news, u.oneCell' = true)
    (h63 : n + m ≤ maxLen) (hbytes : (n + m) * bytes ≤ 140737488355328) (hbase : base ≤ w.heap.size)
    (h : ∀ v' w', w'.ownsRow base e size v' (n + m) (xs ++ news) → w.grownBy w' v.ownBlock → (v' = .slice none 0 0 ↔ v = .slice none 0 0 ∧ m = 0) → K (a.put o.dst v') w') :
    if Region.wanted o (yielded ops a.tmps) = true then Oper.wp P o a w K Q else E := by
  have hw : Region.wanted o (yielded ops a.tmps) = true := by simp [Region.wanted, hgd]
  rw [if_pos hw]
  exact wp_append_own w s x t ho base e i z size bytes ht hi hz hsize hby hzs hsz v n xs hs hown ad m c news hx hl hnews h1 h63 hbytes hbase h

set_option maxRecDepth 100000 in
theorem VBlk.grown {w w' : World} {b : Nat} {t : TypeId} {vs : List Value} {row : Option Nat} (h : VBlk w b t vs) (g : w.grownBy w' row) (hne : some b ≠ row) : VBlk w' b t vs := h.of (g.block b h.lt hne)
set_option maxRecDepth 100000 in
theorem own_block_ne {w : World} {lo b : Nat} {e : TypeId} {v : Value} {n : Nat} {xs : List Value} (h : w.ownsRow lo e 1 v n xs) (hb : b < lo) : some b ≠ v.ownBlock := fun e => by
  have := (h.lt b e.symm).1; omega
set_option maxRecDepth 100000 in
theorem own_block_type {w : World} {lo b : Nat} {v : Value} {n : Nat} {xs : List Value} {cur : Array Value} (h : w.ownsRow lo 100 1 v n xs) (hb : w.heap[b]? = some (.cells cur 2 (0, 0))) : some b ≠ v.ownBlock := fun e => by
  rcases h.2 with ⟨rfl, -⟩ | ⟨g, cap, cur', rfl, hg, hb', -⟩
  · cases e
  · have e' : b = g := by injection e
    subst e'
    rw [hb'] at hb
    simp at hb

set_option maxRecDepth 100000 in
/-- a row is appended to the outer row -/
theorem push {w2 w' : World} {lo H n : Nat} {vo v' : Value} {B C : Nat → Nat} {R : List (List Int)} {xs : List Int} {g c : Nat} {o : Obj} (hown : w2.ownsRow lo 100 1 vo n (outs B C R)) (hin : InnerAt w2 lo H B R) (hn : n = R.length)
    (hH : H ≤ w2.heap.size) (hg0 : H ≤ g) (hlo : lo ≤ g) (hg : g < w2.heap.size) (hc : ∃ cur, w2.heap[g]? = some (.cells cur 2 (0, 0))) (hr : Row w2 g xs) (hl : xs.length ≤ maxLen)
    (g2 : w'.ownsRow lo 100 1 v' (n + 1) (outs B C R ++ [.slice (some ⟨g, 0, none⟩) xs.length c])) (g3 : (w2.alloc o).grownBy w' vo.ownBlock) :
    ∃ B' C', w'.ownsRow lo 100 1 v' (n + 1) (outs B' C' (R ++ [xs])) ∧ InnerAt w' lo w'.heap.size B' (R ++ [xs]) ∧ (∃ a n' c', v' = .slice a n' c') ∧ Below lo w2 w' := by
  have hs : w2.heap.size ≤ w'.heap.size := by have := g3.size; simp at this; omega
  have hk : ∀ b, b < w2.heap.size → some b ≠ vo.ownBlock → w'.heap[b]? = w2.heap[b]? := fun b hb hne => by
    rw [g3.block b (by simp; omega) hne, Below.heap_alloc _ _ _ hb]
  obtain ⟨cur, hcur⟩ := hc
  have hkg : w'.heap[g]? = w2.heap[g]? := hk g hg (own_block_type hown hcur)
  have hin' : InnerAt w' lo H B R := hin.keep (fun i hi => by
    obtain ⟨c1, c2, c3, ⟨cur', c4⟩, c5⟩ := hin.2 i hi
    exact hk _ c5.1 (own_block_type hown c4))
  refine ⟨_, _, by rw [hn, outs_snoc B C R g c xs, ← hn]; exact g2, hin'.snoc g xs hg0 hlo (by omega) (by omega) hl ⟨cur, by rw [hkg]; exact hcur⟩ (hr.of' hkg), ?_, ⟨g3.os, g3.tape, g3.output, hs, fun b hb => hk b (by omega) (own_block_ne hown hb)⟩⟩
  rcases g2.2 with ⟨-, h0⟩ | ⟨g', cap, cur', rfl, -⟩
  · omega
  · exact ⟨_, _, _, rfl⟩

def z16 : List Int := List.replicate 16 0
set_option maxRecDepth 100000 in
theorem z16_len : z16.length = 16 := by decide
set_option maxRecDepth 100000 in
theorem zeros_get (i : Nat) (h : i < zeros.length) : zeros[i] = z16 := by simp only [zeros, List.getElem_replicate]; rfl
set_option maxRecDepth 100000 in
theorem make16 (w : World) : (Instr.makeSlice 100 (.int .i64 16) (.int .i64 16)).run Try.prog w = .ok (.slice (some ⟨w.heap.size, 0, none⟩) 16 16) (w.alloc (.cells (ints z16).toArray 2)) := by
  have h := run_make_row' (P := Try.prog) 100 2 (.int .i64 0) 8 Try.underlying100 info2 rfl .i64 .i64 16 (by omega) (by omega) w
  rw [made_replicate] at h
  have e : ints z16 = List.replicate 16 (.int .i64 0) := rfl
  rw [e]
  exact h

set_option maxRecDepth 100000 in
set_option maxHeartbeats 1000000 in
theorem specNewSketch_any (w : World) :
    Calls Try.prog 68 #[] w fun e w' => ∃ v, e = .returned (skv v 0) ∧ Own w' w.heap.size w'.heap.size v zeros ∧ Below w.heap.size w w' := by
  obtain ⟨i0, hi, hz0, hz1, hz2⟩ := infoS
  have hmk := make16
  have hzr : Hid (∀ i (h : i < zeros.length), zeros[i] = z16) := zeros_get
  have hzl : Hid (zeros.length = 4) := rfl
  have m0 : Hid True := trivial
  go_enter Try.func68, Try.ntmps68
  go_wp2_with (first | (clear m0; refine wpList_alloc_v rfl 30 rfl _ zero27 ?_; intro b0 w1 hb0 hw1 hB1 hV0) | (refine wpList_alloc_v rfl 30 rfl _ zero27 ?_; intro b1 w2 hb1 hw2 hB2 hV1; replace hV0 := hV0.below hB2 hw1) | (refine wpList_store_v rfl 30 _ _ rfl b1 [.slice none 0 0, .int .i64 0] rfl rfl size27 hV1 rfl (by simp [Value.oneCell']) ?_; intro w3 hO3 hV3; replace hV0 := hV0.of (hO3.2.1 _ (by omega))))
  have h1 := hB1.size
  have h2 := hB2.size
  have h3 := hO3.1
  have hB : Below w.heap.size w w3 := (hB1.trans (hB2.mono h1)).trans (hO3.2.2 _ (by omega))
  obtain ⟨lo, hlo⟩ : ∃ lo, Hid (lo = w3.heap.size) := ⟨_, rfl⟩
  have l0 : b0 < lo := by rw [hlo.out]; omega
  have l1 : b1 < lo := by rw [hlo.out]; omega
  have lw : w.heap.size ≤ lo := by rw [hlo.out]; omega
  have n01 : b0 ≠ b1 := by omega
  go_loopw [2] (fun v' wr => ∃ i : Nat, i ≤ 4 ∧ v' = .int .i64 i ∧ VBlk wr b0 30 [.slice none 0 0, .int .i64 0] ∧ (∃ vo B C, VBlk wr b1 30 [vo, .int .i64 0] ∧ vo.oneCell' = true ∧ wr.ownsRow lo 100 1 vo i (outs B C (zeros.take i)) ∧ InnerAt wr lo wr.heap.size B (zeros.take i)) ∧ lo ≤ wr.heap.size ∧ Below w.heap.size w wr) (fun v' _ => 4 - (intOf v').toNat)
  case atStart => exact ⟨0, by omega, rfl, hV0, ⟨_, fun _ => 0, fun _ => 0, hV3, rfl, ⟨rfl, .inl ⟨rfl, rfl⟩⟩, inner_nil _ _ _ _⟩, by rw [hlo.out]; exact Nat.le_refl _, hB⟩
  case round =>
    obtain ⟨i, hi4, rfl, hv0, ⟨vo, B, C, hv1, h1c, hown, hin⟩, hlos, hBr⟩ := hrel
    by_cases hlt : i < 4
    · have hcv := hv1.cell 0 (by simp)
      have hfv := hv1.frozen 0
      simp only [List.getElem_cons_zero] at hcv
      have hOwn : Hid (wr.ownsRow lo 100 1 vo i (outs B C (zeros.take i))) := hown
      have hIn : Hid (InnerAt wr lo wr.heap.size B (zeros.take i)) := hin
      clear hown hin
      have hiz : i < zeros.length := by rw [hzl.out]; exact hlt
      go_wp2
      have hs1 : (wr.drew.alloc (.cells (ints z16).toArray 2)).heap.size = wr.heap.size + 1 := by simp
      have hin1 : Hid (InnerAt (wr.drew.alloc (.cells (ints z16).toArray 2)) lo wr.heap.size B (zeros.take i)) := hIn.out.keep (fun j hj => by
        have := (hIn.out.2 j hj).2.2.1
        exact Below.heap_alloc wr.drew _ _ this)
      have hnew : Hid (Blk (wr.drew.alloc (.cells (ints z16).toArray 2)) wr.heap.size 2 z16) := Blk.new wr.drew _ z16
      have htl : Hid (i = (zeros.take i).length) := by unfold Hid; rw [List.length_take, hzl.out]; omega
      have hnews : Hid (∀ j u, [Value.slice (some ⟨wr.heap.size, 0, none⟩) 16 16][j]? = some u → ((wr.drew.alloc (.cells (ints z16).toArray 2)).alloc (.cells #[.slice (some ⟨wr.heap.size, 0, none⟩) 16 16] 100)).cell? ((⟨wr.heap.size + 1, 0, none⟩ : Addr).add j) = some u) := by
        intro j u hj
        have hh := heap_alloc_new (wr.drew.alloc (.cells (ints z16).toArray 2)) (.cells #[.slice (some ⟨wr.heap.size, 0, none⟩) 16 16] 100)
        rw [hs1] at hh
        rw [Addr.add_mid, cell_of_row _ _ _ _ _ _ hh]
        simpa using hj
      have hs1' : Hid _ := hs1
      clear hs1
      have lb1' : b1 < wr.heap.size := by omega
      have hca : ∀ o, (wr.drew.alloc o).cell? ⟨b1, 0, none⟩ = some vo := fun o => by rw [World.cell?_of_block (w := wr.drew) (Below.heap_alloc wr.drew o b1 lb1')]; exact hcv
      have hcb : ∀ o o', ((wr.drew.alloc o).alloc o').cell? ⟨b1, 0, none⟩ = some vo := fun o o' => by rw [World.cell?_of_block (w := wr.drew.alloc o) (Below.heap_alloc (wr.drew.alloc o) o' b1 (by simp; omega))]; exact hca o
      go_region_law (first | (refine step_append_own _ rfl _ _ 28 rfl lo 100 i0 (.slice none 0 0) 1 24 Try.underlying28 hi hz0 hz1 hz2 rfl (by decide) vo i _ rfl ((hOwn.out.drew.alloc _).alloc _) ⟨wr.heap.size + 1, 0, none⟩ 1 1 [.slice (some ⟨wr.heap.size, 0, none⟩) 16 16] rfl rfl hnews.out (by simp [Value.oneCell']) (by unfold maxLen; omega) (by omega) (by simp; omega) ?_; intro v' w' g2 g3 g4; obtain ⟨B', C', p1, p2, ⟨va, vn, vc, rfl⟩, p4⟩ := push (hOwn.out.drew.alloc _) hin1.out htl.out (by rw [hs1'.out]; omega) (Nat.le_refl _) (by omega) (by rw [hs1'.out]; omega) ⟨_, hnew.out⟩ hnew.out.row (by unfold maxLen; rw [z16_len]; omega) g2 g3; have P1 : Hid _ := p1; have P2 : Hid _ := p2; have P4 : Hid _ := p4; clear p1 p2 p4 g2 g3 g4; have lb1 : b1 < wr.heap.size := (by omega); have lb0 : b0 < wr.heap.size := (by omega); have hv1w : VBlk w' b1 30 [vo, .int .i64 0] := hv1.of (by rw [P4.out.block b1 l1, Below.heap_alloc _ _ _ (by exact lb1)]; rfl); have hcw := hv1w.cell 0 (by simp); have hfw := hv1w.frozen 0; simp only [List.getElem_cons_zero] at hcw) | (fail))
      all_goals
        go_wp2
        go_roundw
        case rel =>
          have e1 : zeros.take (i + 1) = zeros.take i ++ [z16] := by rw [take_snoc zeros i hiz, hzr.out i hiz]
          have hlo' : b1 < lo := l1
          refine ⟨i + 1, by omega, by go_num, ?_, ⟨_, B', C', hv1w.set 0 _, rfl, ?_, ?_⟩, ?_, ?_⟩
          · exact (hv0.of (by rw [P4.out.block b0 l0, Below.heap_alloc _ _ _ (by exact lb0)]; rfl)).of (heap_setCell_other _ _ _ _ n01)
          · rw [e1]; exact ownsRow_setCell_below P1.out hlo' _
          · rw [e1, World.size_setCell]
            refine InnerAt.keep P2.out (fun j hj => heap_setCell_other _ _ _ _ ?_)
            have := (P2.out.2 j hj).2.1
            show B' j ≠ b1
            omega
          · have p5 := P4.out.size; rw [hs1'.out] at p5; simp; omega
          · refine Below.setCell (Below.trans (b := wr.drew) hBr.drew ?_) (by show w.heap.size ≤ b1; omega) _
            exact ((Below.refl _ wr.drew).alloc hBr.size _).trans (P4.out.mono lw)
        case measure => simp [intOf]; omega
    · obtain rfl : i = 4 := by omega
      rw [List.take_of_length_le (by rw [hzl.out]; omega)] at hown hin
      obtain ⟨va, vn, vc, rfl⟩ := (hin.own (Nat.le_refl _) hzl.out.symm hown (by rw [hzl.out]; unfold maxLen; omega)).form
      have hcv := hv1.cell 0 (by simp)
      have hcv1 := hv1.cell 1 (by simp)
      simp only [List.getElem_cons_zero, List.getElem_cons_succ] at hcv hcv1
      have hO := hin.own (Nat.le_refl _) hzl.out.symm hown (by rw [hzl.out]; unfold maxLen; omega)
      clear hown hin
      go_wp2_with (first | (refine wpList_store_v rfl 30 _ _ rfl b0 [.slice va vn vc, .int .i64 0] rfl rfl size27 hv0 rfl (by simp [Value.oneCell']) ?_; intro w9 hO9 hV9))
      refine row_retv rfl rfl hV9 Try.underlying30 size27 rfl ⟨_, rfl, ?_, hBr.trans (hO9.2.2 _ (by omega))⟩
      exact (hO.keep (fun k h2 h3 => hO9.2.1 k (by omega)) (by rw [hO9.1]; exact Nat.le_refl _)).wide lw (by rw [hO9.1]; exact Nat.le_refl _) (Nat.le_refl _)

set_option maxRecDepth 100000 in
set_option maxHeartbeats 2000000 in
theorem l2Copy_any (R : List (List Int)) (hR4 : Four R) (adds : Int) (v : Value) (w : World) (hi0 : Nat) (hh : hi0 ≤ w.heap.size) (hv : Rd w 0 hi0 v R) :
    Calls Try.prog 107 #[skv v adds] w fun e w' => ∃ v', e = .returned (skv v' adds) ∧ Own w' w.heap.size w'.heap.size v' R ∧ Below w.heap.size w w' := by
  obtain ⟨i0, hi, hz0, hz1, hz2⟩ := infoS
  obtain ⟨hRl, a, cap, rfl, hrows⟩ := hv
  have h4' : Hid (R.length = 4) := hR4.1
  have h4i : ((R.length : Int) = 4) := by have := hR4.1; omega
  rcases hrows with hnil | ⟨b, off, rfl, -, hbhi, hcells⟩
  · subst hnil; simp [Hid] at h4'
  have hCells : Hid (∀ i (h : i < R.length), ∃ a' c', w.cell? ⟨b, off + i, none⟩ = some (.slice a' (R[i]).length c') ∧ RowR w 0 hi0 a' R[i]) := hcells
  clear hcells
  have m0 : Hid True := trivial
  go_enter Try.func107, Try.ntmps107
  go_wp2_with (first | (refine wpList_box_v rfl 30 _ rfl [.slice (some ⟨b, off, none⟩) R.length cap, .int .i64 adds] rfl ?_; intro b1 w1 hb1 hw1 hB1 hV1) | (clear m0; refine wpList_alloc_v rfl 30 rfl _ zero27 ?_; intro b2 w2 hb2 hw2 hB2 hV2; replace hV1 := hV1.below hB2 hw1; have hc1 := hV1.cell 1 (by simp); simp only [List.getElem_cons_zero, List.getElem_cons_succ] at hc1) | (refine wpList_alloc_v rfl 30 rfl _ zero27 ?_; intro b3 w3 hb3 hw3 hB3 hV3; replace hV1 := hV1.below hB3 (by have := hB2.size; omega); replace hV2 := hV2.below hB3 hw2) | (refine wpList_store_v rfl 30 _ _ rfl b3 [.slice none 0 0, .int .i64 adds] rfl rfl size27 hV3 rfl (by simp [Value.oneCell']) ?_; intro w4 hO4 hV4; replace hV1 := hV1.of (hO4.2.1 _ (by have := hB2.size; omega)); replace hV2 := hV2.of (hO4.2.1 _ (by omega))))
  have h1 := hB1.size
  have h2 := hB2.size
  have h3 := hB3.size
  have h4 := hO4.1
  have hB : Below w.heap.size w w4 := ((hB1.trans (hB2.mono h1)).trans (hB3.mono (by omega))).trans (hO4.2.2 _ (by omega))
  obtain ⟨lo, hlo⟩ : ∃ lo, Hid (lo = w4.heap.size) := ⟨_, rfl⟩
  have l1 : b1 < lo := by rw [hlo.out]; omega
  have l2 : b2 < lo := by rw [hlo.out]; omega
  have l3 : b3 < lo := by rw [hlo.out]; omega
  have lw : w.heap.size ≤ lo := by rw [hlo.out]; omega
  have n13 : b1 ≠ b3 := by omega
  have n23 : b2 ≠ b3 := by omega
  go_loopw [4] (fun v' wr => ∃ i : Nat, i ≤ 4 ∧ v' = .int .i64 i ∧ VBlk wr b1 30 [.slice (some ⟨b, off, none⟩) R.length cap, .int .i64 adds] ∧ VBlk wr b2 30 [.slice none 0 0, .int .i64 0] ∧ (∃ vo B C, VBlk wr b3 30 [vo, .int .i64 adds] ∧ vo.oneCell' = true ∧ wr.ownsRow lo 100 1 vo i (outs B C (R.take i)) ∧ InnerAt wr lo wr.heap.size B (R.take i)) ∧ lo ≤ wr.heap.size ∧ Below w.heap.size w wr) (fun v' _ => 4 - (intOf v').toNat)
  case atStart => exact ⟨0, by omega, rfl, hV1, hV2, ⟨_, fun _ => 0, fun _ => 0, hV4, rfl, ⟨rfl, .inl ⟨rfl, rfl⟩⟩, inner_nil _ _ _ _⟩, by rw [hlo.out]; exact Nat.le_refl _, hB⟩
  case round =>
    obtain ⟨i, hi4, rfl, hv1, hv2, ⟨vo, B, C, hv3, h1c, hown, hin⟩, hlos, hBr⟩ := hrel
    have hcs := hv1.cell 0 (by simp)
    simp only [List.getElem_cons_zero] at hcs
    by_cases hlt : i < 4
    · have hiR : i < R.length := by rw [hR4.1]; exact hlt
      have hilt : (i : Int) < R.length := by omega
      obtain ⟨a', c', hcell0, hrow0⟩ := hCells.out i hiR
      obtain ⟨xs, hxs⟩ : ∃ xs, R[i] = xs := ⟨_, rfl⟩
      rw [hxs] at hcell0 hrow0
      have hx16 : Hid (xs.length = 16) := by unfold Hid; rw [← hxs]; exact hR4.2 _ (List.getElem_mem hiR)
      have HX : Hid (R[i] = xs) := hxs
      clear hxs
      obtain ⟨fb, foff, rfl, -, hfb, hrange0⟩ := rd_row hrow0 (by rw [hx16.out]; omega)
      have hcell : wr.cell? ⟨b, off + i, none⟩ = some (.slice (some ⟨fb, foff, none⟩) xs.length c') := by rw [hBr.cell (by show b < _; omega)]; exact hcell0
      have hrange : Hid (wr.drew.rangeAt fb foff (ints xs)) := range_of hrange0 (hBr.drew.block fb (by omega))
      clear hcell0 hrow0 hrange0
      have hcv := hv3.cell 0 (by simp)
      have hfv := hv3.frozen 0
      simp only [List.getElem_cons_zero] at hcv
      have hOwn : Hid (wr.ownsRow lo 100 1 vo i (outs B C (R.take i))) := hown
      have hIn : Hid (InnerAt wr lo wr.heap.size B (R.take i)) := hin
      clear hown hin
      have hbr := hBr.size
      have htl : Hid (i = (R.take i).length) := by unfold Hid; rw [List.length_take, hR4.1]; omega
      go_wp2
      go_region_law (first | (go_simp; go_at_call 134; refine (l1Copy_any xs wr.drew fb foff c' (by rw [hx16.out]; omega) hrange.out (by show fb < wr.heap.size; omega)).mono ?_; rintro e w5 ⟨g, gc, rfl, hg1, hg2, hg3, hg4, hB5⟩; have hd5 : wr.drew.heap.size = wr.heap.size := rfl; have hs5 := hB5.size; have hcs5 : w5.cell? ⟨b1, 0, none⟩ = some (.slice (some ⟨b, off, none⟩) R.length cap) := (by rw [hB5.cell (by show b1 < wr.heap.size; omega)]; exact hcs); have hcell5 : w5.cell? ⟨b, off + i, none⟩ = some (.slice (some ⟨fb, foff, none⟩) xs.length c') := (by rw [hB5.cell (by show b < wr.heap.size; omega)]; exact hcell); have hcv5 : w5.cell? ⟨b3, 0, none⟩ = some vo := (by rw [hB5.cell (by show b3 < wr.heap.size; omega)]; exact hcv); have hcs6 : ∀ o, (w5.alloc o).cell? ⟨b1, 0, none⟩ = some (.slice (some ⟨b, off, none⟩) R.length cap) := (fun o => by rw [World.cell?_of_block (w := w5) (Below.heap_alloc w5 o b1 (by omega))]; exact hcs5); have hcell6 : ∀ o, (w5.alloc o).cell? ⟨b, off + i, none⟩ = some (.slice (some ⟨fb, foff, none⟩) xs.length c') := (fun o => by rw [World.cell?_of_block (w := w5) (Below.heap_alloc w5 o b (by omega))]; exact hcell5); have hcv6 : ∀ o, (w5.alloc o).cell? ⟨b3, 0, none⟩ = some vo := (fun o => by rw [World.cell?_of_block (w := w5) (Below.heap_alloc w5 o b3 (by omega))]; exact hcv5); dsimp only) | (refine step_append_own _ rfl _ _ 28 rfl lo 100 i0 (.slice none 0 0) 1 24 Try.underlying28 hi hz0 hz1 hz2 rfl (by decide) vo i (outs B C (R.take i)) rfl (World.ownsRow.alloc (World.ownsRow.kept (w := wr.drew) hOwn.out ⟨hB5.os, hB5.tape, hB5.output, hB5.size, fun k hk _ => hB5.block k hk⟩ (row := none) (by cases hq : vo.ownBlock <;> simp)) _) ⟨w5.heap.size, 0, none⟩ 1 1 [.slice (some ⟨g, 0, none⟩) xs.length gc] rfl rfl (fun j u hj => by rw [Addr.add_mid, cell_of_row _ _ _ _ _ _ (heap_alloc_new w5 _)]; simpa using hj) (by simp [Value.oneCell']) (by unfold maxLen; omega) (by omega) (by simp; omega) ?_; intro v' w' g2 g3 g4; obtain ⟨B', C', p1, p2, ⟨va, vn, vc, rfl⟩, p4⟩ := push (H := wr.heap.size) (World.ownsRow.kept (w := wr.drew) hOwn.out ⟨hB5.os, hB5.tape, hB5.output, hB5.size, fun k hk _ => hB5.block k hk⟩ (row := none) (by cases hq : vo.ownBlock <;> simp)) (hIn.out.keep (fun j hj => hB5.block _ (hIn.out.2 j hj).2.2.1)) htl.out (by omega) (by omega) (by omega) hg2 hg3 hg4 (by rw [hx16.out]; unfold maxLen; omega) g2 g3; have P1 : Hid _ := p1; have P2 : Hid _ := p2; have P4 : Hid _ := p4; clear p1 p2 p4 g2 g3 g4; have hv3w : VBlk w' b3 30 [vo, .int .i64 adds] := (VBlk.below (w := wr.drew) hv3 hB5 (by omega)).of (P4.out.block b3 l3); have hcw := hv3w.cell 0 (by simp); have hfw := hv3w.frozen 0; simp only [List.getElem_cons_zero] at hcw; have hb7 : b < lo := (by omega); have hcs7 : w'.cell? ⟨b1, 0, none⟩ = some (.slice (some ⟨b, off, none⟩) R.length cap) := (by rw [P4.out.cell l1]; exact hcs5); have hcell7 : w'.cell? ⟨b, off + i, none⟩ = some (.slice (some ⟨fb, foff, none⟩) xs.length c') := (by rw [P4.out.cell hb7]; exact hcell5); have hcs8 : ∀ u, (w'.setCell ⟨b3, 0, none⟩ u).cell? ⟨b1, 0, none⟩ = some (.slice (some ⟨b, off, none⟩) R.length cap) := (fun u => by rw [World.cell?_of_block (w := w') (heap_setCell_other _ _ _ _ n13)]; exact hcs7); have hcell8 : ∀ u, (w'.setCell ⟨b3, 0, none⟩ u).cell? ⟨b, off + i, none⟩ = some (.slice (some ⟨fb, foff, none⟩) xs.length c') := (fun u => by rw [World.cell?_of_block (w := w') (heap_setCell_other _ _ _ _ (by show b ≠ b3; omega))]; exact hcell7)) | (fail))
      all_goals
        go_wp2
        go_roundw
        case rel =>
          have e1 : R.take (i + 1) = R.take i ++ [xs] := by rw [take_snoc R i hiR, HX.out]
          refine ⟨i + 1, by omega, by go_num, ?_, ?_, ⟨_, B', C', hv3w.set 0 _, rfl, ?_, ?_⟩, ?_, ?_⟩
          · exact ((VBlk.below (w := wr.drew) hv1 hB5 (by omega)).of (P4.out.block b1 l1)).of (heap_setCell_other _ _ _ _ n13)
          · exact ((VBlk.below (w := wr.drew) hv2 hB5 (by omega)).of (P4.out.block b2 l2)).of (heap_setCell_other _ _ _ _ n23)
          · rw [e1]; exact ownsRow_setCell_below P1.out l3 _
          · rw [e1, World.size_setCell]
            refine InnerAt.keep P2.out (fun j hj => heap_setCell_other _ _ _ _ ?_)
            have := (P2.out.2 j hj).2.1
            show B' j ≠ b3
            omega
          · have p5 := P4.out.size; simp; omega
          · refine Below.setCell (Below.trans (b := wr.drew) hBr.drew ?_) (by show w.heap.size ≤ b3; omega) _
            exact (hB5.mono hbr).trans (P4.out.mono lw)
        case measure => simp [intOf]; omega
    · obtain rfl : i = 4 := by omega
      rw [List.take_of_length_le (by rw [hR4.1]; omega)] at hown hin
      have hO := hin.own (Nat.le_refl _) hR4.1.symm hown hRl
      obtain ⟨va, vn, vc, rfl⟩ := hO.form
      have hcv := hv3.cell 0 (by simp)
      have hcv1 := hv3.cell 1 (by simp)
      simp only [List.getElem_cons_zero, List.getElem_cons_succ] at hcv hcv1
      clear hown hin
      go_wp2_with (first | (refine wpList_store_v rfl 30 _ _ rfl b2 [.slice va vn vc, .int .i64 adds] rfl rfl size27 hv2 rfl (by simp [Value.oneCell']) ?_; intro w9 hO9 hV9))
      refine row_retv rfl rfl hV9 Try.underlying30 size27 rfl ⟨_, rfl, ?_, hBr.trans (hO9.2.2 _ (by omega))⟩
      exact (hO.keep (fun k h2 h3 => hO9.2.1 k (by omega)) (by rw [hO9.1]; exact Nat.le_refl _)).wide lw (by rw [hO9.1]; exact Nat.le_refl _) (Nat.le_refl _)

end Go.Proofs.Ytmnjmghlkiljhaa.sk
/- Contracts of the model's l2Add and Added. -/
namespace Go.Proofs.Ytmnjmghlkiljhaa.sk
open Go.ChangeShapes Go.WideShapes Go.ChangeAt Go.RowKit
set_option linter.unusedVariables false

set_option maxRecDepth 100000 in
theorem OwnAt.row {w : World} {lo hi bo : Nat} {B C : Nat → Nat} {R : List (List Int)} (h : OwnAt w lo hi bo B C R) (i : Nat) (hi' : i < R.length) (xs : List Int) (hx : R[i] = xs) :
    w.cell? ⟨bo, i, none⟩ = some (.slice (some ⟨B i, 0, none⟩) xs.length (C i)) ∧ lo ≤ B i ∧ B i < hi ∧ B i ≠ bo ∧ Row w (B i) xs := by
  subst hx
  obtain ⟨c1, c2, c3, c4, c5, c6⟩ := h.2.2.2 i hi'
  exact ⟨c1, c3, c4, c5, c6⟩
set_option maxRecDepth 100000 in
theorem raise_eq (xs : List Int) (p : Nat) (hp : p < xs.length) (hs : ∀ x ∈ xs, 0 ≤ x ∧ x ≤ 15) : raise xs p = xs.set p (min 15 (xs[p] + 1)) := by
  have e : xs.getD p 0 = xs[p] := by rw [List.getD_eq_getElem?_getD, List.getElem?_eq_getElem hp]; rfl
  unfold raise
  rw [e]
  apply List.ext_getElem (by simp)
  intro j h1 h2
  simp only [List.getElem_map, List.getElem_set]
  by_cases q : p = j
  · subst q
    have := hs _ (List.getElem_mem hp)
    simp only [if_true, bnd]; omega
  · have hj : j < xs.length := by simpa using h2
    have := hs _ (List.getElem_mem hj)
    simp only [q, if_false, bnd]; omega

/-- the sketch behind one more key -/
def plusR (R : List (List Int)) (adds : Int) (key : ByteArray) : List (List Int) := if adds = 159 then halfR (addR key R) else addR key R
def plusN (adds : Int) : Int := if adds = 159 then 0 else adds + 1

set_option maxRecDepth 100000 in
set_option maxHeartbeats 4000000 in
theorem l2Add_any (R : List (List Int)) (hR4 : Four R) (hsm : Small R) (adds : Int) (had : 0 ≤ adds ∧ adds ≤ 159) (key : ByteArray) (hk : key.size ≤ 1048576) (w : World) (L lo hi ps bo : Nat) (B C : Nat → Nat) (cap : Nat)
    (hps : VBlk w ps 30 [.slice (some ⟨bo, 0, none⟩) 4 cap, .int .i64 adds]) (hown : OwnAt w lo hi bo B C R) (hL : L ≤ ps) (hLlo : L ≤ lo) (hpn : ps < lo ∨ hi ≤ ps) :
    Calls Try.prog 108 #[.pointer (some ⟨ps, 0, none⟩), .string key] w fun e w' => ∃ v, e = .returned v ∧ VBlk w' ps 30 [.slice (some ⟨bo, 0, none⟩) 4 cap, .int .i64 (plusN adds)] ∧ OwnAt w' lo hi bo B C (plusR R adds key) ∧ Below L w w' := by
  obtain ⟨T, hT⟩ : ∃ T, Hid (T = addR key R) := ⟨_, rfl⟩
  have hT4 : Four T := by rw [hT.out]; exact addR_four hR4
  have hTs : Small T := by rw [hT.out]; exact addR_small key R
  have hbo := hown.1 (by intro e; have := hR4.1; rw [e] at this; simp at this)
  have hbnd := hown.2.1
  have npb : ps ≠ bo := by omega
  have hps0 := hps
  have hOwn0 : Hid (OwnAt w lo hi bo B C R) := hown
  clear hown hps
  have lps := hps0.lt
  go_enter Try.func108, Try.ntmps108
  go_wp2
  go_loopw [4] (fun v' wr => ∃ i : Nat, i ≤ 4 ∧ v' = .int .i64 i ∧ VBlk wr ps 30 [.slice (some ⟨bo, 0, none⟩) 4 cap, .int .i64 adds] ∧ Hid (OwnAt wr lo hi bo B C (mix T R i)) ∧ w.heap.size ≤ wr.heap.size ∧ Below L w wr) (fun v' _ => 4 - (intOf v').toNat)
  case atStart => exact ⟨0, by omega, rfl, hps0, by rw [mix_zero]; exact hOwn0, Nat.le_refl _, Below.refl _ _⟩
  case round =>
    obtain ⟨i, hi4, rfl, hvp, hown, hsz, hBr⟩ := hrel
    by_cases hlt : i < 4
    · have hiR : i < R.length := by rw [hR4.1]; exact hlt
      have hiT : i < T.length := by rw [hT4.1]; exact hlt
      have hTR : T.length = R.length := by rw [hT4.1, hR4.1]
      have hTR' : Hid (T.length = R.length) := hTR
      obtain ⟨xs, hxs⟩ : ∃ xs, R[i] = xs := ⟨_, rfl⟩
      have hx16 : xs.length = 16 := by rw [← hxs]; exact hR4.2 _ (List.getElem_mem hiR)
      have hxb : Hid (∀ x ∈ xs, 0 ≤ x ∧ x ≤ 15) := by unfold Hid; rw [← hxs]; exact hsm _ (List.getElem_mem hiR)
      have him : i < (mix T R i).length := by rw [mix_len T R i hTR]; exact hiR
      have hmi : Hid ((mix T R i)[i] = xs) := by unfold Hid; rw [mix_get T R i hTR hiR, hxs]
      clear hTR
      have hpb := place.placeOf_bd key i
      obtain ⟨p, hp⟩ : ∃ p : Nat, place.placeOf key i = p := ⟨(place.placeOf key i).toNat, by omega⟩
      have hp16 : p < 16 := by omega
      have hpi : (p : Int) < 16 := by omega
      have hP : Hid (place.placeOf key i = p) := hp
      clear hp hpb
      obtain ⟨z, hz⟩ : ∃ z, xs[p]'(by omega) = z := ⟨_, rfl⟩
      have hzb : 0 ≤ z ∧ z ≤ 15 := by rw [← hz]; exact hxb.out _ (List.getElem_mem _)
      have eT : Hid (T[i] = xs.set p (min 15 (z + 1))) := by
        have h1 : T[i] = raise R[i] (place.placeOf key i).toNat := by have := hT.out; subst this; simp [addR]
        rw [hxs, hP.out, Int.toNat_natCast, raise_eq xs p (by omega) hxb.out, hz] at h1
        exact h1
      have hZ : Hid (xs[p]'(by omega) = z) := hz
      have HX : Hid (R[i] = xs) := hxs
      clear hz hxs
      obtain ⟨y, hy⟩ : ∃ y, Hid (y = min 15 (z + 1)) := ⟨_, rfl⟩
      have hilt : (i : Int) < 4 := by omega
      go_wp2_with (first | (go_at_call 135; refine (place.spec_in key i (by omega) (by omega) hk _).mono ?_; rintro e w5 ⟨he, hO5⟩; rw [hP.out] at he; subst he; have hB5 := hO5.below; have hs5 := hB5.size; have hv5 := hvp.below hB5 hvp.lt; have hown5 : Hid (OwnAt w5 lo hi bo B C (mix T R i)) := hown.out.keep (Same.of_below hB5 (by omega)) hs5; obtain ⟨r1, r2, r3, r4, r5⟩ := hown5.out.row i him xs hmi.out; have hcz := r5.cell p (by omega); have hfz := r5.frozen p (by omega); rw [hZ.out] at hcz; rw [hx16] at r1; have hc0 := hv5.cell 0 (by simp); simp only [List.getElem_cons_zero] at hc0; have R5 : Hid (Row w5 (B i) xs) := r5; clear r5))
      have hBi : B i ≠ ps := by omega
      have hs1 : ∀ u, (w5.drew.setCell ⟨B i, p, none⟩ u).cell? ⟨ps, 0, none⟩ = some (.slice (some ⟨bo, 0, none⟩) 4 cap) := fun u => by
        rw [World.cell?_of_block (w := w5.drew) (heap_setCell_other _ _ _ _ (fun e => hBi e.symm))]; exact hc0
      have hs2 : ∀ u, (w5.drew.setCell ⟨B i, p, none⟩ u).cell? ⟨bo, i, none⟩ = some (.slice (some ⟨B i, 0, none⟩) 16 (C i)) := fun u => by
        rw [World.cell?_of_block (w := w5.drew) (heap_setCell_other _ _ _ _ (fun e => r4 e.symm))]; exact r1
      go_region_law (first | (go_simp; go_at_call 136; refine (min_any _ _ _).mono ?_; rintro e wq ⟨he, hq⟩; subst wq; rw [wrapI (z + 1) (by omega) (by omega), ← hy.out] at he; subst he; dsimp only) | (fail))
      all_goals
        go_wp2
        go_roundw
        case rel =>
          have o1 : OwnAt (w5.setCell ⟨B i, p, none⟩ (.int .i64 y)) lo hi bo B C ((mix T R i).set i (((mix T R i)[i]).set p y)) := hown5.out.set i him p (by rw [hmi.out]; omega) y
          rw [hmi.out, hy.out, ← eT.out, mix_set T R i hTR'.out hiT] at o1
          refine ⟨i + 1, by omega, by go_num, VBlk.of (w' := (w5.setCell ⟨B i, p, none⟩ (.int .i64 y)).drew) hv5 (heap_setCell_other _ _ _ _ (fun e => hBi e.symm)), ?_, ?_, ?_⟩
          · rw [hy.out]; exact OwnAt.keep (w' := (w5.setCell ⟨B i, p, none⟩ (.int .i64 (min 15 (z + 1)))).drew) o1 (fun _ _ _ => rfl) (Nat.le_refl _)
          · simp; omega
          · exact ((hBr.trans (hB5.mono (by omega))).setCell (by show L ≤ B i; omega) _).drew
        case measure => simp [intOf]; omega
    · have hmix : Hid (OwnAt wr lo hi bo B C T) := by unfold Hid; rw [← mix_all T R i (by rw [hT4.1]; omega) (by rw [hR4.1]; omega)]; exact hown.out
      clear hown
      have hc0 := hvp.cell 0 (by simp)
      have hc1 := hvp.cell 1 (by simp)
      have hf1 := hvp.frozen 1
      simp only [List.getElem_cons_zero, List.getElem_cons_succ] at hc0 hc1
      have hle := hmix.out.2.1
      by_cases h159 : adds = 159
      · have hN : Hid (plusN adds = 0) := by simp [Hid, plusN, h159]
        have hRR : Hid (plusR R adds key = halfR T) := by unfold Hid plusR; rw [if_pos h159, hT.out]
        subst h159
        obtain ⟨Hf, hHf⟩ : ∃ Hf, Hid (Hf = halfR T) := ⟨_, rfl⟩
        have hHf4 : Four Hf := by rw [hHf.out]; exact halfR_four hT4
        go_wp2
        obtain ⟨w6, HW6⟩ : ∃ w6, Hid (w6 = (wr.setCell ⟨ps, 1, none⟩ (.int .i64 160)).setCell ⟨ps, 1, none⟩ (.int .i64 0)) := ⟨_, rfl⟩
        have hk6 : ∀ k, k ≠ ps → w6.heap[k]? = wr.heap[k]? := fun k hk => by rw [HW6.out, heap_setCell_other _ _ _ _ hk, heap_setCell_other _ _ _ _ hk]
        have hz6 : w6.heap.size = wr.heap.size := by rw [HW6.out]; simp
        have hv6 : VBlk w6 ps 30 [.slice (some ⟨bo, 0, none⟩) 4 cap, .int .i64 0] := by rw [HW6.out]; exact (hvp.set 1 (.int .i64 160)).set 1 (.int .i64 0)
        have hB6 : Below L w w6 := by rw [HW6.out]; exact (hBr.setCell hL _).setCell hL _
        have ho6 : Hid (OwnAt w6 lo hi bo B C T) := hmix.out.keep (fun k h1 h2 => hk6 k (by omega)) (by omega)
        first | rw [← HW6.out] | skip
        go_loopw [6] (fun v' wr => ∃ i : Nat, i ≤ 4 ∧ v' = .int .i64 i ∧ VBlk wr ps 30 [.slice (some ⟨bo, 0, none⟩) 4 cap, .int .i64 0] ∧ Hid (OwnAt wr lo hi bo B C (mix Hf T i)) ∧ w.heap.size ≤ wr.heap.size ∧ Below L w wr) (fun v' _ => 4 - (intOf v').toNat)
        case atStart => exact ⟨0, by omega, rfl, hv6, by rw [mix_zero]; exact ho6, by omega, hB6⟩
        case round =>
          clear hB6 ho6 hv6 hk6 hz6 HW6
          obtain ⟨i, hi4, rfl, hvp6, hown, hsz6, hBr6⟩ := hrel
          by_cases hlt : i < 4
          · have hiT : i < T.length := by rw [hT4.1]; exact hlt
            have hiH : i < Hf.length := by rw [hHf4.1]; exact hlt
            have hHT : Hid (Hf.length = T.length) := by unfold Hid; rw [hT4.1, hHf4.1]
            obtain ⟨xs, hxs⟩ : ∃ xs, T[i] = xs := ⟨_, rfl⟩
            have hx16 : Hid (xs.length = 16) := by unfold Hid; rw [← hxs]; exact hT4.2 _ (List.getElem_mem hiT)
            have hxb : Hid (∀ x ∈ xs, 0 ≤ x ∧ x ≤ 15) := by unfold Hid; rw [← hxs]; exact hTs _ (List.getElem_mem hiT)
            have him : i < (mix Hf T i).length := by rw [mix_len Hf T i hHT.out]; exact hiT
            have hmi : Hid ((mix Hf T i)[i] = xs) := by unfold Hid; rw [mix_get Hf T i hHT.out hiT, hxs]
            have hHi : Hid (Hf[i] = xs.map half) := by unfold Hid; have := hHf.out; subst this; simp [halfR, hxs]
            clear hxs
            have hilt : (i : Int) < 4 := by omega
            go_wp2
            go_loopw [7] (fun v' wr => ∃ k : Nat, k ≤ 16 ∧ v' = .int .i64 k ∧ VBlk wr ps 30 [.slice (some ⟨bo, 0, none⟩) 4 cap, .int .i64 0] ∧ Hid (OwnAt wr lo hi bo B C ((mix Hf T i).set i (upto half xs k))) ∧ w.heap.size ≤ wr.heap.size ∧ Below L w wr) (fun v' _ => 16 - (intOf v').toNat)
            case atStart => exact ⟨0, by omega, rfl, hvp6, by rw [upto_zero, ← hmi.out, List.set_getElem_self]; exact hown, hsz6, hBr6⟩
            case round =>
              clear hvp6 hown hsz6 hBr6
              obtain ⟨k, hk16, rfl, hvk, hown, hszk, hBk⟩ := hrel
              by_cases hklt : k < 16
              · have hkx : k < xs.length := by rw [hx16.out]; exact hklt
                have him' : i < ((mix Hf T i).set i (upto half xs k)).length := by rw [List.length_set]; exact him
                have hgi : Hid (((mix Hf T i).set i (upto half xs k))[i] = upto half xs k) := by unfold Hid; rw [List.getElem_set_self]
                obtain ⟨r1, r2, r3, r4, r5⟩ := hown.out.row i him' _ hgi.out
                have hul : Hid ((upto half xs k).length = 16) := by unfold Hid; rw [upto_len, hx16.out]
                rw [hul.out] at r1
                obtain ⟨z, hz0⟩ : ∃ z, xs[k] = z := ⟨_, rfl⟩
                have hz : Hid (xs[k] = z) := hz0
                clear hz0
                have hzb : 0 ≤ z ∧ z ≤ 15 := by rw [← hz.out]; exact hxb.out _ (List.getElem_mem _)
                have hcz : wr.cell? ⟨B i, k, none⟩ = some (.int .i64 z) := by
                  rw [r5.cell k (by rw [hul.out]; exact hklt)]
                  congr 2
                  rw [← hz.out]
                  simp only [upto]
                  rw [List.getElem_append_right (by simp; omega)]
                  simp [show min k xs.length = k by omega]
                have hfz := r5.frozen k (by rw [hul.out]; exact hklt)
                have hc0 := hvk.cell 0 (by simp)
                simp only [List.getElem_cons_zero] at hc0
                have hBi : B i ≠ ps := by omega
                have hklt' : (k : Int) < 16 := by omega
                have hs1 : ∀ u, (wr.drew.setCell ⟨B i, k, none⟩ u).cell? ⟨ps, 0, none⟩ = some (.slice (some ⟨bo, 0, none⟩) 4 cap) := fun u => by
                  rw [World.cell?_of_block (w := wr.drew) (heap_setCell_other _ _ _ _ (fun e => hBi e.symm))]; exact hc0
                have hs2 : ∀ u, (wr.drew.setCell ⟨B i, k, none⟩ u).cell? ⟨bo, i, none⟩ = some (.slice (some ⟨B i, 0, none⟩) 16 (C i)) := fun u => by
                  rw [World.cell?_of_block (w := wr.drew) (heap_setCell_other _ _ _ _ (fun e => r4 e.symm))]; exact r1
                clear r5
                go_wp2
                go_region_law (fail)
                all_goals
                  go_wp2
                  go_roundw
                  case rel =>
                    have o1 := hown.out.set i him' k (by rw [hgi.out, hul.out]; exact hklt) (half z)
                    rw [hgi.out, List.set_set] at o1
                    have eu : (upto half xs k).set k (half z) = upto half xs (k + 1) := by
                      rw [← upto_step half xs k hkx]
                      congr 2
                      rw [List.getD_eq_getElem?_getD, List.getElem?_eq_getElem hkx, ← hz.out]; rfl
                    rw [eu] at o1
                    refine ⟨k + 1, by omega, by go_num, VBlk.of (w := wr) hvk (heap_setCell_other wr _ _ _ (fun e => hBi e.symm)), ?_, by simp; omega, (hBk.setCell (by show L ≤ B i; omega) _).drew⟩
                    exact OwnAt.keep o1 (fun _ _ _ => rfl) (by simp)
                  case measure => simp [intOf]; omega
              · obtain rfl : k = 16 := by omega
                go_wp2
                go_roundw
                case rel =>
                  refine ⟨i + 1, by omega, by go_num, hvk, ?_, hszk, hBk⟩
                  have h1 := hown.out
                  rw [upto_all half xs 16 (by rw [hx16.out]; omega), ← hHi.out, mix_set Hf T i hHT.out hiH] at h1
                  exact h1
                case measure => simp [intOf]; omega
          · obtain rfl : i = 4 := by omega
            have hfin : OwnAt wr lo hi bo B C Hf := by rw [← mix_all Hf T 4 (by rw [hHf4.1]; omega) (by rw [hT4.1]; omega)]; exact hown.out
            go_wp2
            go_end0
            refine ⟨_, rfl, ?_, ?_, hBr6⟩
            · rw [hN.out]; exact hvp6
            · rw [hRR.out, ← hHf.out]; exact hfin
      · have hN : Hid (plusN adds = adds + 1) := by simp [Hid, plusN, h159]
        have hRR : Hid (plusR R adds key = T) := by unfold Hid plusR; rw [if_neg h159, hT.out]
        go_wp2
        refine bodyPost_ret (v := .tuple #[]) (by simp [results, Try.results108]) rfl ⟨_, rfl, ?_, ?_, hBr.setCell hL _⟩
        · rw [hN.out]; exact hvp.set 1 _
        · rw [hRR.out]; exact hmix.out.keep (fun k h1 h2 => heap_setCell_other _ _ _ _ (by show k ≠ ps; omega)) (by simp)

end Go.Proofs.Ytmnjmghlkiljhaa.sk
/- Mathematics of rings of names, no Go in sight: names, the place of one, right rings, who joins, is used, leaves; the hand's turn. -/
namespace Go.Proofs.Ytmnjmghlkiljhaa.rg
open Go.RowKit
set_option linter.unusedVariables false

/-- a byte of a name -/
def nbB (c : UInt8) : Bool := (decide (97 ≤ (c.toNat : Int)) && decide ((c.toNat : Int) ≤ 122)) || (decide (48 ≤ (c.toNat : Int)) && decide ((c.toNat : Int) ≤ 57)) || ((c.toNat : Int) == 45)
/-- a name -/
def nameB (s : ByteArray) : Bool := s.data.toList.all nbB && (decide (1 ≤ (s.size : Int)) && decide ((s.size : Int) ≤ 12))
theorem nameB_size {s : ByteArray} (h : nameB s = true) : 1 ≤ s.size ∧ s.size ≤ 12 := by
  unfold nameB at h
  simp only [Bool.and_eq_true, decide_eq_true_eq] at h
  omega

/-- the place of a text; -1: it is not there -/
def posS (s : ByteArray) : List ByteArray → Int
  | [] => -1
  | x :: r => if x = s then 0 else if posS s r < 0 then -1 else posS s r + 1
theorem posS_cases (s : ByteArray) : ∀ N : List ByteArray, (s ∉ N ∧ posS s N = -1) ∨ ∃ i : Nat, ∃ h : i < N.length, N[i] = s ∧ s ∉ N.take i ∧ posS s N = i
  | [] => .inl ⟨by simp, rfl⟩
  | x :: r => by
    by_cases hx : x = s
    · exact .inr ⟨0, by simp, by simpa using hx, by simp, by simp [posS, hx]⟩
    · rcases posS_cases s r with ⟨h1, h2⟩ | ⟨i, hi, h1, h2, h3⟩
      · refine .inl ⟨?_, by simp [posS, hx, h2]⟩
        simp only [List.mem_cons, not_or]
        exact ⟨fun e => hx e.symm, h1⟩
      · refine .inr ⟨i + 1, by simpa using hi, by simpa using h1, ?_, ?_⟩
        · simp only [List.take_succ_cons, List.mem_cons, not_or]
          exact ⟨fun e => hx e.symm, h2⟩
        · simp only [posS, if_neg hx, h3]
          rw [if_neg (by omega)]
          omega
theorem posS_no {s : ByteArray} {N : List ByteArray} (h : s ∉ N) : posS s N = -1 := by
  rcases posS_cases s N with ⟨-, e⟩ | ⟨i, hi, e, -⟩
  · exact e
  · exact absurd (e ▸ List.getElem_mem hi) h
theorem posS_at {s : ByteArray} {N : List ByteArray} {i : Nat} (hi : i < N.length) (he : N[i] = s) (hn : s ∉ N.take i) : posS s N = i := by
  rcases posS_cases s N with ⟨h, -⟩ | ⟨j, hj, e, hnj, hp⟩
  · exact absurd (he ▸ List.getElem_mem hi) h
  · rw [hp]
    rcases Nat.lt_trichotomy i j with q | q | q
    · exact absurd (List.mem_iff_getElem.2 ⟨i, by simp; omega, by simpa using he⟩) hnj
    · rw [q]
    · exact absurd (List.mem_iff_getElem.2 ⟨j, by simp; omega, by simpa using e⟩) hn
theorem posS_bd (s : ByteArray) (N : List ByteArray) : -1 ≤ posS s N ∧ posS s N < N.length := by
  rcases posS_cases s N with ⟨-, h⟩ | ⟨i, hi, -, -, h⟩ <;> rw [h] <;> omega
theorem posS_mem {s : ByteArray} {N : List ByteArray} : s ∈ N ↔ 0 ≤ posS s N := by
  rcases posS_cases s N with ⟨h, e⟩ | ⟨i, hi, e, -, h⟩
  · rw [e]; exact ⟨fun q => absurd q h, fun q => by omega⟩
  · rw [h]; exact ⟨fun _ => by omega, fun _ => e ▸ List.getElem_mem hi⟩
/-- of the first i + 1 the last one is found at i just where it is not among those ahead of it -/
theorem posS_self {N : List ByteArray} {i : Nat} (hi : i < N.length) : posS N[i] N = i ↔ N[i] ∉ N.take i := by
  constructor
  · intro h hm
    rcases posS_cases N[i] N with ⟨q, -⟩ | ⟨j, hj, e, hn, hp⟩
    · exact q (List.getElem_mem hi)
    · have : j = i := by omega
      subst this
      exact hn hm
  · exact fun h => posS_at hi rfl h

/-- names, unlike, at most twenty -/
def NOk (N : List ByteArray) : Prop := (∀ s ∈ N, nameB s = true) ∧ N.Nodup ∧ N.length ≤ 20
instance (N : List ByteArray) : Decidable (NOk N) := by unfold NOk; exact inferInstance
def namesB (N : List ByteArray) : Bool := decide (NOk N)
/-- the first i of them are names, unlike -/
def Pre (N : List ByteArray) (i : Nat) : Prop := (∀ s ∈ N.take i, nameB s = true) ∧ (N.take i).Nodup
theorem pre_zero (N : List ByteArray) : Pre N 0 := ⟨by simp, by simp⟩
theorem pre_succ {N : List ByteArray} {i : Nat} (h : Pre N i) (hi : i < N.length) (h1 : nameB N[i] = true) (h2 : N[i] ∉ N.take i) : Pre N (i + 1) := by
  unfold Pre
  rw [List.take_succ_eq_append_getElem hi]
  refine ⟨fun s hs => ?_, ?_⟩
  · rcases List.mem_append.1 hs with q | q
    · exact h.1 s q
    · rw [List.mem_singleton.1 q]; exact h1
  · rw [List.nodup_append]
    refine ⟨h.2, by simp, fun a ha b hb e => ?_⟩
    rw [List.mem_singleton] at hb
    rw [e, hb] at ha
    exact h2 ha
theorem pre_not1 {N : List ByteArray} {i : Nat} (hi : i < N.length) (h1 : nameB N[i] = false) : namesB N = false := by
  unfold namesB
  refine decide_eq_false fun h => ?_
  have := h.1 N[i] (List.getElem_mem hi)
  rw [h1] at this
  cases this
theorem pre_not2 {N : List ByteArray} {i : Nat} (hi : i < N.length) (h2 : N[i] ∈ N.take i) : namesB N = false := by
  unfold namesB
  refine decide_eq_false fun h => ?_
  obtain ⟨j, hj, e⟩ := List.mem_iff_getElem.1 h2
  simp at hj e
  exact (List.pairwise_iff_getElem.1 h.2.1) j i (by omega) hi (by omega) e
theorem pre_all {N : List ByteArray} (h : Pre N N.length) : namesB N = decide ((N.length : Int) ≤ 20) := by
  unfold Pre at h
  rw [List.take_length] at h
  unfold namesB
  by_cases q : N.length ≤ 20
  · rw [decide_eq_true (show NOk N from ⟨h.1, h.2, q⟩), decide_eq_true (by omega)]
  · rw [decide_eq_false (show ¬ NOk N from fun z => q z.2.2), decide_eq_false (by omega)]
theorem names_long {N : List ByteArray} (h : 20 < N.length) : namesB N = false := decide_eq_false fun z => by have := z.2.2; omega

/-- a ring -/
structure Rg where
  N : List ByteArray
  U : List Bool
  A : Int
def Rg.zero : Rg := ⟨[], [], 0⟩
def atB (n : Nat) (A : Int) : Bool := decide (0 ≤ A) && decide (A < max (n : Int) 1)
def ringB (r : Rg) : Bool := namesB r.N && (r.U.length == r.N.length) && atB r.N.length r.A
structure ROk (r : Rg) : Prop where
  nm : ∀ s ∈ r.N, nameB s = true
  nd : r.N.Nodup
  le : r.N.length ≤ 20
  us : r.U.length = r.N.length
  a0 : 0 ≤ r.A
  a1 : r.A < max (r.N.length : Int) 1
theorem ringB_iff {r : Rg} : ringB r = true ↔ ROk r := by
  simp only [ringB, namesB, atB, Bool.and_eq_true, decide_eq_true_eq, beq_iff_eq]
  exact ⟨fun ⟨⟨⟨h1, h2, h3⟩, h4⟩, h5, h6⟩ => ⟨h1, h2, h3, h4, h5, h6⟩, fun ⟨h1, h2, h3, h4, h5, h6⟩ => ⟨⟨⟨h1, h2, h3⟩, h4⟩, h5, h6⟩⟩
theorem ringB_not {r : Rg} (h : ¬ ringB r = true) : ringB r = false := by simpa using h

/-- may a name join? -/
def mayB (r : Rg) (s : ByteArray) : Bool := nameB s && decide (posS s r.N < 0) && !(r.N.length == 20)
def joined (r : Rg) (s : ByteArray) : Rg := ⟨r.N ++ [s], r.U ++ [false], r.A⟩
def jnB (r : Rg) (s : ByteArray) : Bool := ringB r && mayB r s
def jnR (r : Rg) (s : ByteArray) : Rg := if ringB r = true then (if mayB r s = true then joined r s else r) else Rg.zero
def used (r : Rg) (s : ByteArray) : Rg := if 0 ≤ posS s r.N then ⟨r.N, r.U.set (posS s r.N).toNat true, r.A⟩ else r
def usR (r : Rg) (s : ByteArray) : Rg := if ringB r = true then used r s else Rg.zero
/-- without the one at a place -/
def left (r : Rg) (i : Nat) : Rg :=
  ⟨r.N.take i ++ r.N.drop (i + 1), r.U.take i ++ r.U.drop (i + 1), if (if (i : Int) < r.A then r.A - 1 else r.A) < (r.N.length : Int) - 1 then (if (i : Int) < r.A then r.A - 1 else r.A) else 0⟩
def lvB (r : Rg) (s : ByteArray) : Bool := ringB r && decide (0 ≤ posS s r.N)
def lvR (r : Rg) (s : ByteArray) : Rg := if ringB r = true then (if 0 ≤ posS s r.N then left r (posS s r.N).toNat else r) else Rg.zero

/-- the hand goes on over those that are used -/
def turn (n : Nat) : Nat → List Bool → Nat → List Bool × Nat
  | 0, U, a => (U, a)
  | f + 1, U, a => if U[a]? = some true then turn n f (U.set a false) ((a + 1) % n) else (U, a)
def turned (r : Rg) : List Bool × Nat := turn r.N.length (r.U.count true) r.U r.A.toNat
def tuR (r : Rg) : Rg := if ringB r = true then (if r.N.length = 0 then r else ⟨r.N, (turned r).1, ((turned r).2 : Int)⟩) else Rg.zero
def tuS (r : Rg) : ByteArray := if ringB r = true then (if r.N.length = 0 then ⟨#[]⟩ else (r.N[(turned r).2]?).getD ⟨#[]⟩) else ⟨#[]⟩

theorem count_set {U : List Bool} {a : Nat} (h : U[a]? = some true) : (U.set a false).count true + 1 = U.count true := by
  obtain ⟨ha, e⟩ := List.getElem?_eq_some_iff.1 h
  have h1 : U = U.take a ++ U[a] :: U.drop (a + 1) := by simp
  have h2 : U.set a false = U.take a ++ false :: U.drop (a + 1) := by rw [List.set_eq_take_append_cons_drop, if_pos ha]
  rw [h2]
  conv => rhs; rw [h1]
  rw [e]
  simp
  omega
theorem turn_step {n : Nat} {U : List Bool} {a : Nat} (h : U[a]? = some true) : turn n (U.count true) U a = turn n ((U.set a false).count true) (U.set a false) ((a + 1) % n) := by
  rw [← count_set h]
  simp only [turn, h, if_true]
theorem turn_stop {n f : Nat} {U : List Bool} {a : Nat} (h : U[a]? ≠ some true) : turn n f U a = (U, a) := by
  cases f with
  | zero => rfl
  | succ f => simp only [turn, if_neg h]
theorem left_us {r : Rg} (h : r.U.length = r.N.length) (i : Nat) : (left r i).U.length = (left r i).N.length := by unfold left; simp [h]
theorem turn_len (n : Nat) : ∀ (f : Nat) (U : List Bool) (a : Nat), (turn n f U a).1.length = U.length
  | 0, U, a => rfl
  | f + 1, U, a => by
    unfold turn
    split
    · rw [turn_len n f]; simp
    · rfl
end Go.Proofs.Ytmnjmghlkiljhaa.rg
/- Mathematics for the laws of rings: what leaves, joins, and where the hand stops. -/
namespace Go.Proofs.Ytmnjmghlkiljhaa.rg
open Go.RowKit
set_option linter.unusedVariables false

theorem cut_sub {α : Type} (N : List α) (i : Nat) : (N.take i ++ N.drop (i + 1)).Sublist N := by
  rw [← List.eraseIdx_eq_take_drop_succ]
  exact List.eraseIdx_sublist ..
theorem left_ok {r : Rg} (h : ROk r) {i : Nat} (hi : i < r.N.length) : ROk (left r i) := by
  have hn : (left r i).N.length + 1 = r.N.length := by simp [left]; omega
  have h0 := h.a0
  have h1 := h.a1
  have h2 := h.le
  refine ⟨fun s hs => h.nm s ((cut_sub r.N i).mem hs), h.nd.sublist (cut_sub r.N i), by omega, left_us h.us i, ?_, ?_⟩
  · show 0 ≤ (if (if (i : Int) < r.A then r.A - 1 else r.A) < (r.N.length : Int) - 1 then (if (i : Int) < r.A then r.A - 1 else r.A) else 0)
    split <;> split <;> omega
  · show (if (if (i : Int) < r.A then r.A - 1 else r.A) < (r.N.length : Int) - 1 then (if (i : Int) < r.A then r.A - 1 else r.A) else 0) < _
    split <;> split <;> omega
theorem left_gone {r : Rg} (h : ROk r) {i : Nat} (hi : i < r.N.length) : r.N[i] ∉ (left r i).N := by
  intro hm
  have hd := List.pairwise_iff_getElem.1 h.nd
  rcases List.mem_append.1 hm with q | q
  · obtain ⟨j, hj, e⟩ := List.mem_iff_getElem.1 q
    simp at hj e
    exact hd j i (by omega) hi (by omega) e
  · obtain ⟨j, hj, e⟩ := List.mem_iff_getElem.1 q
    simp at hj e
    exact hd i (i + 1 + j) hi (by omega) (by omega) e.symm
theorem left_hand {r : Rg} (h : ROk r) {i k : Nat} (hi : i < r.N.length) (hk : r.A = k) (hne : k ≠ i) : ∃ k' : Nat, (left r i).A = k' ∧ k' < (left r i).N.length ∧ (left r i).N[k']? = r.N[k]? := by
  have h1 := h.a1
  have hn : (left r i).N.length + 1 = r.N.length := by simp [left]; omega
  rcases Nat.lt_or_ge i k with q | q
  · refine ⟨k - 1, ?_, by omega, ?_⟩
    · show (if (if (i : Int) < r.A then r.A - 1 else r.A) < (r.N.length : Int) - 1 then (if (i : Int) < r.A then r.A - 1 else r.A) else 0) = _
      rw [if_pos (show (i : Int) < r.A by omega), if_pos (by omega)]
      omega
    · show (r.N.take i ++ r.N.drop (i + 1))[k - 1]? = _
      rw [List.getElem?_append_right (by simp; omega), List.getElem?_drop]
      congr 1
      simp
      omega
  · refine ⟨k, ?_, by omega, ?_⟩
    · show (if (if (i : Int) < r.A then r.A - 1 else r.A) < (r.N.length : Int) - 1 then (if (i : Int) < r.A then r.A - 1 else r.A) else 0) = _
      rw [if_neg (show ¬ (i : Int) < r.A by omega), if_pos (by omega)]
      omega
    · show (r.N.take i ++ r.N.drop (i + 1))[k]? = _
      rw [List.getElem?_append_left (by simp; omega), List.getElem?_take, if_pos (by omega)]
theorem joined_ok {r : Rg} (h : ROk r) {s : ByteArray} (hm : mayB r s = true) : ROk (joined r s) := by
  simp only [mayB, Bool.and_eq_true, decide_eq_true_eq, Bool.not_eq_true', beq_eq_false_iff_ne] at hm
  obtain ⟨⟨h1, h2⟩, h3⟩ := hm
  have hno : s ∉ r.N := fun q => by have := posS_mem.1 q; omega
  have h4 := h.le
  have h5 := h.us
  have h6 := h.a0
  have h7 := h.a1
  refine ⟨fun x hx => ?_, ?_, ?_, ?_, h6, ?_⟩
  · rcases List.mem_append.1 hx with q | q
    · exact h.nm x q
    · rw [List.mem_singleton.1 q]; exact h1
  · show (r.N ++ [s]).Nodup
    rw [List.nodup_append]
    refine ⟨h.nd, by simp, fun a ha b hb e => ?_⟩
    rw [List.mem_singleton] at hb
    rw [e, hb] at ha
    exact hno ha
  · show (r.N ++ [s]).length ≤ 20
    simp
    omega
  · show (r.U ++ [false]).length = (r.N ++ [s]).length
    simp
    omega
  · show r.A < max ((r.N ++ [s]).length : Int) 1
    simp
    omega

theorem mod2 {n x : Nat} (h : x < 2 * n) : x % n = if x < n then x else x - n := by
  split
  · exact Nat.mod_eq_of_lt (by assumption)
  · rw [Nat.mod_eq_sub_mod (by omega), Nat.mod_eq_of_lt (by omega)]
theorem mod_reach {n a j : Nat} (ha : a < n) (hj : j < n) : ∃ m, m < n ∧ (a + m) % n = j := by
  rcases Nat.lt_or_ge j a with q | q
  · exact ⟨j + n - a, by omega, by rw [mod2 (by omega), if_neg (by omega)]; omega⟩
  · exact ⟨j - a, by omega, by rw [mod2 (by omega), if_pos (by omega)]; omega⟩
theorem mod_once {n a m k : Nat} (ha : a < n) (hm : m < k) (hk : k ≤ n) (e : (a + m) % n = (a + k) % n) : k = n := by
  rw [mod2 (by omega), mod2 (by omega)] at e
  split at e <;> split at e <;> omega
/-- the hand has gone by k places -/
structure Gone (n : Nat) (U0 : List Bool) (a k : Nat) (U : List Bool) : Prop where
  le : k ≤ n
  by' : ∀ m, m < k → U0[(a + m) % n]? = some true
  iff : ∀ j, U[j]? = some true ↔ U0[j]? = some true ∧ ∀ m, m < k → (a + m) % n ≠ j
theorem turn_gone {n : Nat} {U0 : List Bool} {a : Nat} (ha : a < n) : ∀ (f : Nat) (U : List Bool) (k : Nat), f = U.count true → Gone n U0 a k U → ∃ k', Gone n U0 a k' (turn n f U ((a + k) % n)).1 ∧ (turn n f U ((a + k) % n)).2 = (a + k') % n ∧ (turn n f U ((a + k) % n)).1[(a + k') % n]? ≠ some true
  | 0, U, k, hf, g => by
    refine ⟨k, g, rfl, fun e => ?_⟩
    have := List.mem_of_getElem? e
    exact List.count_eq_zero.1 hf.symm this
  | f + 1, U, k, hf, g => by
    by_cases h : U[(a + k) % n]? = some true
    · have hk : k < n := by
        rcases Nat.lt_or_ge k n with q | q
        · exact q
        · exfalso
          have e : k = n := by have := g.le; omega
          subst e
          exact ((g.iff _).1 h).2 0 (by omega) (by simp)
      have g2 : Gone n U0 a (k + 1) (U.set ((a + k) % n) false) := by
        refine ⟨by omega, fun m hm => ?_, fun j => ?_⟩
        · rcases Nat.lt_or_ge m k with q | q
          · exact g.by' m q
          · have e : m = k := by omega
            subst e
            exact ((g.iff _).1 h).1
        · rw [List.getElem?_set]
          by_cases q : (a + k) % n = j
          · rw [if_pos q]
            refine ⟨fun z => ?_, fun z => absurd q (z.2 k (by omega))⟩
            split at z <;> cases z
          · rw [if_neg q, g.iff j]
            refine ⟨fun z => ⟨z.1, fun m hm => ?_⟩, fun z => ⟨z.1, fun m hm => z.2 m (by omega)⟩⟩
            rcases Nat.lt_or_ge m k with p | p
            · exact z.2 m p
            · have e : m = k := by omega
              subst e
              exact q
      have hc := count_set h
      obtain ⟨k', r1, r2, r3⟩ := turn_gone ha f (U.set ((a + k) % n) false) (k + 1) (by omega) g2
      have e : turn n (f + 1) U ((a + k) % n) = turn n f (U.set ((a + k) % n) false) ((a + (k + 1)) % n) := by
        simp only [turn, if_pos h]
        rw [Nat.mod_add_mod, Nat.add_assoc]
      rw [e]
      exact ⟨k', r1, r2, r3⟩
    · rw [turn_stop h]
      exact ⟨k, g, rfl, h⟩
/-- where the hand stops -/
structure Stop (r : Rg) (V : List Bool) (b : Nat) : Prop where
  lt : b < r.N.length
  len : V.length = r.N.length
  off : V[b]? = some false
  le : ∀ j : Nat, V[j]? = some true → r.U[j]? = some true
  all : r.U[b]? = some true → ∀ j : Nat, j < r.N.length → r.U[j]? = some true
  at' : r.U[b]? = some true → (b : Int) = r.A
theorem turned_stop {r : Rg} (h : ROk r) (hn : r.N.length ≠ 0) : Stop r (turned r).1 (turned r).2 := by
  have h0 := h.a0
  have h1 := h.a1
  have ha : r.A.toNat < r.N.length := by omega
  obtain ⟨k, g, e, ho⟩ := turn_gone (U0 := r.U) ha (r.U.count true) r.U 0 rfl ⟨Nat.zero_le _, fun m hm => by omega, fun j => ⟨fun z => ⟨z, fun m hm => by omega⟩, fun z => z.1⟩⟩
  rw [Nat.add_zero, Nat.mod_eq_of_lt ha] at g e ho
  have hl : (turned r).1.length = r.N.length := by rw [← h.us]; exact turn_len _ _ _ _
  have hb : (turned r).2 < r.N.length := by
    show (turn _ _ _ _).2 < _
    rw [e]
    exact Nat.mod_lt _ (by omega)
  have full : r.U[(turned r).2]? = some true → k = r.N.length := fun z => by
    have z' : r.U[(r.A.toNat + k) % r.N.length]? = some true := by rw [← e]; exact z
    by_cases q : ∃ m, m < k ∧ (r.A.toNat + m) % r.N.length = (r.A.toNat + k) % r.N.length
    · obtain ⟨m, hm, em⟩ := q
      exact mod_once ha hm g.le em
    · exact absurd ((g.iff _).2 ⟨z', fun m hm em => q ⟨m, hm, em⟩⟩) ho
  refine ⟨hb, hl, ?_, fun j hj => ((g.iff j).1 hj).1, fun z j hj => ?_, fun z => ?_⟩
  · have ho' : (turned r).1[(turned r).2]? ≠ some true := by
      show (turn _ _ _ _).1[(turn _ _ _ _).2]? ≠ _
      rw [e]
      exact ho
    rw [List.getElem?_eq_getElem (by omega)] at ho' ⊢
    cases hx : (turned r).1[(turned r).2]'(by omega) with
    | false => rfl
    | true => rw [hx] at ho'; exact absurd rfl ho'
  · have hk := full z
    obtain ⟨m, hm, em⟩ := mod_reach ha hj
    have := g.by' m (by omega)
    rw [em] at this
    exact this
  · have hk := full z
    have e2 : (turned r).2 = (r.A.toNat + k) % r.N.length := e
    rw [e2, hk, mod2 (by omega), if_neg (by omega)]
    omega
theorem turned_ok {r : Rg} (h : ROk r) {V : List Bool} {b : Nat} (s : Stop r V b) : ROk ⟨r.N, V, (b : Int)⟩ := ⟨h.nm, h.nd, h.le, s.len, by show (0 : Int) ≤ (b : Int); omega, by show (b : Int) < max (r.N.length : Int) 1; have := s.lt; omega⟩
theorem all_end {r : Rg} (h : ROk r) {V : List Bool} {b : Nat} (s : Stop r V b) {u : Bool} (hu : r.U[b]? = some u) : r.U.all id = u := by
  cases u with
  | true =>
    rw [List.all_eq_true]
    intro x hx
    obtain ⟨j, hj, e⟩ := List.mem_iff_getElem.1 hx
    have := s.all hu j (by have := h.us; omega)
    rw [List.getElem?_eq_getElem hj, e] at this
    cases this
    rfl
  | false =>
    rw [Bool.eq_false_iff]
    intro q
    rw [List.all_eq_true] at q
    have := q false (List.mem_of_getElem? hu)
    cases this
theorem all_next {U : List Bool} {i : Nat} (hi : i < U.length) : (U.take (i + 1)).all id = ((U.take i).all id && U[i]) := by
  rw [List.take_succ_eq_append_getElem hi, List.all_append]
  simp
end Go.Proofs.Ytmnjmghlkiljhaa.rg
