/- Contracts: a book without what is over, both sides. -/
import Derived.Test.YtcbhbpdlgibipaaBb1
import Derived.Lib.SmallJoins
import Derived.Deep.Slices
import Derived.Deep.DeepCutAuto
import Derived.Deep.RegionHeld3
import Derived.BigQuiet
namespace Go.Proofs.Ytcbhbpdlgibipaa.rg
open Go.ChangeShapes Go.WideShapes Go.ChangeAt Go.RowKit
open Go.Deep Go.Joins
open Go.Proofs.Ytcbhbpdlgibipaa.ce Go.Proofs.Ytcbhbpdlgibipaa.ro
set_option linter.unusedVariables false

/-- only the variable q changes, besides what is new -/
structure Onb (q : Nat) (w w' : World) : Prop where
  size : w.heap.size ≤ w'.heap.size
  keep : ∀ k, k < w.heap.size → k ≠ q → w'.heap[k]? = w.heap[k]?
  low : ∀ B, B ≤ q → B ≤ w.heap.size → Below B w w'
theorem Onb.refl (q : Nat) (w : World) : Onb q w w := ⟨Nat.le_refl _, fun _ _ _ => rfl, fun _ _ _ => Below.refl _ _⟩
theorem Onb.below {q : Nat} {w w' : World} (h : Below w.heap.size w w') : Onb q w w' := ⟨h.size, fun k hk _ => h.block k hk, fun B _ hB => h.mono hB⟩
theorem Onb.trans {q : Nat} {x y z : World} (h : Onb q x y) (k : Onb q y z) : Onb q x z := ⟨Nat.le_trans h.size k.size, fun j hj hb => (k.keep j (Nat.lt_of_lt_of_le hj h.size) hb).trans (h.keep j hj hb), fun B h1 h2 => (h.low B h1 h2).trans (k.low B h1 (Nat.le_trans h2 h.size))⟩
theorem Onb.only {q : Nat} {w w' : World} (h : Only q w w') : Onb q w w' := ⟨Nat.le_of_eq h.1.symm, fun k _ hk => h.2.1 k hk, fun B hB _ => h.2.2 B hB⟩
theorem Onb.vblk {q b : Nat} {w w' : World} {t : TypeId} {vs : List Value} (h : Onb q w w') (hb : VBlk w b t vs) (hn : b ≠ q) : VBlk w' b t vs := hb.of (h.keep b hb.lt hn)
theorem Onb.own {α : Type} {E : Enc α} {q lo hi : Nat} {w w' : World} {v : Value} {xs : List α} {t : TypeId} {vs : List Value} (h : Onb q w w') (o : Own E w lo hi v xs) (hv : VBlk w q t vs) (ht : E.t ≠ t) : Own E w' lo hi v xs := o.keepT fun g cur hg _ _ => h.keep g (Array.getElem?_eq_some_iff.1 hg).1 fun e => by
  rw [e] at hg
  have := hg.symm.trans hv
  simp at this
  exact ht this.2
theorem take_age {I : List It} {i : Nat} (hi : i < I.length) (now : Int) : ageL (I.take (i + 1)) now = ageL (I.take i) now ++ (if overB I[i] now = true then [] else [I[i]]) := by
  unfold ageL
  rw [List.take_succ_eq_append_getElem hi, List.filter_append]
  congr 1
  cases h : overB I[i] now <;> simp [h]
theorem take_gone {I : List It} {i : Nat} (hi : i < I.length) (now : Int) : goneL (I.take (i + 1)) now = goneL (I.take i) now ++ (if overB I[i] now = true then [I[i].N] else []) := by
  unfold goneL
  rw [List.take_succ_eq_append_getElem hi, List.filter_append, List.map_append]
  congr 1
  cases h : overB I[i] now <;> simp [h]
theorem age_le (I : List It) (now : Int) (i : Nat) : (ageL (I.take i) now).length ≤ I.length ∧ (goneL (I.take i) now).length ≤ I.length := by
  have h1 : (I.take i).length ≤ I.length := by rw [List.length_take]; omega
  refine ⟨Nat.le_trans (List.length_filter_le _ _) h1, ?_⟩
  unfold goneL
  rw [List.length_map]
  exact Nat.le_trans (List.length_filter_le _ _) h1
/-- two variables that hold books -/
structure Two2 (wr : World) (b1 b2 : Nat) (vs : List Value) : Prop where
  a : VBlk wr b1 29 vs
  b : ∃ x y, VBlk wr b2 29 [x, y]
theorem Two2.grow {w w' : World} {b1 b2 : Nat} {vs : List Value} (h : Two2 w b1 b2 vs) (hb : Below w.heap.size w w') : Two2 w' b1 b2 vs := by
  obtain ⟨h1, x, y, h2⟩ := h
  exact ⟨vblk_grow h1 hb, x, y, vblk_grow h2 hb⟩
theorem Two2.only {w w' : World} {b1 b2 b : Nat} {vs : List Value} (h : Two2 w b1 b2 vs) (ho : Only b w w') {n : Nat} (hb : n ≤ b) (h1 : b1 < n) (h2 : b2 < n) : Two2 w' b1 b2 vs := by
  obtain ⟨h1, x, y, h2⟩ := h
  exact ⟨vblk_only h1 ho (by omega), x, y, vblk_only h2 ho (by omega)⟩
theorem Two2.ty {w w' : World} {b1 b2 lo : Nat} {t : TypeId} {vs : List Value} (h : Two2 w b1 b2 vs) (hT : Ty lo t w w') (ht : 29 ≠ t) : Two2 w' b1 b2 vs := by
  obtain ⟨h1, x, y, h2⟩ := h
  exact ⟨hT.vblk h1 ht, x, y, hT.vblk h2 ht⟩
theorem Two2.lt {w : World} {b1 b2 : Nat} {vs : List Value} (h : Two2 w b1 b2 vs) : b1 < w.heap.size ∧ b2 < w.heap.size := by
  obtain ⟨h1, x, y, h2⟩ := h
  exact ⟨h1.lt, h2.lt⟩
/-- while a book is aged: its things are read, two rows grow -/
structure Agd (w wr : World) (v : Value) (I G : List It) (N : List ByteArray) (vi vg : Value) : Prop where
  R : Rd encIt wr v I
  oi : Own encIt wr w.heap.size wr.heap.size vi G
  og : Own encS wr w.heap.size wr.heap.size vg N
  b : Below w.heap.size w wr
theorem Agd.size {w wr : World} {v vi vg : Value} {I G : List It} {N : List ByteArray} (h : Agd w wr v I G N vi vg) : w.heap.size ≤ wr.heap.size := h.b.size
theorem Agd.grow {w wr w' : World} {v vi vg : Value} {I G : List It} {N : List ByteArray} (h : Agd w wr v I G N vi vg) (hb : Below wr.heap.size wr w') : Agd w w' v I G N vi vg :=
  ⟨h.R.grow hb, (h.oi.grow hb).top, (h.og.grow hb).top, h.b.trans (hb.mono h.b.size)⟩
theorem Agd.only {w wr w' : World} {v vi vg : Value} {I G : List It} {N : List ByteArray} {b : Nat} {t : TypeId} {vs : List Value} (h : Agd w wr v I G N vi vg) (R0 : Rd encIt w v I) (ho : Only b wr w') (hb : VBlk wr b t vs) (h1 : encIt.t ≠ t) (h2 : encS.t ≠ t) (hlo : w.heap.size ≤ b) : Agd w w' v I G N vi vg :=
  have hB := h.b.trans (ho.2.2 _ hlo)
  ⟨R0.grow hB, (h.oi.only ho hb h1).top, (h.og.only ho hb h2).top, hB⟩
theorem Agd.appI {w wr w' : World} {v vi vg v' : Value} {I G G' : List It} {N : List ByteArray} (h : Agd w wr v I G N vi vg) (R0 : Rd encIt w v I) (hT : Ty w.heap.size encIt.t wr w') (o' : Own encIt w' w.heap.size w'.heap.size v' G') : Agd w w' v I G' N v' vg :=
  ⟨R0.grow (h.b.trans hT.low), o', (hT.own h.og (by decide)).top, h.b.trans hT.low⟩
theorem Agd.appG {w wr w' : World} {v vi vg v' : Value} {I G : List It} {N N' : List ByteArray} (h : Agd w wr v I G N vi vg) (R0 : Rd encIt w v I) (hT : Ty w.heap.size encS.t wr w') (o' : Own encS w' w.heap.size w'.heap.size v' N') : Agd w w' v I G N' vi v' :=
  ⟨R0.grow (h.b.trans hT.low), (hT.own h.oi (by decide)).top, o', h.b.trans hT.low⟩
set_option maxRecDepth 100000 in
set_option maxHeartbeats 2000000 in
theorem l13Age_any (q : Nat) (I : List It) (X now : Int) (v : Value) (w : World) (V : VBlk w q 29 [v, .int .i64 X]) (r : Rd encIt w v I) (hl : I.length ≤ 1048576) :
    Calls Try.prog 44 #[.pointer (some ⟨q, 0, none⟩), .int .i64 now] w fun e w' => ∃ vg, e = .returned vg ∧ ∃ v', VBlk w' q 29 [v', .int .i64 X] ∧ Own encIt w' w.heap.size w'.heap.size v' (ageL I now) ∧ Own encS w' w.heap.size w'.heap.size vg (goneL I now) ∧ Onb q w w' := by
  obtain ⟨a, cap, rfl⟩ := r.form
  have R : Hid (Rd encIt w (.slice a I.length cap) I) := r
  have VV : Hid (VBlk w q 29 [.slice a I.length cap, .int .i64 X]) := V
  have HQ : q < w.heap.size := V.lt
  clear r V
  go_enter Try.func44, Try.ntmps44
  go_wp2
  go_loopw [5, 6, 7] (fun g it iv wr => ∃ (i : Nat) (ag : Option Addr) (ng kg : Nat) (ai : Option Addr) (ni ki : Nat), i ≤ I.length ∧ iv = .int .i64 i ∧ g = .slice ag ng kg ∧ it = .slice ai ni ki ∧ Agd w wr (.slice a I.length cap) I (ageL (I.take i) now) (goneL (I.take i) now) (.slice ai ni ki) (.slice ag ng kg)) (fun _ _ iv _ => I.length - (intOf iv).toNat)
  case atStart => exact ⟨0, _, _, _, _, _, _, by omega, rfl, rfl, rfl, R.out.grow (by first | exact Below.refl _ _ | exact (bAl _ _) | exact (bAl _ _).trans ((bAl _ _).mono (by simp))), by simpa [ageL] using own_zero _ _ _ _ _, by simpa [goneL] using own_zero _ _ _ _ _, (by first | exact Below.refl _ _ | exact (bAl _ _) | exact (bAl _ _).trans ((bAl _ _).mono (by simp)))⟩
  case round =>
    obtain ⟨i, ag, ng, kg, ai, ni, ki, hi1, rfl, rfl, rfl, A⟩ := hrel
    have VQ := VV.out.below A.b HQ
    obtain ⟨q0, q1⟩ := cells2 VQ
    have mL : Hid True := trivial
    have A0 : Hid (Agd w wr (.slice a I.length cap) I (ageL (I.take i) now) (goneL (I.take i) now) (.slice ai ni ki) (.slice ag ng kg)) := A
    by_cases hlt : i < I.length
    · obtain ⟨bk, off, rfl, hb, rg0⟩ := rd_item rfl rfl A0.out.R i hlt
      have hlt' : (i : Int) < (I.length : Int) := by omega
      have ta := take_age hlt now
      have tg := take_gone hlt now
      obtain ⟨z, hz⟩ := hid_ex (I[i])
      rw [hz.out] at rg0 ta tg
      obtain ⟨N, F, B, C, U⟩ := z
      have rg : Hid (wr.rangeAt bk (off + i * 5) [.string N, .int .i64 F, .string B, .int .i64 C, .int .i64 U]) := rg0
      obtain ⟨c0, -, -, -, -⟩ := rng5 rg.out
      clear rg0
      have hle := age_le I now i
      obtain ⟨x, hx⟩ := hid_ex (overB ⟨N, F, B, C, U⟩ now)
      rw [hx.out] at ta tg
      have TA : Hid (ageL (I.take (i + 1)) now = ageL (I.take i) now ++ (if x = true then [] else [⟨N, F, B, C, U⟩])) := ta
      have TG : Hid (goneL (I.take (i + 1)) now = goneL (I.take i) now ++ (if x = true then [N] else [])) := tg
      clear ta tg A
      cases x with
      | true =>
        go_wp2_with (first | (clear mL; refine wpList_load_r rfl 47 _ rfl bk (off + i * 5) [.string N, .int .i64 F, .string B, .int .i64 C, .int .i64 U] rfl _ Try.underlying47 rfl sizeIt rg.out ?_) | (go_at_call 30; refine (specOverAt_any N B F C U now _ hx _).mono ?_; rintro e w2 ⟨rfl, hB2⟩; have A2 : Hid (Agd w w2 (.slice (some ⟨bk, off, none⟩) I.length cap) I (ageL (I.take i) now) (goneL (I.take i) now) (.slice ai ni ki) (.slice ag ng kg)) := A0.out.grow hB2; have VQ2 := VV.out.below A2.out.b HQ; obtain ⟨p0, p1⟩ := cells2 VQ2; obtain ⟨r0, -, -, -, -⟩ := rng5 (range_of rg.out (hB2.block bk hb))) | (at_builtin; refine wpList_append_g infoS rfl _ _ 36 rfl Try.underlying36 w.heap.size _ _ (goneL (I.take i) now) rfl ((A2.out).grow (bAl _ _)).og (by have := (A2.out).size; simp; omega) _ [N] rfl (rd_new (E := encS) _ N #[.string N] rfl) (by simp; omega) ?_; intro v7 w7 o7 hT7; have A7 : Hid (Agd w w7 (.slice (some ⟨bk, off, none⟩) I.length cap) I (ageL (I.take i) now) (goneL (I.take i) now ++ [N]) (.slice ai ni ki) v7) := ((A2.out).grow (bAl _ _)).appG R.out hT7 o7; obtain ⟨a7, n7, k7, rfl⟩ := o7.slice) | (fail))
        go_roundw
        case rel => exact ⟨i + 1, _, _, _, _, _, _, by omega, by go_num, rfl, rfl, by rw [TA.out, TG.out]; simpa using A7.out⟩
        case measure => simp [intOf]; omega
      | false =>
        have mM : Hid True := trivial
        go_wp2_with (first | (clear mL; refine wpList_load_r rfl 47 _ rfl bk (off + i * 5) [.string N, .int .i64 F, .string B, .int .i64 C, .int .i64 U] rfl _ Try.underlying47 rfl sizeIt rg.out ?_) | (go_at_call 30; refine (specOverAt_any N B F C U now _ hx _).mono ?_; rintro e w2 ⟨rfl, hB2⟩; have A2 : Hid (Agd w w2 (.slice (some ⟨bk, off, none⟩) I.length cap) I (ageL (I.take i) now) (goneL (I.take i) now) (.slice ai ni ki) (.slice ag ng kg)) := A0.out.grow hB2; have VQ2 := VV.out.below A2.out.b HQ; obtain ⟨p0, p1⟩ := cells2 VQ2; have rg2 := range_of rg.out (hB2.block bk hb)) | (clear mM; refine wpList_load_r rfl 47 _ rfl bk (off + i * 5) [.string N, .int .i64 F, .string B, .int .i64 C, .int .i64 U] rfl _ Try.underlying47 rfl sizeIt rg2 ?_) | (at_builtin; refine wpList_append_g infoIt rfl _ _ 27 rfl Try.underlying27 w.heap.size _ _ (ageL (I.take i) now) rfl ((A2.out).grow (bAl _ _)).oi (by have := (A2.out).size; simp; omega) _ [⟨N, F, B, C, U⟩] rfl (rd_new (E := encIt) _ ⟨N, F, B, C, U⟩ #[.string N, .int .i64 F, .string B, .int .i64 C, .int .i64 U] rfl) (by simp; omega) ?_; intro v7 w7 o7 hT7; have A7 : Hid (Agd w w7 (.slice (some ⟨bk, off, none⟩) I.length cap) I (ageL (I.take i) now ++ [⟨N, F, B, C, U⟩]) (goneL (I.take i) now) v7 (.slice ag ng kg)) := ((A2.out).grow (bAl _ _)).appI R.out hT7 o7; obtain ⟨a7, n7, k7, rfl⟩ := o7.slice) | (fail))
        go_roundw
        case rel => exact ⟨i + 1, _, _, _, _, _, _, by omega, by go_num, rfl, rfl, by rw [TA.out, TG.out]; simpa using A7.out⟩
        case measure => simp [intOf]; omega
    · have hlt' : ¬ (i : Int) < (I.length : Int) := by omega
      have ei : I.take i = I := List.take_of_length_le (by omega)
      rw [ei] at A0
      have f0 := VQ.frozen 0
      clear A
      go_wp2
      go_ret
      have hO := only_set wr q 0 (.slice ai ni ki)
      refine ⟨_, rfl, _, by simpa using VQ.set 0 (.slice ai ni ki), (A0.out.oi.only hO VQ (by decide)).top, (A0.out.og.only hO VQ (by decide)).top, ?_⟩
      exact (Onb.below A0.out.b).trans (Onb.only hO)
theorem l13Time_is (x : Int) (y : Bool) (h : (decide (0 ≤ x) && decide (x ≤ 1000000)) = y) (w : World) : Calls Try.prog 42 #[.int .i64 x] w fun e w' => e = .returned (.bool y) ∧ w' = w := by
  have hy : Hid ((decide (0 ≤ x) && decide (x ≤ 1000000)) = y) := h
  clear h
  go_enter Try.func42, Try.ntmps42
  go_wp2_with (first | (go_at_call 35; refine (in_is _ _ _ y hy.out _).mono ?_; rintro e wq ⟨rfl, hq⟩; subst wq) | (fail))
  go_ret
  exact ⟨rfl, rfl⟩
theorem ag_no {I : List It} {X now : Int} (h : (storeB ⟨I, X⟩ && timeB now) = false) : agR ⟨I, X⟩ now = ⟨[], 0⟩ ∧ agN ⟨I, X⟩ now = [] := by
  unfold agR agN
  rw [h]
  exact ⟨rfl, rfl⟩
theorem ag_yes {I : List It} {X now : Int} (h : (storeB ⟨I, X⟩ && timeB now) = true) : agR ⟨I, X⟩ now = ⟨ageL I now, X⟩ ∧ agN ⟨I, X⟩ now = goneL I now := by
  unfold agR agN
  rw [h]
  exact ⟨rfl, rfl⟩
theorem ag_len (I : List It) (X now : Int) : (agR ⟨I, X⟩ now).I.length ≤ I.length ∧ (agN ⟨I, X⟩ now).length ≤ I.length := by
  have h := age_le I now I.length
  rw [List.take_length] at h
  cases e : (storeB ⟨I, X⟩ && timeB now) with
  | false => rw [(ag_no e).1, (ag_no e).2]; simp
  | true => rw [(ag_yes e).1, (ag_yes e).2]; exact h
/-- what Aged tells -/
def PostG (I : List It) (X now : Int) (w : World) (e : Ending) (w' : World) : Prop := ∃ v' vg, e = .returned (.tuple #[.agg #[v', .int .i64 (agR ⟨I, X⟩ now).X], vg]) ∧ Own encIt w' w.heap.size w'.heap.size v' (agR ⟨I, X⟩ now).I ∧ Own encS w' w.heap.size w'.heap.size vg (agN ⟨I, X⟩ now) ∧ Below w.heap.size w w'
set_option maxRecDepth 100000 in
set_option maxHeartbeats 2000000 in
theorem specAged_any (I : List It) (X now : Int) (v : Value) (w : World) (r : Rd encIt w v I) (hs : SmK I) (hl : I.length ≤ 1048576) :
    Calls Try.prog 17 #[.agg #[v, .int .i64 X], .int .i64 now] w fun e w' => PostG I X now w e w' := by
  obtain ⟨a, cap, rfl⟩ := r.form
  have R : Hid (Rd encIt w (.slice a I.length cap) I) := r
  have HS : Hid (SmK I) := hs
  clear r hs
  have k1 : Hid True := trivial
  have k2 : Hid True := trivial
  have k3 : Hid True := trivial
  have k4 : Hid True := trivial
  have k5 : Hid True := trivial
  have k6 : Hid True := trivial
  have k7 : Hid True := trivial
  have k8 : Hid True := trivial
  have k9 : Hid True := trivial
  cases hst : storeB ⟨I, X⟩ with
  | false =>
    have HY : Hid (storeB ⟨I, X⟩ = false) := hst
    have hno : Hid ((storeB ⟨I, X⟩ && timeB now) = false) := by unfold Hid; rw [hst]; rfl
    clear hst
    have eX : (agR ⟨I, X⟩ now).X = 0 := by rw [(ag_no hno.out).1]
    unfold PostG
    rw [eX]
    go_enter Try.func17, Try.ntmps17
    go_wp2_with (first | (clear k1; refine wpList_box_v rfl 29 _ rfl [.slice a I.length cap, .int .i64 X] rfl ?_; intro b1 w1 hb1 hw1 hB1 V1; have hz1 := hB1.size) | (clear k2; refine wpList_alloc_v rfl 29 rfl _ zeroBk ?_; intro b2 w2 hb2 hw2 hB2 V2; have hz2 := hB2.size; have V1b := vblk_grow V1 hB2) | (clear k3; refine wpList_load_r rfl 29 _ rfl b1 0 [.slice a I.length cap, .int .i64 X] rfl _ Try.underlying29 rfl sizeBk V1b.range ?_) | (go_at_call 9; refine (specStoreOk_any I X _ false HY _ (R.out.grow (hB1.trans (hB2.mono hz1))) HS.out).mono ?_; rintro e w3 ⟨rfl, hB3⟩; have V1c := vblk_grow V1b hB3; have V2c := vblk_grow V2 hB3; have hz3 := hB3.size; obtain ⟨q0, q1⟩ := cells2 V1c) | (refine wpList_store_v rfl 29 _ _ rfl b2 [.slice none 0 0, .int .i64 0] rfl rfl sizeBk (vblk_grow V2c (bAl w3 (.cells #[] 9))) rfl (oneBk _ _ _ _) ?_; intro w4 hO4 V4) | (fail))
    exact row_ct rfl rfl rfl V4 Try.underlying29 sizeBk rfl ⟨_, _, rfl, by rw [(ag_no hno.out).1]; exact own_zero _ _ _ _ _, by rw [(ag_no hno.out).2]; exact own_zero _ _ _ _ _, (((hB1.trans (hB2.mono hz1)).trans (hB3.mono (by omega))).trans ((bAl w3 (.cells #[] 9)).mono (by omega))).trans (hO4.2.2 _ (by omega))⟩
  | true =>
    have HY : Hid (storeB ⟨I, X⟩ = true) := hst
    cases htm : timeB now with
    | false =>
      have HT : Hid ((decide (0 ≤ now) && decide (now ≤ 1000000)) = false) := htm
      have hno : Hid ((storeB ⟨I, X⟩ && timeB now) = false) := by unfold Hid; rw [hst, htm]; rfl
      clear hst htm
      have eX : (agR ⟨I, X⟩ now).X = 0 := by rw [(ag_no hno.out).1]
      unfold PostG
      rw [eX]
      go_enter Try.func17, Try.ntmps17
      go_wp2_with (first | (clear k1; refine wpList_box_v rfl 29 _ rfl [.slice a I.length cap, .int .i64 X] rfl ?_; intro b1 w1 hb1 hw1 hB1 V1; have hz1 := hB1.size) | (clear k2; refine wpList_alloc_v rfl 29 rfl _ zeroBk ?_; intro b2 w2 hb2 hw2 hB2 V2; have hz2 := hB2.size; have V1b := vblk_grow V1 hB2) | (clear k3; refine wpList_load_r rfl 29 _ rfl b1 0 [.slice a I.length cap, .int .i64 X] rfl _ Try.underlying29 rfl sizeBk V1b.range ?_) | (go_at_call 9; refine (specStoreOk_any I X _ true HY _ (R.out.grow (hB1.trans (hB2.mono hz1))) HS.out).mono ?_; rintro e w3 ⟨rfl, hB3⟩; have V1c := vblk_grow V1b hB3; have V2c := vblk_grow V2 hB3; have hz3 := hB3.size; obtain ⟨q0, q1⟩ := cells2 V1c) | (go_at_call 42; refine (l13Time_is now false HT.out _).mono ?_; rintro e wq ⟨rfl, hq⟩; subst wq) | (refine wpList_store_v rfl 29 _ _ rfl b2 [.slice none 0 0, .int .i64 0] rfl rfl sizeBk (vblk_grow V2c (bAl w3 (.cells #[] 9))) rfl (oneBk _ _ _ _) ?_; intro w4 hO4 V4) | (fail))
      exact row_ct rfl rfl rfl V4 Try.underlying29 sizeBk rfl ⟨_, _, rfl, by rw [(ag_no hno.out).1]; exact own_zero _ _ _ _ _, by rw [(ag_no hno.out).2]; exact own_zero _ _ _ _ _, (((hB1.trans (hB2.mono hz1)).trans (hB3.mono (by omega))).trans ((bAl w3 (.cells #[] 9)).mono (by omega))).trans (hO4.2.2 _ (by omega))⟩
    | true =>
      have HT : Hid ((decide (0 ≤ now) && decide (now ≤ 1000000)) = true) := htm
      have hyes : Hid ((storeB ⟨I, X⟩ && timeB now) = true) := by unfold Hid; rw [hst, htm]; rfl
      clear hst htm
      have eX : (agR ⟨I, X⟩ now).X = X := by rw [(ag_yes hyes.out).1]
      have eI : (agR ⟨I, X⟩ now).I = ageL I now := by rw [(ag_yes hyes.out).1]
      have eN : agN ⟨I, X⟩ now = goneL I now := (ag_yes hyes.out).2
      unfold PostG
      rw [eX, eI, eN]
      clear eX eI eN
      go_enter Try.func17, Try.ntmps17
      go_wp2_with (first | (clear k1; refine wpList_box_v rfl 29 _ rfl [.slice a I.length cap, .int .i64 X] rfl ?_; intro b1 w1 hb1 hw1 hB1 V1; have hz1 := hB1.size) | (clear k2; refine wpList_alloc_v rfl 29 rfl _ zeroBk ?_; intro b2 w2 hb2 hw2 hB2 V2; have hz2 := hB2.size; have V1b := vblk_grow V1 hB2) | (clear k3; refine wpList_load_r rfl 29 _ rfl b1 0 [.slice a I.length cap, .int .i64 X] rfl _ Try.underlying29 rfl sizeBk V1b.range ?_) | (go_at_call 9; refine (specStoreOk_any I X _ true HY _ (R.out.grow (hB1.trans (hB2.mono hz1))) HS.out).mono ?_; rintro e w3 ⟨rfl, hB3⟩; have V1c := vblk_grow V1b hB3; have V2c := vblk_grow V2 hB3; have hz3 := hB3.size; obtain ⟨q0, q1⟩ := cells2 V1c) | (go_at_call 42; refine (l13Time_is now true HT.out _).mono ?_; rintro e wq ⟨rfl, hq⟩; subst wq) | (clear k4; refine wpList_load_r rfl 29 _ rfl b1 0 [.slice a I.length cap, .int .i64 X] rfl _ Try.underlying29 rfl sizeBk V1c.range ?_) | (go_at_call 43; refine (l13Copy_any I X _ _ (R.out.grow ((hB1.trans (hB2.mono hz1)).trans (hB3.mono (by omega)))) hl).mono ?_; rintro e w4 ⟨v4, rfl, o4, hB4⟩; have V2d := vblk_grow V2c hB4; have hz4 := hB4.size; obtain ⟨a4, n4, k4', rfl⟩ := o4.slice) | (clear k5; refine wpList_alloc_v rfl 29 rfl _ zeroBk ?_; intro b5 w5 hb5 hw5 hB5 V5; have hz5 := hB5.size; have o5 := o4.grow hB5; have V2e := vblk_grow V2d hB5) | (clear k6; refine wpList_store_v rfl 29 _ _ rfl b5 [.slice a4 n4 k4', .int .i64 X] rfl rfl sizeBk V5 rfl (oneBk _ _ _ _) ?_; intro w6 hO6 V6; have o6 := o5.only hO6 V5 (by decide); have V2f := vblk_only V2e hO6 (by have := V2d.lt; omega)) | (go_at_call 44; refine (l13Age_any b5 I X now _ _ V6 o6.rd hl).mono ?_; rintro e w7 ⟨vg, rfl, v7, V7, o7, g7, hN7⟩; have V2g := hN7.vblk V2f (by have := V2d.lt; omega); obtain ⟨a7, n7, c7, rfl⟩ := o7.slice; obtain ⟨a8, n8, c8, rfl⟩ := g7.slice) | (clear k7; refine wpList_load_r rfl 29 _ rfl b5 0 [.slice a7 n7 c7, .int .i64 X] rfl _ Try.underlying29 rfl sizeBk V7.range ?_) | (clear k8; refine wpList_store_v rfl 29 _ _ rfl b2 [.slice a7 n7 c7, .int .i64 X] rfl rfl sizeBk V2g rfl (oneBk _ _ _ _) ?_; intro w9 hO9 V9) | (fail))
      have hs6 : w5.heap.size ≤ w6.heap.size := Nat.le_of_eq hO6.1.symm
      have hlow : Below w.heap.size w w9 := ((((((hB1.trans (hB2.mono hz1)).trans (hB3.mono (by omega))).trans (hB4.mono (by omega))).trans (hB5.mono (by omega))).trans (hO6.2.2 _ (by omega))).trans (hN7.low _ (by omega) (by omega))).trans (hO9.2.2 _ (by omega))
      exact row_ct rfl rfl rfl V9 Try.underlying29 sizeBk rfl ⟨_, _, rfl, ((o7.only hO9 V2g (by decide)).wide (by omega) (Nat.le_refl _)).top, ((g7.only hO9 V2g (by decide)).wide (by omega) (Nat.le_refl _)).top, hlow⟩
set_option maxRecDepth 100000 in
set_option maxHeartbeats 2000000 in
theorem implAged_any (I : List It) (X now : Int) (v : Value) (w : World) (r : Rd encIt w v I) (hs : SmK I) (hl : I.length ≤ 1048576) :
    Calls Try.prog 18 #[.agg #[v, .int .i64 X], .int .i64 now] w fun e w' => PostG I X now w e w' := by
  obtain ⟨a, cap, rfl⟩ := r.form
  have R : Hid (Rd encIt w (.slice a I.length cap) I) := r
  have HS : Hid (SmK I) := hs
  clear r hs
  have k1 : Hid True := trivial
  have k2 : Hid True := trivial
  have k3 : Hid True := trivial
  have k4 : Hid True := trivial
  have k5 : Hid True := trivial
  have k6 : Hid True := trivial
  have k7 : Hid True := trivial
  have k8 : Hid True := trivial
  have k9 : Hid True := trivial
  cases hst : storeB ⟨I, X⟩ with
  | false =>
    have HY : Hid (storeB ⟨I, X⟩ = false) := hst
    have hno : Hid ((storeB ⟨I, X⟩ && timeB now) = false) := by unfold Hid; rw [hst]; rfl
    clear hst
    have eX : (agR ⟨I, X⟩ now).X = 0 := by rw [(ag_no hno.out).1]
    unfold PostG
    rw [eX]
    go_enter Try.func18, Try.ntmps18
    go_wp2_with (first | (clear k1; refine wpList_box_v rfl 29 _ rfl [.slice a I.length cap, .int .i64 X] rfl ?_; intro b1 w1 hb1 hw1 hB1 V1; have hz1 := hB1.size) | (clear k2; refine wpList_alloc_v rfl 29 rfl _ zeroBk ?_; intro b2 w2 hb2 hw2 hB2 V2; have hz2 := hB2.size; have V1b := vblk_grow V1 hB2) | (clear k3; refine wpList_load_r rfl 29 _ rfl b1 0 [.slice a I.length cap, .int .i64 X] rfl _ Try.underlying29 rfl sizeBk V1b.range ?_) | (go_at_call 11; refine (implStoreOk_any I X _ false HY _ (R.out.grow (hB1.trans (hB2.mono hz1))) HS.out).mono ?_; rintro e w3 ⟨rfl, hB3⟩; have V1c := vblk_grow V1b hB3; have V2c := vblk_grow V2 hB3; have hz3 := hB3.size; obtain ⟨q0, q1⟩ := cells2 V1c) | (refine wpList_store_v rfl 29 _ _ rfl b2 [.slice none 0 0, .int .i64 0] rfl rfl sizeBk V2c rfl (oneBk _ _ _ _) ?_; intro w4 hO4 V4) | (fail))
    exact row_ct rfl rfl rfl V4 Try.underlying29 sizeBk rfl ⟨_, _, rfl, by rw [(ag_no hno.out).1]; exact own_zero _ _ _ _ _, by rw [(ag_no hno.out).2]; exact own_zero _ _ _ _ _, ((hB1.trans (hB2.mono hz1)).trans (hB3.mono (by omega))).trans (hO4.2.2 _ (by omega))⟩
  | true =>
    have HY : Hid (storeB ⟨I, X⟩ = true) := hst
    cases htm : timeB now with
    | false =>
      have HT : Hid ((decide (0 ≤ now) && decide (now ≤ 1000000)) = false) := htm
      have hno : Hid ((storeB ⟨I, X⟩ && timeB now) = false) := by unfold Hid; rw [hst, htm]; rfl
      clear hst htm
      have eX : (agR ⟨I, X⟩ now).X = 0 := by rw [(ag_no hno.out).1]
      unfold PostG
      rw [eX]
      go_enter Try.func18, Try.ntmps18
      go_wp2_with (first | (clear k1; refine wpList_box_v rfl 29 _ rfl [.slice a I.length cap, .int .i64 X] rfl ?_; intro b1 w1 hb1 hw1 hB1 V1; have hz1 := hB1.size) | (clear k2; refine wpList_alloc_v rfl 29 rfl _ zeroBk ?_; intro b2 w2 hb2 hw2 hB2 V2; have hz2 := hB2.size; have V1b := vblk_grow V1 hB2) | (clear k3; refine wpList_load_r rfl 29 _ rfl b1 0 [.slice a I.length cap, .int .i64 X] rfl _ Try.underlying29 rfl sizeBk V1b.range ?_) | (go_at_call 11; refine (implStoreOk_any I X _ true HY _ (R.out.grow (hB1.trans (hB2.mono hz1))) HS.out).mono ?_; rintro e w3 ⟨rfl, hB3⟩; have V1c := vblk_grow V1b hB3; have V2c := vblk_grow V2 hB3; have hz3 := hB3.size; obtain ⟨q0, q1⟩ := cells2 V1c) | (go_at_call 38; refine (within_is now 0 1000000 false HT.out _).mono ?_; rintro e wq ⟨rfl, hq⟩; subst wq) | (refine wpList_store_v rfl 29 _ _ rfl b2 [.slice none 0 0, .int .i64 0] rfl rfl sizeBk V2c rfl (oneBk _ _ _ _) ?_; intro w4 hO4 V4) | (fail))
      exact row_ct rfl rfl rfl V4 Try.underlying29 sizeBk rfl ⟨_, _, rfl, by rw [(ag_no hno.out).1]; exact own_zero _ _ _ _ _, by rw [(ag_no hno.out).2]; exact own_zero _ _ _ _ _, ((hB1.trans (hB2.mono hz1)).trans (hB3.mono (by omega))).trans (hO4.2.2 _ (by omega))⟩
    | true =>
      have HT : Hid ((decide (0 ≤ now) && decide (now ≤ 1000000)) = true) := htm
      have hyes : Hid ((storeB ⟨I, X⟩ && timeB now) = true) := by unfold Hid; rw [hst, htm]; rfl
      clear hst htm
      have eX : (agR ⟨I, X⟩ now).X = X := by rw [(ag_yes hyes.out).1]
      have eI : (agR ⟨I, X⟩ now).I = ageL I now := by rw [(ag_yes hyes.out).1]
      have eN : agN ⟨I, X⟩ now = goneL I now := (ag_yes hyes.out).2
      unfold PostG
      rw [eX, eI, eN]
      clear eX eI eN
      go_enter Try.func18, Try.ntmps18
      go_wp2_with (first | (clear k1; refine wpList_box_v rfl 29 _ rfl [.slice a I.length cap, .int .i64 X] rfl ?_; intro b1 w1 hb1 hw1 hB1 V1; have hz1 := hB1.size) | (clear k2; refine wpList_alloc_v rfl 29 rfl _ zeroBk ?_; intro b2 w2 hb2 hw2 hB2 V2; have hz2 := hB2.size; have V1b := vblk_grow V1 hB2) | (clear k3; refine wpList_load_r rfl 29 _ rfl b1 0 [.slice a I.length cap, .int .i64 X] rfl _ Try.underlying29 rfl sizeBk V1b.range ?_) | (go_at_call 11; refine (implStoreOk_any I X _ true HY _ (R.out.grow (hB1.trans (hB2.mono hz1))) HS.out).mono ?_; rintro e w3 ⟨rfl, hB3⟩; have V1c := vblk_grow V1b hB3; have V2c := vblk_grow V2 hB3; have hz3 := hB3.size; obtain ⟨q0, q1⟩ := cells2 V1c) | (go_at_call 38; refine (within_is now 0 1000000 true HT.out _).mono ?_; rintro e wq ⟨rfl, hq⟩; subst wq) | (fail))
      have V1d := V1c
      have hB13 : Below w.heap.size w w3 := (hB1.trans (hB2.mono hz1)).trans (hB3.mono (by omega))
      go_loopw [6, 7, 22] (fun it g iv wr => ∃ (i : Nat) (ag : Option Addr) (ng kg : Nat) (ai : Option Addr) (ni ki : Nat), i ≤ I.length ∧ iv = .int .i64 i ∧ g = .slice ag ng kg ∧ it = .slice ai ni ki ∧ Hid (Two2 wr b1 b2 [.slice a I.length cap, .int .i64 X]) ∧ Agd w wr (.slice a I.length cap) I (ageL (I.take i) now) (goneL (I.take i) now) (.slice ai ni ki) (.slice ag ng kg)) (fun _ _ iv _ => I.length - (intOf iv).toNat)
      case atStart => exact ⟨0, _, _, _, _, _, _, by omega, rfl, rfl, rfl, ⟨V1d, _, _, V2c⟩, R.out.grow hB13, by simpa [ageL] using own_zero _ _ _ _ _, by simpa [goneL] using own_zero _ _ _ _ _, hB13⟩
      case round =>
        obtain ⟨i, ag, ng, kg, ai, ni, ki, hi1, rfl, rfl, rfl, VA, A⟩ := hrel
        have mL : Hid True := trivial
        have A0 : Hid (Agd w wr (.slice a I.length cap) I (ageL (I.take i) now) (goneL (I.take i) now) (.slice ai ni ki) (.slice ag ng kg)) := A
        by_cases hlt : i < I.length
        · obtain ⟨bk, off, rfl, hb, rg0⟩ := rd_item rfl rfl A0.out.R i hlt
          have hlt' : (i : Int) < (I.length : Int) := by omega
          have ta := take_age hlt now
          have tg := take_gone hlt now
          obtain ⟨z, hz⟩ := hid_ex (I[i])
          rw [hz.out] at rg0 ta tg
          obtain ⟨N, F, B, C, U⟩ := z
          have rg : Hid (wr.rangeAt bk (off + i * 5) [.string N, .int .i64 F, .string B, .int .i64 C, .int .i64 U]) := rg0
          obtain ⟨c0, -, -, -, -⟩ := rng5 rg.out
          clear rg0
          have hle := age_le I now i
          obtain ⟨x, hx⟩ := hid_ex (overB ⟨N, F, B, C, U⟩ now)
          rw [hx.out] at ta tg
          have TA : Hid (ageL (I.take (i + 1)) now = ageL (I.take i) now ++ (if x = true then [] else [⟨N, F, B, C, U⟩])) := ta
          have TG : Hid (goneL (I.take (i + 1)) now = goneL (I.take i) now ++ (if x = true then [N] else [])) := tg
          clear ta tg A
          cases x with
          | true =>
            go_wp2_with (first | (clear mL; refine wpList_load_r rfl 47 _ rfl bk (off + i * 5) [.string N, .int .i64 F, .string B, .int .i64 C, .int .i64 U] rfl _ Try.underlying47 rfl sizeIt rg.out ?_) | (clear k4; refine wpList_alloc_v rfl 47 rfl _ zeroIt ?_; intro b9 u1 hb9 hw9 hBu1 W1; have A1 : Hid (Agd w u1 (.slice (some ⟨bk, off, none⟩) I.length cap) I (ageL (I.take i) now) (goneL (I.take i) now) (.slice ai ni ki) (.slice ag ng kg)) := A0.out.grow hBu1; have hzu := hBu1.size) | (clear k5; refine wpList_store_v rfl 47 _ _ rfl b9 [.string N, .int .i64 F, .string B, .int .i64 C, .int .i64 U] rfl rfl sizeIt W1 rfl (ic_one ⟨N, F, B, C, U⟩) ?_; intro u2 hOu2 W2; have A1b : Hid (Agd w u2 (.slice (some ⟨bk, off, none⟩) I.length cap) I (ageL (I.take i) now) (goneL (I.take i) now) (.slice ai ni ki) (.slice ag ng kg)) := A0.out.grow (hBu1.trans (hOu2.2.2 _ hb9))) | (clear k6; refine wpList_load_r rfl 47 _ rfl b9 0 [.string N, .int .i64 F, .string B, .int .i64 C, .int .i64 U] rfl _ Try.underlying47 rfl sizeIt W2.range ?_) | (go_at_call 45; refine (implOverAt_any N B F C U now _ hx _).mono ?_; rintro e w2 ⟨rfl, hB2⟩; have A2 : Hid (Agd w w2 (.slice (some ⟨bk, off, none⟩) I.length cap) I (ageL (I.take i) now) (goneL (I.take i) now) (.slice ai ni ki) (.slice ag ng kg)) := A1b.out.grow hB2; have W3 := vblk_grow W2 hB2; obtain ⟨r0, -, -, -, -⟩ := cells5 W3) | (at_builtin; refine wpList_append_g infoS rfl _ _ 36 rfl Try.underlying36 w.heap.size _ _ (goneL (I.take i) now) rfl ((A2.out).grow (bAl _ _)).og (by have := (A2.out).size; simp; omega) _ [N] rfl (rd_new (E := encS) _ N #[.string N] rfl) (by simp; omega) ?_; intro v7 w7 o7 hT7; have A7 : Hid (Agd w w7 (.slice (some ⟨bk, off, none⟩) I.length cap) I (ageL (I.take i) now) (goneL (I.take i) now ++ [N]) (.slice ai ni ki) v7) := ((A2.out).grow (bAl _ _)).appG R.out hT7 o7; obtain ⟨a7, n7, k7, rfl⟩ := o7.slice) | (fail))
            have T7 : Hid (Two2 w7 b1 b2 [.slice (some ⟨bk, off, none⟩) I.length cap, .int .i64 X]) := (((((VA.out.grow hBu1).only hOu2 hb9 VA.out.lt.1 VA.out.lt.2).grow hB2).grow (bAl _ _)).ty hT7 (by decide))
            go_roundw
            case rel => exact ⟨i + 1, _, _, _, _, _, _, by omega, by go_num, rfl, rfl, T7.out, by rw [TA.out, TG.out]; simpa using A7.out⟩
            case measure => simp [intOf]; omega
          | false =>
            go_wp2_with (first | (clear mL; refine wpList_load_r rfl 47 _ rfl bk (off + i * 5) [.string N, .int .i64 F, .string B, .int .i64 C, .int .i64 U] rfl _ Try.underlying47 rfl sizeIt rg.out ?_) | (clear k4; refine wpList_alloc_v rfl 47 rfl _ zeroIt ?_; intro b9 u1 hb9 hw9 hBu1 W1; have A1 : Hid (Agd w u1 (.slice (some ⟨bk, off, none⟩) I.length cap) I (ageL (I.take i) now) (goneL (I.take i) now) (.slice ai ni ki) (.slice ag ng kg)) := A0.out.grow hBu1; have hzu := hBu1.size) | (clear k5; refine wpList_store_v rfl 47 _ _ rfl b9 [.string N, .int .i64 F, .string B, .int .i64 C, .int .i64 U] rfl rfl sizeIt W1 rfl (ic_one ⟨N, F, B, C, U⟩) ?_; intro u2 hOu2 W2; have A1b : Hid (Agd w u2 (.slice (some ⟨bk, off, none⟩) I.length cap) I (ageL (I.take i) now) (goneL (I.take i) now) (.slice ai ni ki) (.slice ag ng kg)) := A0.out.grow (hBu1.trans (hOu2.2.2 _ hb9))) | (clear k6; refine wpList_load_r rfl 47 _ rfl b9 0 [.string N, .int .i64 F, .string B, .int .i64 C, .int .i64 U] rfl _ Try.underlying47 rfl sizeIt W2.range ?_) | (go_at_call 45; refine (implOverAt_any N B F C U now _ hx _).mono ?_; rintro e w2 ⟨rfl, hB2⟩; have A2 : Hid (Agd w w2 (.slice (some ⟨bk, off, none⟩) I.length cap) I (ageL (I.take i) now) (goneL (I.take i) now) (.slice ai ni ki) (.slice ag ng kg)) := A1b.out.grow hB2; have W3 := vblk_grow W2 hB2; obtain ⟨r0, -, -, -, -⟩ := cells5 W3) | (clear k7; refine wpList_load_r rfl 47 _ rfl b9 0 [.string N, .int .i64 F, .string B, .int .i64 C, .int .i64 U] rfl _ Try.underlying47 rfl sizeIt W3.range ?_) | (at_builtin; refine wpList_append_g infoIt rfl _ _ 27 rfl Try.underlying27 w.heap.size _ _ (ageL (I.take i) now) rfl ((A2.out).grow (bAl _ _)).oi (by have := (A2.out).size; simp; omega) _ [⟨N, F, B, C, U⟩] rfl (rd_new (E := encIt) _ ⟨N, F, B, C, U⟩ #[.string N, .int .i64 F, .string B, .int .i64 C, .int .i64 U] rfl) (by simp; omega) ?_; intro v7 w7 o7 hT7; have A7 : Hid (Agd w w7 (.slice (some ⟨bk, off, none⟩) I.length cap) I (ageL (I.take i) now ++ [⟨N, F, B, C, U⟩]) (goneL (I.take i) now) v7 (.slice ag ng kg)) := ((A2.out).grow (bAl _ _)).appI R.out hT7 o7; obtain ⟨a7, n7, k7, rfl⟩ := o7.slice) | (fail))
            have T7 : Hid (Two2 w7 b1 b2 [.slice (some ⟨bk, off, none⟩) I.length cap, .int .i64 X]) := (((((VA.out.grow hBu1).only hOu2 hb9 VA.out.lt.1 VA.out.lt.2).grow hB2).grow (bAl _ _)).ty hT7 (by decide))
            go_roundw
            case rel => exact ⟨i + 1, _, _, _, _, _, _, by omega, by go_num, rfl, rfl, T7.out, by rw [TA.out, TG.out]; simpa using A7.out⟩
            case measure => simp [intOf]; omega
        · have hlt' : ¬ (i : Int) < (I.length : Int) := by omega
          have ei : I.take i = I := List.take_of_length_le (by omega)
          rw [ei] at A0
          obtain ⟨x2, y2, VB2⟩ := VA.out.b
          obtain ⟨p0, p1⟩ := cells2 VA.out.a
          clear A
          go_wp2_with (first | (refine wpList_store_v rfl 29 _ _ rfl b2 [.slice ai ni ki, .int .i64 X] rfl rfl sizeBk VB2 rfl (oneBk _ _ _ _) ?_; intro w9 hO9 V9) | (fail))
          exact row_ct rfl rfl rfl V9 Try.underlying29 sizeBk rfl ⟨.slice ai ni ki, .slice ag ng kg, rfl, (A0.out.oi.only hO9 VB2 (by decide)).top, (A0.out.og.only hO9 VB2 (by decide)).top, A0.out.b.trans (hO9.2.2 _ (by omega))⟩
end Go.Proofs.Ytcbhbpdlgibipaa.rg
