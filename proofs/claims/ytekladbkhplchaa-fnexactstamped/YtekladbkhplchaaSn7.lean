/- withoutItem; slices.Insert of one thing; withItem. -/
import Derived.Test.YtekladbkhplchaaSn6
import Derived.Test.YtekladbkhplchaaSn4
import Derived.Test.YtekladbkhplchaaSm1
import Derived.Lib.Overlaps
import Derived.Lib.AppendZerosOnto
namespace Go.Proofs.Ytekladbkhplchaa.rg
open Go.ChangeShapes Go.WideShapes Go.ChangeAt Go.RowKit
open Go.Deep Go.Joins
open Go.Proofs.Ytekladbkhplchaa.ce Go.Proofs.Ytekladbkhplchaa.ro
set_option linter.unusedVariables false

theorem srt_ext : ∀ {l m : List It}, Srt l → Srt m → (∀ x, x ∈ l ↔ x ∈ m) → l = m
  | [], [], _, _, _ => rfl
  | [], y :: m, _, _, h => by have := (h y).2 (List.mem_cons_self ..); simp at this
  | x :: l, [], _, _, h => by have := (h x).1 (List.mem_cons_self ..); simp at this
  | x :: l, y :: m, h1, h2, h => by
    obtain ⟨a1, a2⟩ := List.pairwise_cons.1 h1
    obtain ⟨b1, b2⟩ := List.pairwise_cons.1 h2
    have e : x = y := by
      rcases List.mem_cons.1 ((h x).1 (List.mem_cons_self ..)) with q | q
      · exact q
      · rcases List.mem_cons.1 ((h y).2 (List.mem_cons_self ..)) with r | r
        · exact r.symm
        · exact absurd rfl (ltS_ne (ltS_trans (b1 x q) (a1 y r)))
    subst e
    rw [srt_ext a2 b2 fun z => ?_]
    constructor
    · intro hz
      rcases List.mem_cons.1 ((h z).1 (List.mem_cons_of_mem _ hz)) with q | q
      · exact absurd rfl (ltS_ne (q ▸ a1 z hz))
      · exact q
    · intro hz
      rcases List.mem_cons.1 ((h z).2 (List.mem_cons_of_mem _ hz)) with q | q
      · exact absurd rfl (ltS_ne (q ▸ b1 z hz))
      · exact q
/-- put where it belongs among those of other names -/
theorem with_is {I : List It} (h : Srt I) (i : It) {k : Nat} (hk : k ≤ (dropL I i.N).length) (h1 : ∀ t (h : t < (dropL I i.N).length), t < k → ltS (dropL I i.N)[t].N i.N = true) (h2 : ∀ t (h : t < (dropL I i.N).length), k ≤ t → ltS (dropL I i.N)[t].N i.N = false) :
    (dropL I i.N).take k ++ i :: (dropL I i.N).drop k = putL I i := by
  have hd : Srt (dropL I i.N) := h.filter _
  have hm : ∀ x ∈ dropL I i.N, x.N ≠ i.N := fun x hx => of_decide_eq_true (List.mem_filter.1 hx).2
  have e1 := put_is (b := dropL I i.N) (k := k) (i := i) hk (fun x hx => by
    obtain ⟨t, ht, e⟩ := List.mem_iff_getElem.1 hx
    simp at ht e
    rw [← e]
    have ht2 : t < min k (dropL I i.N).length := by simpa using ht
    exact h1 t (by omega) (by omega)) (fun hk' => h2 k hk' (Nat.le_refl _))
  have e2 : bhd i.N ((dropL I i.N).drop k) = (dropL I i.N).drop k := by
    cases q : (dropL I i.N).drop k with
    | nil => rfl
    | cons y r =>
      have hy : y ∈ dropL I i.N := List.mem_of_mem_drop (q ▸ List.mem_cons_self ..)
      exact if_neg (hm y hy)
  rw [e2] at e1
  rw [e1]
  refine srt_ext (put_srt hd i) (put_srt h i) fun x => ?_
  rw [put_mem hd, put_mem h]
  constructor
  · rintro (q | ⟨q, r⟩)
    · exact .inl q
    · exact .inr ⟨(List.mem_filter.1 q).1, r⟩
  · rintro (q | ⟨q, r⟩)
    · exact .inl q
    · exact .inr ⟨List.mem_filter.2 ⟨q, decide_eq_true r⟩, r⟩
theorem stamp_iff {b : Bk} (h : StOk b) (i : It) : storeB (stampR b i) = stampOk b i := by
  cases q : stampOk b i with
  | true => exact storeB_iff.2 (stamp_ok h q).1
  | false =>
    cases r : storeB (stampR b i) with
    | false => rfl
    | true =>
      have ok := storeB_iff.1 r
      have hm : stampI b i ∈ putL b.I (stampI b i) := (put_mem h.bk.srt _ _).2 (.inl rfl)
      have h1 := ok.bk.1 _ hm
      have h2 : (putL b.I (stampI b i)).length ≤ 20 := ok.bk.2.2
      unfold stampOk at q
      rw [h1, Bool.true_and, decide_eq_false_iff_not] at q
      omega
set_option maxRecDepth 100000 in
set_option maxHeartbeats 1000000 in
theorem without_any (I : List It) (s : ByteArray) (v : Value) (w : World) (r : Rd encIt w v I) (hS : Srt I) (hl : I.length ≤ 1048576) :
    Calls Try.prog 64 #[v, .string s] w fun e w' => ∃ v', e = .returned v' ∧ Own encIt w' w.heap.size w'.heap.size v' (dropL I s) ∧ Below w.heap.size w w' := by
  obtain ⟨a, cap, rfl⟩ := r.form
  have R : Hid (Rd encIt w (.slice a I.length cap) I) := r
  have HS : Hid (Srt I) := hS
  clear r hS
  have V1 : VBlk (w.alloc (.cells #[.string s] 9)) w.heap.size 9 [.string s] := heap_alloc_new _ _
  have hB1 : Below w.heap.size w (w.alloc (.cells #[.string s] 9)) := (Below.refl _ _).alloc (Nat.le_refl _) _
  go_enter Try.func64, Try.ntmps64
  go_wp2_with (first
    | (go_at_call 69; refine (clone_any I _ _ (R.out.grow hB1) hl).mono ?_; rintro e w2 ⟨v2, rfl, o2, hB2⟩; have V2 := vblk_grow V1 hB2; have hz2 := hB2.size; have hz1 := hB1.size)
    | (go_at_call 81; refine (delete_any I s w.heap.size _ _ _ o2 V2 hz2 HS.out hl).mono ?_; rintro e w3 ⟨v3, rfl, o3, hT3⟩)
    | (fail))
  go_ret
  exact ⟨_, rfl, o3.wide hz1 (Nat.le_refl _), (hB1.trans (hB2.mono hz1)).trans (hT3.low.mono hz1)⟩
/-- the two blocks do not overlap -/
theorem over_no (w : World) (vb g o la ca lb cb : Nat) (hne : vb ≠ g) {t : TypeId} {vs : List Value} (V : VBlk w vb t vs) {k : Nat} (hsb : w.shape? g = some (35, k)) (hk : k ≠ 0) :
    (callFunc 85 #[.slice (some ⟨vb, 0, none⟩) la ca, .slice (some ⟨g, o, none⟩) lb cb]).run Try.prog w = .ok (.value (.bool false)) w := by
  have hz : ∀ w, (sizeOf 35).run Try.prog w = .ok 5 w := fun w => by
    obtain ⟨i, z, h1, -, h2, -⟩ := infoIt.ex
    have h3 : Try.prog.info? 35 = some i := h1
    have h4 : i.size = 5 := h2
    simp [sizeOf, typeInfo, h3, h4]
  have hsa : w.shape? vb = some (t, vs.length) := by
    have : w.heap[vb]? = some (.cells vs.toArray t (0, 0)) := V
    simp [World.shape?, this]
  rw [run_callFunc_extern Try.func85 (by kernel_rfl) (by kernel_rfl) (by kernel_rfl) (e := Extern.SlicesOverlaps.overlaps #[29, 29] #[4]) (by kernel_rfl),
    Lib.run_overlaps_apart w 29 4 35 Try.underlying29 5 hz ⟨vb, 0, none⟩ ⟨g, o, none⟩ la ca lb cb hne t 35 vs.length k hsa hsb hk (V.frozen _) (V.frozen _)]
  rfl
set_option maxRecDepth 100000 in
set_option maxHeartbeats 4000000 in
theorem insert_any (I : List It) (i : It) (k vb lo : Nat) (v : Value) (w : World) (o : Own encIt w lo vb v I) (V : VBlk w vb 35 (ic i)) (hlo : lo ≤ vb) (hk : k ≤ I.length) (hl : I.length ≤ 1048576) :
    Calls Try.prog 68 #[v, .int .i64 k, .slice (some ⟨vb, 0, none⟩) 1 1] w fun e w' => ∃ v', e = .returned v' ∧ Own encIt w' lo w'.heap.size v' (I.take k ++ i :: I.drop k) ∧ Ty lo 35 w w' := by
  have hvl := V.lt
  have hvr : Rd encIt w (.slice (some ⟨vb, 0, none⟩) 1 1) [i] := ⟨_, 1, rfl, Nat.le_refl _, by unfold maxLen; omega, fun _ => ⟨vb, 0, rfl, V.lt, by rw [encIt.row_one']; exact V.range⟩⟩
  have HV : Hid (VBlk w vb 35 (ic i)) := V
  have HR : Hid (Rd encIt w (.slice (some ⟨vb, 0, none⟩) 1 1) [i]) := hvr
  have O : Hid (Own encIt w lo vb v I) := o
  clear V hvr
  by_cases hkn : k = I.length
  · subst hkn
    rw [List.take_of_length_le (Nat.le_refl _), List.drop_of_length_le (Nat.le_refl _)]
    obtain ⟨a, cap, rfl⟩ := o.rd.form
    have hcp := o.rd.cap
    clear o
    have h1 : ((I.length : Int) == (I.length : Int)) = true := by simp
    have h2 : (I.length : Int) ≤ (cap : Int) := by omega
    go_enter Try.func68, Try.ntmps68
    cases a with
    | none =>
      go_wp2_with (first | (at_builtin; refine wpList_append_g infoIt rfl _ _ 29 rfl Try.underlying29 lo _ _ I rfl O.out (by omega) _ [i] rfl HR.out (by simp; omega) ?_; intro v4 w4 o4 hT4) | (fail))
      go_ret
      exact ⟨_, rfl, o4, hT4⟩
    | some ad =>
      obtain ⟨ab, ao, asp⟩ := ad
      go_wp2_with (first | (at_builtin; refine wpList_append_g infoIt rfl _ _ 29 rfl Try.underlying29 lo _ _ I rfl O.out (by omega) _ [i] rfl HR.out (by simp; omega) ?_; intro v4 w4 o4 hT4) | (fail))
      all_goals
        go_ret
        exact ⟨_, rfl, o4, hT4⟩
  · have hkn' : k < I.length := by omega
    have hne : I ≠ [] := fun e => by rw [e] at hkn'; simp at hkn'
    obtain ⟨g, cap, rfl, hg1, hg2, -⟩ := o.form (by omega)
    obtain ⟨r0, -, -⟩ := o.at hne
    have hcap := r0.le
    have hmx : cap ≤ 9223372036854775807 := by have := r0.cap; unfold maxLen at this; exact this
    have R0 : Hid (RowAt encIt w g cap I) := r0
    obtain ⟨n, hn⟩ := hid_ex I.length
    rw [hn.out] at hkn' hcap hl ⊢
    obtain ⟨n1, hn1⟩ : ∃ n1, Hid (n1 = n + 1) := ⟨_, rfl⟩
    obtain ⟨k1, hk1⟩ : ∃ k1, Hid (k1 = k + 1) := ⟨_, rfl⟩
    have hn1' := hn1.out
    have hk1' := hk1.out
    have e1 : ((k : Int) == (n : Int)) = false := by first | (simp; done) | (simp; omega)
    have w1 : IntKind.i64.wrap ((n : Int) + 1) = (n1 : Int) := by rw [IntKind.wrap_i64]; omega
    have w2 : IntKind.i64.wrap ((k : Int) + 1) = (k1 : Int) := by rw [IntKind.wrap_i64]; omega
    have b1 : (k : Int) ≤ (n : Int) := by omega
    have b2 : (n : Int) ≤ (cap : Int) := by omega
    have b3 : (k : Int) ≤ (cap : Int) := by omega
    have b4 : (k1 : Int) ≤ (n1 : Int) := by omega
    have b5 : (k : Int) ≤ (n1 : Int) := by omega
    have b6 : (k1 : Int) ≤ (n : Int) := by omega
    have b7 : k ≤ n := by omega
    have b8 : n ≤ cap := by omega
    have b9 : ¬ cap = k := by omega
    have hlD : Hid ((I.drop k).length = n - k) := by unfold Hid; rw [List.length_drop, hn.out]
    have hlT : Hid ((I.take k).length = k) := by unfold Hid; rw [List.length_take, hn.out]; omega
    have HG : Hid (vb ≠ g) := by unfold Hid; omega
    clear o r0 hne hk hkn hmx
    by_cases hroom : n1 ≤ cap
    · have c1 : ¬ ((cap : Int) < (n1 : Int)) := by omega
      have c2 : (n1 : Int) ≤ (cap : Int) := by omega
      have c3 : (k1 : Int) ≤ (cap : Int) := by omega
      have c4 : ¬ cap = k1 := by omega
      have hD : Below w.heap.size w w.drew := (Below.refl _ _).drew
      have RD := R0.out.grow hD
      have r1 := RD.write k1 (by rw [hn.out]; omega) (I.drop k) (by rw [hlD.out]; omega)
      have r2 := r1.write k (by simp only [List.length_append, List.length_take, hlD.out, hn.out]; omega) [i] (by simp; omega)
      obtain ⟨t1, t2, t3⟩ := R0.out.there
      obtain ⟨d1, d2, d3⟩ := RD.there
      obtain ⟨W1, hW1⟩ : ∃ W1, Hid (w.drew.setCells g (k1 * encIt.k) (encIt.row (I.drop k)) = W1) := ⟨_, rfl⟩
      rw [hW1.out] at r1 r2
      obtain ⟨s1, s2, s3⟩ := r1.there
      obtain ⟨W2, hW2⟩ : ∃ W2, Hid (W1.setCells g (k * encIt.k) (encIt.row [i]) = W2) := ⟨_, rfl⟩
      rw [hW2.out] at r2
      have hO1 : Only g w.drew W1 := by rw [← hW1.out]; exact only_setCells _ _ _ _
      have hO2 : Only g W1 W2 := by rw [← hW2.out]; exact only_setCells _ _ _ _
      have hT : Hid (Ty lo 35 w W2) := ((Ty.of_below hD (by omega)).trans (RD.ty hg1 hO1)).trans (r1.ty hg1 hO2)
      have ec : ((I.take k1 ++ I.drop k ++ I.drop (k1 + (I.drop k).length)).take k ++ [i] ++ (I.take k1 ++ I.drop k ++ I.drop (k1 + (I.drop k).length)).drop (k + [i].length)) = I.take k ++ i :: I.drop k := by
        have h0 : I.drop (k1 + (I.drop k).length) = [] := List.drop_of_length_le (by rw [hlD.out, hn.out]; omega)
        have h1 : (I.take k1).length = k1 := by rw [List.length_take, hn.out]; omega
        have h2 : (I.take k1).drop k1 = [] := List.drop_of_length_le (by omega)
        rw [h0, List.append_nil, List.take_append_of_le_length (by omega), List.take_take, Nat.min_eq_left (by omega), List.length_singleton, ← hk1', List.drop_append_of_le_length (by omega), h2, List.nil_append, List.append_assoc]
        rfl
      rw [ec] at r2
      have O2 : Hid (Own encIt W2 lo W2.heap.size (.slice (some ⟨g, 0, none⟩) n1 cap) (I.take k ++ i :: I.drop k)) := r2.own hg1 r2.lt (by rw [List.length_append, List.length_cons, hlD.out, hlT.out]; omega)
      have hcp1 : ∀ ty dc sc, (Builtin.copy_ #[29, 29] ty #[.slice (some ⟨g, k1 * 5, none⟩) (n1 - k1) dc, .slice (some ⟨g, k * 5, none⟩) (n1 - k) sc]).run Try.prog w.drew = .ok (goInt (I.drop k).length) W1 := fun ty dc sc => by
        rw [← hW1.out]
        exact run_copy_e (E := encIt) w.drew 29 29 ty Try.underlying29 sizeIt g (k1 * 5) (n1 - k1) dc g (k * 5) (n1 - k) sc (I.drop k) (by rw [hlD.out]; show _ = min _ _; omega) (RD.range k (by rw [hn.out]; omega)) (fun q hq => d1 _ (by rw [hlD.out] at hq; have hq' : q < (n - k) * 5 := hq; show _ < cap * 5; omega)) d2
      have hrv : w.drew.rangeAt vb 0 (ic i) := (HV.out.of rfl).range
      have hcp2 : ∀ ty dc, (Builtin.copy_ #[29, 29] ty #[.slice (some ⟨g, k * 5, none⟩) (n1 - k) dc, .slice (some ⟨vb, 0, none⟩) 1 1]).run Try.prog W1 = .ok (goInt 1) W2 := fun ty dc => by
        rw [← hW2.out]
        exact run_copy_e (E := encIt) W1 29 29 ty Try.underlying29 sizeIt g (k * 5) (n1 - k) dc vb 0 1 1 [i] (by show _ = min _ _; simp; omega) (by rw [encIt.row_one']; exact range_of hrv (hO1.2.1 vb HG.out)) (fun q hq => s1 _ (by have hq' : q < 1 * 5 := hq; show _ < cap * 5; omega)) s2
      have hov : ∀ lb cb, (callFunc 85 #[.slice (some ⟨vb, 0, none⟩) 1 1, .slice (some ⟨g, k1 * 5, none⟩) lb cb]).run Try.prog w = .ok (.value (.bool false)) w := fun lb cb => over_no w vb g (k1 * 5) 1 1 lb cb HG.out HV.out t3 (by have : encIt.k = 5 := rfl; rw [this]; omega)
      clear hn1' hk1' t1 t2 t3 d1 d2 d3 s1 s2 s3 r1 r2 RD hD ec hO1 hO2 hrv
      go_enter Try.func68, Try.ntmps68
      go_wp2_with (simp only [hov])
      go_region_law (refine step_cp rfl _ _ 29 29 rfl _ _ (by simp [Act.eval, Act.put]) (by simp [Act.eval, Act.put]) (hcp1 _ _ _) ?_)
      go_wp2_with (at_builtin; refine wpList_cp rfl _ _ 29 29 rfl _ _ rfl rfl (hcp2 _ _) ?_)
      go_ret
      exact ⟨_, rfl, O2.out, hT.out⟩
    · have c1 : (cap : Int) < (n1 : Int) := by omega
      have hcn : cap = n := by omega
      obtain ⟨q, hq⟩ : ∃ q, Hid (q = n1 - k) := ⟨_, rfl⟩
      have hqo := hq.out
      have w3 : IntKind.i64.wrap ((n1 : Int) - (k : Int)) = (q : Int) := by rw [IntKind.wrap_i64]; omega
      obtain ⟨i0, z, hi0, hz0, hz1, hz2, hz3⟩ := infoIt.ex
      have hz1' : i0.size = 5 := hz1
      have hz3' : z.cells.size = 5 := hz3
      have hhd : (encIt.row (I.take k)).length = k * 5 := by rw [encIt.row_len, hlT.out]; rfl
      have hold : (Builtin.firstCells i0.size k (.slice (some ⟨g, 0, none⟩) k cap)).run Try.prog w.drew = .ok (encIt.row (I.take k)).toArray w.drew := by
        rw [hz1']
        exact run_firstCells_some (w := w.drew) 5 k ⟨g, 0, none⟩ k cap (encIt.row (I.take k)) hhd (fun j v hv => by rw [Addr.add_mid]; exact (R0.out.grow (Below.refl _ _).drew).head k j v hv)
      have hap : ∀ ty, (Builtin.append_ #[29, 3] ty #[.slice (some ⟨g, 0, none⟩) k cap, .int .i64 (q : Int)]).run Try.prog w = _ := fun ty =>
        Lib.run_append_grow_zeros w 29 3 ty 35 i0 z .i64 .i64 Try.underlying29 Try.underlying3 hi0 hz0 (some ⟨g, 0, none⟩) k cap _ hold q (by omega) (by omega) (by omega) (by omega) (by have := Nat.mul_le_mul hz2 (show q ≤ 1048577 by omega); rw [Nat.mul_comm]; omega) (growslice_fits (by omega) (by have := Nat.mul_le_mul hz2 (show k + q ≤ 1048577 by omega); rw [Nat.mul_comm]; omega))
      have hG1 : k + q ≤ grownCap w (k + q) cap 35 := grownCap_ge w _ _ _
      have hG2 := grownCap_le_maxLen w (k + q) cap 35 (by unfold maxLen; omega)
      obtain ⟨G, hG⟩ : ∃ G, grownCap w (k + q) cap 35 = G := ⟨_, rfl⟩
      obtain ⟨Z, hZ⟩ : ∃ Z, (encIt.row (I.take k)).toArray ++ Builtin.zeroCells z.cells q ++ Builtin.zeroCells z.cells (G - (k + q)) = Z := ⟨_, rfl⟩
      rw [hG] at hap hG1 hG2
      rw [hZ] at hap
      have hkq : k + q = n1 := by omega
      rw [hkq] at hap hG1
      have hZs : Z.size = G * 5 := by rw [← hZ]; simp [size_zeroCells, hz3', hhd]; omega
      have hZt : Z.toList.take (k * 5) = encIt.row (I.take k) := by
        rw [← hZ]
        simp only [Array.toList_append, List.append_assoc]
        rw [List.take_append_of_le_length (by rw [hhd]; exact Nat.le_refl _), List.take_of_length_le (by rw [hhd]; exact Nat.le_refl _)]
      obtain ⟨WA, hWA⟩ : ∃ WA, Hid (w.drew.alloc (.cells Z 35) = WA) := ⟨_, rfl⟩
      obtain ⟨h0, hh0⟩ : ∃ h0, Hid (w.heap.size = h0) := ⟨_, rfl⟩
      have hBA : Below w.heap.size w WA := by rw [← hWA.out]; exact (Below.refl _ _).drew.alloc (Nat.le_refl _) _
      have ra : RowAt encIt WA h0 G (I.take k) := ⟨⟨Z, by rw [← hWA.out, ← hh0.out]; exact heap_alloc_new w.drew _, hZs, by rw [hlT.out]; exact hZt⟩, by rw [hlT.out]; omega, hG2⟩
      have hap2 : ∀ ty, (Builtin.append_ #[29, 3] ty #[.slice (some ⟨g, 0, none⟩) k cap, .int .i64 (q : Int)]).run Try.prog w = .ok (.slice (some ⟨h0, 0, none⟩) n1 G) WA := fun ty => by rw [hap ty, hWA.out, hh0.out]
      have RA := R0.out.grow hBA
      have hh1 : h0 = w.heap.size := hh0.out.symm
      have hgh : g ≠ h0 := by have := R0.out.lt; omega
      have r1 := ra.write k (by rw [hlT.out]; exact Nat.le_refl _) [i] (by simp; omega)
      rw [show (I.take k).take k ++ [i] ++ (I.take k).drop (k + [i].length) = I.take k ++ [i] by rw [List.take_take, Nat.min_self, List.drop_of_length_le (by rw [hlT.out]; simp), List.append_nil]] at r1
      obtain ⟨W1, hW1⟩ : ∃ W1, Hid (WA.setCells h0 (k * encIt.k) (encIt.row [i]) = W1) := ⟨_, rfl⟩
      rw [hW1.out] at r1
      have hO1 : Only h0 WA W1 := by rw [← hW1.out]; exact only_setCells _ _ _ _
      have hD1 : Below W1.heap.size W1 W1.drew := (Below.refl _ _).drew
      have rd1 := r1.grow hD1
      have hl1 : (I.take k ++ [i]).length = k1 := by rw [List.length_append, hlT.out]; simp; omega
      have hl9 : (I.take k ++ [i]).drop (k1 + (I.drop k).length) = [] := List.drop_of_length_le (by rw [hl1]; omega)
      have r2 := rd1.write k1 (by rw [hl1]; exact Nat.le_refl _) (I.drop k) (by rw [hlD.out]; omega)
      rw [show (I.take k ++ [i]).take k1 ++ I.drop k ++ (I.take k ++ [i]).drop (k1 + (I.drop k).length) = I.take k ++ i :: I.drop k by rw [List.take_of_length_le (by rw [hl1]; exact Nat.le_refl _), hl9, List.append_nil, List.append_assoc]; rfl] at r2
      obtain ⟨W2, hW2⟩ : ∃ W2, Hid (W1.drew.setCells h0 (k1 * encIt.k) (encIt.row (I.drop k)) = W2) := ⟨_, rfl⟩
      rw [hW2.out] at r2
      have hO2 : Only h0 W1.drew W2 := by rw [← hW2.out]; exact only_setCells _ _ _ _
      have hT : Hid (Ty lo 35 w W2) := (((Ty.of_below hBA (by omega)).trans (ra.ty (by omega) hO1)).trans (Ty.of_below hD1 (by have := hO1.1; have := hBA.size; omega))).trans (rd1.ty (by omega) hO2)
      have O2 : Hid (Own encIt W2 lo W2.heap.size (.slice (some ⟨h0, 0, none⟩) n1 G) (I.take k ++ i :: I.drop k)) := r2.own (by omega) r2.lt (by rw [List.length_append, List.length_cons, hlD.out, hlT.out]; omega)
      obtain ⟨s1, s2, s3⟩ := ra.there
      obtain ⟨d1, d2, d3⟩ := rd1.there
      have hcp1 : ∀ ty dc, (Builtin.copy_ #[29, 29] ty #[.slice (some ⟨h0, k * 5, none⟩) (n1 - k) dc, .slice (some ⟨vb, 0, none⟩) 1 1]).run Try.prog WA = .ok (goInt 1) W1 := fun ty dc => by
        rw [← hW1.out]
        exact run_copy_e (E := encIt) WA 29 29 ty Try.underlying29 sizeIt h0 (k * 5) (n1 - k) dc vb 0 1 1 [i] (by show _ = min _ _; simp; omega) (by rw [encIt.row_one']; exact (vblk_grow HV.out hBA).range) (fun q hq => s1 _ (by have hq' : q < 1 * 5 := hq; show _ < G * 5; omega)) s2
      have hcp2 : ∀ ty dc sc, (Builtin.copy_ #[29, 29] ty #[.slice (some ⟨h0, k1 * 5, none⟩) (n1 - k1) dc, .slice (some ⟨g, k * 5, none⟩) (n - k) sc]).run Try.prog W1.drew = .ok (goInt (I.drop k).length) W2 := fun ty dc sc => by
        rw [← hW2.out]
        exact run_copy_e (E := encIt) W1.drew 29 29 ty Try.underlying29 sizeIt h0 (k1 * 5) (n1 - k1) dc g (k * 5) (n - k) sc (I.drop k) (by rw [hlD.out]; show _ = min _ _; omega) (range_of (RA.range k (by rw [hn.out]; omega)) (hO1.2.1 g hgh)) (fun q hq => d1 _ (by rw [hlD.out] at hq; have hq' : q < (n - k) * 5 := hq; show _ < G * 5; omega)) d2
      have c2 : (n1 : Int) ≤ (G : Int) := by omega
      have c3 : (k : Int) ≤ (G : Int) := by omega
      have c4 : (k1 : Int) ≤ (G : Int) := by omega
      have c5 : ¬ G = k := by omega
      have c6 : ¬ G = k1 := by omega
      clear hn1' hk1' s1 s2 s3 d1 d2 d3 r1 r2 ra rd1 RA hO1 hO2 hD1 hBA hold hap hZ hZs hZt hG hG1 hG2 hl1 hl9 hgh hkq hqo hhd hi0 hz0 hz1 hz2 hz3 hz1' hz3' hh1 hcn
      go_enter Try.func68, Try.ntmps68
      go_wp2_with (first | (at_builtin; refine Lib.wpList_append_run _ rfl _ _ _ _ rfl _ _ rfl rfl _ _ (hap2 _) ?_) | (at_builtin; refine wpList_cp rfl _ _ 29 29 rfl _ _ rfl rfl (hcp1 _ _) ?_) | (fail))
      go_region_law (refine step_cp rfl _ _ 29 29 rfl _ _ (by simp [Act.eval, Act.put]) (by simp [Act.eval, Act.put]) (hcp2 _ _ _) ?_)
      go_wp2
      go_ret
      exact ⟨_, rfl, O2.out, hT.out⟩
end Go.Proofs.Ytekladbkhplchaa.rg
