/- The laws' marks on whatever choice; whose names: NamesOf of both. -/
import Derived.Test.YtmnjmghlkiljhaaMg11
import Derived.Lib.SmallJoins
import Derived.Deep.Slices
import Derived.Deep.DeepCutAuto
namespace Go.Proofs.Ytmnjmghlkiljhaa.rg
open Go.ChangeShapes Go.WideShapes Go.ChangeAt Go.RowKit
open Go.Deep Go.Joins
open Go.Proofs.Ytmnjmghlkiljhaa.ce Go.Proofs.Ytmnjmghlkiljhaa.ro
set_option linter.unusedVariables false
set_option linter.unusedSimpArgs false

section
variable {ops : Array Oper} {rest : List Oper} {o : Oper} {a : Act} {w : World} {Q : Exit → Act → World → Prop}
theorem run_build0s {P : Program} (w : World) (t e : TypeId) (i : TypeInfo) (ht : P.underlying t = some (.slice e)) (hi : P.info? e = some i) : (Instr.buildSlice t 0 #[]).run P w = .ok (.slice (some ⟨w.heap.size, 0, none⟩) 0 0) (w.alloc (.cells #[] e)) := by
  simp [Instr.buildSlice, run_underlying ht, sizeOf, typeInfo, hi, Instr.fill, Result.andThen]
  rw [show Array.map (fun x => (default : Value)) (Array.range 0) = #[] from Array.eq_empty_of_size_eq_zero (by simp)]
  rfl
theorem wpList_build0s (hgd : o.guard = none) (t e : TypeId) (i : TypeInfo) (ho : o.op = .buildSlice t 0 #[]) (ht : Try.prog.underlying t = some (.slice e)) (hi : Try.prog.info? e = some i)
    (h : ∀ (b : Nat) (w' : World), Below w.heap.size w w' → wpList Try.prog ops Q rest (a.put o.dst (.slice (some ⟨b, 0, none⟩) 0 0)) w') : wpList Try.prog ops Q (o :: rest) a w := by
  refine wpList_val hgd (v := .slice (some ⟨w.heap.size, 0, none⟩) 0 0) (w' := w.alloc (.cells #[] e)) ?_ (h _ _ ((Below.refl _ _).alloc (Nat.le_refl _) _))
  simp [execOp, ho, run_build0s w t e i ht hi, Result.andThen]
end
theorem infoStrE : ∃ i, Try.prog.info? 9 = some i := by obtain ⟨i, z, h, -⟩ := infoS.ex; exact ⟨i, h⟩
/-- a choice full of marks -/
def mkA (c : Ch) : Ch := ⟨c.K, mkR c.R, smarks (1 + c.R.N.length + c.R.U.length) c.Q.length, sk.markR ((1 + c.R.N.length + c.R.U.length + c.Q.length : Nat) : Int) c.S, c.D⟩
/-- whose names are told -/
def nmC (c : Ch) : List ByteArray := if chB c = true then namesH ⟨c.K, c.R, c.Q⟩ else []
theorem chB_len {c : Ch} (h : chB c = true) : c.Q.length ≤ 1000000 ∧ c.R.N.length ≤ 1000000 := by
  unfold chB at h
  simp only [Bool.and_eq_true] at h
  obtain ⟨⟨⟨-, hr⟩, hq⟩, -⟩ := h
  have h1 := (namesB_iff.1 hq).2.2
  have h2 := (ringB_iff.1 hr).le
  omega
theorem nmC_cp (c : Ch) : nmC c = if (cpC c).K = 1 then (cpC c).R.N else (cpC c).Q := by
  unfold nmC cpC
  cases h : chB c with
  | false => rfl
  | true =>
    rw [if_pos rfl, if_pos rfl]
    unfold chB wayB at h
    simp only [Bool.and_eq_true, Bool.or_eq_true, decide_eq_true_eq] at h
    unfold namesH
    dsimp only
    rcases h.2 with ⟨k, -⟩ | ⟨k, -⟩
    · rw [if_neg (by omega), if_pos k]
    · rw [if_pos k, if_neg (by omega)]
set_option maxRecDepth 100000 in
set_option maxHeartbeats 4000000 in
theorem implNamesOf_any (c : Ch) (vN vU vQ vS : Value) (w : World) (h : RdC w vN vU vQ vS c) :
    Calls Try.prog 21 #[.agg #[.int .i64 c.K, vN, vU, .int .i64 c.R.A, vQ, vS, .int .i64 c.D]] w fun e w' => ∃ v, e = .returned v ∧ Own encS w' w.heap.size w'.heap.size v (nmC c) ∧ Below w.heap.size w w' := by
  rw [nmC_cp]
  obtain ⟨K, ⟨N, U, A⟩, Q, S, D⟩ := c
  obtain ⟨aN, cN, rfl⟩ := h.r.n.form
  obtain ⟨aU, cU, rfl⟩ := h.r.u.form
  obtain ⟨aQ, cQ, rfl⟩ := h.q.form
  obtain ⟨aS, cS, rfl⟩ := sk_form h.s

  have R : Hid (RdC w (.slice aN N.length cN) (.slice aU U.length cU) (.slice aQ Q.length cQ) (.slice aS S.length cS) ⟨K, ⟨N, U, A⟩, Q, S, D⟩) := h
  clear h
  obtain ⟨⟨K2, ⟨N2, U2, A2⟩, Q2, S2, D2⟩, hc2⟩ := hid_ex (cpC ⟨K, ⟨N, U, A⟩, Q, S, D⟩)
  obtain ⟨y, hy⟩ := hid_ex (chB ⟨K, ⟨N, U, A⟩, Q, S, D⟩)
  rw [hc2.out]
  dsimp only
  obtain ⟨X, hX⟩ := hid_ex (if K2 = 1 then N2 else Q2)
  rw [hX.out]
  go_enter Try.func21, Try.ntmps21
  go_upto_region 2 with (first | (refine wpList_box_v rfl 32 _ rfl [.int .i64 K, .slice aN N.length cN, .slice aU U.length cU, .int .i64 A, .slice aQ Q.length cQ, .slice aS S.length cS, .int .i64 D] rfl ?_; intro b1 w1 hb1 hw1 hB1 V1; obtain ⟨c10, c11, c12, c13, c14, c15, c16⟩ := cells7c V1; have hz1 := hB1.size) | (go_at_call 49; refine (implChoiceOf_any ⟨K, ⟨N, U, A⟩, Q, S, D⟩ _ _ _ _ _ (R.out.grow hB1)).mono ?_; rintro e w2 hP; unfold PostC at hP; rw [hc2.out, hy.out] at hP; obtain ⟨vN2, vU2, vQ2, vS2, rfl, oC, hB2⟩ := hP; dsimp only; obtain ⟨⟨aN2, nN2, kN2, rfl⟩, ⟨aU2, nU2, kU2, rfl⟩, ⟨aQ2, nQ2, kQ2, rfl⟩, ⟨aS2, nS2, kS2, rfl⟩⟩ := oC.forms; have hB12 := hB1.trans (hB2.mono hz1)) | (refine wpList_alloc_v rfl 32 rfl _ zeroCh ?_; intro b3 w3 hb3 hw3 hB3 V3; have hz12 := hB12.size; have hB13 := hB12.trans (hB3.mono hz12); replace oC := oC.grow hB3; have hz3 := hB3.size) | (refine wpList_store_v rfl 32 _ _ rfl b3 [.int .i64 K2, .slice aN2 nN2 kN2, .slice aU2 nU2 kU2, .int .i64 A2, .slice aQ2 nQ2 kQ2, .slice aS2 nS2 kS2, .int .i64 D2] rfl rfl sizeCh V3 rfl (by simp [Value.oneCell']) ?_; intro w4 hO4 V4; have hB14 := hB13.trans (hO4.2.2 _ (by omega)); replace oC := oC.off hO4 (by omega); obtain ⟨d0, d1, d2, d3, d4, d5, d6⟩ := cells7c V4; have hz4 := Nat.le_of_eq hO4.1.symm) | (fail))
  obtain ⟨⟨l1, h1, l2, h2, l3, h3, oR, oQ, oS, ⟨e1, e2, e3, e4, e5, e6⟩, e7, e8, e9⟩, sz⟩ := oC
  by_cases k1 : K2 = 1
  · have u1 : (K2 == 1) = true := by rw [k1]; rfl
    have eX : X = N2 := by rw [← hX.out, if_pos k1]
    clear k1 hX
    go_wp2
    go_ret
    exact ⟨_, rfl, by first | exact oR.n.wide (by omega) (by omega) | (rw [eX]; exact oR.n.wide (by omega) (by omega)), hB14⟩
  · have u1 : (K2 == 1) = false := by simpa using k1
    have eX : X = Q2 := by rw [← hX.out, if_neg k1]
    clear k1 hX
    go_wp2
    go_ret
    exact ⟨_, rfl, by first | exact oQ.wide (by omega) (by omega) | (rw [eX]; exact oQ.wide (by omega) (by omega)), hB14⟩
set_option maxRecDepth 100000 in
set_option maxHeartbeats 4000000 in
theorem l16Names_any (c : Ch) (vN vU vQ vS : Value) (w : World) (h : RdC w vN vU vQ vS c) (hl : c.Q.length ≤ 1000000 ∧ c.R.N.length ≤ 1000000) :
    Calls Try.prog 67 #[.agg #[.int .i64 c.K, vN, vU, .int .i64 c.R.A, vQ, vS, .int .i64 c.D]] w fun e w' => ∃ v, e = .returned v ∧ Own encS w' w.heap.size w'.heap.size v (namesH ⟨c.K, c.R, c.Q⟩) ∧ Below w.heap.size w w' := by
  obtain ⟨K, ⟨N, U, A⟩, Q, S, D⟩ := c
  obtain ⟨aN, cN, rfl⟩ := h.r.n.form
  obtain ⟨aU, cU, rfl⟩ := h.r.u.form
  obtain ⟨aQ, cQ, rfl⟩ := h.q.form
  obtain ⟨aS, cS, rfl⟩ := sk_form h.s

  have R : Hid (RdC w (.slice aN N.length cN) (.slice aU U.length cU) (.slice aQ Q.length cQ) (.slice aS S.length cS) ⟨K, ⟨N, U, A⟩, Q, S, D⟩) := h
  clear h
  obtain ⟨hlQ, hlN⟩ := hl
  dsimp only at hlQ hlN
  obtain ⟨iS, hiS⟩ := infoStrE
  unfold namesH
  dsimp only
  obtain ⟨X, hX⟩ := hid_ex (if K = 2 then Q else N)
  rw [hX.out]
  go_enter Try.func67, Try.ntmps67
  go_upto_region 1 with (first | (refine wpList_box_v rfl 32 _ rfl [.int .i64 K, .slice aN N.length cN, .slice aU U.length cU, .int .i64 A, .slice aQ Q.length cQ, .slice aS S.length cS, .int .i64 D] rfl ?_; intro b1 w1 hb1 hw1 hB1 V1; obtain ⟨c10, c11, c12, c13, c14, c15, c16⟩ := cells7c V1; have hz1 := hB1.size) | (fail))
  by_cases k2 : K = 2
  · have u2 : (K == 2) = true := by rw [k2]; rfl
    have eX : X = Q := by rw [← hX.out, if_pos k2]
    clear k2 hX
    go_wp2_with (first | (refine wpList_build0s rfl 24 _ iS rfl Try.underlying24 hiS ?_; intro bE w2 hB2; replace V1 := vblk_grow V1 hB2; clear c10 c11 c12 c13 c14 c15 c16; obtain ⟨c10, c11, c12, c13, c14, c15, c16⟩ := cells7c V1; have hBE := hB1.trans (hB2.mono hz1); have hzE := hBE.size) | (at_builtin; refine wpList_append_g infoS rfl _ _ 24 rfl Try.underlying24 w2.heap.size w2.heap.size _ [] rfl (own_zero _ _ _ _ _) (Nat.le_refl _) _ Q rfl (R.out.grow hBE).q (by simp; omega) ?_; intro v3 w3 o3 hT3; rw [List.nil_append] at o3; obtain ⟨a3, n3, k3, rfl⟩ := o3.slice; have hB3 := hT3.low) | (fail))
    go_ret
    exact ⟨_, rfl, by rw [eX]; exact o3.wide hzE (Nat.le_refl _), hBE.trans (hB3.mono hzE)⟩
  · have u2 : (K == 2) = false := by simpa using k2
    have eX : X = N := by rw [← hX.out, if_neg k2]
    clear k2 hX
    go_wp2_with (first | (refine wpList_build0s rfl 24 _ iS rfl Try.underlying24 hiS ?_; intro bE w2 hB2; replace V1 := vblk_grow V1 hB2; clear c10 c11 c12 c13 c14 c15 c16; obtain ⟨c10, c11, c12, c13, c14, c15, c16⟩ := cells7c V1; have hBE := hB1.trans (hB2.mono hz1); have hzE := hBE.size) | (at_builtin; refine wpList_append_g infoS rfl _ _ 24 rfl Try.underlying24 w2.heap.size w2.heap.size _ [] rfl (own_zero _ _ _ _ _) (Nat.le_refl _) _ N rfl (R.out.grow hBE).r.n (by simp; omega) ?_; intro v3 w3 o3 hT3; rw [List.nil_append] at o3; obtain ⟨a3, n3, k3, rfl⟩ := o3.slice; have hB3 := hT3.low) | (fail))
    go_ret
    exact ⟨_, rfl, by rw [eX]; exact o3.wide hzE (Nat.le_refl _), hBE.trans (hB3.mono hzE)⟩
set_option maxRecDepth 100000 in
set_option maxHeartbeats 4000000 in
theorem specNamesOf_any (c : Ch) (vN vU vQ vS : Value) (w : World) (h : RdC w vN vU vQ vS c) :
    Calls Try.prog 22 #[.agg #[.int .i64 c.K, vN, vU, .int .i64 c.R.A, vQ, vS, .int .i64 c.D]] w fun e w' => ∃ v, e = .returned v ∧ Own encS w' w.heap.size w'.heap.size v (nmC c) ∧ Below w.heap.size w w' := by
  obtain ⟨K, ⟨N, U, A⟩, Q, S, D⟩ := c
  obtain ⟨aN, cN, rfl⟩ := h.r.n.form
  obtain ⟨aU, cU, rfl⟩ := h.r.u.form
  obtain ⟨aQ, cQ, rfl⟩ := h.q.form
  obtain ⟨aS, cS, rfl⟩ := sk_form h.s

  have R : Hid (RdC w (.slice aN N.length cN) (.slice aU U.length cU) (.slice aQ Q.length cQ) (.slice aS S.length cS) ⟨K, ⟨N, U, A⟩, Q, S, D⟩) := h
  clear h
  obtain ⟨iS, hiS⟩ := infoStrE
  unfold nmC
  obtain ⟨y, hy⟩ := hid_ex (chB ⟨K, ⟨N, U, A⟩, Q, S, D⟩)
  rw [hy.out]
  cases y with
  | false =>
    go_enter Try.func22, Try.ntmps22
    go_wp2_with (first | (refine wpList_box_v rfl 32 _ rfl [.int .i64 K, .slice aN N.length cN, .slice aU U.length cU, .int .i64 A, .slice aQ Q.length cQ, .slice aS S.length cS, .int .i64 D] rfl ?_; intro b1 w1 hb1 hw1 hB1 V1; obtain ⟨c10, c11, c12, c13, c14, c15, c16⟩ := cells7c V1; have hz1 := hB1.size) | (go_at_call 19; refine (specChoiceOk_any ⟨K, ⟨N, U, A⟩, Q, S, D⟩ _ _ _ _ _ (R.out.grow hB1) false hy).mono ?_; rintro e w2 ⟨rfl, hB2⟩; have hB12 := hB1.trans (hB2.mono hz1); have hz2 := hB12.size) | (refine wpList_build0s rfl 24 _ iS rfl Try.underlying24 hiS ?_; intro bE w3 hB3) | (fail))
    go_ret
    exact ⟨_, rfl, own_zero _ _ _ _ _, hB12.trans (hB3.mono hz2)⟩
  | true =>
    have hl := chB_len hy.out
    go_enter Try.func22, Try.ntmps22
    go_wp2_with (first | (refine wpList_box_v rfl 32 _ rfl [.int .i64 K, .slice aN N.length cN, .slice aU U.length cU, .int .i64 A, .slice aQ Q.length cQ, .slice aS S.length cS, .int .i64 D] rfl ?_; intro b1 w1 hb1 hw1 hB1 V1; obtain ⟨c10, c11, c12, c13, c14, c15, c16⟩ := cells7c V1; have hz1 := hB1.size) | (go_at_call 19; refine (specChoiceOk_any ⟨K, ⟨N, U, A⟩, Q, S, D⟩ _ _ _ _ _ (R.out.grow hB1) true hy).mono ?_; rintro e w2 ⟨rfl, hB2⟩; replace V1 := vblk_grow V1 hB2; clear c10 c11 c12 c13 c14 c15 c16; obtain ⟨c10, c11, c12, c13, c14, c15, c16⟩ := cells7c V1; have hB12 := hB1.trans (hB2.mono hz1); have hz2 := hB12.size) | (go_at_call 67; refine (l16Names_any ⟨K, ⟨N, U, A⟩, Q, S, D⟩ _ _ _ _ _ (R.out.grow hB12) hl).mono ?_; rintro e w3 ⟨v3, rfl, o3, hB3⟩) | (fail))
    go_ret
    exact ⟨_, rfl, o3.wide hz2 (Nat.le_refl _), hB12.trans (hB3.mono hz2)⟩
theorem nmC_len {c : Ch} {X : List ByteArray} (h : nmC c = X) : X.length ≤ 1000000 := by
  subst h
  unfold nmC
  by_cases hb : chB c = true
  · rw [if_pos hb]
    have := chB_len hb
    unfold namesH
    split <;> (dsimp only; omega)
  · rw [if_neg hb]
    show (0 : Nat) ≤ _
    omega
end Go.Proofs.Ytmnjmghlkiljhaa.rg
