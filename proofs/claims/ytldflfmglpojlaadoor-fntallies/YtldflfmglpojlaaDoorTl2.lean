/- Contracts of chapter 15, the program's: which sums become more, and by how much. -/
import Derived.Test.YtldflfmglpojlaaDoorTl1
namespace Go.Proofs.YtldflfmglpojlaaDoor.rg
open Go.ChangeShapes Go.WideShapes Go.ChangeAt Go.RowKit
open Go.Deep Go.Joins
open Go.Proofs.YtldflfmglpojlaaDoor.ce Go.Proofs.YtldflfmglpojlaaDoor.ro Go.Proofs.YtldflfmglpojlaaDoor.cm
set_option linter.unusedVariables false

theorem bAl3 (w : World) (o : Obj) : Below w.heap.size w (w.alloc o) := (Below.refl _ _).alloc (Nat.le_refl _) _
theorem only_refl (b : Nat) (w : World) : Only b w w := ⟨rfl, fun _ _ => rfl, fun _ _ => Below.refl _ _⟩
theorem only_trans {b : Nat} {x y z : World} (h : Only b x y) (k : Only b y z) : Only b x z := ⟨k.1.trans h.1, fun j hj => (k.2.1 j hj).trans (h.2.1 j hj), fun B hB => (h.2.2 B hB).trans (k.2.2 B hB)⟩
/-- a row of headings -/
def csH (x : Int) : List Value := [.int .i64 x]
theorem oneH (x : Int) : ∀ v ∈ csH x, v.oneCell' = true := by
  intro v hv
  simp only [csH, List.mem_cons, List.not_mem_nil, or_false] at hv
  subst hv; rfl
def encH : Enc Int := ⟨csH, 1, 60, fun _ => rfl, oneH, by decide⟩
theorem infoH : Info encH := by
  have h : (Tryd.prog.info? 60).map (fun i => (i.zero, i.size, i.bytes)) = some (some (Value.int .i64 0), 1, 8) := by kernel_rfl
  obtain ⟨i, hi, hz⟩ := Option.map_eq_some_iff.1 h
  simp only [Prod.mk.injEq] at hz
  exact ⟨i, _, hi, hz.1, hz.2.1, by omega, rfl⟩
/-- which sums become more -/
def hdV (V : Int) : List Int := if V = 1 ∨ V = 2 then [0] else []
def hdK (K : Int) : List Int := if K = 5 then [1] else if K = 1 ∨ K = 6 then [2] else []
def raise1 (l : List (Int × Int)) (x : Int) : List (Int × Int) := if (mget l x).isSome = true then mset l x (min ((mget l x).getD 0 + 1) 1000000000) else l
def rsL (l : List (Int × Int)) (xs : List Int) : List (Int × Int) := xs.foldl raise1 l
def InR (l : List (Int × Int)) : Prop := ∀ p ∈ l, 0 ≤ p.2 ∧ p.2 ≤ 1000000000
theorem mset_in : ∀ (l : List (Int × Int)) (x y : Int), InR l → 0 ≤ y ∧ y ≤ 1000000000 → InR (mset l x y)
  | [], x, y, _, hy => fun p hp => by rw [mset, List.mem_singleton] at hp; subst hp; exact hy
  | (k, v) :: l, x, y, h, hy => by
    intro p hp
    rw [mset] at hp
    split at hp
    · rcases List.mem_cons.1 hp with rfl | hp
      · exact hy
      · exact h p (List.mem_cons_of_mem _ hp)
    · rcases List.mem_cons.1 hp with rfl | hp
      · exact h _ (List.mem_cons_self ..)
      · exact mset_in l x y (fun q hq => h q (List.mem_cons_of_mem _ hq)) hy p hp
theorem mget_in : ∀ (l : List (Int × Int)) (x y : Int), InR l → mget l x = some y → 0 ≤ y ∧ y ≤ 1000000000
  | [], x, y, _, h => by simp [mget] at h
  | (k, v) :: l, x, y, h, hg => by
    rw [mget] at hg
    split at hg
    · cases hg; exact h _ (List.mem_cons_self ..)
    · exact mget_in l x y (fun q hq => h q (List.mem_cons_of_mem _ hq)) hg
theorem mget_in0 (l : List (Int × Int)) (x : Int) (h : InR l) : 0 ≤ (mget l x).getD 0 ∧ (mget l x).getD 0 ≤ 1000000000 := by
  cases hg : mget l x with
  | none => simp
  | some y => simpa using mget_in l x y h hg
theorem raise_in (l : List (Int × Int)) (x : Int) (h : InR l) : InR (raise1 l x) := by
  unfold raise1
  have := mget_in0 l x h
  split
  · exact mset_in l x _ h (by omega)
  · exact h
theorem rsL_in (l : List (Int × Int)) (xs : List Int) (h : InR l) : InR (rsL l xs) := by
  induction xs generalizing l with
  | nil => exact h
  | cons x xs ih => exact ih _ (raise_in l x h)
theorem rsL_snoc (l : List (Int × Int)) (xs : List Int) (x : Int) : rsL l (xs ++ [x]) = raise1 (rsL l xs) x := by unfold rsL; rw [List.foldl_append]; rfl
theorem ent_in (t : Tl) : InR (entR t) := by
  unfold entR
  split
  · rename_i h
    have k := tallyB_iff.1 h
    intro p hp
    simp only [ent, List.mem_cons, List.not_mem_nil, or_false] at hp
    rcases hp with rfl | rfl | rfl | rfl | rfl
    · exact k.a
    · exact k.h
    · exact k.s
    · exact k.d
    · exact k.o
  · intro p hp; simp at hp
theorem rs_nil (xs : List Int) : rsL [] xs = [] := by
  induction xs with
  | nil => rfl
  | cons x xs ih => exact ih
theorem rs_ent (t : Tl) (c : Cm) (r : Rp) : rsL (entR t) (hdV c.V ++ hdK r.K) = if tallyB t = true then ent (cntT t c r) else [] := by
  unfold entR
  by_cases h : tallyB t = true
  · rw [if_pos h, if_pos h]
    obtain ⟨A, H, S, D, O⟩ := t
    unfold hdV hdK cntT getV keptK ent
    by_cases a1 : c.V = 1 ∨ c.V = 2
    · have g1 : (decide (c.V = 1) || decide (c.V = 2)) = true := by simpa using a1
      rw [if_pos a1, g1]
      by_cases a2 : r.K = 5
      · simp [a2, rsL, raise1, mget, mset, more_is, Int.min_comm]
      · by_cases a3 : r.K = 1 ∨ r.K = 6
        · have g3 : (decide (r.K = 1) || decide (r.K = 6)) = true := by simpa using a3
          rw [if_neg a2, if_pos a3, g3]
          simp [a2, rsL, raise1, mget, mset, more_is, Int.min_comm]
        · have g3 : (decide (r.K = 1) || decide (r.K = 6)) = false := by simpa using a3
          rw [if_neg a2, if_neg a3, g3]
          simp [a2, rsL, raise1, mget, mset, more_is, Int.min_comm]
    · have g1 : (decide (c.V = 1) || decide (c.V = 2)) = false := by simpa using a1
      rw [if_neg a1, g1]
      by_cases a2 : r.K = 5
      · simp [a2, rsL, raise1, mget, mset, more_is, Int.min_comm]
      · by_cases a3 : r.K = 1 ∨ r.K = 6
        · have g3 : (decide (r.K = 1) || decide (r.K = 6)) = true := by simpa using a3
          rw [if_neg a2, if_pos a3, g3]
          simp [a2, rsL, raise1, mget, mset, more_is, Int.min_comm]
        · have g3 : (decide (r.K = 1) || decide (r.K = 6)) = false := by simpa using a3
          rw [if_neg a2, if_neg a3, g3]
          simp [a2, rsL]
  · rw [if_neg h, if_neg h]
    exact rs_nil _
set_option maxRecDepth 100000 in
set_option maxHeartbeats 2000000 in
theorem raise_any (l : List (Int × Int)) (hl : InR l) (b : Nat) (xs : List Int) (v : Value) (w : World) (M : MapL w b l) (r : Rd encH w v xs) :
    Calls Tryd.prog 18 #[.map (some b), v] w fun e w' => e = .returned (.tuple #[]) ∧ MapL w' b (rsL l xs) ∧ Only b w w' := by
  obtain ⟨a, cap, rfl⟩ := r.form
  have R : Hid (Rd encH w (.slice a xs.length cap) xs) := r
  have MM : Hid (MapL w b l) := M
  have HL : Hid (InR l) := hl
  have hbw := M.lt
  have hlen := r.len
  clear r M hl
  go_enter Tryd.func18, Tryd.ntmps18
  go_wp2
  go_loopw [10] (fun iv wr => ∃ i : Nat, i ≤ xs.length ∧ iv = .int .i64 i ∧ MapL wr b (rsL l (xs.take i)) ∧ Only b w wr) (fun iv _ => xs.length - (intOf iv).toNat)
  case atStart => exact ⟨0, by omega, rfl, by simpa [rsL] using MM.out, only_refl _ _⟩
  case round =>
    obtain ⟨i, hi, rfl, M0, hO⟩ := hrel
    have MR : Hid (MapL wr b (rsL l (xs.take i))) := M0
    clear M0
    by_cases hlt : i < xs.length
    · have hlt' : (i : Int) < (xs.length : Int) := by omega
      have RR : Rd encH wr (.slice a xs.length cap) xs := by
        obtain ⟨a', cap', e, h1, h2, h3⟩ := R.out.fits
        cases e
        refine ⟨a, cap, rfl, h1, h2, fun hn => ?_⟩
        obtain ⟨g, off, e2, h4, h5⟩ := h3 hn
        have hg : g ≠ b := fun eg => by
          obtain ⟨es, c, hb, -⟩ := MM.out
          have := h5 0 _ (by rw [show (0 : Nat) = 0 * encH.k + 0 from rfl, encH.row_get xs 0 0 (by omega) (by decide)]; rfl)
          rw [eg] at this
          simp [World.cell?, hb] at this
        exact ⟨g, off, e2, by rw [hO.1]; exact h4, range_of h5 (hO.2.1 g hg)⟩
      obtain ⟨bk, off, rfl, hbk, cx0⟩ := RR.cell i 0 hlt (by decide)
      obtain ⟨x, hx⟩ := hid_ex (xs[i])
      have cx : wr.cell? ⟨bk, off + i, none⟩ = some (.int .i64 x) := by rw [← hx.out]; simpa [encH, csH] using cx0
      clear cx0
      have hin := mget_in0 _ x (rsL_in l (xs.take i) HL.out)
      obtain ⟨n, hn⟩ := hid_ex ((mget (rsL l (xs.take i)) x).getD 0)
      rw [hn.out] at hin
      have hst : Hid (rsL l (xs.take (i + 1)) = if (mget (rsL l (xs.take i)) x).isSome = true then mset (rsL l (xs.take i)) x (min (n + 1) 1000000000) else rsL l (xs.take i)) := by
        unfold Hid
        rw [List.take_succ_eq_append_getElem hlt, rsL_snoc, hx.out, raise1, hn.out]
      obtain ⟨z, hz⟩ := hid_ex ((mget (rsL l (xs.take i)) x).isSome)
      rw [hz.out] at hst
      have hwr : IntKind.i64.wrap (n + 1) = n + 1 := by rw [IntKind.wrap_i64]; omega
      have m1 : Hid True := trivial
      cases z with
      | true =>
        go_wp2_with (first
          | (clear m1; refine wpList_look_m rfl _ _ _ true rfl und_sums und_head zero_i64 b _ rfl MR.out x rfl ?_; simp only [hn.out, hz.out, if_true])
          | (refine wpList_set_m rfl _ _ _ _ (.inl rfl) und_sums und_head b _ rfl MR.out x (min (n + 1) 1000000000) rfl rfl ?_; intro w2 N2 hO2; have hO3 := only_trans hO hO2)
          | (fail))
        go_roundw
        case rel => exact ⟨i + 1, by omega, by go_num, by rw [hst.out, if_pos rfl]; exact N2, hO3⟩
        case measure => simp [intOf]; omega
      | false =>
        go_wp2_with (first
          | (clear m1; refine wpList_look_m rfl _ _ _ true rfl und_sums und_head zero_i64 b _ rfl MR.out x rfl ?_; simp only [hn.out, hz.out, if_true])
          | (fail))
        go_roundw
        case rel => exact ⟨i + 1, by omega, by go_num, by rw [hst.out, if_neg (by decide)]; exact MR.out, hO⟩
        case measure => simp [intOf]; omega
    · have hlt' : ¬ (i : Int) < (xs.length : Int) := by omega
      have ei : xs.take i = xs := List.take_of_length_le (by omega)
      rw [ei] at MR
      go_wp2
      exact bodyPost_end (v := .tuple #[]) (by simp [results, Tryd.f18, go_sem]) rfl ⟨rfl, MR.out, hO⟩
set_option maxRecDepth 100000 in
set_option maxHeartbeats 2000000 in
theorem headingsOf_any (c : Cm) (r : Rp) (w : World) :
    Calls Tryd.prog 19 #[.agg (csCm c).toArray, .agg (csRp r).toArray] w fun e w' => ∃ v, e = .returned v ∧ Own encH w' w.heap.size w'.heap.size v (hdV c.V ++ hdK r.K) ∧ Below w.heap.size w w' := by
  have hVeq : Hid (hdV c.V = if c.V = 1 ∨ c.V = 2 then [0] else []) := rfl
  have hKeq : Hid (hdK r.K = if r.K = 5 then [1] else if r.K = 1 ∨ r.K = 6 then [2] else []) := rfl
  obtain ⟨V, N, F, U, B, C, D, Q⟩ := c
  obtain ⟨K, N2, F2, B2, C2, M2⟩ := r
  dsimp only at hVeq hKeq ⊢
  simp only [csCm, csRp]
  obtain ⟨l1, hl1⟩ := hid_ex (hdV V)
  obtain ⟨l2, hl2⟩ := hid_ex (hdK K)
  rw [hl1.out] at hVeq ⊢
  rw [hl2.out] at hKeq ⊢
  go_enter Tryd.func19, Tryd.ntmps19
  have m1 : Hid True := trivial
  have m2 : Hid True := trivial
  go_upto_region 3 with (first
    | (clear m1; refine wpList_box_v rfl 27 _ rfl [.int .i64 V, .string N, .int .i64 F, .int .i64 U, .string B, .int .i64 C, .int .i64 D, .bool Q] rfl ?_; intro b1 w1 hb1 hw1 hB1 V1; have hz1 := hB1.size)
    | (clear m2; refine wpList_box_v rfl 29 _ rfl [.int .i64 K, .string N2, .int .i64 F2, .string B2, .int .i64 C2, .int .i64 M2] rfl ?_; intro b2 w2 hb2 hw2 hB2 V2; replace V1 := vblk_grow V1 hB2; have hz2 := hB2.size; have k0 := V1.cell 0 (by simp); have k1 := V2.cell 0 (by simp); simp only [List.getElem_cons_zero] at k0 k1)
    | (fail))
  have hB0 : Below w.heap.size w w2 := hB1.trans (hB2.mono hz1)
  by_cases v1 : V = 1
  · subst v1
    simp at hVeq
    by_cases k5 : K = 5
    · subst k5
      simp at hKeq
      have ma : Hid True := trivial
      have mb : Hid True := trivial
      go_wp2_with (first | (clear ma; at_builtin; refine wpList_append_g infoH rfl _ _ 45 rfl Tryd.underlying45 w.heap.size _ _ [] rfl (own_zero encH _ w.heap.size w.heap.size none) (by simp; omega) _ [0] rfl (rd_new (E := encH) _ 0 #[.int .i64 0] rfl) (by simp) ?_; intro v7 w7 o7 hT7; have hz7 := hT7.low.size; have hs7 : w2.heap.size ≤ w7.heap.size := (by have := hz7; simp at this; omega); obtain ⟨a7, n7, k7, rfl⟩ := o7.slice; have hB7 := hB0.trans (((bAl3 _ _).mono (by omega)).trans hT7.low); have V3 := hT7.vblk (vblk_grow V2 (bAl3 _ _)) (by decide); have f1 := V3.cell 0 (by simp); simp only [List.getElem_cons_zero] at f1) | (clear mb; at_builtin; refine wpList_append_g infoH rfl _ _ 45 rfl Tryd.underlying45 w.heap.size _ _ ([] ++ [0]) rfl (o7.grow (bAl3 _ _)) (by simp; omega) _ [1] rfl (rd_new (E := encH) _ 1 #[.int .i64 1] rfl) (by simp) ?_; intro v8 w8 o8 hT8; have hz8 := hT8.low.size; obtain ⟨a8, n8, k8, rfl⟩ := o8.slice; have hB8 := hB7.trans (((bAl3 _ _).mono (by omega)).trans hT8.low)) | (fail))
      go_ret
      exact ⟨_, rfl, by rw [hVeq.out, hKeq.out]; simpa using o8, hB8⟩
    have q5 : (K == 5) = false := by simpa using k5
    by_cases k1 : K = 1
    · subst k1
      simp at hKeq
      have ma : Hid True := trivial
      have mb : Hid True := trivial
      go_wp2_with (first | (clear ma; at_builtin; refine wpList_append_g infoH rfl _ _ 45 rfl Tryd.underlying45 w.heap.size _ _ [] rfl (own_zero encH _ w.heap.size w.heap.size none) (by simp; omega) _ [0] rfl (rd_new (E := encH) _ 0 #[.int .i64 0] rfl) (by simp) ?_; intro v7 w7 o7 hT7; have hz7 := hT7.low.size; have hs7 : w2.heap.size ≤ w7.heap.size := (by have := hz7; simp at this; omega); obtain ⟨a7, n7, k7, rfl⟩ := o7.slice; have hB7 := hB0.trans (((bAl3 _ _).mono (by omega)).trans hT7.low); have V3 := hT7.vblk (vblk_grow V2 (bAl3 _ _)) (by decide); have f1 := V3.cell 0 (by simp); simp only [List.getElem_cons_zero] at f1) | (clear mb; at_builtin; refine wpList_append_g infoH rfl _ _ 45 rfl Tryd.underlying45 w.heap.size _ _ ([] ++ [0]) rfl (o7.grow (bAl3 _ _)) (by simp; omega) _ [2] rfl (rd_new (E := encH) _ 2 #[.int .i64 2] rfl) (by simp) ?_; intro v8 w8 o8 hT8; have hz8 := hT8.low.size; obtain ⟨a8, n8, k8, rfl⟩ := o8.slice; have hB8 := hB7.trans (((bAl3 _ _).mono (by omega)).trans hT8.low)) | (fail))
      go_ret
      exact ⟨_, rfl, by rw [hVeq.out, hKeq.out]; simpa using o8, hB8⟩
    have q1 : (K == 1) = false := by simpa using k1
    by_cases k6 : K = 6
    · subst k6
      simp at hKeq
      have ma : Hid True := trivial
      have mb : Hid True := trivial
      go_wp2_with (first | (clear ma; at_builtin; refine wpList_append_g infoH rfl _ _ 45 rfl Tryd.underlying45 w.heap.size _ _ [] rfl (own_zero encH _ w.heap.size w.heap.size none) (by simp; omega) _ [0] rfl (rd_new (E := encH) _ 0 #[.int .i64 0] rfl) (by simp) ?_; intro v7 w7 o7 hT7; have hz7 := hT7.low.size; have hs7 : w2.heap.size ≤ w7.heap.size := (by have := hz7; simp at this; omega); obtain ⟨a7, n7, k7, rfl⟩ := o7.slice; have hB7 := hB0.trans (((bAl3 _ _).mono (by omega)).trans hT7.low); have V3 := hT7.vblk (vblk_grow V2 (bAl3 _ _)) (by decide); have f1 := V3.cell 0 (by simp); simp only [List.getElem_cons_zero] at f1) | (clear mb; at_builtin; refine wpList_append_g infoH rfl _ _ 45 rfl Tryd.underlying45 w.heap.size _ _ ([] ++ [0]) rfl (o7.grow (bAl3 _ _)) (by simp; omega) _ [2] rfl (rd_new (E := encH) _ 2 #[.int .i64 2] rfl) (by simp) ?_; intro v8 w8 o8 hT8; have hz8 := hT8.low.size; obtain ⟨a8, n8, k8, rfl⟩ := o8.slice; have hB8 := hB7.trans (((bAl3 _ _).mono (by omega)).trans hT8.low)) | (fail))
      go_ret
      exact ⟨_, rfl, by rw [hVeq.out, hKeq.out]; simpa using o8, hB8⟩
    have q6 : (K == 6) = false := by simpa using k6
    simp [k5, k1, k6] at hKeq
    have ma : Hid True := trivial
    have mb : Hid True := trivial
    go_wp2_with (first | (clear ma; at_builtin; refine wpList_append_g infoH rfl _ _ 45 rfl Tryd.underlying45 w.heap.size _ _ [] rfl (own_zero encH _ w.heap.size w.heap.size none) (by simp; omega) _ [0] rfl (rd_new (E := encH) _ 0 #[.int .i64 0] rfl) (by simp) ?_; intro v7 w7 o7 hT7; have hz7 := hT7.low.size; have hs7 : w2.heap.size ≤ w7.heap.size := (by have := hz7; simp at this; omega); obtain ⟨a7, n7, k7, rfl⟩ := o7.slice; have hB7 := hB0.trans (((bAl3 _ _).mono (by omega)).trans hT7.low); have V3 := hT7.vblk (vblk_grow V2 (bAl3 _ _)) (by decide); have f1 := V3.cell 0 (by simp); simp only [List.getElem_cons_zero] at f1) | (fail))
    go_ret
    exact ⟨_, rfl, by rw [hVeq.out, hKeq.out]; simpa using o7, hB7⟩
  have p1 : (V == 1) = false := by simpa using v1
  by_cases v2 : V = 2
  · subst v2
    simp at hVeq
    by_cases k5 : K = 5
    · subst k5
      simp at hKeq
      have ma : Hid True := trivial
      have mb : Hid True := trivial
      go_wp2_with (first | (clear ma; at_builtin; refine wpList_append_g infoH rfl _ _ 45 rfl Tryd.underlying45 w.heap.size _ _ [] rfl (own_zero encH _ w.heap.size w.heap.size none) (by simp; omega) _ [0] rfl (rd_new (E := encH) _ 0 #[.int .i64 0] rfl) (by simp) ?_; intro v7 w7 o7 hT7; have hz7 := hT7.low.size; have hs7 : w2.heap.size ≤ w7.heap.size := (by have := hz7; simp at this; omega); obtain ⟨a7, n7, k7, rfl⟩ := o7.slice; have hB7 := hB0.trans (((bAl3 _ _).mono (by omega)).trans hT7.low); have V3 := hT7.vblk (vblk_grow V2 (bAl3 _ _)) (by decide); have f1 := V3.cell 0 (by simp); simp only [List.getElem_cons_zero] at f1) | (clear mb; at_builtin; refine wpList_append_g infoH rfl _ _ 45 rfl Tryd.underlying45 w.heap.size _ _ ([] ++ [0]) rfl (o7.grow (bAl3 _ _)) (by simp; omega) _ [1] rfl (rd_new (E := encH) _ 1 #[.int .i64 1] rfl) (by simp) ?_; intro v8 w8 o8 hT8; have hz8 := hT8.low.size; obtain ⟨a8, n8, k8, rfl⟩ := o8.slice; have hB8 := hB7.trans (((bAl3 _ _).mono (by omega)).trans hT8.low)) | (fail))
      go_ret
      exact ⟨_, rfl, by rw [hVeq.out, hKeq.out]; simpa using o8, hB8⟩
    have q5 : (K == 5) = false := by simpa using k5
    by_cases k1 : K = 1
    · subst k1
      simp at hKeq
      have ma : Hid True := trivial
      have mb : Hid True := trivial
      go_wp2_with (first | (clear ma; at_builtin; refine wpList_append_g infoH rfl _ _ 45 rfl Tryd.underlying45 w.heap.size _ _ [] rfl (own_zero encH _ w.heap.size w.heap.size none) (by simp; omega) _ [0] rfl (rd_new (E := encH) _ 0 #[.int .i64 0] rfl) (by simp) ?_; intro v7 w7 o7 hT7; have hz7 := hT7.low.size; have hs7 : w2.heap.size ≤ w7.heap.size := (by have := hz7; simp at this; omega); obtain ⟨a7, n7, k7, rfl⟩ := o7.slice; have hB7 := hB0.trans (((bAl3 _ _).mono (by omega)).trans hT7.low); have V3 := hT7.vblk (vblk_grow V2 (bAl3 _ _)) (by decide); have f1 := V3.cell 0 (by simp); simp only [List.getElem_cons_zero] at f1) | (clear mb; at_builtin; refine wpList_append_g infoH rfl _ _ 45 rfl Tryd.underlying45 w.heap.size _ _ ([] ++ [0]) rfl (o7.grow (bAl3 _ _)) (by simp; omega) _ [2] rfl (rd_new (E := encH) _ 2 #[.int .i64 2] rfl) (by simp) ?_; intro v8 w8 o8 hT8; have hz8 := hT8.low.size; obtain ⟨a8, n8, k8, rfl⟩ := o8.slice; have hB8 := hB7.trans (((bAl3 _ _).mono (by omega)).trans hT8.low)) | (fail))
      go_ret
      exact ⟨_, rfl, by rw [hVeq.out, hKeq.out]; simpa using o8, hB8⟩
    have q1 : (K == 1) = false := by simpa using k1
    by_cases k6 : K = 6
    · subst k6
      simp at hKeq
      have ma : Hid True := trivial
      have mb : Hid True := trivial
      go_wp2_with (first | (clear ma; at_builtin; refine wpList_append_g infoH rfl _ _ 45 rfl Tryd.underlying45 w.heap.size _ _ [] rfl (own_zero encH _ w.heap.size w.heap.size none) (by simp; omega) _ [0] rfl (rd_new (E := encH) _ 0 #[.int .i64 0] rfl) (by simp) ?_; intro v7 w7 o7 hT7; have hz7 := hT7.low.size; have hs7 : w2.heap.size ≤ w7.heap.size := (by have := hz7; simp at this; omega); obtain ⟨a7, n7, k7, rfl⟩ := o7.slice; have hB7 := hB0.trans (((bAl3 _ _).mono (by omega)).trans hT7.low); have V3 := hT7.vblk (vblk_grow V2 (bAl3 _ _)) (by decide); have f1 := V3.cell 0 (by simp); simp only [List.getElem_cons_zero] at f1) | (clear mb; at_builtin; refine wpList_append_g infoH rfl _ _ 45 rfl Tryd.underlying45 w.heap.size _ _ ([] ++ [0]) rfl (o7.grow (bAl3 _ _)) (by simp; omega) _ [2] rfl (rd_new (E := encH) _ 2 #[.int .i64 2] rfl) (by simp) ?_; intro v8 w8 o8 hT8; have hz8 := hT8.low.size; obtain ⟨a8, n8, k8, rfl⟩ := o8.slice; have hB8 := hB7.trans (((bAl3 _ _).mono (by omega)).trans hT8.low)) | (fail))
      go_ret
      exact ⟨_, rfl, by rw [hVeq.out, hKeq.out]; simpa using o8, hB8⟩
    have q6 : (K == 6) = false := by simpa using k6
    simp [k5, k1, k6] at hKeq
    have ma : Hid True := trivial
    have mb : Hid True := trivial
    go_wp2_with (first | (clear ma; at_builtin; refine wpList_append_g infoH rfl _ _ 45 rfl Tryd.underlying45 w.heap.size _ _ [] rfl (own_zero encH _ w.heap.size w.heap.size none) (by simp; omega) _ [0] rfl (rd_new (E := encH) _ 0 #[.int .i64 0] rfl) (by simp) ?_; intro v7 w7 o7 hT7; have hz7 := hT7.low.size; have hs7 : w2.heap.size ≤ w7.heap.size := (by have := hz7; simp at this; omega); obtain ⟨a7, n7, k7, rfl⟩ := o7.slice; have hB7 := hB0.trans (((bAl3 _ _).mono (by omega)).trans hT7.low); have V3 := hT7.vblk (vblk_grow V2 (bAl3 _ _)) (by decide); have f1 := V3.cell 0 (by simp); simp only [List.getElem_cons_zero] at f1) | (fail))
    go_ret
    exact ⟨_, rfl, by rw [hVeq.out, hKeq.out]; simpa using o7, hB7⟩
  have p2 : (V == 2) = false := by simpa using v2
  simp [v1, v2] at hVeq
  by_cases k5 : K = 5
  · subst k5
    simp at hKeq
    have ma : Hid True := trivial
    have mb : Hid True := trivial
    go_wp2_with (first | (clear mb; at_builtin; refine wpList_append_g infoH rfl _ _ 45 rfl Tryd.underlying45 w.heap.size _ _ [] rfl (own_zero encH _ w.heap.size w.heap.size none) (by simp; omega) _ [1] rfl (rd_new (E := encH) _ 1 #[.int .i64 1] rfl) (by simp) ?_; intro v8 w8 o8 hT8; have hz8 := hT8.low.size; obtain ⟨a8, n8, k8, rfl⟩ := o8.slice; have hB8 := hB0.trans (((bAl3 _ _).mono (by omega)).trans hT8.low)) | (fail))
    go_ret
    exact ⟨_, rfl, by rw [hVeq.out, hKeq.out]; simpa using o8, hB8⟩
  have q5 : (K == 5) = false := by simpa using k5
  by_cases k1 : K = 1
  · subst k1
    simp at hKeq
    have ma : Hid True := trivial
    have mb : Hid True := trivial
    go_wp2_with (first | (clear mb; at_builtin; refine wpList_append_g infoH rfl _ _ 45 rfl Tryd.underlying45 w.heap.size _ _ [] rfl (own_zero encH _ w.heap.size w.heap.size none) (by simp; omega) _ [2] rfl (rd_new (E := encH) _ 2 #[.int .i64 2] rfl) (by simp) ?_; intro v8 w8 o8 hT8; have hz8 := hT8.low.size; obtain ⟨a8, n8, k8, rfl⟩ := o8.slice; have hB8 := hB0.trans (((bAl3 _ _).mono (by omega)).trans hT8.low)) | (fail))
    go_ret
    exact ⟨_, rfl, by rw [hVeq.out, hKeq.out]; simpa using o8, hB8⟩
  have q1 : (K == 1) = false := by simpa using k1
  by_cases k6 : K = 6
  · subst k6
    simp at hKeq
    have ma : Hid True := trivial
    have mb : Hid True := trivial
    go_wp2_with (first | (clear mb; at_builtin; refine wpList_append_g infoH rfl _ _ 45 rfl Tryd.underlying45 w.heap.size _ _ [] rfl (own_zero encH _ w.heap.size w.heap.size none) (by simp; omega) _ [2] rfl (rd_new (E := encH) _ 2 #[.int .i64 2] rfl) (by simp) ?_; intro v8 w8 o8 hT8; have hz8 := hT8.low.size; obtain ⟨a8, n8, k8, rfl⟩ := o8.slice; have hB8 := hB0.trans (((bAl3 _ _).mono (by omega)).trans hT8.low)) | (fail))
    go_ret
    exact ⟨_, rfl, by rw [hVeq.out, hKeq.out]; simpa using o8, hB8⟩
  have q6 : (K == 6) = false := by simpa using k6
  simp [k5, k1, k6] at hKeq
  have ma : Hid True := trivial
  have mb : Hid True := trivial
  go_wp2
  go_ret
  exact ⟨_, rfl, by rw [hVeq.out, hKeq.out]; simpa using own_zero encH w2 w.heap.size w2.heap.size none, hB0⟩
end Go.Proofs.YtldflfmglpojlaaDoor.rg
