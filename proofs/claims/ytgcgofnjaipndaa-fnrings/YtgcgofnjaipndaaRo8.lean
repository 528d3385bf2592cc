/- Contracts: the model's Joins, Uses, Leaves, Turns, of whatever ring. -/
import Derived.Test.YtgcgofnjaipndaaRo7
namespace Go.Proofs.Ytgcgofnjaipndaa.rg
open Go.ChangeShapes Go.WideShapes Go.ChangeAt Go.RowKit
open Go.Proofs.Ytgcgofnjaipndaa.ce Go.Proofs.Ytgcgofnjaipndaa.ro
set_option linter.unusedVariables false

theorem results_ct {fn : Func} {p u : Tmp} {ty : TypeId} (h : fn.results = #[.cell p ty, .tmp u]) (tmps : Array Value) (P : Program) (w : World) :
    (results fn tmps).run P w =
      ((asAddr (tmps.getD p undef)).run P w).andThen fun a w₁ => ((loadVar ty a).run P w₁).andThen fun v w₂ => .ok (.tuple #[v, tmps.getD u undef]) w₂ := by
  simp only [results, h]
  simp [Sem.run_bind, Result.andThen]
theorem row_ct {fn : Func} {p u : Tmp} {ty : TypeId} (h : fn.results = #[.cell p ty, .tmp u]) {R : Ending → World → Prop} {a : Act} {w : World} {b : Nat} {t : TypeId} {vs : List Value} {fs : Array Field} {x : Value}
    (hp : a.tmps.getD p undef = .pointer (some ⟨b, 0, none⟩)) (hx : a.tmps.getD u undef = x) (hb : VBlk w b t vs) (hu : Try.prog.underlying ty = some (.struct fs))
    (hi : (Try.prog.info? ty).map (·.size) = some vs.length) (hdf : a.defers = []) (hR : R (.returned (.tuple #[.agg vs.toArray, x])) w) : bodyPost Try.prog fn R .ret a w := by
  have hl := run_loadVar_row (P := Try.prog) w b t ty vs.toArray (0, 0) _ hb hu rfl (by rw [hi]; simp)
  refine bodyPost_ret ?_ hdf hR
  rw [results_ct h, hp, hx]
  simp [asAddr, hl]
theorem joinR_A (r : Rg) (s : ByteArray) : (joinR r s).A = r.A := by unfold joinR; split <;> rfl
theorem used_A (r : Rg) (s : ByteArray) : (used r s).A = r.A := by unfold used; split <;> rfl
theorem left_len (r : Rg) (i : Nat) : (left r i).N.length ≤ r.N.length ∧ (left r i).U.length ≤ r.U.length := by unfold left; simp; omega

set_option maxRecDepth 100000 in
set_option maxHeartbeats 2000000 in
theorem specJoins_all (r : Rg) (s : ByteArray) (hs : s.size ≤ 9223372036854775807) (vN vU : Value) (w : World) (h : RdR w vN vU r) :
    Calls Try.prog 18 #[.agg #[vN, vU, .int .i64 r.A], .string s] w fun e w' => ∃ vN' vU', e = .returned (.tuple #[.agg #[vN', vU', .int .i64 (jnR r s).A], .bool (jnB r s)]) ∧ OwnR w' w.heap.size w'.heap.size vN' vU' (jnR r s) ∧ Below w.heap.size w w' := by
  obtain ⟨a, cap, rfl⟩ := h.n.form
  obtain ⟨c, dc, rfl⟩ := h.u.form
  have R : Hid (RdR w (.slice a r.N.length cap) (.slice c r.U.length dc) r) := h
  clear h
  by_cases hok : ringB r = true
  · have e1 : jnR r s = joinR r s := if_pos hok
    have e2 : jnB r s = mayB r s := by unfold jnB; rw [hok]; rfl
    rw [e1, e2, joinR_A]
    clear e1 e2
    obtain ⟨M, hM⟩ := hid_ex (mayB r s)
    obtain ⟨J, hJ⟩ := hid_ex (joinR r s)
    rw [hM.out, hJ.out]
    have HK : Hid (ringB r = true) := hok
    have OK : Hid (ROk r) := ringB_iff.1 hok
    have hle := OK.out.le
    have hus : Hid (r.U.length = r.N.length) := OK.out.us
    have hul : r.U.length ≤ 20 := by have := hus.out; omega
    clear hok
    have m1 : Hid True := trivial
    have m2 : Hid True := trivial
    have m3 : Hid True := trivial
    have m4 : Hid True := trivial
    have m5 : Hid True := trivial
    have m6 : Hid True := trivial
    have m7 : Hid True := trivial
    have m8 : Hid True := trivial
    go_enter Try.func18, Try.ntmps18
    go_wp2_with (first | (clear m1; refine wpList_box_v rfl 29 _ rfl [.slice a r.N.length cap, .slice c r.U.length dc, .int .i64 r.A] rfl ?_; intro b2 w1 hb2 hw2 hB1 V2; have hz1 := hB1.size) | (clear m2; refine wpList_alloc_v rfl 29 rfl _ zeroRg ?_; intro b4 w2 hb4 hw4 hB2 V4; have hz2 := hB2.size; replace V2 := vblk_grow V2 (hB2.mono (Nat.le_refl _)); have hB := hB1.trans (hB2.mono hz1); obtain ⟨c0, c1, c2⟩ := cells3 V2) | (clear m3; go_at_call 14; refine (specRingOk_any r _ _ _ (R.out.grow hB)).mono ?_; rintro er w3 ⟨rfl, hB3⟩; rw [HK.out]; have hz3 := hB3.size; replace V2 := vblk_grow V2 hB3; replace V4 := vblk_grow V4 hB3; replace hB := hB.trans (hB3.mono (by omega)); clear c0 c1 c2; obtain ⟨c0, c1, c2⟩ := cells3 V2) | (clear m4; go_at_call 46; refine (l8Copy_any r _ _ _ (R.out.grow hB) (by omega) (by omega)).mono ?_; rintro er w4 ⟨vN, vU, rfl, o, hB4⟩; have hz4 := hB4.size; replace V2 := vblk_grow V2 hB4; replace V4 := vblk_grow V4 hB4; replace hB := hB.trans (hB4.mono (by omega)); replace o := o.wide (lo' := w.heap.size) (by omega) (Nat.le_refl _); obtain ⟨a4, n4, k4, rfl⟩ := o.n.slice; obtain ⟨e4, f4, g4, rfl⟩ := o.u.slice) | (clear m5; refine wpList_alloc_v rfl 29 rfl _ zeroRg ?_; intro b6 w5 hb6 hw6 hB5 V6; have hz5 := hB5.size; replace V4 := vblk_grow V4 hB5; replace o := o.grow hB5; replace hB := hB.trans (hB5.mono (by omega))) | (clear m6; refine wpList_store_v rfl 29 _ _ rfl b6 [.slice a4 n4 k4, .slice e4 f4 g4, .int .i64 r.A] rfl rfl sizeRg V6 rfl (by simp [Value.oneCell']) ?_; intro w6 hO6 X6; have hz6 := hO6.1; replace o := o.only hO6 V6 (by decide) (by decide); replace V4 := vblk_only V4 hO6 (by omega); replace hB := hB.trans (hO6.2.2 _ (by omega)); replace V6 := X6; clear X6; clear c0 c1 c2; obtain ⟨c0, c1, c2⟩ := cells3 V6) | (clear m7; go_at_call 47; refine (l8Join_any r s hs _ _ b6 w.heap.size _ _ o V6 (by omega) (by omega) (by omega)).mono ?_; rintro er w7 ⟨rfl, vN7, vU7, o7, V67, hT7⟩; rw [hM.out]; clear o V6; have o := o7; have V6 := V67; clear o7 V67; rw [hJ.out] at o; have hz7 := hT7.size; replace V4 := hT7.vblk V4 (by omega) (by decide) (by decide); replace hB := hB.trans (hT7.below (Nat.le_refl _) (by omega)); clear c0 c1 c2; obtain ⟨c0, c1, c2⟩ := cells3 V6; obtain ⟨a7, n7, k7, rfl⟩ := o.n.slice; obtain ⟨e7, f7, g7, rfl⟩ := o.u.slice) | (clear m8; refine wpList_store_v rfl 29 _ _ rfl b4 [.slice a7 n7 k7, .slice e7 f7 g7, .int .i64 r.A] rfl rfl sizeRg V4 rfl (by simp [Value.oneCell']) ?_; intro w8 hO8 X8; have hz8 := hO8.1; replace o := o.only hO8 V4 (by decide) (by decide); replace hB := hB.trans (hO8.2.2 _ (by omega)); replace V4 := X8; clear X8) | (fail))
    exact row_ct rfl rfl rfl V4 Try.underlying29 sizeRg rfl ⟨_, _, rfl, o.top, hB⟩
  · have e1 : jnR r s = Rg.zero := if_neg hok
    have e2 : jnB r s = false := by unfold jnB; rw [ringB_not hok]; rfl
    rw [e1, e2]
    have HK : Hid (ringB r = false) := ringB_not hok
    clear hok e1 e2
    have m1 : Hid True := trivial
    have m2 : Hid True := trivial
    have m3 : Hid True := trivial
    have m4 : Hid True := trivial
    go_enter Try.func18, Try.ntmps18
    go_wp2_with (first | (clear m1; refine wpList_box_v rfl 29 _ rfl [.slice a r.N.length cap, .slice c r.U.length dc, .int .i64 r.A] rfl ?_; intro b2 w1 hb2 hw2 hB1 V2; have hz1 := hB1.size) | (clear m2; refine wpList_alloc_v rfl 29 rfl _ zeroRg ?_; intro b4 w2 hb4 hw4 hB2 V4; have hz2 := hB2.size; replace V2 := vblk_grow V2 (hB2.mono (Nat.le_refl _)); have hB := hB1.trans (hB2.mono hz1); obtain ⟨c0, c1, c2⟩ := cells3 V2) | (clear m3; go_at_call 14; refine (specRingOk_any r _ _ _ (R.out.grow hB)).mono ?_; rintro er w3 ⟨rfl, hB3⟩; rw [HK.out]; have hz3 := hB3.size; replace V2 := vblk_grow V2 hB3; replace V4 := vblk_grow V4 hB3; replace hB := hB.trans (hB3.mono (by omega)); clear c0 c1 c2; obtain ⟨c0, c1, c2⟩ := cells3 V2) | (clear m4; refine wpList_store_v rfl 29 _ _ rfl b4 [.slice none 0 0, .slice none 0 0, .int .i64 0] rfl rfl sizeRg V4 rfl (by simp [Value.oneCell']) ?_; intro w4 hO4 X4; have hz4 := hO4.1; replace hB := hB.trans (hO4.2.2 _ (by omega)); replace V4 := X4; clear X4) | (fail))
    exact row_ct rfl rfl rfl V4 Try.underlying29 sizeRg rfl ⟨_, _, rfl, ownR_zero _ _ _, hB⟩

set_option maxRecDepth 100000 in
set_option maxHeartbeats 2000000 in
theorem specUses_all (r : Rg) (s : ByteArray) (vN vU : Value) (w : World) (h : RdR w vN vU r) :
    Calls Try.prog 22 #[.agg #[vN, vU, .int .i64 r.A], .string s] w fun e w' => ∃ vN' vU', e = .returned (.agg #[vN', vU', .int .i64 (usR r s).A]) ∧ OwnR w' w.heap.size w'.heap.size vN' vU' (usR r s) ∧ Below w.heap.size w w' := by
  obtain ⟨a, cap, rfl⟩ := h.n.form
  obtain ⟨c, dc, rfl⟩ := h.u.form
  have R : Hid (RdR w (.slice a r.N.length cap) (.slice c r.U.length dc) r) := h
  clear h
  by_cases hok : ringB r = true
  · have e1 : usR r s = used r s := if_pos hok
    rw [e1, used_A]
    clear e1
    obtain ⟨J, hJ⟩ := hid_ex (used r s)
    rw [hJ.out]
    have HK : Hid (ringB r = true) := hok
    have OK : Hid (ROk r) := ringB_iff.1 hok
    have hle := OK.out.le
    have hus : Hid (r.U.length = r.N.length) := OK.out.us
    have hul : r.U.length ≤ 20 := by have := hus.out; omega
    clear hok
    have m1 : Hid True := trivial
    have m2 : Hid True := trivial
    have m3 : Hid True := trivial
    have m4 : Hid True := trivial
    have m5 : Hid True := trivial
    have m6 : Hid True := trivial
    have m7 : Hid True := trivial
    have m8 : Hid True := trivial
    go_enter Try.func22, Try.ntmps22
    go_wp2_with (first | (clear m1; refine wpList_box_v rfl 29 _ rfl [.slice a r.N.length cap, .slice c r.U.length dc, .int .i64 r.A] rfl ?_; intro b2 w1 hb2 hw2 hB1 V2; have hz1 := hB1.size) | (clear m2; refine wpList_alloc_v rfl 29 rfl _ zeroRg ?_; intro b4 w2 hb4 hw4 hB2 V4; have hz2 := hB2.size; replace V2 := vblk_grow V2 (hB2.mono (Nat.le_refl _)); have hB := hB1.trans (hB2.mono hz1); obtain ⟨c0, c1, c2⟩ := cells3 V2) | (clear m3; go_at_call 14; refine (specRingOk_any r _ _ _ (R.out.grow hB)).mono ?_; rintro er w3 ⟨rfl, hB3⟩; rw [HK.out]; have hz3 := hB3.size; replace V2 := vblk_grow V2 hB3; replace V4 := vblk_grow V4 hB3; replace hB := hB.trans (hB3.mono (by omega)); clear c0 c1 c2; obtain ⟨c0, c1, c2⟩ := cells3 V2) | (clear m4; go_at_call 46; refine (l8Copy_any r _ _ _ (R.out.grow hB) (by omega) (by omega)).mono ?_; rintro er w4 ⟨vN, vU, rfl, o, hB4⟩; have hz4 := hB4.size; replace V2 := vblk_grow V2 hB4; replace V4 := vblk_grow V4 hB4; replace hB := hB.trans (hB4.mono (by omega)); replace o := o.wide (lo' := w.heap.size) (by omega) (Nat.le_refl _); obtain ⟨a4, n4, k4, rfl⟩ := o.n.slice; obtain ⟨e4, f4, g4, rfl⟩ := o.u.slice) | (clear m5; refine wpList_alloc_v rfl 29 rfl _ zeroRg ?_; intro b6 w5 hb6 hw6 hB5 V6; have hz5 := hB5.size; replace V4 := vblk_grow V4 hB5; replace o := o.grow hB5; replace hB := hB.trans (hB5.mono (by omega))) | (clear m6; refine wpList_store_v rfl 29 _ _ rfl b6 [.slice a4 n4 k4, .slice e4 f4 g4, .int .i64 r.A] rfl rfl sizeRg V6 rfl (by simp [Value.oneCell']) ?_; intro w6 hO6 X6; have hz6 := hO6.1; replace o := o.only hO6 V6 (by decide) (by decide); replace V4 := vblk_only V4 hO6 (by omega); replace hB := hB.trans (hO6.2.2 _ (by omega)); replace V6 := X6; clear X6; clear c0 c1 c2; obtain ⟨c0, c1, c2⟩ := cells3 V6) | (clear m7; go_at_call 56; refine (l8Use_any r s _ _ b6 w.heap.size _ _ o V6 hus.out).mono ?_; rintro er w7 ⟨⟨u7, rfl⟩, o7, V67, hT7⟩; clear o V6; have o := o7; have V6 := V67; clear o7 V67; rw [hJ.out] at o; have hz7 := hT7.size; replace V4 := hT7.vblk V4 (by omega) (by decide) (by decide); replace hB := hB.trans (hT7.below (Nat.le_refl _) (by omega)); clear c0 c1 c2; obtain ⟨c0, c1, c2⟩ := cells3 V6) | (clear m8; refine wpList_store_v rfl 29 _ _ rfl b4 [.slice a4 n4 k4, .slice e4 f4 g4, .int .i64 r.A] rfl rfl sizeRg V4 rfl (by simp [Value.oneCell']) ?_; intro w8 hO8 X8; have hz8 := hO8.1; replace o := o.only hO8 V4 (by decide) (by decide); replace hB := hB.trans (hO8.2.2 _ (by omega)); replace V4 := X8; clear X8) | (fail))
    exact row_retv rfl rfl V4 Try.underlying29 sizeRg rfl ⟨_, _, rfl, o.top, hB⟩
  · have e1 : usR r s = Rg.zero := if_neg hok
    rw [e1]
    have HK : Hid (ringB r = false) := ringB_not hok
    clear hok e1
    have m1 : Hid True := trivial
    have m2 : Hid True := trivial
    have m3 : Hid True := trivial
    have m4 : Hid True := trivial
    go_enter Try.func22, Try.ntmps22
    go_wp2_with (first | (clear m1; refine wpList_box_v rfl 29 _ rfl [.slice a r.N.length cap, .slice c r.U.length dc, .int .i64 r.A] rfl ?_; intro b2 w1 hb2 hw2 hB1 V2; have hz1 := hB1.size) | (clear m2; refine wpList_alloc_v rfl 29 rfl _ zeroRg ?_; intro b4 w2 hb4 hw4 hB2 V4; have hz2 := hB2.size; replace V2 := vblk_grow V2 (hB2.mono (Nat.le_refl _)); have hB := hB1.trans (hB2.mono hz1); obtain ⟨c0, c1, c2⟩ := cells3 V2) | (clear m3; go_at_call 14; refine (specRingOk_any r _ _ _ (R.out.grow hB)).mono ?_; rintro er w3 ⟨rfl, hB3⟩; rw [HK.out]; have hz3 := hB3.size; replace V2 := vblk_grow V2 hB3; replace V4 := vblk_grow V4 hB3; replace hB := hB.trans (hB3.mono (by omega)); clear c0 c1 c2; obtain ⟨c0, c1, c2⟩ := cells3 V2) | (clear m4; refine wpList_store_v rfl 29 _ _ rfl b4 [.slice none 0 0, .slice none 0 0, .int .i64 0] rfl rfl sizeRg V4 rfl (by simp [Value.oneCell']) ?_; intro w4 hO4 X4; have hz4 := hO4.1; replace hB := hB.trans (hO4.2.2 _ (by omega)); replace V4 := X4; clear X4) | (fail))
    exact row_retv rfl rfl V4 Try.underlying29 sizeRg rfl ⟨_, _, rfl, ownR_zero _ _ _, hB⟩

set_option maxRecDepth 100000 in
set_option maxHeartbeats 2000000 in
theorem specLeaves_all (r : Rg) (s : ByteArray) (vN vU : Value) (w : World) (h : RdR w vN vU r) :
    Calls Try.prog 24 #[.agg #[vN, vU, .int .i64 r.A], .string s] w fun e w' => ∃ vN' vU', e = .returned (.tuple #[.agg #[vN', vU', .int .i64 (lvR r s).A], .bool (lvB r s)]) ∧ OwnR w' w.heap.size w'.heap.size vN' vU' (lvR r s) ∧ Below w.heap.size w w' := by
  obtain ⟨a, cap, rfl⟩ := h.n.form
  obtain ⟨c, dc, rfl⟩ := h.u.form
  have R : Hid (RdR w (.slice a r.N.length cap) (.slice c r.U.length dc) r) := h
  clear h
  by_cases hok : ringB r = true
  · by_cases hp0 : 0 ≤ posS s r.N
    · have e1 : lvR r s = left r (posS s r.N).toNat := by unfold lvR; rw [if_pos hok, if_pos hp0]
      have e2 : lvB r s = true := by unfold lvB; rw [hok, decide_eq_true hp0]; rfl
      have hbd := posS_bd s r.N
      obtain ⟨i, hi⟩ : ∃ i : Nat, posS s r.N = i := ⟨(posS s r.N).toNat, by omega⟩
      have hp : Hid (posS s r.N = i) := hi
      have hi' : i < r.N.length := by omega
      rw [e1, e2, hi, Int.toNat_natCast]
      clear e1 e2 hp0 hbd hi
      obtain ⟨J, hJ⟩ := hid_ex (left r i)
      rw [hJ.out]
      have HK : Hid (ringB r = true) := hok
      have OK : Hid (ROk r) := ringB_iff.1 hok
      have hle := OK.out.le
      have hus : Hid (r.U.length = r.N.length) := OK.out.us
      have hul : r.U.length ≤ 20 := by have := hus.out; omega
      clear hok
      have hA0 : Hid (0 ≤ r.A) := OK.out.a0
      have hA1 : Hid (r.A < r.N.length) := by have := OK.out.a1; unfold Hid; omega
      have m1 : Hid True := trivial
      have m2 : Hid True := trivial
      have m3 : Hid True := trivial
      have m4 : Hid True := trivial
      have m5 : Hid True := trivial
      have m6 : Hid True := trivial
      have m7 : Hid True := trivial
      have m8 : Hid True := trivial
      go_enter Try.func24, Try.ntmps24
      go_wp2_with (first | (clear m1; refine wpList_box_v rfl 29 _ rfl [.slice a r.N.length cap, .slice c r.U.length dc, .int .i64 r.A] rfl ?_; intro b2 w1 hb2 hw2 hB1 V2; have hz1 := hB1.size) | (clear m2; refine wpList_alloc_v rfl 29 rfl _ zeroRg ?_; intro b4 w2 hb4 hw4 hB2 V4; have hz2 := hB2.size; replace V2 := vblk_grow V2 (hB2.mono (Nat.le_refl _)); have hB := hB1.trans (hB2.mono hz1); obtain ⟨c0, c1, c2⟩ := cells3 V2) | (clear m3; go_at_call 14; refine (specRingOk_any r _ _ _ (R.out.grow hB)).mono ?_; rintro er w3 ⟨rfl, hB3⟩; rw [HK.out]; have hz3 := hB3.size; replace V2 := vblk_grow V2 hB3; replace V4 := vblk_grow V4 hB3; replace hB := hB.trans (hB3.mono (by omega)); clear c0 c1 c2; obtain ⟨c0, c1, c2⟩ := cells3 V2) | (clear m4; go_at_call 46; refine (l8Copy_any r _ _ _ (R.out.grow hB) (by omega) (by omega)).mono ?_; rintro er w4 ⟨vN, vU, rfl, o, hB4⟩; have hz4 := hB4.size; replace V2 := vblk_grow V2 hB4; replace V4 := vblk_grow V4 hB4; replace hB := hB.trans (hB4.mono (by omega)); replace o := o.wide (lo' := w.heap.size) (by omega) (Nat.le_refl _); obtain ⟨a4, n4, k4, rfl⟩ := o.n.slice; obtain ⟨e4, f4, g4, rfl⟩ := o.u.slice) | (clear m5; refine wpList_alloc_v rfl 29 rfl _ zeroRg ?_; intro b6 w5 hb6 hw6 hB5 V6; have hz5 := hB5.size; replace V4 := vblk_grow V4 hB5; replace o := o.grow hB5; replace hB := hB.trans (hB5.mono (by omega))) | (clear m6; refine wpList_store_v rfl 29 _ _ rfl b6 [.slice a4 n4 k4, .slice e4 f4 g4, .int .i64 r.A] rfl rfl sizeRg V6 rfl (by simp [Value.oneCell']) ?_; intro w6 hO6 X6; have hz6 := hO6.1; replace o := o.only hO6 V6 (by decide) (by decide); replace V4 := vblk_only V4 hO6 (by omega); replace hB := hB.trans (hO6.2.2 _ (by omega)); replace V6 := X6; clear X6; clear c0 c1 c2; obtain ⟨c0, c1, c2⟩ := cells3 V6) | (clear m7; go_at_call 58; refine (l8Leave_yes r s i hp.out _ _ b6 w.heap.size _ _ o V6 (by omega) hi' (by omega) hus.out hA0.out hA1.out).mono ?_; rintro er w7 ⟨rfl, vN7, vU7, o7, V67, hT7⟩; clear o V6; have o := o7; have V6 := V67; clear o7 V67; rw [hJ.out] at o V6; have hz7 := hT7.size; replace V4 := hT7.vblk V4 (by omega) (by decide) (by decide); replace hB := hB.trans (hT7.below (Nat.le_refl _) (by omega)); clear c0 c1 c2; obtain ⟨c0, c1, c2⟩ := cells3 V6; obtain ⟨a7, n7, k7, rfl⟩ := o.n.slice; obtain ⟨e7, f7, g7, rfl⟩ := o.u.slice) | (clear m8; refine wpList_store_v rfl 29 _ _ rfl b4 [.slice a7 n7 k7, .slice e7 f7 g7, .int .i64 J.A] rfl rfl sizeRg V4 rfl (by simp [Value.oneCell']) ?_; intro w8 hO8 X8; have hz8 := hO8.1; replace o := o.only hO8 V4 (by decide) (by decide); replace hB := hB.trans (hO8.2.2 _ (by omega)); replace V4 := X8; clear X8) | (fail))
      exact row_ct rfl rfl rfl V4 Try.underlying29 sizeRg rfl ⟨_, _, rfl, o.top, hB⟩
    · have hp := hp0
      clear hp0
      have e1 : lvR r s = r := by unfold lvR; rw [if_pos hok, if_neg hp]
      have e2 : lvB r s = false := by unfold lvB; rw [decide_eq_false hp]; simp
      have hp0 : Hid (posS s r.N < 0) := by unfold Hid; omega
      rw [e1, e2]
      clear e1 e2 hp
      have HK : Hid (ringB r = true) := hok
      have OK : Hid (ROk r) := ringB_iff.1 hok
      have hle := OK.out.le
      have hus : Hid (r.U.length = r.N.length) := OK.out.us
      have hul : r.U.length ≤ 20 := by have := hus.out; omega
      clear hok
      have m1 : Hid True := trivial
      have m2 : Hid True := trivial
      have m3 : Hid True := trivial
      have m4 : Hid True := trivial
      have m5 : Hid True := trivial
      have m6 : Hid True := trivial
      have m7 : Hid True := trivial
      have m8 : Hid True := trivial
      go_enter Try.func24, Try.ntmps24
      go_wp2_with (first | (clear m1; refine wpList_box_v rfl 29 _ rfl [.slice a r.N.length cap, .slice c r.U.length dc, .int .i64 r.A] rfl ?_; intro b2 w1 hb2 hw2 hB1 V2; have hz1 := hB1.size) | (clear m2; refine wpList_alloc_v rfl 29 rfl _ zeroRg ?_; intro b4 w2 hb4 hw4 hB2 V4; have hz2 := hB2.size; replace V2 := vblk_grow V2 (hB2.mono (Nat.le_refl _)); have hB := hB1.trans (hB2.mono hz1); obtain ⟨c0, c1, c2⟩ := cells3 V2) | (clear m3; go_at_call 14; refine (specRingOk_any r _ _ _ (R.out.grow hB)).mono ?_; rintro er w3 ⟨rfl, hB3⟩; rw [HK.out]; have hz3 := hB3.size; replace V2 := vblk_grow V2 hB3; replace V4 := vblk_grow V4 hB3; replace hB := hB.trans (hB3.mono (by omega)); clear c0 c1 c2; obtain ⟨c0, c1, c2⟩ := cells3 V2) | (clear m4; go_at_call 46; refine (l8Copy_any r _ _ _ (R.out.grow hB) (by omega) (by omega)).mono ?_; rintro er w4 ⟨vN, vU, rfl, o, hB4⟩; have hz4 := hB4.size; replace V2 := vblk_grow V2 hB4; replace V4 := vblk_grow V4 hB4; replace hB := hB.trans (hB4.mono (by omega)); replace o := o.wide (lo' := w.heap.size) (by omega) (Nat.le_refl _); obtain ⟨a4, n4, k4, rfl⟩ := o.n.slice; obtain ⟨e4, f4, g4, rfl⟩ := o.u.slice) | (clear m5; refine wpList_alloc_v rfl 29 rfl _ zeroRg ?_; intro b6 w5 hb6 hw6 hB5 V6; have hz5 := hB5.size; replace V4 := vblk_grow V4 hB5; replace o := o.grow hB5; replace hB := hB.trans (hB5.mono (by omega))) | (clear m6; refine wpList_store_v rfl 29 _ _ rfl b6 [.slice a4 n4 k4, .slice e4 f4 g4, .int .i64 r.A] rfl rfl sizeRg V6 rfl (by simp [Value.oneCell']) ?_; intro w6 hO6 X6; have hz6 := hO6.1; replace o := o.only hO6 V6 (by decide) (by decide); replace V4 := vblk_only V4 hO6 (by omega); replace hB := hB.trans (hO6.2.2 _ (by omega)); replace V6 := X6; clear X6; clear c0 c1 c2; obtain ⟨c0, c1, c2⟩ := cells3 V6) | (clear m7; go_at_call 58; refine (l8Leave_no r s hp0.out _ _ b6 w.heap.size _ _ o V6).mono ?_; rintro er wq ⟨rfl, hq⟩; subst wq) | (clear m8; refine wpList_store_v rfl 29 _ _ rfl b4 [.slice a4 n4 k4, .slice e4 f4 g4, .int .i64 r.A] rfl rfl sizeRg V4 rfl (by simp [Value.oneCell']) ?_; intro w8 hO8 X8; have hz8 := hO8.1; replace o := o.only hO8 V4 (by decide) (by decide); replace hB := hB.trans (hO8.2.2 _ (by omega)); replace V4 := X8; clear X8) | (fail))
      exact row_ct rfl rfl rfl V4 Try.underlying29 sizeRg rfl ⟨_, _, rfl, o.top, hB⟩
  · have e1 : lvR r s = Rg.zero := if_neg hok
    have e2 : lvB r s = false := by unfold lvB; rw [ringB_not hok]; rfl
    rw [e1, e2]
    have HK : Hid (ringB r = false) := ringB_not hok
    clear hok e1 e2
    have m1 : Hid True := trivial
    have m2 : Hid True := trivial
    have m3 : Hid True := trivial
    have m4 : Hid True := trivial
    go_enter Try.func24, Try.ntmps24
    go_wp2_with (first | (clear m1; refine wpList_box_v rfl 29 _ rfl [.slice a r.N.length cap, .slice c r.U.length dc, .int .i64 r.A] rfl ?_; intro b2 w1 hb2 hw2 hB1 V2; have hz1 := hB1.size) | (clear m2; refine wpList_alloc_v rfl 29 rfl _ zeroRg ?_; intro b4 w2 hb4 hw4 hB2 V4; have hz2 := hB2.size; replace V2 := vblk_grow V2 (hB2.mono (Nat.le_refl _)); have hB := hB1.trans (hB2.mono hz1); obtain ⟨c0, c1, c2⟩ := cells3 V2) | (clear m3; go_at_call 14; refine (specRingOk_any r _ _ _ (R.out.grow hB)).mono ?_; rintro er w3 ⟨rfl, hB3⟩; rw [HK.out]; have hz3 := hB3.size; replace V2 := vblk_grow V2 hB3; replace V4 := vblk_grow V4 hB3; replace hB := hB.trans (hB3.mono (by omega)); clear c0 c1 c2; obtain ⟨c0, c1, c2⟩ := cells3 V2) | (clear m4; refine wpList_store_v rfl 29 _ _ rfl b4 [.slice none 0 0, .slice none 0 0, .int .i64 0] rfl rfl sizeRg V4 rfl (by simp [Value.oneCell']) ?_; intro w4 hO4 X4; have hz4 := hO4.1; replace hB := hB.trans (hO4.2.2 _ (by omega)); replace V4 := X4; clear X4) | (fail))
    exact row_ct rfl rfl rfl V4 Try.underlying29 sizeRg rfl ⟨_, _, rfl, ownR_zero _ _ _, hB⟩

theorem l8Turn_zero (r : Rg) (h0 : r.N.length = 0) (vN vU : Value) (b lo hi : Nat) (w : World) (own : OwnR w lo hi vN vU r) (hV : VBlk w b 29 [vN, vU, .int .i64 r.A]) :
    Calls Try.prog 60 #[.pointer (some ⟨b, 0, none⟩)] w fun e w' => e = .returned (.string ⟨#[]⟩) ∧ w' = w := by
  obtain ⟨a, n, cap, rfl⟩ := own.n.slice
  obtain ⟨hn, -, -⟩ := own.n.rd.cap
  obtain ⟨c0, c1, c2⟩ := cells3 hV
  have hn0 : ((n : Int) == 0) = true := by simp; omega
  clear own hV hn h0
  go_enter Try.func60, Try.ntmps60
  go_wp2
  go_ret
  exact ⟨rfl, rfl⟩

set_option maxRecDepth 100000 in
set_option maxHeartbeats 2000000 in
theorem specTurns_all (r : Rg) (vN vU : Value) (w : World) (h : RdR w vN vU r) :
    Calls Try.prog 26 #[.agg #[vN, vU, .int .i64 r.A]] w fun e w' => ∃ vN' vU', e = .returned (.tuple #[.agg #[vN', vU', .int .i64 (tuR r).A], .string (tuS r)]) ∧ OwnR w' w.heap.size w'.heap.size vN' vU' (tuR r) ∧ Below w.heap.size w w' := by
  obtain ⟨a, cap, rfl⟩ := h.n.form
  obtain ⟨c, dc, rfl⟩ := h.u.form
  have R : Hid (RdR w (.slice a r.N.length cap) (.slice c r.U.length dc) r) := h
  clear h
  by_cases hok : ringB r = true
  · by_cases hn : r.N.length = 0
    · have e1 : tuR r = r := by unfold tuR; rw [if_pos hok, if_pos hn]
      have e2 : tuS r = ⟨#[]⟩ := by unfold tuS; rw [if_pos hok, if_pos hn]
      rw [e1, e2]
      clear e1 e2
      have HN : Hid (r.N.length = 0) := hn
      clear hn
      have HK : Hid (ringB r = true) := hok
      have OK : Hid (ROk r) := ringB_iff.1 hok
      have hle := OK.out.le
      have hus : Hid (r.U.length = r.N.length) := OK.out.us
      have hul : r.U.length ≤ 20 := by have := hus.out; omega
      clear hok
      have m1 : Hid True := trivial
      have m2 : Hid True := trivial
      have m3 : Hid True := trivial
      have m4 : Hid True := trivial
      have m5 : Hid True := trivial
      have m6 : Hid True := trivial
      have m7 : Hid True := trivial
      have m8 : Hid True := trivial
      go_enter Try.func26, Try.ntmps26
      go_wp2_with (first | (clear m1; refine wpList_box_v rfl 29 _ rfl [.slice a r.N.length cap, .slice c r.U.length dc, .int .i64 r.A] rfl ?_; intro b2 w1 hb2 hw2 hB1 V2; have hz1 := hB1.size) | (clear m2; refine wpList_alloc_v rfl 29 rfl _ zeroRg ?_; intro b4 w2 hb4 hw4 hB2 V4; have hz2 := hB2.size; replace V2 := vblk_grow V2 (hB2.mono (Nat.le_refl _)); have hB := hB1.trans (hB2.mono hz1); obtain ⟨c0, c1, c2⟩ := cells3 V2) | (clear m3; go_at_call 14; refine (specRingOk_any r _ _ _ (R.out.grow hB)).mono ?_; rintro er w3 ⟨rfl, hB3⟩; rw [HK.out]; have hz3 := hB3.size; replace V2 := vblk_grow V2 hB3; replace V4 := vblk_grow V4 hB3; replace hB := hB.trans (hB3.mono (by omega)); clear c0 c1 c2; obtain ⟨c0, c1, c2⟩ := cells3 V2) | (clear m4; go_at_call 46; refine (l8Copy_any r _ _ _ (R.out.grow hB) (by omega) (by omega)).mono ?_; rintro er w4 ⟨vN, vU, rfl, o, hB4⟩; have hz4 := hB4.size; replace V2 := vblk_grow V2 hB4; replace V4 := vblk_grow V4 hB4; replace hB := hB.trans (hB4.mono (by omega)); replace o := o.wide (lo' := w.heap.size) (by omega) (Nat.le_refl _); obtain ⟨a4, n4, k4, rfl⟩ := o.n.slice; obtain ⟨e4, f4, g4, rfl⟩ := o.u.slice) | (clear m5; refine wpList_alloc_v rfl 29 rfl _ zeroRg ?_; intro b6 w5 hb6 hw6 hB5 V6; have hz5 := hB5.size; replace V4 := vblk_grow V4 hB5; replace o := o.grow hB5; replace hB := hB.trans (hB5.mono (by omega))) | (clear m6; refine wpList_store_v rfl 29 _ _ rfl b6 [.slice a4 n4 k4, .slice e4 f4 g4, .int .i64 r.A] rfl rfl sizeRg V6 rfl (by simp [Value.oneCell']) ?_; intro w6 hO6 X6; have hz6 := hO6.1; replace o := o.only hO6 V6 (by decide) (by decide); replace V4 := vblk_only V4 hO6 (by omega); replace hB := hB.trans (hO6.2.2 _ (by omega)); replace V6 := X6; clear X6; clear c0 c1 c2; obtain ⟨c0, c1, c2⟩ := cells3 V6) | (clear m7; go_at_call 60; refine (l8Turn_zero r HN.out _ _ b6 w.heap.size _ _ o V6).mono ?_; rintro er wq ⟨rfl, hq⟩; subst wq) | (clear m8; refine wpList_store_v rfl 29 _ _ rfl b4 [.slice a4 n4 k4, .slice e4 f4 g4, .int .i64 r.A] rfl rfl sizeRg V4 rfl (by simp [Value.oneCell']) ?_; intro w8 hO8 X8; have hz8 := hO8.1; replace o := o.only hO8 V4 (by decide) (by decide); replace hB := hB.trans (hO8.2.2 _ (by omega)); replace V4 := X8; clear X8) | (fail))
      exact row_ct rfl rfl rfl V4 Try.underlying29 sizeRg rfl ⟨_, _, rfl, o.top, hB⟩
    · have e1 : tuR r = ⟨r.N, (turned r).1, ((turned r).2 : Int)⟩ := by unfold tuR; rw [if_pos hok, if_neg hn]
      have e2 : tuS r = (r.N[(turned r).2]?).getD ⟨#[]⟩ := by unfold tuS; rw [if_pos hok, if_neg hn]
      rw [e1, e2]
      clear e1 e2
      obtain ⟨T, hT⟩ := hid_ex (turned r)
      rw [hT.out]
      obtain ⟨S, hS⟩ := hid_ex ((r.N[T.2]?).getD ⟨#[]⟩)
      rw [hS.out]
      have HK : Hid (ringB r = true) := hok
      have OK : Hid (ROk r) := ringB_iff.1 hok
      have hle := OK.out.le
      have hus : Hid (r.U.length = r.N.length) := OK.out.us
      have hul : r.U.length ≤ 20 := by have := hus.out; omega
      clear hok
      have hA0 : Hid (0 ≤ r.A) := OK.out.a0
      have hA1 : Hid (r.A < r.N.length) := by have := OK.out.a1; unfold Hid; omega
      have m1 : Hid True := trivial
      have m2 : Hid True := trivial
      have m3 : Hid True := trivial
      have m4 : Hid True := trivial
      have m5 : Hid True := trivial
      have m6 : Hid True := trivial
      have m7 : Hid True := trivial
      have m8 : Hid True := trivial
      go_enter Try.func26, Try.ntmps26
      go_wp2_with (first | (clear m1; refine wpList_box_v rfl 29 _ rfl [.slice a r.N.length cap, .slice c r.U.length dc, .int .i64 r.A] rfl ?_; intro b2 w1 hb2 hw2 hB1 V2; have hz1 := hB1.size) | (clear m2; refine wpList_alloc_v rfl 29 rfl _ zeroRg ?_; intro b4 w2 hb4 hw4 hB2 V4; have hz2 := hB2.size; replace V2 := vblk_grow V2 (hB2.mono (Nat.le_refl _)); have hB := hB1.trans (hB2.mono hz1); obtain ⟨c0, c1, c2⟩ := cells3 V2) | (clear m3; go_at_call 14; refine (specRingOk_any r _ _ _ (R.out.grow hB)).mono ?_; rintro er w3 ⟨rfl, hB3⟩; rw [HK.out]; have hz3 := hB3.size; replace V2 := vblk_grow V2 hB3; replace V4 := vblk_grow V4 hB3; replace hB := hB.trans (hB3.mono (by omega)); clear c0 c1 c2; obtain ⟨c0, c1, c2⟩ := cells3 V2) | (clear m4; go_at_call 46; refine (l8Copy_any r _ _ _ (R.out.grow hB) (by omega) (by omega)).mono ?_; rintro er w4 ⟨vN, vU, rfl, o, hB4⟩; have hz4 := hB4.size; replace V2 := vblk_grow V2 hB4; replace V4 := vblk_grow V4 hB4; replace hB := hB.trans (hB4.mono (by omega)); replace o := o.wide (lo' := w.heap.size) (by omega) (Nat.le_refl _); obtain ⟨a4, n4, k4, rfl⟩ := o.n.slice; obtain ⟨e4, f4, g4, rfl⟩ := o.u.slice) | (clear m5; refine wpList_alloc_v rfl 29 rfl _ zeroRg ?_; intro b6 w5 hb6 hw6 hB5 V6; have hz5 := hB5.size; replace V4 := vblk_grow V4 hB5; replace o := o.grow hB5; replace hB := hB.trans (hB5.mono (by omega))) | (clear m6; refine wpList_store_v rfl 29 _ _ rfl b6 [.slice a4 n4 k4, .slice e4 f4 g4, .int .i64 r.A] rfl rfl sizeRg V6 rfl (by simp [Value.oneCell']) ?_; intro w6 hO6 X6; have hz6 := hO6.1; replace o := o.only hO6 V6 (by decide) (by decide); replace V4 := vblk_only V4 hO6 (by omega); replace hB := hB.trans (hO6.2.2 _ (by omega)); replace V6 := X6; clear X6; clear c0 c1 c2; obtain ⟨c0, c1, c2⟩ := cells3 V6) | (clear m7; go_at_call 60; refine (l8Turn_any r _ _ b6 w.heap.size _ _ o V6 (by omega) (by omega) (by omega) hus.out hA0.out hA1.out).mono ?_; rintro er w7 ⟨rfl, t7⟩; rw [hT.out] at t7 ⊢; rw [hS.out]; clear o V6; have o : OwnR w7 w.heap.size _ _ _ ⟨r.N, T.1, (T.2 : Int)⟩ := ⟨t7.n, t7.u⟩; have V6 := t7.v; have hT7 := t7.t; have hz7 := hT7.size; replace V4 := hT7.vblk V4 (by omega) (by decide) (by decide); replace hB := hB.trans (hT7.below (Nat.le_refl _) (by omega)); clear c0 c1 c2; obtain ⟨c0, c1, c2⟩ := cells3 V6) | (clear m8; refine wpList_store_v rfl 29 _ _ rfl b4 [.slice a4 n4 k4, .slice e4 f4 g4, .int .i64 T.2] rfl rfl sizeRg V4 rfl (by simp [Value.oneCell']) ?_; intro w8 hO8 X8; have hz8 := hO8.1; replace o := o.only hO8 V4 (by decide) (by decide); replace hB := hB.trans (hO8.2.2 _ (by omega)); replace V4 := X8; clear X8) | (fail))
      exact row_ct rfl rfl rfl V4 Try.underlying29 sizeRg rfl ⟨_, _, rfl, o.top, hB⟩
  · have e1 : tuR r = Rg.zero := if_neg hok
    have e2 : tuS r = ⟨#[]⟩ := if_neg hok
    rw [e1, e2]
    have HK : Hid (ringB r = false) := ringB_not hok
    clear hok e1 e2
    have m1 : Hid True := trivial
    have m2 : Hid True := trivial
    have m3 : Hid True := trivial
    have m4 : Hid True := trivial
    go_enter Try.func26, Try.ntmps26
    go_wp2_with (first | (clear m1; refine wpList_box_v rfl 29 _ rfl [.slice a r.N.length cap, .slice c r.U.length dc, .int .i64 r.A] rfl ?_; intro b2 w1 hb2 hw2 hB1 V2; have hz1 := hB1.size) | (clear m2; refine wpList_alloc_v rfl 29 rfl _ zeroRg ?_; intro b4 w2 hb4 hw4 hB2 V4; have hz2 := hB2.size; replace V2 := vblk_grow V2 (hB2.mono (Nat.le_refl _)); have hB := hB1.trans (hB2.mono hz1); obtain ⟨c0, c1, c2⟩ := cells3 V2) | (clear m3; go_at_call 14; refine (specRingOk_any r _ _ _ (R.out.grow hB)).mono ?_; rintro er w3 ⟨rfl, hB3⟩; rw [HK.out]; have hz3 := hB3.size; replace V2 := vblk_grow V2 hB3; replace V4 := vblk_grow V4 hB3; replace hB := hB.trans (hB3.mono (by omega)); clear c0 c1 c2; obtain ⟨c0, c1, c2⟩ := cells3 V2) | (clear m4; refine wpList_store_v rfl 29 _ _ rfl b4 [.slice none 0 0, .slice none 0 0, .int .i64 0] rfl rfl sizeRg V4 rfl (by simp [Value.oneCell']) ?_; intro w4 hO4 X4; have hz4 := hO4.1; replace hB := hB.trans (hO4.2.2 _ (by omega)); replace V4 := X4; clear X4) | (fail))
    exact row_ct rfl rfl rfl V4 Try.underlying29 sizeRg rfl ⟨_, _, rfl, ownR_zero _ _ _, hB⟩
end Go.Proofs.Ytgcgofnjaipndaa.rg
