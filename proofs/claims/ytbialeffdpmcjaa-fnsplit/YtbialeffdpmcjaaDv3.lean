/- What the laws of chapter 7 draw. -/
import Derived.Test.YtbialeffdpmcjaaDv2
namespace Go.Proofs.Ytbialeffdpmcjaa.draw
open Go.ChangeShapes Go.WideShapes Go.ChangeAt Go.RowKit
open Go.Proofs.Ytbialeffdpmcjaa.ce Go.Proofs.Ytbialeffdpmcjaa.sx
set_option linter.unusedVariables false

/-- a split that was drawn lies in its variable b5; the result's variable b2 -/
structure Ev (w w2 W : World) (p : Nat) (a0 : Option Addr) (len cap b2 b5 : Nat) (n : Int) (v : Value) (ks : List Int) : Prop where
  cur : Cur W p a0 len cap
  rd : RdI W W.heap.size v ks
  ab : Abv w2.heap.size v
  pw : p < w2.heap.size
  var : VBlk W b5 27 [.int .i64 n, v]
  res : VBlk W b2 27 [.int .i64 0, .slice none 0 0]
  low : Below w.heap.size w W
  p5 : p < b5
  p2 : b2 < p
  l2 : w.heap.size ≤ b2
  q2 : b2 < w2.heap.size
theorem Ev.drawn {w w2 W W' : World} {p : Nat} {a0 : Option Addr} {len cap b2 b5 : Nat} {n : Int} {v : Value} {ks : List Int} (h : Ev w w2 W p a0 len cap b2 b5 n v ks) (g : W.grownBy W' (some p)) (hc : Cur W' p a0 len cap) : Ev w w2 W' p a0 len cap b2 b5 n v ks :=
  ⟨hc, rd_gb7 h.rd h.ab h.pw g, h.ab, h.pw, vblk_gb7 h.var g (by have := h.p5; omega), vblk_gb7 h.res g (by have := h.p2; omega), h.low.grown g h.low.size (fun k hk => by cases hk; have := h.p2; have := h.l2; omega), h.p5, h.p2, h.l2, h.q2⟩
theorem Ev.drew {w w2 W : World} {p : Nat} {a0 : Option Addr} {len cap b2 b5 : Nat} {n : Int} {v : Value} {ks : List Int} (h : Ev w w2 W p a0 len cap b2 b5 n v ks) : Ev w w2 W.drew p a0 len cap b2 b5 n v ks :=
  ⟨cur_below h.cur ((Below.refl W.heap.size W).drew) h.cur.1, rd_below7 h.rd ((Below.refl W.heap.size W).drew), h.ab, h.pw, h.var, h.res, h.low.drew, h.p5, h.p2, h.l2, h.q2⟩
theorem Ev.rdo {w w2 W W' : World} {p : Nat} {a0 : Option Addr} {len cap b2 b5 : Nat} {n : Int} {v : Value} {ks : List Int} (h : Ev w w2 W p a0 len cap b2 b5 n v ks) (o : Only b2 W W') : RdI W' W'.heap.size v ks := by
  obtain ⟨a, cap, e, h1, h2, h3⟩ := h.rd.fits
  refine ⟨a, cap, e, h1, h2, fun hn => ?_⟩
  obtain ⟨b, off, e2, h4, h5⟩ := h3 hn
  have := h.ab b off none ks.length cap (by rw [e, e2])
  have := h.q2
  exact ⟨b, off, e2, by rw [o.1]; exact h4, range_of h5 (o.2.1 b (by omega))⟩
theorem Ev.lowo {w w2 W W' : World} {p : Nat} {a0 : Option Addr} {len cap b2 b5 : Nat} {n : Int} {v : Value} {ks : List Int} (h : Ev w w2 W p a0 len cap b2 b5 n v ks) (o : Only b2 W W') : Below w.heap.size w W' := h.low.trans (o.2.2 _ h.l2)
theorem rd_only7 {W W' : World} {lo b2 : Nat} {v : Value} {ks : List Int} (r : RdI W W.heap.size v ks) (ab : Abv lo v) (hb : b2 < lo) (o : Only b2 W W') : RdI W' W'.heap.size v ks := by
  obtain ⟨a, cap, e, h1, h2, h3⟩ := r.fits
  refine ⟨a, cap, e, h1, h2, fun hn => ?_⟩
  obtain ⟨b, off, e2, h4, h5⟩ := h3 hn
  have := ab b off none ks.length cap (by rw [e, e2])
  exact ⟨b, off, e2, by rw [o.1]; exact h4, range_of h5 (o.2.1 b (by omega))⟩
theorem max_one (n : Int) (h1 : n ≤ 128) (w : World) : Calls Try.prog 73 #[.int .i64 1, .int .i64 n] w fun e w' => ∃ x : Int, e = .returned (.int .i64 x) ∧ 1 ≤ x ∧ x ≤ 128 ∧ w' = w := by
  by_cases h : (1 : Int) > n
  · go_enter Try.func73, Try.ntmps73
    go_wp2
    go_ret
    exact ⟨_, rfl, by omega, by omega, rfl⟩
  · go_enter Try.func73, Try.ntmps73
    go_wp2
    go_ret
    exact ⟨_, rfl, by omega, by omega, rfl⟩

set_option maxRecDepth 100000 in
set_option maxHeartbeats 4000000 in
theorem drawStored_any (w : World) (a0 : Option Addr) (len cap : Nat) (hcode : CodeAt w a0 len) :
    Calls Try.prog 35 #[.slice a0 len cap] w fun e w' => ∃ (n : Int) (v : Value) (ks : List Int) (h : Int), e = .returned (.tuple #[.agg #[.int .i64 n, v], .int .i64 h]) ∧ 0 ≤ n ∧ n ≤ 128 ∧ ks.length ≤ 3000 ∧ (∀ k ∈ ks, k ≤ 65536) ∧ RdI w' w'.heap.size v ks ∧ Abv w.heap.size v ∧ -1 ≤ h ∧ h ≤ 4611686018427387904 ∧ Below w.heap.size w w' := by
  have m1 : Hid True := trivial
  have m2 : Hid True := trivial
  have m3 : Hid True := trivial
  have m4 : Hid True := trivial
  go_enter Try.func35, Try.ntmps35
  go_wp2_with (first | (clear m1; refine wpList_alloc_v rfl 27 rfl _ zeroSp ?_; intro b2 w1 hb2 hw1 hB1 hV1; have hz1 := hB1.size; have hcode1 := code7_below hcode hB1) | (go_at_call 68; refine (new_cur _ _ _ _ hcode1).mono ?_; rintro er w2 ⟨p, rfl, hp, hc, hB2⟩; have hz2 := hB2.size; have hpw := hc.1) | (go_at_call 69; refine (l7Draw_any w2 p a0 len cap hc).mono ?_; rintro er w3 ⟨n, v, ks, rfl, hn0, hn1, hlk, hkk, rd, ab, hc3, hg3⟩; have hz3 := hg3.size; obtain ⟨va, vc, rfl⟩ := rd.form; have hB3 : Below w.heap.size w w3 := (hB1.trans (hB2.mono hz1)).grown hg3 (by omega) (fun k hk => by cases hk; omega); have hV3 := vblk_gb7 (hV1.of (hB2.block b2 hw1)) hg3 (by omega)) | (clear m2; refine wpList_alloc_v rfl 27 rfl _ zeroSp ?_; intro b5 w4 hb5 hw4 hB4 hV4; have hz4 := hB4.size) | (clear m3; refine wpList_store_v rfl 27 _ _ rfl b5 [.int .i64 n, .slice va ks.length vc] rfl rfl sizeSp hV4 rfl (by simp [Value.oneCell']) ?_; intro w5 hO5 hV5; have hz5 := hO5.1; have hB45 : Below w3.heap.size w3 w5 := hB4.trans (hO5.2.2 _ hb5); have hv : Hid (Ev w w2 w5 p a0 len cap b2 b5 n (.slice va ks.length vc) ks) := (⟨cur_below hc3 hB45 (by omega), rd_below7 rd hB45, ab, hpw, hV5, hV3.of (hB45.block b2 (by omega)), hB3.trans (hB45.mono (by omega)), by omega, by omega, by omega, by omega⟩ : Ev w w2 w5 p a0 len cap b2 b5 n (.slice va ks.length vc) ks); clear hV5 hV4 rd; obtain ⟨c0, c1⟩ := sp_cells hv.out.var) | (clear m4; go_at_call 70; refine (below_from w5 w5 p a0 len cap _ (by omega) hv.out.cur (World.grownBy.refl _ _)).mono ?_; rintro er w6 ⟨x, rfl, hx0, hx1, hc_, hg_⟩; replace hv : Hid (Ev w w2 w6 p a0 len cap b2 b5 n (.slice va ks.length vc) ks) := hv.out.drawn hg_ hc_; clear c0 c1 hg_ hc_; obtain ⟨c0, c1⟩ := sp_cells hv.out.var) | (go_at_call 71; refine (once_from w6 w6 p a0 len cap _ (by omega) hv.out.cur (World.grownBy.refl _ _)).mono ?_; rintro er w7 ⟨z, rfl, hc_, hg_⟩; replace hv : Hid (Ev w w2 w7 p a0 len cap b2 b5 n (.slice va ks.length vc) ks) := hv.out.drawn hg_ hc_; clear c0 c1 hg_ hc_; obtain ⟨c0, c1⟩ := sp_cells hv.out.var; cases z) | (go_at_call 72; refine (hash7_from w7 w7 p a0 len cap hv.out.cur (World.grownBy.refl _ _)).mono ?_; rintro er w8 ⟨y, rfl, hy0, hy1, hc_, hg_⟩; replace hv : Hid (Ev w w2 w8 p a0 len cap b2 b5 n (.slice va ks.length vc) ks) := hv.out.drawn hg_ hc_; clear c0 c1 hg_ hc_; obtain ⟨c0, c1⟩ := sp_cells hv.out.var) | (refine wpList_store_v rfl 27 _ _ rfl b2 [.int .i64 n, .slice va ks.length vc] rfl rfl sizeSp hv.out.res rfl (by simp [Value.oneCell']) ?_; intro w9 hO9 hV9) | (fail))
  · exact row_cell_tmp' rfl rfl rfl hV9 Try.underlying27 sizeSp rfl ⟨n, _, ks, x, rfl, hn0, hn1, hlk, hkk, hv.out.rdo hO9, (fun g off s m c e => Nat.le_trans (by omega) (ab g off s m c e)), by omega, by omega, hv.out.lowo hO9⟩
  · exact row_cell_tmp' rfl rfl rfl hV9 Try.underlying27 sizeSp rfl ⟨n, _, ks, y, rfl, hn0, hn1, hlk, hkk, hv.out.rdo hO9, (fun g off s m c e => Nat.le_trans (by omega) (ab g off s m c e)), hy0, hy1, hv.out.lowo hO9⟩

set_option maxRecDepth 100000 in
set_option maxHeartbeats 4000000 in
theorem drawOpened_any (w : World) (a0 : Option Addr) (len cap : Nat) (hcode : CodeAt w a0 len) :
    Calls Try.prog 36 #[.slice a0 len cap] w fun e w' => ∃ (n : Int) (v : Value) (ks : List Int) (h : Int), e = .returned (.tuple #[.agg #[.int .i64 n, v], .int .i64 h]) ∧ 0 ≤ n ∧ n ≤ 128 ∧ ks.length ≤ 3000 ∧ (∀ k ∈ ks, k ≤ 65536) ∧ RdI w' w'.heap.size v ks ∧ Abv w.heap.size v ∧ -1 ≤ h ∧ h ≤ 130 ∧ Below w.heap.size w w' := by
  have m1 : Hid True := trivial
  have m2 : Hid True := trivial
  have m3 : Hid True := trivial
  have m4 : Hid True := trivial
  go_enter Try.func36, Try.ntmps36
  go_wp2_with (first | (clear m1; refine wpList_alloc_v rfl 27 rfl _ zeroSp ?_; intro b2 w1 hb2 hw1 hB1 hV1; have hz1 := hB1.size; have hcode1 := code7_below hcode hB1) | (go_at_call 68; refine (new_cur _ _ _ _ hcode1).mono ?_; rintro er w2 ⟨p, rfl, hp, hc, hB2⟩; have hz2 := hB2.size; have hpw := hc.1) | (go_at_call 69; refine (l7Draw_any w2 p a0 len cap hc).mono ?_; rintro er w3 ⟨n, v, ks, rfl, hn0, hn1, hlk, hkk, rd, ab, hc3, hg3⟩; have hz3 := hg3.size; obtain ⟨va, vc, rfl⟩ := rd.form; have hB3 : Below w.heap.size w w3 := (hB1.trans (hB2.mono hz1)).grown hg3 (by omega) (fun k hk => by cases hk; omega); have hV3 := vblk_gb7 (hV1.of (hB2.block b2 hw1)) hg3 (by omega)) | (clear m2; refine wpList_alloc_v rfl 27 rfl _ zeroSp ?_; intro b5 w4 hb5 hw4 hB4 hV4; have hz4 := hB4.size) | (clear m3; refine wpList_store_v rfl 27 _ _ rfl b5 [.int .i64 n, .slice va ks.length vc] rfl rfl sizeSp hV4 rfl (by simp [Value.oneCell']) ?_; intro w5 hO5 hV5; have hz5 := hO5.1; have hB45 : Below w3.heap.size w3 w5 := hB4.trans (hO5.2.2 _ hb5); have hv : Hid (Ev w w2 w5 p a0 len cap b2 b5 n (.slice va ks.length vc) ks) := (⟨cur_below hc3 hB45 (by omega), rd_below7 rd hB45, ab, hpw, hV5, hV3.of (hB45.block b2 (by omega)), hB3.trans (hB45.mono (by omega)), by omega, by omega, by omega, by omega⟩ : Ev w w2 w5 p a0 len cap b2 b5 n (.slice va ks.length vc) ks); clear hV5 hV4 rd; obtain ⟨c0, c1⟩ := sp_cells hv.out.var) | (fail))
  refine wp_region_held_drew (S := fun w' => (w'.cell? ⟨b5, 0, none⟩ = some (.int .i64 n) ∧ w'.cell? ⟨b5, 1, none⟩ = some (.slice va ks.length vc))) (by kernel_rfl) ⟨c0, c1⟩ (fun hHeld => ?_)
  refine takeW 0 10 (.agg #[.int .i64 n, .slice va ks.length vc]) rfl (by kernel_rfl) (by kernel_rfl) (by kernel_rfl) (fun _ _ _ h => h) (by kernel_rfl) (fun w' hS => by have z0 := hS.1; have z1 := hS.2; go_simp) hHeld ?_
  go_frame
  refine takeW 1 11 (.pointer (some ⟨p, 0, none⟩)) rfl (by kernel_rfl) (by kernel_rfl) (by kernel_rfl) (fun _ _ _ h => h) (by kernel_rfl) (fun w' hS => by go_simp) hHeld ?_
  go_frame
  refine takeW 2 12 (.pointer (some ⟨b5, 0, none⟩)) rfl (by kernel_rfl) (by kernel_rfl) (by kernel_rfl) (fun _ _ _ h => h) (by kernel_rfl) (fun w' hS => by go_simp) hHeld ?_
  go_frame
  refine takeW 3 13 (.int .i64 n) rfl (by kernel_rfl) (by kernel_rfl) (by kernel_rfl) (fun _ _ _ h => h) (by kernel_rfl) (fun w' hS => by have z0 := hS.1; go_simp) hHeld ?_
  go_frame
  replace hv : Hid (Ev w w2 w5.drew p a0 len cap b2 b5 n (.slice va ks.length vc) ks) := hv.out.drew
  refine wpAnyH_ready (rs := [4]) (by kernel_rfl) (by simp) ?_
  refine AllReadyH.cons rfl (fun K hK => ?_) AllReadyH.nil
  go_simp
  go_at_call 73
  refine (max_one n hn1 _).mono ?_
  rintro er wq ⟨x, rfl, hx0, hx1, hq⟩
  subst wq
  refine hK.out _ _ hHeld (fun _ => ?_)
  try go_frame
  have hxs : wrap64 (x + 2) = x + 2 := IntWalk.wrap64_in _ ⟨by omega, by omega⟩
  have hxt : IntKind.i64.wrap (x + 2) = x + 2 := by rw [IntKind.wrap_i64]; omega
  refine takeW 5 15 (.int .i64 (x + 2)) rfl (by kernel_rfl) (by kernel_rfl) (by kernel_rfl) (fun _ _ _ h => h) (by kernel_rfl) (fun w' hS => by go_simp) hHeld ?_
  go_frame
  refine wpAnyH_ready (rs := [6]) (by kernel_rfl) (by simp) ?_
  refine AllReadyH.cons rfl (fun K hK => ?_) AllReadyH.nil
  go_simp
  go_at_call 70
  refine (below_from w5.drew w5.drew p a0 len cap (x + 2) (by omega) hv.out.cur (World.grownBy.refl _ _)).mono ?_
  rintro er w6 ⟨y, rfl, hy0, hy1, hc_, hg_⟩
  replace hv : Hid (Ev w w2 w6 p a0 len cap b2 b5 n (.slice va ks.length vc) ks) := hv.out.drawn hg_ hc_
  clear c0 c1 hg_ hc_
  obtain ⟨c0, c1⟩ := sp_cells hv.out.var
  have hH6 : (w6.cell? ⟨b5, 0, none⟩ = some (.int .i64 n) ∧ w6.cell? ⟨b5, 1, none⟩ = some (.slice va ks.length vc)) := ⟨c0, c1⟩
  refine hK.out _ _ hH6 (fun _ => ?_)
  try go_frame
  have hys : wrap64 (y - 1) = y - 1 := IntWalk.wrap64_in _ ⟨by omega, by omega⟩
  have hyt : IntKind.i64.wrap (y - 1) = y - 1 := by rw [IntKind.wrap_i64]; omega
  refine takeW 7 17 (.int .i64 (y - 1)) rfl (by kernel_rfl) (by kernel_rfl) (by kernel_rfl) (fun _ _ _ h => h) (by kernel_rfl) (fun w' hS => by go_simp) hH6 ?_
  go_frame
  refine wpAnyH_ready (rs := [8]) (by kernel_rfl) (by simp) ?_
  refine AllReadyH.cons rfl (fun K hK => ?_) AllReadyH.nil
  refine step_store_v rfl 27 _ _ rfl b2 [.int .i64 n, .slice va ks.length vc] rfl rfl sizeSp hv.out.res rfl (by simp [Value.oneCell']) ?_
  intro w9 hO9 hV9
  have hq5 := hv.out.p5
  have hq2 := hv.out.p2
  have hH9 : (w9.cell? ⟨b5, 0, none⟩ = some (.int .i64 n) ∧ w9.cell? ⟨b5, 1, none⟩ = some (.slice va ks.length vc)) := ⟨(World.cell?_of_block (w := w6) (w' := w9) (a := ⟨b5, 0, none⟩) (hO9.2.1 b5 (by omega))).trans hH6.1, (World.cell?_of_block (w := w6) (w' := w9) (a := ⟨b5, 1, none⟩) (hO9.2.1 b5 (by omega))).trans hH6.2⟩
  refine hK.out _ _ hH9 (fun _ => ?_)
  try go_frame
  refine takeW 9 3 (.int .i64 (y - 1)) rfl (by kernel_rfl) (by kernel_rfl) (by kernel_rfl) (fun _ _ _ h => h) (by kernel_rfl) (fun w' hS => by go_simp) hH9 ?_
  go_frame
  refine wpAnyH_done (by kernel_rfl) ?_ _
  go_wp2
  exact row_cell_tmp' rfl rfl rfl hV9 Try.underlying27 sizeSp rfl ⟨n, _, ks, y - 1, rfl, hn0, hn1, hlk, hkk, hv.out.rdo hO9, (fun g off s m c e => Nat.le_trans (by omega) (ab g off s m c e)), by omega, by omega, hv.out.lowo hO9⟩

set_option maxRecDepth 100000 in
set_option maxHeartbeats 4000000 in
theorem drawBehind_any (w : World) (a0 : Option Addr) (len cap : Nat) (hcode : CodeAt w a0 len) :
    Calls Try.prog 37 #[.slice a0 len cap] w fun e w' => ∃ (n : Int) (v : Value) (ks : List Int) (h : Int), e = .returned (.tuple #[.agg #[.int .i64 n, v], .int .i64 h]) ∧ 0 ≤ n ∧ n ≤ 128 ∧ ks.length ≤ 3000 ∧ (∀ k ∈ ks, k ≤ 65536) ∧ RdI w' w'.heap.size v ks ∧ Abv w.heap.size v ∧ -1 ≤ h ∧ h ≤ 130 ∧ Below w.heap.size w w' := by
  have m1 : Hid True := trivial
  go_enter Try.func37, Try.ntmps37
  go_wp2_with (first | (clear m1; refine wpList_alloc_v rfl 27 rfl _ zeroSp ?_; intro b2 w1 hb2 hw1 hB1 hV1; have hz1 := hB1.size; have hcode1 := code7_below hcode hB1) | (go_at_call 36; refine (drawOpened_any w1 a0 len cap hcode1).mono ?_; rintro er w3 ⟨n, v, ks, h, rfl, hn0, hn1, hlk, hkk, rd, ab, hh0, hh1, hB3⟩; obtain ⟨va, vc, rfl⟩ := rd.form) | (refine wpList_store_v rfl 27 _ _ rfl b2 [.int .i64 n, .slice va ks.length vc] rfl rfl sizeSp (hV1.of (hB3.block b2 hw1)) rfl (by simp [Value.oneCell']) ?_; intro w9 hO9 hV9) | (fail))
  exact row_cell_tmp' rfl rfl rfl hV9 Try.underlying27 sizeSp rfl ⟨n, _, ks, h, rfl, hn0, hn1, hlk, hkk, rd_only7 rd ab hw1 hO9, (fun g off s m c e => Nat.le_trans hz1 (ab g off s m c e)), hh0, hh1, (hB1.trans (hB3.mono hz1)).trans (hO9.2.2 _ hb2)⟩

set_option maxRecDepth 100000 in
set_option maxHeartbeats 4000000 in
theorem drawPassed_any (w : World) (a0 : Option Addr) (len cap : Nat) (hcode : CodeAt w a0 len) :
    Calls Try.prog 38 #[.slice a0 len cap] w fun e w' => ∃ (n : Int) (v : Value) (ks : List Int) (h : Int), e = .returned (.tuple #[.agg #[.int .i64 n, v], .int .i64 h]) ∧ 0 ≤ n ∧ n ≤ 128 ∧ ks.length ≤ 3000 ∧ (∀ k ∈ ks, k ≤ 65536) ∧ RdI w' w'.heap.size v ks ∧ Abv w.heap.size v ∧ -1 ≤ h ∧ h ≤ 4611686018427387904 ∧ Below w.heap.size w w' := by
  have m1 : Hid True := trivial
  go_enter Try.func38, Try.ntmps38
  go_wp2_with (first | (clear m1; refine wpList_alloc_v rfl 27 rfl _ zeroSp ?_; intro b2 w1 hb2 hw1 hB1 hV1; have hz1 := hB1.size; have hcode1 := code7_below hcode hB1) | (go_at_call 35; refine (drawStored_any w1 a0 len cap hcode1).mono ?_; rintro er w3 ⟨n, v, ks, h, rfl, hn0, hn1, hlk, hkk, rd, ab, hh0, hh1, hB3⟩; obtain ⟨va, vc, rfl⟩ := rd.form) | (refine wpList_store_v rfl 27 _ _ rfl b2 [.int .i64 n, .slice va ks.length vc] rfl rfl sizeSp (hV1.of (hB3.block b2 hw1)) rfl (by simp [Value.oneCell']) ?_; intro w9 hO9 hV9) | (fail))
  exact row_cell_tmp' rfl rfl rfl hV9 Try.underlying27 sizeSp rfl ⟨n, _, ks, h, rfl, hn0, hn1, hlk, hkk, rd_only7 rd ab hw1 hO9, (fun g off s m c e => Nat.le_trans hz1 (ab g off s m c e)), hh0, hh1, (hB1.trans (hB3.mono hz1)).trans (hO9.2.2 _ hb2)⟩

set_option maxRecDepth 100000 in
set_option maxHeartbeats 4000000 in
theorem drawSplitOk_any (w : World) (a0 : Option Addr) (len cap : Nat) (hcode : CodeAt w a0 len) :
    Calls Try.prog 74 #[.slice a0 len cap] w fun e w' => ∃ (n : Int) (v : Value) (ks : List Int), e = .returned (.agg #[.int .i64 n, v]) ∧ 0 ≤ n ∧ n ≤ 128 ∧ ks.length ≤ 3000 ∧ (∀ k ∈ ks, k ≤ 65536) ∧ RdI w' w'.heap.size v ks ∧ Abv w.heap.size v ∧ Below w.heap.size w w' := by
  have m1 : Hid True := trivial
  have m2 : Hid True := trivial
  have m3 : Hid True := trivial
  have m4 : Hid True := trivial
  go_enter Try.func74, Try.ntmps74
  go_wp2_with (first | (clear m1; refine wpList_alloc_v rfl 27 rfl _ zeroSp ?_; intro b2 w1 hb2 hw1 hB1 hV1; have hz1 := hB1.size; have hcode1 := code7_below hcode hB1) | (go_at_call 68; refine (new_cur _ _ _ _ hcode1).mono ?_; rintro er w2 ⟨p, rfl, hp, hc, hB2⟩; have hz2 := hB2.size; have hpw := hc.1) | (go_at_call 69; refine (l7Draw_any w2 p a0 len cap hc).mono ?_; rintro er w3 ⟨n, v, ks, rfl, hn0, hn1, hlk, hkk, rd, ab, hc3, hg3⟩; have hz3 := hg3.size; obtain ⟨va, vc, rfl⟩ := rd.form; have hB3 : Below w.heap.size w w3 := (hB1.trans (hB2.mono hz1)).grown hg3 (by omega) (fun k hk => by cases hk; omega); have hV3 := vblk_gb7 (hV1.of (hB2.block b2 hw1)) hg3 (by omega)) | (refine wpList_store_v rfl 27 _ _ rfl b2 [.int .i64 n, .slice va ks.length vc] rfl rfl sizeSp hV3 rfl (by simp [Value.oneCell']) ?_; intro w9 hO9 hV9) | (fail))
  exact row_retv rfl rfl hV9 Try.underlying27 sizeSp rfl ⟨n, _, ks, rfl, hn0, hn1, hlk, hkk, rd_only7 rd ab (by omega) hO9, (fun g off s m c e => Nat.le_trans (by omega) (ab g off s m c e)), hB3.trans (hO9.2.2 _ hb2)⟩

set_option maxRecDepth 100000 in
set_option maxHeartbeats 4000000 in
theorem drawDoubled_any (w : World) (a0 : Option Addr) (len cap : Nat) (hcode : CodeAt w a0 len) :
    Calls Try.prog 44 #[.slice a0 len cap] w fun e w' => ∃ (n : Int) (v : Value) (ks : List Int), e = .returned (.agg #[.int .i64 n, v]) ∧ 0 ≤ n ∧ n ≤ 128 ∧ ks.length ≤ 3000 ∧ (∀ k ∈ ks, k ≤ 65536) ∧ RdI w' w'.heap.size v ks ∧ Abv w.heap.size v ∧ Below w.heap.size w w' := by
  have m1 : Hid True := trivial
  go_enter Try.func44, Try.ntmps44
  go_wp2_with (first | (clear m1; refine wpList_alloc_v rfl 27 rfl _ zeroSp ?_; intro b2 w1 hb2 hw1 hB1 hV1; have hz1 := hB1.size; have hcode1 := code7_below hcode hB1) | (go_at_call 74; refine (drawSplitOk_any w1 a0 len cap hcode1).mono ?_; rintro er w3 ⟨n, v, ks, rfl, hn0, hn1, hlk, hkk, rd, ab, hB3⟩; obtain ⟨va, vc, rfl⟩ := rd.form) | (refine wpList_store_v rfl 27 _ _ rfl b2 [.int .i64 n, .slice va ks.length vc] rfl rfl sizeSp (hV1.of (hB3.block b2 hw1)) rfl (by simp [Value.oneCell']) ?_; intro w9 hO9 hV9) | (fail))
  exact row_retv rfl rfl hV9 Try.underlying27 sizeSp rfl ⟨n, _, ks, rfl, hn0, hn1, hlk, hkk, rd_only7 rd ab hw1 hO9, (fun g off s m c e => Nat.le_trans hz1 (ab g off s m c e)), (hB1.trans (hB3.mono hz1)).trans (hO9.2.2 _ hb2)⟩
end Go.Proofs.Ytbialeffdpmcjaa.draw
