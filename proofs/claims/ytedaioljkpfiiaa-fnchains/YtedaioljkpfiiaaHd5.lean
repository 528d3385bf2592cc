/- Contract of l5Alone for a hand that puts. -/
import Derived.Test.YtedaioljkpfiiaaHd4
namespace Go.Proofs.Ytedaioljkpfiiaa.ce
open Go.ChangeShapes Go.WideShapes Go.ChangeAt Go.RowKit
set_option linter.unusedVariables false

theorem sizeH : (Try.prog.info? 73).map (·.size) = some 8 := by kernel_rfl
theorem zeroH (w : World) : (zeroValue 73).run Try.prog w = .ok (.agg (hv ⟨0, 0, 0, 0, 0, 0, 0, 0⟩).toArray) w := Try.zeroValue73 w
theorem hv_one (d : Hd) : ∀ v ∈ hv d, v.oneCell' = true := by
  intro v h
  simp only [hv, List.mem_cons, List.not_mem_nil, or_false] at h
  rcases h with rfl | rfl | rfl | rfl | rfl | rfl | rfl | rfl <;> rfl
theorem results_tmp_cell {fn : Func} {u p : Tmp} {ty : TypeId} (h : fn.results = #[.tmp u, .cell p ty]) (tmps : Array Value) (P : Program) (w : World) :
    (results fn tmps).run P w =
      ((asAddr (tmps.getD p undef)).run P w).andThen fun a w₁ => ((loadVar ty a).run P w₁).andThen fun v w₂ => .ok (.tuple #[tmps.getD u undef, v]) w₂ := by
  simp only [results, h]
  simp [Sem.run_bind, Result.andThen]
theorem row_tmp_cell {fn : Func} {u p : Tmp} {ty : TypeId} (h : fn.results = #[.tmp u, .cell p ty]) {R : Ending → World → Prop} {a : Act} {w : World} {b : Nat} {t : TypeId} {vs : List Value} {fs : Array Field} {x : Value}
    (hx : a.tmps.getD u undef = x) (hp : a.tmps.getD p undef = .pointer (some ⟨b, 0, none⟩)) (hb : VBlk w b t vs) (hu : Try.prog.underlying ty = some (.struct fs))
    (hi : (Try.prog.info? ty).map (·.size) = some vs.length) (hdf : a.defers = []) (hR : R (.returned (.tuple #[x, .agg vs.toArray])) w) : bodyPost Try.prog fn R .ret a w := by
  have hl := run_loadVar_row (P := Try.prog) w b t ty vs.toArray (0, 0) _ hb hu rfl (by rw [hi]; simp)
  refine bodyPost_ret ?_ hdf hR
  rw [results_tmp_cell h, hp, hx]
  simp [asAddr, hl]

theorem HB.drew {w : World} {q : Nat} {d : Hd} (h : HB w q d) : HB w.drew q d := ⟨h.blk.drew⟩
theorem Only.drew {b : Nat} {w w' : World} (h : Only b w w') : Only b w w'.drew := ⟨h.1, h.2.1, fun B hB => (h.2.2 B hB).drew⟩
theorem fill8 {w : World} {b : Nat} {d0 : Hd} (h : HB w b d0) (k x y s l e o t : Int) :
    HB (World.drew (World.setCell (World.setCell (World.setCell (World.setCell (World.setCell (World.setCell (World.setCell (World.setCell w ⟨b, 0, none⟩ (Value.int IntKind.i64 k)) ⟨b, 1, none⟩ (Value.int IntKind.i64 x)) ⟨b, 2, none⟩ (Value.int IntKind.i64 y)) ⟨b, 3, none⟩ (Value.int IntKind.i64 s)) ⟨b, 4, none⟩ (Value.int IntKind.i64 l)) ⟨b, 5, none⟩ (Value.int IntKind.i64 e)) ⟨b, 6, none⟩ (Value.int IntKind.i64 o)) ⟨b, 7, none⟩ (Value.int IntKind.i64 t))) b ⟨k, x, y, s, l, e, o, t⟩ ∧ Only b w (World.drew (World.setCell (World.setCell (World.setCell (World.setCell (World.setCell (World.setCell (World.setCell (World.setCell w ⟨b, 0, none⟩ (Value.int IntKind.i64 k)) ⟨b, 1, none⟩ (Value.int IntKind.i64 x)) ⟨b, 2, none⟩ (Value.int IntKind.i64 y)) ⟨b, 3, none⟩ (Value.int IntKind.i64 s)) ⟨b, 4, none⟩ (Value.int IntKind.i64 l)) ⟨b, 5, none⟩ (Value.int IntKind.i64 e)) ⟨b, 6, none⟩ (Value.int IntKind.i64 o)) ⟨b, 7, none⟩ (Value.int IntKind.i64 t))) := by
  obtain ⟨k0, x0, y0, s0, l0, e0, o0, t0⟩ := d0
  have h0 : HB (World.setCell w ⟨b, 0, none⟩ (Value.int IntKind.i64 k)) b ⟨k, x0, y0, s0, l0, e0, o0, t0⟩ := h.set 0 k _ rfl
  have p0 : Only b w (World.setCell w ⟨b, 0, none⟩ (Value.int IntKind.i64 k)) := only_set w b 0 _
  have h1 : HB (World.setCell (World.setCell w ⟨b, 0, none⟩ (Value.int IntKind.i64 k)) ⟨b, 1, none⟩ (Value.int IntKind.i64 x)) b ⟨k, x, y0, s0, l0, e0, o0, t0⟩ := h0.set 1 x _ rfl
  have p1 : Only b w (World.setCell (World.setCell w ⟨b, 0, none⟩ (Value.int IntKind.i64 k)) ⟨b, 1, none⟩ (Value.int IntKind.i64 x)) := p0.trans (only_set _ b 1 _)
  have h2 : HB (World.setCell (World.setCell (World.setCell w ⟨b, 0, none⟩ (Value.int IntKind.i64 k)) ⟨b, 1, none⟩ (Value.int IntKind.i64 x)) ⟨b, 2, none⟩ (Value.int IntKind.i64 y)) b ⟨k, x, y, s0, l0, e0, o0, t0⟩ := h1.set 2 y _ rfl
  have p2 : Only b w (World.setCell (World.setCell (World.setCell w ⟨b, 0, none⟩ (Value.int IntKind.i64 k)) ⟨b, 1, none⟩ (Value.int IntKind.i64 x)) ⟨b, 2, none⟩ (Value.int IntKind.i64 y)) := p1.trans (only_set _ b 2 _)
  have h3 : HB (World.setCell (World.setCell (World.setCell (World.setCell w ⟨b, 0, none⟩ (Value.int IntKind.i64 k)) ⟨b, 1, none⟩ (Value.int IntKind.i64 x)) ⟨b, 2, none⟩ (Value.int IntKind.i64 y)) ⟨b, 3, none⟩ (Value.int IntKind.i64 s)) b ⟨k, x, y, s, l0, e0, o0, t0⟩ := h2.set 3 s _ rfl
  have p3 : Only b w (World.setCell (World.setCell (World.setCell (World.setCell w ⟨b, 0, none⟩ (Value.int IntKind.i64 k)) ⟨b, 1, none⟩ (Value.int IntKind.i64 x)) ⟨b, 2, none⟩ (Value.int IntKind.i64 y)) ⟨b, 3, none⟩ (Value.int IntKind.i64 s)) := p2.trans (only_set _ b 3 _)
  have h4 : HB (World.setCell (World.setCell (World.setCell (World.setCell (World.setCell w ⟨b, 0, none⟩ (Value.int IntKind.i64 k)) ⟨b, 1, none⟩ (Value.int IntKind.i64 x)) ⟨b, 2, none⟩ (Value.int IntKind.i64 y)) ⟨b, 3, none⟩ (Value.int IntKind.i64 s)) ⟨b, 4, none⟩ (Value.int IntKind.i64 l)) b ⟨k, x, y, s, l, e0, o0, t0⟩ := h3.set 4 l _ rfl
  have p4 : Only b w (World.setCell (World.setCell (World.setCell (World.setCell (World.setCell w ⟨b, 0, none⟩ (Value.int IntKind.i64 k)) ⟨b, 1, none⟩ (Value.int IntKind.i64 x)) ⟨b, 2, none⟩ (Value.int IntKind.i64 y)) ⟨b, 3, none⟩ (Value.int IntKind.i64 s)) ⟨b, 4, none⟩ (Value.int IntKind.i64 l)) := p3.trans (only_set _ b 4 _)
  have h5 : HB (World.setCell (World.setCell (World.setCell (World.setCell (World.setCell (World.setCell w ⟨b, 0, none⟩ (Value.int IntKind.i64 k)) ⟨b, 1, none⟩ (Value.int IntKind.i64 x)) ⟨b, 2, none⟩ (Value.int IntKind.i64 y)) ⟨b, 3, none⟩ (Value.int IntKind.i64 s)) ⟨b, 4, none⟩ (Value.int IntKind.i64 l)) ⟨b, 5, none⟩ (Value.int IntKind.i64 e)) b ⟨k, x, y, s, l, e, o0, t0⟩ := h4.set 5 e _ rfl
  have p5 : Only b w (World.setCell (World.setCell (World.setCell (World.setCell (World.setCell (World.setCell w ⟨b, 0, none⟩ (Value.int IntKind.i64 k)) ⟨b, 1, none⟩ (Value.int IntKind.i64 x)) ⟨b, 2, none⟩ (Value.int IntKind.i64 y)) ⟨b, 3, none⟩ (Value.int IntKind.i64 s)) ⟨b, 4, none⟩ (Value.int IntKind.i64 l)) ⟨b, 5, none⟩ (Value.int IntKind.i64 e)) := p4.trans (only_set _ b 5 _)
  have h6 : HB (World.setCell (World.setCell (World.setCell (World.setCell (World.setCell (World.setCell (World.setCell w ⟨b, 0, none⟩ (Value.int IntKind.i64 k)) ⟨b, 1, none⟩ (Value.int IntKind.i64 x)) ⟨b, 2, none⟩ (Value.int IntKind.i64 y)) ⟨b, 3, none⟩ (Value.int IntKind.i64 s)) ⟨b, 4, none⟩ (Value.int IntKind.i64 l)) ⟨b, 5, none⟩ (Value.int IntKind.i64 e)) ⟨b, 6, none⟩ (Value.int IntKind.i64 o)) b ⟨k, x, y, s, l, e, o, t0⟩ := h5.set 6 o _ rfl
  have p6 : Only b w (World.setCell (World.setCell (World.setCell (World.setCell (World.setCell (World.setCell (World.setCell w ⟨b, 0, none⟩ (Value.int IntKind.i64 k)) ⟨b, 1, none⟩ (Value.int IntKind.i64 x)) ⟨b, 2, none⟩ (Value.int IntKind.i64 y)) ⟨b, 3, none⟩ (Value.int IntKind.i64 s)) ⟨b, 4, none⟩ (Value.int IntKind.i64 l)) ⟨b, 5, none⟩ (Value.int IntKind.i64 e)) ⟨b, 6, none⟩ (Value.int IntKind.i64 o)) := p5.trans (only_set _ b 6 _)
  have h7 : HB (World.setCell (World.setCell (World.setCell (World.setCell (World.setCell (World.setCell (World.setCell (World.setCell w ⟨b, 0, none⟩ (Value.int IntKind.i64 k)) ⟨b, 1, none⟩ (Value.int IntKind.i64 x)) ⟨b, 2, none⟩ (Value.int IntKind.i64 y)) ⟨b, 3, none⟩ (Value.int IntKind.i64 s)) ⟨b, 4, none⟩ (Value.int IntKind.i64 l)) ⟨b, 5, none⟩ (Value.int IntKind.i64 e)) ⟨b, 6, none⟩ (Value.int IntKind.i64 o)) ⟨b, 7, none⟩ (Value.int IntKind.i64 t)) b ⟨k, x, y, s, l, e, o, t⟩ := h6.set 7 t _ rfl
  have p7 : Only b w (World.setCell (World.setCell (World.setCell (World.setCell (World.setCell (World.setCell (World.setCell (World.setCell w ⟨b, 0, none⟩ (Value.int IntKind.i64 k)) ⟨b, 1, none⟩ (Value.int IntKind.i64 x)) ⟨b, 2, none⟩ (Value.int IntKind.i64 y)) ⟨b, 3, none⟩ (Value.int IntKind.i64 s)) ⟨b, 4, none⟩ (Value.int IntKind.i64 l)) ⟨b, 5, none⟩ (Value.int IntKind.i64 e)) ⟨b, 6, none⟩ (Value.int IntKind.i64 o)) ⟨b, 7, none⟩ (Value.int IntKind.i64 t)) := p6.trans (only_set _ b 7 _)
  exact ⟨h7.drew, p7.drew⟩
theorem Mv.below {lo q B : Nat} {w w' : World} (h : Mv lo q w w') (h1 : B ≤ lo) (h2 : B ≤ q) : Below B w w' := ⟨h.os, h.tape, h.output, h.size, fun k hk => h.block k (by omega) (by omega)⟩

set_option maxHeartbeats 1000000 in
theorem l5Alone_any (H : List C) (d : Hd) (v : Value) (hi : Nat) (w : World) (hh : hi ≤ w.heap.size) (r : Rd w hi v H) (hgood : good H) (hfits : Fits H.length d) :
    Calls Try.prog 51 #[v, .agg (hv d).toArray] w fun e w' => ∃ v' H' d', e = .returned (.tuple #[v', .agg (hv d').toArray]) ∧ Own w' w.heap.size w'.heap.size v' H' ∧ good H' ∧ Below w.heap.size w w' := by
  obtain ⟨a, cap, rfl⟩ := r.form
  have R : Hid (Rd w hi (.slice a H.length cap) H) := r
  have GD : Hid (good H) := hgood
  have FT : Hid (Fits H.length d) := hfits
  have h1 := hgood.1.1
  have h2 : H.length ≤ 1048576 := by have := hgood.1.2; omega
  clear r hgood hfits
  go_enter Try.func51, Try.ntmps51
  go_wp2_with (first | (refine wpList_box_v rfl 73 _ rfl (hv d) rfl ?_; intro b3 w1 hb3 hw1 hB1 hV1) | (refine wpList_alloc_v rfl 73 rfl _ zeroH ?_; intro b5 w2 hb5 hw2 hB2 hV2) | (go_at_call 54; refine (l3Copy_any H _ hi _ (by have := hB1.size; have := hB2.size; omega) ((R.out.below hB1 hh).below hB2 (by have := hB1.size; omega)) h1 h2).mono ?_; rintro er w3 ⟨v3, rfl, hO3, hB3⟩) | (fail))
  have z1 := hB1.size
  have z2 := hB2.size
  have z3 := hB3.size
  have mo3 : Mo w3 w2.heap.size b3 v3 H d := ⟨hO3, ⟨(hV1.below hB2 hw1).below hB3 (by omega)⟩, by omega, z3, GD.out, FT.out⟩
  have hV5 := hV2.below hB3 hw2
  go_loopw [6, 7] (fun v' n wr => ∃ (m : Nat) (H' : List C) (d' : Hd), m ≤ 400 ∧ n = .int .i64 m ∧ Mo wr w2.heap.size b3 v' H' d' ∧ Mv w2.heap.size b3 w3 wr) (fun _ n _ => 400 - (intOf n).toNat)
  case atStart => exact ⟨0, H, d, by omega, rfl, mo3, Mv.refl _ _ _⟩
  case round =>
    obtain ⟨m, H', d', hm, rfl, mo, mv⟩ := hrel
    obtain ⟨k, x, y, s, l, e, o, t⟩ := d'
    obtain ⟨c0, c1, c2, c3, c4, c5, c6, c7⟩ := mo.hand.cells
    have hb35 : b5 ≠ b3 := by omega
    have hV6 := hV5.of (mv.block b5 hw2 hb35)
    have hB6 : HB wr b5 ⟨0, 0, 0, 0, 0, 0, 0, 0⟩ := ⟨hV6⟩
    obtain ⟨q0, q1, q2, q3, q4, q5, q6, q7⟩ := hB6.cells
    obtain ⟨g0, g1, g2, g3, g4, g5, g6, g7⟩ := hB6.fz
    have HB6 : Hid (HB wr b5 ⟨0, 0, 0, 0, 0, 0, 0, 0⟩) := hB6
    clear hB6 hV6
    have M : Hid (Mo wr w2.heap.size b3 u6 H' ⟨k, x, y, s, l, e, o, t⟩) := mo
    have MV : Hid (Mv w2.heap.size b3 w3 wr) := mv
    clear mo mv
    by_cases hlt : m < 400
    · have hlt' : (m : Int) < 400 := by omega
      by_cases h5 : s = 5
      · subst h5
        go_wp2
        have S0 : wr.drew.cell? ⟨b3, 0, none⟩ = some (.int .i64 k) ∧ wr.drew.cell? ⟨b3, 1, none⟩ = some (.int .i64 x) ∧ wr.drew.cell? ⟨b3, 2, none⟩ = some (.int .i64 y) ∧ wr.drew.cell? ⟨b3, 3, none⟩ = some (.int .i64 5) ∧ wr.drew.cell? ⟨b3, 4, none⟩ = some (.int .i64 l) ∧ wr.drew.cell? ⟨b3, 5, none⟩ = some (.int .i64 e) ∧ wr.drew.cell? ⟨b3, 6, none⟩ = some (.int .i64 o) ∧ wr.drew.cell? ⟨b3, 7, none⟩ = some (.int .i64 t) := ⟨c0, c1, c2, c3, c4, c5, c6, c7⟩
        go_region
        go_wp2
        obtain ⟨hb8, hO8⟩ := fill8 HB6.out k x y 5 l e o t
        refine row_tmp_cell rfl rfl rfl hb8.blk Try.underlying73 sizeH rfl ⟨_, H', ⟨k, x, y, 5, l, e, o, t⟩, rfl, (M.out.own.only hO8 hw2).wide (by omega) (Nat.le_of_eq hO8.1.symm), M.out.good, ?_⟩
        exact (((hB1.trans (hB2.mono z1)).trans (hB3.mono (by omega))).trans (MV.out.below (by omega) (by omega))).trans (hO8.2.2 _ (by omega))
      · have f5 : (s == 5) = false := by simpa using h5
        have f5' : (s != 5) = true := by simpa using h5
        go_wp2_with (first | (go_at_call 55; refine (l5Move_any H' _ _ w2.heap.size b3 _ M.out h5).mono ?_; rintro er w4 ⟨v4, H4, d4, rfl, m4, mv4⟩) | (fail))
        go_roundw
        case rel => exact ⟨m + 1, H4, d4, by omega, by go_num, m4, MV.out.trans mv4⟩
        case measure => simp [intOf]; omega
    · have hlt' : ¬ ((m : Int) < 400) := by omega
      go_wp2
      have S0 : wr.drew.cell? ⟨b3, 0, none⟩ = some (.int .i64 k) ∧ wr.drew.cell? ⟨b3, 1, none⟩ = some (.int .i64 x) ∧ wr.drew.cell? ⟨b3, 2, none⟩ = some (.int .i64 y) ∧ wr.drew.cell? ⟨b3, 3, none⟩ = some (.int .i64 s) ∧ wr.drew.cell? ⟨b3, 4, none⟩ = some (.int .i64 l) ∧ wr.drew.cell? ⟨b3, 5, none⟩ = some (.int .i64 e) ∧ wr.drew.cell? ⟨b3, 6, none⟩ = some (.int .i64 o) ∧ wr.drew.cell? ⟨b3, 7, none⟩ = some (.int .i64 t) := ⟨c0, c1, c2, c3, c4, c5, c6, c7⟩
      go_region
      go_wp2
      obtain ⟨hb8, hO8⟩ := fill8 HB6.out k x y s l e o t
      refine row_tmp_cell rfl rfl rfl hb8.blk Try.underlying73 sizeH rfl ⟨_, H', ⟨k, x, y, s, l, e, o, t⟩, rfl, (M.out.own.only hO8 hw2).wide (by omega) (Nat.le_of_eq hO8.1.symm), M.out.good, ?_⟩
      exact (((hB1.trans (hB2.mono z1)).trans (hB3.mono (by omega))).trans (MV.out.below (by omega) (by omega))).trans (hO8.2.2 _ (by omega))

end Go.Proofs.Ytedaioljkpfiiaa.ce
