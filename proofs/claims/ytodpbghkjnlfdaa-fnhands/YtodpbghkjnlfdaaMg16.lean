/- Texts laid together: Hf2 Ih8. -/
import Derived.Test.YtodpbghkjnlfdaaMg04
/- A hand's variable is filled anew. -/
namespace Go.Proofs.Ytodpbghkjnlfdaa.ce
open Go.ChangeShapes Go.WideShapes Go.ChangeAt Go.RowKit
set_option linter.unusedVariables false

theorem fill8n {w : World} {b : Nat} {d0 : Hd} (h : HB w b d0) (k x y s l e o t : Int) :
    HB (World.setCell (World.setCell (World.setCell (World.setCell (World.setCell (World.setCell (World.setCell (World.setCell w ⟨b, 0, none⟩ (Value.int IntKind.i64 k)) ⟨b, 1, none⟩ (Value.int IntKind.i64 x)) ⟨b, 2, none⟩ (Value.int IntKind.i64 y)) ⟨b, 3, none⟩ (Value.int IntKind.i64 s)) ⟨b, 4, none⟩ (Value.int IntKind.i64 l)) ⟨b, 5, none⟩ (Value.int IntKind.i64 e)) ⟨b, 6, none⟩ (Value.int IntKind.i64 o)) ⟨b, 7, none⟩ (Value.int IntKind.i64 t)) b ⟨k, x, y, s, l, e, o, t⟩ ∧ Only b w (World.setCell (World.setCell (World.setCell (World.setCell (World.setCell (World.setCell (World.setCell (World.setCell w ⟨b, 0, none⟩ (Value.int IntKind.i64 k)) ⟨b, 1, none⟩ (Value.int IntKind.i64 x)) ⟨b, 2, none⟩ (Value.int IntKind.i64 y)) ⟨b, 3, none⟩ (Value.int IntKind.i64 s)) ⟨b, 4, none⟩ (Value.int IntKind.i64 l)) ⟨b, 5, none⟩ (Value.int IntKind.i64 e)) ⟨b, 6, none⟩ (Value.int IntKind.i64 o)) ⟨b, 7, none⟩ (Value.int IntKind.i64 t)) := by
  obtain ⟨k0, x0, y0, s0, l0, e0, o0, t0⟩ := d0
  have h0 : HB (World.setCell w ⟨b, 0, none⟩ (Value.int IntKind.i64 k)) b ⟨k, x0, y0, s0, l0, e0, o0, t0⟩ := h.set 0 k _ rfl
  have p0 : Only b w (World.setCell w ⟨b, 0, none⟩ (Value.int IntKind.i64 k)) := only_set w b 0 _
  have h1 : HB (World.setCell (World.setCell w ⟨b, 0, none⟩ (Value.int IntKind.i64 k)) ⟨b, 1, none⟩ (Value.int IntKind.i64 x)) b ⟨k, x, y0, s0, l0, e0, o0, t0⟩ := h0.set 1 x _ rfl
  have p1 : Only b w (World.setCell (World.setCell w ⟨b, 0, none⟩ (Value.int IntKind.i64 k)) ⟨b, 1, none⟩ (Value.int IntKind.i64 x)) := p0.trans (only_set _ b 1 _)
  have h2 : HB (World.setCell (World.setCell (World.setCell w ⟨b, 0, none⟩ (Value.int IntKind.i64 k)) ⟨b, 1, none⟩ (Value.int IntKind.i64 x)) ⟨b, 2, none⟩ (Value.int IntKind.i64 y)) b ⟨k, x, y, s0, l0, e0, o0, t0⟩ := h1.set 2 y _ rfl
  have p2 : Only b w (World.setCell (World.setCell (World.setCell w ⟨b, 0, none⟩ (Value.int IntKind.i64 k)) ⟨b, 1, none⟩ (Value.int IntKind.i64 x)) ⟨b, 2, none⟩ (Value.int IntKind.i64 y)) := p1.trans (only_set _ b 2 _)
  have h3 : HB (World.setCell (World.setCell (World.setCell (World.setCell w ⟨b, 0, none⟩ (Value.int IntKind.i64 k)) ⟨b, 1, none⟩ (Value.int IntKind.i64 x)) ⟨b, 2, none⟩ (Value.int IntKind.i64 y)) ⟨b, 3, none⟩ (Value.int IntKind.i64 s)) b ⟨k, x, y, s, l0, e0, o0, t0⟩ := h2.set 3 s _ rfl
  have p3 : Only b w (World.setCell (World.setCell (World.setCell (World.setCell w ⟨b, 0, none⟩ (Value.int IntKind.i64 k)) ⟨b, 1, none⟩ (Value.int IntKind.i64 x)) ⟨b, 2, none⟩ (Value.int IntKind.i64 y)) ⟨b, 3, none⟩ (Value.int IntKind.i64 s)) := p2.trans (only_set _ b 3 _)
  have h4 : HB (World.setCell (World.setCell (World.setCell (World.setCell (World.setCell w ⟨b, 0, none⟩ (Value.int IntKind.i64 k)) ⟨b, 1, none⟩ (Value.int IntKind.i64 x)) ⟨b, 2, none⟩ (Value.int IntKind.i64 y)) ⟨b, 3, none⟩ (Value.int IntKind.i64 s)) ⟨b, 4, none⟩ (Value.int IntKind.i64 l)) b ⟨k, x, y, s, l, e0, o0, t0⟩ := h3.set 4 l _ rfl
  have p4 : Only b w (World.setCell (World.setCell (World.setCell (World.setCell (World.setCell w ⟨b, 0, none⟩ (Value.int IntKind.i64 k)) ⟨b, 1, none⟩ (Value.int IntKind.i64 x)) ⟨b, 2, none⟩ (Value.int IntKind.i64 y)) ⟨b, 3, none⟩ (Value.int IntKind.i64 s)) ⟨b, 4, none⟩ (Value.int IntKind.i64 l)) := p3.trans (only_set _ b 4 _)
  have h5 : HB (World.setCell (World.setCell (World.setCell (World.setCell (World.setCell (World.setCell w ⟨b, 0, none⟩ (Value.int IntKind.i64 k)) ⟨b, 1, none⟩ (Value.int IntKind.i64 x)) ⟨b, 2, none⟩ (Value.int IntKind.i64 y)) ⟨b, 3, none⟩ (Value.int IntKind.i64 s)) ⟨b, 4, none⟩ (Value.int IntKind.i64 l)) ⟨b, 5, none⟩ (Value.int IntKind.i64 e)) b ⟨k, x, y, s, l, e, o0, t0⟩ := h4.set 5 e _ rfl
  have p5 : Only b w (World.setCell (World.setCell (World.setCell (World.setCell (World.setCell (World.setCell w ⟨b, 0, none⟩ (Value.int IntKind.i64 k)) ⟨b, 1, none⟩ (Value.int IntKind.i64 x)) ⟨b, 2, none⟩ (Value.int IntKind.i64 y)) ⟨b, 3, none⟩ (Value.int IntKind.i64 s)) ⟨b, 4, none⟩ (Value.int IntKind.i64 l)) ⟨b, 5, none⟩ (Value.int IntKind.i64 e)) := p4.trans (only_set _ b 5 _)
  have h6 : HB (World.setCell (World.setCell (World.setCell (World.setCell (World.setCell (World.setCell (World.setCell w ⟨b, 0, none⟩ (Value.int IntKind.i64 k)) ⟨b, 1, none⟩ (Value.int IntKind.i64 x)) ⟨b, 2, none⟩ (Value.int IntKind.i64 y)) ⟨b, 3, none⟩ (Value.int IntKind.i64 s)) ⟨b, 4, none⟩ (Value.int IntKind.i64 l)) ⟨b, 5, none⟩ (Value.int IntKind.i64 e)) ⟨b, 6, none⟩ (Value.int IntKind.i64 o)) b ⟨k, x, y, s, l, e, o, t0⟩ := h5.set 6 o _ rfl
  have p6 : Only b w (World.setCell (World.setCell (World.setCell (World.setCell (World.setCell (World.setCell (World.setCell w ⟨b, 0, none⟩ (Value.int IntKind.i64 k)) ⟨b, 1, none⟩ (Value.int IntKind.i64 x)) ⟨b, 2, none⟩ (Value.int IntKind.i64 y)) ⟨b, 3, none⟩ (Value.int IntKind.i64 s)) ⟨b, 4, none⟩ (Value.int IntKind.i64 l)) ⟨b, 5, none⟩ (Value.int IntKind.i64 e)) ⟨b, 6, none⟩ (Value.int IntKind.i64 o)) := p5.trans (only_set _ b 6 _)
  have h7 : HB (World.setCell (World.setCell (World.setCell (World.setCell (World.setCell (World.setCell (World.setCell (World.setCell w ⟨b, 0, none⟩ (Value.int IntKind.i64 k)) ⟨b, 1, none⟩ (Value.int IntKind.i64 x)) ⟨b, 2, none⟩ (Value.int IntKind.i64 y)) ⟨b, 3, none⟩ (Value.int IntKind.i64 s)) ⟨b, 4, none⟩ (Value.int IntKind.i64 l)) ⟨b, 5, none⟩ (Value.int IntKind.i64 e)) ⟨b, 6, none⟩ (Value.int IntKind.i64 o)) ⟨b, 7, none⟩ (Value.int IntKind.i64 t)) b ⟨k, x, y, s, l, e, o, t⟩ := h6.set 7 t _ rfl
  have p7 : Only b w (World.setCell (World.setCell (World.setCell (World.setCell (World.setCell (World.setCell (World.setCell (World.setCell w ⟨b, 0, none⟩ (Value.int IntKind.i64 k)) ⟨b, 1, none⟩ (Value.int IntKind.i64 x)) ⟨b, 2, none⟩ (Value.int IntKind.i64 y)) ⟨b, 3, none⟩ (Value.int IntKind.i64 s)) ⟨b, 4, none⟩ (Value.int IntKind.i64 l)) ⟨b, 5, none⟩ (Value.int IntKind.i64 e)) ⟨b, 6, none⟩ (Value.int IntKind.i64 o)) ⟨b, 7, none⟩ (Value.int IntKind.i64 t)) := p6.trans (only_set _ b 7 _)
  exact ⟨h7, p7⟩
end Go.Proofs.Ytodpbghkjnlfdaa.ce
/- Contracts: the program's rested. -/
namespace Go.Proofs.Ytodpbghkjnlfdaa.ce
open Go.ChangeShapes Go.WideShapes Go.ChangeAt Go.RowKit
set_option linter.unusedVariables false

def restD (d : Hd) (step told : Int) : Hd := { d with step := step, left := -1, here := -1, told := told }

set_option maxHeartbeats 1000000 in
theorem rested_any (d : Hd) (step told : Int) (w : World) :
    Calls Try.prog 46 #[.agg (hv d).toArray, .int .i64 step, .int .i64 told] w fun e w' => e = .returned (.agg (hv (restD d step told)).toArray) ∧ Below w.heap.size w w' := by
  obtain ⟨k, x, y, s, l, e, o, t⟩ := d
  go_enter Try.func46, Try.ntmps46
  go_wp2_with (first | (refine wpList_box_v rfl 29 _ rfl (hv ⟨k, x, y, s, l, e, o, t⟩) rfl ?_; intro b1 w1 hb1 hw1 hB1 hV1; have hz1 := hB1.size) | (refine wpList_alloc_v rfl 29 rfl _ zeroH ?_; intro b6 w2 hb6 hw2 hB2 hV2; have hz2 := hB2.size; have hb : HB w2 b1 ⟨k, x, y, s, l, e, o, t⟩ := ⟨hV1.below hB2 hw1⟩; have h6 : HB w2 b6 ⟨0, 0, 0, 0, 0, 0, 0, 0⟩ := ⟨hV2⟩; have hne : b1 ≠ b6 := (by omega); have hne2 : b6 ≠ b1 := (by omega); obtain ⟨c0, c1, c2, c3, c4, c5, c6, c7⟩ := hb.cells; obtain ⟨f0, f1, f2, f3, f4, f5, f6, f7⟩ := hb.fz; obtain ⟨p0, p1, p2, p3, p4, p5, p6, p7⟩ := h6.cells; obtain ⟨q0, q1, q2, q3, q4, q5, q6, q7⟩ := h6.fz; have HB1 : Hid (HB w2 b1 ⟨k, x, y, s, l, e, o, t⟩) := hb; have HB6 : Hid (HB w2 b6 ⟨0, 0, 0, 0, 0, 0, 0, 0⟩) := h6; clear hb h6 hV1 hV2) | (fail))
  have o4 := (((only_set w2 b1 3 (.int .i64 step)).trans (only_set _ b1 4 (.int .i64 (-1)))).trans (only_set _ b1 5 (.int .i64 (-1)))).trans (only_set _ b1 7 (.int .i64 told))
  obtain ⟨h8, o8⟩ := fill8n (HB6.out.of (o4.2.1 b6 hne2)) k x y step (-1) (-1) o told
  exact row_retv rfl rfl h8.blk Try.underlying29 sizeH rfl ⟨rfl, ((hB1.trans (hB2.mono hz1)).trans (o4.2.2 _ hb1)).trans (o8.2.2 _ (by omega))⟩

def asksB (k x : Int) : Bool := decide ((1 ≤ k ∧ k ≤ 3) ∧ 1 ≤ x ∧ x ≤ 65535)
def newD (k x y : Int) : Hd := if asksB k x = true then ⟨k, x, y, 0, -1, -1, -1, 0⟩ else ⟨0, 0, 0, 0, 0, 0, 0, 0⟩

theorem results_cell_tmp' {fn : Func} {p u : Tmp} {ty : TypeId} (h : fn.results = #[.cell p ty, .tmp u]) (tmps : Array Value) (P : Program) (w : World) :
    (results fn tmps).run P w =
      ((asAddr (tmps.getD p undef)).run P w).andThen fun a w₁ => ((loadVar ty a).run P w₁).andThen fun v w₂ => .ok (.tuple #[v, tmps.getD u undef]) w₂ := by
  simp only [results, h]
  simp [Sem.run_bind, Result.andThen]
theorem row_cell_tmp {fn : Func} {p u : Tmp} {ty : TypeId} (h : fn.results = #[.cell p ty, .tmp u]) {R : Ending → World → Prop} {a : Act} {w : World} {b : Nat} {t : TypeId} {vs : List Value} {fs : Array Field} {x : Value}
    (hp : a.tmps.getD p undef = .pointer (some ⟨b, 0, none⟩)) (hx : a.tmps.getD u undef = x) (hb : VBlk w b t vs) (hu : Try.prog.underlying ty = some (.struct fs))
    (hi : (Try.prog.info? ty).map (·.size) = some vs.length) (hdf : a.defers = []) (hR : R (.returned (.tuple #[.agg vs.toArray, x])) w) : bodyPost Try.prog fn R .ret a w := by
  have hl := run_loadVar_row (P := Try.prog) w b t ty vs.toArray (0, 0) _ hb hu rfl (by rw [hi]; simp)
  refine bodyPost_ret ?_ hdf hR
  rw [results_cell_tmp' h, hp, hx]
  simp [asAddr, hl]

set_option maxHeartbeats 1000000 in
theorem implNewHand_any (k x y : Int) (w : World) :
    Calls Try.prog 16 #[.int .i64 k, .int .i64 x, .int .i64 y] w fun e w' => e = .returned (.tuple #[.agg (hv (newD k x y)).toArray, .bool (asksB k x)]) ∧ Below w.heap.size w w' := by
  have m1 : Hid True := trivial
  have m2 : Hid True := trivial
  cases hz : asksB k x with
  | true =>
    have F : Hid (decide ((1 ≤ k ∧ k ≤ 3) ∧ 1 ≤ x ∧ x ≤ 65535) = true) := hz
    rw [show newD k x y = ⟨k, x, y, 0, -1, -1, -1, 0⟩ from if_pos hz]
    clear hz
    go_enter Try.func16, Try.ntmps16
    go_wp2_with (first | (clear m1; refine wpList_alloc_v rfl 29 rfl _ zeroH ?_; intro b6 w1 hb6 hw1 hB1 hV1; have hz1 := hB1.size) | (go_at_call 46; refine (rested_any ⟨k, x, y, 0, 0, 0, -1, 0⟩ 0 0 _).mono ?_; rintro er w2 ⟨rfl, hB2⟩; have hz2 := hB2.size; dsimp only [restD, hv]) | (refine wpList_alloc_v rfl 29 rfl _ zeroH ?_; intro b8 w3 hb8 hw3 hB3 hV3; have hz3 := hB3.size) | (clear m2; refine wpList_store_v rfl 29 _ _ rfl b8 (hv ⟨k, x, y, 0, -1, -1, -1, 0⟩) rfl rfl sizeH hV3 rfl (hv_one _) ?_; intro w4 hO4 hV4; have hz4 := hO4.1; have h8 : HB w4 b8 ⟨k, x, y, 0, -1, -1, -1, 0⟩ := ⟨hV4⟩; obtain ⟨c0, c1, c2, c3, c4, c5, c6, c7⟩ := h8.cells) | (go_at_call 38; refine (asksRight_any ⟨k, x, y, 0, -1, -1, -1, 0⟩ _).mono ?_; rintro er w5 ⟨rfl, hB5⟩; rw [F.out]; have hz5 := hB5.size; replace h8 := h8.of (hB5.block b8 (by omega)); clear c0 c1 c2 c3 c4 c5 c6 c7; obtain ⟨c0, c1, c2, c3, c4, c5, c6, c7⟩ := h8.cells) | (refine wpList_store_v rfl 29 _ _ rfl b6 (hv ⟨k, x, y, 0, -1, -1, -1, 0⟩) rfl rfl sizeH ((((hV1.below hB2 (by omega)).below hB3 (by omega)).of (hO4.2.1 b6 (by omega))).below hB5 (by omega)) rfl (hv_one _) ?_; intro w6 hO6 hV6) | (fail))
    refine row_cell_tmp rfl rfl rfl hV6 Try.underlying29 sizeH rfl ⟨rfl, ?_⟩
    exact (((((hB1.trans (hB2.mono (by omega))).trans (hB3.mono (by omega))).trans (hO4.2.2 _ (by omega)))).trans (hB5.mono (by omega))).trans (hO6.2.2 _ (by omega))
  | false =>
    have F : Hid (decide ((1 ≤ k ∧ k ≤ 3) ∧ 1 ≤ x ∧ x ≤ 65535) = false) := hz
    rw [show newD k x y = ⟨0, 0, 0, 0, 0, 0, 0, 0⟩ from if_neg (by rw [hz]; simp)]
    clear hz
    go_enter Try.func16, Try.ntmps16
    go_wp2_with (first | (clear m1; refine wpList_alloc_v rfl 29 rfl _ zeroH ?_; intro b6 w1 hb6 hw1 hB1 hV1; have hz1 := hB1.size) | (go_at_call 46; refine (rested_any ⟨k, x, y, 0, 0, 0, -1, 0⟩ 0 0 _).mono ?_; rintro er w2 ⟨rfl, hB2⟩; have hz2 := hB2.size; dsimp only [restD, hv]) | (refine wpList_alloc_v rfl 29 rfl _ zeroH ?_; intro b8 w3 hb8 hw3 hB3 hV3; have hz3 := hB3.size) | (clear m2; refine wpList_store_v rfl 29 _ _ rfl b8 (hv ⟨k, x, y, 0, -1, -1, -1, 0⟩) rfl rfl sizeH hV3 rfl (hv_one _) ?_; intro w4 hO4 hV4; have hz4 := hO4.1; have h8 : HB w4 b8 ⟨k, x, y, 0, -1, -1, -1, 0⟩ := ⟨hV4⟩; obtain ⟨c0, c1, c2, c3, c4, c5, c6, c7⟩ := h8.cells) | (go_at_call 38; refine (asksRight_any ⟨k, x, y, 0, -1, -1, -1, 0⟩ _).mono ?_; rintro er w5 ⟨rfl, hB5⟩; rw [F.out]; have hz5 := hB5.size) | (refine wpList_store_v rfl 29 _ _ rfl b6 (hv ⟨0, 0, 0, 0, 0, 0, 0, 0⟩) rfl rfl sizeH ((((hV1.below hB2 (by omega)).below hB3 (by omega)).of (hO4.2.1 b6 (by omega))).below hB5 (by omega)) rfl (hv_one _) ?_; intro w6 hO6 hV6) | (fail))
    refine row_cell_tmp rfl rfl rfl hV6 Try.underlying29 sizeH rfl ⟨rfl, ?_⟩
    exact (((((hB1.trans (hB2.mono (by omega))).trans (hB3.mono (by omega))).trans (hO4.2.2 _ (by omega)))).trans (hB5.mono (by omega))).trans (hO6.2.2 _ (by omega))
end Go.Proofs.Ytodpbghkjnlfdaa.ce
