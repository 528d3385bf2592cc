/- The laws' helpers on a hand; a hand that came in as an argument. -/
import Derived.Test.YtnjeepmbkogaeaaHf1
import Derived.Test.YtnjeepmbkogaeaaClOpen
namespace Go.Proofs.Ytnjeepmbkogaeaa.ce
open Go.ChangeShapes Go.WideShapes Go.ChangeAt Go.RowKit
open Go.Deep Go.Joins
set_option linter.unusedVariables false

set_option maxHeartbeats 1000000 in
theorem toHand_any (d : Hd) (w : World) :
    Calls Try.prog 12 #[.agg (hv d).toArray] w fun e w' => e = .returned (.agg (hv d).toArray) ∧ Below w.heap.size w w' := by
  obtain ⟨k, x, y, s, l, h, o, t⟩ := d
  show Calls Try.prog 12 #[.agg #[.int .i64 k, .int .i64 x, .int .i64 y, .int .i64 s, .int .i64 l, .int .i64 h, .int .i64 o, .int .i64 t]] w _
  go_enter Try.func12, Try.ntmps12
  go_wp2
  have h1 : VBlk ((w.alloc (.cells #[.int .i64 k, .int .i64 x, .int .i64 y, .int .i64 s, .int .i64 l, .int .i64 h, .int .i64 o, .int .i64 t] 24)).alloc (.cells #[.int .i64 k, .int .i64 x, .int .i64 y, .int .i64 s, .int .i64 l, .int .i64 h, .int .i64 o, .int .i64 t] 29)) (w.heap.size + 1) 29 [.int .i64 k, .int .i64 x, .int .i64 y, .int .i64 s, .int .i64 l, .int .i64 h, .int .i64 o, .int .i64 t] := by
    have := heap_alloc_new (w.alloc (.cells #[.int .i64 k, .int .i64 x, .int .i64 y, .int .i64 s, .int .i64 l, .int .i64 h, .int .i64 o, .int .i64 t] 24)) (.cells #[.int .i64 k, .int .i64 x, .int .i64 y, .int .i64 s, .int .i64 l, .int .i64 h, .int .i64 o, .int .i64 t] 29)
    simpa [VBlk] using this
  refine row_retv rfl rfl (h1.of (Below.heap_alloc _ _ _ h1.lt)) Try.underlying29 sizeH rfl ⟨rfl, ?_⟩
  exact (((Below.refl _ w).alloc (Nat.le_refl _) _).alloc (by simp) _).alloc (by simp <;> omega) _

theorem eqHand_any (d : Hd) (w : World) :
    Calls Try.prog 17 #[.agg (hv d).toArray, .agg (hv d).toArray] w fun e w' => e = .returned (.bool true) ∧ Below w.heap.size w w' := by
  obtain ⟨k, x, y, s, l, h, o, t⟩ := d
  show Calls Try.prog 17 #[.agg #[.int .i64 k, .int .i64 x, .int .i64 y, .int .i64 s, .int .i64 l, .int .i64 h, .int .i64 o, .int .i64 t], .agg #[.int .i64 k, .int .i64 x, .int .i64 y, .int .i64 s, .int .i64 l, .int .i64 h, .int .i64 o, .int .i64 t]] w _
  go_enter Try.func17, Try.ntmps17
  go_wp2
  go_ret
  exact ⟨rfl, ((Below.refl _ w).alloc (Nat.le_refl _) _).alloc (by simp) _⟩

/-- the law's own variable that holds a hand -/
structure HArg (w : World) (b : Nat) (d : Hd) : Prop where
  blk : VBlk w b 24 (hv d)
theorem HArg.keep {w w' : World} {b : Nat} {d : Hd} (h : HArg w b d) (s : ∀ k, b ≤ k → k < b + 1 → w'.heap[k]? = w.heap[k]?) : HArg w' b d := ⟨h.blk.of (s b (Nat.le_refl _) (Nat.lt_succ_self _))⟩
theorem HArg.below {w w' : World} {B b : Nat} {d : Hd} (h : HArg w b d) (hb : Below B w w') (hlt : b + 1 ≤ B) : HArg w' b d := h.keep fun k _ h2 => hb.block k (by omega)
theorem HArg.drew {w : World} {b : Nat} {d : Hd} (h : HArg w b d) : HArg w.drew b d := ⟨h.blk⟩
theorem HArg.lt {w : World} {b : Nat} {d : Hd} (h : HArg w b d) : b < w.heap.size := h.blk.lt
/-- the eight cells of a hand's variable -/
def H8 (w : World) (q : Nat) (k x y s l h o t : Int) : Prop :=
  w.cell? ⟨q, 0, none⟩ = some (.int .i64 k) ∧ w.cell? ⟨q, 1, none⟩ = some (.int .i64 x) ∧ w.cell? ⟨q, 2, none⟩ = some (.int .i64 y) ∧ w.cell? ⟨q, 3, none⟩ = some (.int .i64 s) ∧ w.cell? ⟨q, 4, none⟩ = some (.int .i64 l) ∧ w.cell? ⟨q, 5, none⟩ = some (.int .i64 h) ∧ w.cell? ⟨q, 6, none⟩ = some (.int .i64 o) ∧ w.cell? ⟨q, 7, none⟩ = some (.int .i64 t)
theorem HArg.cells {w : World} {q : Nat} {k x y s l h o t : Int} (b : HArg w q ⟨k, x, y, s, l, h, o, t⟩) :
    w.cell? ⟨q, 0, none⟩ = some (.int .i64 k) ∧ w.cell? ⟨q, 1, none⟩ = some (.int .i64 x) ∧ w.cell? ⟨q, 2, none⟩ = some (.int .i64 y) ∧ w.cell? ⟨q, 3, none⟩ = some (.int .i64 s) ∧ w.cell? ⟨q, 4, none⟩ = some (.int .i64 l) ∧ w.cell? ⟨q, 5, none⟩ = some (.int .i64 h) ∧ w.cell? ⟨q, 6, none⟩ = some (.int .i64 o) ∧ w.cell? ⟨q, 7, none⟩ = some (.int .i64 t) :=
  ⟨b.blk.cell 0 (by simp [hv]), b.blk.cell 1 (by simp [hv]), b.blk.cell 2 (by simp [hv]), b.blk.cell 3 (by simp [hv]), b.blk.cell 4 (by simp [hv]), b.blk.cell 5 (by simp [hv]), b.blk.cell 6 (by simp [hv]), b.blk.cell 7 (by simp [hv])⟩
theorem sizeLH : (Try.prog.info? 24).map (·.size) = some 8 := by kernel_rfl
theorem cellsLH : Try.prog.cellsOf 24 = 8 := by kernel_rfl
set_option maxRecDepth 100000 in
/-- a hand among the arguments -/
theorem hv_of_trod {H : Type} {enc : TypeId × Value → H} {w : World} {n : Nat} {cs : List Value} {x : DataW H × List MemPlace} (h : DataW.trod enc Try.prog w 0 (fun _ => true) true n 24 cs = some x) : ∃ d : Hd, cs = hv d := by
  obtain ⟨xs, m, -, -, hl, hxs, hf⟩ := DataW.trod_struct Try.underlying24 h
  rw [cellsLH] at hl
  match cs, hl with
  | [v0, v1, v2, v3, v4, v5, v6, v7], _ =>
    match xs, hxs with
    | [y0, y1, y2, y3, y4, y5, y6, y7], _ =>
      have h0 := hf 0 _ rfl
      have h1 := hf 1 _ rfl
      have h2 := hf 2 _ rfl
      have h3 := hf 3 _ rfl
      have h4 := hf 4 _ rfl
      have h5 := hf 5 _ rfl
      have h6 := hf 6 _ rfl
      have h7 := hf 7 _ rfl
      simp [cellsI] at h0 h1 h2 h3 h4 h5 h6 h7
      obtain ⟨a0, e0, -, -⟩ := DataW.trod_int Try.underlying2 h0
      obtain ⟨a1, e1, -, -⟩ := DataW.trod_int Try.underlying2 h1
      obtain ⟨a2, e2, -, -⟩ := DataW.trod_int Try.underlying2 h2
      obtain ⟨a3, e3, -, -⟩ := DataW.trod_int Try.underlying2 h3
      obtain ⟨a4, e4, -, -⟩ := DataW.trod_int Try.underlying2 h4
      obtain ⟨a5, e5, -, -⟩ := DataW.trod_int Try.underlying2 h5
      obtain ⟨a6, e6, -, -⟩ := DataW.trod_int Try.underlying2 h6
      obtain ⟨a7, e7, -, -⟩ := DataW.trod_int Try.underlying2 h7
      simp at e0 e1 e2 e3 e4 e5 e6 e7
      subst e0 e1 e2 e3 e4 e5 e6 e7
      exact ⟨⟨a0, a1, a2, a3, a4, a5, a6, a7⟩, rfl⟩
theorem open_hand {H : Type} {enc : TypeId × Value → H} {W : World} {r : Reach} {b0 : Nat} {v : Value} {d : DataW H} {p : List MemPlace} (hw : Value.okWide Try.prog W r b0 24 v) (h : DataW.Trod enc Try.prog W 0 (fun _ => true) true 24 v d p) :
    ∃ q : Hd, v = .agg (hv q).toArray := by
  obtain ⟨cs, rfl, hsz⟩ := okWide_struct Try.underlying24 hw
  obtain ⟨m, hm⟩ := h
  obtain ⟨q, hq⟩ := hv_of_trod hm
  refine ⟨q, ?_⟩
  have e : cs.toList = hv q := by simpa [Value.cells] using hq
  rw [← e]
end Go.Proofs.Ytnjeepmbkogaeaa.ce
