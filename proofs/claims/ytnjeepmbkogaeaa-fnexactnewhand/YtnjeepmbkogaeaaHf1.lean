/- A hand's variable in memory: its size, its zero, filled anew; a function's end that hands a value and such a variable. -/
import Derived.Test.YtnjeepmbkogaeaaHd1
namespace Go.Proofs.Ytnjeepmbkogaeaa.ce
open Go.ChangeShapes Go.WideShapes Go.ChangeAt Go.RowKit
set_option linter.unusedVariables false

theorem sizeH : (Try.prog.info? 29).map (·.size) = some 8 := by kernel_rfl
theorem zeroH (w : World) : (zeroValue 29).run Try.prog w = .ok (.agg (hv ⟨0, 0, 0, 0, 0, 0, 0, 0⟩).toArray) w := Try.zeroValue29 w
theorem hv_one (d : Hd) : ∀ v ∈ hv d, v.oneCell' = true := by
  intro v h
  simp only [hv, List.mem_cons, List.not_mem_nil, or_false] at h
  rcases h with rfl | rfl | rfl | rfl | rfl | rfl | rfl | rfl <;> rfl
theorem results_tmp_cell {fn : Func} {u p : Tmp} {ty : TypeId} (h : fn.results = #[.tmp u, .cell p ty]) (tmps : Array Value) (P : Program) (w : World) :
    (results fn tmps).run P w =
      ((asAddr (tmps.getD p undef)).run P w).andThen fun a w₁ => ((loadVar ty a).run P w₁).andThen fun v w₂ => .ok (.tuple #[tmps.getD u undef, v]) w₂ := by
  simp only [results, h]
  simp [Sem.run_bind, Result.andThen]
theorem row_tmp_cell {fn : Func} {u p : Tmp} {ty : TypeId} (h : fn.results = #[.tmp u, .cell p ty]) {R : Ending → World → Prop} {a : Act} {w : World} {b : Nat} {t : TypeId} {vs : List Value} {fs : Array Field} {x : Value}
    (hx : a.tmps.getD u undef = x) (hp : a.tmps.getD p undef = .pointer (some ⟨b, 0, none⟩)) (hb : VBlk w b t vs) (hu : Try.prog.underlying ty = some (.struct fs))
    (hi : (Try.prog.info? ty).map (·.size) = some vs.length) (hdf : a.defers = []) (hR : R (.returned (.tuple #[x, .agg vs.toArray])) w) : bodyPost Try.prog fn R .ret a w := by
  have hl := run_loadVar_row (P := Try.prog) w b t ty vs.toArray (0, 0) _ hb hu rfl (by rw [hi]; simp)
  refine bodyPost_ret ?_ hdf hR
  rw [results_tmp_cell h, hp, hx]
  simp [asAddr, hl]

theorem HB.drew {w : World} {q : Nat} {d : Hd} (h : HB w q d) : HB w.drew q d := ⟨h.blk.drew⟩
theorem Only.drew {b : Nat} {w w' : World} (h : Only b w w') : Only b w w'.drew := ⟨h.1, h.2.1, fun B hB => (h.2.2 B hB).drew⟩
theorem fill8 {w : World} {b : Nat} {d0 : Hd} (h : HB w b d0) (k x y s l e o t : Int) :
    HB (World.drew (World.setCell (World.setCell (World.setCell (World.setCell (World.setCell (World.setCell (World.setCell (World.setCell w ⟨b, 0, none⟩ (Value.int IntKind.i64 k)) ⟨b, 1, none⟩ (Value.int IntKind.i64 x)) ⟨b, 2, none⟩ (Value.int IntKind.i64 y)) ⟨b, 3, none⟩ (Value.int IntKind.i64 s)) ⟨b, 4, none⟩ (Value.int IntKind.i64 l)) ⟨b, 5, none⟩ (Value.int IntKind.i64 e)) ⟨b, 6, none⟩ (Value.int IntKind.i64 o)) ⟨b, 7, none⟩ (Value.int IntKind.i64 t))) b ⟨k, x, y, s, l, e, o, t⟩ ∧ Only b w (World.drew (World.setCell (World.setCell (World.setCell (World.setCell (World.setCell (World.setCell (World.setCell (World.setCell w ⟨b, 0, none⟩ (Value.int IntKind.i64 k)) ⟨b, 1, none⟩ (Value.int IntKind.i64 x)) ⟨b, 2, none⟩ (Value.int IntKind.i64 y)) ⟨b, 3, none⟩ (Value.int IntKind.i64 s)) ⟨b, 4, none⟩ (Value.int IntKind.i64 l)) ⟨b, 5, none⟩ (Value.int IntKind.i64 e)) ⟨b, 6, none⟩ (Value.int IntKind.i64 o)) ⟨b, 7, none⟩ (Value.int IntKind.i64 t))) := by
  obtain ⟨k0, x0, y0, s0, l0, e0, o0, t0⟩ := d0
  have h0 : HB (World.setCell w ⟨b, 0, none⟩ (Value.int IntKind.i64 k)) b ⟨k, x0, y0, s0, l0, e0, o0, t0⟩ := h.set 0 k _ rfl
  have p0 : Only b w (World.setCell w ⟨b, 0, none⟩ (Value.int IntKind.i64 k)) := only_set w b 0 _
  have h1 : HB (World.setCell (World.setCell w ⟨b, 0, none⟩ (Value.int IntKind.i64 k)) ⟨b, 1, none⟩ (Value.int IntKind.i64 x)) b ⟨k, x, y0, s0, l0, e0, o0, t0⟩ := h0.set 1 x _ rfl
  have p1 : Only b w (World.setCell (World.setCell w ⟨b, 0, none⟩ (Value.int IntKind.i64 k)) ⟨b, 1, none⟩ (Value.int IntKind.i64 x)) := p0.trans (only_set _ b 1 _)
  have h2 : HB (World.setCell (World.setCell (World.setCell w ⟨b, 0, none⟩ (Value.int IntKind.i64 k)) ⟨b, 1, none⟩ (Value.int IntKind.i64 x)) ⟨b, 2, none⟩ (Value.int IntKind.i64 y)) b ⟨k, x, y, s0, l0, e0, o0, t0⟩ := h1.set 2 y _ rfl
  have p2 : Only b w (World.setCell (World.setCell (World.setCell w ⟨b, 0, none⟩ (Value.int IntKind.i64 k)) ⟨b, 1, none⟩ (Value.int IntKind.i64 x)) ⟨b, 2, none⟩ (Value.int IntKind.i64 y)) := p1.trans (only_set _ b 2 _)
  have h3 : HB (World.setCell (World.setCell (World.setCell (World.setCell w ⟨b, 0, none⟩ (Value.int IntKind.i64 k)) ⟨b, 1, none⟩ (Value.int IntKind.i64 x)) ⟨b, 2, none⟩ (Value.int IntKind.i64 y)) ⟨b, 3, none⟩ (Value.int IntKind.i64 s)) b ⟨k, x, y, s, l0, e0, o0, t0⟩ := h2.set 3 s _ rfl
  have p3 : Only b w (World.setCell (World.setCell (World.setCell (World.setCell w ⟨b, 0, none⟩ (Value.int IntKind.i64 k)) ⟨b, 1, none⟩ (Value.int IntKind.i64 x)) ⟨b, 2, none⟩ (Value.int IntKind.i64 y)) ⟨b, 3, none⟩ (Value.int IntKind.i64 s)) := p2.trans (only_set _ b 3 _)
  have h4 : HB (World.setCell (World.setCell (World.setCell (World.setCell (World.setCell w ⟨b, 0, none⟩ (Value.int IntKind.i64 k)) ⟨b, 1, none⟩ (Value.int IntKind.i64 x)) ⟨b, 2, none⟩ (Value.int IntKind.i64 y)) ⟨b, 3, none⟩ (Value.int IntKind.i64 s)) ⟨b, 4, none⟩ (Value.int IntKind.i64 l)) b ⟨k, x, y, s, l, e0, o0, t0⟩ := h3.set 4 l _ rfl
  have p4 : Only b w (World.setCell (World.setCell (World.setCell (World.setCell (World.setCell w ⟨b, 0, none⟩ (Value.int IntKind.i64 k)) ⟨b, 1, none⟩ (Value.int IntKind.i64 x)) ⟨b, 2, none⟩ (Value.int IntKind.i64 y)) ⟨b, 3, none⟩ (Value.int IntKind.i64 s)) ⟨b, 4, none⟩ (Value.int IntKind.i64 l)) := p3.trans (only_set _ b 4 _)
  have h5 : HB (World.setCell (World.setCell (World.setCell (World.setCell (World.setCell (World.setCell w ⟨b, 0, none⟩ (Value.int IntKind.i64 k)) ⟨b, 1, none⟩ (Value.int IntKind.i64 x)) ⟨b, 2, none⟩ (Value.int IntKind.i64 y)) ⟨b, 3, none⟩ (Value.int IntKind.i64 s)) ⟨b, 4, none⟩ (Value.int IntKind.i64 l)) ⟨b, 5, none⟩ (Value.int IntKind.i64 e)) b ⟨k, x, y, s, l, e, o0, t0⟩ := h4.set 5 e _ rfl
  have p5 : Only b w (World.setCell (World.setCell (World.setCell (World.setCell (World.setCell (World.setCell w ⟨b, 0, none⟩ (Value.int IntKind.i64 k)) ⟨b, 1, none⟩ (Value.int IntKind.i64 x)) ⟨b, 2, none⟩ (Value.int IntKind.i64 y)) ⟨b, 3, none⟩ (Value.int IntKind.i64 s)) ⟨b, 4, none⟩ (Value.int IntKind.i64 l)) ⟨b, 5, none⟩ (Value.int IntKind.i64 e)) := p4.trans (only_set _ b 5 _)
  have h6 : HB (World.setCell (World.setCell (World.setCell (World.setCell (World.setCell (World.setCell (World.setCell w ⟨b, 0, none⟩ (Value.int IntKind.i64 k)) ⟨b, 1, none⟩ (Value.int IntKind.i64 x)) ⟨b, 2, none⟩ (Value.int IntKind.i64 y)) ⟨b, 3, none⟩ (Value.int IntKind.i64 s)) ⟨b, 4, none⟩ (Value.int IntKind.i64 l)) ⟨b, 5, none⟩ (Value.int IntKind.i64 e)) ⟨b, 6, none⟩ (Value.int IntKind.i64 o)) b ⟨k, x, y, s, l, e, o, t0⟩ := h5.set 6 o _ rfl
  have p6 : Only b w (World.setCell (World.setCell (World.setCell (World.setCell (World.setCell (World.setCell (World.setCell w ⟨b, 0, none⟩ (Value.int IntKind.i64 k)) ⟨b, 1, none⟩ (Value.int IntKind.i64 x)) ⟨b, 2, none⟩ (Value.int IntKind.i64 y)) ⟨b, 3, none⟩ (Value.int IntKind.i64 s)) ⟨b, 4, none⟩ (Value.int IntKind.i64 l)) ⟨b, 5, none⟩ (Value.int IntKind.i64 e)) ⟨b, 6, none⟩ (Value.int IntKind.i64 o)) := p5.trans (only_set _ b 6 _)
  have h7 : HB (World.setCell (World.setCell (World.setCell (World.setCell (World.setCell (World.setCell (World.setCell (World.setCell w ⟨b, 0, none⟩ (Value.int IntKind.i64 k)) ⟨b, 1, none⟩ (Value.int IntKind.i64 x)) ⟨b, 2, none⟩ (Value.int IntKind.i64 y)) ⟨b, 3, none⟩ (Value.int IntKind.i64 s)) ⟨b, 4, none⟩ (Value.int IntKind.i64 l)) ⟨b, 5, none⟩ (Value.int IntKind.i64 e)) ⟨b, 6, none⟩ (Value.int IntKind.i64 o)) ⟨b, 7, none⟩ (Value.int IntKind.i64 t)) b ⟨k, x, y, s, l, e, o, t⟩ := h6.set 7 t _ rfl
  have p7 : Only b w (World.setCell (World.setCell (World.setCell (World.setCell (World.setCell (World.setCell (World.setCell (World.setCell w ⟨b, 0, none⟩ (Value.int IntKind.i64 k)) ⟨b, 1, none⟩ (Value.int IntKind.i64 x)) ⟨b, 2, none⟩ (Value.int IntKind.i64 y)) ⟨b, 3, none⟩ (Value.int IntKind.i64 s)) ⟨b, 4, none⟩ (Value.int IntKind.i64 l)) ⟨b, 5, none⟩ (Value.int IntKind.i64 e)) ⟨b, 6, none⟩ (Value.int IntKind.i64 o)) ⟨b, 7, none⟩ (Value.int IntKind.i64 t)) := p6.trans (only_set _ b 7 _)
  exact ⟨h7.drew, p7.drew⟩
theorem Mv.below {lo q B : Nat} {w w' : World} (h : Mv lo q w w') (h1 : B ≤ lo) (h2 : B ≤ q) : Below B w w' := ⟨h.os, h.tape, h.output, h.size, fun k hk => h.block k (by omega) (by omega)⟩
end Go.Proofs.Ytnjeepmbkogaeaa.ce
