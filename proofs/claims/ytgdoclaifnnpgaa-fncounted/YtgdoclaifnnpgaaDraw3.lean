/- What the laws of chapter 2 draw, third part: a sketch and a name. -/
import Derived.Test.YtgdoclaifnnpgaaDraw2
namespace Go.Proofs.Ytgdoclaifnnpgaa.draw
open Go.ChangeShapes Go.WideShapes Go.ChangeAt Go.RowKit
open Go.Proofs.Ytgdoclaifnnpgaa.sk
set_option linter.unusedVariables false

theorem row_ret2v {fn : Func} {p u : Tmp} {ty : TypeId} (h : fn.results = #[.cell p ty, .tmp u]) {R : Ending → World → Prop} {a : Act} {w : World} {b : Nat} {t : TypeId} {vs : List Value} {fs : Array Field} {x : Value}
    (hp : a.tmps.getD p undef = .pointer (some ⟨b, 0, none⟩)) (hx : a.tmps.getD u undef = x) (hb : VBlk w b t vs) (hu : Try.prog.underlying ty = some (.struct fs))
    (hi : (Try.prog.info? ty).map (·.size) = some vs.length) (hdf : a.defers = []) (hR : R (.returned (.tuple #[.agg vs.toArray, x])) w) : bodyPost Try.prog fn R .ret a w := by
  refine bodyPost_ret ?_ hdf hR
  rw [results_cell_tmp h, hp, hx]
  have hl := run_loadVar_row (P := Try.prog) w b t ty vs.toArray (0, 0) _ hb hu rfl (by rw [hi]; simp)
  simp [asAddr, hl]

theorem code_below' {w w1 : World} {a0 : Option Addr} {len : Nat} (h : CodeAt w a0 len) (hB : Below w.heap.size w w1) : CodeAt w1 a0 len := by
  refine ⟨h.1, ?_⟩
  rcases h.2 with h0 | ⟨b, off, e, hl, hc⟩
  · exact .inl h0
  · refine .inr ⟨b, off, e, Nat.lt_of_lt_of_le hl hB.size, fun k hk => ?_⟩
    obtain ⟨c, hcell, h1, h2⟩ := hc k hk
    exact ⟨c, by rw [hB.cell hl]; exact hcell, h1, h2⟩

set_option maxHeartbeats 1000000 in
theorem drawAdded_any (w : World) (a0 : Option Addr) (len cap : Nat) (hcode : CodeAt w a0 len) :
    Calls Try.prog 26 #[.slice a0 len cap] w fun e w' => ∃ (v : Value) (adds : Int) (R : List (List Int)) (s : ByteArray), e = .returned (.tuple #[skv v adds, .string s]) ∧ s.size ≤ 2 ∧ Rd w' w.heap.size w'.heap.size v R ∧ Below w.heap.size w w' := by
  have m1 : Hid True := trivial
  go_enter Try.func26, Try.ntmps26
  go_wp2_with (first | (clear m1; refine wpList_alloc_v rfl 27 rfl _ zero27 ?_; intro b2 w1 hb2 hw1 hB1 hV2) | (go_at_call 46; refine (new_cur _ _ _ _ (code_below' hcode hB1)).mono ?_; rintro e w2 ⟨p, rfl, hp, hc, hB2⟩) | (go_at_call 47; refine (l2Draw_any _ p a0 len cap hc).mono ?_; rintro e w3 ⟨v, adds, R, rfl, hrd, hc3, hg3⟩; obtain ⟨va, vn, vc, rfl⟩ := hrd.form) | (refine wpList_alloc_v rfl 27 rfl _ zero27 ?_; intro b5 w4 hb5 hw4 hB4 hV4) | (refine wpList_store_v rfl 27 _ _ rfl b5 [.slice va vn vc, .int .i64 adds] rfl rfl size27 hV4 rfl (by simp [Value.oneCell']) ?_; intro w5 hO5 hV5) | (fail))
  have h1 := hB1.size
  have h2 := hB2.size
  have h3 := hg3.size
  have h4 := hB4.size
  have h5 := hO5.1
  have hp2 := hc.1
  have hp3 := hc3.1
  have hr2 : VBlk w5 b2 27 [.slice none 0 0, .int .i64 0] := (((hV2.below hB2 hw1).grown hg3 (fun e => by cases e; omega)).below hB4 (by omega)).of (hO5.2.1 _ (by omega))
  have hcur : Hid (Cur w5.drew p a0 len cap) := cur_below (cur_below hc3 hB4 hp3) (hO5.2.2 w3.heap.size hb5).drew hp3
  have c0 := hV5.cell 0 (by simp)
  have c1 := hV5.cell 1 (by simp)
  simp only [List.getElem_cons_zero, List.getElem_cons_succ] at c0 c1
  have hBw : Below w.heap.size w w5 := (((hB1.trans (hB2.mono h1)).grown hg3 (by omega) (fun k hk => by cases hk; omega)).trans (hB4.mono (by omega))).trans (hO5.2.2 _ (by omega))
  have hrd5 : Hid (Rd w5 w2.heap.size w3.heap.size (.slice va vn vc) R) := (hrd.below hB4 (Nat.le_refl _)).below (hO5.2.2 w3.heap.size hb5) (Nat.le_refl _)
  go_region_law (first | (go_simp; go_at_call 48; refine (name_from _ _ p a0 len cap hcur.out (World.grownBy.refl _ _)).mono ?_; rintro e w6 ⟨s, rfl, hs, hc6, hg6⟩; have hV6 := VBlk.grown (w := w5.drew) hV5 hg6 (fun e => by cases e; omega); have hr6 := VBlk.grown (w := w5.drew) hr2 hg6 (fun e => by cases e; omega); have e0 := hV6.cell 0 (by simp); have e1 := hV6.cell 1 (by simp); have f0 := hr6.cell 0 (by simp); have f1 := hr6.cell 1 (by simp); have f2 := hr6.frozen 0; have f3 := hr6.frozen 1; simp only [List.getElem_cons_zero, List.getElem_cons_succ] at e0 e1 f0 f1; dsimp only) | (fail))
  all_goals
    go_wp2
    have h6 : w5.heap.size ≤ w6.heap.size := hg6.size
    have hz : ∀ k, k ≠ b2 → ((w6.setCell ⟨b2, 0, none⟩ (.slice va vn vc)).setCell ⟨b2, 1, none⟩ (.int .i64 adds)).heap[k]? = w6.heap[k]? := fun k hk => by rw [heap_setCell_other _ _ _ _ hk, heap_setCell_other _ _ _ _ hk]
    refine row_ret2v rfl rfl rfl ((hr6.set 0 _).set 1 _) Try.underlying27 size27 rfl ⟨_, _, R, s, rfl, hs, ?_, ?_⟩
    · refine (hrd5.out.keep (fun k g1 g2 => ?_)).wide (by omega) (by simp; omega)
      rw [hz k (by omega)]
      exact hg6.block k (by show k < w5.heap.size; omega) (fun e => by cases e; omega)
    · have hB6 : Below w.heap.size w w6 := hBw.drew.grown hg6 (by show w.heap.size ≤ w5.heap.size; omega) (fun k hk => by cases hk; omega)
      exact (hB6.setCell hb2 _).setCell hb2 _

theorem drawEstimate_any (w : World) (a0 : Option Addr) (len cap : Nat) (hcode : CodeAt w a0 len) :
    Calls Try.prog 29 #[.slice a0 len cap] w fun e w' => ∃ (v : Value) (adds : Int) (R : List (List Int)) (s : ByteArray), e = .returned (.tuple #[skv v adds, .string s]) ∧ s.size ≤ 2 ∧ Rd w' w.heap.size w'.heap.size v R ∧ Below w.heap.size w w' := by
  go_enter Try.func29, Try.ntmps29
  go_wp2_with (first | (refine wpList_alloc_v rfl 27 rfl _ zero27 ?_; intro b2 w1 hb2 hw1 hB1 hV2) | (go_at_call 26; refine (drawAdded_any _ a0 len cap (code_below' hcode hB1)).mono ?_; rintro e w3 ⟨v, adds, R, s, rfl, hs, hrd, hB3⟩; obtain ⟨va, vn, vc, rfl⟩ := hrd.form; have hV3 := hV2.below hB3 hw1) | (refine wpList_store_v rfl 27 _ _ rfl b2 [.slice va vn vc, .int .i64 adds] rfl rfl size27 hV3 rfl (by simp [Value.oneCell']) ?_; intro w5 hO5 hV5) | (fail))
  have h1 := hB1.size
  have h5 := hO5.1
  refine row_ret2v rfl rfl rfl hV5 Try.underlying27 size27 rfl ⟨_, _, R, s, rfl, hs, ?_, (hB1.trans (hB3.mono h1)).trans (hO5.2.2 _ hb2)⟩
  exact (hrd.keep (fun k g1 g2 => hO5.2.1 k (by omega))).wide (by omega) (by omega)
end Go.Proofs.Ytgdoclaifnnpgaa.draw
