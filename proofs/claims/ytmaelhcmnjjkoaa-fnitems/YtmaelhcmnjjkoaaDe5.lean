/- What the laws of chapter 10 draw: DrawItemOk, DrawOverAt, DrawBookOk, DrawHeavy, DrawFindItem. -/
import Derived.Test.YtmaelhcmnjjkoaaDe4
namespace Go.Proofs.Ytmaelhcmnjjkoaa.rg
open Go.ChangeShapes Go.WideShapes Go.ChangeAt Go.RowKit
open Go.Proofs.Ytmaelhcmnjjkoaa.ce Go.Proofs.Ytmaelhcmnjjkoaa.ro Go.Proofs.Ytmaelhcmnjjkoaa.draw
set_option linter.unusedVariables false

theorem results_ct {fn : Func} {p u : Tmp} {ty : TypeId} (h : fn.results = #[.cell p ty, .tmp u]) (tmps : Array Value) (P : Program) (w : World) :
    (results fn tmps).run P w =
      ((asAddr (tmps.getD p undef)).run P w).andThen fun a w₁ => ((loadVar ty a).run P w₁).andThen fun v w₂ => .ok (.tuple #[v, tmps.getD u undef]) w₂ := by
  simp only [results, h]
  simp [Sem.run_bind, Result.andThen]
theorem row_ct {fn : Func} {p u : Tmp} {ty : TypeId} (h : fn.results = #[.cell p ty, .tmp u]) {R : Ending → World → Prop} {a : Act} {w : World} {b : Nat} {t : TypeId} {vs : List Value} {fs : Array Field} {x : Value}
    (hp : a.tmps.getD p undef = .pointer (some ⟨b, 0, none⟩)) (hx : a.tmps.getD u undef = x) (hb : VBlk w b t vs) (hu : Try.prog.underlying ty = some (.struct fs))
    (hi : (Try.prog.info? ty).map (·.size) = some vs.length) (hdf : a.defers = []) (hR : R (.returned (.tuple #[.agg vs.toArray, x])) w) : bodyPost Try.prog fn R .ret a w := by
  have hl := run_loadVar_row (P := Try.prog) w b t ty vs.toArray (0, 0) _ hb hu rfl (by rw [hi]; simp)
  refine bodyPost_ret ?_ hdf hR
  rw [results_ct h, hp, hx]
  simp [asAddr, hl]
theorem gbi_low {w w2 w3 : World} {p : Nat} (hB : Below w.heap.size w w2) (hp : w.heap.size ≤ p) (hg : w2.grownBy w3 (some p)) : Below w.heap.size w w3 := hB.grown hg hB.size (fun k hk => by cases hk; exact hp)
theorem gbi_vblk {w2 w3 : World} {p b : Nat} {t : TypeId} {vs : List Value} (hv : VBlk w2 b t vs) (hn : b ≠ p) (hg : w2.grownBy w3 (some p)) : VBlk w3 b t vs := hv.of (hg.block b hv.lt (fun e => by cases e; exact hn rfl))
theorem codei_below {w w' : World} {a0 : Option Addr} {len : Nat} (h : CodeAt w a0 len) (hB : Below w.heap.size w w') : CodeAt w' a0 len := by
  refine ⟨h.1, ?_⟩
  rcases h.2 with h0 | ⟨b, off, e, hl, hc⟩
  · exact .inl h0
  · refine .inr ⟨b, off, e, Nat.lt_of_lt_of_le hl hB.size, fun k hk => ?_⟩
    obtain ⟨c, hcell, h1, h2⟩ := hc k hk
    exact ⟨c, by rw [hB.cell hl]; exact hcell, h1, h2⟩
theorem curi_d {w : World} {p : Nat} {a0 : Option Addr} {len cap : Nat} (h : Cur w p a0 len cap) : Cur w.drew p a0 len cap := cur_drewN h 1
theorem gbi_d {w w' : World} {p : Nat} (h : w.drew.grownBy w' (some p)) : w.grownBy w' (some p) := ⟨h.os, h.tape, h.output, h.size, h.block⟩
def set5 (w : World) (b : Nat) (y0 y1 y2 y3 y4 : Value) : World := ((((w.setCell ⟨b, 0, none⟩ y0).setCell ⟨b, 1, none⟩ y1).setCell ⟨b, 2, none⟩ y2).setCell ⟨b, 3, none⟩ y3).setCell ⟨b, 4, none⟩ y4
theorem set5_only (w : World) (b : Nat) (y0 y1 y2 y3 y4 : Value) : Only b w (set5 w b y0 y1 y2 y3 y4) := only_setCells w b [y0, y1, y2, y3, y4] 0
theorem set5_blk {w : World} {b : Nat} {t : TypeId} {q0 q1 q2 q3 q4 y0 y1 y2 y3 y4 : Value} (hv : VBlk w b t [q0, q1, q2, q3, q4]) : VBlk (set5 w b y0 y1 y2 y3 y4) b t [y0, y1, y2, y3, y4] := by
  unfold set5
  simpa using ((((hv.set 0 y0).set 1 y1).set 2 y2).set 3 y3).set 4 y4
theorem keep5 {w : World} {b b' : Nat} {t : TypeId} {u0 u1 u2 u3 u4 y0 y1 y2 y3 y4 : Value} (hn : b' ≠ b) (h : VBlk w b' t [u0, u1, u2, u3, u4]) :
    (((((w.setCell ⟨b, 0, none⟩ y0).setCell ⟨b, 1, none⟩ y1).setCell ⟨b, 2, none⟩ y2).setCell ⟨b, 3, none⟩ y3).setCell ⟨b, 4, none⟩ y4).cell? ⟨b', 0, none⟩ = some u0 ∧ (((((w.setCell ⟨b, 0, none⟩ y0).setCell ⟨b, 1, none⟩ y1).setCell ⟨b, 2, none⟩ y2).setCell ⟨b, 3, none⟩ y3).setCell ⟨b, 4, none⟩ y4).cell? ⟨b', 1, none⟩ = some u1 ∧ (((((w.setCell ⟨b, 0, none⟩ y0).setCell ⟨b, 1, none⟩ y1).setCell ⟨b, 2, none⟩ y2).setCell ⟨b, 3, none⟩ y3).setCell ⟨b, 4, none⟩ y4).cell? ⟨b', 2, none⟩ = some u2 ∧ (((((w.setCell ⟨b, 0, none⟩ y0).setCell ⟨b, 1, none⟩ y1).setCell ⟨b, 2, none⟩ y2).setCell ⟨b, 3, none⟩ y3).setCell ⟨b, 4, none⟩ y4).cell? ⟨b', 3, none⟩ = some u3 ∧ (((((w.setCell ⟨b, 0, none⟩ y0).setCell ⟨b, 1, none⟩ y1).setCell ⟨b, 2, none⟩ y2).setCell ⟨b, 3, none⟩ y3).setCell ⟨b, 4, none⟩ y4).cell? ⟨b', 4, none⟩ = some u4 :=
  cells5 (w := set5 w b y0 y1 y2 y3 y4) (h.of ((set5_only w b y0 y1 y2 y3 y4).2.1 b' hn))

theorem drawItemOk_any (w : World) (a0 : Option Addr) (len cap : Nat) (hcode : CodeAt w a0 len) :
    Calls Try.prog 28 #[.slice a0 len cap] w fun e w' => ∃ (N B : ByteArray) (F C U : Int), e = .returned (.agg #[.string N, .int .i64 F, .string B, .int .i64 C, .int .i64 U]) ∧ N.size ≤ 4000 ∧ B.size ≤ 4000 ∧ Below w.heap.size w w' := by
  have HC : Hid (CodeAt w a0 len) := hcode
  clear hcode
  go_enter Try.func28, Try.ntmps28
  go_wp2_with (first | (refine wpList_alloc_v rfl 26 rfl _ zeroIt ?_; intro b2 w1 hb2 hw2 hB1 V2; have hz1 := hB1.size) | (go_at_call 41; refine (new_cur w1 _ _ _ (codei_below HC.out hB1)).mono ?_; rintro e w2 ⟨p, rfl, hp, hc2, hB2⟩; replace V2 := vblk_grow V2 hB2; have hB := hB1.trans (hB2.mono hz1); have hz2 := hB2.size) | (go_at_call 42; refine (l10DrawAny_any w2 p a0 len cap hc2).mono ?_; rintro e w3 ⟨N, B, F, C, U, rfl, G⟩; replace V2 := gbi_vblk V2 (by omega) G.gb; have hB3 := gbi_low hB (by omega) G.gb) | (refine wpList_store_v rfl 26 _ _ rfl b2 [.string N, .int .i64 F, .string B, .int .i64 C, .int .i64 U] rfl rfl sizeIt V2 rfl (ic_one ⟨N, F, B, C, U⟩) ?_; intro w9 hO9 V9) | (fail))
  refine row_retv rfl rfl V9 Try.underlying26 sizeIt rfl ⟨_, _, _, _, _, rfl, G.sN, G.sB, hB3.trans (hO9.2.2 _ hb2)⟩

set_option maxRecDepth 100000 in
set_option maxHeartbeats 1000000 in
theorem drawOverAt_any (w : World) (a0 : Option Addr) (len cap : Nat) (hcode : CodeAt w a0 len) :
    Calls Try.prog 29 #[.slice a0 len cap] w fun e w' => ∃ (N B : ByteArray) (F C U now : Int), e = .returned (.tuple #[.agg #[.string N, .int .i64 F, .string B, .int .i64 C, .int .i64 U], .int .i64 now]) ∧ N.size ≤ 4000 ∧ B.size ≤ 4000 ∧ Below w.heap.size w w' := by
  have HC : Hid (CodeAt w a0 len) := hcode
  clear hcode
  have m1 : Hid True := trivial
  have m2 : Hid True := trivial
  go_enter Try.func29, Try.ntmps29
  go_upto_region 3 with (first | (clear m1; refine wpList_alloc_v rfl 26 rfl _ zeroIt ?_; intro b2 w1 hb2 hw2 hB1 V2; have hz1 := hB1.size) | (go_at_call 41; refine (new_cur w1 _ _ _ (codei_below HC.out hB1)).mono ?_; rintro e w2 ⟨p, rfl, hp, hc2, hB2⟩; have hpl := hc2.1; replace V2 := vblk_grow V2 hB2; have hB := hB1.trans (hB2.mono hz1); have hz2 := hB2.size) | (go_at_call 42; refine (l10DrawAny_any w2 p a0 len cap hc2).mono ?_; rintro e w3 ⟨N, B, F, C, U, rfl, G⟩; have hz3 := G.gb.size; replace V2 := gbi_vblk V2 (by omega) G.gb; have hB3 := gbi_low hB (by omega) G.gb) | (clear m2; refine wpList_alloc_v rfl 26 rfl _ zeroIt ?_; intro b5 w4 hb5 hw5 hB4 V5; have hz4 := hB4.size; replace V2 := vblk_grow V2 hB4) | (refine wpList_store_v rfl 26 _ _ rfl b5 [.string N, .int .i64 F, .string B, .int .i64 C, .int .i64 U] rfl rfl sizeIt V5 rfl (ic_one ⟨N, F, B, C, U⟩) ?_; intro w5 hO5 X5; have hz5 : w4.heap.size ≤ w5.heap.size := (Nat.le_of_eq hO5.1.symm)) | (fail))
  have c5 : Cur w5 p a0 len cap := cur_below (cur_below G.cur hB4 G.cur.1) (hO5.2.2 w3.heap.size (by omega)) G.cur.1
  have hB5 : Below w.heap.size w w5 := (hB3.trans (hB4.mono (by omega))).trans (hO5.2.2 _ (by omega))
  have hb25 : b5 ≠ b2 := by have := V2.lt; have := hB1.size; omega
  have W2 : VBlk w5 b2 26 [.string ⟨#[]⟩, .int .i64 0, .string ⟨#[]⟩, .int .i64 0, .int .i64 0] := V2.of (hO5.2.1 b2 (Ne.symm hb25))
  have hbp : b2 ≠ p ∧ b5 ≠ p ∧ w.heap.size ≤ p := by omega
  have HX : Hid (VBlk w5 b5 26 [.string N, .int .i64 F, .string B, .int .i64 C, .int .i64 U]) := X5
  have HW : Hid (VBlk w5 b2 26 [.string ⟨#[]⟩, .int .i64 0, .string ⟨#[]⟩, .int .i64 0, .int .i64 0]) := W2
  clear V2 V5 X5 W2
  have S1 : w5.drew.cell? ⟨b5, 0, none⟩ = some (.string N) ∧ w5.drew.cell? ⟨b5, 1, none⟩ = some (.int .i64 F) ∧ w5.drew.cell? ⟨b5, 2, none⟩ = some (.string B) ∧ w5.drew.cell? ⟨b5, 3, none⟩ = some (.int .i64 C) ∧ w5.drew.cell? ⟨b5, 4, none⟩ = some (.int .i64 U) := cells5 (w := w5.drew) HX.out
  go_region_held3 (fun w' => w'.cell? ⟨b5, 0, none⟩ = some (.string N) ∧ w'.cell? ⟨b5, 1, none⟩ = some (.int .i64 F) ∧ w'.cell? ⟨b5, 2, none⟩ = some (.string B) ∧ w'.cell? ⟨b5, 3, none⟩ = some (.int .i64 C) ∧ w'.cell? ⟨b5, 4, none⟩ = some (.int .i64 U)) (first | with_reducible assumption | with_reducible exact S1 | with_reducible exact keep5 hb25 V56 | (fail)) (first | (go_at_call 43; refine (below_from w5.drew w5.drew p a0 len cap _ (by omega) (curi_d c5) (World.grownBy.refl _ _)).mono ?_; rintro e w6 ⟨now, rfl, hn0, hn1, hc6, hg6⟩; have hg6' := gbi_d hg6; have V26 := gbi_vblk HW.out hbp.1 hg6'; have V56 := gbi_vblk HX.out hbp.2.1 hg6'; have S6 := cells5 V56; obtain ⟨q0, q1, q2, q3, q4⟩ := cells5 V26; obtain ⟨f0, f1, f2, f3, f4⟩ := froz5 V26) | (fail))
  go_wp2
  refine row_ct rfl rfl rfl (set5_blk (y0 := .string N) (y1 := .int .i64 F) (y2 := .string B) (y3 := .int .i64 C) (y4 := .int .i64 U) V26) Try.underlying26 sizeIt rfl ⟨_, _, _, _, _, _, rfl, G.sN, G.sB, ?_⟩
  exact (gbi_low hB5 hbp.2.2 hg6').trans ((set5_only w6 b2 (.string N) (.int .i64 F) (.string B) (.int .i64 C) (.int .i64 U)).2.2 _ hb2)

/-- what a law has drawn -/
structure GotB (w : World) (v : Value) (q : List It) (w' : World) : Prop where
  o : Own encIt w' w.heap.size w'.heap.size v q
  s : ∀ x ∈ q, SmI x
  l : q.length ≤ 30
  low : Below w.heap.size w w'
theorem drawBookOk_any (w : World) (a0 : Option Addr) (len cap : Nat) (hcode : CodeAt w a0 len) :
    Calls Try.prog 44 #[.slice a0 len cap] w fun e w' => ∃ v q, e = .returned v ∧ GotB w v q w' := by
  have HC : Hid (CodeAt w a0 len) := hcode
  clear hcode
  go_enter Try.func44, Try.ntmps44
  go_wp2_with (first | (go_at_call 41; refine (new_cur w _ _ _ HC.out).mono ?_; rintro e w2 ⟨p, rfl, hp, hc2, hB2⟩; have hz2 := hB2.size) | (go_at_call 45; refine (l10DrawBook_any w2 p a0 len cap hc2).mono ?_; rintro e w3 ⟨v3, q, rfl, D3, hl⟩; have hB3 := gbi_low hB2 (by omega) D3.gb) | (fail))
  go_ret
  exact ⟨_, q, rfl, ⟨D3.o.wide hz2 (Nat.le_refl _), D3.s, hl, hB3⟩⟩
theorem drawHeavy_any (w : World) (a0 : Option Addr) (len cap : Nat) (hcode : CodeAt w a0 len) :
    Calls Try.prog 30 #[.slice a0 len cap] w fun e w' => ∃ v q, e = .returned v ∧ GotB w v q w' := by
  have HC : Hid (CodeAt w a0 len) := hcode
  clear hcode
  go_enter Try.func30, Try.ntmps30
  go_wp2_with (first | (go_at_call 44; refine (drawBookOk_any w _ _ _ HC.out).mono ?_; rintro e w3 ⟨v, q, rfl, G⟩) | (fail))
  go_ret
  exact ⟨_, q, rfl, G⟩
theorem drawFindItem_any (w : World) (a0 : Option Addr) (len cap : Nat) (hcode : CodeAt w a0 len) :
    Calls Try.prog 31 #[.slice a0 len cap] w fun e w' => ∃ v q s, e = .returned (.tuple #[v, .string s]) ∧ s.size ≤ 13 ∧ GotB w v q w' := by
  have HC : Hid (CodeAt w a0 len) := hcode
  clear hcode
  go_enter Try.func31, Try.ntmps31
  go_wp2_with (first | (go_at_call 41; refine (new_cur w _ _ _ HC.out).mono ?_; rintro e w2 ⟨p, rfl, hp, hc2, hB2⟩; have hz2 := hB2.size) | (go_at_call 45; refine (l10DrawBook_any w2 p a0 len cap hc2).mono ?_; rintro e w3 ⟨v3, q, rfl, D3, hl⟩; have hB3 := gbi_low hB2 (by omega) D3.gb) | (go_at_call 46; refine (name_from w3 w3 p a0 len cap D3.cur (World.grownBy.refl _ _)).mono ?_; rintro e w4 ⟨s, rfl, hs, hc4, hg4⟩; have D4 := D3.went hc4 hg4; have hB4 := gbi_low hB2 (by omega) D4.gb) | (fail))
  go_ret2
  exact ⟨_, q, s, rfl, by omega, ⟨D4.o.wide hz2 (Nat.le_refl _), D4.s, hl, hB4⟩⟩
end Go.Proofs.Ytmaelhcmnjjkoaa.rg
