/- What the laws of chapter 8 draw, fourth part: DrawRingOk, DrawTurns, DrawJoins, DrawLeaves, DrawUses. -/
import Derived.Test.YtgcgofnjaipndaaRe3
namespace Go.Proofs.Ytgcgofnjaipndaa.rg
open Go.ChangeShapes Go.WideShapes Go.ChangeAt Go.RowKit
open Go.Proofs.Ytgcgofnjaipndaa.ce Go.Proofs.Ytgcgofnjaipndaa.ro Go.Proofs.Ytgcgofnjaipndaa.draw
set_option linter.unusedVariables false

/-- what a law has drawn -/
structure Got (w : World) (vN vU : Value) (r : Rg) (w' : World) : Prop where
  o : OwnR w' w.heap.size w'.heap.size vN vU r
  s : Sm r
  low : Below w.heap.size w w'
theorem gb_low {w w2 w3 : World} {p : Nat} (hB : Below w.heap.size w w2) (hp : w.heap.size ≤ p) (hg : w2.grownBy w3 (some p)) : Below w.heap.size w w3 := hB.grown hg hB.size (fun k hk => by cases hk; exact hp)
theorem gb_vblk {w2 w3 : World} {p b : Nat} {t : TypeId} {vs : List Value} (hv : VBlk w2 b t vs) (hn : b ≠ p) (hg : w2.grownBy w3 (some p)) : VBlk w3 b t vs := hv.of (hg.block b hv.lt (fun e => by cases e; exact hn rfl))

theorem code_below {w w' : World} {a0 : Option Addr} {len : Nat} (h : CodeAt w a0 len) (hB : Below w.heap.size w w') : CodeAt w' a0 len := by
  refine ⟨h.1, ?_⟩
  rcases h.2 with h0 | ⟨b, off, e, hl, hc⟩
  · exact .inl h0
  · refine .inr ⟨b, off, e, Nat.lt_of_lt_of_le hl hB.size, fun k hk => ?_⟩
    obtain ⟨c, hcell, h1, h2⟩ := hc k hk
    exact ⟨c, by rw [hB.cell hl]; exact hcell, h1, h2⟩
theorem keep3 {w6 : World} {b2 b5 : Nat} {u v x y0 y1 y2 : Value} (hn : b5 ≠ b2) (h : w6.cell? ⟨b5, 0, none⟩ = some u ∧ w6.cell? ⟨b5, 1, none⟩ = some v ∧ w6.cell? ⟨b5, 2, none⟩ = some x) :
    (((w6.setCell ⟨b2, 0, none⟩ y0).setCell ⟨b2, 1, none⟩ y1).setCell ⟨b2, 2, none⟩ y2).cell? ⟨b5, 0, none⟩ = some u ∧ (((w6.setCell ⟨b2, 0, none⟩ y0).setCell ⟨b2, 1, none⟩ y1).setCell ⟨b2, 2, none⟩ y2).cell? ⟨b5, 1, none⟩ = some v ∧ (((w6.setCell ⟨b2, 0, none⟩ y0).setCell ⟨b2, 1, none⟩ y1).setCell ⟨b2, 2, none⟩ y2).cell? ⟨b5, 2, none⟩ = some x := by
  have hb : (((w6.setCell ⟨b2, 0, none⟩ y0).setCell ⟨b2, 1, none⟩ y1).setCell ⟨b2, 2, none⟩ y2).heap[b5]? = w6.heap[b5]? := (((only_set _ b2 2 _).2.1 b5 hn).trans ((only_set _ b2 1 _).2.1 b5 hn)).trans ((only_set _ b2 0 _).2.1 b5 hn)
  have hc : ∀ j, (((w6.setCell ⟨b2, 0, none⟩ y0).setCell ⟨b2, 1, none⟩ y1).setCell ⟨b2, 2, none⟩ y2).cell? ⟨b5, j, none⟩ = w6.cell? ⟨b5, j, none⟩ := fun j => World.cell?_of_block (w := w6) (a := ⟨b5, j, none⟩) hb
  exact ⟨(hc 0).trans h.1, (hc 1).trans h.2.1, (hc 2).trans h.2.2⟩

set_option maxRecDepth 100000 in
theorem drawRingOk_any (w : World) (a0 : Option Addr) (len cap : Nat) (hcode : CodeAt w a0 len) :
    Calls Try.prog 65 #[.slice a0 len cap] w fun e w' => ∃ vN vU r, e = .returned (.agg #[vN, vU, .int .i64 r.A]) ∧ Got w vN vU r w' := by
  have HC : Hid (CodeAt w a0 len) := hcode
  clear hcode
  have m1 : Hid True := trivial
  go_enter Try.func65, Try.ntmps65
  go_wp2_with (first | (clear m1; refine wpList_alloc_v rfl 29 rfl _ zeroRg ?_; intro b2 w1 hb2 hw2 hB1 V2; have hz1 := hB1.size) | (go_at_call 62; refine (new_cur w1 _ _ _ (code_below HC.out hB1)).mono ?_; rintro e w2 ⟨p, rfl, hp, hc2, hB2⟩; replace V2 := vblk_grow V2 hB2; have hB := hB1.trans (hB2.mono hz1); have hz2 := hB2.size) | (go_at_call 63; refine (l8Draw_any w2 p a0 len cap hc2).mono ?_; rintro e w3 ⟨vN, vU, r, rfl, dn⟩; replace V2 := gb_vblk V2 (by omega) dn.gb; have hB3 := gb_low hB (by omega) dn.gb; obtain ⟨aN, nN, kN, rfl⟩ := dn.o.n.slice; obtain ⟨aU, nU, kU, rfl⟩ := dn.o.u.slice) | (refine wpList_store_v rfl 29 _ _ rfl b2 [.slice aN nN kN, .slice aU nU kU, .int .i64 r.A] rfl rfl sizeRg V2 rfl (by simp [Value.oneCell']) ?_; intro w9 hO9 V9) | (fail))
  exact row_retv rfl rfl V9 Try.underlying29 sizeRg rfl ⟨_, _, r, rfl, ⟨((dn.o.only hO9 V2 (by decide) (by decide)).wide (by omega) (Nat.le_refl _)).top, dn.s, hB3.trans (hO9.2.2 _ hb2)⟩⟩

set_option maxRecDepth 100000 in
theorem drawTurns_any (w : World) (a0 : Option Addr) (len cap : Nat) (hcode : CodeAt w a0 len) :
    Calls Try.prog 35 #[.slice a0 len cap] w fun e w' => ∃ vN vU r, e = .returned (.agg #[vN, vU, .int .i64 r.A]) ∧ Got w vN vU r w' := by
  have HC : Hid (CodeAt w a0 len) := hcode
  clear hcode
  go_enter Try.func35, Try.ntmps35
  go_wp2_with (first | (refine wpList_alloc_v rfl 29 rfl _ zeroRg ?_; intro b2 w1 hb2 hw2 hB1 V2; have hz1 := hB1.size) | (go_at_call 65; refine (drawRingOk_any w1 _ _ _ (code_below HC.out hB1)).mono ?_; rintro e w3 ⟨vN, vU, r, rfl, dn⟩; replace V2 := vblk_grow V2 dn.low; have hB3 := hB1.trans (dn.low.mono hz1); obtain ⟨aN, nN, kN, rfl⟩ := dn.o.n.slice; obtain ⟨aU, nU, kU, rfl⟩ := dn.o.u.slice) | (refine wpList_store_v rfl 29 _ _ rfl b2 [.slice aN nN kN, .slice aU nU kU, .int .i64 r.A] rfl rfl sizeRg V2 rfl (by simp [Value.oneCell']) ?_; intro w9 hO9 V9) | (fail))
  exact row_retv rfl rfl V9 Try.underlying29 sizeRg rfl ⟨_, _, r, rfl, ⟨((dn.o.only hO9 V2 (by decide) (by decide)).wide (by omega) (Nat.le_refl _)).top, dn.s, hB3.trans (hO9.2.2 _ hb2)⟩⟩

set_option maxRecDepth 100000 in
set_option maxHeartbeats 1000000 in
theorem drawJoins_any (w : World) (a0 : Option Addr) (len cap : Nat) (hcode : CodeAt w a0 len) :
    Calls Try.prog 29 #[.slice a0 len cap] w fun e w' => ∃ vN vU r s, e = .returned (.tuple #[.agg #[vN, vU, .int .i64 r.A], .string s]) ∧ s.size ≤ 13 ∧ Got w vN vU r w' := by
  have HC : Hid (CodeAt w a0 len) := hcode
  clear hcode
  have m1 : Hid True := trivial
  go_enter Try.func29, Try.ntmps29
  go_wp2_with (first | (clear m1; refine wpList_alloc_v rfl 29 rfl _ zeroRg ?_; intro b2 w1 hb2 hw2 hB1 V2; have hz1 := hB1.size) | (go_at_call 62; refine (new_cur w1 _ _ _ (code_below HC.out hB1)).mono ?_; rintro e w2 ⟨p, rfl, hp, hc2, hB2⟩; replace V2 := vblk_grow V2 hB2; have hB := hB1.trans (hB2.mono hz1); have hz2 := hB2.size; have hpl := hc2.1) | (go_at_call 63; refine (l8Draw_any w2 p a0 len cap hc2).mono ?_; rintro e w3 ⟨vN, vU, r, rfl, dn⟩; replace V2 := gb_vblk V2 (by omega) dn.gb; have hB3 := gb_low hB (by omega) dn.gb; have hz3 := dn.gb.size; obtain ⟨aN, nN, kN, rfl⟩ := dn.o.n.slice; obtain ⟨aU, nU, kU, rfl⟩ := dn.o.u.slice) | (refine wpList_alloc_v rfl 29 rfl _ zeroRg ?_; intro b5 w4 hb5 hw5 hB4 V5; have hz4 := hB4.size; replace V2 := vblk_grow V2 hB4; have o4 := dn.o.grow hB4) | (refine wpList_store_v rfl 29 _ _ rfl b5 [.slice aN nN kN, .slice aU nU kU, .int .i64 r.A] rfl rfl sizeRg V5 rfl (by simp [Value.oneCell']) ?_; intro w5 hO5 X5; have o5 := o4.only hO5 V5 (by decide) (by decide); replace V2 := vblk_only V2 hO5 (by omega); have hy5 := Nat.le_of_eq hO5.1.symm) | (fail))
  have c5 : Cur w5 p a0 len cap := cur_below (cur_below dn.cur hB4 dn.cur.1) (hO5.2.2 w3.heap.size (by omega)) dn.cur.1
  have hB5 : Below w.heap.size w w5 := (hB3.trans (hB4.mono (by omega))).trans (hO5.2.2 _ (by omega))
  obtain ⟨c0, c1, c2⟩ := cells3 X5
  have hbp : b2 ≠ p ∧ b5 ≠ p ∧ b5 ≠ b2 ∧ w.heap.size ≤ p := by omega
  have S1 : w5.drew.cell? ⟨b5, 0, none⟩ = some (.slice aN nN kN) ∧ w5.drew.cell? ⟨b5, 1, none⟩ = some (.slice aU nU kU) ∧ w5.drew.cell? ⟨b5, 2, none⟩ = some (.int .i64 r.A) := ⟨c0, c1, c2⟩
  go_region_held3 (fun w' => w'.cell? ⟨b5, 0, none⟩ = some (.slice aN nN kN) ∧ w'.cell? ⟨b5, 1, none⟩ = some (.slice aU nU kU) ∧ w'.cell? ⟨b5, 2, none⟩ = some (.int .i64 r.A)) (first | assumption | exact S1 | exact keep3 hbp.2.2.1 S6) (first | (go_at_call 64; refine (l8DrawName_any w5.drew w5.drew p a0 len cap (cur_d c5) (World.grownBy.refl _ _)).mono ?_; rintro e w6 ⟨s, rfl, hs, hc6, hg6⟩; have hg6' := gb_d hg6; have V26 := gb_vblk V2 hbp.1 hg6'; have V56 := gb_vblk X5 hbp.2.1 hg6'; have S6 := cells3 V56; obtain ⟨q0, q1, q2⟩ := cells3 V26; have f0 := V26.frozen 0; have f1 := V26.frozen 1; have f2 := V26.frozen 2) | (fail))
  go_wp2
  have hkeep : ∀ g, w2.heap.size ≤ g → g < w3.heap.size → w6.heap[g]? = w5.heap[g]? := fun g h1 h2 => hg6'.block g (by omega) (fun e => by cases e; omega)
  have o6 : OwnR w6 w2.heap.size w3.heap.size (.slice aN nN kN) (.slice aU nU kU) r := ⟨o5.n.keep hkeep, o5.u.keep hkeep⟩
  have oR : OwnR _ w2.heap.size w3.heap.size (.slice aN nN kN) (.slice aU nU kU) r := ⟨own_store (y0 := .slice aN nN kN) (y1 := .slice aU nU kU) (y2 := .int .i64 r.A) o6.n V26 (by decide), own_store (y0 := .slice aN nN kN) (y1 := .slice aU nU kU) (y2 := .int .i64 r.A) o6.u V26 (by decide)⟩
  refine row_ct rfl rfl rfl (copy_end V26) Try.underlying29 sizeRg rfl ⟨_, _, r, s, rfl, hs, ⟨(oR.wide (by omega) (Nat.le_refl _)).top, dn.s, ?_⟩⟩
  exact (((gb_low hB5 hbp.2.2.2 hg6').trans ((only_set _ b2 0 _).2.2 _ hb2)).trans ((only_set _ b2 1 _).2.2 _ hb2)).trans ((only_set _ b2 2 _).2.2 _ hb2)

set_option maxRecDepth 100000 in
theorem drawLeaves_any (w : World) (a0 : Option Addr) (len cap : Nat) (hcode : CodeAt w a0 len) :
    Calls Try.prog 30 #[.slice a0 len cap] w fun e w' => ∃ vN vU r s, e = .returned (.tuple #[.agg #[vN, vU, .int .i64 r.A], .string s]) ∧ s.size ≤ 13 ∧ Got w vN vU r w' := by
  have HC : Hid (CodeAt w a0 len) := hcode
  clear hcode
  go_enter Try.func30, Try.ntmps30
  go_wp2_with (first | (refine wpList_alloc_v rfl 29 rfl _ zeroRg ?_; intro b2 w1 hb2 hw2 hB1 V2; have hz1 := hB1.size) | (go_at_call 29; refine (drawJoins_any w1 _ _ _ (code_below HC.out hB1)).mono ?_; rintro e w3 ⟨vN, vU, r, s, rfl, hs, dn⟩; replace V2 := vblk_grow V2 dn.low; have hB3 := hB1.trans (dn.low.mono hz1); obtain ⟨aN, nN, kN, rfl⟩ := dn.o.n.slice; obtain ⟨aU, nU, kU, rfl⟩ := dn.o.u.slice) | (refine wpList_store_v rfl 29 _ _ rfl b2 [.slice aN nN kN, .slice aU nU kU, .int .i64 r.A] rfl rfl sizeRg V2 rfl (by simp [Value.oneCell']) ?_; intro w9 hO9 V9) | (fail))
  exact row_ct rfl rfl rfl V9 Try.underlying29 sizeRg rfl ⟨_, _, r, s, rfl, hs, ⟨((dn.o.only hO9 V2 (by decide) (by decide)).wide (by omega) (Nat.le_refl _)).top, dn.s, hB3.trans (hO9.2.2 _ hb2)⟩⟩

set_option maxRecDepth 100000 in
theorem drawUses_any (w : World) (a0 : Option Addr) (len cap : Nat) (hcode : CodeAt w a0 len) :
    Calls Try.prog 31 #[.slice a0 len cap] w fun e w' => ∃ vN vU r s, e = .returned (.tuple #[.agg #[vN, vU, .int .i64 r.A], .string s]) ∧ s.size ≤ 13 ∧ Got w vN vU r w' := by
  have HC : Hid (CodeAt w a0 len) := hcode
  clear hcode
  go_enter Try.func31, Try.ntmps31
  go_wp2_with (first | (refine wpList_alloc_v rfl 29 rfl _ zeroRg ?_; intro b2 w1 hb2 hw2 hB1 V2; have hz1 := hB1.size) | (go_at_call 29; refine (drawJoins_any w1 _ _ _ (code_below HC.out hB1)).mono ?_; rintro e w3 ⟨vN, vU, r, s, rfl, hs, dn⟩; replace V2 := vblk_grow V2 dn.low; have hB3 := hB1.trans (dn.low.mono hz1); obtain ⟨aN, nN, kN, rfl⟩ := dn.o.n.slice; obtain ⟨aU, nU, kU, rfl⟩ := dn.o.u.slice) | (refine wpList_store_v rfl 29 _ _ rfl b2 [.slice aN nN kN, .slice aU nU kU, .int .i64 r.A] rfl rfl sizeRg V2 rfl (by simp [Value.oneCell']) ?_; intro w9 hO9 V9) | (fail))
  exact row_ct rfl rfl rfl V9 Try.underlying29 sizeRg rfl ⟨_, _, r, s, rfl, hs, ⟨((dn.o.only hO9 V2 (by decide) (by decide)).wide (by omega) (Nat.le_refl _)).top, dn.s, hB3.trans (hO9.2.2 _ hb2)⟩⟩
end Go.Proofs.Ytgcgofnjaipndaa.rg
