/- Texts laid together: Dz1 DrawPar Dw7 Dz2 Dz3 Like3 Lk6. -/
import Derived.Test.YthjkhghlhjndmaaMg31
import Derived.Test.YthjkhghlhjndmaaMg08
import Derived.Test.YthjkhghlhjndmaaMg14
import Derived.Test.YthjkhghlhjndmaaMg28
import Derived.Test.YthjkhghlhjndmaaMg04
import Derived.Deep.DeepCutAuto
import Derived.Deep.RegionWith
/- What the laws draw: a crew, right or not. -/
namespace Go.Proofs.Ythjkhghlhjndmaa.draw
open Go.ChangeShapes Go.WideShapes Go.ChangeAt Go.RowKit
open Go.Proofs.Ythjkhghlhjndmaa.ce
set_option linter.unusedVariables false

/-- hands that are read are laid behind those of a row of one's own -/
theorem wpList_append_hh {o : Oper} {a : Act} {w : World} {ops : Array Oper} {rest : List Oper} {Q : Exit → Act → World → Prop} (hgd : o.guard = none) (s x : Operand) (t : TypeId) (ho : o.op = .call { callee := .builtin .append, args := #[s, x], argTypes := #[t, t] }) (ht : Try.prog.underlying t = some (.slice 58))
    (lo hi : Nat) (v : Value) (es : List Hd) (hs : a.eval s = v) (hown : OwnH w lo hi v es) (hlo : lo ≤ w.heap.size) (ds : List Hd) (c : Option Addr) (dc : Nat) (hx : a.eval x = .slice c ds.length dc) (hi' : Nat) (r : RdH w hi' (.slice c ds.length dc) ds) (hn : NilOk (.slice c ds.length dc)) (hlen : es.length + ds.length ≤ 1000)
    (h : ∀ v' w', OwnH w' lo w'.heap.size v' (es ++ ds) → w.grownBy w' v.ownBlock → wpList Try.prog ops Q rest (a.put o.dst v') w') : wpList Try.prog ops Q (o :: rest) a w := by
  obtain ⟨i0, hi0, hz0, hz1, hz2⟩ := infoH
  cases c with
  | none =>
    obtain ⟨h0, hc0⟩ := hn _ _ rfl
    have e := List.eq_nil_of_length_eq_zero h0
    subst e
    subst hc0
    have hrun := run_append_owned_none (P := Try.prog) (w := w) lo t o.type 58 i0 8 ht hi0 v es.length (hvs es) hown.row
    simp only [List.length_nil] at hx
    refine wpList_val hgd (v := v) (w' := w) ?_ (h v w ⟨by simpa using hown.row, fun g hg => (hown.lo g hg).2.2⟩ ⟨rfl, rfl, rfl, Nat.le_refl _, fun _ _ _ => rfl⟩)
    simp [execOp, ho, resolve, invoke, builtin, hs, hx, hrun, Result.andThen]
  | some ad =>
    have hnews : ∀ j u, (hvs ds)[j]? = some u → w.cell? (ad.add j) = some u := by
      by_cases e : ds = []
      · subst e; intro j u hj; simp [hvs] at hj
      · obtain ⟨a', cap', e', -, -, h3⟩ := r.fits
        cases e'
        obtain ⟨b, off, e2, -, h5⟩ := h3 e
        cases e2
        intro j u hj
        rw [Addr.add_mid]; exact h5 j u hj
    refine wpList_append_own _ hgd s x t ho lo 58 i0 _ 8 64 ht hi0 hz0 hz1 hz2 rfl (by decide) v es.length (hvs es) hs hown.row ad ds.length dc (hvs ds) hx (hvs_len ds) hnews (hvs_one ds) (by unfold maxLen; omega) (by omega) hlo ?_
    intro v' w' h2 h3 h4
    rw [← hvs_append] at h2
    exact h v' w' ⟨by rw [List.length_append]; exact h2, fun g hg => (h2.lt g hg).2⟩ h3
/-- a row of two hands that was laid just now -/
theorem ownH_two {w : World} {lo : Nat} (hlo : lo ≤ w.heap.size) (k x y s l e o t : Int) : OwnH (w.alloc (.cells #[.int .i64 k, .int .i64 x, .int .i64 y, .int .i64 s, .int .i64 l, .int .i64 e, .int .i64 o, .int .i64 t, .int .i64 k, .int .i64 x, .int .i64 y, .int .i64 s, .int .i64 l, .int .i64 e, .int .i64 o, .int .i64 t] 58)) lo (w.heap.size + 1) (.slice (some ⟨w.heap.size, 0, none⟩) 2 2) [⟨k, x, y, s, l, e, o, t⟩, ⟨k, x, y, s, l, e, o, t⟩] := by
  have h : VBlk (w.alloc (.cells #[.int .i64 k, .int .i64 x, .int .i64 y, .int .i64 s, .int .i64 l, .int .i64 e, .int .i64 o, .int .i64 t, .int .i64 k, .int .i64 x, .int .i64 y, .int .i64 s, .int .i64 l, .int .i64 e, .int .i64 o, .int .i64 t] 58)) w.heap.size 58 (hvs [⟨k, x, y, s, l, e, o, t⟩, ⟨k, x, y, s, l, e, o, t⟩] ++ []) := heap_alloc_new _ _
  exact ownH_of h hlo (Nat.lt_succ_self _) (Nat.le_refl _) (by unfold maxLen; omega) rfl

/-- a store into a block that is none of the crew's -/
theorem Cn.elsewhere {w0 w w' : World} {b p q : Nat} {a0 : Option Addr} {len cap : Nat} {vH vD : Value} {H : List C} {ds : List Hd} (c : Cn w0 w b p a0 len cap vH H vD ds) (hO : Only q w w') (h1 : q ≠ b) (h2 : ∀ k, vH.ownBlock = some k → k ≠ q) (h3 : ∀ k, vD.ownBlock = some k → k ≠ q) (h4 : w0.heap.size ≤ q) : Cn w0 w' b p a0 len cap vH H vD ds :=
  ⟨c.crew.of (hO.2.1 b (Ne.symm h1)), (own_keepB c.heap fun k hk => hO.2.1 k (h2 k hk)).wide (Nat.le_refl _) (Nat.le_of_eq hO.1.symm), (c.hands.keepB fun k hk => hO.2.1 k (h3 k hk)).wide (Nat.le_refl _) (Nat.le_of_eq hO.1.symm), c.hb, c.db, c.hd, c.blo, cur_only c.cur hO (by have := c.pw; omega), gb_only c.gb hO h4, c.pw⟩

set_option maxRecDepth 100000 in
set_option maxHeartbeats 4000000 in
theorem l6DrawAny_any (w : World) (p : Nat) (a0 : Option Addr) (len cap : Nat) (hc : Cur w p a0 len cap) :
    Calls Try.prog 65 #[.pointer (some ⟨p, 0, none⟩)] w fun er w' => ∃ vH vD, er = .returned (.agg #[vH, vD]) ∧ ∃ H ds, Cr w w' p a0 len cap vH H vD ds ∧ ds.length ≤ 8 := by
  have hp := hc.1
  have HC : Hid (Cur w p a0 len cap) := hc
  clear hc
  have m1 : Hid True := trivial
  go_enter Try.func65, Try.ntmps65
  go_upto_if 9 with (first | (clear m1; refine wpList_alloc_v rfl 31 rfl _ zeroCr ?_; intro b2 w1 hb2 hw1 hB1 hV1; have hz1 := hB1.size; have hc1 := cur_below HC.out hB1 hp; have hg1 : w.grownBy w1 (some p) := gb_below (World.grownBy.refl _ _) hB1 (Nat.le_refl _)) | (go_at_call 91; refine (l6Draw_any _ p a0 len cap hc1).mono ?_; rintro er w2 ⟨vH, vD, rfl, H, ds, cr2, ft⟩; have hz2 := cr2.gb.size; obtain ⟨va, vc, rfl⟩ := cr2.hands.len; obtain ⟨gH, cH, rfl, hgH1, hgH2, -⟩ := cr2.heap.form ft.good.1.1) | (refine wpList_alloc_v rfl 31 rfl _ zeroCr ?_; intro b3 w3 hb3 hw3 hB3 hV3; have hz3 := hB3.size) | (refine wpList_store_v rfl 31 _ _ rfl b3 [.slice (some ⟨gH, 0, none⟩) H.length cH, .slice va ds.length vc] rfl rfl sizeCr hV3 rfl (by simp [Value.oneCell']) ?_; intro w4 hO4 hV4; have hz4 := Nat.le_of_eq hO4.1.symm; have hy4 := Nat.le_of_eq hO4.1; have own4 : ce.Own w4 w1.heap.size w4.heap.size (.slice (some ⟨gH, 0, none⟩) H.length cH) H := ((cr2.heap.below hB3 (Nat.le_refl _)).keep fun j j1 j2 => hO4.2.1 j (by omega)).wide (Nat.le_refl _) (by omega); have hands4 : OwnH w4 w1.heap.size w4.heap.size (.slice va ds.length vc) ds := ((cr2.hands.below hB3 (Nat.le_refl _)).keep fun j j1 j2 => hO4.2.1 j (by omega)).wide (Nat.le_refl _) (by omega); have cn4 : Cn w1 w4 b3 p a0 len cap (.slice (some ⟨gH, 0, none⟩) H.length cH) H (.slice va ds.length vc) ds := ⟨hV4, own4, hands4, fun k hk => apart_hb own4 hV4 k hk, fun k hk => apart_db hands4 hV4 k hk, fun k h1 h2 => apart_hd own4 hands4 k h1 h2, by omega, cur_only (cur_below cr2.cur hB3 cr2.cur.1) hO4 (by have := cr2.cur.1; omega), gb_only (gb_below cr2.gb hB3 (by omega)) hO4 (by omega), by omega⟩) | (go_at_call 68; refine (once_from w4 w4 p a0 len cap _ (by omega) cn4.cur (World.grownBy.refl _ _)).mono ?_; rintro er w5 ⟨y5, rfl, hc5, hg5⟩; have cn5 := cn4.drawn hg5 hc5) | (fail))
  have HV1 : Hid (VBlk w1 b2 31 [.slice none 0 0, .slice none 0 0]) := hV1
  have HG1 : Hid (w.grownBy w1 (some p)) := hg1
  have LE : Hid (ds.length ≤ 4) := ft.le
  have hpw : p < w1.heap.size := by omega
  have hz5 := hg5.size
  have cr0 := cn5.crew.cell 0 (by simp)
  have cr1 := cn5.crew.cell 1 (by simp)
  simp only [List.getElem_cons_zero, List.getElem_cons_succ] at cr0 cr1
  clear cr2 hB3 hV3 hO4 hV4 own4 hands4 cn4 hg5 hc5 hV1 hg1 hc1 ft
  cases y5 with
  | false =>
    go_wp2_with (first | (refine wpList_store_v rfl 31 _ _ rfl b2 [.slice (some ⟨gH, 0, none⟩) H.length cH, .slice va ds.length vc] rfl rfl sizeCr (HV1.out.of (cn5.gb.block b2 hw1 (fun q => by cases q; omega))) rfl (by simp [Value.oneCell']) ?_; intro wA hOA hVA; have hzA := Nat.le_of_eq hOA.1.symm; have hyA := Nat.le_of_eq hOA.1) | (fail))
    exact row_retv rfl rfl hVA Try.underlying31 sizeCr rfl ⟨_, _, rfl, H, ds, ⟨((cn5.heap.keep fun j j1 j2 => hOA.2.1 j (by omega)).wide (by omega) (by omega)), ((cn5.hands.keep fun j j1 j2 => hOA.2.1 j (by omega)).wide (by omega) (by omega)), cn5.hd, cur_only cn5.cur hOA (by omega), gb_only (gb_trans HG1.out cn5.gb) hOA (by omega)⟩, by have := LE.out; omega⟩
  | true =>
    go_upto_if 12 with (first | (go_at_call 73; refine (below_from w5 w5 p a0 len cap _ (by omega) cn5.cur (World.grownBy.refl _ _)).mono ?_; rintro er w6 ⟨s6, rfl, hs0, hs1, hc6, hg6⟩; have cn6 := cn5.drawn hg6 hc6; have hz6 := hg6.size) | (fail))
    clear cr0 cr1
    have cr0 := cn6.crew.cell 0 (by simp)
    have cr1 := cn6.crew.cell 1 (by simp)
    simp only [List.getElem_cons_zero, List.getElem_cons_succ] at cr0 cr1
    rcases (by omega : s6 = 0 ∨ s6 = 1 ∨ s6 = 2) with k0 | k1 | k2
    · subst k0
      go_wp2_with (first | (go_at_call 92; refine (l3DrawAny_any w6 p a0 len cap cn6.cur).mono ?_; rintro er w7 ⟨v7, rfl, H7, dn7⟩; have hz7 := dn7.gb.size; have cn7 := cn6.drawn dn7.gb dn7.cur; have own7 : ce.Own w7 w1.heap.size w7.heap.size v7 H7 := dn7.own.wide (by have := cn6.z; omega) (Nat.le_refl _); obtain ⟨a7, c7, rfl⟩ := own_slice own7; clear cr0 cr1) | (refine wpList_store_1 rfl _ _ rfl b3 0 a7 H7.length c7 rfl rfl cn7.crew (by simp) ?_; intro w8 hO8 hV8; have hz8 := Nat.le_of_eq hO8.1.symm; have hy8 := Nat.le_of_eq hO8.1; have cn8 := cn7.turnH hO8 hV8 own7 (fun k hk => apart_hb own7 cn7.crew k hk) (fun k h1 h2 => apart_hd own7 cn7.hands k h1 h2); have cr0 := cn8.crew.cell 0 (by simp); have cr1 := cn8.crew.cell 1 (by simp); simp only [List.getElem_cons_zero, List.getElem_cons_succ] at cr0 cr1) | (refine wpList_store_v rfl 31 _ _ rfl b2 [.slice a7 H7.length c7, .slice va ds.length vc] rfl rfl sizeCr (HV1.out.of (cn8.gb.block b2 hw1 (fun q => by cases q; omega))) rfl (by simp [Value.oneCell']) ?_; intro wA hOA hVA; have hzA := Nat.le_of_eq hOA.1.symm; have hyA := Nat.le_of_eq hOA.1) | (fail))
      exact row_retv rfl rfl hVA Try.underlying31 sizeCr rfl ⟨_, _, rfl, H7, ds, ⟨((cn8.heap.keep fun j j1 j2 => hOA.2.1 j (by omega)).wide (by omega) (by omega)), ((cn8.hands.keep fun j j1 j2 => hOA.2.1 j (by omega)).wide (by omega) (by omega)), cn8.hd, cur_only cn8.cur hOA (by omega), gb_only (gb_trans HG1.out cn8.gb) hOA (by omega)⟩, by have := LE.out; omega⟩
    · subst k1
      go_wp2_with (first | (go_at_call 93; refine (l5Draw_any w6 p a0 len cap cn6.cur).mono ?_; rintro er w7 ⟨v7, d7, rfl, H7, ho7, hl7, hc7, hg7⟩; have hz7 := hg7.size; have cn7 := cn6.drawn hg7 hc7; have own7 : ce.Own w7 w1.heap.size w7.heap.size v7 H7 := ho7.wide (by have := cn6.z; omega) (Nat.le_refl _); obtain ⟨a7, c7, rfl⟩ := own_slice own7; obtain ⟨k, x, y, s, l, e, o, t⟩ := d7; dsimp only [hv]; clear cr0 cr1) | (refine wpList_alloc_v rfl 58 rfl _ zeroH ?_; intro b5 w8 hb5 hw8 hB8 hV8; have hz8 := hB8.size; have cn8 := cn7.below hB8; have own8 : ce.Own w8 w1.heap.size w8.heap.size (.slice a7 H7.length c7) H7 := (own7.below hB8 (Nat.le_refl _)).wide (Nat.le_refl _) hz8) | (refine wpList_store_v rfl 58 _ _ rfl b5 (hv ⟨k, x, y, s, l, e, o, t⟩) rfl rfl sizeH hV8 rfl (hv_one _) ?_; intro w9 hO9 hV9; have hz9 := Nat.le_of_eq hO9.1.symm; have hy9 := Nat.le_of_eq hO9.1; have hb3b : b3 < w7.heap.size := cn7.crew.lt; have cn9 := cn8.elsewhere hO9 (by omega) (fun k hk => (by have := (own_lo cn7.heap k hk).2.2; omega)) (fun k hk => (by have := (cn7.hands.lo k hk).2.2; omega)) (by have := cn7.z; omega); have own9 : ce.Own w9 w1.heap.size w9.heap.size (.slice a7 H7.length c7) H7 := (own_keepB own8 fun k hk => hO9.2.1 k (by have := (own_lo own7 k hk).2.2; omega)).wide (Nat.le_refl _) (by omega); have hb9 : HB w9 b5 ⟨k, x, y, s, l, e, o, t⟩ := ⟨hV9⟩) | (refine wpList_store_1 rfl _ _ rfl b3 0 a7 H7.length c7 rfl rfl cn9.crew (by simp) ?_; intro w10 hO10 hV10; have hz10 := Nat.le_of_eq hO10.1.symm; have hy10 := Nat.le_of_eq hO10.1; have cn10 := cn9.turnH hO10 hV10 own9 (fun k hk => apart_hb own9 cn9.crew k hk) (fun k h1 h2 => apart_hd own9 cn9.hands k h1 h2); have hb10 : HB w10 b5 ⟨k, x, y, s, l, e, o, t⟩ := hb9.of (hO10.2.1 b5 (by omega)); obtain ⟨e0, e1, e2, e3, e4, e5, e6, e7⟩ := hb10.cells) | (obtain ⟨wX, hwX⟩ : ∃ wX, wX = w10.alloc (.cells #[.int .i64 k, .int .i64 x, .int .i64 y, .int .i64 s, .int .i64 l, .int .i64 e, .int .i64 o, .int .i64 t, .int .i64 k, .int .i64 x, .int .i64 y, .int .i64 s, .int .i64 l, .int .i64 e, .int .i64 o, .int .i64 t] 58) := ⟨_, rfl⟩; have hBX : Below w10.heap.size w10 wX := (by rw [hwX]; exact (Below.refl _ _).alloc (Nat.le_refl _) _); have hzX := hBX.size; have two : OwnH wX w1.heap.size wX.heap.size (.slice (some ⟨w10.heap.size, 0, none⟩) 2 2) [⟨k, x, y, s, l, e, o, t⟩, ⟨k, x, y, s, l, e, o, t⟩] := (by rw [hwX]; exact (ownH_two (by have := cn10.z; omega) k x y s l e o t).wide (Nat.le_refl _) (by simp)); rw [← hwX]; have cnX := cn10.below hBX; refine wpList_store_1h rfl _ _ rfl b3 1 (some ⟨w10.heap.size, 0, none⟩) 2 2 rfl rfl cnX.crew (by simp) ?_; intro w11 hO11 hV11; have hz11 := Nat.le_of_eq hO11.1.symm; have hy11 := Nat.le_of_eq hO11.1; have cn11 := cnX.turnD hO11 hV11 two (fun k hk => apart_db two cnX.crew k hk) (fun k h1 h2 => apart_hd cnX.heap two k h1 h2); clear e0 e1 e2 e3 e4 e5 e6 e7 hwX; have cr0 := cn11.crew.cell 0 (by simp); have cr1 := cn11.crew.cell 1 (by simp); simp only [List.getElem_cons_zero, List.getElem_cons_succ] at cr0 cr1) | (refine wpList_store_v rfl 31 _ _ rfl b2 [.slice a7 H7.length c7, .slice (some ⟨w10.heap.size, 0, none⟩) 2 2] rfl rfl sizeCr (HV1.out.of (cn11.gb.block b2 hw1 (fun q => by cases q; omega))) rfl (by simp [Value.oneCell']) ?_; intro wA hOA hVA; have hzA := Nat.le_of_eq hOA.1.symm; have hyA := Nat.le_of_eq hOA.1) | (fail))
      exact row_retv rfl rfl hVA Try.underlying31 sizeCr rfl ⟨_, _, rfl, H7, [⟨k, x, y, s, l, e, o, t⟩, ⟨k, x, y, s, l, e, o, t⟩], ⟨((cn11.heap.keep fun j j1 j2 => hOA.2.1 j (by omega)).wide (by omega) (by omega)), ((cn11.hands.keep fun j j1 j2 => hOA.2.1 j (by omega)).wide (by omega) (by omega)), cn11.hd, cur_only cn11.cur hOA (by omega), gb_only (gb_trans HG1.out cn11.gb) hOA (by omega)⟩, by simp⟩
    · subst k2
      have NIL : Hid (NilOk (.slice va ds.length vc)) := cn6.hands.nilOk
      go_wp2_with (first | (at_builtin; refine wpList_append_hh rfl _ _ 29 rfl Try.underlying29 w1.heap.size w6.heap.size (.slice va ds.length vc) ds rfl cn6.hands cn6.z ds va vc rfl w6.heap.size cn6.hands.rd NIL.out (by have := LE.out; omega) ?_; intro v7 w7 ho7 hg7; have hz7 := hg7.size; obtain ⟨E, hE⟩ := hid_ex (ds ++ ds); rw [hE.out] at ho7; obtain ⟨a7, c7, rfl⟩ := ho7.len; have crew7 : VBlk w7 b3 31 [.slice (some ⟨gH, 0, none⟩) H.length cH, .slice va ds.length vc] := cn6.crew.of (hg7.block b3 cn6.crew.lt (fun q => cn6.db b3 q.symm rfl)); clear cr0 cr1) | (refine wpList_store_1h rfl _ _ rfl b3 1 a7 E.length c7 rfl rfl crew7 (by simp) ?_; intro w8 hO8 hV8; have hz8 := Nat.le_of_eq hO8.1.symm; have hy8 := Nat.le_of_eq hO8.1; have cn8 := cn6.appended hg7 ho7 hO8 hV8; have cr0 := cn8.crew.cell 0 (by simp); have cr1 := cn8.crew.cell 1 (by simp); simp only [List.getElem_cons_zero, List.getElem_cons_succ] at cr0 cr1) | (refine wpList_store_v rfl 31 _ _ rfl b2 [.slice (some ⟨gH, 0, none⟩) H.length cH, .slice a7 E.length c7] rfl rfl sizeCr (HV1.out.of (cn8.gb.block b2 hw1 (fun q => by cases q; omega))) rfl (by simp [Value.oneCell']) ?_; intro wA hOA hVA; have hzA := Nat.le_of_eq hOA.1.symm; have hyA := Nat.le_of_eq hOA.1) | (fail))
      exact row_retv rfl rfl hVA Try.underlying31 sizeCr rfl ⟨_, _, rfl, H, E, ⟨((cn8.heap.keep fun j j1 j2 => hOA.2.1 j (by omega)).wide (by omega) (by omega)), ((cn8.hands.keep fun j j1 j2 => hOA.2.1 j (by omega)).wide (by omega) (by omega)), cn8.hd, cur_only cn8.cur hOA (by omega), gb_only (gb_trans HG1.out cn8.gb) hOA (by omega)⟩, by have := LE.out; rw [← hE.out]; simp; omega⟩
end Go.Proofs.Ythjkhghlhjndmaa.draw
/- What DrawParentOf draws: whatever the bytes, a number from -1 to 40000; nothing that was there is written. -/
namespace Go.Proofs.Ythjkhghlhjndmaa.draw
open Go.ChangeShapes Go.WideShapes Go.ChangeAt Go.RowKit
set_option linter.unusedVariables false

theorem cur_drew {w : World} {p : Nat} {a0 : Option Addr} {len cap : Nat} (h : Cur w p a0 len cap) : Cur w.drew p a0 len cap := h
theorem gb_drew {w w' : World} {r : Option Nat} (h : w.grownBy w' r) : w.grownBy w'.drew r := ⟨h.os, h.tape, h.output, h.size, h.block⟩

theorem below_reg (w0 w : World) (p : Nat) (a0 : Option Addr) (len cap : Nat) (n : Int) (hn : 1 ≤ n) (hc : Cur w p a0 len cap) (hg : w0.grownBy w (some p)) :
    Calls Try.prog 73 #[.pointer (some ⟨p, 0, none⟩), .int .i64 n] w fun e w' => ∃ x : Int, e = .returned (.int .i64 x) ∧ 0 ≤ x ∧ x < n ∧ Cur w' p a0 len cap ∧ w0.grownBy w' (some p) ∧ p < w'.heap.size ∧ w.heap.size ≤ w'.heap.size ∧
      (∀ b o, b < w.heap.size → p < b → w'.cell? ⟨b, o, none⟩ = w.cell? ⟨b, o, none⟩) :=
  (below_from w w p a0 len cap n hn hc (World.grownBy.refl _ _)).mono fun e w' ⟨x, h1, h2, h3, h4, h5⟩ => ⟨x, h1, h2, h3, h4, gb_trans hg h5, h4.1, h5.size, fun b o hb hne => gb_cell h5 hb (by omega) o⟩

def lit (x : Int) : Int := [0, 1, 2, 3, 5, 32767, 32768, -1].getD x.toNat 0
theorem lit_bd (x : Int) : -1 ≤ lit x ∧ lit x ≤ 32768 := by
  unfold lit
  rcases h : x.toNat with _ | _ | _ | _ | _ | _ | _ | _ | n <;> simp

end Go.Proofs.Ythjkhghlhjndmaa.draw
/- What the laws of chapter 5 draw. -/
namespace Go.Proofs.Ythjkhghlhjndmaa.draw
open Go.ChangeShapes Go.WideShapes Go.ChangeAt Go.RowKit
open Go.Proofs.Ythjkhghlhjndmaa.ce
set_option linter.unusedVariables false

theorem code_at {w w1 : World} {a0 : Option Addr} {len : Nat} (h : CodeAt w a0 len) (hB : Below w.heap.size w w1) : CodeAt w1 a0 len := by
  refine ⟨h.1, ?_⟩
  rcases h.2 with h0 | ⟨b, off, e, hl, hc⟩
  · exact .inl h0
  · refine .inr ⟨b, off, e, Nat.lt_of_lt_of_le hl hB.size, fun k hk => ?_⟩
    obtain ⟨c, hcell, h1, h2⟩ := hc k hk
    exact ⟨c, by rw [hB.cell hl]; exact hcell, h1, h2⟩
/-- a heap and a hand have been drawn -/
structure Dh (w w' : World) (v : Value) (H : List C) : Prop where
  own : ce.Own w' w.heap.size w'.heap.size v H
  len : 1 ≤ H.length ∧ H.length ≤ 40
  bel : Below w.heap.size w w'

def litN (x : Int) : Int := [0, 1, 7, 65535, 65536].getD x.toNat 0
end Go.Proofs.Ythjkhghlhjndmaa.draw
/- What the laws of chapter 6 draw: crews, hands, who is picked. -/
namespace Go.Proofs.Ythjkhghlhjndmaa.draw
open Go.ChangeShapes Go.WideShapes Go.ChangeAt Go.RowKit
open Go.Proofs.Ythjkhghlhjndmaa.ce
set_option linter.unusedVariables false

/-- a crew has been drawn -/
structure Dk (w w' : World) (vH : Value) (H : List C) (vD : Value) (ds : List Hd) : Prop where
  heap : ce.Own w' w.heap.size w'.heap.size vH H
  hands : OwnH w' w.heap.size w'.heap.size vD ds
  bel : Below w.heap.size w w'
theorem fieldC (a b : Option Addr) (m n c d : Nat) (w : World) : (Instr.field 31 (.agg #[.slice a m c, .slice b n d]) 1).run Try.prog w = .ok (.slice b n d) w := by kernel_rfl

set_option maxRecDepth 100000 in
set_option maxHeartbeats 1000000 in
theorem drawCrewOk_any (w : World) (a0 : Option Addr) (len cap : Nat) (hcode : CodeAt w a0 len) :
    Calls Try.prog 70 #[.slice a0 len cap] w fun er w' => ∃ vH vD, er = .returned (.agg #[vH, vD]) ∧ ∃ H ds, Dk w w' vH H vD ds := by
  have HC : Hid (CodeAt w a0 len) := hcode
  clear hcode
  have m1 : Hid True := trivial
  go_enter Try.func70, Try.ntmps70
  go_wp2_with (first | (clear m1; refine wpList_alloc_v rfl 31 rfl _ zeroCr ?_; intro b2 w1 hb2 hw1 hB1 hV1; have hz1 := hB1.size) | (go_at_call 64; refine (new_cur _ _ _ _ (code_at HC.out hB1)).mono ?_; rintro er w2 ⟨p, rfl, hp, hc2, hB2⟩; have hz2 := hB2.size; have hpw := hc2.1) | (go_at_call 65; refine (l6DrawAny_any _ p a0 len cap hc2).mono ?_; rintro er w3 ⟨vH, vD, rfl, H, ds, cr3, hl8⟩; have hz3 := cr3.gb.size; obtain ⟨aH, cH, rfl⟩ := own_slice cr3.heap; obtain ⟨va, vc, rfl⟩ := cr3.hands.len) | (refine wpList_store_v rfl 31 _ _ rfl b2 [.slice aH H.length cH, .slice va ds.length vc] rfl rfl sizeCr ((hV1.below hB2 (by omega)).of (cr3.gb.block b2 (by omega) (fun q => by cases q; omega))) rfl (by simp [Value.oneCell']) ?_; intro w4 hO4 hV4; have hz4 := hO4.1) | (fail))
  have hB3 : Below w.heap.size w w3 := Below.grown (hB1.trans (hB2.mono hz1)) cr3.gb (by omega) (fun k hk => by cases hk; omega)
  exact row_retv rfl rfl hV4 Try.underlying31 sizeCr rfl ⟨_, _, rfl, H, ds, (cr3.heap.keep fun j j1 j2 => hO4.2.1 j (by omega)).wide (by omega) (by omega), (cr3.hands.keep fun j j1 j2 => hO4.2.1 j (by omega)).wide (by omega) (by omega), hB3.trans (hO4.2.2 _ hb2)⟩

set_option maxRecDepth 100000 in
set_option maxHeartbeats 1000000 in
theorem drawAllDone_any (w : World) (a0 : Option Addr) (len cap : Nat) (hcode : CodeAt w a0 len) :
    Calls Try.prog 36 #[.slice a0 len cap] w fun er w' => ∃ vH vD, er = .returned (.agg #[vH, vD]) ∧ ∃ H ds, Dk w w' vH H vD ds := by
  have HC : Hid (CodeAt w a0 len) := hcode
  clear hcode
  have m1 : Hid True := trivial
  go_enter Try.func36, Try.ntmps36
  go_wp2_with (first | (clear m1; refine wpList_alloc_v rfl 31 rfl _ zeroCr ?_; intro b2 w1 hb2 hw1 hB1 hV1; have hz1 := hB1.size) | (go_at_call 70; refine (drawCrewOk_any _ _ _ _ (code_at HC.out hB1)).mono ?_; rintro er w3 ⟨vH, vD, rfl, H, ds, dk⟩; have hz3 := dk.bel.size; obtain ⟨aH, cH, rfl⟩ := own_slice dk.heap; obtain ⟨va, vc, rfl⟩ := dk.hands.len) | (refine wpList_store_v rfl 31 _ _ rfl b2 [.slice aH H.length cH, .slice va ds.length vc] rfl rfl sizeCr (hV1.below dk.bel (by omega)) rfl (by simp [Value.oneCell']) ?_; intro w4 hO4 hV4; have hz4 := hO4.1) | (fail))
  exact row_retv rfl rfl hV4 Try.underlying31 sizeCr rfl ⟨_, _, rfl, H, ds, (dk.heap.keep fun j j1 j2 => hO4.2.1 j (by omega)).wide (by omega) (by omega), (dk.hands.keep fun j j1 j2 => hO4.2.1 j (by omega)).wide (by omega) (by omega), (hB1.trans (dk.bel.mono hz1)).trans (hO4.2.2 _ hb2)⟩

set_option maxRecDepth 100000 in
set_option maxHeartbeats 1000000 in
theorem drawPicked_any (w : World) (a0 : Option Addr) (len cap : Nat) (hcode : CodeAt w a0 len) :
    Calls Try.prog 34 #[.slice a0 len cap] w fun er w' => ∃ vH vD, ∃ who : Int, er = .returned (.tuple #[.agg #[vH, vD], .int .i64 who]) ∧ ∃ H ds, Dk w w' vH H vD ds := by
  have HC : Hid (CodeAt w a0 len) := hcode
  clear hcode
  have m1 : Hid True := trivial
  go_enter Try.func34, Try.ntmps34
  go_upto_region 3 with (first | (clear m1; refine wpList_alloc_v rfl 31 rfl _ zeroCr ?_; intro b2 w1 hb2 hw1 hB1 hV1; have hz1 := hB1.size) | (go_at_call 64; refine (new_cur _ _ _ _ (code_at HC.out hB1)).mono ?_; rintro er w2 ⟨p, rfl, hp, hc2, hB2⟩; have hz2 := hB2.size; have hpw := hc2.1) | (go_at_call 65; refine (l6DrawAny_any _ p a0 len cap hc2).mono ?_; rintro er w3 ⟨vH, vD, rfl, H, ds, cr3, hl8⟩; have hz3 := cr3.gb.size; obtain ⟨aH, cH, rfl⟩ := own_slice cr3.heap; obtain ⟨va, vc, rfl⟩ := cr3.hands.len) | (refine wpList_alloc_v rfl 31 rfl _ zeroCr ?_; intro b5 w4 hb5 hw4 hB4 hV4; have hz4 := hB4.size) | (refine wpList_store_v rfl 31 _ _ rfl b5 [.slice aH H.length cH, .slice va ds.length vc] rfl rfl sizeCr hV4 rfl (by simp [Value.oneCell']) ?_; intro w5 hO5 hV5; have hz5 := hO5.1) | (fail))
  have hc5 : Cur w5 p a0 len cap := cur_only (cur_below cr3.cur hB4 cr3.cur.1) hO5 (by have := cr3.cur.1; omega)
  have hH5 : ce.Own w5 w2.heap.size w3.heap.size (.slice aH H.length cH) H := (cr3.heap.below hB4 (Nat.le_refl _)).keep fun j j1 j2 => hO5.2.1 j (by omega)
  have hD5 : OwnH w5 w2.heap.size w3.heap.size (.slice va ds.length vc) ds := (cr3.hands.below hB4 (Nat.le_refl _)).keep fun j j1 j2 => hO5.2.1 j (by omega)
  have hB3 : Below w.heap.size w w3 := Below.grown (hB1.trans (hB2.mono hz1)) cr3.gb (by omega) (fun k hk => by cases hk; omega)
  have hB5 : Below w.heap.size w w5 := (hB3.trans (hB4.mono (by omega))).trans (hO5.2.2 _ (by omega))
  have hV25 : VBlk w5 b2 31 [.slice none 0 0, .slice none 0 0] := (((hV1.below hB2 (by omega)).of (cr3.gb.block b2 (by omega) (fun q => by cases q; omega))).of (hB4.block b2 (by omega))).of (hO5.2.1 b2 (by omega))
  refine wp_region_held_drew (S := fun w' => VBlk w' b5 31 [.slice aH H.length cH, .slice va ds.length vc]) (by kernel_rfl) hV5.drew (fun hHeld => ?_)
  refine takeW 0 10 (.agg #[.slice aH H.length cH, .slice va ds.length vc]) rfl (by kernel_rfl) (by kernel_rfl) (by kernel_rfl) (fun _ _ _ h => h) (by kernel_rfl) (fun w' hS => by have cr0 := hS.cell 0 (by simp); have cr1 := hS.cell 1 (by simp); simp only [List.getElem_cons_zero, List.getElem_cons_succ] at cr0 cr1; go_simp) hHeld ?_
  go_frame
  refine takeW 1 11 (.pointer (some ⟨p, 0, none⟩)) rfl (by kernel_rfl) (by kernel_rfl) (by kernel_rfl) (fun _ _ _ h => h) (by kernel_rfl) (fun w' hS => by go_simp) hHeld ?_
  go_frame
  refine wpAnyH_ready (rs := [2]) (by kernel_rfl) (by simp) ?_
  refine AllReadyH.cons rfl (fun K hK => ?_) AllReadyH.nil
  go_simp
  go_at_call 66
  refine (from_from w5.drew w5.drew p a0 len cap (-1) 4 (by omega) (by omega) (by omega) hc5 (World.grownBy.refl _ _)).mono ?_
  rintro er w6 ⟨x6, rfl, hx0, hx1, hc6, hg6⟩
  have hz6 : w5.heap.size ≤ w6.heap.size := hg6.size
  have kp : ∀ k, k < w5.heap.size → k ≠ p → w6.heap[k]? = w5.heap[k]? := fun k h1 h2 => hg6.block k h1 (fun q => h2 (by cases q; rfl))
  have hV56 : VBlk w6 b5 31 [.slice aH H.length cH, .slice va ds.length vc] := hV5.of (kp b5 (by omega) (by have := cr3.cur.1; omega))
  refine hK.out _ _ hV56 (fun _ => ?_)
  try go_frame
  refine wpAnyH_ready (rs := [3]) (by kernel_rfl) (by simp) ?_
  refine AllReadyH.cons rfl (fun K2 hK2 => ?_) AllReadyH.nil
  refine step_store_v rfl 31 _ _ rfl b2 [.slice aH H.length cH, .slice va ds.length vc] rfl rfl sizeCr (hV25.of (kp b2 (by omega) (by omega))) rfl (by simp [Value.oneCell']) ?_
  intro w7 hO7 hV7
  have hz7 := hO7.1
  have hV57 : VBlk w7 b5 31 [.slice aH H.length cH, .slice va ds.length vc] := hV56.of (hO7.2.1 b5 (by omega))
  refine hK2.out _ _ hV57 (fun _ => ?_)
  try go_frame
  refine takeW 4 3 (.int .i64 x6) rfl (by kernel_rfl) (by kernel_rfl) (by kernel_rfl) (fun _ _ _ h => h) (by kernel_rfl) (fun w' hS => by go_simp) hV57 ?_
  go_frame
  refine wpAnyH_done (by kernel_rfl) ?_ _
  go_wp2
  have hB6 : Below w.heap.size w w6 := Below.grown hB5.drew hg6 (by show w.heap.size ≤ w5.heap.size; omega) (fun k hk => by cases hk; omega)
  exact row_cell_tmp rfl rfl rfl hV7 Try.underlying31 sizeCr rfl ⟨_, _, x6, rfl, H, ds, ((hH5.keep fun j j1 j2 => kp j (by omega) (by omega)).keep fun j j1 j2 => hO7.2.1 j (by omega)).wide (by omega) (by omega), ((hD5.keep fun j j1 j2 => kp j (by omega) (by omega)).keep fun j j1 j2 => hO7.2.1 j (by omega)).wide (by omega) (by omega), hB6.trans (hO7.2.2 _ hb2)⟩
end Go.Proofs.Ythjkhghlhjndmaa.draw
/- What the laws of chapter 6 draw: hands for a new crew. -/
namespace Go.Proofs.Ythjkhghlhjndmaa.draw
open Go.ChangeShapes Go.WideShapes Go.ChangeAt Go.RowKit
open Go.Proofs.Ythjkhghlhjndmaa.ce
set_option linter.unusedVariables false

/-- hands have been drawn, the cursor is p -/
structure Dl (w0 w : World) (p : Nat) (a0 : Option Addr) (len cap : Nat) (v : Value) (ds : List Hd) : Prop where
  hands : OwnH w w0.heap.size w.heap.size v ds
  cur : Cur w p a0 len cap
  gb : w0.grownBy w (some p)
  pw : p < w0.heap.size
theorem Dl.drawn {w0 w w' : World} {p : Nat} {a0 : Option Addr} {len cap : Nat} {v : Value} {ds : List Hd} (d : Dl w0 w p a0 len cap v ds) (g : w.grownBy w' (some p)) (hc : Cur w' p a0 len cap) : Dl w0 w' p a0 len cap v ds :=
  ⟨(d.hands.keepB fun k hk => g.block k (d.hands.lo k hk).2.2 (fun q => by have := (d.hands.lo k hk).1; have := d.pw; cases q; omega)).wide (Nat.le_refl _) g.size, hc, gb_trans d.gb g, d.pw⟩
theorem Dl.below {w0 w w' : World} {p : Nat} {a0 : Option Addr} {len cap : Nat} {v : Value} {ds : List Hd} (d : Dl w0 w p a0 len cap v ds) (hB : Below w.heap.size w w') : Dl w0 w' p a0 len cap v ds :=
  ⟨(d.hands.below hB (Nat.le_refl _)).wide (Nat.le_refl _) hB.size, cur_below d.cur hB d.cur.1, gb_below d.gb hB d.gb.size, d.pw⟩
theorem Dl.appended {w0 w w' : World} {p : Nat} {a0 : Option Addr} {len cap : Nat} {v v' : Value} {ds ds' : List Hd} (d : Dl w0 w p a0 len cap v ds) (g : w.grownBy w' v.ownBlock) (ho : OwnH w' w0.heap.size w'.heap.size v' ds') : Dl w0 w' p a0 len cap v' ds' := by
  have hB0 : Below w0.heap.size w w' := below_grown g d.gb.size (fun k hk => (d.hands.lo k hk).1)
  exact ⟨ho, cur_below d.cur hB0 d.pw, gb_below d.gb hB0 (Nat.le_refl _), d.pw⟩
theorem Dl.stored {w0 w w' : World} {p g : Nat} {a0 : Option Addr} {len cap : Nat} {v : Value} {ds ds' : List Hd} (d : Dl w0 w p a0 len cap v ds) (hv : v.ownBlock = some g) (hO : Only g w w') (ho : OwnH w' w0.heap.size w.heap.size v ds') : Dl w0 w' p a0 len cap v ds' := by
  have hg := (d.hands.lo g hv).1
  exact ⟨ho.wide (Nat.le_refl _) (Nat.le_of_eq hO.1.symm), cur_only d.cur hO (by have := d.pw; omega), gb_only d.gb hO hg, d.pw⟩
/-- hands have been drawn -/
structure Dq (w w' : World) (vD : Value) (ds : List Hd) : Prop where
  hands : OwnH w' w.heap.size w'.heap.size vD ds
  bel : Below w.heap.size w w'
/-- one number is stored into a hand of a row of one's own -/
theorem wpList_store_hd {o : Oper} {a : Act} {w : World} {ops : Array Oper} {rest : List Oper} {Q : Exit → Act → World → Prop} (hgd : o.guard = none) (x y : Operand) (ho : o.op = .store 2 x y) (g j : Nat) (z : Int) (hx : a.eval x = .pointer (some ⟨g, j, none⟩)) (hy : a.eval y = .int .i64 z)
    {lo hi n cap : Nat} {X : List Hd} (own : OwnH w lo hi (.slice (some ⟨g, 0, none⟩) n cap) X) (i : Nat) (hi' : i < X.length) (jj : Nat) (hjj : jj < 8) (hj : j = i * 8 + jj) (d : Hd) (hd : hv d = (hv X[i]).set jj (.int .i64 z))
    (h : ∀ w', Only g w w' → OwnH w' lo hi (.slice (some ⟨g, 0, none⟩) n cap) (X.set i d) → wpList Try.prog ops Q rest (a.put o.dst undef) w') : wpList Try.prog ops Q (o :: rest) a w := by
  subst hj
  have hf : w.frozen? ⟨g, i * 8 + jj, none⟩ = false := own.frozen' _
  have hc : ∃ u, w.cell? ⟨g, i * 8 + jj, none⟩ = some u := by
    obtain ⟨b, off, e, -, hr⟩ := own.rd.range i hi'
    cases e
    have := hr jj _ (List.getElem?_eq_getElem (by rw [hv_len]; exact hjj))
    rw [Nat.zero_add] at this
    exact ⟨_, this⟩
  obtain ⟨u, hc⟩ := hc
  refine wpList_none hgd (w' := w.setCell ⟨g, i * 8 + jj, none⟩ (.int .i64 z)) ?_ (h _ (only_set _ _ _ _) (own.set1 i hi' jj hjj _ d hd))
  unfold execOp
  simp only [ho, hx, hy]
  simp [go_sem, hc, hf]
/-- a row of two hands that was laid just now -/
theorem rdH_two (w : World) (d1 d2 : Hd) (vs : List Value) (hvs' : vs = hvs [d1, d2]) : RdH (w.alloc (.cells vs.toArray 58)) (w.heap.size + 1) (.slice (some ⟨w.heap.size, 0, none⟩) 2 2) [d1, d2] := by
  subst hvs'
  have h : VBlk (w.alloc (.cells (hvs [d1, d2]).toArray 58)) w.heap.size 58 (hvs [d1, d2]) := heap_alloc_new _ _
  exact ⟨_, 2, rfl, Nat.le_refl _, by unfold maxLen; omega, fun _ => ⟨_, 0, rfl, Nat.lt_succ_self _, h.range⟩⟩

set_option maxRecDepth 100000 in
set_option maxHeartbeats 2000000 in
theorem drawNewCrew_any (w : World) (a0 : Option Addr) (len cap : Nat) (hcode : CodeAt w a0 len) :
    Calls Try.prog 35 #[.slice a0 len cap] w fun er w' => ∃ vD, er = .returned vD ∧ ∃ ds, Dq w w' vD ds := by
  have HC : Hid (CodeAt w a0 len) := hcode
  have hfi := fieldC
  clear hcode
  have m1 : Hid True := trivial
  have m2 : Hid True := trivial
  go_enter Try.func35, Try.ntmps35
  go_upto_if 11 with (first | (go_at_call 64; refine (new_cur _ _ _ _ HC.out).mono ?_; rintro er w2 ⟨p, rfl, hp, hc2, hB2⟩; have hz2 := hB2.size; have hpw := hc2.1) | (go_at_call 67; refine (l6New_any _ p a0 len cap hc2).mono ?_; rintro er w3 ⟨vH, vD, rfl, ds, cr3, hl4, hnew⟩; have hz3 := cr3.gb.size; obtain ⟨gH, cH, rfl, -, -, -⟩ := cr3.heap.form (by simp); obtain ⟨va, vc, rfl⟩ := cr3.hands.len; have dl3 : Dl w2 w3 p a0 len cap (.slice va ds.length vc) ds := ⟨cr3.hands, cr3.cur, cr3.gb, hpw⟩) | (go_at_call 68; refine (once_from w3 w3 p a0 len cap _ (by omega) dl3.cur (World.grownBy.refl _ _)).mono ?_; rintro er w4 ⟨y4, rfl, hc4, hg4⟩; have dl4 := dl3.drawn hg4 hc4) | (fail))
  clear hfi
  go_cut [4] (fun v4 wc => ∃ es, Dl w2 wc p a0 len cap v4 es ∧ es.length ≤ 6)
  case first =>
    cases y4 with
    | false =>
      go_wp2
      go_meet
      case rel => exact ⟨ds, dl4, by omega⟩
    | true =>
      go_wp2_with (first | (clear m1; go_at_call 69; refine (l5DrawHand_any w4 p a0 len cap dl4.cur).mono ?_; rintro er w5 ⟨d5, rfl, hn5, hc5, hg5⟩; have dl5 := dl4.drawn hg5 hc5; obtain ⟨k1, x1, y1, s1, l1, e1, o1, t1⟩ := d5; dsimp only [hv]) | (go_at_call 69; refine (l5DrawHand_any w5 p a0 len cap dl5.cur).mono ?_; rintro er w6 ⟨d6, rfl, hn6, hc6, hg6⟩; have dl6 := dl5.drawn hg6 hc6; obtain ⟨k2, x2, y2, s2, l2, e2, o2, t2⟩ := d6; dsimp only [hv]) | (at_builtin; obtain ⟨wX, hwX⟩ : ∃ wX, wX = w6.alloc (.cells #[.int .i64 k1, .int .i64 x1, .int .i64 y1, .int .i64 s1, .int .i64 l1, .int .i64 e1, .int .i64 o1, .int .i64 t1, .int .i64 k2, .int .i64 x2, .int .i64 y2, .int .i64 s2, .int .i64 l2, .int .i64 e2, .int .i64 o2, .int .i64 t2] 58) := ⟨_, rfl⟩; have hBX : Below w6.heap.size w6 wX := (by rw [hwX]; exact (Below.refl _ _).alloc (Nat.le_refl _) _); have two : RdH wX (w6.heap.size + 1) (.slice (some ⟨w6.heap.size, 0, none⟩) 2 2) [⟨k1, x1, y1, s1, l1, e1, o1, t1⟩, ⟨k2, x2, y2, s2, l2, e2, o2, t2⟩] := (by rw [hwX]; exact rdH_two w6 _ _ _ rfl); rw [← hwX]; have dlX := dl6.below hBX; refine wpList_append_hh rfl _ _ 29 rfl Try.underlying29 w2.heap.size wX.heap.size (.slice va ds.length vc) ds rfl dlX.hands dlX.gb.size [⟨k1, x1, y1, s1, l1, e1, o1, t1⟩, ⟨k2, x2, y2, s2, l2, e2, o2, t2⟩] (some ⟨w6.heap.size, 0, none⟩) 2 rfl (w6.heap.size + 1) two (fun n c q => by cases q) (by simp; omega) ?_; intro v7 w7 ho7 hg7; have dl7 := dlX.appended hg7 ho7) | (fail))
      go_meet
      case rel => exact ⟨_, dl7, by simp; omega⟩
  case rest =>
    obtain ⟨es, dl, hl6⟩ := hcut
    obtain ⟨ea, ec, rfl⟩ := dl.hands.len
    have hBc : ∀ {w9 : World} {v : Value} {fs : List Hd}, Dl w2 w9 p a0 len cap v fs → Below w.heap.size w w9 ∧ OwnH w9 w.heap.size w9.heap.size v fs := fun {w9} {v} {fs} q => ⟨Below.grown hB2 q.gb (by omega) (fun k hk => by cases hk; omega), q.hands.wide (by omega) (Nat.le_refl _)⟩
    clear dl3 dl4 cr3 hnew hg4 hc4 m1
    by_cases h0 : 0 < es.length
    · have h0' : (0 : Int) < (es.length : Int) := by omega
      obtain ⟨g, cg, sp, e9, -, -, -, -, -, -, -⟩ := dl.hands.form (by omega)
      cases e9
      obtain ⟨L, hL⟩ := hid_ex es.length
      go_upto_if 25 with (first | (go_at_call 68; refine (once_from wc wc p a0 len cap _ (by omega) dl.cur (World.grownBy.refl _ _)).mono ?_; rintro er w8 ⟨y8, rfl, hc8, hg8⟩; have dl8 := dl.drawn hg8 hc8) | (fail))
      cases y8 with
      | false =>
        go_wp2
        go_ret
        exact ⟨_, rfl, es, (hBc dl8).2, (hBc dl8).1⟩
      | true =>
        go_wp2_with (first | (clear m2; refine wpList_store_hd rfl _ _ rfl g 3 5 rfl rfl dl8.hands 0 (by omega) 3 (by omega) rfl { es[0] with step := 5 } rfl ?_; intro w9 hO9 ho9; have dl9 := dl8.stored rfl hO9 ho9) | (refine wpList_store_hd rfl _ _ rfl g 7 1 rfl rfl dl9.hands 0 (by simp; omega) 7 (by omega) rfl { (es.set 0 { es[0] with step := 5 })[0]'(by simp; omega) with told := 1 } rfl ?_; intro w10 hO10 ho10; have dl10 := dl9.stored rfl hO10 ho10) | (fail))
        go_ret
        exact ⟨_, rfl, _, (hBc dl10).2, (hBc dl10).1⟩
    · have h0' : ¬ ((0 : Int) < (es.length : Int)) := by omega
      go_wp2
      go_ret
      exact ⟨_, rfl, es, (hBc dl).2, (hBc dl).1⟩
end Go.Proofs.Ythjkhghlhjndmaa.draw
/- Contract of likeHeap: a slice of cells held against one that holds the same. -/
namespace Go.Proofs.Ythjkhghlhjndmaa.ce
open Go.ChangeShapes Go.WideShapes Go.ChangeAt Go.RowKit
set_option linter.unusedVariables false

theorem likeHeap_any (H : List C) (v v' : Value) (hi hi' : Nat) (w : World) (hh : hi ≤ w.heap.size) (hh' : hi' ≤ w.heap.size) (r : Rd w hi v H) (r' : Rd w hi' v' H) :
    Calls Try.prog 71 #[v, v'] w fun e w' => e = .returned (.bool true) ∧ Below w.heap.size w w' := by
  have hl := r.len
  obtain ⟨a, cap, rfl⟩ := r.form
  obtain ⟨a', cap', rfl⟩ := r'.form
  have R : Hid (Rd w hi (.slice a H.length cap) H) := r
  have R' : Hid (Rd w hi' (.slice a' H.length cap') H) := r'
  clear r r'
  go_enter Try.func71, Try.ntmps71
  go_wp2
  go_loopw [5] (fun v' wr => ∃ i : Nat, i ≤ H.length ∧ v' = .int .i64 i ∧ Below w.heap.size w wr) (fun v' _ => H.length - (intOf v').toNat)
  case atStart => exact ⟨0, by omega, rfl, Below.refl _ _⟩
  case round =>
    obtain ⟨i, hi1, rfl, hBr⟩ := hrel
    by_cases hlt : i < H.length
    · obtain ⟨b, off, rfl, hb, d0, d1, d2, d3⟩ := (R.out.below hBr hh).cell i hlt
      obtain ⟨b', off', rfl, hb', e0, e1, e2, e3⟩ := (R'.out.below hBr hh').cell i hlt
      obtain ⟨c, hc⟩ := hid_ex (H[i])
      rw [hc.out] at d0 d1 d2 d3 e0 e1 e2 e3
      obtain ⟨k, x, n, g⟩ := c
      have hlt' : (i : Int) < H.length := by omega
      have hbr := hBr.size
      go_wp2
      try simp only [Act.put, List.setIfInBounds_toArray, List.set_cons_zero, List.set_cons_succ]
      go_big_quiet (fail)
      go_wp2
      go_roundw
      case rel => exact ⟨i + 1, by omega, by go_num, hBr.trans (below_drewN _ _)⟩
      case measure => simp [intOf]; omega
    · go_wp2
      go_ret
      exact ⟨rfl, hBr⟩

end Go.Proofs.Ythjkhghlhjndmaa.ce
/- Contract of likeCrew: a crew held against one that holds the same. -/
namespace Go.Proofs.Ythjkhghlhjndmaa.ce
open Go.ChangeShapes Go.WideShapes Go.ChangeAt Go.RowKit
set_option linter.unusedVariables false

set_option maxRecDepth 100000 in
set_option maxHeartbeats 2000000 in
theorem likeCrew_any (H : List C) (ds : List Hd) (vH vD vH' vD' : Value) (hi hi' : Nat) (w : World) (hh : hi ≤ w.heap.size) (hh' : hi' ≤ w.heap.size) (rH : Rd w hi vH H) (rD : RdH w hi vD ds) (rH' : Rd w hi' vH' H) (rD' : RdH w hi' vD' ds) :
    Calls Try.prog 37 #[.agg #[vH, vD], .agg #[vH', vD']] w fun e w' => e = .returned (.bool true) ∧ Below w.heap.size w w' := by
  have hl := rD.len
  obtain ⟨a1, cap1, rfl⟩ := rH.form
  obtain ⟨c1, dc1, rfl⟩ := rD.form
  obtain ⟨a2, cap2, rfl⟩ := rH'.form
  obtain ⟨c2, dc2, rfl⟩ := rD'.form
  have RH : Hid (Rd w hi (.slice a1 H.length cap1) H) := rH
  have RD : Hid (RdH w hi (.slice c1 ds.length dc1) ds) := rD
  have RH' : Hid (Rd w hi' (.slice a2 H.length cap2) H) := rH'
  have RD' : Hid (RdH w hi' (.slice c2 ds.length dc2) ds) := rD'
  clear rH rD rH' rD'
  have m1 : Hid True := trivial
  have hll : ((ds.length : Int) != (ds.length : Int)) = false := by simp
  go_enter Try.func37, Try.ntmps37
  go_wp2_with (first | (clear m1; refine wpList_box_v rfl 31 _ rfl [.slice a1 H.length cap1, .slice c1 ds.length dc1] rfl ?_; intro b1 w1 hb1 hw1 hB1 hV1; have hz1 := hB1.size) | (refine wpList_box_v rfl 31 _ rfl [.slice a2 H.length cap2, .slice c2 ds.length dc2] rfl ?_; intro b2 w2 hb2 hw2 hB2 hV2; have hz2 := hB2.size; obtain ⟨p0, p1⟩ := crew_cells (hV1.of (hB2.block b1 hw1)); obtain ⟨q0, q1⟩ := crew_cells hV2; have hB : Below w.heap.size w w2 := hB1.trans (hB2.mono hz1)) | (go_at_call 71; refine (likeHeap_any H _ _ hi hi' _ (by omega) (by omega) (RH.out.below hB hh) (RH'.out.below hB hh')).mono ?_; rintro er w3 ⟨rfl, hB3⟩; have hz3 := hB3.size; clear p0 p1 q0 q1; obtain ⟨p0, p1⟩ := crew_cells ((hV1.of (hB2.block b1 hw1)).of (hB3.block b1 (by omega))); obtain ⟨q0, q1⟩ := crew_cells (hV2.of (hB3.block b2 hw2)); have hB4 : Below w.heap.size w w3 := hB.trans (hB3.mono (by omega))) | (fail))
  have V1 : Hid (VBlk w3 b1 31 [.slice a1 H.length cap1, .slice c1 ds.length dc1]) := (hV1.of (hB2.block b1 hw1)).of (hB3.block b1 (by omega))
  have V2 : Hid (VBlk w3 b2 31 [.slice a2 H.length cap2, .slice c2 ds.length dc2]) := hV2.of (hB3.block b2 hw2)
  have HB4 : Hid (Below w.heap.size w w3) := hB4
  clear p0 p1 q0 q1 hV1 hV2 hB1 hB2 hB3 hB4 hB
  go_loopw [5] (fun v' wr => ∃ i : Nat, i ≤ ds.length ∧ v' = .int .i64 i ∧ Below w3.heap.size w3 wr) (fun v' _ => ds.length - (intOf v').toNat)
  case atStart => exact ⟨0, by omega, rfl, Below.refl _ _⟩
  case round =>
    obtain ⟨i, hi1, rfl, hBr⟩ := hrel
    have hbr := hBr.size
    have hBw : Below w.heap.size w wr := HB4.out.trans (hBr.mono (by omega))
    obtain ⟨p0, p1⟩ := crew_cells (V1.out.of (hBr.block b1 V1.out.lt))
    obtain ⟨q0, q1⟩ := crew_cells (V2.out.of (hBr.block b2 V2.out.lt))
    by_cases hlt : i < ds.length
    · have hlt' : (i : Int) < (ds.length : Int) := by omega
      obtain ⟨d, hd⟩ := hid_ex (ds[i])
      obtain ⟨k, x, y, s, l, e, o, t⟩ := d
      obtain ⟨cb, coff, rfl, hcb, d0, d1, d2, d3, d4, d5, d6, d7⟩ := (RD.out.below hBw hh).cell i hlt hd.out
      obtain ⟨cb', coff', rfl, hcb', g0, g1, g2, g3, g4, g5, g6, g7⟩ := (RD'.out.below hBw hh').cell i hlt hd.out
      go_wp2
      try simp only [Act.put, List.setIfInBounds_toArray, List.set_cons_zero, List.set_cons_succ]
      go_big_quiet (fail)
      go_wp2
      go_roundw
      case rel => exact ⟨i + 1, by omega, by go_num, hBr.trans (below_drewN _ _)⟩
      case measure => simp [intOf]; omega
    · have hlt' : ¬ ((i : Int) < (ds.length : Int)) := by omega
      go_wp2
      go_ret
      exact ⟨rfl, hBw⟩
end Go.Proofs.Ythjkhghlhjndmaa.ce
