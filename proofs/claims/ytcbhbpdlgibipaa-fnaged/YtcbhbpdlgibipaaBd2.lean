/- The draws of chapter 13: what Aged is asked. -/
import Derived.Test.YtcbhbpdlgibipaaBd1
import Derived.Test.YtcbhbpdlgibipaaRg2
import Derived.Deep.RegionHeld3
import Derived.Deep.DeepCutAuto
namespace Go.Proofs.Ytcbhbpdlgibipaa.rg
open Go.ChangeShapes Go.WideShapes Go.ChangeAt Go.RowKit
open Go.Proofs.Ytcbhbpdlgibipaa.ce Go.Proofs.Ytcbhbpdlgibipaa.ro Go.Proofs.Ytcbhbpdlgibipaa.draw
set_option linter.unusedVariables false

theorem lit_cell (w : World) (xs : List Int) (t : TypeId) (k : Nat) (hk : k < xs.length) : (w.alloc (.cells (xs.map (Value.int .i64)).toArray t)).cell? ⟨w.heap.size, k, none⟩ = some (.int .i64 xs[k]) := by
  rw [cell_of_row _ _ _ _ _ _ (heap_alloc_new w (.cells (xs.map (Value.int .i64)).toArray t))]
  simp [hk]
theorem only_cell {w w' : World} {b g o : Nat} {v : Value} (hc : w.cell? ⟨g, o, none⟩ = some v) (hn : g ≠ b) (h : Only b w w') : w'.cell? ⟨g, o, none⟩ = some v := (World.cell?_of_block (w := w) (w' := w') (a := ⟨g, o, none⟩) (h.2.1 g hn)).trans hc
def Fz (w w' : World) (b5 b2 : Nat) (v : Value) (X : Int) (q : List It) : Prop := Below w.heap.size w w' ∧ VBlk w' b5 29 [v, .int .i64 X] ∧ VBlk w' b2 29 [.slice none 0 0, .int .i64 0] ∧ Own encIt w' w.heap.size w'.heap.size v q ∧ True
theorem fin6 {w w5 w6 : World} {p b5 b2 : Nat} {v : Value} {X : Int} {q : List It} (hB5 : Below w.heap.size w w5) (hp : w.heap.size ≤ p) (hg : w5.grownBy w6 (some p)) (V5 : VBlk w6 b5 29 [v, .int .i64 X]) (V2 : VBlk w6 b2 29 [.slice none 0 0, .int .i64 0]) (O : ∀ w', w5.grownBy w' (some p) → Own encIt w' w.heap.size w'.heap.size v q) : Fz w w6 b5 b2 v X q := ⟨gbi_low hB5 hp hg, V5, V2, O _ hg, trivial⟩
theorem fin7 {w w6 w7 : World} {b5 b2 : Nat} {v : Value} {X : Int} {q : List It} (h : Fz w w6 b5 b2 v X q) (hB : Below w6.heap.size w6 w7) : Fz w w7 b5 b2 v X q := ⟨h.1.trans (hB.mono h.1.size), vblk_grow h.2.1 hB, vblk_grow h.2.2.1 hB, (h.2.2.2.1.grow hB).top, trivial⟩
set_option maxRecDepth 100000 in
set_option maxHeartbeats 2000000 in
theorem drawAged_any (w : World) (a0 : Option Addr) (len cap : Nat) (hcode : CodeAt w a0 len) :
    Calls Try.prog 27 #[.slice a0 len cap] w fun e w' => ∃ v X q now, e = .returned (.tuple #[.agg #[v, .int .i64 X], .int .i64 now]) ∧ GotB w v q w' ∧ 0 ≤ X ∧ X ≤ 1000001 := by
  have HC : Hid (CodeAt w a0 len) := hcode
  clear hcode
  have m1 : Hid True := trivial
  have m2 : Hid True := trivial
  go_enter Try.func27, Try.ntmps27
  go_upto_region 3 with (first | (clear m1; refine wpList_alloc_v rfl 29 rfl _ zeroBk ?_; intro b2 w1 hb2 hw2 hB1 V2; have hz1 := hB1.size) | (go_at_call 51; refine (new_cur w1 _ _ _ (codei_below HC.out hB1)).mono ?_; rintro e w2 ⟨p, rfl, hp, hc2, hB2⟩; have hpl := hc2.1; replace V2 := vblk_grow V2 hB2; have hB := hB1.trans (hB2.mono hz1); have hz2 := hB2.size) | (go_at_call 52; refine (l13Draw_any w2 p a0 len cap hc2).mono ?_; rintro e w3 ⟨v3, X, q, rfl, D3, hl, hX0, hX1⟩; obtain ⟨A3, n3, c3, rfl⟩ := D3.o.slice; have hz3 := D3.gb.size; replace V2 := gbi_vblk V2 (by omega) D3.gb; have hB3 := gbi_low hB (by omega) D3.gb) | (clear m2; refine wpList_alloc_v rfl 29 rfl _ zeroBk ?_; intro b5 w4 hb5 hw5 hB4 V5; have hz4 := hB4.size; replace V2 := vblk_grow V2 hB4) | (refine wpList_store_v rfl 29 _ _ rfl b5 [.slice A3 n3 c3, .int .i64 X] rfl rfl sizeBk V5 rfl (oneBk _ _ _ _) ?_; intro w5 hO5 X5; have hz5 : w4.heap.size ≤ w5.heap.size := (Nat.le_of_eq hO5.1.symm)) | (fail))
  have c5 : Cur w5 p a0 len cap := cur_below (cur_below D3.cur hB4 D3.cur.1) (hO5.2.2 w3.heap.size (by omega)) D3.cur.1
  have hB5 : Below w.heap.size w w5 := (hB3.trans (hB4.mono (by omega))).trans (hO5.2.2 _ (by omega))
  have hb25 : b5 ≠ b2 := by have := V2.lt; have := hB1.size; omega
  have W2 : VBlk w5 b2 29 [.slice none 0 0, .int .i64 0] := V2.of (hO5.2.1 b2 (Ne.symm hb25))
  have hbp : b2 ≠ p ∧ b5 ≠ p ∧ w.heap.size ≤ p := by omega
  have HX : Hid (VBlk w5 b5 29 [.slice A3 n3 c3, .int .i64 X]) := X5
  have HW : Hid (VBlk w5 b2 29 [.slice none 0 0, .int .i64 0]) := W2
  have OW : Own encIt w5 w2.heap.size w5.heap.size (.slice A3 n3 c3) q := ((D3.o.grow hB4).only hO5 V5 (by decide)).top
  have O5 : ∀ w', w5.grownBy w' (some p) → Own encIt w' w.heap.size w'.heap.size (.slice A3 n3 c3) q := fun w' hg => ((OW.keep fun g h1 h2 => hg.block g h2 (fun e => by cases e; omega)).wide (by omega) (Nat.le_refl _)).top
  clear V2 V5 X5 W2
  have S1 : w5.drew.cell? ⟨b5, 0, none⟩ = some (.slice A3 n3 c3) ∧ w5.drew.cell? ⟨b5, 1, none⟩ = some (.int .i64 X) := cells2 (w := w5.drew) HX.out
  refine wp_region_held_drew (S := fun w' => w'.cell? ⟨b5, 0, none⟩ = some (.slice A3 n3 c3) ∧ w'.cell? ⟨b5, 1, none⟩ = some (.int .i64 X)) (by kernel_rfl) (S1) (fun hHeld => ?_)
  refine wpAnyH_take (i := 0) (oi := { dst := some 10, op := Op.load 29 (Operand.tmp 5), type := 29, pos := "l13_store.go:180", after := #[], guard := none }) (v := ?_) rfl (by kernel_rfl) (by kernel_rfl) (by kernel_rfl) (fun _ _ _ h => h) (Or.inl ⟨by rfl, ?_⟩) (by assumption) ?_
  rotate_left 1
  · intro w' hSw
    (try dsimp only at hSw)
    go_simp
    (try with_reducible rfl)
  (try simp only [Act.put, List.setIfInBounds_toArray, List.set_cons_zero, List.set_cons_succ])
  refine wpAnyH_take (i := 2) (oi := { dst := some 12, op := Op.move (Operand.tmp 4), type := 71, pos := "l13_store.go:180", after := #[], guard := none }) (v := ?_) rfl (by kernel_rfl) (by kernel_rfl) (by kernel_rfl) (fun _ _ _ h => h) (Or.inl ⟨by rfl, ?_⟩) (by assumption) ?_
  rotate_left 1
  · intro w' hSw
    (try dsimp only at hSw)
    go_simp
    (try with_reducible rfl)
  (try simp only [Act.put, List.setIfInBounds_toArray, List.set_cons_zero, List.set_cons_succ])
  refine wpAnyH_ready (rs := [1, 3]) (by kernel_rfl) (by simp) ?_
  refine AllReadyH.cons (o := { dst := some 11, op := Op.buildSlice 74 8 #[(0, Operand.const (Value.int IntKind.i64 0)), (1, Operand.const (Value.int IntKind.i64 10)), (2, Operand.const (Value.int IntKind.i64 30)), (3, Operand.const (Value.int IntKind.i64 59)), (4, Operand.const (Value.int IntKind.i64 60)), (5, Operand.const (Value.int IntKind.i64 1000000)), (6, Operand.const (Value.int IntKind.i64 1000001)), (7, Operand.const (Value.int IntKind.i64 (-1)))], type := 74, pos := "l13_store.go:180", after := #[{ on := 6, ground := Ground.gcOnly Departure.lateStores }], guard := none }) rfl (fun KC hKC => ?_) (AllReadyH.cons (o := { dst := some 13, op := Op.call { callee := Callee.value (Operand.func 53), args := #[Operand.tmp 12, Operand.const (Value.int IntKind.i64 8)], argTypes := #[71, 2] }, type := 2, pos := "l13_store.go:180", after := #[{ on := 2, ground := Ground.data }], guard := none }) rfl (fun KC hKC => ?_) AllReadyH.nil)
  · go_simp
    refine hKC.out _ _ (cells2 (vblk_grow HX.out.drew (bAl _ _))) (fun hHeld2 => ?_)
    clear hKC KC hHeld
    have hHeld := hHeld2
    clear hHeld2
    (try simp only [Act.put, List.setIfInBounds_toArray, List.set_cons_zero, List.set_cons_succ])
    refine wpAnyH_ready (rs := [3]) (by kernel_rfl) (by simp) ?_
    refine AllReadyH.cons (o := { dst := some 13, op := Op.call { callee := Callee.value (Operand.func 53), args := #[Operand.tmp 12, Operand.const (Value.int IntKind.i64 8)], argTypes := #[71, 2] }, type := 2, pos := "l13_store.go:180", after := #[{ on := 2, ground := Ground.data }], guard := none }) rfl (fun KC hKC => ?_) AllReadyH.nil
    go_simp
    go_at_call 53
    refine (below_lit w5.drew w5.drew p a0 len cap [0, 10, 30, 59, 60, 1000000, 1000001, -1] _ 8 (-1) 1000001 rfl (by omega) (by intro x hx; simp at hx; omega) (curi_d c5) (World.grownBy.refl _ _)).mono ?_
    rintro e w6 ⟨x, now, rfl, hn0, hn1, hcell, hlo, hhi, hc6, hg6⟩
    have hg6' := gbi_d hg6
    obtain ⟨xn, hxn⟩ : ∃ k : Nat, x = k := ⟨x.toNat, by omega⟩
    subst hxn
    rw [Int.toNat_natCast] at hcell
    have hcell2 : w6.cell? ⟨w5.heap.size, xn, none⟩ = some (.int .i64 now) := hcell
    clear hcell
    have V26 := gbi_vblk HW.out hbp.1 hg6'
    have V56 := gbi_vblk HX.out hbp.2.1 hg6'
    refine hKC.out _ _ (cells2 V56) (fun hHeld2 => ?_)
    clear hKC KC hHeld
    have hHeld := hHeld2
    clear hHeld2
    (try simp only [Act.put, List.setIfInBounds_toArray, List.set_cons_zero, List.set_cons_succ])
    have hx8 : xn < 8 := by omega
    have BZ := fin6 hB5 hbp.2.2 hg6' V56 V26 O5
    have hcn : w5.heap.size ≠ b2 := by have := HW.out.lt; omega
    refine wpAnyH_take (i := 4) (oi := { dst := some 14, op := Op.indexAddr 74 (Operand.tmp 11) (Operand.tmp 13), type := 0, pos := "l13_store.go:180", after := #[{ on := 1, ground := Ground.data }, { on := 3, ground := Ground.data }, { on := 6, ground := Ground.gcOnly Departure.lateStores }], guard := none }) (v := ?_) rfl (by kernel_rfl) (by kernel_rfl) (by kernel_rfl) (fun _ _ _ h => h) (Or.inl ⟨by rfl, ?_⟩) (by assumption) ?_
    rotate_left 1
    · intro w' hSw
      (try dsimp only at hSw)
      go_simp
      (try with_reducible rfl)
    (try simp only [Act.put, List.setIfInBounds_toArray, List.set_cons_zero, List.set_cons_succ])
    refine wpAnyH_ready (rs := [5, 6]) (by kernel_rfl) (by simp) ?_
    refine AllReadyH.cons (o := { dst := some 15, op := Op.load 2 (Operand.tmp 14), type := 2, pos := "l13_store.go:180", after := #[{ on := 4, ground := Ground.data }, { on := 6, ground := Ground.gcOnly Departure.lateStores }], guard := none }) rfl (fun KC hKC => ?_) (AllReadyH.cons (o := { dst := none, op := Op.store 29 (Operand.tmp 2) (Operand.tmp 10), type := 0, pos := "l13_store.go:180", after := #[{ on := 0, ground := Ground.data }, { on := 3, ground := Ground.chain }, { on := 0, ground := Ground.phase }, { on := 1, ground := Ground.textOnly Departure.lateStores }, { on := 2, ground := Ground.textOnly Departure.lateStores }, { on := 3, ground := Ground.textOnly Departure.lateStoresUnsure }, { on := 4, ground := Ground.textOnly Departure.lateStores }, { on := 5, ground := Ground.textOnly Departure.lateStores }], guard := none }) rfl (fun KC hKC => ?_) AllReadyH.nil)
    · go_simp
      refine hKC.out _ _ (cells2 BZ.2.1) (fun hHeld2 => ?_)
      clear hKC KC hHeld
      have hHeld := hHeld2
      clear hHeld2
      (try simp only [Act.put, List.setIfInBounds_toArray, List.set_cons_zero, List.set_cons_succ])
      refine wpAnyH_ready (rs := [6]) (by kernel_rfl) (by simp) ?_
      refine AllReadyH.cons (o := { dst := none, op := Op.store 29 (Operand.tmp 2) (Operand.tmp 10), type := 0, pos := "l13_store.go:180", after := #[{ on := 0, ground := Ground.data }, { on := 3, ground := Ground.chain }, { on := 0, ground := Ground.phase }, { on := 1, ground := Ground.textOnly Departure.lateStores }, { on := 2, ground := Ground.textOnly Departure.lateStores }, { on := 3, ground := Ground.textOnly Departure.lateStoresUnsure }, { on := 4, ground := Ground.textOnly Departure.lateStores }, { on := 5, ground := Ground.textOnly Departure.lateStores }], guard := none }) rfl (fun KC hKC => ?_) AllReadyH.nil
      refine step_store_v rfl 29 _ _ rfl b2 [.slice A3 n3 c3, .int .i64 X] rfl rfl sizeBk BZ.2.2.1 rfl (oneBk _ _ _ _) ?_
      intro wz hOz Vz
      refine hKC.out _ _ (cells2 (vblk_only BZ.2.1 hOz hb25)) (fun hHeld2 => ?_)
      clear hKC KC hHeld
      have hHeld := hHeld2
      clear hHeld2
      (try simp only [Act.put])
      refine wpAnyH_take (i := 7) (oi := { dst := some 3, op := Op.assign (Operand.tmp 15), type := 2, pos := "l13_store.go:180", after := #[{ on := 5, ground := Ground.data }, { on := 6, ground := Ground.chain }, { on := 0, ground := Ground.phase }, { on := 1, ground := Ground.phase }, { on := 2, ground := Ground.phase }, { on := 3, ground := Ground.phase }, { on := 4, ground := Ground.phase }, { on := 5, ground := Ground.phase }, { on := 6, ground := Ground.phase }], guard := none }) (v := ?_) rfl (by kernel_rfl) (by kernel_rfl) (by kernel_rfl) (fun _ _ _ h => h) (Or.inl ⟨by rfl, ?_⟩) (by assumption) ?_
      rotate_left 1
      · intro w' hSw
        (try dsimp only at hSw)
        go_simp
        (try with_reducible rfl)
      (try simp only [Act.put, List.setIfInBounds_toArray, List.set_cons_zero, List.set_cons_succ])
      refine wpAnyH_done (by kernel_rfl) ?_ _
      go_wp2
      exact row_ct rfl rfl rfl Vz Try.underlying29 sizeBk rfl ⟨_, X, q, _, rfl, ⟨(BZ.2.2.2.1.only hOz BZ.2.2.1 (by decide)).top, D3.s, hl, BZ.1.trans (hOz.2.2 _ hb2)⟩, hX0, hX1⟩
    · refine step_store_v rfl 29 _ _ rfl b2 [.slice A3 n3 c3, .int .i64 X] rfl rfl sizeBk BZ.2.2.1 rfl (oneBk _ _ _ _) ?_
      intro wz hOz Vz
      have hcz := only_cell hcell2 hcn hOz
      refine hKC.out _ _ (cells2 (vblk_only BZ.2.1 hOz hb25)) (fun hHeld2 => ?_)
      clear hKC KC hHeld
      have hHeld := hHeld2
      clear hHeld2
      (try simp only [Act.put])
      refine wpAnyH_ready (rs := [5]) (by kernel_rfl) (by simp) ?_
      refine AllReadyH.cons (o := { dst := some 15, op := Op.load 2 (Operand.tmp 14), type := 2, pos := "l13_store.go:180", after := #[{ on := 4, ground := Ground.data }, { on := 6, ground := Ground.gcOnly Departure.lateStores }], guard := none }) rfl (fun KC hKC => ?_) AllReadyH.nil
      go_simp
      refine hKC.out _ _ (cells2 (vblk_only BZ.2.1 hOz hb25)) (fun hHeld2 => ?_)
      clear hKC KC hHeld
      have hHeld := hHeld2
      clear hHeld2
      (try simp only [Act.put, List.setIfInBounds_toArray, List.set_cons_zero, List.set_cons_succ])
      refine wpAnyH_take (i := 7) (oi := { dst := some 3, op := Op.assign (Operand.tmp 15), type := 2, pos := "l13_store.go:180", after := #[{ on := 5, ground := Ground.data }, { on := 6, ground := Ground.chain }, { on := 0, ground := Ground.phase }, { on := 1, ground := Ground.phase }, { on := 2, ground := Ground.phase }, { on := 3, ground := Ground.phase }, { on := 4, ground := Ground.phase }, { on := 5, ground := Ground.phase }, { on := 6, ground := Ground.phase }], guard := none }) (v := ?_) rfl (by kernel_rfl) (by kernel_rfl) (by kernel_rfl) (fun _ _ _ h => h) (Or.inl ⟨by rfl, ?_⟩) (by assumption) ?_
      rotate_left 1
      · intro w' hSw
        (try dsimp only at hSw)
        go_simp
        (try with_reducible rfl)
      (try simp only [Act.put, List.setIfInBounds_toArray, List.set_cons_zero, List.set_cons_succ])
      refine wpAnyH_done (by kernel_rfl) ?_ _
      go_wp2
      exact row_ct rfl rfl rfl Vz Try.underlying29 sizeBk rfl ⟨_, X, q, _, rfl, ⟨(BZ.2.2.2.1.only hOz BZ.2.2.1 (by decide)).top, D3.s, hl, BZ.1.trans (hOz.2.2 _ hb2)⟩, hX0, hX1⟩
  · go_simp
    go_at_call 53
    refine (below_from w5.drew w5.drew p a0 len cap _ (by omega) (curi_d c5) (World.grownBy.refl _ _)).mono ?_
    rintro e w6 ⟨x, rfl, hn0, hn1, hc6, hg6⟩
    have hg6' := gbi_d hg6
    obtain ⟨xn, hxn⟩ : ∃ k : Nat, x = k := ⟨x.toNat, by omega⟩
    subst hxn
    have V26 := gbi_vblk HW.out hbp.1 hg6'
    have V56 := gbi_vblk HX.out hbp.2.1 hg6'
    refine hKC.out _ _ (cells2 V56) (fun hHeld2 => ?_)
    clear hKC KC hHeld
    have hHeld := hHeld2
    clear hHeld2
    (try simp only [Act.put, List.setIfInBounds_toArray, List.set_cons_zero, List.set_cons_succ])
    refine wpAnyH_ready (rs := [1, 6]) (by kernel_rfl) (by simp) ?_
    refine AllReadyH.cons (o := { dst := some 11, op := Op.buildSlice 74 8 #[(0, Operand.const (Value.int IntKind.i64 0)), (1, Operand.const (Value.int IntKind.i64 10)), (2, Operand.const (Value.int IntKind.i64 30)), (3, Operand.const (Value.int IntKind.i64 59)), (4, Operand.const (Value.int IntKind.i64 60)), (5, Operand.const (Value.int IntKind.i64 1000000)), (6, Operand.const (Value.int IntKind.i64 1000001)), (7, Operand.const (Value.int IntKind.i64 (-1)))], type := 74, pos := "l13_store.go:180", after := #[{ on := 6, ground := Ground.gcOnly Departure.lateStores }], guard := none }) rfl (fun KC hKC => ?_) (AllReadyH.cons (o := { dst := none, op := Op.store 29 (Operand.tmp 2) (Operand.tmp 10), type := 0, pos := "l13_store.go:180", after := #[{ on := 0, ground := Ground.data }, { on := 3, ground := Ground.chain }, { on := 0, ground := Ground.phase }, { on := 1, ground := Ground.textOnly Departure.lateStores }, { on := 2, ground := Ground.textOnly Departure.lateStores }, { on := 3, ground := Ground.textOnly Departure.lateStoresUnsure }, { on := 4, ground := Ground.textOnly Departure.lateStores }, { on := 5, ground := Ground.textOnly Departure.lateStores }], guard := none }) rfl (fun KC hKC => ?_) AllReadyH.nil)
    · go_simp
      have hx8 : xn < 8 := by omega
      have hB7 := bAl w6 (.cells #[.int .i64 0, .int .i64 10, .int .i64 30, .int .i64 59, .int .i64 60, .int .i64 1000000, .int .i64 1000001, .int .i64 (-1)] 2)
      obtain ⟨now, hnow⟩ := hid_ex ([0, 10, 30, 59, 60, 1000000, 1000001, -1][xn])
      have hcell : (w6.alloc (.cells #[.int .i64 0, .int .i64 10, .int .i64 30, .int .i64 59, .int .i64 60, .int .i64 1000000, .int .i64 1000001, .int .i64 (-1)] 2)).cell? ⟨w6.heap.size, xn, none⟩ = some (.int .i64 now) := by rw [← hnow.out]; exact lit_cell w6 [0, 10, 30, 59, 60, 1000000, 1000001, -1] 2 xn hx8
      have BZ := fin7 (fin6 hB5 hbp.2.2 hg6' V56 V26 O5) hB7
      obtain ⟨w7, hw7⟩ := hid_ex (w6.alloc (.cells #[.int .i64 0, .int .i64 10, .int .i64 30, .int .i64 59, .int .i64 60, .int .i64 1000000, .int .i64 1000001, .int .i64 (-1)] 2))
      rw [hw7.out] at hB7 hcell BZ ⊢
      refine hKC.out _ _ (cells2 BZ.2.1) (fun hHeld2 => ?_)
      clear hKC KC hHeld
      have hHeld := hHeld2
      clear hHeld2
      (try simp only [Act.put, List.setIfInBounds_toArray, List.set_cons_zero, List.set_cons_succ])
      have hcn : w6.heap.size ≠ b2 := by have := V26.lt; omega
      refine wpAnyH_take (i := 4) (oi := { dst := some 14, op := Op.indexAddr 74 (Operand.tmp 11) (Operand.tmp 13), type := 0, pos := "l13_store.go:180", after := #[{ on := 1, ground := Ground.data }, { on := 3, ground := Ground.data }, { on := 6, ground := Ground.gcOnly Departure.lateStores }], guard := none }) (v := ?_) rfl (by kernel_rfl) (by kernel_rfl) (by kernel_rfl) (fun _ _ _ h => h) (Or.inl ⟨by rfl, ?_⟩) (by assumption) ?_
      rotate_left 1
      · intro w' hSw
        (try dsimp only at hSw)
        go_simp
        (try with_reducible rfl)
      (try simp only [Act.put, List.setIfInBounds_toArray, List.set_cons_zero, List.set_cons_succ])
      refine wpAnyH_ready (rs := [5, 6]) (by kernel_rfl) (by simp) ?_
      refine AllReadyH.cons (o := { dst := some 15, op := Op.load 2 (Operand.tmp 14), type := 2, pos := "l13_store.go:180", after := #[{ on := 4, ground := Ground.data }, { on := 6, ground := Ground.gcOnly Departure.lateStores }], guard := none }) rfl (fun KC hKC => ?_) (AllReadyH.cons (o := { dst := none, op := Op.store 29 (Operand.tmp 2) (Operand.tmp 10), type := 0, pos := "l13_store.go:180", after := #[{ on := 0, ground := Ground.data }, { on := 3, ground := Ground.chain }, { on := 0, ground := Ground.phase }, { on := 1, ground := Ground.textOnly Departure.lateStores }, { on := 2, ground := Ground.textOnly Departure.lateStores }, { on := 3, ground := Ground.textOnly Departure.lateStoresUnsure }, { on := 4, ground := Ground.textOnly Departure.lateStores }, { on := 5, ground := Ground.textOnly Departure.lateStores }], guard := none }) rfl (fun KC hKC => ?_) AllReadyH.nil)
      · go_simp
        refine hKC.out _ _ (cells2 BZ.2.1) (fun hHeld2 => ?_)
        clear hKC KC hHeld
        have hHeld := hHeld2
        clear hHeld2
        (try simp only [Act.put, List.setIfInBounds_toArray, List.set_cons_zero, List.set_cons_succ])
        refine wpAnyH_ready (rs := [6]) (by kernel_rfl) (by simp) ?_
        refine AllReadyH.cons (o := { dst := none, op := Op.store 29 (Operand.tmp 2) (Operand.tmp 10), type := 0, pos := "l13_store.go:180", after := #[{ on := 0, ground := Ground.data }, { on := 3, ground := Ground.chain }, { on := 0, ground := Ground.phase }, { on := 1, ground := Ground.textOnly Departure.lateStores }, { on := 2, ground := Ground.textOnly Departure.lateStores }, { on := 3, ground := Ground.textOnly Departure.lateStoresUnsure }, { on := 4, ground := Ground.textOnly Departure.lateStores }, { on := 5, ground := Ground.textOnly Departure.lateStores }], guard := none }) rfl (fun KC hKC => ?_) AllReadyH.nil
        refine step_store_v rfl 29 _ _ rfl b2 [.slice A3 n3 c3, .int .i64 X] rfl rfl sizeBk BZ.2.2.1 rfl (oneBk _ _ _ _) ?_
        intro wz hOz Vz
        refine hKC.out _ _ (cells2 (vblk_only BZ.2.1 hOz hb25)) (fun hHeld2 => ?_)
        clear hKC KC hHeld
        have hHeld := hHeld2
        clear hHeld2
        (try simp only [Act.put])
        refine wpAnyH_take (i := 7) (oi := { dst := some 3, op := Op.assign (Operand.tmp 15), type := 2, pos := "l13_store.go:180", after := #[{ on := 5, ground := Ground.data }, { on := 6, ground := Ground.chain }, { on := 0, ground := Ground.phase }, { on := 1, ground := Ground.phase }, { on := 2, ground := Ground.phase }, { on := 3, ground := Ground.phase }, { on := 4, ground := Ground.phase }, { on := 5, ground := Ground.phase }, { on := 6, ground := Ground.phase }], guard := none }) (v := ?_) rfl (by kernel_rfl) (by kernel_rfl) (by kernel_rfl) (fun _ _ _ h => h) (Or.inl ⟨by rfl, ?_⟩) (by assumption) ?_
        rotate_left 1
        · intro w' hSw
          (try dsimp only at hSw)
          go_simp
          (try with_reducible rfl)
        (try simp only [Act.put, List.setIfInBounds_toArray, List.set_cons_zero, List.set_cons_succ])
        refine wpAnyH_done (by kernel_rfl) ?_ _
        go_wp2
        exact row_ct rfl rfl rfl Vz Try.underlying29 sizeBk rfl ⟨_, X, q, _, rfl, ⟨(BZ.2.2.2.1.only hOz BZ.2.2.1 (by decide)).top, D3.s, hl, BZ.1.trans (hOz.2.2 _ hb2)⟩, hX0, hX1⟩
      · refine step_store_v rfl 29 _ _ rfl b2 [.slice A3 n3 c3, .int .i64 X] rfl rfl sizeBk BZ.2.2.1 rfl (oneBk _ _ _ _) ?_
        intro wz hOz Vz
        have hcz := only_cell hcell hcn hOz
        refine hKC.out _ _ (cells2 (vblk_only BZ.2.1 hOz hb25)) (fun hHeld2 => ?_)
        clear hKC KC hHeld
        have hHeld := hHeld2
        clear hHeld2
        (try simp only [Act.put])
        refine wpAnyH_ready (rs := [5]) (by kernel_rfl) (by simp) ?_
        refine AllReadyH.cons (o := { dst := some 15, op := Op.load 2 (Operand.tmp 14), type := 2, pos := "l13_store.go:180", after := #[{ on := 4, ground := Ground.data }, { on := 6, ground := Ground.gcOnly Departure.lateStores }], guard := none }) rfl (fun KC hKC => ?_) AllReadyH.nil
        go_simp
        refine hKC.out _ _ (cells2 (vblk_only BZ.2.1 hOz hb25)) (fun hHeld2 => ?_)
        clear hKC KC hHeld
        have hHeld := hHeld2
        clear hHeld2
        (try simp only [Act.put, List.setIfInBounds_toArray, List.set_cons_zero, List.set_cons_succ])
        refine wpAnyH_take (i := 7) (oi := { dst := some 3, op := Op.assign (Operand.tmp 15), type := 2, pos := "l13_store.go:180", after := #[{ on := 5, ground := Ground.data }, { on := 6, ground := Ground.chain }, { on := 0, ground := Ground.phase }, { on := 1, ground := Ground.phase }, { on := 2, ground := Ground.phase }, { on := 3, ground := Ground.phase }, { on := 4, ground := Ground.phase }, { on := 5, ground := Ground.phase }, { on := 6, ground := Ground.phase }], guard := none }) (v := ?_) rfl (by kernel_rfl) (by kernel_rfl) (by kernel_rfl) (fun _ _ _ h => h) (Or.inl ⟨by rfl, ?_⟩) (by assumption) ?_
        rotate_left 1
        · intro w' hSw
          (try dsimp only at hSw)
          go_simp
          (try with_reducible rfl)
        (try simp only [Act.put, List.setIfInBounds_toArray, List.set_cons_zero, List.set_cons_succ])
        refine wpAnyH_done (by kernel_rfl) ?_ _
        go_wp2
        exact row_ct rfl rfl rfl Vz Try.underlying29 sizeBk rfl ⟨_, X, q, _, rfl, ⟨(BZ.2.2.2.1.only hOz BZ.2.2.1 (by decide)).top, D3.s, hl, BZ.1.trans (hOz.2.2 _ hb2)⟩, hX0, hX1⟩
    · have BY := fin6 hB5 hbp.2.2 hg6' V56 V26 O5
      refine step_store_v rfl 29 _ _ rfl b2 [.slice A3 n3 c3, .int .i64 X] rfl rfl sizeBk BY.2.2.1 rfl (oneBk _ _ _ _) ?_
      intro wz hOz Vz
      have V5z := vblk_only BY.2.1 hOz hb25
      have Oz := BY.2.2.2.1.only hOz BY.2.2.1 (by decide)
      have Bz := BY.1.trans (hOz.2.2 _ hb2)
      refine hKC.out _ _ (cells2 V5z) (fun hHeld2 => ?_)
      clear hKC KC hHeld
      have hHeld := hHeld2
      clear hHeld2
      (try simp only [Act.put])
      refine wpAnyH_ready (rs := [1]) (by kernel_rfl) (by simp) ?_
      refine AllReadyH.cons (o := { dst := some 11, op := Op.buildSlice 74 8 #[(0, Operand.const (Value.int IntKind.i64 0)), (1, Operand.const (Value.int IntKind.i64 10)), (2, Operand.const (Value.int IntKind.i64 30)), (3, Operand.const (Value.int IntKind.i64 59)), (4, Operand.const (Value.int IntKind.i64 60)), (5, Operand.const (Value.int IntKind.i64 1000000)), (6, Operand.const (Value.int IntKind.i64 1000001)), (7, Operand.const (Value.int IntKind.i64 (-1)))], type := 74, pos := "l13_store.go:180", after := #[{ on := 6, ground := Ground.gcOnly Departure.lateStores }], guard := none }) rfl (fun KC hKC => ?_) AllReadyH.nil
      go_simp
      have hx8 : xn < 8 := by omega
      have hB7 := bAl wz (.cells #[.int .i64 0, .int .i64 10, .int .i64 30, .int .i64 59, .int .i64 60, .int .i64 1000000, .int .i64 1000001, .int .i64 (-1)] 2)
      obtain ⟨now, hnow⟩ := hid_ex ([0, 10, 30, 59, 60, 1000000, 1000001, -1][xn])
      have hcell : (wz.alloc (.cells #[.int .i64 0, .int .i64 10, .int .i64 30, .int .i64 59, .int .i64 60, .int .i64 1000000, .int .i64 1000001, .int .i64 (-1)] 2)).cell? ⟨wz.heap.size, xn, none⟩ = some (.int .i64 now) := by rw [← hnow.out]; exact lit_cell wz [0, 10, 30, 59, 60, 1000000, 1000001, -1] 2 xn hx8
      have V57 := vblk_grow V5z hB7
      have V27 := vblk_grow Vz hB7
      have O7 := (Oz.grow hB7).top
      have B7 := Bz.trans (hB7.mono Bz.size)
      obtain ⟨w7, hw7⟩ := hid_ex (wz.alloc (.cells #[.int .i64 0, .int .i64 10, .int .i64 30, .int .i64 59, .int .i64 60, .int .i64 1000000, .int .i64 1000001, .int .i64 (-1)] 2))
      rw [hw7.out] at hB7 hcell V57 V27 O7 B7 ⊢
      refine hKC.out _ _ (cells2 V57) (fun hHeld2 => ?_)
      clear hKC KC hHeld
      have hHeld := hHeld2
      clear hHeld2
      (try simp only [Act.put, List.setIfInBounds_toArray, List.set_cons_zero, List.set_cons_succ])
      refine wpAnyH_take (i := 4) (oi := { dst := some 14, op := Op.indexAddr 74 (Operand.tmp 11) (Operand.tmp 13), type := 0, pos := "l13_store.go:180", after := #[{ on := 1, ground := Ground.data }, { on := 3, ground := Ground.data }, { on := 6, ground := Ground.gcOnly Departure.lateStores }], guard := none }) (v := ?_) rfl (by kernel_rfl) (by kernel_rfl) (by kernel_rfl) (fun _ _ _ h => h) (Or.inl ⟨by rfl, ?_⟩) (by assumption) ?_
      rotate_left 1
      · intro w' hSw
        (try dsimp only at hSw)
        go_simp
        (try with_reducible rfl)
      (try simp only [Act.put, List.setIfInBounds_toArray, List.set_cons_zero, List.set_cons_succ])
      refine wpAnyH_ready (rs := [5]) (by kernel_rfl) (by simp) ?_
      refine AllReadyH.cons (o := { dst := some 15, op := Op.load 2 (Operand.tmp 14), type := 2, pos := "l13_store.go:180", after := #[{ on := 4, ground := Ground.data }, { on := 6, ground := Ground.gcOnly Departure.lateStores }], guard := none }) rfl (fun KC hKC => ?_) AllReadyH.nil
      go_simp
      refine hKC.out _ _ (cells2 V57) (fun hHeld2 => ?_)
      clear hKC KC hHeld
      have hHeld := hHeld2
      clear hHeld2
      (try simp only [Act.put, List.setIfInBounds_toArray, List.set_cons_zero, List.set_cons_succ])
      refine wpAnyH_take (i := 7) (oi := { dst := some 3, op := Op.assign (Operand.tmp 15), type := 2, pos := "l13_store.go:180", after := #[{ on := 5, ground := Ground.data }, { on := 6, ground := Ground.chain }, { on := 0, ground := Ground.phase }, { on := 1, ground := Ground.phase }, { on := 2, ground := Ground.phase }, { on := 3, ground := Ground.phase }, { on := 4, ground := Ground.phase }, { on := 5, ground := Ground.phase }, { on := 6, ground := Ground.phase }], guard := none }) (v := ?_) rfl (by kernel_rfl) (by kernel_rfl) (by kernel_rfl) (fun _ _ _ h => h) (Or.inl ⟨by rfl, ?_⟩) (by assumption) ?_
      rotate_left 1
      · intro w' hSw
        (try dsimp only at hSw)
        go_simp
        (try with_reducible rfl)
      (try simp only [Act.put, List.setIfInBounds_toArray, List.set_cons_zero, List.set_cons_succ])
      refine wpAnyH_done (by kernel_rfl) ?_ _
      go_wp2
      exact row_ct rfl rfl rfl V27 Try.underlying29 sizeBk rfl ⟨_, X, q, _, rfl, ⟨O7, D3.s, hl, B7⟩, hX0, hX1⟩
end Go.Proofs.Ytcbhbpdlgibipaa.rg
