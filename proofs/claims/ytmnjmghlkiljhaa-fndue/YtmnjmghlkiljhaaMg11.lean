/- Texts laid together: Io4 Wh0 Wh1 Wh2 Wh3 Wh4 Wh5 Wh6 Wh7. -/
import Derived.Test.YtmnjmghlkiljhaaMg10
import Derived.Test.YtmnjmghlkiljhaaMg03
import Derived.Test.YtmnjmghlkiljhaaMg08
import Derived.Lib.SmallJoins
import Derived.Deep.Slices
import Derived.Deep.RegionHeld3
import Derived.BigQuiet
import Derived.Deep.DeepCutAuto
/- Contracts: the program's answers on a book of things. -/
namespace Go.Proofs.Ytmnjmghlkiljhaa.rg
open Go.ChangeShapes Go.WideShapes Go.ChangeAt Go.RowKit
open Go.Proofs.Ytmnjmghlkiljhaa.ce Go.Proofs.Ytmnjmghlkiljhaa.ro
set_option linter.unusedVariables false

set_option maxRecDepth 100000 in
set_option maxHeartbeats 4000000 in
theorem implBookOk_any (b : List It) (v : Value) (w : World) (r : Rd encIt w v b) (hs : SmK b) :
    Calls Try.prog 119 #[v] w fun e w' => e = .returned (.bool (bookB b)) ∧ Below w.heap.size w w' := by
  have hl := r.len
  obtain ⟨a, cap, rfl⟩ := r.form
  have R : Hid (Rd encIt w (.slice a b.length cap) b) := r
  have HS : Hid (SmK b) := hs
  clear r hs
  obtain ⟨y, hy⟩ := hid_ex (bookB b)
  rw [hy.out]
  by_cases h20 : (b.length : Int) > 20
  · have ey : y = false := by rw [← hy.out]; exact book_long (by omega)
    subst ey
    go_enter Try.func119, Try.ntmps119
    go_wp2
    go_ret
    exact ⟨rfl, Below.refl _ _⟩
  go_enter Try.func119, Try.ntmps119
  go_wp2
  go_loopw [10] (fun p wr => ∃ i : Nat, i ≤ b.length ∧ p = .int .i64 i ∧ Hid (PreB b i) ∧ Below w.heap.size w wr) (fun p _ => b.length - (intOf p).toNat)
  case atStart => exact ⟨0, by omega, rfl, preB_zero b, Below.refl _ _⟩
  case round =>
    obtain ⟨i, hi1, rfl, hP, hBr⟩ := hrel
    by_cases hlt : i < b.length
    · have hRr := R.out.grow hBr
      obtain ⟨bk, off, rfl, hb, rg0⟩ := rd_item rfl rfl hRr i hlt
      have hlt' : (i : Int) < (b.length : Int) := by omega
      have hsz := HS.out b[i] (List.getElem_mem hlt)
      have hp1 := @preB_not1 b i hlt
      have hp2 := @preB_not2 b i hlt
      have hp3 := preB_succ hP.out hlt
      have hsr := hBr.size
      obtain ⟨z, hz⟩ := hid_ex (b[i])
      rw [hz.out] at rg0 hsz hp1 hp3
      simp only [hz.out] at hp2
      obtain ⟨N, F, B, C, U⟩ := z
      obtain ⟨hN, hB⟩ := hsz
      dsimp only at hN hB hp2 hp3
      have rg : Hid (wr.rangeAt bk (off + i * 5) [.string N, .int .i64 F, .string B, .int .i64 C, .int .i64 U]) := rg0
      clear rg0
      obtain ⟨x, hx⟩ := hid_ex (itemB ⟨N, F, B, C, U⟩)
      cases x with
      | false =>
        have ey : y = false := by rw [← hy.out]; exact hp1 hx.out
        subst ey
        clear hp1 hp2 hp3
        go_upto_region 6 with (first | (refine wpList_load_r rfl 53 _ rfl bk (off + i * 5) [.string N, .int .i64 F, .string B, .int .i64 C, .int .i64 U] rfl _ Try.underlying53 rfl sizeIt rg.out ?_) | (refine wpList_alloc_v rfl 53 rfl _ zeroIt ?_; intro g w2 hg hwg hB2 V2; have hz2 := hB2.size) | (refine wpList_store_v rfl 53 _ _ rfl g [.string N, .int .i64 F, .string B, .int .i64 C, .int .i64 U] rfl rfl sizeIt V2 rfl (ic_one ⟨N, F, B, C, U⟩) ?_; intro w3 hO3 V3) | (fail))
        have hz3 : w2.heap.size ≤ w3.heap.size := Nat.le_of_eq hO3.1.symm
        have hz3b : w3.heap.size ≤ w2.heap.size := Nat.le_of_eq hO3.1
        have hB3 : Below w.heap.size w w3 := (hBr.trans (hB2.mono hsr)).trans (hO3.2.2 _ (by omega))
        have VV : Hid (VBlk w3 g 53 [.string N, .int .i64 F, .string B, .int .i64 C, .int .i64 U]) := V3
        clear V2 V3 hO3
        refine wp_region_held_drew (S := fun w' => w'.cell? ⟨g, 0, none⟩ = some (.string N) ∧ w'.cell? ⟨g, 1, none⟩ = some (.int .i64 F) ∧ w'.cell? ⟨g, 2, none⟩ = some (.string B) ∧ w'.cell? ⟨g, 3, none⟩ = some (.int .i64 C) ∧ w'.cell? ⟨g, 4, none⟩ = some (.int .i64 U)) (by kernel_rfl) (cells5 (w := w3.drew) VV.out) (fun hHeld => ?_)
        refine wpAnyH_take (i := 0) (oi := { dst := some 15, op := Op.load 53 (Operand.tmp 4), type := 53, pos := "l10_item.go:75", after := #[], guard := none }) (v := ?_) rfl (by kernel_rfl) (by kernel_rfl) (by kernel_rfl) (fun _ _ _ h => h) (Or.inl ⟨by rfl, ?_⟩) (by assumption) ?_
        rotate_left 1
        · intro w' hSw; (try dsimp only at hSw); go_simp; (try with_reducible rfl)
        (try simp only [Act.put, List.setIfInBounds_toArray, List.set_cons_zero, List.set_cons_succ])
        refine wpAnyH_ready (rs := [1]) (by kernel_rfl) (by simp) ?_
        refine AllReadyH.cons (o := { dst := some 16, op := Op.call { callee := Callee.value (Operand.func 79), args := #[Operand.tmp 15], argTypes := #[53] }, type := 4, pos := "l10_item.go:75", after := #[{ on := 0, ground := Ground.data }], guard := none }) rfl (fun KC hKC => ?_) AllReadyH.nil
        go_simp
        (go_at_call 79; refine (implItemOk_any N B F C U _ hx (by omega) (by omega) _).mono ?_; rintro e w4 ⟨rfl, hB4⟩; have hz4 := hB4.size)
        refine hKC.out _ _ (cells5 (vblk_grow VV.out.drew hB4)) (fun hHeld2 => ?_)
        clear hKC KC hHeld
        have hHeld := hHeld2
        clear hHeld2
        (try simp only [Act.put, List.setIfInBounds_toArray, List.set_cons_zero, List.set_cons_succ])
        refine wpAnyH_take (i := 2) (oi := { dst := some 17, op := Op.unOp UnOp.not 4 (Operand.tmp 16), type := 4, pos := "l10_item.go:75", after := #[{ on := 1, ground := Ground.data }], guard := none }) (v := ?_) rfl (by kernel_rfl) (by kernel_rfl) (by kernel_rfl) (fun _ _ _ h => h) (Or.inl ⟨by rfl, ?_⟩) (by assumption) ?_
        rotate_left 1
        · intro w' hSw; (try dsimp only at hSw); go_simp; (try with_reducible rfl)
        (try simp only [Act.put, List.setIfInBounds_toArray, List.set_cons_zero, List.set_cons_succ])
        refine wpAnyH_take (i := 3) (oi := { dst := some 18, op := Op.move (Operand.tmp 17), type := 4, pos := "l10_item.go:75", after := #[{ on := 2, ground := Ground.data }, { on := 1, ground := Ground.chain }], guard := none }) (v := ?_) rfl (by kernel_rfl) (by kernel_rfl) (by kernel_rfl) (fun _ _ _ h => h) (Or.inl ⟨by rfl, ?_⟩) (by assumption) ?_
        rotate_left 1
        · intro w' hSw; (try dsimp only at hSw); go_simp; (try with_reducible rfl)
        (try simp only [Act.put, List.setIfInBounds_toArray, List.set_cons_zero, List.set_cons_succ])
        refine wpAnyH_take (i := 4) (oi := { dst := some 19, op := Op.move (Operand.tmp 3), type := 3, pos := "l10_item.go:75", after := #[{ on := 3, ground := Ground.guard }], guard := some (3, false) }) (v := undef) rfl (by kernel_rfl) (by kernel_rfl) (by kernel_rfl) (fun _ _ _ h => h) (Or.inr ⟨by rfl, rfl⟩) (by assumption) ?_
        (try simp only [Act.put, List.setIfInBounds_toArray, List.set_cons_zero, List.set_cons_succ])
        refine wpAnyH_take (i := 5) (oi := { dst := some 20, op := Op.binOp BinOp.gtr 3 (Operand.tmp 19) (Operand.const (Value.int IntKind.i64 0)) 3, type := 4, pos := "l10_item.go:75", after := #[{ on := 4, ground := Ground.data }, { on := 3, ground := Ground.guard }], guard := some (3, false) }) (v := undef) rfl (by kernel_rfl) (by kernel_rfl) (by kernel_rfl) (fun _ _ _ h => h) (Or.inr ⟨by rfl, rfl⟩) (by assumption) ?_
        (try simp only [Act.put, List.setIfInBounds_toArray, List.set_cons_zero, List.set_cons_succ])
        refine wpAnyH_take (i := 6) (oi := { dst := some 21, op := Op.move (Operand.tmp 20), type := 4, pos := "l10_item.go:75", after := #[{ on := 5, ground := Ground.data }, { on := 3, ground := Ground.chain }, { on := 3, ground := Ground.guard }], guard := some (3, false) }) (v := undef) rfl (by kernel_rfl) (by kernel_rfl) (by kernel_rfl) (fun _ _ _ h => h) (Or.inr ⟨by rfl, rfl⟩) (by assumption) ?_
        (try simp only [Act.put, List.setIfInBounds_toArray, List.set_cons_zero, List.set_cons_succ])
        refine wpAnyH_take (i := 7) (oi := { dst := some 22, op := Op.move (Operand.tmp 0), type := 47, pos := "l10_item.go:75", after := #[{ on := 6, ground := Ground.guard }], guard := some (6, true) }) (v := undef) rfl (by kernel_rfl) (by kernel_rfl) (by kernel_rfl) (fun _ _ _ h => h) (Or.inr ⟨by rfl, rfl⟩) (by assumption) ?_
        (try simp only [Act.put, List.setIfInBounds_toArray, List.set_cons_zero, List.set_cons_succ])
        refine wpAnyH_take (i := 8) (oi := { dst := some 23, op := Op.move (Operand.tmp 3), type := 3, pos := "l10_item.go:75", after := #[{ on := 6, ground := Ground.guard }], guard := some (6, true) }) (v := undef) rfl (by kernel_rfl) (by kernel_rfl) (by kernel_rfl) (fun _ _ _ h => h) (Or.inr ⟨by rfl, rfl⟩) (by assumption) ?_
        (try simp only [Act.put, List.setIfInBounds_toArray, List.set_cons_zero, List.set_cons_succ])
        refine wpAnyH_take (i := 9) (oi := { dst := some 24, op := Op.binOp BinOp.sub 3 (Operand.tmp 23) (Operand.const (Value.int IntKind.i64 1)) 3, type := 3, pos := "l10_item.go:75", after := #[{ on := 8, ground := Ground.data }, { on := 6, ground := Ground.guard }], guard := some (6, true) }) (v := undef) rfl (by kernel_rfl) (by kernel_rfl) (by kernel_rfl) (fun _ _ _ h => h) (Or.inr ⟨by rfl, rfl⟩) (by assumption) ?_
        (try simp only [Act.put, List.setIfInBounds_toArray, List.set_cons_zero, List.set_cons_succ])
        refine wpAnyH_take (i := 10) (oi := { dst := some 25, op := Op.indexAddr 47 (Operand.tmp 22) (Operand.tmp 24), type := 0, pos := "l10_item.go:75", after := #[{ on := 7, ground := Ground.data }, { on := 9, ground := Ground.data }, { on := 6, ground := Ground.guard }], guard := some (6, true) }) (v := undef) rfl (by kernel_rfl) (by kernel_rfl) (by kernel_rfl) (fun _ _ _ h => h) (Or.inr ⟨by rfl, rfl⟩) (by assumption) ?_
        (try simp only [Act.put, List.setIfInBounds_toArray, List.set_cons_zero, List.set_cons_succ])
        refine wpAnyH_take (i := 11) (oi := { dst := some 26, op := Op.load 53 (Operand.tmp 25), type := 53, pos := "l10_item.go:75", after := #[{ on := 10, ground := Ground.data }, { on := 6, ground := Ground.guard }], guard := some (6, true) }) (v := undef) rfl (by kernel_rfl) (by kernel_rfl) (by kernel_rfl) (fun _ _ _ h => h) (Or.inr ⟨by rfl, rfl⟩) (by assumption) ?_
        (try simp only [Act.put, List.setIfInBounds_toArray, List.set_cons_zero, List.set_cons_succ])
        refine wpAnyH_take (i := 12) (oi := { dst := some 27, op := Op.call { callee := Callee.value (Operand.func 123), args := #[Operand.tmp 26], argTypes := #[53] }, type := 148, pos := "l10_item.go:75", after := #[{ on := 11, ground := Ground.data }, { on := 6, ground := Ground.chain }, { on := 6, ground := Ground.guard }], guard := some (6, true) }) (v := undef) rfl (by kernel_rfl) (by kernel_rfl) (by kernel_rfl) (fun _ _ _ h => h) (Or.inr ⟨by rfl, rfl⟩) (by assumption) ?_
        (try simp only [Act.put, List.setIfInBounds_toArray, List.set_cons_zero, List.set_cons_succ])
        refine wpAnyH_take (i := 13) (oi := { dst := some 28, op := Op.field 148 (Operand.tmp 27) 0, type := 146, pos := "l10_item.go:75", after := #[{ on := 12, ground := Ground.data }, { on := 6, ground := Ground.guard }], guard := some (6, true) }) (v := undef) rfl (by kernel_rfl) (by kernel_rfl) (by kernel_rfl) (fun _ _ _ h => h) (Or.inr ⟨by rfl, rfl⟩) (by assumption) ?_
        (try simp only [Act.put, List.setIfInBounds_toArray, List.set_cons_zero, List.set_cons_succ])
        refine wpAnyH_take (i := 14) (oi := { dst := some 29, op := Op.fieldAddr 53 (Operand.tmp 4) 0, type := 0, pos := "l10_item.go:75", after := #[{ on := 6, ground := Ground.guard }], guard := some (6, true) }) (v := undef) rfl (by kernel_rfl) (by kernel_rfl) (by kernel_rfl) (fun _ _ _ h => h) (Or.inr ⟨by rfl, rfl⟩) (by assumption) ?_
        (try simp only [Act.put, List.setIfInBounds_toArray, List.set_cons_zero, List.set_cons_succ])
        refine wpAnyH_take (i := 15) (oi := { dst := some 30, op := Op.load 9 (Operand.tmp 29), type := 9, pos := "l10_item.go:75", after := #[{ on := 14, ground := Ground.data }, { on := 6, ground := Ground.guard }], guard := some (6, true) }) (v := undef) rfl (by kernel_rfl) (by kernel_rfl) (by kernel_rfl) (fun _ _ _ h => h) (Or.inr ⟨by rfl, rfl⟩) (by assumption) ?_
        (try simp only [Act.put, List.setIfInBounds_toArray, List.set_cons_zero, List.set_cons_succ])
        refine wpAnyH_take (i := 16) (oi := { dst := some 31, op := Op.call { callee := Callee.value (Operand.func 140), args := #[Operand.tmp 28, Operand.tmp 30], argTypes := #[146, 9] }, type := 4, pos := "l10_item.go:75", after := #[{ on := 13, ground := Ground.data }, { on := 15, ground := Ground.data }, { on := 12, ground := Ground.chain }, { on := 6, ground := Ground.guard }], guard := some (6, true) }) (v := undef) rfl (by kernel_rfl) (by kernel_rfl) (by kernel_rfl) (fun _ _ _ h => h) (Or.inr ⟨by rfl, rfl⟩) (by assumption) ?_
        (try simp only [Act.put, List.setIfInBounds_toArray, List.set_cons_zero, List.set_cons_succ])
        refine wpAnyH_take (i := 17) (oi := { dst := some 32, op := Op.unOp UnOp.not 4 (Operand.tmp 31), type := 4, pos := "l10_item.go:75", after := #[{ on := 16, ground := Ground.data }, { on := 6, ground := Ground.guard }], guard := some (6, true) }) (v := undef) rfl (by kernel_rfl) (by kernel_rfl) (by kernel_rfl) (fun _ _ _ h => h) (Or.inr ⟨by rfl, rfl⟩) (by assumption) ?_
        (try simp only [Act.put, List.setIfInBounds_toArray, List.set_cons_zero, List.set_cons_succ])
        refine wpAnyH_take (i := 18) (oi := { dst := some 33, op := Op.pick (Operand.tmp 21) (Operand.tmp 32) (Operand.const (Value.bool false)), type := 4, pos := "l10_item.go:75", after := #[{ on := 6, ground := Ground.data }, { on := 17, ground := Ground.data }, { on := 3, ground := Ground.guard }], guard := some (3, false) }) (v := undef) rfl (by kernel_rfl) (by kernel_rfl) (by kernel_rfl) (fun _ _ _ h => h) (Or.inr ⟨by rfl, rfl⟩) (by assumption) ?_
        (try simp only [Act.put, List.setIfInBounds_toArray, List.set_cons_zero, List.set_cons_succ])
        refine wpAnyH_take (i := 19) (oi := { dst := some 34, op := Op.pick (Operand.tmp 18) (Operand.const (Value.bool true)) (Operand.tmp 33), type := 4, pos := "l10_item.go:75", after := #[{ on := 3, ground := Ground.data }, { on := 18, ground := Ground.data }], guard := none }) (v := ?_) rfl (by kernel_rfl) (by kernel_rfl) (by kernel_rfl) (fun _ _ _ h => h) (Or.inl ⟨by rfl, ?_⟩) (by assumption) ?_
        rotate_left 1
        · intro w' hSw; (try dsimp only at hSw); go_simp; (try with_reducible rfl)
        (try simp only [Act.put, List.setIfInBounds_toArray, List.set_cons_zero, List.set_cons_succ])
        refine wpAnyH_done (by kernel_rfl) ?_ _
        go_wp2
        go_ret
        exact ⟨rfl, hB3.drew.trans (hB4.mono hB3.size)⟩
      | true =>
        by_cases h0 : 0 < i
        · have h0' : decide ((i : Int) > 0) = true := decide_eq_true (by omega)
          have h0'' : (0 : Int) < (i : Int) := by omega
          obtain ⟨p, hpi⟩ : ∃ p : Nat, Hid (p = i - 1) := ⟨_, rfl⟩
          have hpl : p < b.length := by have := hpi.out; omega
          have hpw : IntKind.i64.wrap ((i : Int) - 1) = (p : Int) := by rw [IntKind.wrap_i64]; have := hpi.out; omega
          have hpp : (p : Int) < (b.length : Int) := by omega
          obtain ⟨bk', off', e', -, rp⟩ := rd_item rfl rfl hRr p hpl
          cases e'
          obtain ⟨q, hq⟩ := hid_ex (b[p])
          have ep : (b[i - 1]'(by omega)) = q := by rw [← hq.out]; simp only [hpi.out]
          rw [hq.out] at rp
          simp only [ep] at hp2 hp3
          obtain ⟨N2, F2, B2, C2, U2⟩ := q
          dsimp only at hp2 hp3
          have rg2 : Hid (wr.rangeAt bk (off + p * 5) [.string N2, .int .i64 F2, .string B2, .int .i64 C2, .int .i64 U2]) := rp
          clear rp ep
          obtain ⟨l, hl2⟩ := hid_ex (ltS N2 N)
          cases l with
          | false =>
            have ey : y = false := by rw [← hy.out]; exact hp2 h0 hl2.out
            subst ey
            clear hp1 hp2 hp3
            have hfd := field_thing N2 B2 F2 C2 U2
            go_upto_region 6 with (first | (refine wpList_load_r rfl 53 _ rfl bk (off + i * 5) [.string N, .int .i64 F, .string B, .int .i64 C, .int .i64 U] rfl _ Try.underlying53 rfl sizeIt rg.out ?_) | (refine wpList_alloc_v rfl 53 rfl _ zeroIt ?_; intro g w2 hg hwg hB2 V2; have hz2 := hB2.size) | (refine wpList_store_v rfl 53 _ _ rfl g [.string N, .int .i64 F, .string B, .int .i64 C, .int .i64 U] rfl rfl sizeIt V2 rfl (ic_one ⟨N, F, B, C, U⟩) ?_; intro w3 hO3 V3) | (fail))
            have hz3 : w2.heap.size ≤ w3.heap.size := Nat.le_of_eq hO3.1.symm
            have hz3b : w3.heap.size ≤ w2.heap.size := Nat.le_of_eq hO3.1
            have hB3 : Below w.heap.size w w3 := (hBr.trans (hB2.mono hsr)).trans (hO3.2.2 _ (by omega))
            have VV : Hid (VBlk w3 g 53 [.string N, .int .i64 F, .string B, .int .i64 C, .int .i64 U]) := V3
            have rg3 : Hid (w3.rangeAt bk (off + p * 5) [.string N2, .int .i64 F2, .string B2, .int .i64 C2, .int .i64 U2]) := range_of (range_of rg2.out (hB2.block bk hb)) (hO3.2.1 bk (by omega))
            have hbk3 : bk < w3.heap.size := by omega
            clear V2 V3 hO3
            have hS0 : (w3.drew.cell? ⟨g, 0, none⟩ = some (.string N) ∧ w3.drew.cell? ⟨g, 1, none⟩ = some (.int .i64 F) ∧ w3.drew.cell? ⟨g, 2, none⟩ = some (.string B) ∧ w3.drew.cell? ⟨g, 3, none⟩ = some (.int .i64 C) ∧ w3.drew.cell? ⟨g, 4, none⟩ = some (.int .i64 U)) ∧ w3.drew.cell? ⟨bk, off + p * 5, none⟩ = some (.string N2) ∧ w3.drew.cell? ⟨bk, off + p * 5 + 1, none⟩ = some (.int .i64 F2) ∧ w3.drew.cell? ⟨bk, off + p * 5 + 2, none⟩ = some (.string B2) ∧ w3.drew.cell? ⟨bk, off + p * 5 + 3, none⟩ = some (.int .i64 C2) ∧ w3.drew.cell? ⟨bk, off + p * 5 + 4, none⟩ = some (.int .i64 U2) := ⟨cells5 (w := w3.drew) VV.out, rng5 (w := w3.drew) rg3.out⟩
            go_region_held3 (fun w' => (w'.cell? ⟨g, 0, none⟩ = some (.string N) ∧ w'.cell? ⟨g, 1, none⟩ = some (.int .i64 F) ∧ w'.cell? ⟨g, 2, none⟩ = some (.string B) ∧ w'.cell? ⟨g, 3, none⟩ = some (.int .i64 C) ∧ w'.cell? ⟨g, 4, none⟩ = some (.int .i64 U)) ∧ w'.cell? ⟨bk, off + p * 5, none⟩ = some (.string N2) ∧ w'.cell? ⟨bk, off + p * 5 + 1, none⟩ = some (.int .i64 F2) ∧ w'.cell? ⟨bk, off + p * 5 + 2, none⟩ = some (.string B2) ∧ w'.cell? ⟨bk, off + p * 5 + 3, none⟩ = some (.int .i64 C2) ∧ w'.cell? ⟨bk, off + p * 5 + 4, none⟩ = some (.int .i64 U2)) (first | assumption | exact hS0) (first | (go_at_call 79; refine (implItemOk_any N B F C U _ hx (by omega) (by omega) _).mono ?_; rintro e w4 ⟨rfl, hB4⟩; have hz4 := hB4.size; have VW : Hid (VBlk w4 g 53 [.string N, .int .i64 F, .string B, .int .i64 C, .int .i64 U]) := vblk_grow VV.out.drew hB4; have rg4 : Hid (w4.rangeAt bk (off + p * 5) [.string N2, .int .i64 F2, .string B2, .int .i64 C2, .int .i64 U2]) := range_of rg3.out (hB4.block bk hbk3); have hS2 := And.intro (cells5 VW.out) (rng5 rg4.out)) | (go_at_call 123; refine (thingOf_any N2 B2 F2 C2 U2 _).mono ?_; rintro e w5 ⟨rfl, hB5⟩; have hS3 := And.intro (cells5 (vblk_grow VW.out hB5)) (rng5 (range_of rg4.out (hB5.block bk (Nat.lt_of_lt_of_le hbk3 hz4))))) | (go_at_call 140; refine (standsAhead_any N2 N _ hl2.out _).mono ?_; rintro e wq ⟨rfl, hq⟩; subst wq) | (fail))
            go_wp2
            go_ret
            exact ⟨rfl, (hB3.drew.trans (hB4.mono hB3.size)).trans (hB5.mono (Nat.le_trans hB3.size hz4))⟩
          | true =>
            have hP3 : Hid (PreB b (i + 1)) := hp3 hx.out fun _ => hl2.out
            clear hp1 hp2 hp3
            have hfd := field_thing N2 B2 F2 C2 U2
            go_upto_region 6 with (first | (refine wpList_load_r rfl 53 _ rfl bk (off + i * 5) [.string N, .int .i64 F, .string B, .int .i64 C, .int .i64 U] rfl _ Try.underlying53 rfl sizeIt rg.out ?_) | (refine wpList_alloc_v rfl 53 rfl _ zeroIt ?_; intro g w2 hg hwg hB2 V2; have hz2 := hB2.size) | (refine wpList_store_v rfl 53 _ _ rfl g [.string N, .int .i64 F, .string B, .int .i64 C, .int .i64 U] rfl rfl sizeIt V2 rfl (ic_one ⟨N, F, B, C, U⟩) ?_; intro w3 hO3 V3) | (fail))
            have hz3 : w2.heap.size ≤ w3.heap.size := Nat.le_of_eq hO3.1.symm
            have hz3b : w3.heap.size ≤ w2.heap.size := Nat.le_of_eq hO3.1
            have hB3 : Below w.heap.size w w3 := (hBr.trans (hB2.mono hsr)).trans (hO3.2.2 _ (by omega))
            have VV : Hid (VBlk w3 g 53 [.string N, .int .i64 F, .string B, .int .i64 C, .int .i64 U]) := V3
            have rg3 : Hid (w3.rangeAt bk (off + p * 5) [.string N2, .int .i64 F2, .string B2, .int .i64 C2, .int .i64 U2]) := range_of (range_of rg2.out (hB2.block bk hb)) (hO3.2.1 bk (by omega))
            have hbk3 : bk < w3.heap.size := by omega
            clear V2 V3 hO3
            have hS0 : (w3.drew.cell? ⟨g, 0, none⟩ = some (.string N) ∧ w3.drew.cell? ⟨g, 1, none⟩ = some (.int .i64 F) ∧ w3.drew.cell? ⟨g, 2, none⟩ = some (.string B) ∧ w3.drew.cell? ⟨g, 3, none⟩ = some (.int .i64 C) ∧ w3.drew.cell? ⟨g, 4, none⟩ = some (.int .i64 U)) ∧ w3.drew.cell? ⟨bk, off + p * 5, none⟩ = some (.string N2) ∧ w3.drew.cell? ⟨bk, off + p * 5 + 1, none⟩ = some (.int .i64 F2) ∧ w3.drew.cell? ⟨bk, off + p * 5 + 2, none⟩ = some (.string B2) ∧ w3.drew.cell? ⟨bk, off + p * 5 + 3, none⟩ = some (.int .i64 C2) ∧ w3.drew.cell? ⟨bk, off + p * 5 + 4, none⟩ = some (.int .i64 U2) := ⟨cells5 (w := w3.drew) VV.out, rng5 (w := w3.drew) rg3.out⟩
            go_region_held3 (fun w' => (w'.cell? ⟨g, 0, none⟩ = some (.string N) ∧ w'.cell? ⟨g, 1, none⟩ = some (.int .i64 F) ∧ w'.cell? ⟨g, 2, none⟩ = some (.string B) ∧ w'.cell? ⟨g, 3, none⟩ = some (.int .i64 C) ∧ w'.cell? ⟨g, 4, none⟩ = some (.int .i64 U)) ∧ w'.cell? ⟨bk, off + p * 5, none⟩ = some (.string N2) ∧ w'.cell? ⟨bk, off + p * 5 + 1, none⟩ = some (.int .i64 F2) ∧ w'.cell? ⟨bk, off + p * 5 + 2, none⟩ = some (.string B2) ∧ w'.cell? ⟨bk, off + p * 5 + 3, none⟩ = some (.int .i64 C2) ∧ w'.cell? ⟨bk, off + p * 5 + 4, none⟩ = some (.int .i64 U2)) (first | assumption | exact hS0) (first | (go_at_call 79; refine (implItemOk_any N B F C U _ hx (by omega) (by omega) _).mono ?_; rintro e w4 ⟨rfl, hB4⟩; have hz4 := hB4.size; have VW : Hid (VBlk w4 g 53 [.string N, .int .i64 F, .string B, .int .i64 C, .int .i64 U]) := vblk_grow VV.out.drew hB4; have rg4 : Hid (w4.rangeAt bk (off + p * 5) [.string N2, .int .i64 F2, .string B2, .int .i64 C2, .int .i64 U2]) := range_of rg3.out (hB4.block bk hbk3); have hS2 := And.intro (cells5 VW.out) (rng5 rg4.out)) | (go_at_call 123; refine (thingOf_any N2 B2 F2 C2 U2 _).mono ?_; rintro e w5 ⟨rfl, hB5⟩; have hS3 := And.intro (cells5 (vblk_grow VW.out hB5)) (rng5 (range_of rg4.out (hB5.block bk (Nat.lt_of_lt_of_le hbk3 hz4))))) | (go_at_call 140; refine (standsAhead_any N2 N _ hl2.out _).mono ?_; rintro e wq ⟨rfl, hq⟩; subst wq) | (fail))
            go_wp2
            go_roundw
            case rel => exact ⟨i + 1, by omega, by go_num, hP3, (hB3.drew.trans (hB4.mono hB3.size)).trans (hB5.mono (Nat.le_trans hB3.size hz4))⟩
            case measure => simp [intOf]; omega
        · have hP3 : Hid (PreB b (i + 1)) := hp3 hx.out fun h => absurd h h0
          have h0' : decide ((i : Int) > 0) = false := decide_eq_false (by omega)
          have h0'' : ¬ (0 : Int) < (i : Int) := by omega
          clear hp1 hp2 hp3
          go_upto_region 6 with (first | (refine wpList_load_r rfl 53 _ rfl bk (off + i * 5) [.string N, .int .i64 F, .string B, .int .i64 C, .int .i64 U] rfl _ Try.underlying53 rfl sizeIt rg.out ?_) | (refine wpList_alloc_v rfl 53 rfl _ zeroIt ?_; intro g w2 hg hwg hB2 V2; have hz2 := hB2.size) | (refine wpList_store_v rfl 53 _ _ rfl g [.string N, .int .i64 F, .string B, .int .i64 C, .int .i64 U] rfl rfl sizeIt V2 rfl (ic_one ⟨N, F, B, C, U⟩) ?_; intro w3 hO3 V3) | (fail))
          have hz3 : w2.heap.size ≤ w3.heap.size := Nat.le_of_eq hO3.1.symm
          have hz3b : w3.heap.size ≤ w2.heap.size := Nat.le_of_eq hO3.1
          have hB3 : Below w.heap.size w w3 := (hBr.trans (hB2.mono hsr)).trans (hO3.2.2 _ (by omega))
          have VV : Hid (VBlk w3 g 53 [.string N, .int .i64 F, .string B, .int .i64 C, .int .i64 U]) := V3
          clear V2 V3 hO3
          refine wp_region_held_drew (S := fun w' => w'.cell? ⟨g, 0, none⟩ = some (.string N) ∧ w'.cell? ⟨g, 1, none⟩ = some (.int .i64 F) ∧ w'.cell? ⟨g, 2, none⟩ = some (.string B) ∧ w'.cell? ⟨g, 3, none⟩ = some (.int .i64 C) ∧ w'.cell? ⟨g, 4, none⟩ = some (.int .i64 U)) (by kernel_rfl) (cells5 (w := w3.drew) VV.out) (fun hHeld => ?_)
          refine wpAnyH_take (i := 0) (oi := { dst := some 15, op := Op.load 53 (Operand.tmp 4), type := 53, pos := "l10_item.go:75", after := #[], guard := none }) (v := ?_) rfl (by kernel_rfl) (by kernel_rfl) (by kernel_rfl) (fun _ _ _ h => h) (Or.inl ⟨by rfl, ?_⟩) (by assumption) ?_
          rotate_left 1
          · intro w' hSw; (try dsimp only at hSw); go_simp; (try with_reducible rfl)
          (try simp only [Act.put, List.setIfInBounds_toArray, List.set_cons_zero, List.set_cons_succ])
          refine wpAnyH_ready (rs := [1]) (by kernel_rfl) (by simp) ?_
          refine AllReadyH.cons (o := { dst := some 16, op := Op.call { callee := Callee.value (Operand.func 79), args := #[Operand.tmp 15], argTypes := #[53] }, type := 4, pos := "l10_item.go:75", after := #[{ on := 0, ground := Ground.data }], guard := none }) rfl (fun KC hKC => ?_) AllReadyH.nil
          go_simp
          (go_at_call 79; refine (implItemOk_any N B F C U _ hx (by omega) (by omega) _).mono ?_; rintro e w4 ⟨rfl, hB4⟩; have hz4 := hB4.size)
          refine hKC.out _ _ (cells5 (vblk_grow VV.out.drew hB4)) (fun hHeld2 => ?_)
          clear hKC KC hHeld
          have hHeld := hHeld2
          clear hHeld2
          (try simp only [Act.put, List.setIfInBounds_toArray, List.set_cons_zero, List.set_cons_succ])
          refine wpAnyH_take (i := 2) (oi := { dst := some 17, op := Op.unOp UnOp.not 4 (Operand.tmp 16), type := 4, pos := "l10_item.go:75", after := #[{ on := 1, ground := Ground.data }], guard := none }) (v := ?_) rfl (by kernel_rfl) (by kernel_rfl) (by kernel_rfl) (fun _ _ _ h => h) (Or.inl ⟨by rfl, ?_⟩) (by assumption) ?_
          rotate_left 1
          · intro w' hSw; (try dsimp only at hSw); go_simp; (try with_reducible rfl)
          (try simp only [Act.put, List.setIfInBounds_toArray, List.set_cons_zero, List.set_cons_succ])
          refine wpAnyH_take (i := 3) (oi := { dst := some 18, op := Op.move (Operand.tmp 17), type := 4, pos := "l10_item.go:75", after := #[{ on := 2, ground := Ground.data }, { on := 1, ground := Ground.chain }], guard := none }) (v := ?_) rfl (by kernel_rfl) (by kernel_rfl) (by kernel_rfl) (fun _ _ _ h => h) (Or.inl ⟨by rfl, ?_⟩) (by assumption) ?_
          rotate_left 1
          · intro w' hSw; (try dsimp only at hSw); go_simp; (try with_reducible rfl)
          (try simp only [Act.put, List.setIfInBounds_toArray, List.set_cons_zero, List.set_cons_succ])
          refine wpAnyH_take (i := 4) (oi := { dst := some 19, op := Op.move (Operand.tmp 3), type := 3, pos := "l10_item.go:75", after := #[{ on := 3, ground := Ground.guard }], guard := some (3, false) }) (v := ?_) rfl (by kernel_rfl) (by kernel_rfl) (by kernel_rfl) (fun _ _ _ h => h) (Or.inl ⟨by rfl, ?_⟩) (by assumption) ?_
          rotate_left 1
          · intro w' hSw; (try dsimp only at hSw); go_simp; (try with_reducible rfl)
          (try simp only [Act.put, List.setIfInBounds_toArray, List.set_cons_zero, List.set_cons_succ])
          refine wpAnyH_take (i := 5) (oi := { dst := some 20, op := Op.binOp BinOp.gtr 3 (Operand.tmp 19) (Operand.const (Value.int IntKind.i64 0)) 3, type := 4, pos := "l10_item.go:75", after := #[{ on := 4, ground := Ground.data }, { on := 3, ground := Ground.guard }], guard := some (3, false) }) (v := ?_) rfl (by kernel_rfl) (by kernel_rfl) (by kernel_rfl) (fun _ _ _ h => h) (Or.inl ⟨by rfl, ?_⟩) (by assumption) ?_
          rotate_left 1
          · intro w' hSw; (try dsimp only at hSw); go_simp; (try with_reducible rfl)
          (try simp only [Act.put, List.setIfInBounds_toArray, List.set_cons_zero, List.set_cons_succ])
          refine wpAnyH_take (i := 6) (oi := { dst := some 21, op := Op.move (Operand.tmp 20), type := 4, pos := "l10_item.go:75", after := #[{ on := 5, ground := Ground.data }, { on := 3, ground := Ground.chain }, { on := 3, ground := Ground.guard }], guard := some (3, false) }) (v := ?_) rfl (by kernel_rfl) (by kernel_rfl) (by kernel_rfl) (fun _ _ _ h => h) (Or.inl ⟨by rfl, ?_⟩) (by assumption) ?_
          rotate_left 1
          · intro w' hSw; (try dsimp only at hSw); go_simp; (try with_reducible rfl)
          (try simp only [Act.put, List.setIfInBounds_toArray, List.set_cons_zero, List.set_cons_succ])
          refine wpAnyH_take (i := 7) (oi := { dst := some 22, op := Op.move (Operand.tmp 0), type := 47, pos := "l10_item.go:75", after := #[{ on := 6, ground := Ground.guard }], guard := some (6, true) }) (v := undef) rfl (by kernel_rfl) (by kernel_rfl) (by kernel_rfl) (fun _ _ _ h => h) (Or.inr ⟨by rfl, rfl⟩) (by assumption) ?_
          (try simp only [Act.put, List.setIfInBounds_toArray, List.set_cons_zero, List.set_cons_succ])
          refine wpAnyH_take (i := 8) (oi := { dst := some 23, op := Op.move (Operand.tmp 3), type := 3, pos := "l10_item.go:75", after := #[{ on := 6, ground := Ground.guard }], guard := some (6, true) }) (v := undef) rfl (by kernel_rfl) (by kernel_rfl) (by kernel_rfl) (fun _ _ _ h => h) (Or.inr ⟨by rfl, rfl⟩) (by assumption) ?_
          (try simp only [Act.put, List.setIfInBounds_toArray, List.set_cons_zero, List.set_cons_succ])
          refine wpAnyH_take (i := 9) (oi := { dst := some 24, op := Op.binOp BinOp.sub 3 (Operand.tmp 23) (Operand.const (Value.int IntKind.i64 1)) 3, type := 3, pos := "l10_item.go:75", after := #[{ on := 8, ground := Ground.data }, { on := 6, ground := Ground.guard }], guard := some (6, true) }) (v := undef) rfl (by kernel_rfl) (by kernel_rfl) (by kernel_rfl) (fun _ _ _ h => h) (Or.inr ⟨by rfl, rfl⟩) (by assumption) ?_
          (try simp only [Act.put, List.setIfInBounds_toArray, List.set_cons_zero, List.set_cons_succ])
          refine wpAnyH_take (i := 10) (oi := { dst := some 25, op := Op.indexAddr 47 (Operand.tmp 22) (Operand.tmp 24), type := 0, pos := "l10_item.go:75", after := #[{ on := 7, ground := Ground.data }, { on := 9, ground := Ground.data }, { on := 6, ground := Ground.guard }], guard := some (6, true) }) (v := undef) rfl (by kernel_rfl) (by kernel_rfl) (by kernel_rfl) (fun _ _ _ h => h) (Or.inr ⟨by rfl, rfl⟩) (by assumption) ?_
          (try simp only [Act.put, List.setIfInBounds_toArray, List.set_cons_zero, List.set_cons_succ])
          refine wpAnyH_take (i := 11) (oi := { dst := some 26, op := Op.load 53 (Operand.tmp 25), type := 53, pos := "l10_item.go:75", after := #[{ on := 10, ground := Ground.data }, { on := 6, ground := Ground.guard }], guard := some (6, true) }) (v := undef) rfl (by kernel_rfl) (by kernel_rfl) (by kernel_rfl) (fun _ _ _ h => h) (Or.inr ⟨by rfl, rfl⟩) (by assumption) ?_
          (try simp only [Act.put, List.setIfInBounds_toArray, List.set_cons_zero, List.set_cons_succ])
          refine wpAnyH_take (i := 12) (oi := { dst := some 27, op := Op.call { callee := Callee.value (Operand.func 123), args := #[Operand.tmp 26], argTypes := #[53] }, type := 148, pos := "l10_item.go:75", after := #[{ on := 11, ground := Ground.data }, { on := 6, ground := Ground.chain }, { on := 6, ground := Ground.guard }], guard := some (6, true) }) (v := undef) rfl (by kernel_rfl) (by kernel_rfl) (by kernel_rfl) (fun _ _ _ h => h) (Or.inr ⟨by rfl, rfl⟩) (by assumption) ?_
          (try simp only [Act.put, List.setIfInBounds_toArray, List.set_cons_zero, List.set_cons_succ])
          refine wpAnyH_take (i := 13) (oi := { dst := some 28, op := Op.field 148 (Operand.tmp 27) 0, type := 146, pos := "l10_item.go:75", after := #[{ on := 12, ground := Ground.data }, { on := 6, ground := Ground.guard }], guard := some (6, true) }) (v := undef) rfl (by kernel_rfl) (by kernel_rfl) (by kernel_rfl) (fun _ _ _ h => h) (Or.inr ⟨by rfl, rfl⟩) (by assumption) ?_
          (try simp only [Act.put, List.setIfInBounds_toArray, List.set_cons_zero, List.set_cons_succ])
          refine wpAnyH_take (i := 14) (oi := { dst := some 29, op := Op.fieldAddr 53 (Operand.tmp 4) 0, type := 0, pos := "l10_item.go:75", after := #[{ on := 6, ground := Ground.guard }], guard := some (6, true) }) (v := undef) rfl (by kernel_rfl) (by kernel_rfl) (by kernel_rfl) (fun _ _ _ h => h) (Or.inr ⟨by rfl, rfl⟩) (by assumption) ?_
          (try simp only [Act.put, List.setIfInBounds_toArray, List.set_cons_zero, List.set_cons_succ])
          refine wpAnyH_take (i := 15) (oi := { dst := some 30, op := Op.load 9 (Operand.tmp 29), type := 9, pos := "l10_item.go:75", after := #[{ on := 14, ground := Ground.data }, { on := 6, ground := Ground.guard }], guard := some (6, true) }) (v := undef) rfl (by kernel_rfl) (by kernel_rfl) (by kernel_rfl) (fun _ _ _ h => h) (Or.inr ⟨by rfl, rfl⟩) (by assumption) ?_
          (try simp only [Act.put, List.setIfInBounds_toArray, List.set_cons_zero, List.set_cons_succ])
          refine wpAnyH_take (i := 16) (oi := { dst := some 31, op := Op.call { callee := Callee.value (Operand.func 140), args := #[Operand.tmp 28, Operand.tmp 30], argTypes := #[146, 9] }, type := 4, pos := "l10_item.go:75", after := #[{ on := 13, ground := Ground.data }, { on := 15, ground := Ground.data }, { on := 12, ground := Ground.chain }, { on := 6, ground := Ground.guard }], guard := some (6, true) }) (v := undef) rfl (by kernel_rfl) (by kernel_rfl) (by kernel_rfl) (fun _ _ _ h => h) (Or.inr ⟨by rfl, rfl⟩) (by assumption) ?_
          (try simp only [Act.put, List.setIfInBounds_toArray, List.set_cons_zero, List.set_cons_succ])
          refine wpAnyH_take (i := 17) (oi := { dst := some 32, op := Op.unOp UnOp.not 4 (Operand.tmp 31), type := 4, pos := "l10_item.go:75", after := #[{ on := 16, ground := Ground.data }, { on := 6, ground := Ground.guard }], guard := some (6, true) }) (v := undef) rfl (by kernel_rfl) (by kernel_rfl) (by kernel_rfl) (fun _ _ _ h => h) (Or.inr ⟨by rfl, rfl⟩) (by assumption) ?_
          (try simp only [Act.put, List.setIfInBounds_toArray, List.set_cons_zero, List.set_cons_succ])
          refine wpAnyH_take (i := 18) (oi := { dst := some 33, op := Op.pick (Operand.tmp 21) (Operand.tmp 32) (Operand.const (Value.bool false)), type := 4, pos := "l10_item.go:75", after := #[{ on := 6, ground := Ground.data }, { on := 17, ground := Ground.data }, { on := 3, ground := Ground.guard }], guard := some (3, false) }) (v := ?_) rfl (by kernel_rfl) (by kernel_rfl) (by kernel_rfl) (fun _ _ _ h => h) (Or.inl ⟨by rfl, ?_⟩) (by assumption) ?_
          rotate_left 1
          · intro w' hSw; (try dsimp only at hSw); go_simp; (try with_reducible rfl)
          (try simp only [Act.put, List.setIfInBounds_toArray, List.set_cons_zero, List.set_cons_succ])
          refine wpAnyH_take (i := 19) (oi := { dst := some 34, op := Op.pick (Operand.tmp 18) (Operand.const (Value.bool true)) (Operand.tmp 33), type := 4, pos := "l10_item.go:75", after := #[{ on := 3, ground := Ground.data }, { on := 18, ground := Ground.data }], guard := none }) (v := ?_) rfl (by kernel_rfl) (by kernel_rfl) (by kernel_rfl) (fun _ _ _ h => h) (Or.inl ⟨by rfl, ?_⟩) (by assumption) ?_
          rotate_left 1
          · intro w' hSw; (try dsimp only at hSw); go_simp; (try with_reducible rfl)
          (try simp only [Act.put, List.setIfInBounds_toArray, List.set_cons_zero, List.set_cons_succ])
          refine wpAnyH_done (by kernel_rfl) ?_ _
          go_wp2
          go_roundw
          case rel => exact ⟨i + 1, by omega, by go_num, hP3, hB3.drew.trans (hB4.mono hB3.size)⟩
          case measure => simp [intOf]; omega
    · have hlt' : ¬ (i : Int) < (b.length : Int) := by omega
      have hP2 := hP.out
      rw [show i = b.length by omega] at hP2
      have ey : y = true := by rw [← hy.out, preB_all hP2]; exact decide_eq_true (by omega)
      subst ey
      clear hP2
      go_wp2
      go_ret
      exact ⟨rfl, hBr⟩

end Go.Proofs.Ytmnjmghlkiljhaa.rg
/- A heap of things in memory: what is first, how many, which of two goes first, two swapped. -/
namespace Go.Proofs.Ytmnjmghlkiljhaa.rg
open Go.ChangeShapes Go.WideShapes Go.ChangeAt Go.RowKit
open Go.Deep Go.Joins
open Go.Proofs.Ytmnjmghlkiljhaa.ce Go.Proofs.Ytmnjmghlkiljhaa.ro
set_option linter.unusedVariables false
set_option linter.unusedSimpArgs false

set_option maxRecDepth 100000 in
set_option maxHeartbeats 4000000 in
theorem goesFirst_any (N B N2 B2 : ByteArray) (F C U F2 C2 U2 : Int) (y : Bool) (hy : Hid (earB ⟨N, F, B, C, U⟩ ⟨N2, F2, B2, C2, U2⟩ = y)) (w : World) :
    Calls Try.prog 164 #[.agg #[.string N, .int .i64 F, .string B, .int .i64 C, .int .i64 U], .agg #[.string N2, .int .i64 F2, .string B2, .int .i64 C2, .int .i64 U2]] w fun e w' => e = .returned (.bool y) ∧ Below w.heap.size w w' := by
  have m1 : Hid True := trivial
  by_cases hU : U = U2
  · have hU' : (U != U2) = false := by simpa using hU
    have hl : ltS N N2 = y := by have := hy.out; unfold earB at this; rw [if_pos hU] at this; exact this
    have HL : Hid (ltS N N2 = y) := hl
    clear hl hU
    go_enter Try.func164, Try.ntmps164
    go_upto_region 3 with (first | (clear m1; refine wpList_box_v rfl 53 _ rfl [.string N, .int .i64 F, .string B, .int .i64 C, .int .i64 U] rfl ?_; intro b1 w1 hb1 hw1 hB1 V1; have hz1 := hB1.size) | (refine wpList_box_v rfl 53 _ rfl [.string N2, .int .i64 F2, .string B2, .int .i64 C2, .int .i64 U2] rfl ?_; intro b2 w2 hb2 hw2 hB2 V2; replace V1 := vblk_grow V1 hB2; have hB12 := hB1.trans (hB2.mono hz1); have hz2 := hB12.size; obtain ⟨c0, c1, c2, c3, c4⟩ := cells5 V1; obtain ⟨d0, d1, d2, d3, d4⟩ := cells5 V2) | (fail))
    have hf := field_thing N B F C U
    have S1 : w2.drew.cell? ⟨b1, 0, none⟩ = some (.string N) ∧ w2.drew.cell? ⟨b1, 1, none⟩ = some (.int .i64 F) ∧ w2.drew.cell? ⟨b1, 2, none⟩ = some (.string B) ∧ w2.drew.cell? ⟨b1, 3, none⟩ = some (.int .i64 C) ∧ w2.drew.cell? ⟨b1, 4, none⟩ = some (.int .i64 U) ∧ w2.drew.cell? ⟨b2, 0, none⟩ = some (.string N2) := ⟨c0, c1, c2, c3, c4, d0⟩
    go_region_held3 (fun w' => w'.cell? ⟨b1, 0, none⟩ = some (.string N) ∧ w'.cell? ⟨b1, 1, none⟩ = some (.int .i64 F) ∧ w'.cell? ⟨b1, 2, none⟩ = some (.string B) ∧ w'.cell? ⟨b1, 3, none⟩ = some (.int .i64 C) ∧ w'.cell? ⟨b1, 4, none⟩ = some (.int .i64 U) ∧ w'.cell? ⟨b2, 0, none⟩ = some (.string N2)) (first | with_reducible assumption | with_reducible exact S1 | (fail)) (first | (go_at_call 123; refine (thingOf_any N B F C U _).mono ?_; rintro e w3 ⟨rfl, hB3⟩; have hB13 : Below w.heap.size w w3 := (hB12.drew).trans (hB3.mono (by show _ ≤ w2.heap.size; omega)); have V13 := vblk_grow (vblk_grow V1 (Below.refl _ _).drew) hB3; have V23 := vblk_grow (vblk_grow V2 (Below.refl _ _).drew) hB3; clear c0 c1 c2 c3 c4 d0 d1 d2 d3 d4; obtain ⟨c0, c1, c2, c3, c4⟩ := cells5 V13; obtain ⟨d0, d1, d2, d3, d4⟩ := cells5 V23; have S2 : w3.cell? ⟨b1, 0, none⟩ = some (.string N) ∧ w3.cell? ⟨b1, 1, none⟩ = some (.int .i64 F) ∧ w3.cell? ⟨b1, 2, none⟩ = some (.string B) ∧ w3.cell? ⟨b1, 3, none⟩ = some (.int .i64 C) ∧ w3.cell? ⟨b1, 4, none⟩ = some (.int .i64 U) ∧ w3.cell? ⟨b2, 0, none⟩ = some (.string N2) := ⟨c0, c1, c2, c3, c4, d0⟩) | (go_at_call 140; refine (standsAhead_any N N2 y HL.out _).mono ?_; rintro e wq ⟨rfl, hq⟩; subst wq) | (fail))
    go_wp2
    go_ret
    exact ⟨rfl, hB13⟩
  · have hU' : (U != U2) = true := by simpa using hU
    have hl : decide (U < U2) = y := by have := hy.out; unfold earB at this; rw [if_neg hU] at this; exact this
    clear hU
    go_enter Try.func164, Try.ntmps164
    go_wp2_with (first | (clear m1; refine wpList_box_v rfl 53 _ rfl [.string N, .int .i64 F, .string B, .int .i64 C, .int .i64 U] rfl ?_; intro b1 w1 hb1 hw1 hB1 V1; have hz1 := hB1.size) | (refine wpList_box_v rfl 53 _ rfl [.string N2, .int .i64 F2, .string B2, .int .i64 C2, .int .i64 U2] rfl ?_; intro b2 w2 hb2 hw2 hB2 V2; replace V1 := vblk_grow V1 hB2; have hB12 := hB1.trans (hB2.mono hz1); obtain ⟨c0, c1, c2, c3, c4⟩ := cells5 V1; obtain ⟨d0, d1, d2, d3, d4⟩ := cells5 V2) | (fail))
    go_ret
    exact ⟨by subst hl; rfl, hB12⟩
theorem len_any (a : Option Addr) (n k : Nat) (w : World) : Calls Try.prog 75 #[.slice a n k] w fun e w' => e = .returned (.int .i64 n) ∧ w' = w := by
  go_enter Try.func75, Try.ntmps75
  go_wp2
  go_ret
  exact ⟨rfl, rfl⟩
end Go.Proofs.Ytmnjmghlkiljhaa.rg
/- A heap of things in memory: which of two goes first, two swapped. -/
namespace Go.Proofs.Ytmnjmghlkiljhaa.rg
open Go.ChangeShapes Go.WideShapes Go.ChangeAt Go.RowKit
open Go.Deep Go.Joins
open Go.Proofs.Ytmnjmghlkiljhaa.ce Go.Proofs.Ytmnjmghlkiljhaa.ro
set_option linter.unusedVariables false
set_option linter.unusedSimpArgs false

theorem row_cells {w : World} {g cap : Nat} {xs : List It} (r : RowAt encIt w g cap xs) (i : Nat) (hi : i < xs.length) : w.cell? ⟨g, i * 5, none⟩ = some (.string xs[i].N) ∧ w.cell? ⟨g, i * 5 + 1, none⟩ = some (.int .i64 xs[i].F) ∧ w.cell? ⟨g, i * 5 + 2, none⟩ = some (.string xs[i].B) ∧ w.cell? ⟨g, i * 5 + 3, none⟩ = some (.int .i64 xs[i].C) ∧ w.cell? ⟨g, i * 5 + 4, none⟩ = some (.int .i64 xs[i].U) := by
  have o := r.own (lo := g) (hi := g + 1) (n := xs.length) (Nat.le_refl _) (Nat.lt_succ_self _) rfl
  have k : ∀ j (hj : j < 5), w.cell? ⟨g, i * 5 + j, none⟩ = some ((ic xs[i])[j]'(by exact hj)) := fun j hj => by
    obtain ⟨g2, e, -, h, -⟩ := o.cell i j hi hj
    cases e
    exact h
  exact ⟨k 0 (by omega), k 1 (by omega), k 2 (by omega), k 3 (by omega), k 4 (by omega)⟩
set_option maxRecDepth 100000 in
set_option maxHeartbeats 4000000 in
theorem less_any (xs : List It) (g L cap : Nat) (w : World) (r : RowAt encIt w g cap xs) (hL : L = xs.length) (hl : L ≤ 1000000) (i j : Nat) (hi : i < L) (hj : j < L) (y : Bool) (hy : Hid (earB (xs[i]'(hL ▸ hi)) (xs[j]'(hL ▸ hj)) = y)) :
    Calls Try.prog 162 #[.slice (some ⟨g, 0, none⟩) L cap, .int .i64 i, .int .i64 j] w fun e w' => e = .returned (.bool y) ∧ Below w.heap.size w w' := by
  subst hL
  have hi' : (i : Int) < (xs.length : Int) := by omega
  have hj' : (j : Int) < (xs.length : Int) := by omega
  have hi0 : (0 : Int) ≤ (i : Int) := by omega
  have hj0 : (0 : Int) ≤ (j : Int) := by omega
  obtain ⟨c0, c1, c2, c3, c4⟩ := row_cells r i hi
  obtain ⟨d0, d1, d2, d3, d4⟩ := row_cells r j hj
  obtain ⟨⟨N, F, B, C, U⟩, hx⟩ := hid_ex (xs[i])
  obtain ⟨⟨N2, F2, B2, C2, U2⟩, hx2⟩ := hid_ex (xs[j])
  rw [hx.out] at c0 c1 c2 c3 c4 hy
  rw [hx2.out] at d0 d1 d2 d3 d4 hy
  dsimp only at c0 c1 c2 c3 c4 d0 d1 d2 d3 d4
  go_enter Try.func162, Try.ntmps162
  go_upto_region 1 with (fail)
  have S1 : w.drew.cell? ⟨g, i * 5, none⟩ = some (.string N) ∧ w.drew.cell? ⟨g, i * 5 + 1, none⟩ = some (.int .i64 F) ∧ w.drew.cell? ⟨g, i * 5 + 2, none⟩ = some (.string B) ∧ w.drew.cell? ⟨g, i * 5 + 3, none⟩ = some (.int .i64 C) ∧ w.drew.cell? ⟨g, i * 5 + 4, none⟩ = some (.int .i64 U) ∧ w.drew.cell? ⟨g, j * 5, none⟩ = some (.string N2) ∧ w.drew.cell? ⟨g, j * 5 + 1, none⟩ = some (.int .i64 F2) ∧ w.drew.cell? ⟨g, j * 5 + 2, none⟩ = some (.string B2) ∧ w.drew.cell? ⟨g, j * 5 + 3, none⟩ = some (.int .i64 C2) ∧ w.drew.cell? ⟨g, j * 5 + 4, none⟩ = some (.int .i64 U2) := ⟨c0, c1, c2, c3, c4, d0, d1, d2, d3, d4⟩
  go_region_held3 (fun w' => w'.cell? ⟨g, i * 5, none⟩ = some (.string N) ∧ w'.cell? ⟨g, i * 5 + 1, none⟩ = some (.int .i64 F) ∧ w'.cell? ⟨g, i * 5 + 2, none⟩ = some (.string B) ∧ w'.cell? ⟨g, i * 5 + 3, none⟩ = some (.int .i64 C) ∧ w'.cell? ⟨g, i * 5 + 4, none⟩ = some (.int .i64 U) ∧ w'.cell? ⟨g, j * 5, none⟩ = some (.string N2) ∧ w'.cell? ⟨g, j * 5 + 1, none⟩ = some (.int .i64 F2) ∧ w'.cell? ⟨g, j * 5 + 2, none⟩ = some (.string B2) ∧ w'.cell? ⟨g, j * 5 + 3, none⟩ = some (.int .i64 C2) ∧ w'.cell? ⟨g, j * 5 + 4, none⟩ = some (.int .i64 U2)) (first | with_reducible assumption | with_reducible exact S1 | (fail)) (first | (go_at_call 164; refine (goesFirst_any N B N2 B2 F C U F2 C2 U2 y hy _).mono ?_; rintro e w3 ⟨rfl, hB3⟩; have hB13 : Below w.heap.size w w3 := (Below.refl _ _).drew.trans hB3; have S2 : w3.cell? ⟨g, i * 5, none⟩ = some (.string N) ∧ w3.cell? ⟨g, i * 5 + 1, none⟩ = some (.int .i64 F) ∧ w3.cell? ⟨g, i * 5 + 2, none⟩ = some (.string B) ∧ w3.cell? ⟨g, i * 5 + 3, none⟩ = some (.int .i64 C) ∧ w3.cell? ⟨g, i * 5 + 4, none⟩ = some (.int .i64 U) ∧ w3.cell? ⟨g, j * 5, none⟩ = some (.string N2) ∧ w3.cell? ⟨g, j * 5 + 1, none⟩ = some (.int .i64 F2) ∧ w3.cell? ⟨g, j * 5 + 2, none⟩ = some (.string B2) ∧ w3.cell? ⟨g, j * 5 + 3, none⟩ = some (.int .i64 C2) ∧ w3.cell? ⟨g, j * 5 + 4, none⟩ = some (.int .i64 U2) := (by obtain ⟨p0, p1, p2, p3, p4⟩ := row_cells (r.grow hB13) i hi; obtain ⟨q0, q1, q2, q3, q4⟩ := row_cells (r.grow hB13) j hj; rw [hx.out] at p0 p1 p2 p3 p4; rw [hx2.out] at q0 q1 q2 q3 q4; exact ⟨p0, p1, p2, p3, p4, q0, q1, q2, q3, q4⟩)) | (fail))
  go_wp2
  go_ret
  exact ⟨rfl, hB13⟩
end Go.Proofs.Ytmnjmghlkiljhaa.rg
/- A heap of things in memory: two swapped. -/
namespace Go.Proofs.Ytmnjmghlkiljhaa.rg
open Go.ChangeShapes Go.WideShapes Go.ChangeAt Go.RowKit
open Go.Deep Go.Joins
open Go.Proofs.Ytmnjmghlkiljhaa.ce Go.Proofs.Ytmnjmghlkiljhaa.ro
set_option linter.unusedVariables false
set_option linter.unusedSimpArgs false

section
variable {ops : Array Oper} {rest : List Oper} {o : Oper} {a : Act} {w : World} {Q : Exit → Act → World → Prop} {K : Act → World → Prop} {X : Prop}
theorem row_put {w : World} {g cap : Nat} {xs : List It} (r : RowAt encIt w g cap xs) (i : Nat) (hlt : i < xs.length) (c : It) : RowAt encIt (w.setCells g (i * 5) (ic c)) g cap (xs.set i c) := by
  have hc : xs.length ≤ cap := (r.own (lo := g) (hi := g + 1) (n := xs.length) (Nat.le_refl _) (Nat.lt_succ_self _) rfl).rd.cap.2.1
  have es : xs.take i ++ [c] ++ xs.drop (i + [c].length) = xs.set i c := by
    rw [List.set_eq_take_append_cons_drop, if_pos hlt]; simp
  have hw := r.write i (by omega) [c] (by simp; omega)
  rw [encIt.row_one', es] at hw
  exact hw
theorem row_there {w : World} {g cap : Nat} {xs : List It} (r : RowAt encIt w g cap xs) (i : Nat) (hlt : i < xs.length) (j : Nat) (hj : j < 5) : (w.cell? ⟨g, i * 5 + j, none⟩).isSome = true ∧ w.frozen? ⟨g, i * 5 + j, none⟩ = false := by
  have hc : xs.length ≤ cap := (r.own (lo := g) (hi := g + 1) (n := xs.length) (Nat.le_refl _) (Nat.lt_succ_self _) rfl).rd.cap.2.1
  obtain ⟨h1, h2, -⟩ := r.there
  refine ⟨h1 _ ?_, h2 _⟩
  show i * 5 + j < cap * 5
  omega
theorem step_store_ri (hgd : o.guard = none) (x y : Operand) (ho : o.op = .store 53 x y) (g cap i : Nat) (xs : List It) (c : It) (hx : a.eval x = .pointer (some ⟨g, i * 5, none⟩)) (hy : a.eval y = .agg (ic c).toArray) (r : RowAt encIt w g cap xs) (hlt : i < xs.length)
    (h : ∀ w', Only g w w' → RowAt encIt w' g cap (xs.set i c) → K (a.put o.dst undef) w') : if Region.wanted o (yielded ops a.tmps) = true then Oper.wp Try.prog o a w K Q else X := by
  have hw : Region.wanted o (yielded ops a.tmps) = true := by simp [Region.wanted, hgd]
  rw [if_pos hw]
  refine wp_store_mid 53 x y ho g (i * 5) (ic c).toArray hx hy (fun j hj => row_there r i hlt j (by simpa [ic] using hj)) (by rw [sizeIt]; simp [ic]) (all_oneCell_toArray (encIt.one c)) (h _ (only_setCells _ _ _ _) (by simpa using row_put r i hlt c))
end
theorem swap_only {g : Nat} {w x y : World} (h : Only g w.drew x) (k : Only g x y) : Only g w y :=
  ⟨k.1.trans h.1, fun q hq => (k.2.1 q hq).trans (h.2.1 q hq), fun B hB => ((Below.refl _ _).drew.trans (h.2.2 B hB)).trans (k.2.2 B hB)⟩
set_option maxRecDepth 100000 in
set_option maxHeartbeats 4000000 in
theorem swap_any (xs : List It) (g L cap : Nat) (w : World) (r : RowAt encIt w g cap xs) (hL : L = xs.length) (hl : L ≤ 1000000) (i j : Nat) (hi : i < L) (hj : j < L) :
    Calls Try.prog 163 #[.slice (some ⟨g, 0, none⟩) L cap, .int .i64 i, .int .i64 j] w fun e w' => (∃ u, e = .returned u) ∧ RowAt encIt w' g cap (swp xs i j) ∧ Only g w w' := by
  subst hL
  have hi' : (i : Int) < (xs.length : Int) := by omega
  have hj' : (j : Int) < (xs.length : Int) := by omega
  obtain ⟨c0, c1, c2, c3, c4⟩ := row_cells r i hi
  obtain ⟨d0, d1, d2, d3, d4⟩ := row_cells r j hj
  have hsw : Hid (swp xs i j = (xs.set i xs[j]).set j xs[i]) := swp_is hi hj
  obtain ⟨⟨N, F, B, C, U⟩, hx⟩ := hid_ex (xs[i])
  obtain ⟨⟨N2, F2, B2, C2, U2⟩, hx2⟩ := hid_ex (xs[j])
  rw [hx.out] at c0 c1 c2 c3 c4
  rw [hx2.out] at d0 d1 d2 d3 d4
  dsimp only at c0 c1 c2 c3 c4 d0 d1 d2 d3 d4
  go_enter Try.func163, Try.ntmps163
  go_upto_region 0 with (fail)
  (try simp only [Act.put])
  (try simp only [List.setIfInBounds_toArray, List.set_cons_zero, List.set_cons_succ])
  refine wp_region_held_drew (S := fun w' => True) (by kernel_rfl) (trivial) (fun hHeld => ?_)
  refine wpAnyH_take (i := 0) (oi := { dst := some 6, op := Op.move (Operand.tmp 0), type := 102, pos := "l14_age.go:12", after := #[], guard := none }) (v := ?_) rfl (by kernel_rfl) (by kernel_rfl) (by kernel_rfl) (fun _ _ _ h => h) (Or.inl ⟨by rfl, ?_⟩) (by assumption) ?_
  rotate_left 1
  · intro w' hSw; (try dsimp only at hSw); go_simp; (try with_reducible rfl)
  (try simp only [Act.put, List.setIfInBounds_toArray, List.set_cons_zero, List.set_cons_succ])
  refine wpAnyH_take (i := 1) (oi := { dst := some 7, op := Op.move (Operand.tmp 1), type := 3, pos := "l14_age.go:12", after := #[], guard := none }) (v := ?_) rfl (by kernel_rfl) (by kernel_rfl) (by kernel_rfl) (fun _ _ _ h => h) (Or.inl ⟨by rfl, ?_⟩) (by assumption) ?_
  rotate_left 1
  · intro w' hSw; (try dsimp only at hSw); go_simp; (try with_reducible rfl)
  (try simp only [Act.put, List.setIfInBounds_toArray, List.set_cons_zero, List.set_cons_succ])
  refine wpAnyH_take (i := 2) (oi := { dst := some 8, op := Op.move (Operand.tmp 0), type := 102, pos := "l14_age.go:12", after := #[{ on := 13, ground := Ground.gcOnly Departure.lateStores }], guard := none }) (v := ?_) rfl (by kernel_rfl) (by kernel_rfl) (by kernel_rfl) (fun _ _ _ h => h) (Or.inl ⟨by rfl, ?_⟩) (by assumption) ?_
  rotate_left 1
  · intro w' hSw; (try dsimp only at hSw); go_simp; (try with_reducible rfl)
  (try simp only [Act.put, List.setIfInBounds_toArray, List.set_cons_zero, List.set_cons_succ])
  refine wpAnyH_take (i := 3) (oi := { dst := some 9, op := Op.move (Operand.tmp 2), type := 3, pos := "l14_age.go:12", after := #[{ on := 13, ground := Ground.gcOnly Departure.lateStores }], guard := none }) (v := ?_) rfl (by kernel_rfl) (by kernel_rfl) (by kernel_rfl) (fun _ _ _ h => h) (Or.inl ⟨by rfl, ?_⟩) (by assumption) ?_
  rotate_left 1
  · intro w' hSw; (try dsimp only at hSw); go_simp; (try with_reducible rfl)
  (try simp only [Act.put, List.setIfInBounds_toArray, List.set_cons_zero, List.set_cons_succ])
  refine wpAnyH_take (i := 4) (oi := { dst := some 10, op := Op.move (Operand.tmp 0), type := 102, pos := "l14_age.go:12", after := #[], guard := none }) (v := ?_) rfl (by kernel_rfl) (by kernel_rfl) (by kernel_rfl) (fun _ _ _ h => h) (Or.inl ⟨by rfl, ?_⟩) (by assumption) ?_
  rotate_left 1
  · intro w' hSw; (try dsimp only at hSw); go_simp; (try with_reducible rfl)
  (try simp only [Act.put, List.setIfInBounds_toArray, List.set_cons_zero, List.set_cons_succ])
  refine wpAnyH_take (i := 5) (oi := { dst := some 11, op := Op.move (Operand.tmp 2), type := 3, pos := "l14_age.go:12", after := #[], guard := none }) (v := ?_) rfl (by kernel_rfl) (by kernel_rfl) (by kernel_rfl) (fun _ _ _ h => h) (Or.inl ⟨by rfl, ?_⟩) (by assumption) ?_
  rotate_left 1
  · intro w' hSw; (try dsimp only at hSw); go_simp; (try with_reducible rfl)
  (try simp only [Act.put, List.setIfInBounds_toArray, List.set_cons_zero, List.set_cons_succ])
  refine wpAnyH_take (i := 6) (oi := { dst := some 12, op := Op.indexAddr 102 (Operand.tmp 10) (Operand.tmp 11), type := 0, pos := "l14_age.go:12", after := #[{ on := 4, ground := Ground.data }, { on := 5, ground := Ground.data }], guard := none }) (v := ?_) rfl (by kernel_rfl) (by kernel_rfl) (by kernel_rfl) (fun _ _ _ h => h) (Or.inl ⟨by rfl, ?_⟩) (by assumption) ?_
  rotate_left 1
  · intro w' hSw; (try dsimp only at hSw); go_simp; (try with_reducible rfl)
  (try simp only [Act.put, List.setIfInBounds_toArray, List.set_cons_zero, List.set_cons_succ])
  refine wpAnyH_take (i := 8) (oi := { dst := some 14, op := Op.move (Operand.tmp 0), type := 102, pos := "l14_age.go:12", after := #[], guard := none }) (v := ?_) rfl (by kernel_rfl) (by kernel_rfl) (by kernel_rfl) (fun _ _ _ h => h) (Or.inl ⟨by rfl, ?_⟩) (by assumption) ?_
  rotate_left 1
  · intro w' hSw; (try dsimp only at hSw); go_simp; (try with_reducible rfl)
  (try simp only [Act.put, List.setIfInBounds_toArray, List.set_cons_zero, List.set_cons_succ])
  refine wpAnyH_take (i := 9) (oi := { dst := some 15, op := Op.move (Operand.tmp 1), type := 3, pos := "l14_age.go:12", after := #[], guard := none }) (v := ?_) rfl (by kernel_rfl) (by kernel_rfl) (by kernel_rfl) (fun _ _ _ h => h) (Or.inl ⟨by rfl, ?_⟩) (by assumption) ?_
  rotate_left 1
  · intro w' hSw; (try dsimp only at hSw); go_simp; (try with_reducible rfl)
  (try simp only [Act.put, List.setIfInBounds_toArray, List.set_cons_zero, List.set_cons_succ])
  refine wpAnyH_take (i := 10) (oi := { dst := some 16, op := Op.indexAddr 102 (Operand.tmp 14) (Operand.tmp 15), type := 0, pos := "l14_age.go:12", after := #[{ on := 8, ground := Ground.data }, { on := 9, ground := Ground.data }], guard := none }) (v := ?_) rfl (by kernel_rfl) (by kernel_rfl) (by kernel_rfl) (fun _ _ _ h => h) (Or.inl ⟨by rfl, ?_⟩) (by assumption) ?_
  rotate_left 1
  · intro w' hSw; (try dsimp only at hSw); go_simp; (try with_reducible rfl)
  (try simp only [Act.put, List.setIfInBounds_toArray, List.set_cons_zero, List.set_cons_succ])
  refine wpAnyH_ready (rs := [7, 11]) (by kernel_rfl) (by simp) ?_
  refine AllReadyH.cons (o := { dst := some 13, op := Op.load 53 (Operand.tmp 12), type := 53, pos := "l14_age.go:12", after := #[{ on := 6, ground := Ground.data }], guard := none }) rfl (fun KC hKC => ?_) (AllReadyH.cons (o := { dst := some 17, op := Op.load 53 (Operand.tmp 16), type := 53, pos := "l14_age.go:12", after := #[{ on := 10, ground := Ground.data }], guard := none }) rfl (fun KC hKC => ?_) AllReadyH.nil)
  · go_simp
    refine hKC.out _ _ (trivial) (fun hHeld2 => ?_)
    clear hKC KC hHeld
    have hHeld := hHeld2
    clear hHeld2
    (try simp only [Act.put, List.setIfInBounds_toArray, List.set_cons_zero, List.set_cons_succ])
    refine wpAnyH_ready (rs := [11]) (by kernel_rfl) (by simp) ?_
    refine AllReadyH.cons (o := { dst := some 17, op := Op.load 53 (Operand.tmp 16), type := 53, pos := "l14_age.go:12", after := #[{ on := 10, ground := Ground.data }], guard := none }) rfl (fun KC hKC => ?_) AllReadyH.nil
    go_simp
    refine hKC.out _ _ (trivial) (fun hHeld2 => ?_)
    clear hKC KC hHeld
    have hHeld := hHeld2
    clear hHeld2
    (try simp only [Act.put, List.setIfInBounds_toArray, List.set_cons_zero, List.set_cons_succ])
    refine wpAnyH_take (i := 12) (oi := { dst := some 18, op := Op.indexAddr 102 (Operand.tmp 6) (Operand.tmp 7), type := 0, pos := "l14_age.go:12", after := #[{ on := 0, ground := Ground.data }, { on := 1, ground := Ground.data }, { on := 0, ground := Ground.phase }, { on := 1, ground := Ground.phase }, { on := 2, ground := Ground.textOnly Departure.lateStores }, { on := 3, ground := Ground.textOnly Departure.lateStores }, { on := 4, ground := Ground.phase }, { on := 5, ground := Ground.phase }, { on := 6, ground := Ground.phase }, { on := 7, ground := Ground.phase }, { on := 8, ground := Ground.textOnly Departure.lateStores }, { on := 9, ground := Ground.textOnly Departure.lateStores }, { on := 10, ground := Ground.textOnly Departure.lateStoresUnsure }, { on := 11, ground := Ground.phase }], guard := none }) (v := ?_) rfl (by kernel_rfl) (by kernel_rfl) (by kernel_rfl) (fun _ _ _ h => h) (Or.inl ⟨by rfl, ?_⟩) (by assumption) ?_
    rotate_left 1
    · intro w' hSw; (try dsimp only at hSw); go_simp; (try with_reducible rfl)
    (try simp only [Act.put, List.setIfInBounds_toArray, List.set_cons_zero, List.set_cons_succ])
    refine wpAnyH_ready (rs := [13]) (by kernel_rfl) (by simp) ?_
    refine AllReadyH.cons (o := { dst := none, op := Op.store 53 (Operand.tmp 18) (Operand.tmp 13), type := 0, pos := "l14_age.go:12", after := #[{ on := 12, ground := Ground.data }, { on := 7, ground := Ground.data }, { on := 0, ground := Ground.phase }, { on := 1, ground := Ground.phase }, { on := 2, ground := Ground.textOnly Departure.lateStores }, { on := 3, ground := Ground.textOnly Departure.lateStores }, { on := 4, ground := Ground.phase }, { on := 5, ground := Ground.phase }, { on := 6, ground := Ground.phase }, { on := 7, ground := Ground.phase }, { on := 8, ground := Ground.textOnly Departure.lateStores }, { on := 9, ground := Ground.textOnly Departure.lateStores }, { on := 10, ground := Ground.textOnly Departure.lateStoresUnsure }, { on := 11, ground := Ground.phase }], guard := none }) rfl (fun KC hKC => ?_) AllReadyH.nil
    refine step_store_ri rfl _ _ rfl g cap i xs ⟨N2, F2, B2, C2, U2⟩ rfl rfl (r.grow (Below.refl _ _).drew) hi ?_
    intro w1 hO1 r1
    refine hKC.out _ _ (trivial) (fun hHeld2 => ?_)
    clear hKC KC hHeld
    have hHeld := hHeld2
    clear hHeld2
    (try simp only [Act.put])
    refine wpAnyH_take (i := 14) (oi := { dst := some 19, op := Op.indexAddr 102 (Operand.tmp 8) (Operand.tmp 9), type := 0, pos := "l14_age.go:12", after := #[{ on := 2, ground := Ground.data }, { on := 3, ground := Ground.data }, { on := 0, ground := Ground.phase }, { on := 1, ground := Ground.phase }, { on := 2, ground := Ground.phase }, { on := 3, ground := Ground.phase }, { on := 4, ground := Ground.phase }, { on := 5, ground := Ground.phase }, { on := 6, ground := Ground.phase }, { on := 7, ground := Ground.phase }, { on := 8, ground := Ground.phase }, { on := 9, ground := Ground.phase }, { on := 10, ground := Ground.phase }, { on := 11, ground := Ground.phase }, { on := 12, ground := Ground.phase }, { on := 13, ground := Ground.phase }], guard := none }) (v := ?_) rfl (by kernel_rfl) (by kernel_rfl) (by kernel_rfl) (fun _ _ _ h => h) (Or.inl ⟨by rfl, ?_⟩) (by assumption) ?_
    rotate_left 1
    · intro w' hSw; (try dsimp only at hSw); go_simp; (try with_reducible rfl)
    (try simp only [Act.put, List.setIfInBounds_toArray, List.set_cons_zero, List.set_cons_succ])
    refine wpAnyH_ready (rs := [15]) (by kernel_rfl) (by simp) ?_
    refine AllReadyH.cons (o := { dst := none, op := Op.store 53 (Operand.tmp 19) (Operand.tmp 17), type := 0, pos := "l14_age.go:12", after := #[{ on := 14, ground := Ground.data }, { on := 11, ground := Ground.data }, { on := 13, ground := Ground.chain }, { on := 0, ground := Ground.phase }, { on := 1, ground := Ground.phase }, { on := 2, ground := Ground.phase }, { on := 3, ground := Ground.phase }, { on := 4, ground := Ground.phase }, { on := 5, ground := Ground.phase }, { on := 6, ground := Ground.phase }, { on := 7, ground := Ground.phase }, { on := 8, ground := Ground.phase }, { on := 9, ground := Ground.phase }, { on := 10, ground := Ground.phase }, { on := 11, ground := Ground.phase }, { on := 12, ground := Ground.phase }, { on := 13, ground := Ground.phase }], guard := none }) rfl (fun KC hKC => ?_) AllReadyH.nil
    refine step_store_ri rfl _ _ rfl g cap j _ ⟨N, F, B, C, U⟩ rfl rfl r1 (by rw [List.length_set]; exact hj) ?_
    intro w2 hO2 r2
    refine hKC.out _ _ (trivial) (fun hHeld2 => ?_)
    clear hKC KC hHeld
    have hHeld := hHeld2
    clear hHeld2
    (try simp only [Act.put])
    refine wpAnyH_done (by kernel_rfl) ?_ _
    first | go_end0 | ((try simp only [Exit.inBlock, Exit.then]); refine bodyPost_ret (results_none rfl _ _ _) rfl ?_)
    exact ⟨⟨_, rfl⟩, by rw [hsw.out, hx.out, hx2.out]; exact r2, swap_only hO1 hO2⟩
  go_simp
  refine hKC.out _ _ (trivial) (fun hHeld2 => ?_)
  clear hKC KC hHeld
  have hHeld := hHeld2
  clear hHeld2
  (try simp only [Act.put, List.setIfInBounds_toArray, List.set_cons_zero, List.set_cons_succ])
  refine wpAnyH_ready (rs := [7]) (by kernel_rfl) (by simp) ?_
  refine AllReadyH.cons (o := { dst := some 13, op := Op.load 53 (Operand.tmp 12), type := 53, pos := "l14_age.go:12", after := #[{ on := 6, ground := Ground.data }], guard := none }) rfl (fun KC hKC => ?_) AllReadyH.nil
  go_simp
  refine hKC.out _ _ (trivial) (fun hHeld2 => ?_)
  clear hKC KC hHeld
  have hHeld := hHeld2
  clear hHeld2
  (try simp only [Act.put, List.setIfInBounds_toArray, List.set_cons_zero, List.set_cons_succ])
  refine wpAnyH_take (i := 12) (oi := { dst := some 18, op := Op.indexAddr 102 (Operand.tmp 6) (Operand.tmp 7), type := 0, pos := "l14_age.go:12", after := #[{ on := 0, ground := Ground.data }, { on := 1, ground := Ground.data }, { on := 0, ground := Ground.phase }, { on := 1, ground := Ground.phase }, { on := 2, ground := Ground.textOnly Departure.lateStores }, { on := 3, ground := Ground.textOnly Departure.lateStores }, { on := 4, ground := Ground.phase }, { on := 5, ground := Ground.phase }, { on := 6, ground := Ground.phase }, { on := 7, ground := Ground.phase }, { on := 8, ground := Ground.textOnly Departure.lateStores }, { on := 9, ground := Ground.textOnly Departure.lateStores }, { on := 10, ground := Ground.textOnly Departure.lateStoresUnsure }, { on := 11, ground := Ground.phase }], guard := none }) (v := ?_) rfl (by kernel_rfl) (by kernel_rfl) (by kernel_rfl) (fun _ _ _ h => h) (Or.inl ⟨by rfl, ?_⟩) (by assumption) ?_
  rotate_left 1
  · intro w' hSw; (try dsimp only at hSw); go_simp; (try with_reducible rfl)
  (try simp only [Act.put, List.setIfInBounds_toArray, List.set_cons_zero, List.set_cons_succ])
  refine wpAnyH_ready (rs := [13]) (by kernel_rfl) (by simp) ?_
  refine AllReadyH.cons (o := { dst := none, op := Op.store 53 (Operand.tmp 18) (Operand.tmp 13), type := 0, pos := "l14_age.go:12", after := #[{ on := 12, ground := Ground.data }, { on := 7, ground := Ground.data }, { on := 0, ground := Ground.phase }, { on := 1, ground := Ground.phase }, { on := 2, ground := Ground.textOnly Departure.lateStores }, { on := 3, ground := Ground.textOnly Departure.lateStores }, { on := 4, ground := Ground.phase }, { on := 5, ground := Ground.phase }, { on := 6, ground := Ground.phase }, { on := 7, ground := Ground.phase }, { on := 8, ground := Ground.textOnly Departure.lateStores }, { on := 9, ground := Ground.textOnly Departure.lateStores }, { on := 10, ground := Ground.textOnly Departure.lateStoresUnsure }, { on := 11, ground := Ground.phase }], guard := none }) rfl (fun KC hKC => ?_) AllReadyH.nil
  refine step_store_ri rfl _ _ rfl g cap i xs ⟨N2, F2, B2, C2, U2⟩ rfl rfl (r.grow (Below.refl _ _).drew) hi ?_
  intro w1 hO1 r1
  refine hKC.out _ _ (trivial) (fun hHeld2 => ?_)
  clear hKC KC hHeld
  have hHeld := hHeld2
  clear hHeld2
  (try simp only [Act.put])
  refine wpAnyH_take (i := 14) (oi := { dst := some 19, op := Op.indexAddr 102 (Operand.tmp 8) (Operand.tmp 9), type := 0, pos := "l14_age.go:12", after := #[{ on := 2, ground := Ground.data }, { on := 3, ground := Ground.data }, { on := 0, ground := Ground.phase }, { on := 1, ground := Ground.phase }, { on := 2, ground := Ground.phase }, { on := 3, ground := Ground.phase }, { on := 4, ground := Ground.phase }, { on := 5, ground := Ground.phase }, { on := 6, ground := Ground.phase }, { on := 7, ground := Ground.phase }, { on := 8, ground := Ground.phase }, { on := 9, ground := Ground.phase }, { on := 10, ground := Ground.phase }, { on := 11, ground := Ground.phase }, { on := 12, ground := Ground.phase }, { on := 13, ground := Ground.phase }], guard := none }) (v := ?_) rfl (by kernel_rfl) (by kernel_rfl) (by kernel_rfl) (fun _ _ _ h => h) (Or.inl ⟨by rfl, ?_⟩) (by assumption) ?_
  rotate_left 1
  · intro w' hSw; (try dsimp only at hSw); go_simp; (try with_reducible rfl)
  (try simp only [Act.put, List.setIfInBounds_toArray, List.set_cons_zero, List.set_cons_succ])
  refine wpAnyH_ready (rs := [15]) (by kernel_rfl) (by simp) ?_
  refine AllReadyH.cons (o := { dst := none, op := Op.store 53 (Operand.tmp 19) (Operand.tmp 17), type := 0, pos := "l14_age.go:12", after := #[{ on := 14, ground := Ground.data }, { on := 11, ground := Ground.data }, { on := 13, ground := Ground.chain }, { on := 0, ground := Ground.phase }, { on := 1, ground := Ground.phase }, { on := 2, ground := Ground.phase }, { on := 3, ground := Ground.phase }, { on := 4, ground := Ground.phase }, { on := 5, ground := Ground.phase }, { on := 6, ground := Ground.phase }, { on := 7, ground := Ground.phase }, { on := 8, ground := Ground.phase }, { on := 9, ground := Ground.phase }, { on := 10, ground := Ground.phase }, { on := 11, ground := Ground.phase }, { on := 12, ground := Ground.phase }, { on := 13, ground := Ground.phase }], guard := none }) rfl (fun KC hKC => ?_) AllReadyH.nil
  refine step_store_ri rfl _ _ rfl g cap j _ ⟨N, F, B, C, U⟩ rfl rfl r1 (by rw [List.length_set]; exact hj) ?_
  intro w2 hO2 r2
  refine hKC.out _ _ (trivial) (fun hHeld2 => ?_)
  clear hKC KC hHeld
  have hHeld := hHeld2
  clear hHeld2
  (try simp only [Act.put])
  refine wpAnyH_done (by kernel_rfl) ?_ _
  first | go_end0 | ((try simp only [Exit.inBlock, Exit.then]); refine bodyPost_ret (results_none rfl _ _ _) rfl ?_)
  exact ⟨⟨_, rfl⟩, by rw [hsw.out, hx.out, hx2.out]; exact r2, swap_only hO1 hO2⟩
end Go.Proofs.Ytmnjmghlkiljhaa.rg
/- A heap of things in memory: the library's up. -/
namespace Go.Proofs.Ytmnjmghlkiljhaa.rg
open Go.ChangeShapes Go.WideShapes Go.ChangeAt Go.RowKit
open Go.Deep Go.Joins
open Go.Proofs.Ytmnjmghlkiljhaa.ce Go.Proofs.Ytmnjmghlkiljhaa.ro
set_option linter.unusedVariables false
set_option linter.unusedSimpArgs false

/-- nothing that was there is turned but the block g -/
structure Ob (g : Nat) (w w' : World) : Prop where
  os : w'.os = w.os
  tape : w'.tape = w.tape
  output : w'.output = w.output
  size : w.heap.size ≤ w'.heap.size
  keep : ∀ k, k < w.heap.size → k ≠ g → w'.heap[k]? = w.heap[k]?
theorem Ob.refl (g : Nat) (w : World) : Ob g w w := ⟨rfl, rfl, rfl, Nat.le_refl _, fun _ _ _ => rfl⟩
theorem Ob.trans {g : Nat} {x y z : World} (h : Ob g x y) (k : Ob g y z) : Ob g x z :=
  ⟨k.os.trans h.os, k.tape.trans h.tape, k.output.trans h.output, Nat.le_trans h.size k.size, fun j h1 h2 => (k.keep j (Nat.lt_of_lt_of_le h1 h.size) h2).trans (h.keep j h1 h2)⟩
theorem Ob.of_below {g : Nat} {w w' : World} (h : Below w.heap.size w w') : Ob g w w' := ⟨h.os, h.tape, h.output, h.size, fun k hk _ => h.block k hk⟩
theorem Ob.of_only {g : Nat} {w w' : World} (h : Only g w w') : Ob g w w' := by
  have h0 := h.2.2 0 (Nat.zero_le _)
  exact ⟨h0.os, h0.tape, h0.output, h0.size, fun k _ hn => h.2.1 k hn⟩
theorem Ob.below {g B : Nat} {w w' : World} (h : Ob g w w') (h1 : B ≤ g) (h2 : B ≤ w.heap.size) : Below B w w' := ⟨h.os, h.tape, h.output, h.size, fun k hk => h.keep k (by omega) (by omega)⟩
/-- a heap in memory: the variable b, the row g -/
structure Hq (w : World) (b g cap : Nat) (xs : List It) : Prop where
  V : VBlk w b 102 [.slice (some ⟨g, 0, none⟩) xs.length cap]
  r : RowAt encIt w g cap xs
  l : xs.length ≤ 1000000
theorem Hq.ne {w : World} {b g cap : Nat} {xs : List It} (h : Hq w b g cap xs) : b ≠ g := by
  intro e
  subst e
  obtain ⟨cur, hb, -⟩ := h.r.blk
  have := h.V.symm.trans hb
  simp at this
  exact absurd this.2 (by decide)
theorem Hq.below {w w' : World} {b g cap : Nat} {xs : List It} (h : Hq w b g cap xs) (hB : Below w.heap.size w w') : Hq w' b g cap xs := ⟨vblk_grow h.V hB, h.r.grow hB, h.l⟩
theorem Hq.ob {w w' : World} {b g cap : Nat} {xs ys : List It} (h : Hq w b g cap xs) (hO : Ob g w w') (r : RowAt encIt w' g cap ys) (hl : ys.length = xs.length) : Hq w' b g cap ys :=
  ⟨by rw [hl]; exact h.V.of (hO.keep b h.V.lt h.ne), r, by rw [hl]; exact h.l⟩
theorem meth_of (name : String) (F : FuncId) (b g L cap : Nat) (w : World) (V : VBlk w b 102 [.slice (some ⟨g, 0, none⟩) L cap])
    (h : ∃ (T : TypeInfo) (m : Method), (∀ w, (typeInfo 106).run Try.prog w = .ok T w) ∧ T.methods.find? (·.name == name) = some m ∧ m.path = #[] ∧ m.func = some (F, false)) : (method 287 106 (.pointer (some ⟨b, 0, none⟩)) name).run Try.prog w = .ok (F, .slice (some ⟨g, 0, none⟩) L cap) w := by
  have c := V.cell 0 (by simp)
  have hl : (loadVar 102 ⟨b, 0, none⟩).run Try.prog w = .ok (.slice (some ⟨g, 0, none⟩) L cap) w := by go_simp
  obtain ⟨T, m, hT, hm, hp, hf⟩ := h
  have hu : ∀ w, (underlying 106).run Try.prog w = .ok (.pointer 102) w := fun w => by kernel_rfl
  have hw : ∀ (s : String) (w : World), (Builtin.ssaWrapNilChk_ #[106] 106 #[.pointer (some ⟨b, 0, none⟩), strVal "", strVal s]).run Try.prog w = .ok (.pointer (some ⟨b, 0, none⟩)) w := fun s w => rfl
  unfold method
  simp [Sem.run_bind, hT, hm, hp, hf, follow, receiverAt, Place.get, hu, hw, asAddr, hl, Result.andThen]
set_option maxRecDepth 100000 in
theorem less_of (b g L cap : Nat) (w : World) (V : VBlk w b 102 [.slice (some ⟨g, 0, none⟩) L cap]) : (method 287 106 (.pointer (some ⟨b, 0, none⟩)) "Less").run Try.prog w = .ok (162, .slice (some ⟨g, 0, none⟩) L cap) w :=
  meth_of "Less" _ b g L cap w V ⟨_, _, fun w => rfl, rfl, by kernel_rfl, by kernel_rfl⟩
set_option maxRecDepth 100000 in
theorem swap_of (b g L cap : Nat) (w : World) (V : VBlk w b 102 [.slice (some ⟨g, 0, none⟩) L cap]) : (method 287 106 (.pointer (some ⟨b, 0, none⟩)) "Swap").run Try.prog w = .ok (163, .slice (some ⟨g, 0, none⟩) L cap) w :=
  meth_of "Swap" _ b g L cap w V ⟨_, _, fun w => rfl, rfl, by kernel_rfl, by kernel_rfl⟩
set_option maxRecDepth 100000 in
theorem lenq_of (b g L cap : Nat) (w : World) (V : VBlk w b 102 [.slice (some ⟨g, 0, none⟩) L cap]) : (method 287 106 (.pointer (some ⟨b, 0, none⟩)) "Len").run Try.prog w = .ok (75, .slice (some ⟨g, 0, none⟩) L cap) w :=
  meth_of "Len" _ b g L cap w V ⟨_, _, fun w => rfl, rfl, by kernel_rfl, by kernel_rfl⟩
set_option maxRecDepth 100000 in
theorem pop_of (b : Nat) (w : World) : (method 287 106 (.pointer (some ⟨b, 0, none⟩)) "Pop").run Try.prog w = .ok (165, .pointer (some ⟨b, 0, none⟩)) w := by kernel_rfl
set_option maxRecDepth 100000 in
theorem push_of (b : Nat) (w : World) : (method 287 106 (.pointer (some ⟨b, 0, none⟩)) "Push").run Try.prog w = .ok (166, .pointer (some ⟨b, 0, none⟩)) w := by kernel_rfl
set_option maxRecDepth 100000 in
set_option maxHeartbeats 4000000 in
theorem up_any (n b g cap : Nat) (xs : List It) (hn : xs.length = n) (j0 : Nat) (hj0 : j0 < n) (hu : Up n j0 xs) (w : World) (H : Hq w b g cap xs) :
    Calls Try.prog 141 #[.iface 106 (.pointer (some ⟨b, 0, none⟩)), .int .i64 j0] w fun e w' => (∃ u, e = .returned u) ∧ ∃ ys, ys.Perm xs ∧ Hp n ys ∧ Hq w' b g cap ys ∧ Ob g w w' := by
  go_enter Try.func141, Try.ntmps141
  go_wp2_with (fail)
  go_loopw [1] (fun v wr => ∃ (j : Nat) (ys : List It), v = .int .i64 j ∧ j < n ∧ ys.length = n ∧ Hid (Up n j ys) ∧ Hid (ys.Perm xs) ∧ Hid (Hq wr b g cap ys) ∧ Hid (Ob g w wr)) (fun v _ => (intOf v).toNat)
  case atStart => exact ⟨j0, xs, rfl, hj0, hn, hu, List.Perm.refl _, H, Ob.refl _ _⟩
  case round =>
    obtain ⟨j, ys, rfl, hj, hyl, HU, HP, HQ, HO⟩ := hrel
    have hjl : j < ys.length := by omega
    have hcf : ∀ (args : Array Value) (w : World), (callFunc 162 args).run Try.prog w = .ok (.enter 162 args) w := fun args w => by kernel_rfl
    have hcs : ∀ (args : Array Value) (w : World), (callFunc 163 args).run Try.prog w = .ok (.enter 163 args) w := fun args w => by kernel_rfl
    by_cases h0 : j = 0
    · subst h0
      go_wp2
      go_end0
      exact ⟨⟨_, rfl⟩, ys, HP.out, up_end HU.out hjl (.inl rfl), HQ.out, HO.out⟩
    · have hp : par j < j := by unfold par; omega
      have hV := HQ.out.V
      have hw1 : wrap64 ((wrap64 ((j : Int) - 1)).tdiv 2) = ((par j : Nat) : Int) := by
        have := HQ.out.l
        rw [IntWalk.wrap64_in ((j : Int) - 1) ⟨by omega, by omega⟩, Int.tdiv_eq_ediv_of_nonneg (by omega), IntWalk.wrap64_in _ ⟨by omega, by omega⟩]
        unfold par
        omega
      have hd : ((j : Int) - 1) / 2 = ((par j : Nat) : Int) := by unfold par; omega
      have hne : (((par j : Nat) : Int) == (j : Int)) = false := by simp; omega
      have hnl : n ≤ 1000000 := by have := HQ.out.l; omega
      have hM := less_of b g _ cap wr hV
      obtain ⟨y, hy⟩ := hid_ex (earB ys[j] (ys[par j]'(by omega)))
      cases y with
      | false =>
        go_wp2_with (first | (go_at_call 162; rw [hd]; refine (less_any ys g n cap wr HQ.out.r hyl.symm hnl j (par j) hj (by omega) false hy).mono ?_; rintro e w3 ⟨rfl, hB3⟩) | (fail))
        go_end0
        exact ⟨⟨_, rfl⟩, ys, HP.out, up_end HU.out hjl (.inr fun q => by have := earB_iff.2 q; rw [hy.out] at this; cases this), HQ.out.below hB3, HO.out.trans (Ob.of_below hB3)⟩
      | true =>
        go_wp2_with (first | (go_at_call 162; rw [hd]; refine (less_any ys g n cap wr HQ.out.r hyl.symm hnl j (par j) hj (by omega) true hy).mono ?_; rintro e w3 ⟨rfl, hB3⟩; have Q3 := HQ.out.below hB3; have hS := swap_of b g _ cap w3 Q3.V) | (go_at_call 163; (try rw [hd]); refine (swap_any ys g n cap w3 Q3.r hyl.symm hnl (par j) j (by omega) hj).mono ?_; rintro e w4 ⟨⟨u4, rfl⟩, r4, hO4⟩; have O4 := Ob.of_only hO4; have Q4 := Q3.ob O4 r4 (swp_len _ _ _)) | (fail))
        go_roundw
        case rel => exact ⟨par j, swp ys (par j) j, rfl, by omega, by rw [swp_len]; exact hyl, up_step HU.out hjl (by omega) hj (by omega) (earB_iff.1 hy.out), (swp_perm _ _ _).trans HP.out, Q4, (HO.out.trans (Ob.of_below hB3)).trans O4⟩
        case measure => simp [intOf]; omega
end Go.Proofs.Ytmnjmghlkiljhaa.rg
/- A heap of things in memory: the library's down. -/
namespace Go.Proofs.Ytmnjmghlkiljhaa.rg
open Go.ChangeShapes Go.WideShapes Go.ChangeAt Go.RowKit
open Go.Deep Go.Joins
open Go.Proofs.Ytmnjmghlkiljhaa.ce Go.Proofs.Ytmnjmghlkiljhaa.ro
set_option linter.unusedVariables false
set_option linter.unusedSimpArgs false

/-- the sooner of the two below is no sooner -/
theorem dn_stop {n i j : Nat} {l : List It} (u : Dn n i l) (hn : n ≤ l.length) (hjn : j < n) (hpj : par j = i) (hj0 : 0 < j) (hs : ∀ k (h : k < l.length), 0 < k → k < n → par k = i → Nl (l[j]'(by omega)) l[k]) (h : Nl (l[i]'(by unfold par at hpj; omega)) (l[j]'(by omega))) : Hp n l :=
  dn_end u fun k hk h0 hkn e => by
    have := nl_trans h (hs k hk h0 hkn e)
    simp only [e]
    exact this
theorem dn_none {n i : Nat} {l : List It} (u : Dn n i l) (h : n ≤ 2 * i + 1) : Hp n l :=
  dn_end u fun k hk h0 hkn e => by rcases below_two h0 e with rfl | rfl <;> omega
/-- beyond the first n nothing is turned -/
def Bey (n : Nat) (xs ys : List It) : Prop := ∀ k, n ≤ k → ys[k]? = xs[k]?
theorem bey_swp {n : Nat} {xs ys : List It} (h : Bey n xs ys) {i j : Nat} (hi : i < n) (hj : j < n) (hn : n ≤ ys.length) : Bey n xs (swp ys i j) := fun k hk => by
  rw [← h k hk, swp_is (by omega) (by omega), List.getElem?_set_ne (by omega), List.getElem?_set_ne (by omega)]
set_option maxRecDepth 100000 in
set_option maxHeartbeats 8000000 in
theorem down_any (n L b g cap : Nat) (xs : List It) (hL : xs.length = L) (hn : n ≤ L) (hu : Dn n 0 xs) (w : World) (H : Hq w b g cap xs) :
    Calls Try.prog 121 #[.iface 106 (.pointer (some ⟨b, 0, none⟩)), .int .i64 0, .int .i64 n] w fun e w' => (∃ u, e = .returned u) ∧ ∃ ys, ys.Perm xs ∧ Hp n ys ∧ Bey n xs ys ∧ Hq w' b g cap ys ∧ Ob g w w' := by
  have hcf : ∀ (args : Array Value) (w : World), (callFunc 162 args).run Try.prog w = .ok (.enter 162 args) w := fun args w => by kernel_rfl
  have hcs : ∀ (args : Array Value) (w : World), (callFunc 163 args).run Try.prog w = .ok (.enter 163 args) w := fun args w => by kernel_rfl
  have hLl : L ≤ 1000000 := by have := H.l; omega
  go_enter Try.func121, Try.ntmps121
  go_wp2_with (fail)
  go_loopw [7] (fun v wr => ∃ (i : Nat) (ys : List It), v = .int .i64 i ∧ i ≤ n ∧ ys.length = L ∧ Hid (Dn n i ys) ∧ Hid (ys.Perm xs) ∧ Hid (Bey n xs ys) ∧ Hid (Hq wr b g cap ys) ∧ Hid (Ob g w wr)) (fun v _ => n - (intOf v).toNat)
  case atStart => exact ⟨0, xs, rfl, by omega, hL, hu, List.Perm.refl _, fun _ _ => rfl, H, Ob.refl _ _⟩
  case round =>
    obtain ⟨i, ys, rfl, hi, hyl, HU, HP, HB, HQ, HO⟩ := hrel
    obtain ⟨p, hp⟩ := hid_ex (2 * i + 1)
    obtain ⟨q, hq⟩ := hid_ex (2 * i + 2)
    have hw1 : wrap64 (wrap64 (2 * (i : Int)) + 1) = (p : Int) := by
      have := hp.out
      rw [IntWalk.wrap64_in (2 * (i : Int)) ⟨by omega, by omega⟩, IntWalk.wrap64_in _ ⟨by omega, by omega⟩]
      omega
    have hd1 : 2 * (i : Int) + 1 = (p : Int) := by have := hp.out; omega
    have hd2 : 2 * (i : Int) + 1 + 1 = (q : Int) := by have := hp.out; have := hq.out; omega
    have hd3 : (p : Int) + 1 = (q : Int) := by have := hp.out; have := hq.out; omega
    have hw2 : wrap64 ((p : Int) + 1) = (q : Int) := by
      have := hp.out
      rw [IntWalk.wrap64_in _ ⟨by omega, by omega⟩]
      exact hd3
    have hV := HQ.out.V
    by_cases hpn : n ≤ p
    · have hpn' : (n : Int) ≤ (p : Int) := by omega
      go_wp2
      go_ret
      exact ⟨⟨_, rfl⟩, ys, HP.out, dn_none HU.out (by have := hp.out; omega), HB.out, HQ.out, HO.out⟩
    · have hpn' : ¬ (n : Int) ≤ (p : Int) := by omega
      have hp0 : ¬ (p : Int) < 0 := by omega
      have hpl : p < n := by omega
      have hin : i < n := by have := hp.out; omega
      have hpi : par p = i := by have := hp.out; unfold par; omega
      have hM := less_of b g L cap wr (by have := hV; rw [hyl] at this; exact this)
      by_cases hqn : q < n
      · have hqn' : (q : Int) < (n : Int) := by omega
        have hql : q < n := hqn
        have hqi : par q = i := by have := hq.out; unfold par; omega
        have hpy : p < ys.length := by omega
        have hqy : q < ys.length := by omega
        obtain ⟨y2, hy2⟩ := hid_ex (earB (ys[q]'hqy) (ys[p]'hpy))
        rcases (by cases y2 <;> simp : y2 = true ∨ y2 = false) with e2 | e2
        · subst e2
          have hjy : q < ys.length := by omega
          have hiy : i < ys.length := by omega
          have HS : Hid (∀ k (h : k < ys.length), 0 < k → k < n → par k = i → Nl (ys[q]'hjy) ys[k]) := fun k h h0 hk e => by
            rcases below_two h0 e with e | e
            · obtain rfl : k = p := by have := hp.out; omega
              exact nl_of (earB_iff.1 hy2.out)
            · obtain rfl : k = q := by have := hq.out; omega
              exact nl_refl _
          obtain ⟨y, hy⟩ := hid_ex (earB (ys[q]'hjy) (ys[i]'hiy))
          have Q3 := HQ.out
          cases y with
          | false =>
            have k1 : Hid True := trivial
            go_wp2_with (first | (clear k1; go_at_call 162; (try rw [hd2]); (try rw [hd1]); (try rw [hd3]); refine (less_any ys g L cap wr Q3.r hyl.symm hLl q p (by omega) (by omega) true hy2).mono ?_; rintro e w4 ⟨rfl, hB4⟩; have Q4 := Q3.below hB4; have V4 := Q4.V; rw [hyl] at V4; have hM4 := less_of b g L cap w4 V4; have hS4 := swap_of b g L cap w4 V4) | (go_at_call 162; (try rw [hd2]); (try rw [hd1]); (try rw [hd3]); refine (less_any ys g L cap w4 Q4.r hyl.symm hLl q i (by omega) (by omega) false hy).mono ?_; rintro e w5 ⟨rfl, hB5⟩; have Q5 := Q4.below hB5; have V5 := Q5.V; rw [hyl] at V5; have hM5 := less_of b g L cap w5 V5; have hS5 := swap_of b g L cap w5 V5) | (fail))
            go_ret
            exact ⟨⟨_, rfl⟩, ys, HP.out, dn_stop HU.out (by omega) hql hqi (by omega) HS.out (fun z => by have := earB_iff.2 z; rw [hy.out] at this; cases this), HB.out, Q5, ((HO.out.trans (Ob.of_below hB4)).trans (Ob.of_below hB5))⟩
          | true =>
            have k1 : Hid True := trivial
            go_wp2_with (first | (clear k1; go_at_call 162; (try rw [hd2]); (try rw [hd1]); (try rw [hd3]); refine (less_any ys g L cap wr Q3.r hyl.symm hLl q p (by omega) (by omega) true hy2).mono ?_; rintro e w4 ⟨rfl, hB4⟩; have Q4 := Q3.below hB4; have V4 := Q4.V; rw [hyl] at V4; have hM4 := less_of b g L cap w4 V4; have hS4 := swap_of b g L cap w4 V4) | (go_at_call 162; (try rw [hd2]); (try rw [hd1]); (try rw [hd3]); refine (less_any ys g L cap w4 Q4.r hyl.symm hLl q i (by omega) (by omega) true hy).mono ?_; rintro e w5 ⟨rfl, hB5⟩; have Q5 := Q4.below hB5; have V5 := Q5.V; rw [hyl] at V5; have hM5 := less_of b g L cap w5 V5; have hS5 := swap_of b g L cap w5 V5) | (go_at_call 163; (try rw [hd2]); (try rw [hd1]); (try rw [hd3]); refine (swap_any ys g L cap w5 Q5.r hyl.symm hLl i q (by omega) (by omega)).mono ?_; rintro e w9 ⟨⟨u9, rfl⟩, r9, hO9⟩; have O9 := Ob.of_only hO9; have Q9 := Q5.ob O9 r9 (swp_len _ _ _)) | (fail))
            go_roundw
            case rel => exact ⟨q, swp ys i q, rfl, by omega, by rw [swp_len]; exact hyl, dn_step HU.out (by omega) (by omega) hql hqi (earB_iff.1 hy.out) HS.out, (swp_perm _ _ _).trans HP.out, bey_swp HB.out hin hql (by omega), Q9, ((HO.out.trans (Ob.of_below hB4)).trans (Ob.of_below hB5)).trans O9⟩
            case measure => simp [intOf]; omega
        · subst e2
          have hjy : p < ys.length := by omega
          have hiy : i < ys.length := by omega
          have HS : Hid (∀ k (h : k < ys.length), 0 < k → k < n → par k = i → Nl (ys[p]'hjy) ys[k]) := fun k h h0 hk e => by
            rcases below_two h0 e with e | e
            · obtain rfl : k = p := by have := hp.out; omega
              exact nl_refl _
            · obtain rfl : k = q := by have := hq.out; omega
              exact fun z => by have := earB_iff.2 z; rw [hy2.out] at this; cases this
          obtain ⟨y, hy⟩ := hid_ex (earB (ys[p]'hjy) (ys[i]'hiy))
          have Q3 := HQ.out
          cases y with
          | false =>
            have k1 : Hid True := trivial
            go_wp2_with (first | (clear k1; go_at_call 162; (try rw [hd2]); (try rw [hd1]); (try rw [hd3]); refine (less_any ys g L cap wr Q3.r hyl.symm hLl q p (by omega) (by omega) false hy2).mono ?_; rintro e w4 ⟨rfl, hB4⟩; have Q4 := Q3.below hB4; have V4 := Q4.V; rw [hyl] at V4; have hM4 := less_of b g L cap w4 V4; have hS4 := swap_of b g L cap w4 V4) | (go_at_call 162; (try rw [hd2]); (try rw [hd1]); (try rw [hd3]); refine (less_any ys g L cap w4 Q4.r hyl.symm hLl p i (by omega) (by omega) false hy).mono ?_; rintro e w5 ⟨rfl, hB5⟩; have Q5 := Q4.below hB5; have V5 := Q5.V; rw [hyl] at V5; have hM5 := less_of b g L cap w5 V5; have hS5 := swap_of b g L cap w5 V5) | (fail))
            go_ret
            exact ⟨⟨_, rfl⟩, ys, HP.out, dn_stop HU.out (by omega) hpl hpi (by omega) HS.out (fun z => by have := earB_iff.2 z; rw [hy.out] at this; cases this), HB.out, Q5, ((HO.out.trans (Ob.of_below hB4)).trans (Ob.of_below hB5))⟩
          | true =>
            have k1 : Hid True := trivial
            go_wp2_with (first | (clear k1; go_at_call 162; (try rw [hd2]); (try rw [hd1]); (try rw [hd3]); refine (less_any ys g L cap wr Q3.r hyl.symm hLl q p (by omega) (by omega) false hy2).mono ?_; rintro e w4 ⟨rfl, hB4⟩; have Q4 := Q3.below hB4; have V4 := Q4.V; rw [hyl] at V4; have hM4 := less_of b g L cap w4 V4; have hS4 := swap_of b g L cap w4 V4) | (go_at_call 162; (try rw [hd2]); (try rw [hd1]); (try rw [hd3]); refine (less_any ys g L cap w4 Q4.r hyl.symm hLl p i (by omega) (by omega) true hy).mono ?_; rintro e w5 ⟨rfl, hB5⟩; have Q5 := Q4.below hB5; have V5 := Q5.V; rw [hyl] at V5; have hM5 := less_of b g L cap w5 V5; have hS5 := swap_of b g L cap w5 V5) | (go_at_call 163; (try rw [hd2]); (try rw [hd1]); (try rw [hd3]); refine (swap_any ys g L cap w5 Q5.r hyl.symm hLl i p (by omega) (by omega)).mono ?_; rintro e w9 ⟨⟨u9, rfl⟩, r9, hO9⟩; have O9 := Ob.of_only hO9; have Q9 := Q5.ob O9 r9 (swp_len _ _ _)) | (fail))
            go_roundw
            case rel => exact ⟨p, swp ys i p, rfl, by omega, by rw [swp_len]; exact hyl, dn_step HU.out (by omega) (by omega) hpl hpi (earB_iff.1 hy.out) HS.out, (swp_perm _ _ _).trans HP.out, bey_swp HB.out hin hpl (by omega), Q9, ((HO.out.trans (Ob.of_below hB4)).trans (Ob.of_below hB5)).trans O9⟩
            case measure => simp [intOf]; omega
      · have hqn' : ¬ (q : Int) < (n : Int) := by omega
        have hjy : p < ys.length := by omega
        have hiy : i < ys.length := by omega
        have HS : Hid (∀ k (h : k < ys.length), 0 < k → k < n → par k = i → Nl (ys[p]'hjy) ys[k]) := fun k h h0 hk e => by
          rcases below_two h0 e with e | e
          · obtain rfl : k = p := by have := hp.out; omega
            exact nl_refl _
          · have := hq.out; omega
        obtain ⟨y, hy⟩ := hid_ex (earB (ys[p]'hjy) (ys[i]'hiy))
        have Q3 := HQ.out
        cases y with
        | false =>
          go_wp2_with (first | (go_at_call 162; (try rw [hd2]); (try rw [hd1]); (try rw [hd3]); refine (less_any ys g L cap wr Q3.r hyl.symm hLl p i (by omega) (by omega) false hy).mono ?_; rintro e w4 ⟨rfl, hB4⟩; have Q4 := Q3.below hB4; have V4 := Q4.V; rw [hyl] at V4; have hM4 := less_of b g L cap w4 V4; have hS4 := swap_of b g L cap w4 V4) | (fail))
          go_ret
          exact ⟨⟨_, rfl⟩, ys, HP.out, dn_stop HU.out (by omega) hpl hpi (by omega) HS.out (fun z => by have := earB_iff.2 z; rw [hy.out] at this; cases this), HB.out, Q4, (HO.out.trans (Ob.of_below hB4))⟩
        | true =>
          go_wp2_with (first | (go_at_call 162; (try rw [hd2]); (try rw [hd1]); (try rw [hd3]); refine (less_any ys g L cap wr Q3.r hyl.symm hLl p i (by omega) (by omega) true hy).mono ?_; rintro e w4 ⟨rfl, hB4⟩; have Q4 := Q3.below hB4; have V4 := Q4.V; rw [hyl] at V4; have hM4 := less_of b g L cap w4 V4; have hS4 := swap_of b g L cap w4 V4) | (go_at_call 163; (try rw [hd2]); (try rw [hd1]); (try rw [hd3]); refine (swap_any ys g L cap w4 Q4.r hyl.symm hLl i p (by omega) (by omega)).mono ?_; rintro e w9 ⟨⟨u9, rfl⟩, r9, hO9⟩; have O9 := Ob.of_only hO9; have Q9 := Q4.ob O9 r9 (swp_len _ _ _)) | (fail))
          go_roundw
          case rel => exact ⟨p, swp ys i p, rfl, by omega, by rw [swp_len]; exact hyl, dn_step HU.out (by omega) (by omega) hpl hpi (earB_iff.1 hy.out) HS.out, (swp_perm _ _ _).trans HP.out, bey_swp HB.out hin hpl (by omega), Q9, (HO.out.trans (Ob.of_below hB4)).trans O9⟩
          case measure => simp [intOf]; omega
end Go.Proofs.Ytmnjmghlkiljhaa.rg
/- A heap of things in memory: the program's Pop and Push. -/
namespace Go.Proofs.Ytmnjmghlkiljhaa.rg
open Go.ChangeShapes Go.WideShapes Go.ChangeAt Go.RowKit
open Go.Deep Go.Joins
open Go.Proofs.Ytmnjmghlkiljhaa.ce Go.Proofs.Ytmnjmghlkiljhaa.ro
set_option linter.unusedVariables false
set_option linter.unusedSimpArgs false

theorem RowAt.cutq {w : World} {g cap : Nat} {xs : List It} (r : RowAt encIt w g cap xs) (m : Nat) : RowAt encIt w g cap (xs.take m) := r.cut m
theorem szWt : (Try.prog.info? 102).map (·.size) = some 1 := by kernel_rfl
section
variable {ops : Array Oper} {rest : List Oper} {o : Oper} {a : Act} {w : World} {Q : Exit → Act → World → Prop}
theorem cells_oneq {v : Value} (h : v.oneCell' = true) : v.cells = #[v] := by cases v <;> first | rfl | cases h
theorem wpList_store_q1 (hgd : o.guard = none) (t : TypeId) (x y : Operand) (ho : o.op = .store t x y) (g j : Nat) (u : Value) (hx : a.eval x = .pointer (some ⟨g, j, none⟩)) (hy : a.eval y = u) (h1 : u.oneCell' = true) (hi : (Try.prog.info? t).map (·.size) = some 1)
    (old : Value) (hc : w.cell? ⟨g, j, none⟩ = some old) (hf : w.frozen? ⟨g, j, none⟩ = false) (h : wpList Try.prog ops Q rest (a.put o.dst undef) (w.setCell ⟨g, j, none⟩ u)) : wpList Try.prog ops Q (o :: rest) a w :=
  wpList_plain hgd fun _ hK => by
    unfold Oper.wp execOp
    obtain ⟨i, hi1, hi2⟩ := Option.map_eq_some_iff.1 hi
    simp [ho, hx, hy, Instr.storeAt, Instr.sureAddr, storeVar, sizeOf, typeInfo, hi1, hi2, cells_oneq h1, storeCells, run_store _ _ _ _ _ h1, hc, hf, Addr.add]
    exact hK _ _ h
end
theorem wpList_store_q {ops : Array Oper} {rest : List Oper} {o : Oper} {a : Act} {w : World} {Q : Exit → Act → World → Prop} (hgd : o.guard = none) (t : TypeId) (x y : Operand) (ho : o.op = .store t x y) (b j : Nat) (u : Value) (hx : a.eval x = .pointer (some ⟨b, j, none⟩)) (hy : a.eval y = u) (h1 : u.oneCell' = true) (hi : (Try.prog.info? t).map (·.size) = some 1)
    {T : TypeId} {vs : List Value} (V : VBlk w b T vs) (hj : j < vs.length) (h : ∀ w', Only b w w' → VBlk w' b T (vs.set j u) → wpList Try.prog ops Q rest (a.put o.dst undef) w') : wpList Try.prog ops Q (o :: rest) a w :=
  wpList_store_q1 hgd t x y ho b j u hx hy h1 hi _ (V.cell j hj) (V.frozen j) (h _ (only_set _ _ _ _) (V.set j u))
set_option maxRecDepth 100000 in
set_option maxHeartbeats 4000000 in
theorem pop1_any (m b g cap : Nat) (xs : List It) (hm : xs.length = m + 1) (w : World) (H : Hq w b g cap xs) :
    Calls Try.prog 165 #[.pointer (some ⟨b, 0, none⟩)] w fun e w' => (∃ u, e = .returned u) ∧ Hq w' b g cap (xs.take m) ∧ Ob b w w' := by
  obtain ⟨L, hL⟩ := hid_ex xs.length
  have hLm : Hid (L = m + 1) := hL.out.symm.trans hm
  have hw : wrap64 ((L : Int) - 1) = (m : Int) := by
    have := hLm.out; have := H.l
    rw [IntWalk.wrap64_in _ ⟨by omega, by omega⟩]; omega
  have hmL : (m : Int) < (L : Int) := by have := hLm.out; omega
  have hm0 : (0 : Int) ≤ (m : Int) := by omega
  have hcap : (m : Int) ≤ (cap : Int) := by have := H.r.le; omega
  have hcap2 : m ≤ cap := by have := H.r.le; omega
  have HQ : Hid (Hq w b g cap xs) := H
  have V := H.V
  rw [hL.out] at V
  have cV := V.cell 0 (by simp)
  simp only [List.getElem_cons_zero] at cV
  obtain ⟨c0, c1, c2, c3, c4⟩ := row_cells H.r m (by omega)
  generalize xs[m]'(by omega) = x at c0 c1 c2 c3 c4
  obtain ⟨N, F, B, C, U⟩ := x
  dsimp only at c0 c1 c2 c3 c4
  have hne := H.ne
  have HM : Hid (xs.length = m + 1) := hm
  clear H
  clear hm
  go_enter Try.func165, Try.ntmps165
  go_wp2_with (first | (refine wpList_alloc_v rfl 53 rfl _ zeroIt ?_; intro b4 w1 hb4 hw4 hB1 V4) | (refine wpList_store_v rfl 53 _ _ rfl b4 [.string N, .int .i64 F, .string B, .int .i64 C, .int .i64 U] rfl rfl sizeIt V4 rfl (by simp [Value.oneCell']) ?_; intro w2 hO2 V42; have hB12 : Below w.heap.size w w2 := hB1.trans (hO2.2.2 _ hb4); have V2 := vblk_grow V hB12; have cV2 := V2.cell 0 (by simp); simp only [List.getElem_cons_zero] at cV2; have hbl := V.lt) | (refine wpList_store_q rfl 102 _ _ rfl b 0 (.slice (some ⟨g, 0, none⟩) m cap) rfl rfl rfl szWt V2 (by simp) ?_; intro w3 hO3 V3; have V43 := vblk_only V42 hO3 (by omega); obtain ⟨d0, d1, d2, d3, d4⟩ := cells5 V43) | (fail))
  go_ret
  have r3 : RowAt encIt w3 g cap xs := (HQ.out.r.grow hB12).of (hO3.2.1 g (fun e => hne e.symm))
  have hl : (xs.take m).length = m := by have := HM.out; rw [List.length_take]; omega
  refine ⟨⟨_, rfl⟩, ⟨by rw [hl]; exact V3, r3.cut m, by have := HQ.out.l; rw [hl]; have := HM.out; omega⟩, (Ob.of_below hB12).trans (Ob.of_only hO3)⟩
/-- what is below lo stays, and what is neither a heap's variable nor a thing -/
structure Tq (lo : Nat) (w w' : World) : Prop where
  low : Below lo w w'
  keep : ∀ (k : Nat) (cur : Array Value) (t : TypeId) (f : Nat × Nat), w.heap[k]? = some (.cells cur t f) → t ≠ 102 → t ≠ 53 → w'.heap[k]? = w.heap[k]?
theorem Tq.refl (lo : Nat) (w : World) : Tq lo w w := ⟨Below.refl _ _, fun _ _ _ _ _ _ _ => rfl⟩
theorem Tq.trans {lo : Nat} {x y z : World} (h : Tq lo x y) (k : Tq lo y z) : Tq lo x z :=
  ⟨h.low.trans k.low, fun j cur t f hj h1 h2 => (k.keep j cur t f (by rw [h.keep j cur t f hj h1 h2]; exact hj) h1 h2).trans (h.keep j cur t f hj h1 h2)⟩
theorem Tq.of_below {lo : Nat} {w w' : World} (h : Below w.heap.size w w') (hl : lo ≤ w.heap.size) : Tq lo w w' := ⟨h.mono hl, fun k cur t f hk _ _ => h.block k (Array.getElem?_eq_some_iff.1 hk).1⟩
theorem Tq.of_row {lo g cap : Nat} {w w' : World} {xs : List It} (h : Ob g w w') (r : RowAt encIt w g cap xs) (hg : lo ≤ g) (hl : lo ≤ w.heap.size) : Tq lo w w' :=
  ⟨h.below hg hl, fun k cur t f hk h1 h2 => h.keep k (Array.getElem?_eq_some_iff.1 hk).1 fun e => by
    subst e
    obtain ⟨c2, hb, -⟩ := r.blk
    have := hk.symm.trans hb
    simp at this
    exact h2 this.2.1⟩
theorem Tq.of_var {lo b : Nat} {w w' : World} {vs : List Value} (h : Ob b w w') (V : VBlk w b 102 vs) (hg : lo ≤ b) (hl : lo ≤ w.heap.size) : Tq lo w w' :=
  ⟨h.below hg hl, fun k cur t f hk h1 h2 => h.keep k (Array.getElem?_eq_some_iff.1 hk).1 fun e => by
    subst e
    have := hk.symm.trans V
    simp at this
    exact h1 this.2.1⟩
theorem Tq.of_ty {lo : Nat} {w w' : World} (h : Ty lo 53 w w') : Tq lo w w' := ⟨h.low, fun k cur t f hk _ h2 => h.keep k cur t f hk h2⟩
theorem Tq.own {α : Type} {E : Enc α} {lo l2 h2 : Nat} {w w' : World} {v : Value} {xs : List α} (h : Tq lo w w') (o : Own E w l2 h2 v xs) (h1 : E.t ≠ 102) (h3 : E.t ≠ 53) : Own E w' l2 h2 v xs := o.keepT fun g cur hg _ _ => h.keep g cur _ _ hg h1 h3
end Go.Proofs.Ytmnjmghlkiljhaa.rg
/- A heap of things in memory: the program's Push, the library's Push and Pop. -/
namespace Go.Proofs.Ytmnjmghlkiljhaa.rg
open Go.ChangeShapes Go.WideShapes Go.ChangeAt Go.RowKit
open Go.Deep Go.Joins
open Go.Proofs.Ytmnjmghlkiljhaa.ce Go.Proofs.Ytmnjmghlkiljhaa.ro
set_option linter.unusedVariables false
set_option linter.unusedSimpArgs false

theorem bAq (W : World) (o : Obj) : Below W.heap.size W (W.alloc o) := (Below.refl _ _).alloc (Nat.le_refl _) _
theorem push_end {w w8 : World} {b lo l8 k8 : Nat} {a8 : Option Addr} {xs : List It} {x : It} {v : Value} (V8 : VBlk w8 b 102 [v]) (o8 : Own encIt w8 lo w8.heap.size (.slice a8 l8 k8) (xs ++ [x])) (hb : lo ≤ b) (hlo : lo ≤ w.heap.size) (hlen : xs.length ≤ 999999) (T : Tq lo w w8) :
    (∃ g cap, Hq (w8.setCell ⟨b, 0, none⟩ (.slice a8 l8 k8)) b g cap (xs ++ [x]) ∧ lo ≤ g) ∧ Tq lo w (w8.setCell ⟨b, 0, none⟩ (.slice a8 l8 k8)) := by
  have hl8 : lo ≤ w8.heap.size := Nat.le_trans hlo T.low.size
  have hO : Only b w8 (w8.setCell ⟨b, 0, none⟩ (.slice a8 l8 k8)) := only_set _ _ _ _
  obtain ⟨g, cap, e, hg1, hg2, hg3⟩ := o8.form (by simp)
  rw [e] at o8
  obtain ⟨r, -, -⟩ := o8.at (by simp)
  have hne : g ≠ b := by
    intro q
    subst q
    obtain ⟨cur, hc, -⟩ := r.blk
    have := V8.symm.trans hc
    simp at this
    exact absurd this.2 (by decide)
  have V9 := V8.set 0 (.slice a8 l8 k8)
  refine ⟨⟨g, cap, ⟨?_, r.of (hO.2.1 g hne), by simp; omega⟩, hg1⟩, T.trans (Tq.of_var (Ob.of_only hO) V8 hb hl8)⟩
  rw [e] at V9 ⊢
  exact V9
set_option maxRecDepth 100000 in
set_option maxHeartbeats 4000000 in
theorem push1_any (b lo : Nat) (xs : List It) (v : Value) (N B : ByteArray) (F C U : Int) (hlen : xs.length ≤ 999999) (w : World) (V : VBlk w b 102 [v]) (o : Own encIt w lo w.heap.size v xs) (hlo : lo ≤ w.heap.size) (hb : lo ≤ b) :
    Calls Try.prog 166 #[.pointer (some ⟨b, 0, none⟩), .iface 53 (.agg #[.string N, .int .i64 F, .string B, .int .i64 C, .int .i64 U])] w fun e w' => (∃ u, e = .returned u) ∧ (∃ g cap, Hq w' b g cap (xs ++ [⟨N, F, B, C, U⟩]) ∧ lo ≤ g) ∧ Tq lo w w' := by
  obtain ⟨a, n, k, rfl⟩ := o.slice
  have HO : Hid (Own encIt w lo w.heap.size (.slice a n k) xs) := o
  have hbl := V.lt
  clear o
  have hta : ∀ w : World, (Instr.typeAssert (.iface 53 (.agg #[.string N, .int .i64 F, .string B, .int .i64 C, .int .i64 U])) 20 53 true).run Try.prog w = .ok (.tuple #[.agg #[.string N, .int .i64 F, .string B, .int .i64 C, .int .i64 U], .bool true]) w := fun w => by kernel_rfl
  go_enter Try.func166, Try.ntmps166
  go_upto_region 2 with (first | (refine wpList_alloc_v rfl 53 rfl _ zeroIt ?_; intro b4 w1 hb4 hw4 hB1 V4) | (refine wpList_store_v rfl 53 _ _ rfl b4 [.string N, .int .i64 F, .string B, .int .i64 C, .int .i64 U] rfl rfl sizeIt V4 rfl (by simp [Value.oneCell']) ?_; intro w2 hO2 V42; have hB12 : Below w.heap.size w w2 := hB1.trans (hO2.2.2 _ hb4); have V2 := vblk_grow V hB12; have cV2 := V2.cell 0 (by simp); simp only [List.getElem_cons_zero] at cV2; obtain ⟨d0, d1, d2, d3, d4⟩ := cells5 V42; have hz2 := hB12.size; have O2 := HO.out.grow hB12) | (fail))
  have cA : (w2.alloc (.cells #[.string N, .int .i64 F, .string B, .int .i64 C, .int .i64 U] 53)).cell? ⟨b, 0, none⟩ = some (.slice a n k) := (vblk_grow V2 (bAq w2 _)).cell 0 (by simp)
  have fV2 := V2.frozen 0
  go_region_law (first | (refine step_append_g infoIt rfl _ _ 102 rfl Try.underlying102 lo _ _ xs rfl (O2.grow (bAq w2 _).drew) (by simp; omega) _ [⟨N, F, B, C, U⟩] rfl (rd_new (E := encIt) w2 ⟨N, F, B, C, U⟩ #[.string N, .int .i64 F, .string B, .int .i64 C, .int .i64 U] rfl).drew (by simp; omega) ?_; intro v8 w8 o8 hT8; have V8 := hT8.vblk (vblk_grow V2 (bAq w2 _).drew) (by decide); have c8 := V8.cell 0 (by simp); simp only [List.getElem_cons_zero] at c8; have f8 := V8.frozen 0; obtain ⟨a8, l8, k8, rfl⟩ := o8.slice) | (fail))
  all_goals
    first | go_end0 | ((try simp only [Exit.inBlock, Exit.then]); refine bodyPost_ret (results_none rfl _ _ _) rfl ?_) | skip
    exact ⟨⟨_, rfl⟩, push_end V8 o8 hb hlo hlen (((Tq.of_below hB12 hlo).trans (Tq.of_below (bAq w2 _).drew (by omega))).trans (Tq.of_ty hT8))⟩
set_option maxRecDepth 100000 in
set_option maxHeartbeats 4000000 in
/-- one is put on the heap -/
theorem push_any (b lo : Nat) (xs : List It) (v : Value) (N B : ByteArray) (F C U : Int) (hlen : xs.length ≤ 999999) (hh : Hp xs.length xs) (w : World) (V : VBlk w b 102 [v]) (o : Own encIt w lo w.heap.size v xs) (hlo : lo ≤ w.heap.size) (hb : lo ≤ b) :
    Calls Try.prog 120 #[.iface 106 (.pointer (some ⟨b, 0, none⟩)), .iface 53 (.agg #[.string N, .int .i64 F, .string B, .int .i64 C, .int .i64 U])] w fun e w' => (∃ u, e = .returned u) ∧ (∃ ys g cap, ys.Perm (⟨N, F, B, C, U⟩ :: xs) ∧ Hp ys.length ys ∧ Hq w' b g cap ys ∧ lo ≤ g) ∧ Tq lo w w' := by
  have hcp : ∀ (args : Array Value) (w : World), (callFunc 166 args).run Try.prog w = .ok (.enter 166 args) w := fun args w => by kernel_rfl
  have hcl : ∀ (args : Array Value) (w : World), (callFunc 75 args).run Try.prog w = .ok (.enter 75 args) w := fun args w => by kernel_rfl
  have hP := push_of b w
  have HU : Hid (Up (xs.length + 1) xs.length (xs ++ [⟨N, F, B, C, U⟩])) := hp_up hh rfl _
  obtain ⟨x, hx⟩ := hid_ex (⟨N, F, B, C, U⟩ : It)
  have kP := fun (_ : Unit) => push1_any b lo xs v N B F C U hlen w V o hlo hb
  rw [hx.out] at kP HU ⊢
  have KP : Hid _ := kP
  clear kP hh
  obtain ⟨m, hm⟩ := hid_ex xs.length
  rw [hm.out] at HU
  go_enter Try.func120, Try.ntmps120
  go_wp2_with (first | (go_at_call 166; refine (KP.out ()).mono ?_; rintro e w1 ⟨⟨u1, rfl⟩, ⟨g, cap, Q1, hg⟩, T1⟩; have hl1 : (xs ++ [x]).length = m + 1 := (by rw [List.length_append, hm.out]; rfl); have V1 := Q1.V; rw [hl1] at V1; obtain ⟨L, hL⟩ := hid_ex (m + 1); rw [hL.out] at V1; have hLen := lenq_of b g L cap w1 V1; have hw : wrap64 ((L : Int) - 1) = (m : Int) := (by have := hL.out; have := Q1.l; rw [hl1] at this; rw [IntWalk.wrap64_in _ ⟨by omega, by omega⟩]; omega); have hw3 : wrap64 (m : Int) = (m : Int) := (by have := hL.out; have := Q1.l; rw [hl1] at this; exact IntWalk.wrap64_in _ ⟨by omega, by omega⟩)) | (go_at_call 75; refine (len_any _ L cap w1).mono ?_; rintro e wq ⟨rfl, hq⟩; subst wq) | (go_at_call 141; (try rw [hw]); (try rw [hw3]); refine (up_any (m + 1) b g cap (xs ++ [x]) hl1 m (by omega) HU.out w1 Q1).mono ?_; rintro e w2 ⟨⟨u2, rfl⟩, ys, hp, hh, Q2, O2⟩) | (fail))
  first | go_end0 | ((try simp only [Exit.inBlock, Exit.then]); refine bodyPost_ret (results_none rfl _ _ _) rfl ?_)
  have hyl : ys.length = m + 1 := hp.length_eq.trans hl1
  exact ⟨⟨_, rfl⟩, ⟨ys, g, cap, hp.trans (List.perm_append_comm.trans (List.Perm.refl _)), by rw [hyl]; exact hh, Q2, hg⟩, T1.trans (Tq.of_row O2 Q1.r hg (Nat.le_trans hlo T1.low.size))⟩
end Go.Proofs.Ytmnjmghlkiljhaa.rg
/- A heap of things in memory: the library's Pop. -/
namespace Go.Proofs.Ytmnjmghlkiljhaa.rg
open Go.ChangeShapes Go.WideShapes Go.ChangeAt Go.RowKit
open Go.Deep Go.Joins
open Go.Proofs.Ytmnjmghlkiljhaa.ce Go.Proofs.Ytmnjmghlkiljhaa.ro
set_option linter.unusedVariables false
set_option linter.unusedSimpArgs false

theorem popped {m : Nat} {xs ys : List It} (hx : xs.length = m + 1) (hp : ys.Perm (swp xs 0 m)) (hb : Bey m (swp xs 0 m) ys) : (xs[0]'(by omega) :: ys.take m).Perm xs := by
  have hyl : ys.length = m + 1 := by rw [hp.length_eq, swp_len]; exact hx
  have hm : ys[m]'(by omega) = xs[0]'(by omega) := by
    have e := hb m (Nat.le_refl _)
    rw [List.getElem?_eq_getElem (by omega), List.getElem?_eq_getElem (by rw [swp_len]; omega), swp_at (by omega) (by omega) m (by rw [swp_len]; omega) (by omega), if_pos rfl] at e
    exact Option.some.inj e
  have e : ys = ys.take m ++ [xs[0]'(by omega)] := by
    have := List.take_append_getElem (l := ys) (i := m) (by omega)
    rw [hm] at this
    rw [this, List.take_of_length_le (by omega)]
  have h1 : (xs[0]'(by omega) :: ys.take m).Perm ys := by
    conv => rhs; rw [e]
    exact List.perm_append_comm (l₁ := [xs[0]'(by omega)])
  exact h1.trans (hp.trans (swp_perm _ _ _))
set_option maxRecDepth 100000 in
set_option maxHeartbeats 4000000 in
/-- the first is taken from the heap -/
theorem pop_any (m b g cap lo : Nat) (xs : List It) (hm : xs.length = m + 1) (hh : Hp (m + 1) xs) (w : World) (H : Hq w b g cap xs) (hg : lo ≤ g) (hb : lo ≤ b) (hlo : lo ≤ w.heap.size) :
    Calls Try.prog 76 #[.iface 106 (.pointer (some ⟨b, 0, none⟩))] w fun e w' => (∃ u, e = .returned u) ∧ (∃ ys, (xs[0]'(by omega) :: ys).Perm xs ∧ Hp ys.length ys ∧ Hq w' b g cap ys) ∧ Tq lo w w' := by
  have hcp : ∀ (args : Array Value) (w : World), (callFunc 165 args).run Try.prog w = .ok (.enter 165 args) w := fun args w => by kernel_rfl
  have hcl : ∀ (args : Array Value) (w : World), (callFunc 75 args).run Try.prog w = .ok (.enter 75 args) w := fun args w => by kernel_rfl
  have hcs : ∀ (args : Array Value) (w : World), (callFunc 163 args).run Try.prog w = .ok (.enter 163 args) w := fun args w => by kernel_rfl
  have HM : Hid (xs.length = m + 1) := hm
  have HD : Hid (Dn m 0 (swp xs 0 m)) := hp_dn hh hm
  have HQ : Hid (Hq w b g cap xs) := H
  have hml : m ≤ 1000000 := by have := H.l; omega
  obtain ⟨L, hL⟩ := hid_ex (m + 1)
  have V := H.V
  rw [hm, hL.out] at V
  have hLen := lenq_of b g L cap w V
  have hSw := swap_of b g L cap w V
  have hw : wrap64 ((L : Int) - 1) = (m : Int) := by have := hL.out; rw [IntWalk.wrap64_in _ ⟨by omega, by omega⟩]; omega
  have hw2 : (L : Int) - 1 = (m : Int) := by have := hL.out; omega
  have hw3 : wrap64 (m : Int) = (m : Int) := IntWalk.wrap64_in _ ⟨by omega, by omega⟩
  clear H hh
  go_enter Try.func76, Try.ntmps76
  go_wp2_with (first | (go_at_call 75; refine (len_any _ L cap w).mono ?_; rintro e wq ⟨rfl, hq⟩; subst wq) | (go_at_call 163; (try rw [hw]); (try rw [hw2]); (try rw [hw3]); refine (swap_any xs g L cap w HQ.out.r (by rw [HM.out, hL.out]) (by have := hL.out; have := HQ.out.l; omega) 0 m (by have := hL.out; omega) (by have := hL.out; omega)).mono ?_; rintro e w2 ⟨⟨u2, rfl⟩, r2, hO2⟩; have O2 := Ob.of_only hO2; have Q2 := HQ.out.ob O2 r2 (swp_len _ _ _)) | (go_at_call 121; (try rw [hw]); (try rw [hw2]); (try rw [hw3]); refine (down_any m (m + 1) b g cap (swp xs 0 m) (by rw [swp_len]; exact HM.out) (by omega) HD.out w2 Q2).mono ?_; rintro e w3 ⟨⟨u3, rfl⟩, ys, hp, hh, hbey, Q3, O3⟩; have hP := pop_of b w3; have hyl : ys.length = m + 1 := (hp.length_eq.trans ((swp_len _ _ _).trans HM.out)); have HYL : Hid (ys.length = m + 1) := hyl; clear hyl) | (go_at_call 165; refine (pop1_any m b g cap ys HYL.out w3 Q3).mono ?_; rintro e w4 ⟨⟨u4, rfl⟩, Q4, O4⟩) | (fail))
  go_ret
  have hl4 : (ys.take m).length = m := by have := HYL.out; rw [List.length_take]; omega
  have hz2 := O2.size
  have hz3 := O3.size
  refine ⟨⟨_, rfl⟩, ⟨ys.take m, popped HM.out hp hbey, by rw [hl4]; exact hp_take hh, Q4⟩, ((Tq.of_row O2 HQ.out.r hg hlo).trans (Tq.of_row O3 Q2.r hg (by omega))).trans (Tq.of_var O4 Q3.V hb (by omega))⟩
end Go.Proofs.Ytmnjmghlkiljhaa.rg
