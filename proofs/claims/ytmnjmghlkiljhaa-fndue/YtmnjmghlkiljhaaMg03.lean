/- Texts laid together: Io3 De3. -/
import Derived.Test.YtmnjmghlkiljhaaMg00
import Derived.Test.YtmnjmghlkiljhaaDe2
import Derived.Deep.RegionHeld3
import Derived.Deep.RegionLaw
import Derived.Deep.DeepCutAuto
import Derived.WalkLawsBesides
import Derived.Deep.QuietTactic
import Derived.BigQuiet
/- Contracts: the model's answers on a book of things. -/
namespace Go.Proofs.Ytmnjmghlkiljhaa.rg
open Go.ChangeShapes Go.WideShapes Go.ChangeAt Go.RowKit
open Go.Proofs.Ytmnjmghlkiljhaa.ce Go.Proofs.Ytmnjmghlkiljhaa.ro
set_option linter.unusedVariables false

theorem less_asymm : ∀ x y : List UInt8, Op.bytesLess x y = true → Op.bytesLess y x = false := fun x y h => by
  cases e : Op.bytesLess y x with
  | false => rfl
  | true =>
    have := less_trans x y x h e
    rw [less_irrefl] at this
    exact this.symm
theorem less_total : ∀ x y : List UInt8, Op.bytesLess x y = false → Op.bytesLess y x = false → x = y
  | [], [], _, _ => rfl
  | [], b :: y, h, _ => by simp [Op.bytesLess] at h
  | a :: x, [], _, h => by simp [Op.bytesLess] at h
  | a :: x, b :: y, h, k => by
    simp only [Op.bytesLess, Bool.or_eq_false_iff, decide_eq_false_iff_not] at h k
    have e : a = b := UInt8.le_antisymm (UInt8.not_lt.1 k.1) (UInt8.not_lt.1 h.1)
    subst e
    rw [less_total x y (by simpa using h.2) (by simpa using k.2)]
/-- no text in the book is long -/
def SmK (b : List It) : Prop := ∀ i ∈ b, i.N.size ≤ 1048576 ∧ i.B.size ≤ 1048576

theorem specFindItem_any (b : List It) (s : ByteArray) (v : Value) (w : World) (r : Rd encIt w v b) :
    Calls Try.prog 38 #[v, .string s] w fun e w' => e = .returned (.int .i64 (findI b s)) ∧ w' = w := by
  have hl := r.len
  obtain ⟨a, cap, rfl⟩ := r.form
  have R : Hid (Rd encIt w (.slice a b.length cap) b) := r
  clear r
  obtain ⟨y, hy⟩ := hid_ex (findI b s)
  rw [hy.out]
  go_enter Try.func38, Try.ntmps38
  go_wp2
  go_loop [5] (fun p => ∃ i : Nat, i ≤ b.length ∧ p = .int .i64 i ∧ Hid (s ∉ (b.map (·.N)).take i)) (fun p => b.length - (intOf p).toNat)
  case atStart => exact ⟨0, by omega, rfl, (by unfold Hid; simp)⟩
  case round =>
    obtain ⟨i, hi1, rfl, hno⟩ := hrel
    by_cases hlt : i < b.length
    · obtain ⟨bk, off, rfl, hb, rg⟩ := rd_item rfl rfl R.out i hlt
      have d0 := (rng5 rg).1
      have hm : i < (b.map (·.N)).length := by rw [List.length_map]; exact hlt
      have hlt' : (i : Int) < (b.length : Int) := by omega
      have ge : (b.map (·.N))[i] = b[i].N := by rw [List.getElem_map]
      obtain ⟨z, hz⟩ := hid_ex (b[i].N)
      rw [hz.out] at d0
      clear rg
      by_cases he : z.toList = s.toList
      · have ey : y = i := by rw [← hy.out]; exact posS_at hm (ge.trans (hz.out.trans (str_eq he))) hno.out
        subst ey
        have hbe : (z.toList == s.toList) = true := by simpa using he
        clear he ge
        go_wp2
        go_ret
        exact ⟨rfl, rfl⟩
      · have hno2 : Hid (s ∉ (b.map (·.N)).take (i + 1)) := by
          unfold Hid
          rw [List.take_succ_eq_append_getElem hm, List.mem_append, ge, hz.out, List.mem_singleton]
          rintro (h | h)
          · exact hno.out h
          · exact he (by rw [h])
        have hbe : (z.toList == s.toList) = false := by simpa using he
        clear he ge
        go_wp2
        go_round
        case rel => exact ⟨i + 1, by omega, by go_num, hno2⟩
        case measure => simp [intOf]; omega
    · have hlt' : ¬ (i : Int) < (b.length : Int) := by omega
      have ey : y = -1 := by
        have h := hno.out
        rw [List.take_of_length_le (by rw [List.length_map]; omega)] at h
        rw [← hy.out]; exact posS_no h
      subst ey
      go_wp2
      go_ret
      exact ⟨rfl, rfl⟩

set_option maxRecDepth 100000 in
set_option maxHeartbeats 4000000 in
theorem specBookOk_any (b : List It) (v : Value) (w : World) (r : Rd encIt w v b) (hs : SmK b) :
    Calls Try.prog 36 #[v] w fun e w' => e = .returned (.bool (bookB b)) ∧ Below w.heap.size w w' := by
  have hl := r.len
  obtain ⟨a, cap, rfl⟩ := r.form
  have R : Hid (Rd encIt w (.slice a b.length cap) b) := r
  have HS : Hid (SmK b) := hs
  clear r hs
  obtain ⟨y, hy⟩ := hid_ex (bookB b)
  rw [hy.out]
  go_enter Try.func36, Try.ntmps36
  go_wp2
  go_loopw [3] (fun p wr => ∃ i : Nat, i ≤ b.length ∧ p = .int .i64 i ∧ Hid (PreB b i) ∧ Below w.heap.size w wr) (fun p _ => b.length - (intOf p).toNat)
  case atStart => exact ⟨0, by omega, rfl, preB_zero b, Below.refl _ _⟩
  case round =>
    obtain ⟨i, hi1, rfl, hP, hBr⟩ := hrel
    by_cases hlt : i < b.length
    · have hRr := R.out.grow hBr
      obtain ⟨bk, off, rfl, hb, rg0⟩ := rd_item rfl rfl hRr i hlt
      have hlt' : (i : Int) < (b.length : Int) := by omega
      have hsz := HS.out b[i] (List.getElem_mem hlt)
      have hp1 := @preB_not1 b i hlt
      have hp2 := @preB_not2 b i hlt
      have hp3 := preB_succ hP.out hlt
      have hsr := hBr.size
      obtain ⟨z, hz⟩ := hid_ex (b[i])
      rw [hz.out] at rg0 hsz hp1 hp3
      simp only [hz.out] at hp2
      obtain ⟨N, F, B, C, U⟩ := z
      obtain ⟨hN, hB⟩ := hsz
      dsimp only at hN hB hp2 hp3
      have rg : Hid (wr.rangeAt bk (off + i * 5) [.string N, .int .i64 F, .string B, .int .i64 C, .int .i64 U]) := rg0
      clear rg0
      obtain ⟨x, hx⟩ := hid_ex (itemB ⟨N, F, B, C, U⟩)
      cases x with
      | false =>
        have ey : y = false := by rw [← hy.out]; exact hp1 hx.out
        subst ey
        clear hp1 hp2 hp3
        go_upto_region 4 with (fail)
        refine wp_region_held_drew (S := fun w' => w'.cell? ⟨bk, off + i * 5, none⟩ = some (.string N) ∧ w'.cell? ⟨bk, off + i * 5 + 1, none⟩ = some (.int .i64 F) ∧ w'.cell? ⟨bk, off + i * 5 + 2, none⟩ = some (.string B) ∧ w'.cell? ⟨bk, off + i * 5 + 3, none⟩ = some (.int .i64 C) ∧ w'.cell? ⟨bk, off + i * 5 + 4, none⟩ = some (.int .i64 U)) (by kernel_rfl) (rng5 (w := wr.drew) rg.out) (fun hHeld => ?_)
        refine wpAnyH_take (i := 0) (oi := { dst := some 10, op := Op.move (Operand.tmp 0), type := 47, pos := "l10_item.go:22", after := #[], guard := none }) (v := ?_) rfl (by kernel_rfl) (by kernel_rfl) (by kernel_rfl) (fun _ _ _ h => h) (Or.inl ⟨by rfl, ?_⟩) (by assumption) ?_
        rotate_left 1
        · intro w' hSw; (try dsimp only at hSw); go_simp; (try with_reducible rfl)
        (try simp only [Act.put, List.setIfInBounds_toArray, List.set_cons_zero, List.set_cons_succ])
        refine wpAnyH_take (i := 1) (oi := { dst := some 11, op := Op.move (Operand.tmp 3), type := 3, pos := "l10_item.go:22", after := #[], guard := none }) (v := ?_) rfl (by kernel_rfl) (by kernel_rfl) (by kernel_rfl) (fun _ _ _ h => h) (Or.inl ⟨by rfl, ?_⟩) (by assumption) ?_
        rotate_left 1
        · intro w' hSw; (try dsimp only at hSw); go_simp; (try with_reducible rfl)
        (try simp only [Act.put, List.setIfInBounds_toArray, List.set_cons_zero, List.set_cons_succ])
        refine wpAnyH_take (i := 2) (oi := { dst := some 12, op := Op.indexAddr 47 (Operand.tmp 10) (Operand.tmp 11), type := 0, pos := "l10_item.go:22", after := #[{ on := 0, ground := Ground.data }, { on := 1, ground := Ground.data }], guard := none }) (v := ?_) rfl (by kernel_rfl) (by kernel_rfl) (by kernel_rfl) (fun _ _ _ h => h) (Or.inl ⟨by rfl, ?_⟩) (by assumption) ?_
        rotate_left 1
        · intro w' hSw; (try dsimp only at hSw); go_simp; (try with_reducible rfl)
        (try simp only [Act.put, List.setIfInBounds_toArray, List.set_cons_zero, List.set_cons_succ])
        refine wpAnyH_take (i := 3) (oi := { dst := some 13, op := Op.load 53 (Operand.tmp 12), type := 53, pos := "l10_item.go:22", after := #[{ on := 2, ground := Ground.data }], guard := none }) (v := ?_) rfl (by kernel_rfl) (by kernel_rfl) (by kernel_rfl) (fun _ _ _ h => h) (Or.inl ⟨by rfl, ?_⟩) (by assumption) ?_
        rotate_left 1
        · intro w' hSw; (try dsimp only at hSw); go_simp; (try with_reducible rfl)
        (try simp only [Act.put, List.setIfInBounds_toArray, List.set_cons_zero, List.set_cons_succ])
        refine wpAnyH_ready (rs := [4]) (by kernel_rfl) (by simp) ?_
        refine AllReadyH.cons (o := { dst := some 14, op := Op.call { callee := Callee.value (Operand.func 81), args := #[Operand.tmp 13], argTypes := #[53] }, type := 4, pos := "l10_item.go:22", after := #[{ on := 3, ground := Ground.data }], guard := none }) rfl (fun KC hKC => ?_) AllReadyH.nil
        go_simp
        (go_at_call 81; refine (specItemOk_any N B F C U _ hx (by omega) (by omega) _).mono ?_; rintro e w2 ⟨rfl, hB2⟩; have hz2 := hB2.size)
        refine hKC.out _ _ (rng5 (range_of rg.out (hB2.block bk hb))) (fun hHeld2 => ?_)
        clear hKC KC hHeld
        have hHeld := hHeld2
        clear hHeld2
        (try simp only [Act.put, List.setIfInBounds_toArray, List.set_cons_zero, List.set_cons_succ])
        refine wpAnyH_take (i := 5) (oi := { dst := some 15, op := Op.unOp UnOp.not 4 (Operand.tmp 14), type := 4, pos := "l10_item.go:22", after := #[{ on := 4, ground := Ground.data }], guard := none }) (v := ?_) rfl (by kernel_rfl) (by kernel_rfl) (by kernel_rfl) (fun _ _ _ h => h) (Or.inl ⟨by rfl, ?_⟩) (by assumption) ?_
        rotate_left 1
        · intro w' hSw; (try dsimp only at hSw); go_simp; (try with_reducible rfl)
        (try simp only [Act.put, List.setIfInBounds_toArray, List.set_cons_zero, List.set_cons_succ])
        refine wpAnyH_take (i := 6) (oi := { dst := some 16, op := Op.move (Operand.tmp 15), type := 4, pos := "l10_item.go:22", after := #[{ on := 5, ground := Ground.data }, { on := 4, ground := Ground.chain }], guard := none }) (v := ?_) rfl (by kernel_rfl) (by kernel_rfl) (by kernel_rfl) (fun _ _ _ h => h) (Or.inl ⟨by rfl, ?_⟩) (by assumption) ?_
        rotate_left 1
        · intro w' hSw; (try dsimp only at hSw); go_simp; (try with_reducible rfl)
        (try simp only [Act.put, List.setIfInBounds_toArray, List.set_cons_zero, List.set_cons_succ])
        refine wpAnyH_take (i := 7) (oi := { dst := some 17, op := Op.move (Operand.tmp 3), type := 3, pos := "l10_item.go:22", after := #[{ on := 6, ground := Ground.guard }], guard := some (6, false) }) (v := undef) rfl (by kernel_rfl) (by kernel_rfl) (by kernel_rfl) (fun _ _ _ h => h) (Or.inr ⟨by rfl, rfl⟩) (by assumption) ?_
        (try simp only [Act.put, List.setIfInBounds_toArray, List.set_cons_zero, List.set_cons_succ])
        refine wpAnyH_take (i := 8) (oi := { dst := some 18, op := Op.binOp BinOp.gtr 3 (Operand.tmp 17) (Operand.const (Value.int IntKind.i64 0)) 3, type := 4, pos := "l10_item.go:22", after := #[{ on := 7, ground := Ground.data }, { on := 6, ground := Ground.guard }], guard := some (6, false) }) (v := undef) rfl (by kernel_rfl) (by kernel_rfl) (by kernel_rfl) (fun _ _ _ h => h) (Or.inr ⟨by rfl, rfl⟩) (by assumption) ?_
        (try simp only [Act.put, List.setIfInBounds_toArray, List.set_cons_zero, List.set_cons_succ])
        refine wpAnyH_take (i := 9) (oi := { dst := some 19, op := Op.move (Operand.tmp 18), type := 4, pos := "l10_item.go:22", after := #[{ on := 8, ground := Ground.data }, { on := 6, ground := Ground.chain }, { on := 6, ground := Ground.guard }], guard := some (6, false) }) (v := undef) rfl (by kernel_rfl) (by kernel_rfl) (by kernel_rfl) (fun _ _ _ h => h) (Or.inr ⟨by rfl, rfl⟩) (by assumption) ?_
        (try simp only [Act.put, List.setIfInBounds_toArray, List.set_cons_zero, List.set_cons_succ])
        refine wpAnyH_take (i := 10) (oi := { dst := some 20, op := Op.move (Operand.tmp 0), type := 47, pos := "l10_item.go:22", after := #[{ on := 9, ground := Ground.guard }], guard := some (9, true) }) (v := undef) rfl (by kernel_rfl) (by kernel_rfl) (by kernel_rfl) (fun _ _ _ h => h) (Or.inr ⟨by rfl, rfl⟩) (by assumption) ?_
        (try simp only [Act.put, List.setIfInBounds_toArray, List.set_cons_zero, List.set_cons_succ])
        refine wpAnyH_take (i := 11) (oi := { dst := some 21, op := Op.move (Operand.tmp 3), type := 3, pos := "l10_item.go:22", after := #[{ on := 9, ground := Ground.guard }], guard := some (9, true) }) (v := undef) rfl (by kernel_rfl) (by kernel_rfl) (by kernel_rfl) (fun _ _ _ h => h) (Or.inr ⟨by rfl, rfl⟩) (by assumption) ?_
        (try simp only [Act.put, List.setIfInBounds_toArray, List.set_cons_zero, List.set_cons_succ])
        refine wpAnyH_take (i := 12) (oi := { dst := some 22, op := Op.indexAddr 47 (Operand.tmp 20) (Operand.tmp 21), type := 0, pos := "l10_item.go:22", after := #[{ on := 10, ground := Ground.data }, { on := 11, ground := Ground.data }, { on := 9, ground := Ground.guard }], guard := some (9, true) }) (v := undef) rfl (by kernel_rfl) (by kernel_rfl) (by kernel_rfl) (fun _ _ _ h => h) (Or.inr ⟨by rfl, rfl⟩) (by assumption) ?_
        (try simp only [Act.put, List.setIfInBounds_toArray, List.set_cons_zero, List.set_cons_succ])
        refine wpAnyH_take (i := 13) (oi := { dst := some 23, op := Op.fieldAddr 53 (Operand.tmp 22) 0, type := 0, pos := "l10_item.go:22", after := #[{ on := 12, ground := Ground.data }, { on := 9, ground := Ground.guard }], guard := some (9, true) }) (v := undef) rfl (by kernel_rfl) (by kernel_rfl) (by kernel_rfl) (fun _ _ _ h => h) (Or.inr ⟨by rfl, rfl⟩) (by assumption) ?_
        (try simp only [Act.put, List.setIfInBounds_toArray, List.set_cons_zero, List.set_cons_succ])
        refine wpAnyH_take (i := 14) (oi := { dst := some 24, op := Op.load 9 (Operand.tmp 23), type := 9, pos := "l10_item.go:22", after := #[{ on := 13, ground := Ground.data }, { on := 9, ground := Ground.guard }], guard := some (9, true) }) (v := undef) rfl (by kernel_rfl) (by kernel_rfl) (by kernel_rfl) (fun _ _ _ h => h) (Or.inr ⟨by rfl, rfl⟩) (by assumption) ?_
        (try simp only [Act.put, List.setIfInBounds_toArray, List.set_cons_zero, List.set_cons_succ])
        refine wpAnyH_take (i := 15) (oi := { dst := some 25, op := Op.move (Operand.tmp 0), type := 47, pos := "l10_item.go:22", after := #[{ on := 9, ground := Ground.guard }], guard := some (9, true) }) (v := undef) rfl (by kernel_rfl) (by kernel_rfl) (by kernel_rfl) (fun _ _ _ h => h) (Or.inr ⟨by rfl, rfl⟩) (by assumption) ?_
        (try simp only [Act.put, List.setIfInBounds_toArray, List.set_cons_zero, List.set_cons_succ])
        refine wpAnyH_take (i := 16) (oi := { dst := some 26, op := Op.move (Operand.tmp 3), type := 3, pos := "l10_item.go:22", after := #[{ on := 9, ground := Ground.guard }], guard := some (9, true) }) (v := undef) rfl (by kernel_rfl) (by kernel_rfl) (by kernel_rfl) (fun _ _ _ h => h) (Or.inr ⟨by rfl, rfl⟩) (by assumption) ?_
        (try simp only [Act.put, List.setIfInBounds_toArray, List.set_cons_zero, List.set_cons_succ])
        refine wpAnyH_take (i := 17) (oi := { dst := some 27, op := Op.binOp BinOp.sub 3 (Operand.tmp 26) (Operand.const (Value.int IntKind.i64 1)) 3, type := 3, pos := "l10_item.go:22", after := #[{ on := 16, ground := Ground.data }, { on := 9, ground := Ground.guard }], guard := some (9, true) }) (v := undef) rfl (by kernel_rfl) (by kernel_rfl) (by kernel_rfl) (fun _ _ _ h => h) (Or.inr ⟨by rfl, rfl⟩) (by assumption) ?_
        (try simp only [Act.put, List.setIfInBounds_toArray, List.set_cons_zero, List.set_cons_succ])
        refine wpAnyH_take (i := 18) (oi := { dst := some 28, op := Op.indexAddr 47 (Operand.tmp 25) (Operand.tmp 27), type := 0, pos := "l10_item.go:22", after := #[{ on := 15, ground := Ground.data }, { on := 17, ground := Ground.data }, { on := 9, ground := Ground.guard }], guard := some (9, true) }) (v := undef) rfl (by kernel_rfl) (by kernel_rfl) (by kernel_rfl) (fun _ _ _ h => h) (Or.inr ⟨by rfl, rfl⟩) (by assumption) ?_
        (try simp only [Act.put, List.setIfInBounds_toArray, List.set_cons_zero, List.set_cons_succ])
        refine wpAnyH_take (i := 19) (oi := { dst := some 29, op := Op.fieldAddr 53 (Operand.tmp 28) 0, type := 0, pos := "l10_item.go:22", after := #[{ on := 18, ground := Ground.data }, { on := 9, ground := Ground.guard }], guard := some (9, true) }) (v := undef) rfl (by kernel_rfl) (by kernel_rfl) (by kernel_rfl) (fun _ _ _ h => h) (Or.inr ⟨by rfl, rfl⟩) (by assumption) ?_
        (try simp only [Act.put, List.setIfInBounds_toArray, List.set_cons_zero, List.set_cons_succ])
        refine wpAnyH_take (i := 20) (oi := { dst := some 30, op := Op.load 9 (Operand.tmp 29), type := 9, pos := "l10_item.go:22", after := #[{ on := 19, ground := Ground.data }, { on := 9, ground := Ground.guard }], guard := some (9, true) }) (v := undef) rfl (by kernel_rfl) (by kernel_rfl) (by kernel_rfl) (fun _ _ _ h => h) (Or.inr ⟨by rfl, rfl⟩) (by assumption) ?_
        (try simp only [Act.put, List.setIfInBounds_toArray, List.set_cons_zero, List.set_cons_succ])
        refine wpAnyH_take (i := 21) (oi := { dst := some 31, op := Op.binOp BinOp.leq 9 (Operand.tmp 24) (Operand.tmp 30) 9, type := 4, pos := "l10_item.go:22", after := #[{ on := 14, ground := Ground.data }, { on := 20, ground := Ground.data }, { on := 9, ground := Ground.guard }], guard := some (9, true) }) (v := undef) rfl (by kernel_rfl) (by kernel_rfl) (by kernel_rfl) (fun _ _ _ h => h) (Or.inr ⟨by rfl, rfl⟩) (by assumption) ?_
        (try simp only [Act.put, List.setIfInBounds_toArray, List.set_cons_zero, List.set_cons_succ])
        refine wpAnyH_take (i := 22) (oi := { dst := some 32, op := Op.pick (Operand.tmp 19) (Operand.tmp 31) (Operand.const (Value.bool false)), type := 4, pos := "l10_item.go:22", after := #[{ on := 9, ground := Ground.data }, { on := 21, ground := Ground.data }, { on := 6, ground := Ground.guard }], guard := some (6, false) }) (v := undef) rfl (by kernel_rfl) (by kernel_rfl) (by kernel_rfl) (fun _ _ _ h => h) (Or.inr ⟨by rfl, rfl⟩) (by assumption) ?_
        (try simp only [Act.put, List.setIfInBounds_toArray, List.set_cons_zero, List.set_cons_succ])
        refine wpAnyH_take (i := 23) (oi := { dst := some 33, op := Op.pick (Operand.tmp 16) (Operand.const (Value.bool true)) (Operand.tmp 32), type := 4, pos := "l10_item.go:22", after := #[{ on := 6, ground := Ground.data }, { on := 22, ground := Ground.data }], guard := none }) (v := ?_) rfl (by kernel_rfl) (by kernel_rfl) (by kernel_rfl) (fun _ _ _ h => h) (Or.inl ⟨by rfl, ?_⟩) (by assumption) ?_
        rotate_left 1
        · intro w' hSw; (try dsimp only at hSw); go_simp; (try with_reducible rfl)
        (try simp only [Act.put, List.setIfInBounds_toArray, List.set_cons_zero, List.set_cons_succ])
        refine wpAnyH_done (by kernel_rfl) ?_ _
        go_wp2
        go_ret
        exact ⟨rfl, hBr.drew.trans (hB2.mono hsr)⟩
      | true =>
        by_cases h0 : 0 < i
        · have h0' : decide ((i : Int) > 0) = true := decide_eq_true (by omega)
          have h0'' : (0 : Int) < (i : Int) := by omega
          obtain ⟨p, hpi⟩ : ∃ p : Nat, Hid (p = i - 1) := ⟨_, rfl⟩
          have hpl : p < b.length := by have := hpi.out; omega
          have hpw : IntKind.i64.wrap ((i : Int) - 1) = (p : Int) := by rw [IntKind.wrap_i64]; have := hpi.out; omega
          have hpp : (p : Int) < (b.length : Int) := by omega
          obtain ⟨bk', off', e', -, rp⟩ := rd_item rfl rfl hRr p hpl
          cases e'
          obtain ⟨q, hq⟩ := hid_ex (b[p])
          have ep : (b[i - 1]'(by omega)) = q := by rw [← hq.out]; simp only [hpi.out]
          rw [hq.out] at rp
          simp only [ep] at hp2 hp3
          obtain ⟨N2, F2, B2, C2, U2⟩ := q
          dsimp only at hp2 hp3
          have rg2 : Hid (wr.rangeAt bk (off + p * 5) [.string N2, .int .i64 F2, .string B2, .int .i64 C2, .int .i64 U2]) := rp
          clear rp ep
          obtain ⟨l, hl2⟩ := hid_ex (Op.bytesLess N2.toList N.toList)
          cases l with
          | false =>
            have ey : y = false := by rw [← hy.out]; exact hp2 h0 hl2.out
            subst ey
            have hlb : Op.bytesLess N2.toList N.toList = false := hl2.out
            have hor : (Op.bytesLess N.toList N2.toList || N.toList == N2.toList) = true := by
              cases e : Op.bytesLess N.toList N2.toList with
              | true => rfl
              | false => rw [less_total _ _ e hlb]; simp
            clear hp1 hp2 hp3
            go_upto_region 4 with (fail)
            have hS0 : (wr.drew.cell? ⟨bk, off + i * 5, none⟩ = some (.string N) ∧ wr.drew.cell? ⟨bk, off + i * 5 + 1, none⟩ = some (.int .i64 F) ∧ wr.drew.cell? ⟨bk, off + i * 5 + 2, none⟩ = some (.string B) ∧ wr.drew.cell? ⟨bk, off + i * 5 + 3, none⟩ = some (.int .i64 C) ∧ wr.drew.cell? ⟨bk, off + i * 5 + 4, none⟩ = some (.int .i64 U)) ∧ wr.drew.cell? ⟨bk, off + p * 5, none⟩ = some (.string N2) := ⟨rng5 (w := wr.drew) rg.out, (rng5 (w := wr.drew) rg2.out).1⟩
            go_region_held3 (fun w' => (w'.cell? ⟨bk, off + i * 5, none⟩ = some (.string N) ∧ w'.cell? ⟨bk, off + i * 5 + 1, none⟩ = some (.int .i64 F) ∧ w'.cell? ⟨bk, off + i * 5 + 2, none⟩ = some (.string B) ∧ w'.cell? ⟨bk, off + i * 5 + 3, none⟩ = some (.int .i64 C) ∧ w'.cell? ⟨bk, off + i * 5 + 4, none⟩ = some (.int .i64 U)) ∧ w'.cell? ⟨bk, off + p * 5, none⟩ = some (.string N2)) (first | assumption | exact hS0) (first | (go_at_call 81; refine (specItemOk_any N B F C U _ hx (by omega) (by omega) _).mono ?_; rintro e w2 ⟨rfl, hB2⟩; have hS2 := And.intro (rng5 (range_of rg.out (hB2.block bk hb))) (rng5 (range_of rg2.out (hB2.block bk hb))).1) | (fail))
            go_wp2
            go_ret
            exact ⟨rfl, hBr.drew.trans (hB2.mono hsr)⟩
          | true =>
            have hlb : Op.bytesLess N2.toList N.toList = true := hl2.out
            have hor1 : Op.bytesLess N.toList N2.toList = false := less_asymm _ _ hlb
            have hor2 : (N.toList == N2.toList) = false := by
              cases e : (N.toList == N2.toList) with
              | false => rfl
              | true => rw [eq_of_beq e, less_irrefl] at hlb; cases hlb
            have hP3 : Hid (PreB b (i + 1)) := hp3 hx.out fun _ => hl2.out
            clear hp1 hp2 hp3
            go_upto_region 4 with (fail)
            have hS0 : (wr.drew.cell? ⟨bk, off + i * 5, none⟩ = some (.string N) ∧ wr.drew.cell? ⟨bk, off + i * 5 + 1, none⟩ = some (.int .i64 F) ∧ wr.drew.cell? ⟨bk, off + i * 5 + 2, none⟩ = some (.string B) ∧ wr.drew.cell? ⟨bk, off + i * 5 + 3, none⟩ = some (.int .i64 C) ∧ wr.drew.cell? ⟨bk, off + i * 5 + 4, none⟩ = some (.int .i64 U)) ∧ wr.drew.cell? ⟨bk, off + p * 5, none⟩ = some (.string N2) := ⟨rng5 (w := wr.drew) rg.out, (rng5 (w := wr.drew) rg2.out).1⟩
            go_region_held3 (fun w' => (w'.cell? ⟨bk, off + i * 5, none⟩ = some (.string N) ∧ w'.cell? ⟨bk, off + i * 5 + 1, none⟩ = some (.int .i64 F) ∧ w'.cell? ⟨bk, off + i * 5 + 2, none⟩ = some (.string B) ∧ w'.cell? ⟨bk, off + i * 5 + 3, none⟩ = some (.int .i64 C) ∧ w'.cell? ⟨bk, off + i * 5 + 4, none⟩ = some (.int .i64 U)) ∧ w'.cell? ⟨bk, off + p * 5, none⟩ = some (.string N2)) (first | assumption | exact hS0) (first | (go_at_call 81; refine (specItemOk_any N B F C U _ hx (by omega) (by omega) _).mono ?_; rintro e w2 ⟨rfl, hB2⟩; have hS2 := And.intro (rng5 (range_of rg.out (hB2.block bk hb))) (rng5 (range_of rg2.out (hB2.block bk hb))).1) | (fail))
            go_wp2
            go_roundw
            case rel => exact ⟨i + 1, by omega, by go_num, hP3, hBr.drew.trans (hB2.mono hsr)⟩
            case measure => simp [intOf]; omega
        · have hP3 : Hid (PreB b (i + 1)) := hp3 hx.out fun h => absurd h h0
          have h0' : decide ((i : Int) > 0) = false := decide_eq_false (by omega)
          have h0'' : ¬ (0 : Int) < (i : Int) := by omega
          clear hp1 hp2 hp3
          go_upto_region 4 with (fail)
          refine wp_region_held_drew (S := fun w' => w'.cell? ⟨bk, off + i * 5, none⟩ = some (.string N) ∧ w'.cell? ⟨bk, off + i * 5 + 1, none⟩ = some (.int .i64 F) ∧ w'.cell? ⟨bk, off + i * 5 + 2, none⟩ = some (.string B) ∧ w'.cell? ⟨bk, off + i * 5 + 3, none⟩ = some (.int .i64 C) ∧ w'.cell? ⟨bk, off + i * 5 + 4, none⟩ = some (.int .i64 U)) (by kernel_rfl) (rng5 (w := wr.drew) rg.out) (fun hHeld => ?_)
          refine wpAnyH_take (i := 0) (oi := { dst := some 10, op := Op.move (Operand.tmp 0), type := 47, pos := "l10_item.go:22", after := #[], guard := none }) (v := ?_) rfl (by kernel_rfl) (by kernel_rfl) (by kernel_rfl) (fun _ _ _ h => h) (Or.inl ⟨by rfl, ?_⟩) (by assumption) ?_
          rotate_left 1
          · intro w' hSw; (try dsimp only at hSw); go_simp; (try with_reducible rfl)
          (try simp only [Act.put, List.setIfInBounds_toArray, List.set_cons_zero, List.set_cons_succ])
          refine wpAnyH_take (i := 1) (oi := { dst := some 11, op := Op.move (Operand.tmp 3), type := 3, pos := "l10_item.go:22", after := #[], guard := none }) (v := ?_) rfl (by kernel_rfl) (by kernel_rfl) (by kernel_rfl) (fun _ _ _ h => h) (Or.inl ⟨by rfl, ?_⟩) (by assumption) ?_
          rotate_left 1
          · intro w' hSw; (try dsimp only at hSw); go_simp; (try with_reducible rfl)
          (try simp only [Act.put, List.setIfInBounds_toArray, List.set_cons_zero, List.set_cons_succ])
          refine wpAnyH_take (i := 2) (oi := { dst := some 12, op := Op.indexAddr 47 (Operand.tmp 10) (Operand.tmp 11), type := 0, pos := "l10_item.go:22", after := #[{ on := 0, ground := Ground.data }, { on := 1, ground := Ground.data }], guard := none }) (v := ?_) rfl (by kernel_rfl) (by kernel_rfl) (by kernel_rfl) (fun _ _ _ h => h) (Or.inl ⟨by rfl, ?_⟩) (by assumption) ?_
          rotate_left 1
          · intro w' hSw; (try dsimp only at hSw); go_simp; (try with_reducible rfl)
          (try simp only [Act.put, List.setIfInBounds_toArray, List.set_cons_zero, List.set_cons_succ])
          refine wpAnyH_take (i := 3) (oi := { dst := some 13, op := Op.load 53 (Operand.tmp 12), type := 53, pos := "l10_item.go:22", after := #[{ on := 2, ground := Ground.data }], guard := none }) (v := ?_) rfl (by kernel_rfl) (by kernel_rfl) (by kernel_rfl) (fun _ _ _ h => h) (Or.inl ⟨by rfl, ?_⟩) (by assumption) ?_
          rotate_left 1
          · intro w' hSw; (try dsimp only at hSw); go_simp; (try with_reducible rfl)
          (try simp only [Act.put, List.setIfInBounds_toArray, List.set_cons_zero, List.set_cons_succ])
          refine wpAnyH_ready (rs := [4]) (by kernel_rfl) (by simp) ?_
          refine AllReadyH.cons (o := { dst := some 14, op := Op.call { callee := Callee.value (Operand.func 81), args := #[Operand.tmp 13], argTypes := #[53] }, type := 4, pos := "l10_item.go:22", after := #[{ on := 3, ground := Ground.data }], guard := none }) rfl (fun KC hKC => ?_) AllReadyH.nil
          go_simp
          (go_at_call 81; refine (specItemOk_any N B F C U _ hx (by omega) (by omega) _).mono ?_; rintro e w2 ⟨rfl, hB2⟩; have hz2 := hB2.size)
          refine hKC.out _ _ (rng5 (range_of rg.out (hB2.block bk hb))) (fun hHeld2 => ?_)
          clear hKC KC hHeld
          have hHeld := hHeld2
          clear hHeld2
          (try simp only [Act.put, List.setIfInBounds_toArray, List.set_cons_zero, List.set_cons_succ])
          refine wpAnyH_take (i := 5) (oi := { dst := some 15, op := Op.unOp UnOp.not 4 (Operand.tmp 14), type := 4, pos := "l10_item.go:22", after := #[{ on := 4, ground := Ground.data }], guard := none }) (v := ?_) rfl (by kernel_rfl) (by kernel_rfl) (by kernel_rfl) (fun _ _ _ h => h) (Or.inl ⟨by rfl, ?_⟩) (by assumption) ?_
          rotate_left 1
          · intro w' hSw; (try dsimp only at hSw); go_simp; (try with_reducible rfl)
          (try simp only [Act.put, List.setIfInBounds_toArray, List.set_cons_zero, List.set_cons_succ])
          refine wpAnyH_take (i := 6) (oi := { dst := some 16, op := Op.move (Operand.tmp 15), type := 4, pos := "l10_item.go:22", after := #[{ on := 5, ground := Ground.data }, { on := 4, ground := Ground.chain }], guard := none }) (v := ?_) rfl (by kernel_rfl) (by kernel_rfl) (by kernel_rfl) (fun _ _ _ h => h) (Or.inl ⟨by rfl, ?_⟩) (by assumption) ?_
          rotate_left 1
          · intro w' hSw; (try dsimp only at hSw); go_simp; (try with_reducible rfl)
          (try simp only [Act.put, List.setIfInBounds_toArray, List.set_cons_zero, List.set_cons_succ])
          refine wpAnyH_take (i := 7) (oi := { dst := some 17, op := Op.move (Operand.tmp 3), type := 3, pos := "l10_item.go:22", after := #[{ on := 6, ground := Ground.guard }], guard := some (6, false) }) (v := ?_) rfl (by kernel_rfl) (by kernel_rfl) (by kernel_rfl) (fun _ _ _ h => h) (Or.inl ⟨by rfl, ?_⟩) (by assumption) ?_
          rotate_left 1
          · intro w' hSw; (try dsimp only at hSw); go_simp; (try with_reducible rfl)
          (try simp only [Act.put, List.setIfInBounds_toArray, List.set_cons_zero, List.set_cons_succ])
          refine wpAnyH_take (i := 8) (oi := { dst := some 18, op := Op.binOp BinOp.gtr 3 (Operand.tmp 17) (Operand.const (Value.int IntKind.i64 0)) 3, type := 4, pos := "l10_item.go:22", after := #[{ on := 7, ground := Ground.data }, { on := 6, ground := Ground.guard }], guard := some (6, false) }) (v := ?_) rfl (by kernel_rfl) (by kernel_rfl) (by kernel_rfl) (fun _ _ _ h => h) (Or.inl ⟨by rfl, ?_⟩) (by assumption) ?_
          rotate_left 1
          · intro w' hSw; (try dsimp only at hSw); go_simp; (try with_reducible rfl)
          (try simp only [Act.put, List.setIfInBounds_toArray, List.set_cons_zero, List.set_cons_succ])
          refine wpAnyH_take (i := 9) (oi := { dst := some 19, op := Op.move (Operand.tmp 18), type := 4, pos := "l10_item.go:22", after := #[{ on := 8, ground := Ground.data }, { on := 6, ground := Ground.chain }, { on := 6, ground := Ground.guard }], guard := some (6, false) }) (v := ?_) rfl (by kernel_rfl) (by kernel_rfl) (by kernel_rfl) (fun _ _ _ h => h) (Or.inl ⟨by rfl, ?_⟩) (by assumption) ?_
          rotate_left 1
          · intro w' hSw; (try dsimp only at hSw); go_simp; (try with_reducible rfl)
          (try simp only [Act.put, List.setIfInBounds_toArray, List.set_cons_zero, List.set_cons_succ])
          refine wpAnyH_take (i := 10) (oi := { dst := some 20, op := Op.move (Operand.tmp 0), type := 47, pos := "l10_item.go:22", after := #[{ on := 9, ground := Ground.guard }], guard := some (9, true) }) (v := undef) rfl (by kernel_rfl) (by kernel_rfl) (by kernel_rfl) (fun _ _ _ h => h) (Or.inr ⟨by rfl, rfl⟩) (by assumption) ?_
          (try simp only [Act.put, List.setIfInBounds_toArray, List.set_cons_zero, List.set_cons_succ])
          refine wpAnyH_take (i := 11) (oi := { dst := some 21, op := Op.move (Operand.tmp 3), type := 3, pos := "l10_item.go:22", after := #[{ on := 9, ground := Ground.guard }], guard := some (9, true) }) (v := undef) rfl (by kernel_rfl) (by kernel_rfl) (by kernel_rfl) (fun _ _ _ h => h) (Or.inr ⟨by rfl, rfl⟩) (by assumption) ?_
          (try simp only [Act.put, List.setIfInBounds_toArray, List.set_cons_zero, List.set_cons_succ])
          refine wpAnyH_take (i := 12) (oi := { dst := some 22, op := Op.indexAddr 47 (Operand.tmp 20) (Operand.tmp 21), type := 0, pos := "l10_item.go:22", after := #[{ on := 10, ground := Ground.data }, { on := 11, ground := Ground.data }, { on := 9, ground := Ground.guard }], guard := some (9, true) }) (v := undef) rfl (by kernel_rfl) (by kernel_rfl) (by kernel_rfl) (fun _ _ _ h => h) (Or.inr ⟨by rfl, rfl⟩) (by assumption) ?_
          (try simp only [Act.put, List.setIfInBounds_toArray, List.set_cons_zero, List.set_cons_succ])
          refine wpAnyH_take (i := 13) (oi := { dst := some 23, op := Op.fieldAddr 53 (Operand.tmp 22) 0, type := 0, pos := "l10_item.go:22", after := #[{ on := 12, ground := Ground.data }, { on := 9, ground := Ground.guard }], guard := some (9, true) }) (v := undef) rfl (by kernel_rfl) (by kernel_rfl) (by kernel_rfl) (fun _ _ _ h => h) (Or.inr ⟨by rfl, rfl⟩) (by assumption) ?_
          (try simp only [Act.put, List.setIfInBounds_toArray, List.set_cons_zero, List.set_cons_succ])
          refine wpAnyH_take (i := 14) (oi := { dst := some 24, op := Op.load 9 (Operand.tmp 23), type := 9, pos := "l10_item.go:22", after := #[{ on := 13, ground := Ground.data }, { on := 9, ground := Ground.guard }], guard := some (9, true) }) (v := undef) rfl (by kernel_rfl) (by kernel_rfl) (by kernel_rfl) (fun _ _ _ h => h) (Or.inr ⟨by rfl, rfl⟩) (by assumption) ?_
          (try simp only [Act.put, List.setIfInBounds_toArray, List.set_cons_zero, List.set_cons_succ])
          refine wpAnyH_take (i := 15) (oi := { dst := some 25, op := Op.move (Operand.tmp 0), type := 47, pos := "l10_item.go:22", after := #[{ on := 9, ground := Ground.guard }], guard := some (9, true) }) (v := undef) rfl (by kernel_rfl) (by kernel_rfl) (by kernel_rfl) (fun _ _ _ h => h) (Or.inr ⟨by rfl, rfl⟩) (by assumption) ?_
          (try simp only [Act.put, List.setIfInBounds_toArray, List.set_cons_zero, List.set_cons_succ])
          refine wpAnyH_take (i := 16) (oi := { dst := some 26, op := Op.move (Operand.tmp 3), type := 3, pos := "l10_item.go:22", after := #[{ on := 9, ground := Ground.guard }], guard := some (9, true) }) (v := undef) rfl (by kernel_rfl) (by kernel_rfl) (by kernel_rfl) (fun _ _ _ h => h) (Or.inr ⟨by rfl, rfl⟩) (by assumption) ?_
          (try simp only [Act.put, List.setIfInBounds_toArray, List.set_cons_zero, List.set_cons_succ])
          refine wpAnyH_take (i := 17) (oi := { dst := some 27, op := Op.binOp BinOp.sub 3 (Operand.tmp 26) (Operand.const (Value.int IntKind.i64 1)) 3, type := 3, pos := "l10_item.go:22", after := #[{ on := 16, ground := Ground.data }, { on := 9, ground := Ground.guard }], guard := some (9, true) }) (v := undef) rfl (by kernel_rfl) (by kernel_rfl) (by kernel_rfl) (fun _ _ _ h => h) (Or.inr ⟨by rfl, rfl⟩) (by assumption) ?_
          (try simp only [Act.put, List.setIfInBounds_toArray, List.set_cons_zero, List.set_cons_succ])
          refine wpAnyH_take (i := 18) (oi := { dst := some 28, op := Op.indexAddr 47 (Operand.tmp 25) (Operand.tmp 27), type := 0, pos := "l10_item.go:22", after := #[{ on := 15, ground := Ground.data }, { on := 17, ground := Ground.data }, { on := 9, ground := Ground.guard }], guard := some (9, true) }) (v := undef) rfl (by kernel_rfl) (by kernel_rfl) (by kernel_rfl) (fun _ _ _ h => h) (Or.inr ⟨by rfl, rfl⟩) (by assumption) ?_
          (try simp only [Act.put, List.setIfInBounds_toArray, List.set_cons_zero, List.set_cons_succ])
          refine wpAnyH_take (i := 19) (oi := { dst := some 29, op := Op.fieldAddr 53 (Operand.tmp 28) 0, type := 0, pos := "l10_item.go:22", after := #[{ on := 18, ground := Ground.data }, { on := 9, ground := Ground.guard }], guard := some (9, true) }) (v := undef) rfl (by kernel_rfl) (by kernel_rfl) (by kernel_rfl) (fun _ _ _ h => h) (Or.inr ⟨by rfl, rfl⟩) (by assumption) ?_
          (try simp only [Act.put, List.setIfInBounds_toArray, List.set_cons_zero, List.set_cons_succ])
          refine wpAnyH_take (i := 20) (oi := { dst := some 30, op := Op.load 9 (Operand.tmp 29), type := 9, pos := "l10_item.go:22", after := #[{ on := 19, ground := Ground.data }, { on := 9, ground := Ground.guard }], guard := some (9, true) }) (v := undef) rfl (by kernel_rfl) (by kernel_rfl) (by kernel_rfl) (fun _ _ _ h => h) (Or.inr ⟨by rfl, rfl⟩) (by assumption) ?_
          (try simp only [Act.put, List.setIfInBounds_toArray, List.set_cons_zero, List.set_cons_succ])
          refine wpAnyH_take (i := 21) (oi := { dst := some 31, op := Op.binOp BinOp.leq 9 (Operand.tmp 24) (Operand.tmp 30) 9, type := 4, pos := "l10_item.go:22", after := #[{ on := 14, ground := Ground.data }, { on := 20, ground := Ground.data }, { on := 9, ground := Ground.guard }], guard := some (9, true) }) (v := undef) rfl (by kernel_rfl) (by kernel_rfl) (by kernel_rfl) (fun _ _ _ h => h) (Or.inr ⟨by rfl, rfl⟩) (by assumption) ?_
          (try simp only [Act.put, List.setIfInBounds_toArray, List.set_cons_zero, List.set_cons_succ])
          refine wpAnyH_take (i := 22) (oi := { dst := some 32, op := Op.pick (Operand.tmp 19) (Operand.tmp 31) (Operand.const (Value.bool false)), type := 4, pos := "l10_item.go:22", after := #[{ on := 9, ground := Ground.data }, { on := 21, ground := Ground.data }, { on := 6, ground := Ground.guard }], guard := some (6, false) }) (v := ?_) rfl (by kernel_rfl) (by kernel_rfl) (by kernel_rfl) (fun _ _ _ h => h) (Or.inl ⟨by rfl, ?_⟩) (by assumption) ?_
          rotate_left 1
          · intro w' hSw; (try dsimp only at hSw); go_simp; (try with_reducible rfl)
          (try simp only [Act.put, List.setIfInBounds_toArray, List.set_cons_zero, List.set_cons_succ])
          refine wpAnyH_take (i := 23) (oi := { dst := some 33, op := Op.pick (Operand.tmp 16) (Operand.const (Value.bool true)) (Operand.tmp 32), type := 4, pos := "l10_item.go:22", after := #[{ on := 6, ground := Ground.data }, { on := 22, ground := Ground.data }], guard := none }) (v := ?_) rfl (by kernel_rfl) (by kernel_rfl) (by kernel_rfl) (fun _ _ _ h => h) (Or.inl ⟨by rfl, ?_⟩) (by assumption) ?_
          rotate_left 1
          · intro w' hSw; (try dsimp only at hSw); go_simp; (try with_reducible rfl)
          (try simp only [Act.put, List.setIfInBounds_toArray, List.set_cons_zero, List.set_cons_succ])
          refine wpAnyH_done (by kernel_rfl) ?_ _
          go_wp2
          go_roundw
          case rel => exact ⟨i + 1, by omega, by go_num, hP3, hBr.drew.trans (hB2.mono hsr)⟩
          case measure => simp [intOf]; omega
    · have hlt' : ¬ (i : Int) < (b.length : Int) := by omega
      have hP2 := hP.out
      rw [show i = b.length by omega] at hP2
      have ey : Hid (y = decide ((b.length : Int) ≤ 20)) := by unfold Hid; rw [← hy.out, preB_all hP2]
      clear hP2
      go_wp2
      go_ret
      exact ⟨by rw [ey.out]; rfl, hBr⟩

theorem heavy_no {b : List It} (h : bookB b = false) : heavyI b = -1 := by unfold heavyI; rw [h]; rfl
theorem heavy_yes {b : List It} (h : bookB b = true) : heavyI b = (sumW b : Int) := by unfold heavyI; rw [h]; rfl
end Go.Proofs.Ytmnjmghlkiljhaa.rg
/- What the laws of chapter 10 draw, third part: a thing is put where it belongs. -/
namespace Go.Proofs.Ytmnjmghlkiljhaa.rg
open Go.ChangeShapes Go.WideShapes Go.ChangeAt Go.RowKit
open Go.Proofs.Ytmnjmghlkiljhaa.ce Go.Proofs.Ytmnjmghlkiljhaa.ro Go.Proofs.Ytmnjmghlkiljhaa.draw
set_option linter.unusedVariables false

/-- what stands behind: without the first one, where that goes by the name -/
def bhd (s : ByteArray) : List It → List It
  | [] => []
  | x :: r => if x.N = s then r else x :: r
theorem rdIt_rest {w : World} {b off n cap : Nat} {xs : List It} (r : Rd encIt w (.slice (some ⟨b, off, none⟩) n cap) xs) (m : Nat) (hm : m ≤ xs.length) :
    Rd encIt w (.slice (if cap = m then some ⟨b, off, none⟩ else some ⟨b, off + m * 5, none⟩) (n - m) (cap - m)) (xs.drop m) := by
  rcases r.rest m hm with ⟨h1, h2⟩ | ⟨h1, h2, h3, h4⟩
  · rw [if_neg (by omega)]
    exact h2.out
  · rw [if_pos h1.symm, h1, h2, h1, Nat.sub_self, ← h1]
    exact h4.out

theorem sp_alloc {w w' : World} {b : Nat} {t : TypeId} {v0 v1 v2 v3 v4 : Value} {o : Obj} (V : VBlk w b t [v0, v1, v2, v3, v4]) (h : Below w.heap.size w w' ∧ w'.cell? ⟨b, 0, none⟩ = some v0 ∧ w'.cell? ⟨b, 1, none⟩ = some v1 ∧ w'.cell? ⟨b, 2, none⟩ = some v2 ∧ w'.cell? ⟨b, 3, none⟩ = some v3 ∧ w'.cell? ⟨b, 4, none⟩ = some v4) :
    Below w.heap.size w (w'.alloc o) ∧ (w'.alloc o).cell? ⟨b, 0, none⟩ = some v0 ∧ (w'.alloc o).cell? ⟨b, 1, none⟩ = some v1 ∧ (w'.alloc o).cell? ⟨b, 2, none⟩ = some v2 ∧ (w'.alloc o).cell? ⟨b, 3, none⟩ = some v3 ∧ (w'.alloc o).cell? ⟨b, 4, none⟩ = some v4 :=
  ⟨h.1.alloc h.1.size _, cells5 (vblk_grow V (h.1.alloc h.1.size _))⟩
theorem sp_alloc_drew {w w' : World} {b : Nat} {t : TypeId} {v0 v1 v2 v3 v4 : Value} {o : Obj} (V : VBlk w b t [v0, v1, v2, v3, v4]) (h : Below w.heap.size w w'.drew ∧ w'.drew.cell? ⟨b, 0, none⟩ = some v0 ∧ w'.drew.cell? ⟨b, 1, none⟩ = some v1 ∧ w'.drew.cell? ⟨b, 2, none⟩ = some v2 ∧ w'.drew.cell? ⟨b, 3, none⟩ = some v3 ∧ w'.drew.cell? ⟨b, 4, none⟩ = some v4) :
    Below w.heap.size w (w'.alloc o).drew ∧ (w'.alloc o).drew.cell? ⟨b, 0, none⟩ = some v0 ∧ (w'.alloc o).drew.cell? ⟨b, 1, none⟩ = some v1 ∧ (w'.alloc o).drew.cell? ⟨b, 2, none⟩ = some v2 ∧ (w'.alloc o).drew.cell? ⟨b, 3, none⟩ = some v3 ∧ (w'.alloc o).drew.cell? ⟨b, 4, none⟩ = some v4 :=
  sp_alloc (w' := w'.drew) V h
theorem sp_trans {w w' w'' : World} {b B : Nat} {t : TypeId} {X : Prop} {v0 v1 v2 v3 v4 : Value} (V : VBlk w b t [v0, v1, v2, v3, v4]) (h : Below w.heap.size w w' ∧ X) (k : Below B w' w'') (hB : w.heap.size ≤ B) :
    Below w.heap.size w w'' ∧ w''.cell? ⟨b, 0, none⟩ = some v0 ∧ w''.cell? ⟨b, 1, none⟩ = some v1 ∧ w''.cell? ⟨b, 2, none⟩ = some v2 ∧ w''.cell? ⟨b, 3, none⟩ = some v3 ∧ w''.cell? ⟨b, 4, none⟩ = some v4 :=
  ⟨h.1.trans (k.mono hB), cells5 (vblk_grow V (h.1.trans (k.mono hB)))⟩
theorem sp_size {w w' w'' : World} {t : TypeId} {X : Prop} (hT : Ty w'.heap.size t w' w'') (h : Below w.heap.size w w' ∧ X) : w.heap.size ≤ w'.heap.size := h.1.size
theorem sp_b {w w' : World} {X : Prop} (h : Below w.heap.size w w' ∧ X) : Below w.heap.size w w' := h.1

set_option maxRecDepth 100000 in
set_option maxHeartbeats 4000000 in
theorem l10Put_any (b : List It) (ab off n cap : Nat) (N B : ByteArray) (F C U : Int) (w : World) (r : Rd encIt w (.slice (some ⟨ab, off, none⟩) n cap) b) (hl : b.length ≤ 1000000) :
    Calls Try.prog 139 #[.slice (some ⟨ab, off, none⟩) n cap, .agg #[.string N, .int .i64 F, .string B, .int .i64 C, .int .i64 U]] w fun e w' => ∃ v' k, e = .returned v' ∧ Own encIt w' w.heap.size w'.heap.size v' (b.take k ++ ⟨N, F, B, C, U⟩ :: bhd N (b.drop k)) ∧ Below w.heap.size w w' ∧ k ≤ b.length ∧ (∀ x ∈ b.take k, ltS x.N N = true) ∧ (∀ h : k < b.length, ltS b[k].N N = false) := by
  obtain ⟨rfl, hc1, hc2⟩ := r.cap
  have R : Hid (Rd encIt w (.slice (some ⟨ab, off, none⟩) b.length cap) b) := r
  clear r
  go_enter Try.func139, Try.ntmps139
  go_wp2_with (first | (refine wpList_box_v rfl 53 _ rfl [.string N, .int .i64 F, .string B, .int .i64 C, .int .i64 U] rfl ?_; intro b1 w1 hb1 hw1 hB1 V1; have hz1 := hB1.size) | (fail))
  have VV : Hid (VBlk w1 b1 53 [.string N, .int .i64 F, .string B, .int .i64 C, .int .i64 U]) := V1
  clear V1
  go_loopw [5] (fun p wr => ∃ k : Nat, k ≤ b.length ∧ p = .int .i64 k ∧ Hid (∀ x ∈ b.take k, ltS x.N N = true) ∧ Hid (Below w1.heap.size w1 wr)) (fun p _ => b.length - (intOf p).toNat)
  case atStart => exact ⟨0, by omega, rfl, (fun x hx => by simp at hx), Below.refl _ _⟩
  case round =>
    obtain ⟨k, hk1, rfl, hP, hBr⟩ := hrel
    have hk0 : (0 : Int) ≤ (k : Int) := by omega
    have hk2 : (k : Int) ≤ (b.length : Int) := by omega
    have hk3 : (k : Int) ≤ (cap : Int) := by omega
    have hk4 : (b.length : Int) ≤ (cap : Int) := by omega
    have hBw : Below w.heap.size w wr := hB1.trans (hBr.out.mono hz1)
    have hzr := hBr.out.size
    have c0 := (cells5 (vblk_grow VV.out hBr.out)).1
    by_cases hlt : k < b.length
    · obtain ⟨ab', off', e', hb, rg⟩ := rd_item rfl rfl (R.out.grow hBw) k hlt
      cases e'
      have d0 := (rng5 rg).1
      have hlt' : (k : Int) < (b.length : Int) := by omega
      have hdc : decide ((k : Int) < (b.length : Int)) = true := decide_eq_true hlt'
      have htk : b.take (k + 1) = b.take k ++ [b[k]] := List.take_succ_eq_append_getElem hlt
      have hdr : b.drop k = b[k] :: b.drop (k + 1) := List.drop_eq_getElem_cons hlt
      obtain ⟨z, hz⟩ := hid_ex (b[k])
      rw [hz.out] at d0 htk hdr
      obtain ⟨Z, F2, B2, C2, U2⟩ := z
      dsimp only at d0
      clear rg
      cases hls : Op.bytesLess Z.toList N.toList with
      | true =>
        have hP2 : Hid (∀ x ∈ b.take (k + 1), ltS x.N N = true) := fun x hx => by
          rw [htk] at hx
          rcases List.mem_append.1 hx with q | q
          · exact hP.out x q
          · rw [List.mem_singleton.1 q]; exact hls
        clear htk hdr
        go_wp2
        go_quiet (fail)
        go_wp2
        go_roundw
        case rel => exact ⟨k + 1, by omega, by go_num, hP2, hBr.out.trans (ce.below_drewN _ _)⟩
        case measure => simp [intOf]; omega
      | false =>
        have hKK : Hid (∀ h : k < b.length, ltS b[k].N N = false) := fun h => by rw [hz.out]; exact hls
        clear htk
        by_cases hen : Z.toList = N.toList
        · have heq : (Z.toList == N.toList) = true := by simpa using hen
          have heN : Hid (Z = N) := str_eq hen
          clear hen
          go_wp2
          go_quiet (fail)
          generalize hwq : wr.drewN nq = wq
          have hBq : Below wr.heap.size wr wq := hwq ▸ ce.below_drewN _ _
          have hzq := hBq.size
          have hBwq : Below w.heap.size w wq := hBw.trans (hBq.mono hBw.size)
          have Vq : Hid (VBlk wq b1 53 [.string N, .int .i64 F, .string B, .int .i64 C, .int .i64 U]) := vblk_grow (vblk_grow VV.out hBr.out) hBq
          have RT : Hid (Rd encIt wq (.slice (some ⟨ab, off, none⟩) k cap) (b.take k)) := (R.out.grow hBwq).take k hk1
          have RD : Hid (Rd encIt wq (.slice (some ⟨ab, off + k * 5, none⟩) (b.length - k) (cap - k)) (b.drop k)) := by
            have := rdIt_rest (R.out.grow hBwq) k hk1
            rw [if_neg (by omega)] at this
            exact this
          have hdl : (b.drop k).length ≤ 1000000 := by rw [List.length_drop]; omega
          have htl : (b.take k).length ≤ 1000000 := by rw [List.length_take]; omega
          clear hwq c0 hBr
          have m4 : Hid True := trivial
          go_wp2_with (first | (clear m4; at_builtin; refine wpList_append_g infoIt rfl _ _ 47 rfl Try.underlying47 wq.heap.size _ _ [] rfl (own_zero _ _ _ 0 _) (by simp) _ (b.drop k) rfl (RD.out.grow ((Below.refl _ _).alloc (Nat.le_refl _) _)) (by simp; omega) ?_; intro v4 w4 o4 hT4; rw [List.nil_append] at o4; have hB4 : Below wq.heap.size wq w4 := ((Below.refl _ _).alloc (Nat.le_refl _) _).trans hT4.low) | (fail))
          have hz4 := hB4.size
          have V4 : Hid (VBlk w4 b1 53 [.string N, .int .i64 F, .string B, .int .i64 C, .int .i64 U]) := vblk_grow Vq.out hB4
          have c0 := (cells5 V4.out).1
          rw [hdr] at o4
          obtain ⟨g4, k4, e4, hg4, hg4', hg4''⟩ := o4.form (by simp)
          obtain ⟨n4, hn4⟩ := hid_ex (⟨Z, F2, B2, C2, U2⟩ :: b.drop (k + 1)).length
          rw [hn4.out] at e4
          have hn5 : 1 ≤ n4 := by have := hn4.out; simp at this; omega
          subst e4
          have hk5 := o4.rd.cap.2
          have hn4' : decide (0 < n4) = true := decide_eq_true (by omega)
          have hn9 : 0 < n4 := by omega
          have hn6 : (1 : Int) ≤ (n4 : Int) := by omega
          have hn7 : (n4 : Int) ≤ (k4 : Int) := by omega
          have hn8 : (1 : Int) ≤ (k4 : Int) := by omega
          have O4 : Hid (Own encIt w4 wq.heap.size w4.heap.size (.slice (some ⟨g4, 0, none⟩) n4 k4) (⟨Z, F2, B2, C2, U2⟩ :: b.drop (k + 1))) := o4
          obtain ⟨g4x, offx, ex, -, rgx⟩ := rd_item rfl rfl o4.rd 0 (by simp)
          cases ex
          have e0 := (rng5 rgx).1
          simp only [Nat.zero_mul, Nat.add_zero, List.getElem_cons_zero] at e0
          clear o4 rgx
          go_wp2
          go_quiet (fail)
          generalize hwv : w4.drewN nq = w5
          have hB5 : Below w4.heap.size w4 w5 := hwv ▸ ce.below_drewN _ _
          have hz5 := hB5.size
          have V5 : Hid (VBlk w5 b1 53 [.string N, .int .i64 F, .string B, .int .i64 C, .int .i64 U]) := vblk_grow V4.out hB5
          have RT5 : Hid (Rd encIt w5 (.slice (some ⟨ab, off, none⟩) k cap) (b.take k)) := (RT.out.grow hB4).grow hB5
          have hBw5 : Below w.heap.size w w5 := (hBwq.trans (hB4.mono hBwq.size)).trans (hB5.mono (Nat.le_trans hBwq.size hz4))
          clear hwv
          have hxl : (b.drop (k + 1)).length ≤ 1000000 := by first | (rw [← hdr]; exact hdl) | (rw [hdr] at hdl; simp at hdl ⊢; omega) | simp
          by_cases hk41 : k4 = 1
          · subst hk41
            obtain rfl : n4 = 1 := by omega
            have hnil : b.drop (k + 1) = [] := by have := hn4.out; simp at this; exact List.drop_eq_nil_of_le (by omega)
            have RR4 : Rd encIt w5 (.slice (some ⟨g4, 0, none⟩) 0 0) (b.drop (k + 1)) := by rw [hnil]; exact rd_zero _ _ _ _ (Nat.zero_le _)
            clear hnil O4
            have R5 : Hid (Rd encIt w5 (.slice (some ⟨g4, 0, none⟩) 0 0) (b.drop (k + 1))) := RR4
            clear RR4
            go_wp2
            have hS0 : Below w5.heap.size w5 w5.drew ∧ w5.drew.cell? ⟨b1, 0, none⟩ = some (.string N) ∧ w5.drew.cell? ⟨b1, 1, none⟩ = some (.int .i64 F) ∧ w5.drew.cell? ⟨b1, 2, none⟩ = some (.string B) ∧ w5.drew.cell? ⟨b1, 3, none⟩ = some (.int .i64 C) ∧ w5.drew.cell? ⟨b1, 4, none⟩ = some (.int .i64 U) := ⟨(Below.refl _ _).drew, cells5 (w := w5.drew) V5.out⟩
            have m7 : Hid True := trivial
            have m8 : Hid True := trivial
            go_region_held3 (fun w' => Below w5.heap.size w5 w' ∧ w'.cell? ⟨b1, 0, none⟩ = some (.string N) ∧ w'.cell? ⟨b1, 1, none⟩ = some (.int .i64 F) ∧ w'.cell? ⟨b1, 2, none⟩ = some (.string B) ∧ w'.cell? ⟨b1, 3, none⟩ = some (.int .i64 C) ∧ w'.cell? ⟨b1, 4, none⟩ = some (.int .i64 U)) (first | with_reducible assumption | with_reducible exact hS0 | with_reducible exact sp_alloc V5.out (by with_reducible assumption) | with_reducible exact sp_alloc_drew V5.out (by with_reducible assumption) | (fail)) (first | (clear m7; refine step_append_g infoIt rfl _ _ 47 rfl Try.underlying47 _ 0 _ [] rfl (own_zero _ _ _ _ _) (Nat.le_refl _) _ (b.take k) rfl (RT5.out.grow (sp_b (by with_reducible assumption))) (by simp; omega) ?_; intro v6 w6 o6 hT6; rw [List.nil_append] at o6; have hzc := sp_size hT6 (by with_reducible assumption); have hS6 := sp_trans V5.out (by with_reducible assumption) hT6.low hzc) | (clear m8; refine step_append_g infoIt rfl _ _ 47 rfl Try.underlying47 _ _ _ (b.take k) rfl (o6.grow ((Below.refl _ _).alloc (Nat.le_refl _) _)) (Nat.le_trans hT6.low.size (by simp)) (.slice (some ⟨w6.heap.size, 0, none⟩) 1 1) [⟨N, F, B, C, U⟩] rfl (rd_new (E := encIt) w6 ⟨N, F, B, C, U⟩ #[.string N, .int .i64 F, .string B, .int .i64 C, .int .i64 U] rfl) (by simp; omega) ?_; intro v7 w7 o7 hT7; have hS7 := sp_trans V5.out (by with_reducible assumption) hT7.low hzc; have hzz := Nat.le_trans (Nat.le_trans hT6.low.size (show _ ≤ _ by first | exact Nat.le_refl _ | simp)) hT7.low.size) | (clear m8; refine step_append_g infoIt rfl _ _ 47 rfl Try.underlying47 _ _ _ (b.take k) rfl o6 (Nat.le_trans hT6.low.size (by simp)) (.slice (some ⟨w5.heap.size + 1, 0, none⟩) 1 1) [⟨N, F, B, C, U⟩] rfl (by have := (rd_new (E := encIt) (w5.alloc (Obj.cells #[] 53)) ⟨N, F, B, C, U⟩ #[.string N, .int .i64 F, .string B, .int .i64 C, .int .i64 U] rfl).drew.grow hT6.low; simpa using this) (by simp; omega) ?_; intro v7 w7 o7 hT7; have hS7 := sp_trans V5.out (by with_reducible assumption) hT7.low hzc; have hzz := Nat.le_trans (Nat.le_trans hT6.low.size (show _ ≤ _ by first | exact Nat.le_refl _ | simp)) hT7.low.size) | (clear m8; refine step_append_g infoIt rfl _ _ 47 rfl Try.underlying47 _ _ _ (b.take k) rfl o6 (Nat.le_trans hT6.low.size (by simp)) (.slice (some ⟨w5.heap.size, 0, none⟩) 1 1) [⟨N, F, B, C, U⟩] rfl (((rd_new (E := encIt) w5 ⟨N, F, B, C, U⟩ #[.string N, .int .i64 F, .string B, .int .i64 C, .int .i64 U] rfl).grow ((Below.refl _ _).alloc (Nat.le_refl _) (Obj.cells #[] 53))).drew.grow hT6.low) (by simp; omega) ?_; intro v7 w7 o7 hT7; have hS7 := sp_trans V5.out (by with_reducible assumption) hT7.low hzc; have hzz := Nat.le_trans (Nat.le_trans hT6.low.size (show _ ≤ _ by first | exact Nat.le_refl _ | simp)) hT7.low.size) | (refine step_append_g infoIt rfl _ _ 47 rfl Try.underlying47 _ _ _ (b.take k ++ [⟨N, F, B, C, U⟩]) rfl o7 (Nat.le_trans hzz (Nat.le_refl _)) _ (b.drop (k + 1)) rfl (R5.out.grow hS7.1) (by simp; omega) ?_; intro v8 w8 o8 hT8; have hS8 := sp_trans V5.out hS7 hT8.low hzc) | (fail))
            all_goals
              go_wp2
              go_ret
              refine ⟨_, k, rfl, ?_, hBw5.trans (hS8.1.mono hBw5.size), hk1, hP.out, hKK.out⟩
              have hfin : bhd N (b.drop k) = (b.drop (k + 1)) := by rw [hdr]; exact if_pos heN.out
              rw [hfin]
              have := o8.wide (lo' := w.heap.size) (Nat.le_trans hBw5.size hzc) (Nat.le_refl _)
              simpa using this
          · have RR4 : Rd encIt w5 (.slice (some ⟨g4, 5, none⟩) (n4 - 1) (k4 - 1)) (b.drop (k + 1)) := by
              have := rdIt_rest (O4.out.rd.grow hB5) 1 (by simp)
              rw [if_neg hk41] at this
              exact this
            clear O4
            have R5 : Hid (Rd encIt w5 (.slice (some ⟨g4, 5, none⟩) (n4 - 1) (k4 - 1)) (b.drop (k + 1))) := RR4
            clear RR4
            go_wp2
            have hS0 : Below w5.heap.size w5 w5.drew ∧ w5.drew.cell? ⟨b1, 0, none⟩ = some (.string N) ∧ w5.drew.cell? ⟨b1, 1, none⟩ = some (.int .i64 F) ∧ w5.drew.cell? ⟨b1, 2, none⟩ = some (.string B) ∧ w5.drew.cell? ⟨b1, 3, none⟩ = some (.int .i64 C) ∧ w5.drew.cell? ⟨b1, 4, none⟩ = some (.int .i64 U) := ⟨(Below.refl _ _).drew, cells5 (w := w5.drew) V5.out⟩
            have m7 : Hid True := trivial
            have m8 : Hid True := trivial
            go_region_held3 (fun w' => Below w5.heap.size w5 w' ∧ w'.cell? ⟨b1, 0, none⟩ = some (.string N) ∧ w'.cell? ⟨b1, 1, none⟩ = some (.int .i64 F) ∧ w'.cell? ⟨b1, 2, none⟩ = some (.string B) ∧ w'.cell? ⟨b1, 3, none⟩ = some (.int .i64 C) ∧ w'.cell? ⟨b1, 4, none⟩ = some (.int .i64 U)) (first | with_reducible assumption | with_reducible exact hS0 | with_reducible exact sp_alloc V5.out (by with_reducible assumption) | with_reducible exact sp_alloc_drew V5.out (by with_reducible assumption) | (fail)) (first | (clear m7; refine step_append_g infoIt rfl _ _ 47 rfl Try.underlying47 _ 0 _ [] rfl (own_zero _ _ _ _ _) (Nat.le_refl _) _ (b.take k) rfl (RT5.out.grow (sp_b (by with_reducible assumption))) (by simp; omega) ?_; intro v6 w6 o6 hT6; rw [List.nil_append] at o6; have hzc := sp_size hT6 (by with_reducible assumption); have hS6 := sp_trans V5.out (by with_reducible assumption) hT6.low hzc) | (clear m8; refine step_append_g infoIt rfl _ _ 47 rfl Try.underlying47 _ _ _ (b.take k) rfl (o6.grow ((Below.refl _ _).alloc (Nat.le_refl _) _)) (Nat.le_trans hT6.low.size (by simp)) (.slice (some ⟨w6.heap.size, 0, none⟩) 1 1) [⟨N, F, B, C, U⟩] rfl (rd_new (E := encIt) w6 ⟨N, F, B, C, U⟩ #[.string N, .int .i64 F, .string B, .int .i64 C, .int .i64 U] rfl) (by simp; omega) ?_; intro v7 w7 o7 hT7; have hS7 := sp_trans V5.out (by with_reducible assumption) hT7.low hzc; have hzz := Nat.le_trans (Nat.le_trans hT6.low.size (show _ ≤ _ by first | exact Nat.le_refl _ | simp)) hT7.low.size) | (clear m8; refine step_append_g infoIt rfl _ _ 47 rfl Try.underlying47 _ _ _ (b.take k) rfl o6 (Nat.le_trans hT6.low.size (by simp)) (.slice (some ⟨w5.heap.size + 1, 0, none⟩) 1 1) [⟨N, F, B, C, U⟩] rfl (by have := (rd_new (E := encIt) (w5.alloc (Obj.cells #[] 53)) ⟨N, F, B, C, U⟩ #[.string N, .int .i64 F, .string B, .int .i64 C, .int .i64 U] rfl).drew.grow hT6.low; simpa using this) (by simp; omega) ?_; intro v7 w7 o7 hT7; have hS7 := sp_trans V5.out (by with_reducible assumption) hT7.low hzc; have hzz := Nat.le_trans (Nat.le_trans hT6.low.size (show _ ≤ _ by first | exact Nat.le_refl _ | simp)) hT7.low.size) | (clear m8; refine step_append_g infoIt rfl _ _ 47 rfl Try.underlying47 _ _ _ (b.take k) rfl o6 (Nat.le_trans hT6.low.size (by simp)) (.slice (some ⟨w5.heap.size, 0, none⟩) 1 1) [⟨N, F, B, C, U⟩] rfl (((rd_new (E := encIt) w5 ⟨N, F, B, C, U⟩ #[.string N, .int .i64 F, .string B, .int .i64 C, .int .i64 U] rfl).grow ((Below.refl _ _).alloc (Nat.le_refl _) (Obj.cells #[] 53))).drew.grow hT6.low) (by simp; omega) ?_; intro v7 w7 o7 hT7; have hS7 := sp_trans V5.out (by with_reducible assumption) hT7.low hzc; have hzz := Nat.le_trans (Nat.le_trans hT6.low.size (show _ ≤ _ by first | exact Nat.le_refl _ | simp)) hT7.low.size) | (refine step_append_g infoIt rfl _ _ 47 rfl Try.underlying47 _ _ _ (b.take k ++ [⟨N, F, B, C, U⟩]) rfl o7 (Nat.le_trans hzz (Nat.le_refl _)) _ (b.drop (k + 1)) rfl (R5.out.grow hS7.1) (by simp; omega) ?_; intro v8 w8 o8 hT8; have hS8 := sp_trans V5.out hS7 hT8.low hzc) | (fail))
            all_goals
              go_wp2
              go_ret
              refine ⟨_, k, rfl, ?_, hBw5.trans (hS8.1.mono hBw5.size), hk1, hP.out, hKK.out⟩
              have hfin : bhd N (b.drop k) = (b.drop (k + 1)) := by rw [hdr]; exact if_pos heN.out
              rw [hfin]
              have := o8.wide (lo' := w.heap.size) (Nat.le_trans hBw5.size hzc) (Nat.le_refl _)
              simpa using this
        · have heq : (Z.toList == N.toList) = false := by simpa using hen
          have heN : Hid (Z ≠ N) := fun e => hen (by rw [e])
          clear hen
          go_wp2
          go_quiet (fail)
          generalize hwq : wr.drewN nq = wq
          have hBq : Below wr.heap.size wr wq := hwq ▸ ce.below_drewN _ _
          have hzq := hBq.size
          have hBwq : Below w.heap.size w wq := hBw.trans (hBq.mono hBw.size)
          have Vq : Hid (VBlk wq b1 53 [.string N, .int .i64 F, .string B, .int .i64 C, .int .i64 U]) := vblk_grow (vblk_grow VV.out hBr.out) hBq
          have RT : Hid (Rd encIt wq (.slice (some ⟨ab, off, none⟩) k cap) (b.take k)) := (R.out.grow hBwq).take k hk1
          have RD : Hid (Rd encIt wq (.slice (some ⟨ab, off + k * 5, none⟩) (b.length - k) (cap - k)) (b.drop k)) := by
            have := rdIt_rest (R.out.grow hBwq) k hk1
            rw [if_neg (by omega)] at this
            exact this
          have hdl : (b.drop k).length ≤ 1000000 := by rw [List.length_drop]; omega
          have htl : (b.take k).length ≤ 1000000 := by rw [List.length_take]; omega
          clear hwq c0 hBr
          have m4 : Hid True := trivial
          go_wp2_with (first | (clear m4; at_builtin; refine wpList_append_g infoIt rfl _ _ 47 rfl Try.underlying47 wq.heap.size _ _ [] rfl (own_zero _ _ _ 0 _) (by simp) _ (b.drop k) rfl (RD.out.grow ((Below.refl _ _).alloc (Nat.le_refl _) _)) (by simp; omega) ?_; intro v4 w4 o4 hT4; rw [List.nil_append] at o4; have hB4 : Below wq.heap.size wq w4 := ((Below.refl _ _).alloc (Nat.le_refl _) _).trans hT4.low) | (fail))
          have hz4 := hB4.size
          have V4 : Hid (VBlk w4 b1 53 [.string N, .int .i64 F, .string B, .int .i64 C, .int .i64 U]) := vblk_grow Vq.out hB4
          have c0 := (cells5 V4.out).1
          rw [hdr] at o4
          obtain ⟨g4, k4, e4, hg4, hg4', hg4''⟩ := o4.form (by simp)
          obtain ⟨n4, hn4⟩ := hid_ex (⟨Z, F2, B2, C2, U2⟩ :: b.drop (k + 1)).length
          rw [hn4.out] at e4
          have hn5 : 1 ≤ n4 := by have := hn4.out; simp at this; omega
          subst e4
          have hk5 := o4.rd.cap.2
          have hn4' : decide (0 < n4) = true := decide_eq_true (by omega)
          have hn9 : 0 < n4 := by omega
          have hn6 : (1 : Int) ≤ (n4 : Int) := by omega
          have hn7 : (n4 : Int) ≤ (k4 : Int) := by omega
          have hn8 : (1 : Int) ≤ (k4 : Int) := by omega
          have O4 : Hid (Own encIt w4 wq.heap.size w4.heap.size (.slice (some ⟨g4, 0, none⟩) n4 k4) (⟨Z, F2, B2, C2, U2⟩ :: b.drop (k + 1))) := o4
          obtain ⟨g4x, offx, ex, -, rgx⟩ := rd_item rfl rfl o4.rd 0 (by simp)
          cases ex
          have e0 := (rng5 rgx).1
          simp only [Nat.zero_mul, Nat.add_zero, List.getElem_cons_zero] at e0
          clear o4 rgx
          go_wp2
          go_quiet (fail)
          generalize hwv : w4.drewN nq = w5
          have hB5 : Below w4.heap.size w4 w5 := hwv ▸ ce.below_drewN _ _
          have hz5 := hB5.size
          have V5 : Hid (VBlk w5 b1 53 [.string N, .int .i64 F, .string B, .int .i64 C, .int .i64 U]) := vblk_grow V4.out hB5
          have RT5 : Hid (Rd encIt w5 (.slice (some ⟨ab, off, none⟩) k cap) (b.take k)) := (RT.out.grow hB4).grow hB5
          have hBw5 : Below w.heap.size w w5 := (hBwq.trans (hB4.mono hBwq.size)).trans (hB5.mono (Nat.le_trans hBwq.size hz4))
          clear hwv
          have hxl : (⟨Z, F2, B2, C2, U2⟩ :: b.drop (k + 1)).length ≤ 1000000 := by first | (rw [← hdr]; exact hdl) | (rw [hdr] at hdl; simp at hdl ⊢; omega) | simp
          have RR4 := O4.out.rd.grow hB5
          clear O4
          have R5 : Hid (Rd encIt w5 _ (⟨Z, F2, B2, C2, U2⟩ :: b.drop (k + 1))) := RR4
          clear RR4
          go_wp2
          have hS0 : Below w5.heap.size w5 w5.drew ∧ w5.drew.cell? ⟨b1, 0, none⟩ = some (.string N) ∧ w5.drew.cell? ⟨b1, 1, none⟩ = some (.int .i64 F) ∧ w5.drew.cell? ⟨b1, 2, none⟩ = some (.string B) ∧ w5.drew.cell? ⟨b1, 3, none⟩ = some (.int .i64 C) ∧ w5.drew.cell? ⟨b1, 4, none⟩ = some (.int .i64 U) := ⟨(Below.refl _ _).drew, cells5 (w := w5.drew) V5.out⟩
          have m7 : Hid True := trivial
          have m8 : Hid True := trivial
          go_region_held3 (fun w' => Below w5.heap.size w5 w' ∧ w'.cell? ⟨b1, 0, none⟩ = some (.string N) ∧ w'.cell? ⟨b1, 1, none⟩ = some (.int .i64 F) ∧ w'.cell? ⟨b1, 2, none⟩ = some (.string B) ∧ w'.cell? ⟨b1, 3, none⟩ = some (.int .i64 C) ∧ w'.cell? ⟨b1, 4, none⟩ = some (.int .i64 U)) (first | with_reducible assumption | with_reducible exact hS0 | with_reducible exact sp_alloc V5.out (by with_reducible assumption) | with_reducible exact sp_alloc_drew V5.out (by with_reducible assumption) | (fail)) (first | (clear m7; refine step_append_g infoIt rfl _ _ 47 rfl Try.underlying47 _ 0 _ [] rfl (own_zero _ _ _ _ _) (Nat.le_refl _) _ (b.take k) rfl (RT5.out.grow (sp_b (by with_reducible assumption))) (by simp; omega) ?_; intro v6 w6 o6 hT6; rw [List.nil_append] at o6; have hzc := sp_size hT6 (by with_reducible assumption); have hS6 := sp_trans V5.out (by with_reducible assumption) hT6.low hzc) | (clear m8; refine step_append_g infoIt rfl _ _ 47 rfl Try.underlying47 _ _ _ (b.take k) rfl (o6.grow ((Below.refl _ _).alloc (Nat.le_refl _) _)) (Nat.le_trans hT6.low.size (by simp)) (.slice (some ⟨w6.heap.size, 0, none⟩) 1 1) [⟨N, F, B, C, U⟩] rfl (rd_new (E := encIt) w6 ⟨N, F, B, C, U⟩ #[.string N, .int .i64 F, .string B, .int .i64 C, .int .i64 U] rfl) (by simp; omega) ?_; intro v7 w7 o7 hT7; have hS7 := sp_trans V5.out (by with_reducible assumption) hT7.low hzc; have hzz := Nat.le_trans (Nat.le_trans hT6.low.size (show _ ≤ _ by first | exact Nat.le_refl _ | simp)) hT7.low.size) | (clear m8; refine step_append_g infoIt rfl _ _ 47 rfl Try.underlying47 _ _ _ (b.take k) rfl o6 (Nat.le_trans hT6.low.size (by simp)) (.slice (some ⟨w5.heap.size + 1, 0, none⟩) 1 1) [⟨N, F, B, C, U⟩] rfl (by have := (rd_new (E := encIt) (w5.alloc (Obj.cells #[] 53)) ⟨N, F, B, C, U⟩ #[.string N, .int .i64 F, .string B, .int .i64 C, .int .i64 U] rfl).drew.grow hT6.low; simpa using this) (by simp; omega) ?_; intro v7 w7 o7 hT7; have hS7 := sp_trans V5.out (by with_reducible assumption) hT7.low hzc; have hzz := Nat.le_trans (Nat.le_trans hT6.low.size (show _ ≤ _ by first | exact Nat.le_refl _ | simp)) hT7.low.size) | (clear m8; refine step_append_g infoIt rfl _ _ 47 rfl Try.underlying47 _ _ _ (b.take k) rfl o6 (Nat.le_trans hT6.low.size (by simp)) (.slice (some ⟨w5.heap.size, 0, none⟩) 1 1) [⟨N, F, B, C, U⟩] rfl (((rd_new (E := encIt) w5 ⟨N, F, B, C, U⟩ #[.string N, .int .i64 F, .string B, .int .i64 C, .int .i64 U] rfl).grow ((Below.refl _ _).alloc (Nat.le_refl _) (Obj.cells #[] 53))).drew.grow hT6.low) (by simp; omega) ?_; intro v7 w7 o7 hT7; have hS7 := sp_trans V5.out (by with_reducible assumption) hT7.low hzc; have hzz := Nat.le_trans (Nat.le_trans hT6.low.size (show _ ≤ _ by first | exact Nat.le_refl _ | simp)) hT7.low.size) | (refine step_append_g infoIt rfl _ _ 47 rfl Try.underlying47 _ _ _ (b.take k ++ [⟨N, F, B, C, U⟩]) rfl o7 (Nat.le_trans hzz (Nat.le_refl _)) _ (⟨Z, F2, B2, C2, U2⟩ :: b.drop (k + 1)) rfl (R5.out.grow hS7.1) (by simp; omega) ?_; intro v8 w8 o8 hT8; have hS8 := sp_trans V5.out hS7 hT8.low hzc) | (fail))
          all_goals
            go_wp2
            go_ret
            refine ⟨_, k, rfl, ?_, hBw5.trans (hS8.1.mono hBw5.size), hk1, hP.out, hKK.out⟩
            have hfin : bhd N (b.drop k) = (⟨Z, F2, B2, C2, U2⟩ :: b.drop (k + 1)) := by rw [hdr]; exact if_neg heN.out
            rw [hfin]
            have := o8.wide (lo' := w.heap.size) (Nat.le_trans hBw5.size hzc) (Nat.le_refl _)
            simpa using this
    · have hdc : decide ((k : Int) < (b.length : Int)) = false := decide_eq_false (by omega)
      have hKK : Hid (∀ h : k < b.length, ltS b[k].N N = false) := fun h => absurd h hlt
      obtain rfl : k = b.length := by omega
      have hdr : b.drop b.length = [] := List.drop_eq_nil_of_le (by omega)
      by_cases hck : cap = b.length
      · subst hck
        go_wp2
        go_quiet (fail)
        generalize hwq : wr.drewN nq = wq
        have hBq : Below wr.heap.size wr wq := hwq ▸ ce.below_drewN _ _
        have hzq := hBq.size
        have hBwq : Below w.heap.size w wq := hBw.trans (hBq.mono hBw.size)
        have Vq : Hid (VBlk wq b1 53 [.string N, .int .i64 F, .string B, .int .i64 C, .int .i64 U]) := vblk_grow (vblk_grow VV.out hBr.out) hBq
        have RT : Hid (Rd encIt wq (.slice (some ⟨ab, off, none⟩) b.length b.length) (b.take b.length)) := (R.out.grow hBwq).take b.length hk1
        skip
        have hdl : ([] : List It).length ≤ 1000000 := by simp
        have htl : (b.take b.length).length ≤ 1000000 := by rw [List.length_take]; omega
        clear hwq c0 hBr
        have m4 : Hid True := trivial
        go_wp2_with (first | (clear m4; at_builtin; refine wpList_append_g infoIt rfl _ _ 47 rfl Try.underlying47 wq.heap.size _ _ [] rfl (own_zero _ _ _ 0 _) (by simp) _ [] rfl (rd_zero encIt _ _ _ (by unfold maxLen; omega)) (by simp) ?_; intro v4 w4 o4 hT4; rw [List.nil_append] at o4; have hB4 : Below wq.heap.size wq w4 := ((Below.refl _ _).alloc (Nat.le_refl _) _).trans hT4.low) | (fail))
        have hz4 := hB4.size
        have V4 : Hid (VBlk w4 b1 53 [.string N, .int .i64 F, .string B, .int .i64 C, .int .i64 U]) := vblk_grow Vq.out hB4
        have c0 := (cells5 V4.out).1
        obtain ⟨A4, n4, k4, rfl⟩ := o4.slice
        obtain rfl : n4 = 0 := o4.rd.cap.1
        have O4 : Hid (Own encIt w4 wq.heap.size w4.heap.size (.slice A4 0 k4) []) := o4
        clear o4
        go_wp2
        go_quiet (fail)
        generalize hwv : w4.drewN nq = w5
        have hB5 : Below w4.heap.size w4 w5 := hwv ▸ ce.below_drewN _ _
        have hz5 := hB5.size
        have V5 : Hid (VBlk w5 b1 53 [.string N, .int .i64 F, .string B, .int .i64 C, .int .i64 U]) := vblk_grow V4.out hB5
        have RT5 : Hid (Rd encIt w5 (.slice (some ⟨ab, off, none⟩) b.length b.length) (b.take b.length)) := (RT.out.grow hB4).grow hB5
        have hBw5 : Below w.heap.size w w5 := (hBwq.trans (hB4.mono hBwq.size)).trans (hB5.mono (Nat.le_trans hBwq.size hz4))
        clear hwv
        have hxl : ([] : List It).length ≤ 1000000 := by first | (rw [← hdr]; exact hdl) | (rw [hdr] at hdl; simp at hdl ⊢; omega) | simp
        have RR4 := O4.out.rd.grow hB5
        clear O4
        have R5 : Hid (Rd encIt w5 _ ([] : List It)) := RR4
        clear RR4
        go_wp2
        have hS0 : Below w5.heap.size w5 w5.drew ∧ w5.drew.cell? ⟨b1, 0, none⟩ = some (.string N) ∧ w5.drew.cell? ⟨b1, 1, none⟩ = some (.int .i64 F) ∧ w5.drew.cell? ⟨b1, 2, none⟩ = some (.string B) ∧ w5.drew.cell? ⟨b1, 3, none⟩ = some (.int .i64 C) ∧ w5.drew.cell? ⟨b1, 4, none⟩ = some (.int .i64 U) := ⟨(Below.refl _ _).drew, cells5 (w := w5.drew) V5.out⟩
        have m7 : Hid True := trivial
        have m8 : Hid True := trivial
        go_region_held3 (fun w' => Below w5.heap.size w5 w' ∧ w'.cell? ⟨b1, 0, none⟩ = some (.string N) ∧ w'.cell? ⟨b1, 1, none⟩ = some (.int .i64 F) ∧ w'.cell? ⟨b1, 2, none⟩ = some (.string B) ∧ w'.cell? ⟨b1, 3, none⟩ = some (.int .i64 C) ∧ w'.cell? ⟨b1, 4, none⟩ = some (.int .i64 U)) (first | with_reducible assumption | with_reducible exact hS0 | with_reducible exact sp_alloc V5.out (by with_reducible assumption) | with_reducible exact sp_alloc_drew V5.out (by with_reducible assumption) | (fail)) (first | (clear m7; refine step_append_g infoIt rfl _ _ 47 rfl Try.underlying47 _ 0 _ [] rfl (own_zero _ _ _ _ _) (Nat.le_refl _) _ (b.take b.length) rfl (RT5.out.grow (sp_b (by with_reducible assumption))) (by simp; omega) ?_; intro v6 w6 o6 hT6; rw [List.nil_append] at o6; have hzc := sp_size hT6 (by with_reducible assumption); have hS6 := sp_trans V5.out (by with_reducible assumption) hT6.low hzc) | (clear m8; refine step_append_g infoIt rfl _ _ 47 rfl Try.underlying47 _ _ _ (b.take b.length) rfl (o6.grow ((Below.refl _ _).alloc (Nat.le_refl _) _)) (Nat.le_trans hT6.low.size (by simp)) (.slice (some ⟨w6.heap.size, 0, none⟩) 1 1) [⟨N, F, B, C, U⟩] rfl (rd_new (E := encIt) w6 ⟨N, F, B, C, U⟩ #[.string N, .int .i64 F, .string B, .int .i64 C, .int .i64 U] rfl) (by simp; omega) ?_; intro v7 w7 o7 hT7; have hS7 := sp_trans V5.out (by with_reducible assumption) hT7.low hzc; have hzz := Nat.le_trans (Nat.le_trans hT6.low.size (show _ ≤ _ by first | exact Nat.le_refl _ | simp)) hT7.low.size) | (clear m8; refine step_append_g infoIt rfl _ _ 47 rfl Try.underlying47 _ _ _ (b.take b.length) rfl o6 (Nat.le_trans hT6.low.size (by simp)) (.slice (some ⟨w5.heap.size + 1, 0, none⟩) 1 1) [⟨N, F, B, C, U⟩] rfl (by have := (rd_new (E := encIt) (w5.alloc (Obj.cells #[] 53)) ⟨N, F, B, C, U⟩ #[.string N, .int .i64 F, .string B, .int .i64 C, .int .i64 U] rfl).drew.grow hT6.low; simpa using this) (by simp; omega) ?_; intro v7 w7 o7 hT7; have hS7 := sp_trans V5.out (by with_reducible assumption) hT7.low hzc; have hzz := Nat.le_trans (Nat.le_trans hT6.low.size (show _ ≤ _ by first | exact Nat.le_refl _ | simp)) hT7.low.size) | (clear m8; refine step_append_g infoIt rfl _ _ 47 rfl Try.underlying47 _ _ _ (b.take b.length) rfl o6 (Nat.le_trans hT6.low.size (by simp)) (.slice (some ⟨w5.heap.size, 0, none⟩) 1 1) [⟨N, F, B, C, U⟩] rfl (((rd_new (E := encIt) w5 ⟨N, F, B, C, U⟩ #[.string N, .int .i64 F, .string B, .int .i64 C, .int .i64 U] rfl).grow ((Below.refl _ _).alloc (Nat.le_refl _) (Obj.cells #[] 53))).drew.grow hT6.low) (by simp; omega) ?_; intro v7 w7 o7 hT7; have hS7 := sp_trans V5.out (by with_reducible assumption) hT7.low hzc; have hzz := Nat.le_trans (Nat.le_trans hT6.low.size (show _ ≤ _ by first | exact Nat.le_refl _ | simp)) hT7.low.size) | (refine step_append_g infoIt rfl _ _ 47 rfl Try.underlying47 _ _ _ (b.take b.length ++ [⟨N, F, B, C, U⟩]) rfl o7 (Nat.le_trans hzz (Nat.le_refl _)) _ ([] : List It) rfl (R5.out.grow hS7.1) (by simp; omega) ?_; intro v8 w8 o8 hT8; have hS8 := sp_trans V5.out hS7 hT8.low hzc) | (fail))
        all_goals
          go_wp2
          go_ret
          refine ⟨_, b.length, rfl, ?_, hBw5.trans (hS8.1.mono hBw5.size), hk1, hP.out, hKK.out⟩
          have hfin : bhd N (b.drop b.length) = ([] : List It) := by rw [hdr]; exact rfl
          rw [hfin]
          have := o8.wide (lo' := w.heap.size) (Nat.le_trans hBw5.size hzc) (Nat.le_refl _)
          simpa using this
      · go_wp2
        go_quiet (fail)
        generalize hwq : wr.drewN nq = wq
        have hBq : Below wr.heap.size wr wq := hwq ▸ ce.below_drewN _ _
        have hzq := hBq.size
        have hBwq : Below w.heap.size w wq := hBw.trans (hBq.mono hBw.size)
        have Vq : Hid (VBlk wq b1 53 [.string N, .int .i64 F, .string B, .int .i64 C, .int .i64 U]) := vblk_grow (vblk_grow VV.out hBr.out) hBq
        have RT : Hid (Rd encIt wq (.slice (some ⟨ab, off, none⟩) b.length cap) (b.take b.length)) := (R.out.grow hBwq).take b.length hk1
        skip
        have hdl : ([] : List It).length ≤ 1000000 := by simp
        have htl : (b.take b.length).length ≤ 1000000 := by rw [List.length_take]; omega
        clear hwq c0 hBr
        have m4 : Hid True := trivial
        go_wp2_with (first | (clear m4; at_builtin; refine wpList_append_g infoIt rfl _ _ 47 rfl Try.underlying47 wq.heap.size _ _ [] rfl (own_zero _ _ _ 0 _) (by simp) _ [] rfl (rd_zero encIt _ _ _ (by unfold maxLen; omega)) (by simp) ?_; intro v4 w4 o4 hT4; rw [List.nil_append] at o4; have hB4 : Below wq.heap.size wq w4 := ((Below.refl _ _).alloc (Nat.le_refl _) _).trans hT4.low) | (fail))
        have hz4 := hB4.size
        have V4 : Hid (VBlk w4 b1 53 [.string N, .int .i64 F, .string B, .int .i64 C, .int .i64 U]) := vblk_grow Vq.out hB4
        have c0 := (cells5 V4.out).1
        obtain ⟨A4, n4, k4, rfl⟩ := o4.slice
        obtain rfl : n4 = 0 := o4.rd.cap.1
        have O4 : Hid (Own encIt w4 wq.heap.size w4.heap.size (.slice A4 0 k4) []) := o4
        clear o4
        go_wp2
        go_quiet (fail)
        generalize hwv : w4.drewN nq = w5
        have hB5 : Below w4.heap.size w4 w5 := hwv ▸ ce.below_drewN _ _
        have hz5 := hB5.size
        have V5 : Hid (VBlk w5 b1 53 [.string N, .int .i64 F, .string B, .int .i64 C, .int .i64 U]) := vblk_grow V4.out hB5
        have RT5 : Hid (Rd encIt w5 (.slice (some ⟨ab, off, none⟩) b.length cap) (b.take b.length)) := (RT.out.grow hB4).grow hB5
        have hBw5 : Below w.heap.size w w5 := (hBwq.trans (hB4.mono hBwq.size)).trans (hB5.mono (Nat.le_trans hBwq.size hz4))
        clear hwv
        have hxl : ([] : List It).length ≤ 1000000 := by first | (rw [← hdr]; exact hdl) | (rw [hdr] at hdl; simp at hdl ⊢; omega) | simp
        have RR4 := O4.out.rd.grow hB5
        clear O4
        have R5 : Hid (Rd encIt w5 _ ([] : List It)) := RR4
        clear RR4
        go_wp2
        have hS0 : Below w5.heap.size w5 w5.drew ∧ w5.drew.cell? ⟨b1, 0, none⟩ = some (.string N) ∧ w5.drew.cell? ⟨b1, 1, none⟩ = some (.int .i64 F) ∧ w5.drew.cell? ⟨b1, 2, none⟩ = some (.string B) ∧ w5.drew.cell? ⟨b1, 3, none⟩ = some (.int .i64 C) ∧ w5.drew.cell? ⟨b1, 4, none⟩ = some (.int .i64 U) := ⟨(Below.refl _ _).drew, cells5 (w := w5.drew) V5.out⟩
        have m7 : Hid True := trivial
        have m8 : Hid True := trivial
        go_region_held3 (fun w' => Below w5.heap.size w5 w' ∧ w'.cell? ⟨b1, 0, none⟩ = some (.string N) ∧ w'.cell? ⟨b1, 1, none⟩ = some (.int .i64 F) ∧ w'.cell? ⟨b1, 2, none⟩ = some (.string B) ∧ w'.cell? ⟨b1, 3, none⟩ = some (.int .i64 C) ∧ w'.cell? ⟨b1, 4, none⟩ = some (.int .i64 U)) (first | with_reducible assumption | with_reducible exact hS0 | with_reducible exact sp_alloc V5.out (by with_reducible assumption) | with_reducible exact sp_alloc_drew V5.out (by with_reducible assumption) | (fail)) (first | (clear m7; refine step_append_g infoIt rfl _ _ 47 rfl Try.underlying47 _ 0 _ [] rfl (own_zero _ _ _ _ _) (Nat.le_refl _) _ (b.take b.length) rfl (RT5.out.grow (sp_b (by with_reducible assumption))) (by simp; omega) ?_; intro v6 w6 o6 hT6; rw [List.nil_append] at o6; have hzc := sp_size hT6 (by with_reducible assumption); have hS6 := sp_trans V5.out (by with_reducible assumption) hT6.low hzc) | (clear m8; refine step_append_g infoIt rfl _ _ 47 rfl Try.underlying47 _ _ _ (b.take b.length) rfl (o6.grow ((Below.refl _ _).alloc (Nat.le_refl _) _)) (Nat.le_trans hT6.low.size (by simp)) (.slice (some ⟨w6.heap.size, 0, none⟩) 1 1) [⟨N, F, B, C, U⟩] rfl (rd_new (E := encIt) w6 ⟨N, F, B, C, U⟩ #[.string N, .int .i64 F, .string B, .int .i64 C, .int .i64 U] rfl) (by simp; omega) ?_; intro v7 w7 o7 hT7; have hS7 := sp_trans V5.out (by with_reducible assumption) hT7.low hzc; have hzz := Nat.le_trans (Nat.le_trans hT6.low.size (show _ ≤ _ by first | exact Nat.le_refl _ | simp)) hT7.low.size) | (clear m8; refine step_append_g infoIt rfl _ _ 47 rfl Try.underlying47 _ _ _ (b.take b.length) rfl o6 (Nat.le_trans hT6.low.size (by simp)) (.slice (some ⟨w5.heap.size + 1, 0, none⟩) 1 1) [⟨N, F, B, C, U⟩] rfl (by have := (rd_new (E := encIt) (w5.alloc (Obj.cells #[] 53)) ⟨N, F, B, C, U⟩ #[.string N, .int .i64 F, .string B, .int .i64 C, .int .i64 U] rfl).drew.grow hT6.low; simpa using this) (by simp; omega) ?_; intro v7 w7 o7 hT7; have hS7 := sp_trans V5.out (by with_reducible assumption) hT7.low hzc; have hzz := Nat.le_trans (Nat.le_trans hT6.low.size (show _ ≤ _ by first | exact Nat.le_refl _ | simp)) hT7.low.size) | (clear m8; refine step_append_g infoIt rfl _ _ 47 rfl Try.underlying47 _ _ _ (b.take b.length) rfl o6 (Nat.le_trans hT6.low.size (by simp)) (.slice (some ⟨w5.heap.size, 0, none⟩) 1 1) [⟨N, F, B, C, U⟩] rfl (((rd_new (E := encIt) w5 ⟨N, F, B, C, U⟩ #[.string N, .int .i64 F, .string B, .int .i64 C, .int .i64 U] rfl).grow ((Below.refl _ _).alloc (Nat.le_refl _) (Obj.cells #[] 53))).drew.grow hT6.low) (by simp; omega) ?_; intro v7 w7 o7 hT7; have hS7 := sp_trans V5.out (by with_reducible assumption) hT7.low hzc; have hzz := Nat.le_trans (Nat.le_trans hT6.low.size (show _ ≤ _ by first | exact Nat.le_refl _ | simp)) hT7.low.size) | (refine step_append_g infoIt rfl _ _ 47 rfl Try.underlying47 _ _ _ (b.take b.length ++ [⟨N, F, B, C, U⟩]) rfl o7 (Nat.le_trans hzz (Nat.le_refl _)) _ ([] : List It) rfl (R5.out.grow hS7.1) (by simp; omega) ?_; intro v8 w8 o8 hT8; have hS8 := sp_trans V5.out hS7 hT8.low hzc) | (fail))
        all_goals
          go_wp2
          go_ret
          refine ⟨_, b.length, rfl, ?_, hBw5.trans (hS8.1.mono hBw5.size), hk1, hP.out, hKK.out⟩
          have hfin : bhd N (b.drop b.length) = ([] : List It) := by rw [hdr]; exact rfl
          rw [hfin]
          have := o8.wide (lo' := w.heap.size) (Nat.le_trans hBw5.size hzc) (Nat.le_refl _)
          simpa using this
end Go.Proofs.Ytmnjmghlkiljhaa.rg
