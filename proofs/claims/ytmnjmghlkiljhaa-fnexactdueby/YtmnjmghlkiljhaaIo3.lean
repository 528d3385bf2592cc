/- Contracts: the model's answers on a book of things. -/
import Derived.Test.YtmnjmghlkiljhaaIo1
import Derived.Deep.RegionHeld3
import Derived.Deep.RegionLaw
import Derived.Deep.DeepCutAuto
import Derived.WalkLawsBesides
namespace Go.Proofs.Ytmnjmghlkiljhaa.rg
open Go.ChangeShapes Go.WideShapes Go.ChangeAt Go.RowKit
open Go.Proofs.Ytmnjmghlkiljhaa.ce Go.Proofs.Ytmnjmghlkiljhaa.ro
set_option linter.unusedVariables false

theorem less_asymm : ∀ x y : List UInt8, Op.bytesLess x y = true → Op.bytesLess y x = false := fun x y h => by
  cases e : Op.bytesLess y x with
  | false => rfl
  | true =>
    have := less_trans x y x h e
    rw [less_irrefl] at this
    exact this.symm
theorem less_total : ∀ x y : List UInt8, Op.bytesLess x y = false → Op.bytesLess y x = false → x = y
  | [], [], _, _ => rfl
  | [], b :: y, h, _ => by simp [Op.bytesLess] at h
  | a :: x, [], _, h => by simp [Op.bytesLess] at h
  | a :: x, b :: y, h, k => by
    simp only [Op.bytesLess, Bool.or_eq_false_iff, decide_eq_false_iff_not] at h k
    have e : a = b := UInt8.le_antisymm (UInt8.not_lt.1 k.1) (UInt8.not_lt.1 h.1)
    subst e
    rw [less_total x y (by simpa using h.2) (by simpa using k.2)]
/-- no text in the book is long -/
def SmK (b : List It) : Prop := ∀ i ∈ b, i.N.size ≤ 1048576 ∧ i.B.size ≤ 1048576

theorem specFindItem_any (b : List It) (s : ByteArray) (v : Value) (w : World) (r : Rd encIt w v b) :
    Calls Try.prog 38 #[v, .string s] w fun e w' => e = .returned (.int .i64 (findI b s)) ∧ w' = w := by
  have hl := r.len
  obtain ⟨a, cap, rfl⟩ := r.form
  have R : Hid (Rd encIt w (.slice a b.length cap) b) := r
  clear r
  obtain ⟨y, hy⟩ := hid_ex (findI b s)
  rw [hy.out]
  go_enter Try.func38, Try.ntmps38
  go_wp2
  go_loop [5] (fun p => ∃ i : Nat, i ≤ b.length ∧ p = .int .i64 i ∧ Hid (s ∉ (b.map (·.N)).take i)) (fun p => b.length - (intOf p).toNat)
  case atStart => exact ⟨0, by omega, rfl, (by unfold Hid; simp)⟩
  case round =>
    obtain ⟨i, hi1, rfl, hno⟩ := hrel
    by_cases hlt : i < b.length
    · obtain ⟨bk, off, rfl, hb, rg⟩ := rd_item rfl rfl R.out i hlt
      have d0 := (rng5 rg).1
      have hm : i < (b.map (·.N)).length := by rw [List.length_map]; exact hlt
      have hlt' : (i : Int) < (b.length : Int) := by omega
      have ge : (b.map (·.N))[i] = b[i].N := by rw [List.getElem_map]
      obtain ⟨z, hz⟩ := hid_ex (b[i].N)
      rw [hz.out] at d0
      clear rg
      by_cases he : z.toList = s.toList
      · have ey : y = i := by rw [← hy.out]; exact posS_at hm (ge.trans (hz.out.trans (str_eq he))) hno.out
        subst ey
        have hbe : (z.toList == s.toList) = true := by simpa using he
        clear he ge
        go_wp2
        go_ret
        exact ⟨rfl, rfl⟩
      · have hno2 : Hid (s ∉ (b.map (·.N)).take (i + 1)) := by
          unfold Hid
          rw [List.take_succ_eq_append_getElem hm, List.mem_append, ge, hz.out, List.mem_singleton]
          rintro (h | h)
          · exact hno.out h
          · exact he (by rw [h])
        have hbe : (z.toList == s.toList) = false := by simpa using he
        clear he ge
        go_wp2
        go_round
        case rel => exact ⟨i + 1, by omega, by go_num, hno2⟩
        case measure => simp [intOf]; omega
    · have hlt' : ¬ (i : Int) < (b.length : Int) := by omega
      have ey : y = -1 := by
        have h := hno.out
        rw [List.take_of_length_le (by rw [List.length_map]; omega)] at h
        rw [← hy.out]; exact posS_no h
      subst ey
      go_wp2
      go_ret
      exact ⟨rfl, rfl⟩

set_option maxRecDepth 100000 in
set_option maxHeartbeats 4000000 in
theorem specBookOk_any (b : List It) (v : Value) (w : World) (r : Rd encIt w v b) (hs : SmK b) :
    Calls Try.prog 36 #[v] w fun e w' => e = .returned (.bool (bookB b)) ∧ Below w.heap.size w w' := by
  have hl := r.len
  obtain ⟨a, cap, rfl⟩ := r.form
  have R : Hid (Rd encIt w (.slice a b.length cap) b) := r
  have HS : Hid (SmK b) := hs
  clear r hs
  obtain ⟨y, hy⟩ := hid_ex (bookB b)
  rw [hy.out]
  go_enter Try.func36, Try.ntmps36
  go_wp2
  go_loopw [3] (fun p wr => ∃ i : Nat, i ≤ b.length ∧ p = .int .i64 i ∧ Hid (PreB b i) ∧ Below w.heap.size w wr) (fun p _ => b.length - (intOf p).toNat)
  case atStart => exact ⟨0, by omega, rfl, preB_zero b, Below.refl _ _⟩
  case round =>
    obtain ⟨i, hi1, rfl, hP, hBr⟩ := hrel
    by_cases hlt : i < b.length
    · have hRr := R.out.grow hBr
      obtain ⟨bk, off, rfl, hb, rg0⟩ := rd_item rfl rfl hRr i hlt
      have hlt' : (i : Int) < (b.length : Int) := by omega
      have hsz := HS.out b[i] (List.getElem_mem hlt)
      have hp1 := @preB_not1 b i hlt
      have hp2 := @preB_not2 b i hlt
      have hp3 := preB_succ hP.out hlt
      have hsr := hBr.size
      obtain ⟨z, hz⟩ := hid_ex (b[i])
      rw [hz.out] at rg0 hsz hp1 hp3
      simp only [hz.out] at hp2
      obtain ⟨N, F, B, C, U⟩ := z
      obtain ⟨hN, hB⟩ := hsz
      dsimp only at hN hB hp2 hp3
      have rg : Hid (wr.rangeAt bk (off + i * 5) [.string N, .int .i64 F, .string B, .int .i64 C, .int .i64 U]) := rg0
      clear rg0
      obtain ⟨x, hx⟩ := hid_ex (itemB ⟨N, F, B, C, U⟩)
      cases x with
      | false =>
        have ey : y = false := by rw [← hy.out]; exact hp1 hx.out
        subst ey
        clear hp1 hp2 hp3
        go_upto_region 4 with (fail)
        refine wp_region_held_drew (S := fun w' => w'.cell? ⟨bk, off + i * 5, none⟩ = some (.string N) ∧ w'.cell? ⟨bk, off + i * 5 + 1, none⟩ = some (.int .i64 F) ∧ w'.cell? ⟨bk, off + i * 5 + 2, none⟩ = some (.string B) ∧ w'.cell? ⟨bk, off + i * 5 + 3, none⟩ = some (.int .i64 C) ∧ w'.cell? ⟨bk, off + i * 5 + 4, none⟩ = some (.int .i64 U)) (by kernel_rfl) (rng5 (w := wr.drew) rg.out) (fun hHeld => ?_)
        refine wpAnyH_take (i := 0) (oi := { dst := some 10, op := Op.move (Operand.tmp 0), type := 47, pos := "l10_item.go:22", after := #[], guard := none }) (v := ?_) rfl (by kernel_rfl) (by kernel_rfl) (by kernel_rfl) (fun _ _ _ h => h) (Or.inl ⟨by rfl, ?_⟩) (by assumption) ?_
        rotate_left 1
        · intro w' hSw; (try dsimp only at hSw); go_simp; (try with_reducible rfl)
        (try simp only [Act.put, List.setIfInBounds_toArray, List.set_cons_zero, List.set_cons_succ])
        refine wpAnyH_take (i := 1) (oi := { dst := some 11, op := Op.move (Operand.tmp 3), type := 3, pos := "l10_item.go:22", after := #[], guard := none }) (v := ?_) rfl (by kernel_rfl) (by kernel_rfl) (by kernel_rfl) (fun _ _ _ h => h) (Or.inl ⟨by rfl, ?_⟩) (by assumption) ?_
        rotate_left 1
        · intro w' hSw; (try dsimp only at hSw); go_simp; (try with_reducible rfl)
        (try simp only [Act.put, List.setIfInBounds_toArray, List.set_cons_zero, List.set_cons_succ])
        refine wpAnyH_take (i := 2) (oi := { dst := some 12, op := Op.indexAddr 47 (Operand.tmp 10) (Operand.tmp 11), type := 0, pos := "l10_item.go:22", after := #[{ on := 0, ground := Ground.data }, { on := 1, ground := Ground.data }], guard := none }) (v := ?_) rfl (by kernel_rfl) (by kernel_rfl) (by kernel_rfl) (fun _ _ _ h => h) (Or.inl ⟨by rfl, ?_⟩) (by assumption) ?_
        rotate_left 1
        · intro w' hSw; (try dsimp only at hSw); go_simp; (try with_reducible rfl)
        (try simp only [Act.put, List.setIfInBounds_toArray, List.set_cons_zero, List.set_cons_succ])
        refine wpAnyH_take (i := 3) (oi := { dst := some 13, op := Op.load 53 (Operand.tmp 12), type := 53, pos := "l10_item.go:22", after := #[{ on := 2, ground := Ground.data }], guard := none }) (v := ?_) rfl (by kernel_rfl) (by kernel_rfl) (by kernel_rfl) (fun _ _ _ h => h) (Or.inl ⟨by rfl, ?_⟩) (by assumption) ?_
        rotate_left 1
        · intro w' hSw; (try dsimp only at hSw); go_simp; (try with_reducible rfl)
        (try simp only [Act.put, List.setIfInBounds_toArray, List.set_cons_zero, List.set_cons_succ])
        refine wpAnyH_ready (rs := [4]) (by kernel_rfl) (by simp) ?_
        refine AllReadyH.cons (o := { dst := some 14, op := Op.call { callee := Callee.value (Operand.func 81), args := #[Operand.tmp 13], argTypes := #[53] }, type := 4, pos := "l10_item.go:22", after := #[{ on := 3, ground := Ground.data }], guard := none }) rfl (fun KC hKC => ?_) AllReadyH.nil
        go_simp
        (go_at_call 81; refine (specItemOk_any N B F C U _ hx (by omega) (by omega) _).mono ?_; rintro e w2 ⟨rfl, hB2⟩; have hz2 := hB2.size)
        refine hKC.out _ _ (rng5 (range_of rg.out (hB2.block bk hb))) (fun hHeld2 => ?_)
        clear hKC KC hHeld
        have hHeld := hHeld2
        clear hHeld2
        (try simp only [Act.put, List.setIfInBounds_toArray, List.set_cons_zero, List.set_cons_succ])
        refine wpAnyH_take (i := 5) (oi := { dst := some 15, op := Op.unOp UnOp.not 4 (Operand.tmp 14), type := 4, pos := "l10_item.go:22", after := #[{ on := 4, ground := Ground.data }], guard := none }) (v := ?_) rfl (by kernel_rfl) (by kernel_rfl) (by kernel_rfl) (fun _ _ _ h => h) (Or.inl ⟨by rfl, ?_⟩) (by assumption) ?_
        rotate_left 1
        · intro w' hSw; (try dsimp only at hSw); go_simp; (try with_reducible rfl)
        (try simp only [Act.put, List.setIfInBounds_toArray, List.set_cons_zero, List.set_cons_succ])
        refine wpAnyH_take (i := 6) (oi := { dst := some 16, op := Op.move (Operand.tmp 15), type := 4, pos := "l10_item.go:22", after := #[{ on := 5, ground := Ground.data }, { on := 4, ground := Ground.chain }], guard := none }) (v := ?_) rfl (by kernel_rfl) (by kernel_rfl) (by kernel_rfl) (fun _ _ _ h => h) (Or.inl ⟨by rfl, ?_⟩) (by assumption) ?_
        rotate_left 1
        · intro w' hSw; (try dsimp only at hSw); go_simp; (try with_reducible rfl)
        (try simp only [Act.put, List.setIfInBounds_toArray, List.set_cons_zero, List.set_cons_succ])
        refine wpAnyH_take (i := 7) (oi := { dst := some 17, op := Op.move (Operand.tmp 3), type := 3, pos := "l10_item.go:22", after := #[{ on := 6, ground := Ground.guard }], guard := some (6, false) }) (v := undef) rfl (by kernel_rfl) (by kernel_rfl) (by kernel_rfl) (fun _ _ _ h => h) (Or.inr ⟨by rfl, rfl⟩) (by assumption) ?_
        (try simp only [Act.put, List.setIfInBounds_toArray, List.set_cons_zero, List.set_cons_succ])
        refine wpAnyH_take (i := 8) (oi := { dst := some 18, op := Op.binOp BinOp.gtr 3 (Operand.tmp 17) (Operand.const (Value.int IntKind.i64 0)) 3, type := 4, pos := "l10_item.go:22", after := #[{ on := 7, ground := Ground.data }, { on := 6, ground := Ground.guard }], guard := some (6, false) }) (v := undef) rfl (by kernel_rfl) (by kernel_rfl) (by kernel_rfl) (fun _ _ _ h => h) (Or.inr ⟨by rfl, rfl⟩) (by assumption) ?_
        (try simp only [Act.put, List.setIfInBounds_toArray, List.set_cons_zero, List.set_cons_succ])
        refine wpAnyH_take (i := 9) (oi := { dst := some 19, op := Op.move (Operand.tmp 18), type := 4, pos := "l10_item.go:22", after := #[{ on := 8, ground := Ground.data }, { on := 6, ground := Ground.chain }, { on := 6, ground := Ground.guard }], guard := some (6, false) }) (v := undef) rfl (by kernel_rfl) (by kernel_rfl) (by kernel_rfl) (fun _ _ _ h => h) (Or.inr ⟨by rfl, rfl⟩) (by assumption) ?_
        (try simp only [Act.put, List.setIfInBounds_toArray, List.set_cons_zero, List.set_cons_succ])
        refine wpAnyH_take (i := 10) (oi := { dst := some 20, op := Op.move (Operand.tmp 0), type := 47, pos := "l10_item.go:22", after := #[{ on := 9, ground := Ground.guard }], guard := some (9, true) }) (v := undef) rfl (by kernel_rfl) (by kernel_rfl) (by kernel_rfl) (fun _ _ _ h => h) (Or.inr ⟨by rfl, rfl⟩) (by assumption) ?_
        (try simp only [Act.put, List.setIfInBounds_toArray, List.set_cons_zero, List.set_cons_succ])
        refine wpAnyH_take (i := 11) (oi := { dst := some 21, op := Op.move (Operand.tmp 3), type := 3, pos := "l10_item.go:22", after := #[{ on := 9, ground := Ground.guard }], guard := some (9, true) }) (v := undef) rfl (by kernel_rfl) (by kernel_rfl) (by kernel_rfl) (fun _ _ _ h => h) (Or.inr ⟨by rfl, rfl⟩) (by assumption) ?_
        (try simp only [Act.put, List.setIfInBounds_toArray, List.set_cons_zero, List.set_cons_succ])
        refine wpAnyH_take (i := 12) (oi := { dst := some 22, op := Op.indexAddr 47 (Operand.tmp 20) (Operand.tmp 21), type := 0, pos := "l10_item.go:22", after := #[{ on := 10, ground := Ground.data }, { on := 11, ground := Ground.data }, { on := 9, ground := Ground.guard }], guard := some (9, true) }) (v := undef) rfl (by kernel_rfl) (by kernel_rfl) (by kernel_rfl) (fun _ _ _ h => h) (Or.inr ⟨by rfl, rfl⟩) (by assumption) ?_
        (try simp only [Act.put, List.setIfInBounds_toArray, List.set_cons_zero, List.set_cons_succ])
        refine wpAnyH_take (i := 13) (oi := { dst := some 23, op := Op.fieldAddr 53 (Operand.tmp 22) 0, type := 0, pos := "l10_item.go:22", after := #[{ on := 12, ground := Ground.data }, { on := 9, ground := Ground.guard }], guard := some (9, true) }) (v := undef) rfl (by kernel_rfl) (by kernel_rfl) (by kernel_rfl) (fun _ _ _ h => h) (Or.inr ⟨by rfl, rfl⟩) (by assumption) ?_
        (try simp only [Act.put, List.setIfInBounds_toArray, List.set_cons_zero, List.set_cons_succ])
        refine wpAnyH_take (i := 14) (oi := { dst := some 24, op := Op.load 9 (Operand.tmp 23), type := 9, pos := "l10_item.go:22", after := #[{ on := 13, ground := Ground.data }, { on := 9, ground := Ground.guard }], guard := some (9, true) }) (v := undef) rfl (by kernel_rfl) (by kernel_rfl) (by kernel_rfl) (fun _ _ _ h => h) (Or.inr ⟨by rfl, rfl⟩) (by assumption) ?_
        (try simp only [Act.put, List.setIfInBounds_toArray, List.set_cons_zero, List.set_cons_succ])
        refine wpAnyH_take (i := 15) (oi := { dst := some 25, op := Op.move (Operand.tmp 0), type := 47, pos := "l10_item.go:22", after := #[{ on := 9, ground := Ground.guard }], guard := some (9, true) }) (v := undef) rfl (by kernel_rfl) (by kernel_rfl) (by kernel_rfl) (fun _ _ _ h => h) (Or.inr ⟨by rfl, rfl⟩) (by assumption) ?_
        (try simp only [Act.put, List.setIfInBounds_toArray, List.set_cons_zero, List.set_cons_succ])
        refine wpAnyH_take (i := 16) (oi := { dst := some 26, op := Op.move (Operand.tmp 3), type := 3, pos := "l10_item.go:22", after := #[{ on := 9, ground := Ground.guard }], guard := some (9, true) }) (v := undef) rfl (by kernel_rfl) (by kernel_rfl) (by kernel_rfl) (fun _ _ _ h => h) (Or.inr ⟨by rfl, rfl⟩) (by assumption) ?_
        (try simp only [Act.put, List.setIfInBounds_toArray, List.set_cons_zero, List.set_cons_succ])
        refine wpAnyH_take (i := 17) (oi := { dst := some 27, op := Op.binOp BinOp.sub 3 (Operand.tmp 26) (Operand.const (Value.int IntKind.i64 1)) 3, type := 3, pos := "l10_item.go:22", after := #[{ on := 16, ground := Ground.data }, { on := 9, ground := Ground.guard }], guard := some (9, true) }) (v := undef) rfl (by kernel_rfl) (by kernel_rfl) (by kernel_rfl) (fun _ _ _ h => h) (Or.inr ⟨by rfl, rfl⟩) (by assumption) ?_
        (try simp only [Act.put, List.setIfInBounds_toArray, List.set_cons_zero, List.set_cons_succ])
        refine wpAnyH_take (i := 18) (oi := { dst := some 28, op := Op.indexAddr 47 (Operand.tmp 25) (Operand.tmp 27), type := 0, pos := "l10_item.go:22", after := #[{ on := 15, ground := Ground.data }, { on := 17, ground := Ground.data }, { on := 9, ground := Ground.guard }], guard := some (9, true) }) (v := undef) rfl (by kernel_rfl) (by kernel_rfl) (by kernel_rfl) (fun _ _ _ h => h) (Or.inr ⟨by rfl, rfl⟩) (by assumption) ?_
        (try simp only [Act.put, List.setIfInBounds_toArray, List.set_cons_zero, List.set_cons_succ])
        refine wpAnyH_take (i := 19) (oi := { dst := some 29, op := Op.fieldAddr 53 (Operand.tmp 28) 0, type := 0, pos := "l10_item.go:22", after := #[{ on := 18, ground := Ground.data }, { on := 9, ground := Ground.guard }], guard := some (9, true) }) (v := undef) rfl (by kernel_rfl) (by kernel_rfl) (by kernel_rfl) (fun _ _ _ h => h) (Or.inr ⟨by rfl, rfl⟩) (by assumption) ?_
        (try simp only [Act.put, List.setIfInBounds_toArray, List.set_cons_zero, List.set_cons_succ])
        refine wpAnyH_take (i := 20) (oi := { dst := some 30, op := Op.load 9 (Operand.tmp 29), type := 9, pos := "l10_item.go:22", after := #[{ on := 19, ground := Ground.data }, { on := 9, ground := Ground.guard }], guard := some (9, true) }) (v := undef) rfl (by kernel_rfl) (by kernel_rfl) (by kernel_rfl) (fun _ _ _ h => h) (Or.inr ⟨by rfl, rfl⟩) (by assumption) ?_
        (try simp only [Act.put, List.setIfInBounds_toArray, List.set_cons_zero, List.set_cons_succ])
        refine wpAnyH_take (i := 21) (oi := { dst := some 31, op := Op.binOp BinOp.leq 9 (Operand.tmp 24) (Operand.tmp 30) 9, type := 4, pos := "l10_item.go:22", after := #[{ on := 14, ground := Ground.data }, { on := 20, ground := Ground.data }, { on := 9, ground := Ground.guard }], guard := some (9, true) }) (v := undef) rfl (by kernel_rfl) (by kernel_rfl) (by kernel_rfl) (fun _ _ _ h => h) (Or.inr ⟨by rfl, rfl⟩) (by assumption) ?_
        (try simp only [Act.put, List.setIfInBounds_toArray, List.set_cons_zero, List.set_cons_succ])
        refine wpAnyH_take (i := 22) (oi := { dst := some 32, op := Op.pick (Operand.tmp 19) (Operand.tmp 31) (Operand.const (Value.bool false)), type := 4, pos := "l10_item.go:22", after := #[{ on := 9, ground := Ground.data }, { on := 21, ground := Ground.data }, { on := 6, ground := Ground.guard }], guard := some (6, false) }) (v := undef) rfl (by kernel_rfl) (by kernel_rfl) (by kernel_rfl) (fun _ _ _ h => h) (Or.inr ⟨by rfl, rfl⟩) (by assumption) ?_
        (try simp only [Act.put, List.setIfInBounds_toArray, List.set_cons_zero, List.set_cons_succ])
        refine wpAnyH_take (i := 23) (oi := { dst := some 33, op := Op.pick (Operand.tmp 16) (Operand.const (Value.bool true)) (Operand.tmp 32), type := 4, pos := "l10_item.go:22", after := #[{ on := 6, ground := Ground.data }, { on := 22, ground := Ground.data }], guard := none }) (v := ?_) rfl (by kernel_rfl) (by kernel_rfl) (by kernel_rfl) (fun _ _ _ h => h) (Or.inl ⟨by rfl, ?_⟩) (by assumption) ?_
        rotate_left 1
        · intro w' hSw; (try dsimp only at hSw); go_simp; (try with_reducible rfl)
        (try simp only [Act.put, List.setIfInBounds_toArray, List.set_cons_zero, List.set_cons_succ])
        refine wpAnyH_done (by kernel_rfl) ?_ _
        go_wp2
        go_ret
        exact ⟨rfl, hBr.drew.trans (hB2.mono hsr)⟩
      | true =>
        by_cases h0 : 0 < i
        · have h0' : decide ((i : Int) > 0) = true := decide_eq_true (by omega)
          have h0'' : (0 : Int) < (i : Int) := by omega
          obtain ⟨p, hpi⟩ : ∃ p : Nat, Hid (p = i - 1) := ⟨_, rfl⟩
          have hpl : p < b.length := by have := hpi.out; omega
          have hpw : IntKind.i64.wrap ((i : Int) - 1) = (p : Int) := by rw [IntKind.wrap_i64]; have := hpi.out; omega
          have hpp : (p : Int) < (b.length : Int) := by omega
          obtain ⟨bk', off', e', -, rp⟩ := rd_item rfl rfl hRr p hpl
          cases e'
          obtain ⟨q, hq⟩ := hid_ex (b[p])
          have ep : (b[i - 1]'(by omega)) = q := by rw [← hq.out]; simp only [hpi.out]
          rw [hq.out] at rp
          simp only [ep] at hp2 hp3
          obtain ⟨N2, F2, B2, C2, U2⟩ := q
          dsimp only at hp2 hp3
          have rg2 : Hid (wr.rangeAt bk (off + p * 5) [.string N2, .int .i64 F2, .string B2, .int .i64 C2, .int .i64 U2]) := rp
          clear rp ep
          obtain ⟨l, hl2⟩ := hid_ex (Op.bytesLess N2.toList N.toList)
          cases l with
          | false =>
            have ey : y = false := by rw [← hy.out]; exact hp2 h0 hl2.out
            subst ey
            have hlb : Op.bytesLess N2.toList N.toList = false := hl2.out
            have hor : (Op.bytesLess N.toList N2.toList || N.toList == N2.toList) = true := by
              cases e : Op.bytesLess N.toList N2.toList with
              | true => rfl
              | false => rw [less_total _ _ e hlb]; simp
            clear hp1 hp2 hp3
            go_upto_region 4 with (fail)
            have hS0 : (wr.drew.cell? ⟨bk, off + i * 5, none⟩ = some (.string N) ∧ wr.drew.cell? ⟨bk, off + i * 5 + 1, none⟩ = some (.int .i64 F) ∧ wr.drew.cell? ⟨bk, off + i * 5 + 2, none⟩ = some (.string B) ∧ wr.drew.cell? ⟨bk, off + i * 5 + 3, none⟩ = some (.int .i64 C) ∧ wr.drew.cell? ⟨bk, off + i * 5 + 4, none⟩ = some (.int .i64 U)) ∧ wr.drew.cell? ⟨bk, off + p * 5, none⟩ = some (.string N2) := ⟨rng5 (w := wr.drew) rg.out, (rng5 (w := wr.drew) rg2.out).1⟩
            go_region_held3 (fun w' => (w'.cell? ⟨bk, off + i * 5, none⟩ = some (.string N) ∧ w'.cell? ⟨bk, off + i * 5 + 1, none⟩ = some (.int .i64 F) ∧ w'.cell? ⟨bk, off + i * 5 + 2, none⟩ = some (.string B) ∧ w'.cell? ⟨bk, off + i * 5 + 3, none⟩ = some (.int .i64 C) ∧ w'.cell? ⟨bk, off + i * 5 + 4, none⟩ = some (.int .i64 U)) ∧ w'.cell? ⟨bk, off + p * 5, none⟩ = some (.string N2)) (first | assumption | exact hS0) (first | (go_at_call 81; refine (specItemOk_any N B F C U _ hx (by omega) (by omega) _).mono ?_; rintro e w2 ⟨rfl, hB2⟩; have hS2 := And.intro (rng5 (range_of rg.out (hB2.block bk hb))) (rng5 (range_of rg2.out (hB2.block bk hb))).1) | (fail))
            go_wp2
            go_ret
            exact ⟨rfl, hBr.drew.trans (hB2.mono hsr)⟩
          | true =>
            have hlb : Op.bytesLess N2.toList N.toList = true := hl2.out
            have hor1 : Op.bytesLess N.toList N2.toList = false := less_asymm _ _ hlb
            have hor2 : (N.toList == N2.toList) = false := by
              cases e : (N.toList == N2.toList) with
              | false => rfl
              | true => rw [eq_of_beq e, less_irrefl] at hlb; cases hlb
            have hP3 : Hid (PreB b (i + 1)) := hp3 hx.out fun _ => hl2.out
            clear hp1 hp2 hp3
            go_upto_region 4 with (fail)
            have hS0 : (wr.drew.cell? ⟨bk, off + i * 5, none⟩ = some (.string N) ∧ wr.drew.cell? ⟨bk, off + i * 5 + 1, none⟩ = some (.int .i64 F) ∧ wr.drew.cell? ⟨bk, off + i * 5 + 2, none⟩ = some (.string B) ∧ wr.drew.cell? ⟨bk, off + i * 5 + 3, none⟩ = some (.int .i64 C) ∧ wr.drew.cell? ⟨bk, off + i * 5 + 4, none⟩ = some (.int .i64 U)) ∧ wr.drew.cell? ⟨bk, off + p * 5, none⟩ = some (.string N2) := ⟨rng5 (w := wr.drew) rg.out, (rng5 (w := wr.drew) rg2.out).1⟩
            go_region_held3 (fun w' => (w'.cell? ⟨bk, off + i * 5, none⟩ = some (.string N) ∧ w'.cell? ⟨bk, off + i * 5 + 1, none⟩ = some (.int .i64 F) ∧ w'.cell? ⟨bk, off + i * 5 + 2, none⟩ = some (.string B) ∧ w'.cell? ⟨bk, off + i * 5 + 3, none⟩ = some (.int .i64 C) ∧ w'.cell? ⟨bk, off + i * 5 + 4, none⟩ = some (.int .i64 U)) ∧ w'.cell? ⟨bk, off + p * 5, none⟩ = some (.string N2)) (first | assumption | exact hS0) (first | (go_at_call 81; refine (specItemOk_any N B F C U _ hx (by omega) (by omega) _).mono ?_; rintro e w2 ⟨rfl, hB2⟩; have hS2 := And.intro (rng5 (range_of rg.out (hB2.block bk hb))) (rng5 (range_of rg2.out (hB2.block bk hb))).1) | (fail))
            go_wp2
            go_roundw
            case rel => exact ⟨i + 1, by omega, by go_num, hP3, hBr.drew.trans (hB2.mono hsr)⟩
            case measure => simp [intOf]; omega
        · have hP3 : Hid (PreB b (i + 1)) := hp3 hx.out fun h => absurd h h0
          have h0' : decide ((i : Int) > 0) = false := decide_eq_false (by omega)
          have h0'' : ¬ (0 : Int) < (i : Int) := by omega
          clear hp1 hp2 hp3
          go_upto_region 4 with (fail)
          refine wp_region_held_drew (S := fun w' => w'.cell? ⟨bk, off + i * 5, none⟩ = some (.string N) ∧ w'.cell? ⟨bk, off + i * 5 + 1, none⟩ = some (.int .i64 F) ∧ w'.cell? ⟨bk, off + i * 5 + 2, none⟩ = some (.string B) ∧ w'.cell? ⟨bk, off + i * 5 + 3, none⟩ = some (.int .i64 C) ∧ w'.cell? ⟨bk, off + i * 5 + 4, none⟩ = some (.int .i64 U)) (by kernel_rfl) (rng5 (w := wr.drew) rg.out) (fun hHeld => ?_)
          refine wpAnyH_take (i := 0) (oi := { dst := some 10, op := Op.move (Operand.tmp 0), type := 47, pos := "l10_item.go:22", after := #[], guard := none }) (v := ?_) rfl (by kernel_rfl) (by kernel_rfl) (by kernel_rfl) (fun _ _ _ h => h) (Or.inl ⟨by rfl, ?_⟩) (by assumption) ?_
          rotate_left 1
          · intro w' hSw; (try dsimp only at hSw); go_simp; (try with_reducible rfl)
          (try simp only [Act.put, List.setIfInBounds_toArray, List.set_cons_zero, List.set_cons_succ])
          refine wpAnyH_take (i := 1) (oi := { dst := some 11, op := Op.move (Operand.tmp 3), type := 3, pos := "l10_item.go:22", after := #[], guard := none }) (v := ?_) rfl (by kernel_rfl) (by kernel_rfl) (by kernel_rfl) (fun _ _ _ h => h) (Or.inl ⟨by rfl, ?_⟩) (by assumption) ?_
          rotate_left 1
          · intro w' hSw; (try dsimp only at hSw); go_simp; (try with_reducible rfl)
          (try simp only [Act.put, List.setIfInBounds_toArray, List.set_cons_zero, List.set_cons_succ])
          refine wpAnyH_take (i := 2) (oi := { dst := some 12, op := Op.indexAddr 47 (Operand.tmp 10) (Operand.tmp 11), type := 0, pos := "l10_item.go:22", after := #[{ on := 0, ground := Ground.data }, { on := 1, ground := Ground.data }], guard := none }) (v := ?_) rfl (by kernel_rfl) (by kernel_rfl) (by kernel_rfl) (fun _ _ _ h => h) (Or.inl ⟨by rfl, ?_⟩) (by assumption) ?_
          rotate_left 1
          · intro w' hSw; (try dsimp only at hSw); go_simp; (try with_reducible rfl)
          (try simp only [Act.put, List.setIfInBounds_toArray, List.set_cons_zero, List.set_cons_succ])
          refine wpAnyH_take (i := 3) (oi := { dst := some 13, op := Op.load 53 (Operand.tmp 12), type := 53, pos := "l10_item.go:22", after := #[{ on := 2, ground := Ground.data }], guard := none }) (v := ?_) rfl (by kernel_rfl) (by kernel_rfl) (by kernel_rfl) (fun _ _ _ h => h) (Or.inl ⟨by rfl, ?_⟩) (by assumption) ?_
          rotate_left 1
          · intro w' hSw; (try dsimp only at hSw); go_simp; (try with_reducible rfl)
          (try simp only [Act.put, List.setIfInBounds_toArray, List.set_cons_zero, List.set_cons_succ])
          refine wpAnyH_ready (rs := [4]) (by kernel_rfl) (by simp) ?_
          refine AllReadyH.cons (o := { dst := some 14, op := Op.call { callee := Callee.value (Operand.func 81), args := #[Operand.tmp 13], argTypes := #[53] }, type := 4, pos := "l10_item.go:22", after := #[{ on := 3, ground := Ground.data }], guard := none }) rfl (fun KC hKC => ?_) AllReadyH.nil
          go_simp
          (go_at_call 81; refine (specItemOk_any N B F C U _ hx (by omega) (by omega) _).mono ?_; rintro e w2 ⟨rfl, hB2⟩; have hz2 := hB2.size)
          refine hKC.out _ _ (rng5 (range_of rg.out (hB2.block bk hb))) (fun hHeld2 => ?_)
          clear hKC KC hHeld
          have hHeld := hHeld2
          clear hHeld2
          (try simp only [Act.put, List.setIfInBounds_toArray, List.set_cons_zero, List.set_cons_succ])
          refine wpAnyH_take (i := 5) (oi := { dst := some 15, op := Op.unOp UnOp.not 4 (Operand.tmp 14), type := 4, pos := "l10_item.go:22", after := #[{ on := 4, ground := Ground.data }], guard := none }) (v := ?_) rfl (by kernel_rfl) (by kernel_rfl) (by kernel_rfl) (fun _ _ _ h => h) (Or.inl ⟨by rfl, ?_⟩) (by assumption) ?_
          rotate_left 1
          · intro w' hSw; (try dsimp only at hSw); go_simp; (try with_reducible rfl)
          (try simp only [Act.put, List.setIfInBounds_toArray, List.set_cons_zero, List.set_cons_succ])
          refine wpAnyH_take (i := 6) (oi := { dst := some 16, op := Op.move (Operand.tmp 15), type := 4, pos := "l10_item.go:22", after := #[{ on := 5, ground := Ground.data }, { on := 4, ground := Ground.chain }], guard := none }) (v := ?_) rfl (by kernel_rfl) (by kernel_rfl) (by kernel_rfl) (fun _ _ _ h => h) (Or.inl ⟨by rfl, ?_⟩) (by assumption) ?_
          rotate_left 1
          · intro w' hSw; (try dsimp only at hSw); go_simp; (try with_reducible rfl)
          (try simp only [Act.put, List.setIfInBounds_toArray, List.set_cons_zero, List.set_cons_succ])
          refine wpAnyH_take (i := 7) (oi := { dst := some 17, op := Op.move (Operand.tmp 3), type := 3, pos := "l10_item.go:22", after := #[{ on := 6, ground := Ground.guard }], guard := some (6, false) }) (v := ?_) rfl (by kernel_rfl) (by kernel_rfl) (by kernel_rfl) (fun _ _ _ h => h) (Or.inl ⟨by rfl, ?_⟩) (by assumption) ?_
          rotate_left 1
          · intro w' hSw; (try dsimp only at hSw); go_simp; (try with_reducible rfl)
          (try simp only [Act.put, List.setIfInBounds_toArray, List.set_cons_zero, List.set_cons_succ])
          refine wpAnyH_take (i := 8) (oi := { dst := some 18, op := Op.binOp BinOp.gtr 3 (Operand.tmp 17) (Operand.const (Value.int IntKind.i64 0)) 3, type := 4, pos := "l10_item.go:22", after := #[{ on := 7, ground := Ground.data }, { on := 6, ground := Ground.guard }], guard := some (6, false) }) (v := ?_) rfl (by kernel_rfl) (by kernel_rfl) (by kernel_rfl) (fun _ _ _ h => h) (Or.inl ⟨by rfl, ?_⟩) (by assumption) ?_
          rotate_left 1
          · intro w' hSw; (try dsimp only at hSw); go_simp; (try with_reducible rfl)
          (try simp only [Act.put, List.setIfInBounds_toArray, List.set_cons_zero, List.set_cons_succ])
          refine wpAnyH_take (i := 9) (oi := { dst := some 19, op := Op.move (Operand.tmp 18), type := 4, pos := "l10_item.go:22", after := #[{ on := 8, ground := Ground.data }, { on := 6, ground := Ground.chain }, { on := 6, ground := Ground.guard }], guard := some (6, false) }) (v := ?_) rfl (by kernel_rfl) (by kernel_rfl) (by kernel_rfl) (fun _ _ _ h => h) (Or.inl ⟨by rfl, ?_⟩) (by assumption) ?_
          rotate_left 1
          · intro w' hSw; (try dsimp only at hSw); go_simp; (try with_reducible rfl)
          (try simp only [Act.put, List.setIfInBounds_toArray, List.set_cons_zero, List.set_cons_succ])
          refine wpAnyH_take (i := 10) (oi := { dst := some 20, op := Op.move (Operand.tmp 0), type := 47, pos := "l10_item.go:22", after := #[{ on := 9, ground := Ground.guard }], guard := some (9, true) }) (v := undef) rfl (by kernel_rfl) (by kernel_rfl) (by kernel_rfl) (fun _ _ _ h => h) (Or.inr ⟨by rfl, rfl⟩) (by assumption) ?_
          (try simp only [Act.put, List.setIfInBounds_toArray, List.set_cons_zero, List.set_cons_succ])
          refine wpAnyH_take (i := 11) (oi := { dst := some 21, op := Op.move (Operand.tmp 3), type := 3, pos := "l10_item.go:22", after := #[{ on := 9, ground := Ground.guard }], guard := some (9, true) }) (v := undef) rfl (by kernel_rfl) (by kernel_rfl) (by kernel_rfl) (fun _ _ _ h => h) (Or.inr ⟨by rfl, rfl⟩) (by assumption) ?_
          (try simp only [Act.put, List.setIfInBounds_toArray, List.set_cons_zero, List.set_cons_succ])
          refine wpAnyH_take (i := 12) (oi := { dst := some 22, op := Op.indexAddr 47 (Operand.tmp 20) (Operand.tmp 21), type := 0, pos := "l10_item.go:22", after := #[{ on := 10, ground := Ground.data }, { on := 11, ground := Ground.data }, { on := 9, ground := Ground.guard }], guard := some (9, true) }) (v := undef) rfl (by kernel_rfl) (by kernel_rfl) (by kernel_rfl) (fun _ _ _ h => h) (Or.inr ⟨by rfl, rfl⟩) (by assumption) ?_
          (try simp only [Act.put, List.setIfInBounds_toArray, List.set_cons_zero, List.set_cons_succ])
          refine wpAnyH_take (i := 13) (oi := { dst := some 23, op := Op.fieldAddr 53 (Operand.tmp 22) 0, type := 0, pos := "l10_item.go:22", after := #[{ on := 12, ground := Ground.data }, { on := 9, ground := Ground.guard }], guard := some (9, true) }) (v := undef) rfl (by kernel_rfl) (by kernel_rfl) (by kernel_rfl) (fun _ _ _ h => h) (Or.inr ⟨by rfl, rfl⟩) (by assumption) ?_
          (try simp only [Act.put, List.setIfInBounds_toArray, List.set_cons_zero, List.set_cons_succ])
          refine wpAnyH_take (i := 14) (oi := { dst := some 24, op := Op.load 9 (Operand.tmp 23), type := 9, pos := "l10_item.go:22", after := #[{ on := 13, ground := Ground.data }, { on := 9, ground := Ground.guard }], guard := some (9, true) }) (v := undef) rfl (by kernel_rfl) (by kernel_rfl) (by kernel_rfl) (fun _ _ _ h => h) (Or.inr ⟨by rfl, rfl⟩) (by assumption) ?_
          (try simp only [Act.put, List.setIfInBounds_toArray, List.set_cons_zero, List.set_cons_succ])
          refine wpAnyH_take (i := 15) (oi := { dst := some 25, op := Op.move (Operand.tmp 0), type := 47, pos := "l10_item.go:22", after := #[{ on := 9, ground := Ground.guard }], guard := some (9, true) }) (v := undef) rfl (by kernel_rfl) (by kernel_rfl) (by kernel_rfl) (fun _ _ _ h => h) (Or.inr ⟨by rfl, rfl⟩) (by assumption) ?_
          (try simp only [Act.put, List.setIfInBounds_toArray, List.set_cons_zero, List.set_cons_succ])
          refine wpAnyH_take (i := 16) (oi := { dst := some 26, op := Op.move (Operand.tmp 3), type := 3, pos := "l10_item.go:22", after := #[{ on := 9, ground := Ground.guard }], guard := some (9, true) }) (v := undef) rfl (by kernel_rfl) (by kernel_rfl) (by kernel_rfl) (fun _ _ _ h => h) (Or.inr ⟨by rfl, rfl⟩) (by assumption) ?_
          (try simp only [Act.put, List.setIfInBounds_toArray, List.set_cons_zero, List.set_cons_succ])
          refine wpAnyH_take (i := 17) (oi := { dst := some 27, op := Op.binOp BinOp.sub 3 (Operand.tmp 26) (Operand.const (Value.int IntKind.i64 1)) 3, type := 3, pos := "l10_item.go:22", after := #[{ on := 16, ground := Ground.data }, { on := 9, ground := Ground.guard }], guard := some (9, true) }) (v := undef) rfl (by kernel_rfl) (by kernel_rfl) (by kernel_rfl) (fun _ _ _ h => h) (Or.inr ⟨by rfl, rfl⟩) (by assumption) ?_
          (try simp only [Act.put, List.setIfInBounds_toArray, List.set_cons_zero, List.set_cons_succ])
          refine wpAnyH_take (i := 18) (oi := { dst := some 28, op := Op.indexAddr 47 (Operand.tmp 25) (Operand.tmp 27), type := 0, pos := "l10_item.go:22", after := #[{ on := 15, ground := Ground.data }, { on := 17, ground := Ground.data }, { on := 9, ground := Ground.guard }], guard := some (9, true) }) (v := undef) rfl (by kernel_rfl) (by kernel_rfl) (by kernel_rfl) (fun _ _ _ h => h) (Or.inr ⟨by rfl, rfl⟩) (by assumption) ?_
          (try simp only [Act.put, List.setIfInBounds_toArray, List.set_cons_zero, List.set_cons_succ])
          refine wpAnyH_take (i := 19) (oi := { dst := some 29, op := Op.fieldAddr 53 (Operand.tmp 28) 0, type := 0, pos := "l10_item.go:22", after := #[{ on := 18, ground := Ground.data }, { on := 9, ground := Ground.guard }], guard := some (9, true) }) (v := undef) rfl (by kernel_rfl) (by kernel_rfl) (by kernel_rfl) (fun _ _ _ h => h) (Or.inr ⟨by rfl, rfl⟩) (by assumption) ?_
          (try simp only [Act.put, List.setIfInBounds_toArray, List.set_cons_zero, List.set_cons_succ])
          refine wpAnyH_take (i := 20) (oi := { dst := some 30, op := Op.load 9 (Operand.tmp 29), type := 9, pos := "l10_item.go:22", after := #[{ on := 19, ground := Ground.data }, { on := 9, ground := Ground.guard }], guard := some (9, true) }) (v := undef) rfl (by kernel_rfl) (by kernel_rfl) (by kernel_rfl) (fun _ _ _ h => h) (Or.inr ⟨by rfl, rfl⟩) (by assumption) ?_
          (try simp only [Act.put, List.setIfInBounds_toArray, List.set_cons_zero, List.set_cons_succ])
          refine wpAnyH_take (i := 21) (oi := { dst := some 31, op := Op.binOp BinOp.leq 9 (Operand.tmp 24) (Operand.tmp 30) 9, type := 4, pos := "l10_item.go:22", after := #[{ on := 14, ground := Ground.data }, { on := 20, ground := Ground.data }, { on := 9, ground := Ground.guard }], guard := some (9, true) }) (v := undef) rfl (by kernel_rfl) (by kernel_rfl) (by kernel_rfl) (fun _ _ _ h => h) (Or.inr ⟨by rfl, rfl⟩) (by assumption) ?_
          (try simp only [Act.put, List.setIfInBounds_toArray, List.set_cons_zero, List.set_cons_succ])
          refine wpAnyH_take (i := 22) (oi := { dst := some 32, op := Op.pick (Operand.tmp 19) (Operand.tmp 31) (Operand.const (Value.bool false)), type := 4, pos := "l10_item.go:22", after := #[{ on := 9, ground := Ground.data }, { on := 21, ground := Ground.data }, { on := 6, ground := Ground.guard }], guard := some (6, false) }) (v := ?_) rfl (by kernel_rfl) (by kernel_rfl) (by kernel_rfl) (fun _ _ _ h => h) (Or.inl ⟨by rfl, ?_⟩) (by assumption) ?_
          rotate_left 1
          · intro w' hSw; (try dsimp only at hSw); go_simp; (try with_reducible rfl)
          (try simp only [Act.put, List.setIfInBounds_toArray, List.set_cons_zero, List.set_cons_succ])
          refine wpAnyH_take (i := 23) (oi := { dst := some 33, op := Op.pick (Operand.tmp 16) (Operand.const (Value.bool true)) (Operand.tmp 32), type := 4, pos := "l10_item.go:22", after := #[{ on := 6, ground := Ground.data }, { on := 22, ground := Ground.data }], guard := none }) (v := ?_) rfl (by kernel_rfl) (by kernel_rfl) (by kernel_rfl) (fun _ _ _ h => h) (Or.inl ⟨by rfl, ?_⟩) (by assumption) ?_
          rotate_left 1
          · intro w' hSw; (try dsimp only at hSw); go_simp; (try with_reducible rfl)
          (try simp only [Act.put, List.setIfInBounds_toArray, List.set_cons_zero, List.set_cons_succ])
          refine wpAnyH_done (by kernel_rfl) ?_ _
          go_wp2
          go_roundw
          case rel => exact ⟨i + 1, by omega, by go_num, hP3, hBr.drew.trans (hB2.mono hsr)⟩
          case measure => simp [intOf]; omega
    · have hlt' : ¬ (i : Int) < (b.length : Int) := by omega
      have hP2 := hP.out
      rw [show i = b.length by omega] at hP2
      have ey : Hid (y = decide ((b.length : Int) ≤ 20)) := by unfold Hid; rw [← hy.out, preB_all hP2]
      clear hP2
      go_wp2
      go_ret
      exact ⟨by rw [ey.out]; rfl, hBr⟩

theorem heavy_no {b : List It} (h : bookB b = false) : heavyI b = -1 := by unfold heavyI; rw [h]; rfl
theorem heavy_yes {b : List It} (h : bookB b = true) : heavyI b = (sumW b : Int) := by unfold heavyI; rw [h]; rfl
end Go.Proofs.Ytmnjmghlkiljhaa.rg
