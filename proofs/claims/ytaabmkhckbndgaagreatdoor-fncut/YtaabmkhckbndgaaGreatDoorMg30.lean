/- Texts laid together: Io3 Io4 Bx0 Bx1. -/
import Derived.Test.YtaabmkhckbndgaaGreatDoorMg29
import Derived.Test.YtaabmkhckbndgaaGreatDoorMg13
import Derived.Deep.RegionHeld3
import Derived.Deep.RegionLaw
import Derived.Deep.DeepCutAuto
import Derived.WalkLawsBesides
/- Contracts: the model's answers on a book of things. -/
namespace Go.Proofs.YtaabmkhckbndgaaGreatDoor.rg
open Go.ChangeShapes Go.WideShapes Go.ChangeAt Go.RowKit
open Go.Proofs.YtaabmkhckbndgaaGreatDoor.ce Go.Proofs.YtaabmkhckbndgaaGreatDoor.ro
set_option linter.unusedVariables false

theorem less_asymm : ∀ x y : List UInt8, Op.bytesLess x y = true → Op.bytesLess y x = false := fun x y h => by
  cases e : Op.bytesLess y x with
  | false => rfl
  | true =>
    have := less_trans x y x h e
    rw [less_irrefl] at this
    exact this.symm
theorem less_total : ∀ x y : List UInt8, Op.bytesLess x y = false → Op.bytesLess y x = false → x = y
  | [], [], _, _ => rfl
  | [], b :: y, h, _ => by simp [Op.bytesLess] at h
  | a :: x, [], _, h => by simp [Op.bytesLess] at h
  | a :: x, b :: y, h, k => by
    simp only [Op.bytesLess, Bool.or_eq_false_iff, decide_eq_false_iff_not] at h k
    have e : a = b := UInt8.le_antisymm (UInt8.not_lt.1 k.1) (UInt8.not_lt.1 h.1)
    subst e
    rw [less_total x y (by simpa using h.2) (by simpa using k.2)]
/-- no text in the book is long -/
def SmK (b : List It) : Prop := ∀ i ∈ b, i.N.size ≤ 1048576 ∧ i.B.size ≤ 1048576

theorem specFindItem_any (b : List It) (s : ByteArray) (v : Value) (w : World) (r : Rd encIt w v b) :
    Calls Tryz.prog 49 #[v, .string s] w fun e w' => e = .returned (.int .i64 (findI b s)) ∧ w' = w := by
  have hl := r.len
  obtain ⟨a, cap, rfl⟩ := r.form
  have R : Hid (Rd encIt w (.slice a b.length cap) b) := r
  clear r
  obtain ⟨y, hy⟩ := hid_ex (findI b s)
  rw [hy.out]
  go_enter Tryz.func49, Tryz.ntmps49
  go_wp2
  go_loop [5] (fun p => ∃ i : Nat, i ≤ b.length ∧ p = .int .i64 i ∧ Hid (s ∉ (b.map (·.N)).take i)) (fun p => b.length - (intOf p).toNat)
  case atStart => exact ⟨0, by omega, rfl, (by unfold Hid; simp)⟩
  case round =>
    obtain ⟨i, hi1, rfl, hno⟩ := hrel
    by_cases hlt : i < b.length
    · obtain ⟨bk, off, rfl, hb, rg⟩ := rd_item rfl rfl R.out i hlt
      have d0 := (rng5 rg).1
      have hm : i < (b.map (·.N)).length := by rw [List.length_map]; exact hlt
      have hlt' : (i : Int) < (b.length : Int) := by omega
      have ge : (b.map (·.N))[i] = b[i].N := by rw [List.getElem_map]
      obtain ⟨z, hz⟩ := hid_ex (b[i].N)
      rw [hz.out] at d0
      clear rg
      by_cases he : z.toList = s.toList
      · have ey : y = i := by rw [← hy.out]; exact posS_at hm (ge.trans (hz.out.trans (str_eq he))) hno.out
        subst ey
        have hbe : (z.toList == s.toList) = true := by simpa using he
        clear he ge
        go_wp2
        go_ret
        exact ⟨rfl, rfl⟩
      · have hno2 : Hid (s ∉ (b.map (·.N)).take (i + 1)) := by
          unfold Hid
          rw [List.take_succ_eq_append_getElem hm, List.mem_append, ge, hz.out, List.mem_singleton]
          rintro (h | h)
          · exact hno.out h
          · exact he (by rw [h])
        have hbe : (z.toList == s.toList) = false := by simpa using he
        clear he ge
        go_wp2
        go_round
        case rel => exact ⟨i + 1, by omega, by go_num, hno2⟩
        case measure => simp [intOf]; omega
    · have hlt' : ¬ (i : Int) < (b.length : Int) := by omega
      have ey : y = -1 := by
        have h := hno.out
        rw [List.take_of_length_le (by rw [List.length_map]; omega)] at h
        rw [← hy.out]; exact posS_no h
      subst ey
      go_wp2
      go_ret
      exact ⟨rfl, rfl⟩

set_option maxRecDepth 100000 in
set_option maxHeartbeats 4000000 in
theorem specBookOk_any (b : List It) (v : Value) (w : World) (r : Rd encIt w v b) (hs : SmK b) :
    Calls Tryz.prog 104 #[v] w fun e w' => e = .returned (.bool (bookB b)) ∧ Below w.heap.size w w' := by
  have hl := r.len
  obtain ⟨a, cap, rfl⟩ := r.form
  have R : Hid (Rd encIt w (.slice a b.length cap) b) := r
  have HS : Hid (SmK b) := hs
  clear r hs
  obtain ⟨y, hy⟩ := hid_ex (bookB b)
  rw [hy.out]
  go_enter Tryz.func104, Tryz.ntmps104
  go_wp2
  go_loopw [3] (fun p wr => ∃ i : Nat, i ≤ b.length ∧ p = .int .i64 i ∧ Hid (PreB b i) ∧ Below w.heap.size w wr) (fun p _ => b.length - (intOf p).toNat)
  case atStart => exact ⟨0, by omega, rfl, preB_zero b, Below.refl _ _⟩
  case round =>
    obtain ⟨i, hi1, rfl, hP, hBr⟩ := hrel
    by_cases hlt : i < b.length
    · have hRr := R.out.grow hBr
      obtain ⟨bk, off, rfl, hb, rg0⟩ := rd_item rfl rfl hRr i hlt
      have hlt' : (i : Int) < (b.length : Int) := by omega
      have hsz := HS.out b[i] (List.getElem_mem hlt)
      have hp1 := @preB_not1 b i hlt
      have hp2 := @preB_not2 b i hlt
      have hp3 := preB_succ hP.out hlt
      have hsr := hBr.size
      obtain ⟨z, hz⟩ := hid_ex (b[i])
      rw [hz.out] at rg0 hsz hp1 hp3
      simp only [hz.out] at hp2
      obtain ⟨N, F, B, C, U⟩ := z
      obtain ⟨hN, hB⟩ := hsz
      dsimp only at hN hB hp2 hp3
      have rg : Hid (wr.rangeAt bk (off + i * 5) [.string N, .int .i64 F, .string B, .int .i64 C, .int .i64 U]) := rg0
      clear rg0
      obtain ⟨x, hx⟩ := hid_ex (itemB ⟨N, F, B, C, U⟩)
      cases x with
      | false =>
        have ey : y = false := by rw [← hy.out]; exact hp1 hx.out
        subst ey
        clear hp1 hp2 hp3
        go_upto_region 4 with (fail)
        refine wp_region_held_drew (S := fun w' => w'.cell? ⟨bk, off + i * 5, none⟩ = some (.string N) ∧ w'.cell? ⟨bk, off + i * 5 + 1, none⟩ = some (.int .i64 F) ∧ w'.cell? ⟨bk, off + i * 5 + 2, none⟩ = some (.string B) ∧ w'.cell? ⟨bk, off + i * 5 + 3, none⟩ = some (.int .i64 C) ∧ w'.cell? ⟨bk, off + i * 5 + 4, none⟩ = some (.int .i64 U)) (by kernel_rfl) (rng5 (w := wr.drew) rg.out) (fun hHeld => ?_)
        refine wpAnyH_take (i := 0) (oi := { dst := some 10, op := Op.move (Operand.tmp 0), type := 54, pos := "l10_item.go:22", after := #[], guard := none }) (v := ?_) rfl (by kernel_rfl) (by kernel_rfl) (by kernel_rfl) (fun _ _ _ h => h) (Or.inl ⟨by rfl, ?_⟩) (by assumption) ?_
        rotate_left 1
        · intro w' hSw
          (try dsimp only at hSw)
          go_simp
          (try with_reducible rfl)
        (try simp only [Act.put, List.setIfInBounds_toArray, List.set_cons_zero, List.set_cons_succ])
        refine wpAnyH_take (i := 1) (oi := { dst := some 11, op := Op.move (Operand.tmp 3), type := 3, pos := "l10_item.go:22", after := #[], guard := none }) (v := ?_) rfl (by kernel_rfl) (by kernel_rfl) (by kernel_rfl) (fun _ _ _ h => h) (Or.inl ⟨by rfl, ?_⟩) (by assumption) ?_
        rotate_left 1
        · intro w' hSw
          (try dsimp only at hSw)
          go_simp
          (try with_reducible rfl)
        (try simp only [Act.put, List.setIfInBounds_toArray, List.set_cons_zero, List.set_cons_succ])
        refine wpAnyH_take (i := 2) (oi := { dst := some 12, op := Op.indexAddr 54 (Operand.tmp 10) (Operand.tmp 11), type := 0, pos := "l10_item.go:22", after := #[{ on := 0, ground := Ground.data }, { on := 1, ground := Ground.data }], guard := none }) (v := ?_) rfl (by kernel_rfl) (by kernel_rfl) (by kernel_rfl) (fun _ _ _ h => h) (Or.inl ⟨by rfl, ?_⟩) (by assumption) ?_
        rotate_left 1
        · intro w' hSw
          (try dsimp only at hSw)
          go_simp
          (try with_reducible rfl)
        (try simp only [Act.put, List.setIfInBounds_toArray, List.set_cons_zero, List.set_cons_succ])
        refine wpAnyH_take (i := 3) (oi := { dst := some 13, op := Op.load 74 (Operand.tmp 12), type := 74, pos := "l10_item.go:22", after := #[{ on := 2, ground := Ground.data }], guard := none }) (v := ?_) rfl (by kernel_rfl) (by kernel_rfl) (by kernel_rfl) (fun _ _ _ h => h) (Or.inl ⟨by rfl, ?_⟩) (by assumption) ?_
        rotate_left 1
        · intro w' hSw
          (try dsimp only at hSw)
          go_simp
          (try with_reducible rfl)
        (try simp only [Act.put, List.setIfInBounds_toArray, List.set_cons_zero, List.set_cons_succ])
        refine wpAnyH_ready (rs := [4]) (by kernel_rfl) (by simp) ?_
        refine AllReadyH.cons (o := { dst := some 14, op := Op.call { callee := Callee.value (Operand.func 161), args := #[Operand.tmp 13], argTypes := #[74] }, type := 4, pos := "l10_item.go:22", after := #[{ on := 3, ground := Ground.data }], guard := none }) rfl (fun KC hKC => ?_) AllReadyH.nil
        go_simp
        (go_at_call 161; refine (specItemOk_any N B F C U _ hx (by omega) (by omega) _).mono ?_; rintro e w2 ⟨rfl, hB2⟩; have hz2 := hB2.size)
        refine hKC.out _ _ (rng5 (range_of rg.out (hB2.block bk hb))) (fun hHeld2 => ?_)
        clear hKC KC hHeld
        have hHeld := hHeld2
        clear hHeld2
        (try simp only [Act.put, List.setIfInBounds_toArray, List.set_cons_zero, List.set_cons_succ])
        refine wpAnyH_take (i := 5) (oi := { dst := some 15, op := Op.unOp UnOp.not 4 (Operand.tmp 14), type := 4, pos := "l10_item.go:22", after := #[{ on := 4, ground := Ground.data }], guard := none }) (v := ?_) rfl (by kernel_rfl) (by kernel_rfl) (by kernel_rfl) (fun _ _ _ h => h) (Or.inl ⟨by rfl, ?_⟩) (by assumption) ?_
        rotate_left 1
        · intro w' hSw
          (try dsimp only at hSw)
          go_simp
          (try with_reducible rfl)
        (try simp only [Act.put, List.setIfInBounds_toArray, List.set_cons_zero, List.set_cons_succ])
        refine wpAnyH_take (i := 6) (oi := { dst := some 16, op := Op.move (Operand.tmp 15), type := 4, pos := "l10_item.go:22", after := #[{ on := 5, ground := Ground.data }, { on := 4, ground := Ground.chain }], guard := none }) (v := ?_) rfl (by kernel_rfl) (by kernel_rfl) (by kernel_rfl) (fun _ _ _ h => h) (Or.inl ⟨by rfl, ?_⟩) (by assumption) ?_
        rotate_left 1
        · intro w' hSw
          (try dsimp only at hSw)
          go_simp
          (try with_reducible rfl)
        (try simp only [Act.put, List.setIfInBounds_toArray, List.set_cons_zero, List.set_cons_succ])
        refine wpAnyH_take (i := 7) (oi := { dst := some 17, op := Op.move (Operand.tmp 3), type := 3, pos := "l10_item.go:22", after := #[{ on := 6, ground := Ground.guard }], guard := some (6, false) }) (v := undef) rfl (by kernel_rfl) (by kernel_rfl) (by kernel_rfl) (fun _ _ _ h => h) (Or.inr ⟨by rfl, rfl⟩) (by assumption) ?_
        (try simp only [Act.put, List.setIfInBounds_toArray, List.set_cons_zero, List.set_cons_succ])
        refine wpAnyH_take (i := 8) (oi := { dst := some 18, op := Op.binOp BinOp.gtr 3 (Operand.tmp 17) (Operand.const (Value.int IntKind.i64 0)) 3, type := 4, pos := "l10_item.go:22", after := #[{ on := 7, ground := Ground.data }, { on := 6, ground := Ground.guard }], guard := some (6, false) }) (v := undef) rfl (by kernel_rfl) (by kernel_rfl) (by kernel_rfl) (fun _ _ _ h => h) (Or.inr ⟨by rfl, rfl⟩) (by assumption) ?_
        (try simp only [Act.put, List.setIfInBounds_toArray, List.set_cons_zero, List.set_cons_succ])
        refine wpAnyH_take (i := 9) (oi := { dst := some 19, op := Op.move (Operand.tmp 18), type := 4, pos := "l10_item.go:22", after := #[{ on := 8, ground := Ground.data }, { on := 6, ground := Ground.chain }, { on := 6, ground := Ground.guard }], guard := some (6, false) }) (v := undef) rfl (by kernel_rfl) (by kernel_rfl) (by kernel_rfl) (fun _ _ _ h => h) (Or.inr ⟨by rfl, rfl⟩) (by assumption) ?_
        (try simp only [Act.put, List.setIfInBounds_toArray, List.set_cons_zero, List.set_cons_succ])
        refine wpAnyH_take (i := 10) (oi := { dst := some 20, op := Op.move (Operand.tmp 0), type := 54, pos := "l10_item.go:22", after := #[{ on := 9, ground := Ground.guard }], guard := some (9, true) }) (v := undef) rfl (by kernel_rfl) (by kernel_rfl) (by kernel_rfl) (fun _ _ _ h => h) (Or.inr ⟨by rfl, rfl⟩) (by assumption) ?_
        (try simp only [Act.put, List.setIfInBounds_toArray, List.set_cons_zero, List.set_cons_succ])
        refine wpAnyH_take (i := 11) (oi := { dst := some 21, op := Op.move (Operand.tmp 3), type := 3, pos := "l10_item.go:22", after := #[{ on := 9, ground := Ground.guard }], guard := some (9, true) }) (v := undef) rfl (by kernel_rfl) (by kernel_rfl) (by kernel_rfl) (fun _ _ _ h => h) (Or.inr ⟨by rfl, rfl⟩) (by assumption) ?_
        (try simp only [Act.put, List.setIfInBounds_toArray, List.set_cons_zero, List.set_cons_succ])
        refine wpAnyH_take (i := 12) (oi := { dst := some 22, op := Op.indexAddr 54 (Operand.tmp 20) (Operand.tmp 21), type := 0, pos := "l10_item.go:22", after := #[{ on := 10, ground := Ground.data }, { on := 11, ground := Ground.data }, { on := 9, ground := Ground.guard }], guard := some (9, true) }) (v := undef) rfl (by kernel_rfl) (by kernel_rfl) (by kernel_rfl) (fun _ _ _ h => h) (Or.inr ⟨by rfl, rfl⟩) (by assumption) ?_
        (try simp only [Act.put, List.setIfInBounds_toArray, List.set_cons_zero, List.set_cons_succ])
        refine wpAnyH_take (i := 13) (oi := { dst := some 23, op := Op.fieldAddr 74 (Operand.tmp 22) 0, type := 0, pos := "l10_item.go:22", after := #[{ on := 12, ground := Ground.data }, { on := 9, ground := Ground.guard }], guard := some (9, true) }) (v := undef) rfl (by kernel_rfl) (by kernel_rfl) (by kernel_rfl) (fun _ _ _ h => h) (Or.inr ⟨by rfl, rfl⟩) (by assumption) ?_
        (try simp only [Act.put, List.setIfInBounds_toArray, List.set_cons_zero, List.set_cons_succ])
        refine wpAnyH_take (i := 14) (oi := { dst := some 24, op := Op.load 9 (Operand.tmp 23), type := 9, pos := "l10_item.go:22", after := #[{ on := 13, ground := Ground.data }, { on := 9, ground := Ground.guard }], guard := some (9, true) }) (v := undef) rfl (by kernel_rfl) (by kernel_rfl) (by kernel_rfl) (fun _ _ _ h => h) (Or.inr ⟨by rfl, rfl⟩) (by assumption) ?_
        (try simp only [Act.put, List.setIfInBounds_toArray, List.set_cons_zero, List.set_cons_succ])
        refine wpAnyH_take (i := 15) (oi := { dst := some 25, op := Op.move (Operand.tmp 0), type := 54, pos := "l10_item.go:22", after := #[{ on := 9, ground := Ground.guard }], guard := some (9, true) }) (v := undef) rfl (by kernel_rfl) (by kernel_rfl) (by kernel_rfl) (fun _ _ _ h => h) (Or.inr ⟨by rfl, rfl⟩) (by assumption) ?_
        (try simp only [Act.put, List.setIfInBounds_toArray, List.set_cons_zero, List.set_cons_succ])
        refine wpAnyH_take (i := 16) (oi := { dst := some 26, op := Op.move (Operand.tmp 3), type := 3, pos := "l10_item.go:22", after := #[{ on := 9, ground := Ground.guard }], guard := some (9, true) }) (v := undef) rfl (by kernel_rfl) (by kernel_rfl) (by kernel_rfl) (fun _ _ _ h => h) (Or.inr ⟨by rfl, rfl⟩) (by assumption) ?_
        (try simp only [Act.put, List.setIfInBounds_toArray, List.set_cons_zero, List.set_cons_succ])
        refine wpAnyH_take (i := 17) (oi := { dst := some 27, op := Op.binOp BinOp.sub 3 (Operand.tmp 26) (Operand.const (Value.int IntKind.i64 1)) 3, type := 3, pos := "l10_item.go:22", after := #[{ on := 16, ground := Ground.data }, { on := 9, ground := Ground.guard }], guard := some (9, true) }) (v := undef) rfl (by kernel_rfl) (by kernel_rfl) (by kernel_rfl) (fun _ _ _ h => h) (Or.inr ⟨by rfl, rfl⟩) (by assumption) ?_
        (try simp only [Act.put, List.setIfInBounds_toArray, List.set_cons_zero, List.set_cons_succ])
        refine wpAnyH_take (i := 18) (oi := { dst := some 28, op := Op.indexAddr 54 (Operand.tmp 25) (Operand.tmp 27), type := 0, pos := "l10_item.go:22", after := #[{ on := 15, ground := Ground.data }, { on := 17, ground := Ground.data }, { on := 9, ground := Ground.guard }], guard := some (9, true) }) (v := undef) rfl (by kernel_rfl) (by kernel_rfl) (by kernel_rfl) (fun _ _ _ h => h) (Or.inr ⟨by rfl, rfl⟩) (by assumption) ?_
        (try simp only [Act.put, List.setIfInBounds_toArray, List.set_cons_zero, List.set_cons_succ])
        refine wpAnyH_take (i := 19) (oi := { dst := some 29, op := Op.fieldAddr 74 (Operand.tmp 28) 0, type := 0, pos := "l10_item.go:22", after := #[{ on := 18, ground := Ground.data }, { on := 9, ground := Ground.guard }], guard := some (9, true) }) (v := undef) rfl (by kernel_rfl) (by kernel_rfl) (by kernel_rfl) (fun _ _ _ h => h) (Or.inr ⟨by rfl, rfl⟩) (by assumption) ?_
        (try simp only [Act.put, List.setIfInBounds_toArray, List.set_cons_zero, List.set_cons_succ])
        refine wpAnyH_take (i := 20) (oi := { dst := some 30, op := Op.load 9 (Operand.tmp 29), type := 9, pos := "l10_item.go:22", after := #[{ on := 19, ground := Ground.data }, { on := 9, ground := Ground.guard }], guard := some (9, true) }) (v := undef) rfl (by kernel_rfl) (by kernel_rfl) (by kernel_rfl) (fun _ _ _ h => h) (Or.inr ⟨by rfl, rfl⟩) (by assumption) ?_
        (try simp only [Act.put, List.setIfInBounds_toArray, List.set_cons_zero, List.set_cons_succ])
        refine wpAnyH_take (i := 21) (oi := { dst := some 31, op := Op.binOp BinOp.leq 9 (Operand.tmp 24) (Operand.tmp 30) 9, type := 4, pos := "l10_item.go:22", after := #[{ on := 14, ground := Ground.data }, { on := 20, ground := Ground.data }, { on := 9, ground := Ground.guard }], guard := some (9, true) }) (v := undef) rfl (by kernel_rfl) (by kernel_rfl) (by kernel_rfl) (fun _ _ _ h => h) (Or.inr ⟨by rfl, rfl⟩) (by assumption) ?_
        (try simp only [Act.put, List.setIfInBounds_toArray, List.set_cons_zero, List.set_cons_succ])
        refine wpAnyH_take (i := 22) (oi := { dst := some 32, op := Op.pick (Operand.tmp 19) (Operand.tmp 31) (Operand.const (Value.bool false)), type := 4, pos := "l10_item.go:22", after := #[{ on := 9, ground := Ground.data }, { on := 21, ground := Ground.data }, { on := 6, ground := Ground.guard }], guard := some (6, false) }) (v := undef) rfl (by kernel_rfl) (by kernel_rfl) (by kernel_rfl) (fun _ _ _ h => h) (Or.inr ⟨by rfl, rfl⟩) (by assumption) ?_
        (try simp only [Act.put, List.setIfInBounds_toArray, List.set_cons_zero, List.set_cons_succ])
        refine wpAnyH_take (i := 23) (oi := { dst := some 33, op := Op.pick (Operand.tmp 16) (Operand.const (Value.bool true)) (Operand.tmp 32), type := 4, pos := "l10_item.go:22", after := #[{ on := 6, ground := Ground.data }, { on := 22, ground := Ground.data }], guard := none }) (v := ?_) rfl (by kernel_rfl) (by kernel_rfl) (by kernel_rfl) (fun _ _ _ h => h) (Or.inl ⟨by rfl, ?_⟩) (by assumption) ?_
        rotate_left 1
        · intro w' hSw
          (try dsimp only at hSw)
          go_simp
          (try with_reducible rfl)
        (try simp only [Act.put, List.setIfInBounds_toArray, List.set_cons_zero, List.set_cons_succ])
        refine wpAnyH_done (by kernel_rfl) ?_ _
        go_wp2
        go_ret
        exact ⟨rfl, hBr.drew.trans (hB2.mono hsr)⟩
      | true =>
        by_cases h0 : 0 < i
        · have h0' : decide ((i : Int) > 0) = true := decide_eq_true (by omega)
          have h0'' : (0 : Int) < (i : Int) := by omega
          obtain ⟨p, hpi⟩ : ∃ p : Nat, Hid (p = i - 1) := ⟨_, rfl⟩
          have hpl : p < b.length := by have := hpi.out; omega
          have hpw : IntKind.i64.wrap ((i : Int) - 1) = (p : Int) := by rw [IntKind.wrap_i64]; have := hpi.out; omega
          have hpp : (p : Int) < (b.length : Int) := by omega
          obtain ⟨bk', off', e', -, rp⟩ := rd_item rfl rfl hRr p hpl
          cases e'
          obtain ⟨q, hq⟩ := hid_ex (b[p])
          have ep : (b[i - 1]'(by omega)) = q := by rw [← hq.out]; simp only [hpi.out]
          rw [hq.out] at rp
          simp only [ep] at hp2 hp3
          obtain ⟨N2, F2, B2, C2, U2⟩ := q
          dsimp only at hp2 hp3
          have rg2 : Hid (wr.rangeAt bk (off + p * 5) [.string N2, .int .i64 F2, .string B2, .int .i64 C2, .int .i64 U2]) := rp
          clear rp ep
          obtain ⟨l, hl2⟩ := hid_ex (Op.bytesLess N2.toList N.toList)
          cases l with
          | false =>
            have ey : y = false := by rw [← hy.out]; exact hp2 h0 hl2.out
            subst ey
            have hlb : Op.bytesLess N2.toList N.toList = false := hl2.out
            have hor : (Op.bytesLess N.toList N2.toList || N.toList == N2.toList) = true := by
              cases e : Op.bytesLess N.toList N2.toList with
              | true => rfl
              | false => rw [less_total _ _ e hlb]; simp
            clear hp1 hp2 hp3
            go_upto_region 4 with (fail)
            have hS0 : (wr.drew.cell? ⟨bk, off + i * 5, none⟩ = some (.string N) ∧ wr.drew.cell? ⟨bk, off + i * 5 + 1, none⟩ = some (.int .i64 F) ∧ wr.drew.cell? ⟨bk, off + i * 5 + 2, none⟩ = some (.string B) ∧ wr.drew.cell? ⟨bk, off + i * 5 + 3, none⟩ = some (.int .i64 C) ∧ wr.drew.cell? ⟨bk, off + i * 5 + 4, none⟩ = some (.int .i64 U)) ∧ wr.drew.cell? ⟨bk, off + p * 5, none⟩ = some (.string N2) := ⟨rng5 (w := wr.drew) rg.out, (rng5 (w := wr.drew) rg2.out).1⟩
            go_region_held3 (fun w' => (w'.cell? ⟨bk, off + i * 5, none⟩ = some (.string N) ∧ w'.cell? ⟨bk, off + i * 5 + 1, none⟩ = some (.int .i64 F) ∧ w'.cell? ⟨bk, off + i * 5 + 2, none⟩ = some (.string B) ∧ w'.cell? ⟨bk, off + i * 5 + 3, none⟩ = some (.int .i64 C) ∧ w'.cell? ⟨bk, off + i * 5 + 4, none⟩ = some (.int .i64 U)) ∧ w'.cell? ⟨bk, off + p * 5, none⟩ = some (.string N2)) (first | assumption | exact hS0) (first | (go_at_call 161; refine (specItemOk_any N B F C U _ hx (by omega) (by omega) _).mono ?_; rintro e w2 ⟨rfl, hB2⟩; have hS2 := And.intro (rng5 (range_of rg.out (hB2.block bk hb))) (rng5 (range_of rg2.out (hB2.block bk hb))).1) | (fail))
            go_wp2
            go_ret
            exact ⟨rfl, hBr.drew.trans (hB2.mono hsr)⟩
          | true =>
            have hlb : Op.bytesLess N2.toList N.toList = true := hl2.out
            have hor1 : Op.bytesLess N.toList N2.toList = false := less_asymm _ _ hlb
            have hor2 : (N.toList == N2.toList) = false := by
              cases e : (N.toList == N2.toList) with
              | false => rfl
              | true => rw [eq_of_beq e, less_irrefl] at hlb; cases hlb
            have hP3 : Hid (PreB b (i + 1)) := hp3 hx.out fun _ => hl2.out
            clear hp1 hp2 hp3
            go_upto_region 4 with (fail)
            have hS0 : (wr.drew.cell? ⟨bk, off + i * 5, none⟩ = some (.string N) ∧ wr.drew.cell? ⟨bk, off + i * 5 + 1, none⟩ = some (.int .i64 F) ∧ wr.drew.cell? ⟨bk, off + i * 5 + 2, none⟩ = some (.string B) ∧ wr.drew.cell? ⟨bk, off + i * 5 + 3, none⟩ = some (.int .i64 C) ∧ wr.drew.cell? ⟨bk, off + i * 5 + 4, none⟩ = some (.int .i64 U)) ∧ wr.drew.cell? ⟨bk, off + p * 5, none⟩ = some (.string N2) := ⟨rng5 (w := wr.drew) rg.out, (rng5 (w := wr.drew) rg2.out).1⟩
            go_region_held3 (fun w' => (w'.cell? ⟨bk, off + i * 5, none⟩ = some (.string N) ∧ w'.cell? ⟨bk, off + i * 5 + 1, none⟩ = some (.int .i64 F) ∧ w'.cell? ⟨bk, off + i * 5 + 2, none⟩ = some (.string B) ∧ w'.cell? ⟨bk, off + i * 5 + 3, none⟩ = some (.int .i64 C) ∧ w'.cell? ⟨bk, off + i * 5 + 4, none⟩ = some (.int .i64 U)) ∧ w'.cell? ⟨bk, off + p * 5, none⟩ = some (.string N2)) (first | assumption | exact hS0) (first | (go_at_call 161; refine (specItemOk_any N B F C U _ hx (by omega) (by omega) _).mono ?_; rintro e w2 ⟨rfl, hB2⟩; have hS2 := And.intro (rng5 (range_of rg.out (hB2.block bk hb))) (rng5 (range_of rg2.out (hB2.block bk hb))).1) | (fail))
            go_wp2
            go_roundw
            case rel => exact ⟨i + 1, by omega, by go_num, hP3, hBr.drew.trans (hB2.mono hsr)⟩
            case measure => simp [intOf]; omega
        · have hP3 : Hid (PreB b (i + 1)) := hp3 hx.out fun h => absurd h h0
          have h0' : decide ((i : Int) > 0) = false := decide_eq_false (by omega)
          have h0'' : ¬ (0 : Int) < (i : Int) := by omega
          clear hp1 hp2 hp3
          go_upto_region 4 with (fail)
          refine wp_region_held_drew (S := fun w' => w'.cell? ⟨bk, off + i * 5, none⟩ = some (.string N) ∧ w'.cell? ⟨bk, off + i * 5 + 1, none⟩ = some (.int .i64 F) ∧ w'.cell? ⟨bk, off + i * 5 + 2, none⟩ = some (.string B) ∧ w'.cell? ⟨bk, off + i * 5 + 3, none⟩ = some (.int .i64 C) ∧ w'.cell? ⟨bk, off + i * 5 + 4, none⟩ = some (.int .i64 U)) (by kernel_rfl) (rng5 (w := wr.drew) rg.out) (fun hHeld => ?_)
          refine wpAnyH_take (i := 0) (oi := { dst := some 10, op := Op.move (Operand.tmp 0), type := 54, pos := "l10_item.go:22", after := #[], guard := none }) (v := ?_) rfl (by kernel_rfl) (by kernel_rfl) (by kernel_rfl) (fun _ _ _ h => h) (Or.inl ⟨by rfl, ?_⟩) (by assumption) ?_
          rotate_left 1
          · intro w' hSw
            (try dsimp only at hSw)
            go_simp
            (try with_reducible rfl)
          (try simp only [Act.put, List.setIfInBounds_toArray, List.set_cons_zero, List.set_cons_succ])
          refine wpAnyH_take (i := 1) (oi := { dst := some 11, op := Op.move (Operand.tmp 3), type := 3, pos := "l10_item.go:22", after := #[], guard := none }) (v := ?_) rfl (by kernel_rfl) (by kernel_rfl) (by kernel_rfl) (fun _ _ _ h => h) (Or.inl ⟨by rfl, ?_⟩) (by assumption) ?_
          rotate_left 1
          · intro w' hSw
            (try dsimp only at hSw)
            go_simp
            (try with_reducible rfl)
          (try simp only [Act.put, List.setIfInBounds_toArray, List.set_cons_zero, List.set_cons_succ])
          refine wpAnyH_take (i := 2) (oi := { dst := some 12, op := Op.indexAddr 54 (Operand.tmp 10) (Operand.tmp 11), type := 0, pos := "l10_item.go:22", after := #[{ on := 0, ground := Ground.data }, { on := 1, ground := Ground.data }], guard := none }) (v := ?_) rfl (by kernel_rfl) (by kernel_rfl) (by kernel_rfl) (fun _ _ _ h => h) (Or.inl ⟨by rfl, ?_⟩) (by assumption) ?_
          rotate_left 1
          · intro w' hSw
            (try dsimp only at hSw)
            go_simp
            (try with_reducible rfl)
          (try simp only [Act.put, List.setIfInBounds_toArray, List.set_cons_zero, List.set_cons_succ])
          refine wpAnyH_take (i := 3) (oi := { dst := some 13, op := Op.load 74 (Operand.tmp 12), type := 74, pos := "l10_item.go:22", after := #[{ on := 2, ground := Ground.data }], guard := none }) (v := ?_) rfl (by kernel_rfl) (by kernel_rfl) (by kernel_rfl) (fun _ _ _ h => h) (Or.inl ⟨by rfl, ?_⟩) (by assumption) ?_
          rotate_left 1
          · intro w' hSw
            (try dsimp only at hSw)
            go_simp
            (try with_reducible rfl)
          (try simp only [Act.put, List.setIfInBounds_toArray, List.set_cons_zero, List.set_cons_succ])
          refine wpAnyH_ready (rs := [4]) (by kernel_rfl) (by simp) ?_
          refine AllReadyH.cons (o := { dst := some 14, op := Op.call { callee := Callee.value (Operand.func 161), args := #[Operand.tmp 13], argTypes := #[74] }, type := 4, pos := "l10_item.go:22", after := #[{ on := 3, ground := Ground.data }], guard := none }) rfl (fun KC hKC => ?_) AllReadyH.nil
          go_simp
          (go_at_call 161; refine (specItemOk_any N B F C U _ hx (by omega) (by omega) _).mono ?_; rintro e w2 ⟨rfl, hB2⟩; have hz2 := hB2.size)
          refine hKC.out _ _ (rng5 (range_of rg.out (hB2.block bk hb))) (fun hHeld2 => ?_)
          clear hKC KC hHeld
          have hHeld := hHeld2
          clear hHeld2
          (try simp only [Act.put, List.setIfInBounds_toArray, List.set_cons_zero, List.set_cons_succ])
          refine wpAnyH_take (i := 5) (oi := { dst := some 15, op := Op.unOp UnOp.not 4 (Operand.tmp 14), type := 4, pos := "l10_item.go:22", after := #[{ on := 4, ground := Ground.data }], guard := none }) (v := ?_) rfl (by kernel_rfl) (by kernel_rfl) (by kernel_rfl) (fun _ _ _ h => h) (Or.inl ⟨by rfl, ?_⟩) (by assumption) ?_
          rotate_left 1
          · intro w' hSw
            (try dsimp only at hSw)
            go_simp
            (try with_reducible rfl)
          (try simp only [Act.put, List.setIfInBounds_toArray, List.set_cons_zero, List.set_cons_succ])
          refine wpAnyH_take (i := 6) (oi := { dst := some 16, op := Op.move (Operand.tmp 15), type := 4, pos := "l10_item.go:22", after := #[{ on := 5, ground := Ground.data }, { on := 4, ground := Ground.chain }], guard := none }) (v := ?_) rfl (by kernel_rfl) (by kernel_rfl) (by kernel_rfl) (fun _ _ _ h => h) (Or.inl ⟨by rfl, ?_⟩) (by assumption) ?_
          rotate_left 1
          · intro w' hSw
            (try dsimp only at hSw)
            go_simp
            (try with_reducible rfl)
          (try simp only [Act.put, List.setIfInBounds_toArray, List.set_cons_zero, List.set_cons_succ])
          refine wpAnyH_take (i := 7) (oi := { dst := some 17, op := Op.move (Operand.tmp 3), type := 3, pos := "l10_item.go:22", after := #[{ on := 6, ground := Ground.guard }], guard := some (6, false) }) (v := ?_) rfl (by kernel_rfl) (by kernel_rfl) (by kernel_rfl) (fun _ _ _ h => h) (Or.inl ⟨by rfl, ?_⟩) (by assumption) ?_
          rotate_left 1
          · intro w' hSw
            (try dsimp only at hSw)
            go_simp
            (try with_reducible rfl)
          (try simp only [Act.put, List.setIfInBounds_toArray, List.set_cons_zero, List.set_cons_succ])
          refine wpAnyH_take (i := 8) (oi := { dst := some 18, op := Op.binOp BinOp.gtr 3 (Operand.tmp 17) (Operand.const (Value.int IntKind.i64 0)) 3, type := 4, pos := "l10_item.go:22", after := #[{ on := 7, ground := Ground.data }, { on := 6, ground := Ground.guard }], guard := some (6, false) }) (v := ?_) rfl (by kernel_rfl) (by kernel_rfl) (by kernel_rfl) (fun _ _ _ h => h) (Or.inl ⟨by rfl, ?_⟩) (by assumption) ?_
          rotate_left 1
          · intro w' hSw
            (try dsimp only at hSw)
            go_simp
            (try with_reducible rfl)
          (try simp only [Act.put, List.setIfInBounds_toArray, List.set_cons_zero, List.set_cons_succ])
          refine wpAnyH_take (i := 9) (oi := { dst := some 19, op := Op.move (Operand.tmp 18), type := 4, pos := "l10_item.go:22", after := #[{ on := 8, ground := Ground.data }, { on := 6, ground := Ground.chain }, { on := 6, ground := Ground.guard }], guard := some (6, false) }) (v := ?_) rfl (by kernel_rfl) (by kernel_rfl) (by kernel_rfl) (fun _ _ _ h => h) (Or.inl ⟨by rfl, ?_⟩) (by assumption) ?_
          rotate_left 1
          · intro w' hSw
            (try dsimp only at hSw)
            go_simp
            (try with_reducible rfl)
          (try simp only [Act.put, List.setIfInBounds_toArray, List.set_cons_zero, List.set_cons_succ])
          refine wpAnyH_take (i := 10) (oi := { dst := some 20, op := Op.move (Operand.tmp 0), type := 54, pos := "l10_item.go:22", after := #[{ on := 9, ground := Ground.guard }], guard := some (9, true) }) (v := undef) rfl (by kernel_rfl) (by kernel_rfl) (by kernel_rfl) (fun _ _ _ h => h) (Or.inr ⟨by rfl, rfl⟩) (by assumption) ?_
          (try simp only [Act.put, List.setIfInBounds_toArray, List.set_cons_zero, List.set_cons_succ])
          refine wpAnyH_take (i := 11) (oi := { dst := some 21, op := Op.move (Operand.tmp 3), type := 3, pos := "l10_item.go:22", after := #[{ on := 9, ground := Ground.guard }], guard := some (9, true) }) (v := undef) rfl (by kernel_rfl) (by kernel_rfl) (by kernel_rfl) (fun _ _ _ h => h) (Or.inr ⟨by rfl, rfl⟩) (by assumption) ?_
          (try simp only [Act.put, List.setIfInBounds_toArray, List.set_cons_zero, List.set_cons_succ])
          refine wpAnyH_take (i := 12) (oi := { dst := some 22, op := Op.indexAddr 54 (Operand.tmp 20) (Operand.tmp 21), type := 0, pos := "l10_item.go:22", after := #[{ on := 10, ground := Ground.data }, { on := 11, ground := Ground.data }, { on := 9, ground := Ground.guard }], guard := some (9, true) }) (v := undef) rfl (by kernel_rfl) (by kernel_rfl) (by kernel_rfl) (fun _ _ _ h => h) (Or.inr ⟨by rfl, rfl⟩) (by assumption) ?_
          (try simp only [Act.put, List.setIfInBounds_toArray, List.set_cons_zero, List.set_cons_succ])
          refine wpAnyH_take (i := 13) (oi := { dst := some 23, op := Op.fieldAddr 74 (Operand.tmp 22) 0, type := 0, pos := "l10_item.go:22", after := #[{ on := 12, ground := Ground.data }, { on := 9, ground := Ground.guard }], guard := some (9, true) }) (v := undef) rfl (by kernel_rfl) (by kernel_rfl) (by kernel_rfl) (fun _ _ _ h => h) (Or.inr ⟨by rfl, rfl⟩) (by assumption) ?_
          (try simp only [Act.put, List.setIfInBounds_toArray, List.set_cons_zero, List.set_cons_succ])
          refine wpAnyH_take (i := 14) (oi := { dst := some 24, op := Op.load 9 (Operand.tmp 23), type := 9, pos := "l10_item.go:22", after := #[{ on := 13, ground := Ground.data }, { on := 9, ground := Ground.guard }], guard := some (9, true) }) (v := undef) rfl (by kernel_rfl) (by kernel_rfl) (by kernel_rfl) (fun _ _ _ h => h) (Or.inr ⟨by rfl, rfl⟩) (by assumption) ?_
          (try simp only [Act.put, List.setIfInBounds_toArray, List.set_cons_zero, List.set_cons_succ])
          refine wpAnyH_take (i := 15) (oi := { dst := some 25, op := Op.move (Operand.tmp 0), type := 54, pos := "l10_item.go:22", after := #[{ on := 9, ground := Ground.guard }], guard := some (9, true) }) (v := undef) rfl (by kernel_rfl) (by kernel_rfl) (by kernel_rfl) (fun _ _ _ h => h) (Or.inr ⟨by rfl, rfl⟩) (by assumption) ?_
          (try simp only [Act.put, List.setIfInBounds_toArray, List.set_cons_zero, List.set_cons_succ])
          refine wpAnyH_take (i := 16) (oi := { dst := some 26, op := Op.move (Operand.tmp 3), type := 3, pos := "l10_item.go:22", after := #[{ on := 9, ground := Ground.guard }], guard := some (9, true) }) (v := undef) rfl (by kernel_rfl) (by kernel_rfl) (by kernel_rfl) (fun _ _ _ h => h) (Or.inr ⟨by rfl, rfl⟩) (by assumption) ?_
          (try simp only [Act.put, List.setIfInBounds_toArray, List.set_cons_zero, List.set_cons_succ])
          refine wpAnyH_take (i := 17) (oi := { dst := some 27, op := Op.binOp BinOp.sub 3 (Operand.tmp 26) (Operand.const (Value.int IntKind.i64 1)) 3, type := 3, pos := "l10_item.go:22", after := #[{ on := 16, ground := Ground.data }, { on := 9, ground := Ground.guard }], guard := some (9, true) }) (v := undef) rfl (by kernel_rfl) (by kernel_rfl) (by kernel_rfl) (fun _ _ _ h => h) (Or.inr ⟨by rfl, rfl⟩) (by assumption) ?_
          (try simp only [Act.put, List.setIfInBounds_toArray, List.set_cons_zero, List.set_cons_succ])
          refine wpAnyH_take (i := 18) (oi := { dst := some 28, op := Op.indexAddr 54 (Operand.tmp 25) (Operand.tmp 27), type := 0, pos := "l10_item.go:22", after := #[{ on := 15, ground := Ground.data }, { on := 17, ground := Ground.data }, { on := 9, ground := Ground.guard }], guard := some (9, true) }) (v := undef) rfl (by kernel_rfl) (by kernel_rfl) (by kernel_rfl) (fun _ _ _ h => h) (Or.inr ⟨by rfl, rfl⟩) (by assumption) ?_
          (try simp only [Act.put, List.setIfInBounds_toArray, List.set_cons_zero, List.set_cons_succ])
          refine wpAnyH_take (i := 19) (oi := { dst := some 29, op := Op.fieldAddr 74 (Operand.tmp 28) 0, type := 0, pos := "l10_item.go:22", after := #[{ on := 18, ground := Ground.data }, { on := 9, ground := Ground.guard }], guard := some (9, true) }) (v := undef) rfl (by kernel_rfl) (by kernel_rfl) (by kernel_rfl) (fun _ _ _ h => h) (Or.inr ⟨by rfl, rfl⟩) (by assumption) ?_
          (try simp only [Act.put, List.setIfInBounds_toArray, List.set_cons_zero, List.set_cons_succ])
          refine wpAnyH_take (i := 20) (oi := { dst := some 30, op := Op.load 9 (Operand.tmp 29), type := 9, pos := "l10_item.go:22", after := #[{ on := 19, ground := Ground.data }, { on := 9, ground := Ground.guard }], guard := some (9, true) }) (v := undef) rfl (by kernel_rfl) (by kernel_rfl) (by kernel_rfl) (fun _ _ _ h => h) (Or.inr ⟨by rfl, rfl⟩) (by assumption) ?_
          (try simp only [Act.put, List.setIfInBounds_toArray, List.set_cons_zero, List.set_cons_succ])
          refine wpAnyH_take (i := 21) (oi := { dst := some 31, op := Op.binOp BinOp.leq 9 (Operand.tmp 24) (Operand.tmp 30) 9, type := 4, pos := "l10_item.go:22", after := #[{ on := 14, ground := Ground.data }, { on := 20, ground := Ground.data }, { on := 9, ground := Ground.guard }], guard := some (9, true) }) (v := undef) rfl (by kernel_rfl) (by kernel_rfl) (by kernel_rfl) (fun _ _ _ h => h) (Or.inr ⟨by rfl, rfl⟩) (by assumption) ?_
          (try simp only [Act.put, List.setIfInBounds_toArray, List.set_cons_zero, List.set_cons_succ])
          refine wpAnyH_take (i := 22) (oi := { dst := some 32, op := Op.pick (Operand.tmp 19) (Operand.tmp 31) (Operand.const (Value.bool false)), type := 4, pos := "l10_item.go:22", after := #[{ on := 9, ground := Ground.data }, { on := 21, ground := Ground.data }, { on := 6, ground := Ground.guard }], guard := some (6, false) }) (v := ?_) rfl (by kernel_rfl) (by kernel_rfl) (by kernel_rfl) (fun _ _ _ h => h) (Or.inl ⟨by rfl, ?_⟩) (by assumption) ?_
          rotate_left 1
          · intro w' hSw
            (try dsimp only at hSw)
            go_simp
            (try with_reducible rfl)
          (try simp only [Act.put, List.setIfInBounds_toArray, List.set_cons_zero, List.set_cons_succ])
          refine wpAnyH_take (i := 23) (oi := { dst := some 33, op := Op.pick (Operand.tmp 16) (Operand.const (Value.bool true)) (Operand.tmp 32), type := 4, pos := "l10_item.go:22", after := #[{ on := 6, ground := Ground.data }, { on := 22, ground := Ground.data }], guard := none }) (v := ?_) rfl (by kernel_rfl) (by kernel_rfl) (by kernel_rfl) (fun _ _ _ h => h) (Or.inl ⟨by rfl, ?_⟩) (by assumption) ?_
          rotate_left 1
          · intro w' hSw
            (try dsimp only at hSw)
            go_simp
            (try with_reducible rfl)
          (try simp only [Act.put, List.setIfInBounds_toArray, List.set_cons_zero, List.set_cons_succ])
          refine wpAnyH_done (by kernel_rfl) ?_ _
          go_wp2
          go_roundw
          case rel => exact ⟨i + 1, by omega, by go_num, hP3, hBr.drew.trans (hB2.mono hsr)⟩
          case measure => simp [intOf]; omega
    · have hlt' : ¬ (i : Int) < (b.length : Int) := by omega
      have hP2 := hP.out
      rw [show i = b.length by omega] at hP2
      have ey : Hid (y = decide ((b.length : Int) ≤ 20)) := by unfold Hid; rw [← hy.out, preB_all hP2]
      clear hP2
      go_wp2
      go_ret
      exact ⟨by rw [ey.out]; rfl, hBr⟩

theorem heavy_no {b : List It} (h : bookB b = false) : heavyI b = -1 := by unfold heavyI; rw [h]; rfl
theorem heavy_yes {b : List It} (h : bookB b = true) : heavyI b = (sumW b : Int) := by unfold heavyI; rw [h]; rfl
end Go.Proofs.YtaabmkhckbndgaaGreatDoor.rg
/- Contracts: the program's answers on a book of things. -/
namespace Go.Proofs.YtaabmkhckbndgaaGreatDoor.rg
open Go.ChangeShapes Go.WideShapes Go.ChangeAt Go.RowKit
open Go.Proofs.YtaabmkhckbndgaaGreatDoor.ce Go.Proofs.YtaabmkhckbndgaaGreatDoor.ro
set_option linter.unusedVariables false

set_option maxRecDepth 100000 in
set_option maxHeartbeats 4000000 in
theorem implBookOk_any (b : List It) (v : Value) (w : World) (r : Rd encIt w v b) (hs : SmK b) :
    Calls Tryz.prog 103 #[v] w fun e w' => e = .returned (.bool (bookB b)) ∧ Below w.heap.size w w' := by
  have hl := r.len
  obtain ⟨a, cap, rfl⟩ := r.form
  have R : Hid (Rd encIt w (.slice a b.length cap) b) := r
  have HS : Hid (SmK b) := hs
  clear r hs
  obtain ⟨y, hy⟩ := hid_ex (bookB b)
  rw [hy.out]
  by_cases h20 : (b.length : Int) > 20
  · have ey : y = false := by rw [← hy.out]; exact book_long (by omega)
    subst ey
    go_enter Tryz.func103, Tryz.ntmps103
    go_wp2
    go_ret
    exact ⟨rfl, Below.refl _ _⟩
  go_enter Tryz.func103, Tryz.ntmps103
  go_wp2
  go_loopw [10] (fun p wr => ∃ i : Nat, i ≤ b.length ∧ p = .int .i64 i ∧ Hid (PreB b i) ∧ Below w.heap.size w wr) (fun p _ => b.length - (intOf p).toNat)
  case atStart => exact ⟨0, by omega, rfl, preB_zero b, Below.refl _ _⟩
  case round =>
    obtain ⟨i, hi1, rfl, hP, hBr⟩ := hrel
    by_cases hlt : i < b.length
    · have hRr := R.out.grow hBr
      obtain ⟨bk, off, rfl, hb, rg0⟩ := rd_item rfl rfl hRr i hlt
      have hlt' : (i : Int) < (b.length : Int) := by omega
      have hsz := HS.out b[i] (List.getElem_mem hlt)
      have hp1 := @preB_not1 b i hlt
      have hp2 := @preB_not2 b i hlt
      have hp3 := preB_succ hP.out hlt
      have hsr := hBr.size
      obtain ⟨z, hz⟩ := hid_ex (b[i])
      rw [hz.out] at rg0 hsz hp1 hp3
      simp only [hz.out] at hp2
      obtain ⟨N, F, B, C, U⟩ := z
      obtain ⟨hN, hB⟩ := hsz
      dsimp only at hN hB hp2 hp3
      have rg : Hid (wr.rangeAt bk (off + i * 5) [.string N, .int .i64 F, .string B, .int .i64 C, .int .i64 U]) := rg0
      clear rg0
      obtain ⟨x, hx⟩ := hid_ex (itemB ⟨N, F, B, C, U⟩)
      cases x with
      | false =>
        have ey : y = false := by rw [← hy.out]; exact hp1 hx.out
        subst ey
        clear hp1 hp2 hp3
        go_upto_region 6 with (first | (refine wpList_load_r rfl 74 _ rfl bk (off + i * 5) [.string N, .int .i64 F, .string B, .int .i64 C, .int .i64 U] rfl _ Tryz.underlying74 rfl sizeIt rg.out ?_) | (refine wpList_alloc_v rfl 74 rfl _ zeroIt ?_; intro g w2 hg hwg hB2 V2; have hz2 := hB2.size) | (refine wpList_store_v rfl 74 _ _ rfl g [.string N, .int .i64 F, .string B, .int .i64 C, .int .i64 U] rfl rfl sizeIt V2 rfl (ic_one ⟨N, F, B, C, U⟩) ?_; intro w3 hO3 V3) | (fail))
        have hz3 : w2.heap.size ≤ w3.heap.size := Nat.le_of_eq hO3.1.symm
        have hz3b : w3.heap.size ≤ w2.heap.size := Nat.le_of_eq hO3.1
        have hB3 : Below w.heap.size w w3 := (hBr.trans (hB2.mono hsr)).trans (hO3.2.2 _ (by omega))
        have VV : Hid (VBlk w3 g 74 [.string N, .int .i64 F, .string B, .int .i64 C, .int .i64 U]) := V3
        clear V2 V3 hO3
        refine wp_region_held_drew (S := fun w' => w'.cell? ⟨g, 0, none⟩ = some (.string N) ∧ w'.cell? ⟨g, 1, none⟩ = some (.int .i64 F) ∧ w'.cell? ⟨g, 2, none⟩ = some (.string B) ∧ w'.cell? ⟨g, 3, none⟩ = some (.int .i64 C) ∧ w'.cell? ⟨g, 4, none⟩ = some (.int .i64 U)) (by kernel_rfl) (cells5 (w := w3.drew) VV.out) (fun hHeld => ?_)
        refine wpAnyH_take (i := 0) (oi := { dst := some 15, op := Op.load 74 (Operand.tmp 4), type := 74, pos := "l10_item.go:75", after := #[], guard := none }) (v := ?_) rfl (by kernel_rfl) (by kernel_rfl) (by kernel_rfl) (fun _ _ _ h => h) (Or.inl ⟨by rfl, ?_⟩) (by assumption) ?_
        rotate_left 1
        · intro w' hSw
          (try dsimp only at hSw)
          go_simp
          (try with_reducible rfl)
        (try simp only [Act.put, List.setIfInBounds_toArray, List.set_cons_zero, List.set_cons_succ])
        refine wpAnyH_ready (rs := [1]) (by kernel_rfl) (by simp) ?_
        refine AllReadyH.cons (o := { dst := some 16, op := Op.call { callee := Callee.value (Operand.func 158), args := #[Operand.tmp 15], argTypes := #[74] }, type := 4, pos := "l10_item.go:75", after := #[{ on := 0, ground := Ground.data }], guard := none }) rfl (fun KC hKC => ?_) AllReadyH.nil
        go_simp
        (go_at_call 158; refine (implItemOk_any N B F C U _ hx (by omega) (by omega) _).mono ?_; rintro e w4 ⟨rfl, hB4⟩; have hz4 := hB4.size)
        refine hKC.out _ _ (cells5 (vblk_grow VV.out.drew hB4)) (fun hHeld2 => ?_)
        clear hKC KC hHeld
        have hHeld := hHeld2
        clear hHeld2
        (try simp only [Act.put, List.setIfInBounds_toArray, List.set_cons_zero, List.set_cons_succ])
        refine wpAnyH_take (i := 2) (oi := { dst := some 17, op := Op.unOp UnOp.not 4 (Operand.tmp 16), type := 4, pos := "l10_item.go:75", after := #[{ on := 1, ground := Ground.data }], guard := none }) (v := ?_) rfl (by kernel_rfl) (by kernel_rfl) (by kernel_rfl) (fun _ _ _ h => h) (Or.inl ⟨by rfl, ?_⟩) (by assumption) ?_
        rotate_left 1
        · intro w' hSw
          (try dsimp only at hSw)
          go_simp
          (try with_reducible rfl)
        (try simp only [Act.put, List.setIfInBounds_toArray, List.set_cons_zero, List.set_cons_succ])
        refine wpAnyH_take (i := 3) (oi := { dst := some 18, op := Op.move (Operand.tmp 17), type := 4, pos := "l10_item.go:75", after := #[{ on := 2, ground := Ground.data }, { on := 1, ground := Ground.chain }], guard := none }) (v := ?_) rfl (by kernel_rfl) (by kernel_rfl) (by kernel_rfl) (fun _ _ _ h => h) (Or.inl ⟨by rfl, ?_⟩) (by assumption) ?_
        rotate_left 1
        · intro w' hSw
          (try dsimp only at hSw)
          go_simp
          (try with_reducible rfl)
        (try simp only [Act.put, List.setIfInBounds_toArray, List.set_cons_zero, List.set_cons_succ])
        refine wpAnyH_take (i := 4) (oi := { dst := some 19, op := Op.move (Operand.tmp 3), type := 3, pos := "l10_item.go:75", after := #[{ on := 3, ground := Ground.guard }], guard := some (3, false) }) (v := undef) rfl (by kernel_rfl) (by kernel_rfl) (by kernel_rfl) (fun _ _ _ h => h) (Or.inr ⟨by rfl, rfl⟩) (by assumption) ?_
        (try simp only [Act.put, List.setIfInBounds_toArray, List.set_cons_zero, List.set_cons_succ])
        refine wpAnyH_take (i := 5) (oi := { dst := some 20, op := Op.binOp BinOp.gtr 3 (Operand.tmp 19) (Operand.const (Value.int IntKind.i64 0)) 3, type := 4, pos := "l10_item.go:75", after := #[{ on := 4, ground := Ground.data }, { on := 3, ground := Ground.guard }], guard := some (3, false) }) (v := undef) rfl (by kernel_rfl) (by kernel_rfl) (by kernel_rfl) (fun _ _ _ h => h) (Or.inr ⟨by rfl, rfl⟩) (by assumption) ?_
        (try simp only [Act.put, List.setIfInBounds_toArray, List.set_cons_zero, List.set_cons_succ])
        refine wpAnyH_take (i := 6) (oi := { dst := some 21, op := Op.move (Operand.tmp 20), type := 4, pos := "l10_item.go:75", after := #[{ on := 5, ground := Ground.data }, { on := 3, ground := Ground.chain }, { on := 3, ground := Ground.guard }], guard := some (3, false) }) (v := undef) rfl (by kernel_rfl) (by kernel_rfl) (by kernel_rfl) (fun _ _ _ h => h) (Or.inr ⟨by rfl, rfl⟩) (by assumption) ?_
        (try simp only [Act.put, List.setIfInBounds_toArray, List.set_cons_zero, List.set_cons_succ])
        refine wpAnyH_take (i := 7) (oi := { dst := some 22, op := Op.move (Operand.tmp 0), type := 54, pos := "l10_item.go:75", after := #[{ on := 6, ground := Ground.guard }], guard := some (6, true) }) (v := undef) rfl (by kernel_rfl) (by kernel_rfl) (by kernel_rfl) (fun _ _ _ h => h) (Or.inr ⟨by rfl, rfl⟩) (by assumption) ?_
        (try simp only [Act.put, List.setIfInBounds_toArray, List.set_cons_zero, List.set_cons_succ])
        refine wpAnyH_take (i := 8) (oi := { dst := some 23, op := Op.move (Operand.tmp 3), type := 3, pos := "l10_item.go:75", after := #[{ on := 6, ground := Ground.guard }], guard := some (6, true) }) (v := undef) rfl (by kernel_rfl) (by kernel_rfl) (by kernel_rfl) (fun _ _ _ h => h) (Or.inr ⟨by rfl, rfl⟩) (by assumption) ?_
        (try simp only [Act.put, List.setIfInBounds_toArray, List.set_cons_zero, List.set_cons_succ])
        refine wpAnyH_take (i := 9) (oi := { dst := some 24, op := Op.binOp BinOp.sub 3 (Operand.tmp 23) (Operand.const (Value.int IntKind.i64 1)) 3, type := 3, pos := "l10_item.go:75", after := #[{ on := 8, ground := Ground.data }, { on := 6, ground := Ground.guard }], guard := some (6, true) }) (v := undef) rfl (by kernel_rfl) (by kernel_rfl) (by kernel_rfl) (fun _ _ _ h => h) (Or.inr ⟨by rfl, rfl⟩) (by assumption) ?_
        (try simp only [Act.put, List.setIfInBounds_toArray, List.set_cons_zero, List.set_cons_succ])
        refine wpAnyH_take (i := 10) (oi := { dst := some 25, op := Op.indexAddr 54 (Operand.tmp 22) (Operand.tmp 24), type := 0, pos := "l10_item.go:75", after := #[{ on := 7, ground := Ground.data }, { on := 9, ground := Ground.data }, { on := 6, ground := Ground.guard }], guard := some (6, true) }) (v := undef) rfl (by kernel_rfl) (by kernel_rfl) (by kernel_rfl) (fun _ _ _ h => h) (Or.inr ⟨by rfl, rfl⟩) (by assumption) ?_
        (try simp only [Act.put, List.setIfInBounds_toArray, List.set_cons_zero, List.set_cons_succ])
        refine wpAnyH_take (i := 11) (oi := { dst := some 26, op := Op.load 74 (Operand.tmp 25), type := 74, pos := "l10_item.go:75", after := #[{ on := 10, ground := Ground.data }, { on := 6, ground := Ground.guard }], guard := some (6, true) }) (v := undef) rfl (by kernel_rfl) (by kernel_rfl) (by kernel_rfl) (fun _ _ _ h => h) (Or.inr ⟨by rfl, rfl⟩) (by assumption) ?_
        (try simp only [Act.put, List.setIfInBounds_toArray, List.set_cons_zero, List.set_cons_succ])
        refine wpAnyH_take (i := 12) (oi := { dst := some 27, op := Op.call { callee := Callee.value (Operand.func 159), args := #[Operand.tmp 26], argTypes := #[74] }, type := 181, pos := "l10_item.go:75", after := #[{ on := 11, ground := Ground.data }, { on := 6, ground := Ground.chain }, { on := 6, ground := Ground.guard }], guard := some (6, true) }) (v := undef) rfl (by kernel_rfl) (by kernel_rfl) (by kernel_rfl) (fun _ _ _ h => h) (Or.inr ⟨by rfl, rfl⟩) (by assumption) ?_
        (try simp only [Act.put, List.setIfInBounds_toArray, List.set_cons_zero, List.set_cons_succ])
        refine wpAnyH_take (i := 13) (oi := { dst := some 28, op := Op.field 181 (Operand.tmp 27) 0, type := 179, pos := "l10_item.go:75", after := #[{ on := 12, ground := Ground.data }, { on := 6, ground := Ground.guard }], guard := some (6, true) }) (v := undef) rfl (by kernel_rfl) (by kernel_rfl) (by kernel_rfl) (fun _ _ _ h => h) (Or.inr ⟨by rfl, rfl⟩) (by assumption) ?_
        (try simp only [Act.put, List.setIfInBounds_toArray, List.set_cons_zero, List.set_cons_succ])
        refine wpAnyH_take (i := 14) (oi := { dst := some 29, op := Op.fieldAddr 74 (Operand.tmp 4) 0, type := 0, pos := "l10_item.go:75", after := #[{ on := 6, ground := Ground.guard }], guard := some (6, true) }) (v := undef) rfl (by kernel_rfl) (by kernel_rfl) (by kernel_rfl) (fun _ _ _ h => h) (Or.inr ⟨by rfl, rfl⟩) (by assumption) ?_
        (try simp only [Act.put, List.setIfInBounds_toArray, List.set_cons_zero, List.set_cons_succ])
        refine wpAnyH_take (i := 15) (oi := { dst := some 30, op := Op.load 9 (Operand.tmp 29), type := 9, pos := "l10_item.go:75", after := #[{ on := 14, ground := Ground.data }, { on := 6, ground := Ground.guard }], guard := some (6, true) }) (v := undef) rfl (by kernel_rfl) (by kernel_rfl) (by kernel_rfl) (fun _ _ _ h => h) (Or.inr ⟨by rfl, rfl⟩) (by assumption) ?_
        (try simp only [Act.put, List.setIfInBounds_toArray, List.set_cons_zero, List.set_cons_succ])
        refine wpAnyH_take (i := 16) (oi := { dst := some 31, op := Op.call { callee := Callee.value (Operand.func 160), args := #[Operand.tmp 28, Operand.tmp 30], argTypes := #[179, 9] }, type := 4, pos := "l10_item.go:75", after := #[{ on := 13, ground := Ground.data }, { on := 15, ground := Ground.data }, { on := 12, ground := Ground.chain }, { on := 6, ground := Ground.guard }], guard := some (6, true) }) (v := undef) rfl (by kernel_rfl) (by kernel_rfl) (by kernel_rfl) (fun _ _ _ h => h) (Or.inr ⟨by rfl, rfl⟩) (by assumption) ?_
        (try simp only [Act.put, List.setIfInBounds_toArray, List.set_cons_zero, List.set_cons_succ])
        refine wpAnyH_take (i := 17) (oi := { dst := some 32, op := Op.unOp UnOp.not 4 (Operand.tmp 31), type := 4, pos := "l10_item.go:75", after := #[{ on := 16, ground := Ground.data }, { on := 6, ground := Ground.guard }], guard := some (6, true) }) (v := undef) rfl (by kernel_rfl) (by kernel_rfl) (by kernel_rfl) (fun _ _ _ h => h) (Or.inr ⟨by rfl, rfl⟩) (by assumption) ?_
        (try simp only [Act.put, List.setIfInBounds_toArray, List.set_cons_zero, List.set_cons_succ])
        refine wpAnyH_take (i := 18) (oi := { dst := some 33, op := Op.pick (Operand.tmp 21) (Operand.tmp 32) (Operand.const (Value.bool false)), type := 4, pos := "l10_item.go:75", after := #[{ on := 6, ground := Ground.data }, { on := 17, ground := Ground.data }, { on := 3, ground := Ground.guard }], guard := some (3, false) }) (v := undef) rfl (by kernel_rfl) (by kernel_rfl) (by kernel_rfl) (fun _ _ _ h => h) (Or.inr ⟨by rfl, rfl⟩) (by assumption) ?_
        (try simp only [Act.put, List.setIfInBounds_toArray, List.set_cons_zero, List.set_cons_succ])
        refine wpAnyH_take (i := 19) (oi := { dst := some 34, op := Op.pick (Operand.tmp 18) (Operand.const (Value.bool true)) (Operand.tmp 33), type := 4, pos := "l10_item.go:75", after := #[{ on := 3, ground := Ground.data }, { on := 18, ground := Ground.data }], guard := none }) (v := ?_) rfl (by kernel_rfl) (by kernel_rfl) (by kernel_rfl) (fun _ _ _ h => h) (Or.inl ⟨by rfl, ?_⟩) (by assumption) ?_
        rotate_left 1
        · intro w' hSw
          (try dsimp only at hSw)
          go_simp
          (try with_reducible rfl)
        (try simp only [Act.put, List.setIfInBounds_toArray, List.set_cons_zero, List.set_cons_succ])
        refine wpAnyH_done (by kernel_rfl) ?_ _
        go_wp2
        go_ret
        exact ⟨rfl, hB3.drew.trans (hB4.mono hB3.size)⟩
      | true =>
        by_cases h0 : 0 < i
        · have h0' : decide ((i : Int) > 0) = true := decide_eq_true (by omega)
          have h0'' : (0 : Int) < (i : Int) := by omega
          obtain ⟨p, hpi⟩ : ∃ p : Nat, Hid (p = i - 1) := ⟨_, rfl⟩
          have hpl : p < b.length := by have := hpi.out; omega
          have hpw : IntKind.i64.wrap ((i : Int) - 1) = (p : Int) := by rw [IntKind.wrap_i64]; have := hpi.out; omega
          have hpp : (p : Int) < (b.length : Int) := by omega
          obtain ⟨bk', off', e', -, rp⟩ := rd_item rfl rfl hRr p hpl
          cases e'
          obtain ⟨q, hq⟩ := hid_ex (b[p])
          have ep : (b[i - 1]'(by omega)) = q := by rw [← hq.out]; simp only [hpi.out]
          rw [hq.out] at rp
          simp only [ep] at hp2 hp3
          obtain ⟨N2, F2, B2, C2, U2⟩ := q
          dsimp only at hp2 hp3
          have rg2 : Hid (wr.rangeAt bk (off + p * 5) [.string N2, .int .i64 F2, .string B2, .int .i64 C2, .int .i64 U2]) := rp
          clear rp ep
          obtain ⟨l, hl2⟩ := hid_ex (ltS N2 N)
          cases l with
          | false =>
            have ey : y = false := by rw [← hy.out]; exact hp2 h0 hl2.out
            subst ey
            clear hp1 hp2 hp3
            have hfd := field_thing N2 B2 F2 C2 U2
            go_upto_region 6 with (first | (refine wpList_load_r rfl 74 _ rfl bk (off + i * 5) [.string N, .int .i64 F, .string B, .int .i64 C, .int .i64 U] rfl _ Tryz.underlying74 rfl sizeIt rg.out ?_) | (refine wpList_alloc_v rfl 74 rfl _ zeroIt ?_; intro g w2 hg hwg hB2 V2; have hz2 := hB2.size) | (refine wpList_store_v rfl 74 _ _ rfl g [.string N, .int .i64 F, .string B, .int .i64 C, .int .i64 U] rfl rfl sizeIt V2 rfl (ic_one ⟨N, F, B, C, U⟩) ?_; intro w3 hO3 V3) | (fail))
            have hz3 : w2.heap.size ≤ w3.heap.size := Nat.le_of_eq hO3.1.symm
            have hz3b : w3.heap.size ≤ w2.heap.size := Nat.le_of_eq hO3.1
            have hB3 : Below w.heap.size w w3 := (hBr.trans (hB2.mono hsr)).trans (hO3.2.2 _ (by omega))
            have VV : Hid (VBlk w3 g 74 [.string N, .int .i64 F, .string B, .int .i64 C, .int .i64 U]) := V3
            have rg3 : Hid (w3.rangeAt bk (off + p * 5) [.string N2, .int .i64 F2, .string B2, .int .i64 C2, .int .i64 U2]) := range_of (range_of rg2.out (hB2.block bk hb)) (hO3.2.1 bk (by omega))
            have hbk3 : bk < w3.heap.size := by omega
            clear V2 V3 hO3
            have hS0 : (w3.drew.cell? ⟨g, 0, none⟩ = some (.string N) ∧ w3.drew.cell? ⟨g, 1, none⟩ = some (.int .i64 F) ∧ w3.drew.cell? ⟨g, 2, none⟩ = some (.string B) ∧ w3.drew.cell? ⟨g, 3, none⟩ = some (.int .i64 C) ∧ w3.drew.cell? ⟨g, 4, none⟩ = some (.int .i64 U)) ∧ w3.drew.cell? ⟨bk, off + p * 5, none⟩ = some (.string N2) ∧ w3.drew.cell? ⟨bk, off + p * 5 + 1, none⟩ = some (.int .i64 F2) ∧ w3.drew.cell? ⟨bk, off + p * 5 + 2, none⟩ = some (.string B2) ∧ w3.drew.cell? ⟨bk, off + p * 5 + 3, none⟩ = some (.int .i64 C2) ∧ w3.drew.cell? ⟨bk, off + p * 5 + 4, none⟩ = some (.int .i64 U2) := ⟨cells5 (w := w3.drew) VV.out, rng5 (w := w3.drew) rg3.out⟩
            go_region_held3 (fun w' => (w'.cell? ⟨g, 0, none⟩ = some (.string N) ∧ w'.cell? ⟨g, 1, none⟩ = some (.int .i64 F) ∧ w'.cell? ⟨g, 2, none⟩ = some (.string B) ∧ w'.cell? ⟨g, 3, none⟩ = some (.int .i64 C) ∧ w'.cell? ⟨g, 4, none⟩ = some (.int .i64 U)) ∧ w'.cell? ⟨bk, off + p * 5, none⟩ = some (.string N2) ∧ w'.cell? ⟨bk, off + p * 5 + 1, none⟩ = some (.int .i64 F2) ∧ w'.cell? ⟨bk, off + p * 5 + 2, none⟩ = some (.string B2) ∧ w'.cell? ⟨bk, off + p * 5 + 3, none⟩ = some (.int .i64 C2) ∧ w'.cell? ⟨bk, off + p * 5 + 4, none⟩ = some (.int .i64 U2)) (first | assumption | exact hS0) (first | (go_at_call 158; refine (implItemOk_any N B F C U _ hx (by omega) (by omega) _).mono ?_; rintro e w4 ⟨rfl, hB4⟩; have hz4 := hB4.size; have VW : Hid (VBlk w4 g 74 [.string N, .int .i64 F, .string B, .int .i64 C, .int .i64 U]) := vblk_grow VV.out.drew hB4; have rg4 : Hid (w4.rangeAt bk (off + p * 5) [.string N2, .int .i64 F2, .string B2, .int .i64 C2, .int .i64 U2]) := range_of rg3.out (hB4.block bk hbk3); have hS2 := And.intro (cells5 VW.out) (rng5 rg4.out)) | (go_at_call 159; refine (thingOf_any N2 B2 F2 C2 U2 _).mono ?_; rintro e w5 ⟨rfl, hB5⟩; have hS3 := And.intro (cells5 (vblk_grow VW.out hB5)) (rng5 (range_of rg4.out (hB5.block bk (Nat.lt_of_lt_of_le hbk3 hz4))))) | (go_at_call 160; refine (standsAhead_any N2 N _ hl2.out _).mono ?_; rintro e wq ⟨rfl, hq⟩; subst wq) | (fail))
            go_wp2
            go_ret
            exact ⟨rfl, (hB3.drew.trans (hB4.mono hB3.size)).trans (hB5.mono (Nat.le_trans hB3.size hz4))⟩
          | true =>
            have hP3 : Hid (PreB b (i + 1)) := hp3 hx.out fun _ => hl2.out
            clear hp1 hp2 hp3
            have hfd := field_thing N2 B2 F2 C2 U2
            go_upto_region 6 with (first | (refine wpList_load_r rfl 74 _ rfl bk (off + i * 5) [.string N, .int .i64 F, .string B, .int .i64 C, .int .i64 U] rfl _ Tryz.underlying74 rfl sizeIt rg.out ?_) | (refine wpList_alloc_v rfl 74 rfl _ zeroIt ?_; intro g w2 hg hwg hB2 V2; have hz2 := hB2.size) | (refine wpList_store_v rfl 74 _ _ rfl g [.string N, .int .i64 F, .string B, .int .i64 C, .int .i64 U] rfl rfl sizeIt V2 rfl (ic_one ⟨N, F, B, C, U⟩) ?_; intro w3 hO3 V3) | (fail))
            have hz3 : w2.heap.size ≤ w3.heap.size := Nat.le_of_eq hO3.1.symm
            have hz3b : w3.heap.size ≤ w2.heap.size := Nat.le_of_eq hO3.1
            have hB3 : Below w.heap.size w w3 := (hBr.trans (hB2.mono hsr)).trans (hO3.2.2 _ (by omega))
            have VV : Hid (VBlk w3 g 74 [.string N, .int .i64 F, .string B, .int .i64 C, .int .i64 U]) := V3
            have rg3 : Hid (w3.rangeAt bk (off + p * 5) [.string N2, .int .i64 F2, .string B2, .int .i64 C2, .int .i64 U2]) := range_of (range_of rg2.out (hB2.block bk hb)) (hO3.2.1 bk (by omega))
            have hbk3 : bk < w3.heap.size := by omega
            clear V2 V3 hO3
            have hS0 : (w3.drew.cell? ⟨g, 0, none⟩ = some (.string N) ∧ w3.drew.cell? ⟨g, 1, none⟩ = some (.int .i64 F) ∧ w3.drew.cell? ⟨g, 2, none⟩ = some (.string B) ∧ w3.drew.cell? ⟨g, 3, none⟩ = some (.int .i64 C) ∧ w3.drew.cell? ⟨g, 4, none⟩ = some (.int .i64 U)) ∧ w3.drew.cell? ⟨bk, off + p * 5, none⟩ = some (.string N2) ∧ w3.drew.cell? ⟨bk, off + p * 5 + 1, none⟩ = some (.int .i64 F2) ∧ w3.drew.cell? ⟨bk, off + p * 5 + 2, none⟩ = some (.string B2) ∧ w3.drew.cell? ⟨bk, off + p * 5 + 3, none⟩ = some (.int .i64 C2) ∧ w3.drew.cell? ⟨bk, off + p * 5 + 4, none⟩ = some (.int .i64 U2) := ⟨cells5 (w := w3.drew) VV.out, rng5 (w := w3.drew) rg3.out⟩
            go_region_held3 (fun w' => (w'.cell? ⟨g, 0, none⟩ = some (.string N) ∧ w'.cell? ⟨g, 1, none⟩ = some (.int .i64 F) ∧ w'.cell? ⟨g, 2, none⟩ = some (.string B) ∧ w'.cell? ⟨g, 3, none⟩ = some (.int .i64 C) ∧ w'.cell? ⟨g, 4, none⟩ = some (.int .i64 U)) ∧ w'.cell? ⟨bk, off + p * 5, none⟩ = some (.string N2) ∧ w'.cell? ⟨bk, off + p * 5 + 1, none⟩ = some (.int .i64 F2) ∧ w'.cell? ⟨bk, off + p * 5 + 2, none⟩ = some (.string B2) ∧ w'.cell? ⟨bk, off + p * 5 + 3, none⟩ = some (.int .i64 C2) ∧ w'.cell? ⟨bk, off + p * 5 + 4, none⟩ = some (.int .i64 U2)) (first | assumption | exact hS0) (first | (go_at_call 158; refine (implItemOk_any N B F C U _ hx (by omega) (by omega) _).mono ?_; rintro e w4 ⟨rfl, hB4⟩; have hz4 := hB4.size; have VW : Hid (VBlk w4 g 74 [.string N, .int .i64 F, .string B, .int .i64 C, .int .i64 U]) := vblk_grow VV.out.drew hB4; have rg4 : Hid (w4.rangeAt bk (off + p * 5) [.string N2, .int .i64 F2, .string B2, .int .i64 C2, .int .i64 U2]) := range_of rg3.out (hB4.block bk hbk3); have hS2 := And.intro (cells5 VW.out) (rng5 rg4.out)) | (go_at_call 159; refine (thingOf_any N2 B2 F2 C2 U2 _).mono ?_; rintro e w5 ⟨rfl, hB5⟩; have hS3 := And.intro (cells5 (vblk_grow VW.out hB5)) (rng5 (range_of rg4.out (hB5.block bk (Nat.lt_of_lt_of_le hbk3 hz4))))) | (go_at_call 160; refine (standsAhead_any N2 N _ hl2.out _).mono ?_; rintro e wq ⟨rfl, hq⟩; subst wq) | (fail))
            go_wp2
            go_roundw
            case rel => exact ⟨i + 1, by omega, by go_num, hP3, (hB3.drew.trans (hB4.mono hB3.size)).trans (hB5.mono (Nat.le_trans hB3.size hz4))⟩
            case measure => simp [intOf]; omega
        · have hP3 : Hid (PreB b (i + 1)) := hp3 hx.out fun h => absurd h h0
          have h0' : decide ((i : Int) > 0) = false := decide_eq_false (by omega)
          have h0'' : ¬ (0 : Int) < (i : Int) := by omega
          clear hp1 hp2 hp3
          go_upto_region 6 with (first | (refine wpList_load_r rfl 74 _ rfl bk (off + i * 5) [.string N, .int .i64 F, .string B, .int .i64 C, .int .i64 U] rfl _ Tryz.underlying74 rfl sizeIt rg.out ?_) | (refine wpList_alloc_v rfl 74 rfl _ zeroIt ?_; intro g w2 hg hwg hB2 V2; have hz2 := hB2.size) | (refine wpList_store_v rfl 74 _ _ rfl g [.string N, .int .i64 F, .string B, .int .i64 C, .int .i64 U] rfl rfl sizeIt V2 rfl (ic_one ⟨N, F, B, C, U⟩) ?_; intro w3 hO3 V3) | (fail))
          have hz3 : w2.heap.size ≤ w3.heap.size := Nat.le_of_eq hO3.1.symm
          have hz3b : w3.heap.size ≤ w2.heap.size := Nat.le_of_eq hO3.1
          have hB3 : Below w.heap.size w w3 := (hBr.trans (hB2.mono hsr)).trans (hO3.2.2 _ (by omega))
          have VV : Hid (VBlk w3 g 74 [.string N, .int .i64 F, .string B, .int .i64 C, .int .i64 U]) := V3
          clear V2 V3 hO3
          refine wp_region_held_drew (S := fun w' => w'.cell? ⟨g, 0, none⟩ = some (.string N) ∧ w'.cell? ⟨g, 1, none⟩ = some (.int .i64 F) ∧ w'.cell? ⟨g, 2, none⟩ = some (.string B) ∧ w'.cell? ⟨g, 3, none⟩ = some (.int .i64 C) ∧ w'.cell? ⟨g, 4, none⟩ = some (.int .i64 U)) (by kernel_rfl) (cells5 (w := w3.drew) VV.out) (fun hHeld => ?_)
          refine wpAnyH_take (i := 0) (oi := { dst := some 15, op := Op.load 74 (Operand.tmp 4), type := 74, pos := "l10_item.go:75", after := #[], guard := none }) (v := ?_) rfl (by kernel_rfl) (by kernel_rfl) (by kernel_rfl) (fun _ _ _ h => h) (Or.inl ⟨by rfl, ?_⟩) (by assumption) ?_
          rotate_left 1
          · intro w' hSw
            (try dsimp only at hSw)
            go_simp
            (try with_reducible rfl)
          (try simp only [Act.put, List.setIfInBounds_toArray, List.set_cons_zero, List.set_cons_succ])
          refine wpAnyH_ready (rs := [1]) (by kernel_rfl) (by simp) ?_
          refine AllReadyH.cons (o := { dst := some 16, op := Op.call { callee := Callee.value (Operand.func 158), args := #[Operand.tmp 15], argTypes := #[74] }, type := 4, pos := "l10_item.go:75", after := #[{ on := 0, ground := Ground.data }], guard := none }) rfl (fun KC hKC => ?_) AllReadyH.nil
          go_simp
          (go_at_call 158; refine (implItemOk_any N B F C U _ hx (by omega) (by omega) _).mono ?_; rintro e w4 ⟨rfl, hB4⟩; have hz4 := hB4.size)
          refine hKC.out _ _ (cells5 (vblk_grow VV.out.drew hB4)) (fun hHeld2 => ?_)
          clear hKC KC hHeld
          have hHeld := hHeld2
          clear hHeld2
          (try simp only [Act.put, List.setIfInBounds_toArray, List.set_cons_zero, List.set_cons_succ])
          refine wpAnyH_take (i := 2) (oi := { dst := some 17, op := Op.unOp UnOp.not 4 (Operand.tmp 16), type := 4, pos := "l10_item.go:75", after := #[{ on := 1, ground := Ground.data }], guard := none }) (v := ?_) rfl (by kernel_rfl) (by kernel_rfl) (by kernel_rfl) (fun _ _ _ h => h) (Or.inl ⟨by rfl, ?_⟩) (by assumption) ?_
          rotate_left 1
          · intro w' hSw
            (try dsimp only at hSw)
            go_simp
            (try with_reducible rfl)
          (try simp only [Act.put, List.setIfInBounds_toArray, List.set_cons_zero, List.set_cons_succ])
          refine wpAnyH_take (i := 3) (oi := { dst := some 18, op := Op.move (Operand.tmp 17), type := 4, pos := "l10_item.go:75", after := #[{ on := 2, ground := Ground.data }, { on := 1, ground := Ground.chain }], guard := none }) (v := ?_) rfl (by kernel_rfl) (by kernel_rfl) (by kernel_rfl) (fun _ _ _ h => h) (Or.inl ⟨by rfl, ?_⟩) (by assumption) ?_
          rotate_left 1
          · intro w' hSw
            (try dsimp only at hSw)
            go_simp
            (try with_reducible rfl)
          (try simp only [Act.put, List.setIfInBounds_toArray, List.set_cons_zero, List.set_cons_succ])
          refine wpAnyH_take (i := 4) (oi := { dst := some 19, op := Op.move (Operand.tmp 3), type := 3, pos := "l10_item.go:75", after := #[{ on := 3, ground := Ground.guard }], guard := some (3, false) }) (v := ?_) rfl (by kernel_rfl) (by kernel_rfl) (by kernel_rfl) (fun _ _ _ h => h) (Or.inl ⟨by rfl, ?_⟩) (by assumption) ?_
          rotate_left 1
          · intro w' hSw
            (try dsimp only at hSw)
            go_simp
            (try with_reducible rfl)
          (try simp only [Act.put, List.setIfInBounds_toArray, List.set_cons_zero, List.set_cons_succ])
          refine wpAnyH_take (i := 5) (oi := { dst := some 20, op := Op.binOp BinOp.gtr 3 (Operand.tmp 19) (Operand.const (Value.int IntKind.i64 0)) 3, type := 4, pos := "l10_item.go:75", after := #[{ on := 4, ground := Ground.data }, { on := 3, ground := Ground.guard }], guard := some (3, false) }) (v := ?_) rfl (by kernel_rfl) (by kernel_rfl) (by kernel_rfl) (fun _ _ _ h => h) (Or.inl ⟨by rfl, ?_⟩) (by assumption) ?_
          rotate_left 1
          · intro w' hSw
            (try dsimp only at hSw)
            go_simp
            (try with_reducible rfl)
          (try simp only [Act.put, List.setIfInBounds_toArray, List.set_cons_zero, List.set_cons_succ])
          refine wpAnyH_take (i := 6) (oi := { dst := some 21, op := Op.move (Operand.tmp 20), type := 4, pos := "l10_item.go:75", after := #[{ on := 5, ground := Ground.data }, { on := 3, ground := Ground.chain }, { on := 3, ground := Ground.guard }], guard := some (3, false) }) (v := ?_) rfl (by kernel_rfl) (by kernel_rfl) (by kernel_rfl) (fun _ _ _ h => h) (Or.inl ⟨by rfl, ?_⟩) (by assumption) ?_
          rotate_left 1
          · intro w' hSw
            (try dsimp only at hSw)
            go_simp
            (try with_reducible rfl)
          (try simp only [Act.put, List.setIfInBounds_toArray, List.set_cons_zero, List.set_cons_succ])
          refine wpAnyH_take (i := 7) (oi := { dst := some 22, op := Op.move (Operand.tmp 0), type := 54, pos := "l10_item.go:75", after := #[{ on := 6, ground := Ground.guard }], guard := some (6, true) }) (v := undef) rfl (by kernel_rfl) (by kernel_rfl) (by kernel_rfl) (fun _ _ _ h => h) (Or.inr ⟨by rfl, rfl⟩) (by assumption) ?_
          (try simp only [Act.put, List.setIfInBounds_toArray, List.set_cons_zero, List.set_cons_succ])
          refine wpAnyH_take (i := 8) (oi := { dst := some 23, op := Op.move (Operand.tmp 3), type := 3, pos := "l10_item.go:75", after := #[{ on := 6, ground := Ground.guard }], guard := some (6, true) }) (v := undef) rfl (by kernel_rfl) (by kernel_rfl) (by kernel_rfl) (fun _ _ _ h => h) (Or.inr ⟨by rfl, rfl⟩) (by assumption) ?_
          (try simp only [Act.put, List.setIfInBounds_toArray, List.set_cons_zero, List.set_cons_succ])
          refine wpAnyH_take (i := 9) (oi := { dst := some 24, op := Op.binOp BinOp.sub 3 (Operand.tmp 23) (Operand.const (Value.int IntKind.i64 1)) 3, type := 3, pos := "l10_item.go:75", after := #[{ on := 8, ground := Ground.data }, { on := 6, ground := Ground.guard }], guard := some (6, true) }) (v := undef) rfl (by kernel_rfl) (by kernel_rfl) (by kernel_rfl) (fun _ _ _ h => h) (Or.inr ⟨by rfl, rfl⟩) (by assumption) ?_
          (try simp only [Act.put, List.setIfInBounds_toArray, List.set_cons_zero, List.set_cons_succ])
          refine wpAnyH_take (i := 10) (oi := { dst := some 25, op := Op.indexAddr 54 (Operand.tmp 22) (Operand.tmp 24), type := 0, pos := "l10_item.go:75", after := #[{ on := 7, ground := Ground.data }, { on := 9, ground := Ground.data }, { on := 6, ground := Ground.guard }], guard := some (6, true) }) (v := undef) rfl (by kernel_rfl) (by kernel_rfl) (by kernel_rfl) (fun _ _ _ h => h) (Or.inr ⟨by rfl, rfl⟩) (by assumption) ?_
          (try simp only [Act.put, List.setIfInBounds_toArray, List.set_cons_zero, List.set_cons_succ])
          refine wpAnyH_take (i := 11) (oi := { dst := some 26, op := Op.load 74 (Operand.tmp 25), type := 74, pos := "l10_item.go:75", after := #[{ on := 10, ground := Ground.data }, { on := 6, ground := Ground.guard }], guard := some (6, true) }) (v := undef) rfl (by kernel_rfl) (by kernel_rfl) (by kernel_rfl) (fun _ _ _ h => h) (Or.inr ⟨by rfl, rfl⟩) (by assumption) ?_
          (try simp only [Act.put, List.setIfInBounds_toArray, List.set_cons_zero, List.set_cons_succ])
          refine wpAnyH_take (i := 12) (oi := { dst := some 27, op := Op.call { callee := Callee.value (Operand.func 159), args := #[Operand.tmp 26], argTypes := #[74] }, type := 181, pos := "l10_item.go:75", after := #[{ on := 11, ground := Ground.data }, { on := 6, ground := Ground.chain }, { on := 6, ground := Ground.guard }], guard := some (6, true) }) (v := undef) rfl (by kernel_rfl) (by kernel_rfl) (by kernel_rfl) (fun _ _ _ h => h) (Or.inr ⟨by rfl, rfl⟩) (by assumption) ?_
          (try simp only [Act.put, List.setIfInBounds_toArray, List.set_cons_zero, List.set_cons_succ])
          refine wpAnyH_take (i := 13) (oi := { dst := some 28, op := Op.field 181 (Operand.tmp 27) 0, type := 179, pos := "l10_item.go:75", after := #[{ on := 12, ground := Ground.data }, { on := 6, ground := Ground.guard }], guard := some (6, true) }) (v := undef) rfl (by kernel_rfl) (by kernel_rfl) (by kernel_rfl) (fun _ _ _ h => h) (Or.inr ⟨by rfl, rfl⟩) (by assumption) ?_
          (try simp only [Act.put, List.setIfInBounds_toArray, List.set_cons_zero, List.set_cons_succ])
          refine wpAnyH_take (i := 14) (oi := { dst := some 29, op := Op.fieldAddr 74 (Operand.tmp 4) 0, type := 0, pos := "l10_item.go:75", after := #[{ on := 6, ground := Ground.guard }], guard := some (6, true) }) (v := undef) rfl (by kernel_rfl) (by kernel_rfl) (by kernel_rfl) (fun _ _ _ h => h) (Or.inr ⟨by rfl, rfl⟩) (by assumption) ?_
          (try simp only [Act.put, List.setIfInBounds_toArray, List.set_cons_zero, List.set_cons_succ])
          refine wpAnyH_take (i := 15) (oi := { dst := some 30, op := Op.load 9 (Operand.tmp 29), type := 9, pos := "l10_item.go:75", after := #[{ on := 14, ground := Ground.data }, { on := 6, ground := Ground.guard }], guard := some (6, true) }) (v := undef) rfl (by kernel_rfl) (by kernel_rfl) (by kernel_rfl) (fun _ _ _ h => h) (Or.inr ⟨by rfl, rfl⟩) (by assumption) ?_
          (try simp only [Act.put, List.setIfInBounds_toArray, List.set_cons_zero, List.set_cons_succ])
          refine wpAnyH_take (i := 16) (oi := { dst := some 31, op := Op.call { callee := Callee.value (Operand.func 160), args := #[Operand.tmp 28, Operand.tmp 30], argTypes := #[179, 9] }, type := 4, pos := "l10_item.go:75", after := #[{ on := 13, ground := Ground.data }, { on := 15, ground := Ground.data }, { on := 12, ground := Ground.chain }, { on := 6, ground := Ground.guard }], guard := some (6, true) }) (v := undef) rfl (by kernel_rfl) (by kernel_rfl) (by kernel_rfl) (fun _ _ _ h => h) (Or.inr ⟨by rfl, rfl⟩) (by assumption) ?_
          (try simp only [Act.put, List.setIfInBounds_toArray, List.set_cons_zero, List.set_cons_succ])
          refine wpAnyH_take (i := 17) (oi := { dst := some 32, op := Op.unOp UnOp.not 4 (Operand.tmp 31), type := 4, pos := "l10_item.go:75", after := #[{ on := 16, ground := Ground.data }, { on := 6, ground := Ground.guard }], guard := some (6, true) }) (v := undef) rfl (by kernel_rfl) (by kernel_rfl) (by kernel_rfl) (fun _ _ _ h => h) (Or.inr ⟨by rfl, rfl⟩) (by assumption) ?_
          (try simp only [Act.put, List.setIfInBounds_toArray, List.set_cons_zero, List.set_cons_succ])
          refine wpAnyH_take (i := 18) (oi := { dst := some 33, op := Op.pick (Operand.tmp 21) (Operand.tmp 32) (Operand.const (Value.bool false)), type := 4, pos := "l10_item.go:75", after := #[{ on := 6, ground := Ground.data }, { on := 17, ground := Ground.data }, { on := 3, ground := Ground.guard }], guard := some (3, false) }) (v := ?_) rfl (by kernel_rfl) (by kernel_rfl) (by kernel_rfl) (fun _ _ _ h => h) (Or.inl ⟨by rfl, ?_⟩) (by assumption) ?_
          rotate_left 1
          · intro w' hSw
            (try dsimp only at hSw)
            go_simp
            (try with_reducible rfl)
          (try simp only [Act.put, List.setIfInBounds_toArray, List.set_cons_zero, List.set_cons_succ])
          refine wpAnyH_take (i := 19) (oi := { dst := some 34, op := Op.pick (Operand.tmp 18) (Operand.const (Value.bool true)) (Operand.tmp 33), type := 4, pos := "l10_item.go:75", after := #[{ on := 3, ground := Ground.data }, { on := 18, ground := Ground.data }], guard := none }) (v := ?_) rfl (by kernel_rfl) (by kernel_rfl) (by kernel_rfl) (fun _ _ _ h => h) (Or.inl ⟨by rfl, ?_⟩) (by assumption) ?_
          rotate_left 1
          · intro w' hSw
            (try dsimp only at hSw)
            go_simp
            (try with_reducible rfl)
          (try simp only [Act.put, List.setIfInBounds_toArray, List.set_cons_zero, List.set_cons_succ])
          refine wpAnyH_done (by kernel_rfl) ?_ _
          go_wp2
          go_roundw
          case rel => exact ⟨i + 1, by omega, by go_num, hP3, hB3.drew.trans (hB4.mono hB3.size)⟩
          case measure => simp [intOf]; omega
    · have hlt' : ¬ (i : Int) < (b.length : Int) := by omega
      have hP2 := hP.out
      rw [show i = b.length by omega] at hP2
      have ey : y = true := by rw [← hy.out, preB_all hP2]; exact decide_eq_true (by omega)
      subst ey
      clear hP2
      go_wp2
      go_ret
      exact ⟨rfl, hBr⟩

theorem implFindItem_any (b : List It) (s : ByteArray) (v : Value) (w : World) (r : Rd encIt w v b) :
    Calls Tryz.prog 140 #[v, .string s] w fun e w' => e = .returned (.int .i64 (findI b s)) ∧ Below w.heap.size w w' := by
  have hl := r.len
  obtain ⟨a, cap, rfl⟩ := r.form
  have R : Hid (Rd encIt w (.slice a b.length cap) b) := r
  clear r
  obtain ⟨y, hy⟩ := hid_ex (findI b s)
  rw [hy.out]
  go_enter Tryz.func140, Tryz.ntmps140
  go_wp2
  go_loopw [9] (fun p wr => ∃ i : Nat, i ≤ b.length ∧ p = .int .i64 i ∧ Hid (s ∉ (b.map (·.N)).take i) ∧ Below w.heap.size w wr) (fun p _ => b.length - (intOf p).toNat)
  case atStart => exact ⟨0, by omega, rfl, (by unfold Hid; simp), Below.refl _ _⟩
  case round =>
    obtain ⟨i, hi1, rfl, hno, hBr⟩ := hrel
    by_cases hlt : i < b.length
    · obtain ⟨bk, off, rfl, hb, rg0⟩ := rd_item rfl rfl (R.out.grow hBr) i hlt
      have hm : i < (b.map (·.N)).length := by rw [List.length_map]; exact hlt
      have hlt' : (i : Int) < (b.length : Int) := by omega
      have ge : (b.map (·.N))[i] = b[i].N := by rw [List.getElem_map]
      have hsr := hBr.size
      obtain ⟨z, hz⟩ := hid_ex (b[i])
      rw [hz.out] at rg0 ge
      obtain ⟨N, F, B, C, U⟩ := z
      dsimp only at ge
      have rg : Hid (wr.rangeAt bk (off + i * 5) [.string N, .int .i64 F, .string B, .int .i64 C, .int .i64 U]) := rg0
      clear rg0
      by_cases he : N.toList = s.toList
      · have ey : y = i := by rw [← hy.out]; exact posS_at hm (ge.trans (str_eq he)) hno.out
        subst ey
        have hbe : Hid ((N.toList == s.toList) = true) := by unfold Hid; simpa using he
        have hfd := field_thing N B F C U
        clear he ge
        go_wp2_with (first | (clear hno; refine wpList_load_r rfl 74 _ rfl bk (off + i * 5) [.string N, .int .i64 F, .string B, .int .i64 C, .int .i64 U] rfl _ Tryz.underlying74 rfl sizeIt rg.out ?_) | (refine wpList_alloc_v rfl 74 rfl _ zeroIt ?_; intro g w2 hg hwg hB2 V2; have hz2 := hB2.size) | (refine wpList_store_v rfl 74 _ _ rfl g [.string N, .int .i64 F, .string B, .int .i64 C, .int .i64 U] rfl rfl sizeIt V2 rfl (ic_one ⟨N, F, B, C, U⟩) ?_; intro w3 hO3 V3; have hz3 : w2.heap.size ≤ w3.heap.size := Nat.le_of_eq hO3.1.symm) | (refine wpList_load_r rfl 74 _ rfl g 0 [.string N, .int .i64 F, .string B, .int .i64 C, .int .i64 U] rfl _ Tryz.underlying74 rfl sizeIt V3.range ?_) | (go_at_call 159; refine (thingOf_any N B F C U _).mono ?_; rintro e w4 ⟨rfl, hB4⟩) | (go_at_call 181; refine (goesBy_any N s _ hbe.out _).mono ?_; rintro e wq ⟨rfl, hq⟩; subst wq) | (fail))
        go_ret
        exact ⟨rfl, ((hBr.trans (hB2.mono hsr)).trans (hO3.2.2 _ (by omega))).trans (hB4.mono (by omega))⟩
      · have hno2 : Hid (s ∉ (b.map (·.N)).take (i + 1)) := by
          unfold Hid
          rw [List.take_succ_eq_append_getElem hm, List.mem_append, ge, List.mem_singleton]
          rintro (h | h)
          · exact hno.out h
          · exact he (by rw [h])
        have hbe : Hid ((N.toList == s.toList) = false) := by unfold Hid; simpa using he
        have hfd := field_thing N B F C U
        clear he ge
        go_wp2_with (first | (clear hno; refine wpList_load_r rfl 74 _ rfl bk (off + i * 5) [.string N, .int .i64 F, .string B, .int .i64 C, .int .i64 U] rfl _ Tryz.underlying74 rfl sizeIt rg.out ?_) | (refine wpList_alloc_v rfl 74 rfl _ zeroIt ?_; intro g w2 hg hwg hB2 V2; have hz2 := hB2.size) | (refine wpList_store_v rfl 74 _ _ rfl g [.string N, .int .i64 F, .string B, .int .i64 C, .int .i64 U] rfl rfl sizeIt V2 rfl (ic_one ⟨N, F, B, C, U⟩) ?_; intro w3 hO3 V3; have hz3 : w2.heap.size ≤ w3.heap.size := Nat.le_of_eq hO3.1.symm) | (refine wpList_load_r rfl 74 _ rfl g 0 [.string N, .int .i64 F, .string B, .int .i64 C, .int .i64 U] rfl _ Tryz.underlying74 rfl sizeIt V3.range ?_) | (go_at_call 159; refine (thingOf_any N B F C U _).mono ?_; rintro e w4 ⟨rfl, hB4⟩) | (go_at_call 181; refine (goesBy_any N s _ hbe.out _).mono ?_; rintro e wq ⟨rfl, hq⟩; subst wq) | (fail))
        go_roundw
        case rel => exact ⟨i + 1, by omega, by go_num, hno2, ((hBr.trans (hB2.mono hsr)).trans (hO3.2.2 _ (by omega))).trans (hB4.mono (by omega))⟩
        case measure => simp [intOf]; omega
    · have hlt' : ¬ (i : Int) < (b.length : Int) := by omega
      have ey : y = -1 := by
        have h := hno.out
        rw [List.take_of_length_le (by rw [List.length_map]; omega)] at h
        rw [← hy.out]; exact posS_no h
      subst ey
      go_wp2
      go_ret
      exact ⟨rfl, hBr⟩

end Go.Proofs.YtaabmkhckbndgaaGreatDoor.rg
/- Mathematics of books, no Go in sight: things put where they belong, stamped, over, asked for. -/
namespace Go.Proofs.YtaabmkhckbndgaaGreatDoor.rg
open Go.RowKit
open Go.Proofs.YtaabmkhckbndgaaGreatDoor.cm
set_option linter.unusedVariables false

theorem less_flip : ∀ x y : List UInt8, Op.bytesLess x y = false → x ≠ y → Op.bytesLess y x = true
  | [], [], _, h => absurd rfl h
  | [], b :: y, h, _ => by simp [Op.bytesLess] at h
  | a :: x, [], _, _ => by simp [Op.bytesLess]
  | a :: x, b :: y, h, hn => by
    simp only [Op.bytesLess, Bool.or_eq_false_iff, Bool.and_eq_false_iff, decide_eq_false_iff_not, beq_eq_false_iff_ne, Bool.or_eq_true, Bool.and_eq_true, decide_eq_true_eq, beq_iff_eq] at h ⊢
    obtain ⟨h1, h2⟩ := h
    by_cases e : a = b
    · subst e
      rcases h2 with h2 | h2
      · exact absurd rfl h2
      · exact .inr ⟨rfl, less_flip x y h2 (fun e => hn (by rw [e]))⟩
    · refine .inl ?_
      have h3 : ¬ a.toNat < b.toNat := h1
      have h4 : a.toNat ≠ b.toNat := fun q => e (UInt8.toNat_inj.1 q)
      show b.toNat < a.toNat
      omega
theorem bytes_eq {a b : ByteArray} (h : a.toList = b.toList) : a = b := by
  rw [ByteArray.toList_eq, ByteArray.toList_eq] at h
  cases a; cases b; simp at h; rw [h]
theorem ltS_total {a b : ByteArray} (h : ltS a b = false) (hn : a ≠ b) : ltS b a = true := less_flip _ _ h fun e => hn (bytes_eq e)

/-- in the order of their names -/
def Srt (l : List It) : Prop := l.Pairwise fun x y => ltS x.N y.N = true
theorem srt_map {l : List It} : (l.map (·.N)).Pairwise (fun x y => ltS x y = true) ↔ Srt l := List.pairwise_map
theorem BOk.srt {b : List It} (h : BOk b) : Srt b := srt_map.1 h.2.1
theorem bok_of {b : List It} (h1 : ∀ i ∈ b, itemB i = true) (h2 : Srt b) (h3 : b.length ≤ 20) : BOk b := ⟨h1, srt_map.2 h2, h3⟩
theorem Srt.one {l : List It} (h : Srt l) {x y : It} (hx : x ∈ l) (hy : y ∈ l) (e : x.N = y.N) : x = y := by
  induction l with
  | nil => simp at hx
  | cons a r ih =>
    obtain ⟨h1, h2⟩ := List.pairwise_cons.1 h
    rcases List.mem_cons.1 hx with rfl | hx'
    · rcases List.mem_cons.1 hy with rfl | hy'
      · rfl
      · exact absurd e (ltS_ne (h1 y hy'))
    · rcases List.mem_cons.1 hy with rfl | hy'
      · exact absurd e.symm (ltS_ne (h1 x hx'))
      · exact ih h2 hx' hy'

/-- a thing is put where it belongs -/
def behind (i : It) : List It → List It
  | [] => []
  | x :: r => if x.N = i.N then r else x :: r
theorem behind_yes {i x : It} (h : x.N = i.N) (r : List It) : behind i (x :: r) = r := if_pos h
theorem behind_no {i x : It} (h : x.N ≠ i.N) (r : List It) : behind i (x :: r) = x :: r := if_neg h
def putL (l : List It) (i : It) : List It := l.takeWhile (fun x => ltS x.N i.N) ++ i :: behind i (l.dropWhile fun x => ltS x.N i.N)
theorem put_cons (x : It) (l : List It) (i : It) : putL (x :: l) i = if ltS x.N i.N = true then x :: putL l i else i :: behind i (x :: l) := by
  unfold putL
  rw [List.takeWhile_cons, List.dropWhile_cons]
  cases ltS x.N i.N <;> simp
theorem put_mem {l : List It} (h : Srt l) (i : It) : ∀ x, x ∈ putL l i ↔ x = i ∨ (x ∈ l ∧ x.N ≠ i.N) := by
  induction l with
  | nil => intro x; simp [putL, behind]
  | cons y r ih =>
    obtain ⟨h1, h2⟩ := List.pairwise_cons.1 h
    intro x
    rw [put_cons]
    by_cases hy : ltS y.N i.N = true
    · rw [if_pos hy, List.mem_cons, ih h2 x, List.mem_cons]
      constructor
      · rintro (rfl | rfl | ⟨h3, h4⟩)
        · exact .inr ⟨.inl rfl, ltS_ne hy⟩
        · exact .inl rfl
        · exact .inr ⟨.inr h3, h4⟩
      · rintro (rfl | ⟨rfl | h3, h4⟩)
        · exact .inr (.inl rfl)
        · exact .inl rfl
        · exact .inr (.inr ⟨h3, h4⟩)
    · rw [if_neg hy, List.mem_cons]
      by_cases hn : y.N = i.N
      · rw [behind_yes hn]
        constructor
        · rintro (rfl | h3)
          · exact .inl rfl
          · exact .inr ⟨List.mem_cons_of_mem _ h3, fun e => ltS_ne (h1 x h3) (hn.trans e.symm)⟩
        · rintro (rfl | ⟨h3, h4⟩)
          · exact .inl rfl
          · rcases List.mem_cons.1 h3 with rfl | h3
            · exact absurd hn h4
            · exact .inr h3
      · rw [behind_no hn]
        constructor
        · rintro (rfl | h3)
          · exact .inl rfl
          · refine .inr ⟨h3, fun e => ?_⟩
            rcases List.mem_cons.1 h3 with rfl | h3
            · exact hn e
            · exact hy (e ▸ h1 x h3)
        · rintro (rfl | ⟨h3, h4⟩)
          · exact .inl rfl
          · exact .inr h3
theorem put_srt {l : List It} (h : Srt l) (i : It) : Srt (putL l i) := by
  induction l with
  | nil => simp [putL, behind, Srt]
  | cons y r ih =>
    obtain ⟨h1, h2⟩ := List.pairwise_cons.1 h
    rw [put_cons]
    by_cases hy : ltS y.N i.N = true
    · rw [if_pos hy]
      refine List.pairwise_cons.2 ⟨fun x hx => ?_, ih h2⟩
      rcases (put_mem h2 i x).1 hx with rfl | ⟨h3, -⟩
      · exact hy
      · exact h1 x h3
    · rw [if_neg hy]
      have hy' : ltS y.N i.N = false := by simpa using hy
      by_cases hn : y.N = i.N
      · rw [behind_yes hn]
        exact List.pairwise_cons.2 ⟨fun x hx => hn ▸ h1 x hx, h2⟩
      · rw [behind_no hn]
        have hi := ltS_total hy' hn
        refine List.pairwise_cons.2 ⟨fun x hx => ?_, h⟩
        rcases List.mem_cons.1 hx with rfl | hx
        · exact hi
        · exact ltS_trans hi (h1 x hx)
theorem put_len {l : List It} (h : Srt l) (i : It) : (putL l i).length ≤ l.length + 1 ∧ ((∃ x ∈ l, x.N = i.N) → (putL l i).length = l.length) := by
  induction l with
  | nil => exact ⟨by simp [putL, behind], fun ⟨x, hx, _⟩ => by simp at hx⟩
  | cons y r ih =>
    obtain ⟨h1, h2⟩ := List.pairwise_cons.1 h
    obtain ⟨i1, i2⟩ := ih h2
    rw [put_cons]
    by_cases hy : ltS y.N i.N = true
    · rw [if_pos hy]
      refine ⟨by simp; omega, fun ⟨x, hx, e⟩ => ?_⟩
      rcases List.mem_cons.1 hx with rfl | hx
      · exact absurd e (ltS_ne hy)
      · have := i2 ⟨x, hx, e⟩
        simp
        omega
    · rw [if_neg hy]
      by_cases hn : y.N = i.N
      · rw [behind_yes hn]
        exact ⟨by simp, fun _ => by simp⟩
      · rw [behind_no hn]
        refine ⟨by simp, fun ⟨x, hx, e⟩ => ?_⟩
        rcases List.mem_cons.1 hx with rfl | hx
        · exact absurd e hn
        · exact absurd (e ▸ h1 x hx) hy

/-- the one with a name -/
def lookI (l : List It) (s : ByteArray) : Option It := if 0 ≤ findI l s then l[(findI l s).toNat]? else none
theorem look_some {l : List It} {s : ByteArray} {x : It} (h : lookI l s = some x) : x ∈ l ∧ x.N = s ∧ ∃ k : Nat, ∃ hk : k < l.length, findI l s = k ∧ l[k] = x := by
  unfold lookI at h
  split at h
  · rename_i h0
    obtain ⟨k, hk, e1, e2⟩ := findI_at h0
    rw [e1, Int.toNat_natCast, List.getElem?_eq_getElem hk] at h
    have e3 : l[k] = x := Option.some.inj h
    rw [e3] at e2
    exact ⟨e3 ▸ List.getElem_mem hk, e2, k, hk, e1, e3⟩
  · cases h
theorem look_none {l : List It} {s : ByteArray} (h : lookI l s = none) : findI l s = -1 ∧ ∀ x ∈ l, x.N ≠ s := by
  have hneg : ¬ 0 ≤ findI l s := fun h0 => by
    unfold lookI at h
    rw [if_pos h0] at h
    obtain ⟨k, hk, e1, e2⟩ := findI_at h0
    rw [e1, Int.toNat_natCast, List.getElem?_eq_getElem hk] at h
    cases h
  have hb := posS_bd s (l.map (·.N))
  refine ⟨by unfold findI at hneg ⊢; omega, fun x hx e => hneg ?_⟩
  unfold findI
  exact posS_mem.1 (List.mem_map.2 ⟨x, hx, e⟩)
theorem look_mem {l : List It} (h : Srt l) {x : It} (hx : x ∈ l) : lookI l x.N = some x := by
  cases e : lookI l x.N with
  | none => exact absurd rfl ((look_none e).2 x hx)
  | some y =>
    obtain ⟨hy, hn, -⟩ := look_some e
    rw [h.one hy hx hn]

/-! ### books -/
structure Bk where
  I : List It
  X : Int
def Bk.zero : Bk := ⟨[], 0⟩
def Bk.new : Bk := ⟨[], 1⟩
def storeB (b : Bk) : Bool := bookB b.I && (decide (1 ≤ b.X) && decide (b.X ≤ 1000000))
structure StOk (b : Bk) : Prop where
  bk : BOk b.I
  x0 : 1 ≤ b.X
  x1 : b.X ≤ 1000000
theorem storeB_iff {b : Bk} : storeB b = true ↔ StOk b := by
  simp only [storeB, Bool.and_eq_true, decide_eq_true_eq, bookB_iff]
  exact ⟨fun ⟨h1, h2, h3⟩ => ⟨h1, h2, h3⟩, fun ⟨h1, h2, h3⟩ => ⟨h1, h2, h3⟩⟩
theorem new_ok : StOk Bk.new := ⟨⟨by simp [Bk.new], by simp [Bk.new], by simp [Bk.new]⟩, by decide, by decide⟩
def timeB (n : Int) : Bool := decide (0 ≤ n) && decide (n ≤ 1000000)
def ageL (l : List It) (now : Int) : List It := l.filter fun i => !overB i now
def goneL (l : List It) (now : Int) : List ByteArray := (l.filter fun i => overB i now).map (·.N)
def agR (b : Bk) (now : Int) : Bk := if (storeB b && timeB now) = true then ⟨ageL b.I now, b.X⟩ else Bk.zero
def agN (b : Bk) (now : Int) : List ByteArray := if (storeB b && timeB now) = true then goneL b.I now else []
theorem age_mem {l : List It} {now : Int} {x : It} : x ∈ ageL l now ↔ x ∈ l ∧ overB x now = false := by unfold ageL; rw [List.mem_filter]; simp
theorem age_ok {l : List It} (h : BOk l) (now : Int) : BOk (ageL l now) :=
  bok_of (fun i hi => h.1 i (age_mem.1 hi).1) (h.srt.filter _) (Nat.le_trans (List.length_filter_le _ _) h.2.2)
theorem age_twice (l : List It) (now : Int) : ageL (ageL l now) now = ageL l now ∧ goneL (ageL l now) now = [] := by
  constructor
  · unfold ageL
    rw [List.filter_filter]
    simp
  · unfold goneL
    have : (ageL l now).filter (fun i => overB i now) = [] := by
      rw [List.filter_eq_nil_iff]
      intro x hx
      rw [(age_mem.1 hx).2]
      decide
    rw [this]
    rfl
theorem age_len (l : List It) (now : Int) : (goneL l now).length + (ageL l now).length = l.length := by
  induction l with
  | nil => rfl
  | cons x r ih =>
    unfold goneL ageL at ih ⊢
    simp only [List.filter_cons, List.length_map] at ih ⊢
    cases overB x now <;> simp <;> omega
theorem gone_mem {l : List It} (h : Srt l) {now : Int} {x : It} (hx : x ∈ l) : x.N ∈ goneL l now ↔ overB x now = true := by
  unfold goneL
  rw [List.mem_map]
  constructor
  · rintro ⟨y, hy, e⟩
    obtain ⟨h1, h2⟩ := List.mem_filter.1 hy
    rw [← h.one h1 hx e]
    exact h2
  · exact fun ho => ⟨x, List.mem_filter.2 ⟨hx, ho⟩, rfl⟩
theorem stays_find {l : List It} (h : Srt l) {now : Int} {x : It} (hx : x ∈ l) : 0 ≤ findI (ageL l now) x.N ↔ overB x now = false := by
  constructor
  · intro h0
    obtain ⟨k, hk, e1, e2⟩ := findI_at h0
    obtain ⟨m1, m2⟩ := age_mem.1 (List.getElem_mem hk)
    rw [← h.one m1 hx e2]
    exact m2
  · intro ho
    unfold findI
    exact posS_mem.1 (List.mem_map.2 ⟨x, age_mem.2 ⟨hx, ho⟩, rfl⟩)
/-- at time 0 nothing is over -/
theorem age_zero {l : List It} (h : BOk l) : ageL l 0 = l := by
  unfold ageL
  rw [List.filter_eq_self]
  intro i hi
  have := (itemB_iff.1 (h.1 i hi)).u0
  unfold overB
  by_cases h0 : i.U = 0
  · simp [h0]
  · simp [h0]
    omega

/-! ### stamped -/
def stampI (b : Bk) (i : It) : It := ⟨i.N, i.F, i.B, b.X, i.U⟩
def stampOk (b : Bk) (i : It) : Bool := itemB (stampI b i) && decide (((putL b.I (stampI b i)).length : Int) ≤ 20)
def nextX (x : Int) : Int := if x + 1 > 1000000 then 1 else x + 1
def stampR (b : Bk) (i : It) : Bk := ⟨putL b.I (stampI b i), nextX b.X⟩
def stB (b : Bk) (i : It) : Bool := storeB b && stampOk b i
def stR (b : Bk) (i : It) : Bk := if storeB b = true then (if stampOk b i = true then stampR b i else b) else Bk.zero
theorem nextX_ok {x : Int} (h0 : 1 ≤ x) (h1 : x ≤ 1000000) : 1 ≤ nextX x ∧ nextX x ≤ 1000000 ∧ nextX x ≠ x := by unfold nextX; split <;> omega
theorem stamp_ok {b : Bk} (h : StOk b) {i : It} (hi : stampOk b i = true) : StOk (stampR b i) ∧ stampI b i ∈ (stampR b i).I ∧ ∀ x ∈ b.I, x.N ≠ i.N → x ∈ (stampR b i).I := by
  unfold stampOk at hi
  simp only [Bool.and_eq_true, decide_eq_true_eq] at hi
  obtain ⟨h1, h2⟩ := hi
  have hm := put_mem h.bk.srt (stampI b i)
  obtain ⟨n1, n2, -⟩ := nextX_ok h.x0 h.x1
  refine ⟨⟨bok_of (fun x hx => ?_) (put_srt h.bk.srt _) (by show (putL b.I (stampI b i)).length ≤ 20; omega), n1, n2⟩, (hm _).2 (.inl rfl), fun x hx hn => (hm x).2 (.inr ⟨hx, hn⟩)⟩
  rcases (hm x).1 hx with rfl | ⟨h3, -⟩
  · exact h1
  · exact h.bk.1 x h3
end Go.Proofs.YtaabmkhckbndgaaGreatDoor.rg
/- Mathematics of books, second part: what a command does to a book; what the laws FnBooks, FnCas say. -/
namespace Go.Proofs.YtaabmkhckbndgaaGreatDoor.rg
open Go.RowKit
open Go.Proofs.YtaabmkhckbndgaaGreatDoor.cm
set_option linter.unusedVariables false

def rp (k : Int) : Rp := ⟨k, emp, 0, emp, 0, 0⟩
def fresh (c : Cm) : It := ⟨c.N, c.F, c.B, 0, c.U⟩
def keepK (b : Bk) (i : It) : Bk × Rp := if stampOk b i = true then (stampR b i, rp 1) else (b, rp 2)
def keepBig (b : Bk) (i : It) : Bk × Rp := if i.B.size > 64 then (b, rp 12) else keepK b i
def touchI (u : Int) (x : It) : It := ⟨x.N, x.F, x.B, x.C, u⟩
def touchL (l : List It) (s : ByteArray) (u : Int) : List It := l.map fun x => if x.N = s then touchI u x else x
def dropL (l : List It) (s : ByteArray) : List It := l.filter fun x => decide (x.N ≠ s)
/-- a number from 0 on, as it is shown -/
def numB (s : ByteArray) : Option Nat := if canon (bs s) = true then some (val 0 (bs s)) else none
def upN (c : Cm) (n : Nat) : Nat := if c.V = 9 then (n + c.D.toNat) % 1000000000 else n - c.D.toNat
def withB (o : It) (l : List UInt8) : It := ⟨o.N, o.F, tx l, o.C, o.U⟩
def doK (b : Bk) (c : Cm) : Bk × Rp :=
  if c.V = 13 then (⟨[], b.X⟩, rp 9)
  else if c.V = 3 then keepK b (fresh c)
  else match lookI b.I c.N with
  | none => if c.V = 4 then keepK b (fresh c) else if c.V = 5 ∨ c.V = 6 ∨ c.V = 7 then (b, rp 2) else (b, rp 4)
  | some o =>
    if c.V = 4 then (b, rp 2)
    else if c.V = 5 then keepBig b (fresh c)
    else if c.V = 6 then keepBig b (withB o (bs o.B ++ bs c.B))
    else if c.V = 7 then keepBig b (withB o (bs c.B ++ bs o.B))
    else if c.V = 1 ∨ c.V = 2 then (b, ⟨5, o.N, o.F, o.B, if c.V = 2 then o.C else 0, 0⟩)
    else if c.V = 8 then (if o.C = c.C then keepK b (fresh c) else (b, rp 3))
    else if c.V = 11 then (⟨touchL b.I c.N c.U, b.X⟩, rp 7)
    else if c.V = 12 then (⟨dropL b.I c.N, b.X⟩, rp 8)
    else match numB o.B with
      | none => (b, rp 11)
      | some n => ((if stampOk b (withB o (digs (upN c n))) = true then stampR b (withB o (digs (upN c n))) else b), ⟨6, emp, 0, emp, 0, (upN c n : Int)⟩)
open Classical in
noncomputable def diR (b : Bk) (c : Cm) (now : Int) : Bk × Rp :=
  if (storeB b && timeB now) = true then (if cmdB c = true then doK (agR b now) c else (b, rp 10)) else (Bk.zero, rp 10)

theorem rp_ok {k : Int} (h0 : 1 ≤ k) (h1 : k ≤ 12) (h5 : k ≠ 5) (h6 : k ≠ 6) : POk (rp k) :=
  ⟨h0, h1, fun h => absurd h h5, fun _ => rfl, fun h => absurd h h5, fun _ => rfl, by show emp.size ≤ 64; decide, fun _ => rfl, fun h => absurd h h5, fun _ => rfl, fun h => absurd h h6, fun _ => rfl⟩
theorem touch_map (l : List It) (s : ByteArray) (u : Int) : (touchL l s u).map (·.N) = l.map (·.N) := by
  unfold touchL
  rw [List.map_map]
  refine List.map_congr_left fun x _ => ?_
  show (if x.N = s then touchI u x else x).N = x.N
  split <;> rfl
theorem touch_ok {l : List It} (h : BOk l) (s : ByteArray) {u : Int} (h0 : 0 ≤ u) (h1 : u ≤ 1000000) : BOk (touchL l s u) := by
  refine ⟨fun i hi => ?_, by rw [touch_map]; exact h.2.1, by unfold touchL; rw [List.length_map]; exact h.2.2⟩
  obtain ⟨x, hx, rfl⟩ := List.mem_map.1 hi
  have hk := itemB_iff.1 (h.1 x hx)
  split
  · exact itemB_iff.2 ⟨hk.nm, hk.f0, hk.f1, hk.b1, hk.c0, hk.c1, h0, h1⟩
  · exact h.1 x hx
theorem touch_stays {l : List It} {s : ByteArray} {u : Int} {x : It} (hx : x ∈ l) (hn : x.N ≠ s) : x ∈ touchL l s u := List.mem_map.2 ⟨x, hx, if_neg hn⟩
/-- by its place -/
theorem touch_at {l : List It} (h : Srt l) {k : Nat} (hk : k < l.length) (u : Int) : touchL l l[k].N u = l.set k (touchI u l[k]) := by
  have e0 : touchL l l[k].N u = l.map fun x => if x.N = l[k].N then touchI u x else x := rfl
  rw [e0]
  refine List.ext_getElem (by simp) fun j h1 h2 => ?_
  rw [List.getElem_map, List.getElem_set]
  have hj : j < l.length := by simpa using h1
  by_cases e : k = j
  · subst e
    rw [if_pos rfl, if_pos rfl]
  · rw [if_neg e, if_neg]
    intro en
    rcases Nat.lt_or_gt_of_ne e with q | q
    · exact ltS_ne (List.pairwise_iff_getElem.1 h k j hk hj q) en.symm
    · exact ltS_ne (List.pairwise_iff_getElem.1 h j k hj hk q) en
theorem drop_at {l : List It} (h : Srt l) {k : Nat} (hk : k < l.length) : dropL l l[k].N = l.take k ++ l.drop (k + 1) := by
  have h1 : l = l.take k ++ l[k] :: l.drop (k + 1) := by simp
  have h0 : ∀ s : ByteArray, dropL l s = (l.take k ++ l[k] :: l.drop (k + 1)).filter fun x => decide (x.N ≠ s) := fun s => by rw [← h1]; rfl
  rw [h0, List.filter_append, List.filter_cons, if_neg (by simp)]
  congr 1
  · rw [List.filter_eq_self]
    intro x hx
    obtain ⟨j, hj, e⟩ := List.mem_iff_getElem.1 hx
    simp at hj e
    rw [← e]
    exact decide_eq_true (ltS_ne (List.pairwise_iff_getElem.1 h j k (by omega) hk (by omega)))
  · rw [List.filter_eq_self]
    intro x hx
    obtain ⟨j, hj, e⟩ := List.mem_iff_getElem.1 hx
    simp at hj e
    rw [← e]
    exact decide_eq_true fun q => ltS_ne (List.pairwise_iff_getElem.1 h k (k + 1 + j) hk (by omega) (by omega)) q.symm
theorem drop_no {l : List It} {s : ByteArray} (h : ∀ x ∈ l, x.N ≠ s) : dropL l s = l := by
  unfold dropL
  rw [List.filter_eq_self]
  exact fun x hx => decide_eq_true (h x hx)
theorem drop_ok {l : List It} (h : BOk l) (s : ByteArray) : BOk (dropL l s) :=
  bok_of (fun i hi => h.1 i (List.mem_filter.1 hi).1) (h.srt.filter _) (Nat.le_trans (List.length_filter_le _ _) h.2.2)
theorem drop_stays {l : List It} {s : ByteArray} {x : It} (hx : x ∈ l) (hn : x.N ≠ s) : x ∈ dropL l s := List.mem_filter.2 ⟨hx, decide_eq_true hn⟩

/-- what FnBooks says of a right command on a right book -/
structure Did (a : Bk) (c : Cm) (r : Bk × Rp) : Prop where
  ok : StOk r.1
  rk : POk r.2
  stay : c.V ≠ 13 → ∀ y ∈ a.I, y.N ≠ c.N → y ∈ r.1.I
  new : r.2.K = 1 ∨ r.2.K = 6 → ∃ y ∈ r.1.I, y.N = c.N ∧ y.C = a.X
  same : r.2.K ≠ 1 → r.2.K ≠ 6 → c.V = 11 ∨ c.V = 12 ∨ c.V = 13 ∨ r.1 = a
theorem did_same {a : Bk} {c : Cm} (h : StOk a) {r : Rp} (hr : POk r) (h1 : r.K ≠ 1) (h6 : r.K ≠ 6) : Did a c (a, r) :=
  ⟨h, hr, fun _ y hy _ => hy, fun q => by rcases q with q | q; exact absurd q h1; exact absurd q h6, fun _ _ => .inr (.inr (.inr rfl))⟩
theorem did_keep {a : Bk} {c : Cm} (h : StOk a) {i : It} (hi : i.N = c.N) : Did a c (keepK a i) := by
  unfold keepK
  split
  · rename_i hs
    obtain ⟨s1, s2, s3⟩ := stamp_ok h hs
    exact ⟨s1, rp_ok (by decide) (by decide) (by decide) (by decide), fun _ y hy hn => s3 y hy (by rw [hi]; exact hn), fun _ => ⟨_, s2, hi, rfl⟩, fun q _ => absurd rfl q⟩
  · exact did_same h (rp_ok (by decide) (by decide) (by decide) (by decide)) (by decide) (by decide)
theorem did_big {a : Bk} {c : Cm} (h : StOk a) {i : It} (hi : i.N = c.N) : Did a c (keepBig a i) := by
  unfold keepBig
  split
  · exact did_same h (rp_ok (by decide) (by decide) (by decide) (by decide)) (by decide) (by decide)
  · exact did_keep h hi
theorem up_le {c : Cm} {n : Nat} (h : n ≤ 999999999) : upN c n ≤ 999999999 := by
  unfold upN
  split
  · have := Nat.mod_lt (n + c.D.toNat) (show 0 < 1000000000 by decide)
    omega
  · omega
theorem numB_some {s : ByteArray} {n : Nat} (h : numB s = some n) : canon (bs s) = true ∧ val 0 (bs s) = n ∧ n ≤ 999999999 := by
  unfold numB at h
  split at h
  · rename_i hc
    have := Option.some.inj h
    exact ⟨hc, this, by rw [← this]; exact val_canon hc⟩
  · cases h
/-- a number in the place of a thing's bytes is always stamped -/
theorem stamp_num {a : Bk} (h : StOk a) {o : It} (ho : o ∈ a.I) {m : Nat} (hm : m ≤ 999999999) : stampOk a (withB o (digs m)) = true := by
  have hk := itemB_iff.1 (h.bk.1 o ho)
  have hl : (digs m).length ≤ 9 := digs_len 8 m (by omega)
  have hp := (put_len h.bk.srt (stampI a (withB o (digs m)))).2 ⟨o, ho, rfl⟩
  have h20 := h.bk.2.2
  unfold stampOk
  rw [hp]
  simp only [Bool.and_eq_true, decide_eq_true_eq]
  refine ⟨itemB_iff.2 ⟨hk.nm, hk.f0, hk.f1, ?_, h.x0, h.x1, hk.u0, hk.u1⟩, by omega⟩
  show (tx (digs m)).size ≤ 64
  rw [tx_size]
  omega
theorem do_none {a : Bk} {c : Cm} (h : StOk a) : Did a c (if c.V = 4 then keepK a (fresh c) else if c.V = 5 ∨ c.V = 6 ∨ c.V = 7 then (a, rp 2) else (a, rp 4)) := by
  by_cases h4 : c.V = 4
  · rw [if_pos h4]
    exact did_keep h rfl
  · rw [if_neg h4]
    by_cases h5 : c.V = 5 ∨ c.V = 6 ∨ c.V = 7
    · rw [if_pos h5]
      exact did_same h (rp_ok (by decide) (by decide) (by decide) (by decide)) (by decide) (by decide)
    · rw [if_neg h5]
      exact did_same h (rp_ok (by decide) (by decide) (by decide) (by decide)) (by decide) (by decide)
theorem do_up {a : Bk} {c : Cm} (h : StOk a) {o : It} (ho : o ∈ a.I) (hn : o.N = c.N) : Did a c (match numB o.B with
      | none => (a, rp 11)
      | some n => ((if stampOk a (withB o (digs (upN c n))) = true then stampR a (withB o (digs (upN c n))) else a), ⟨6, emp, 0, emp, 0, (upN c n : Int)⟩)) := by
  cases hnum : numB o.B with
  | none => exact did_same h (rp_ok (by decide) (by decide) (by decide) (by decide)) (by decide) (by decide)
  | some n =>
    obtain ⟨-, -, hle⟩ := numB_some hnum
    have hu := up_le (c := c) hle
    have hs := stamp_num h ho hu
    obtain ⟨s1, s2, s3⟩ := stamp_ok h hs
    dsimp only
    rw [if_pos hs]
    refine ⟨s1, ⟨by show (1 : Int) ≤ 6; decide, by show (6 : Int) ≤ 12; decide, fun q => absurd q (by show ¬ ((6 : Int) = 5); decide), fun _ => rfl, fun q => absurd q (by show ¬ ((6 : Int) = 5); decide), fun _ => rfl, by show emp.size ≤ 64; decide, fun _ => rfl, fun q => absurd q (by show ¬ ((6 : Int) = 5); decide), fun _ => rfl, fun _ => ?_, fun q => absurd rfl q⟩, fun _ y hy hn2 => s3 y hy (by show y.N ≠ o.N; rw [hn]; exact hn2), fun _ => ⟨_, s2, hn, rfl⟩, fun _ q => absurd rfl q⟩
    show (0 : Int) ≤ (upN c n : Int) ∧ (upN c n : Int) ≤ 999999999
    omega
theorem no16 {r : Rp} {P : Prop} (h1 : r.K ≠ 1) (h6 : r.K ≠ 6) : r.K = 1 ∨ r.K = 6 → P := fun q => by
  rcases q with q | q
  · exact absurd q h1
  · exact absurd q h6
theorem do_did {a : Bk} {c : Cm} (h : StOk a) (hc : COk c) : Did a c (doK a c) := by
  unfold doK
  by_cases h13 : c.V = 13
  · rw [if_pos h13]
    exact ⟨⟨⟨by simp, by simp, by simp⟩, h.x0, h.x1⟩, rp_ok (by decide) (by decide) (by decide) (by decide), fun q => absurd h13 q, no16 (r := rp 9) (by decide) (by decide), fun _ _ => .inr (.inr (.inl h13))⟩
  rw [if_neg h13]
  by_cases h3 : c.V = 3
  · rw [if_pos h3]
    exact did_keep h rfl
  rw [if_neg h3]
  cases e : lookI a.I c.N with
  | none => exact do_none h
  | some o =>
    obtain ⟨ho, hn, -⟩ := look_some e
    have hk := itemB_iff.1 (h.bk.1 o ho)
    dsimp only
    by_cases h4 : c.V = 4
    · rw [if_pos h4]
      exact did_same h (rp_ok (by decide) (by decide) (by decide) (by decide)) (by decide) (by decide)
    rw [if_neg h4]
    by_cases h5 : c.V = 5
    · rw [if_pos h5]
      exact did_big h rfl
    rw [if_neg h5]
    by_cases h6 : c.V = 6
    · rw [if_pos h6]
      exact did_big h hn
    rw [if_neg h6]
    by_cases h7 : c.V = 7
    · rw [if_pos h7]
      exact did_big h hn
    rw [if_neg h7]
    by_cases h12 : c.V = 1 ∨ c.V = 2
    · rw [if_pos h12]
      refine did_same h ⟨by show (1 : Int) ≤ 5; decide, by show (5 : Int) ≤ 12; decide, fun _ => hk.nm, fun q => absurd rfl q, fun _ => ⟨hk.f0, hk.f1⟩, fun q => absurd rfl q, hk.b1, fun q => absurd rfl q, fun _ => ?_, fun q => absurd rfl q, fun q => absurd q (by show ¬ ((5 : Int) = 6); decide), fun _ => rfl⟩ (by show (5 : Int) ≠ 1; decide) (by show (5 : Int) ≠ 6; decide)
      have q1 := hk.c0
      have q2 := hk.c1
      show (0 : Int) ≤ (if c.V = 2 then o.C else 0) ∧ (if c.V = 2 then o.C else 0) ≤ 1000000
      by_cases h2 : c.V = 2
      · rw [if_pos h2]
        omega
      · rw [if_neg h2]
        omega
    rw [if_neg h12]
    by_cases h8 : c.V = 8
    · rw [if_pos h8]
      by_cases hx : o.C = c.C
      · rw [if_pos hx]
        exact did_keep h rfl
      · rw [if_neg hx]
        exact did_same h (rp_ok (by decide) (by decide) (by decide) (by decide)) (by decide) (by decide)
    rw [if_neg h8]
    by_cases h11 : c.V = 11
    · rw [if_pos h11]
      exact ⟨⟨touch_ok h.bk _ hc.u1.1 hc.u1.2, h.x0, h.x1⟩, rp_ok (by decide) (by decide) (by decide) (by decide), fun _ y hy hn => touch_stays hy hn, no16 (r := rp 7) (by decide) (by decide), fun _ _ => .inl h11⟩
    rw [if_neg h11]
    by_cases hcut : c.V = 12
    · rw [if_pos hcut]
      exact ⟨⟨drop_ok h.bk _, h.x0, h.x1⟩, rp_ok (by decide) (by decide) (by decide) (by decide), fun _ y hy hn => drop_stays hy hn, no16 (r := rp 8) (by decide) (by decide), fun _ _ => .inr (.inl hcut)⟩
    rw [if_neg hcut]
    exact do_up h ho hn

/-! ### FnCas -/
/-- what is stored is told with its stamp -/
theorem gets_told {x : Bk} (h : StOk x) {y : It} (hy : y ∈ x.I) (c : Cm) (hv : c.V = 2) (hn : c.N = y.N) : doK x c = (x, ⟨5, y.N, y.F, y.B, y.C, 0⟩) := by
  unfold doK
  rw [hn, look_mem h.bk.srt hy]
  simp [hv]
theorem cas_stores {x : Bk} (h : StOk x) {y : It} (hy : y ∈ x.I) (c : Cm) (hc : COk c) (hv : c.V = 8) (hn : c.N = y.N) (hx : y.C = c.C) : doK x c = (stampR x (fresh c), rp 1) := by
  have hs : stampOk x (fresh c) = true := by
    have hp := (put_len h.bk.srt (stampI x (fresh c))).2 ⟨y, hy, hn.symm⟩
    have h20 := h.bk.2.2
    unfold stampOk
    rw [hp]
    simp only [Bool.and_eq_true, decide_eq_true_eq]
    exact ⟨itemB_iff.2 ⟨hc.nm (by omega), hc.f1.1, hc.f1.2, hc.b1, h.x0, h.x1, hc.u1.1, hc.u1.2⟩, by omega⟩
  unfold doK
  rw [hn, look_mem h.bk.srt hy]
  simp [hv, hx, keepK, hs]
theorem cas_exists {x : Bk} (h : StOk x) {y : It} (hy : y ∈ x.I) (c : Cm) (hv : c.V = 8) (hn : c.N = y.N) (hx : y.C ≠ c.C) : doK x c = (x, rp 3) := by
  unfold doK
  rw [hn, look_mem h.bk.srt hy]
  simp [hv, hx]
end Go.Proofs.YtaabmkhckbndgaaGreatDoor.rg
