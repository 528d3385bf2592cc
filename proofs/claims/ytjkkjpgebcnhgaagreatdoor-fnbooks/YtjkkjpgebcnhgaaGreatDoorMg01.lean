/- Texts laid together: Io3 Io4 Cx0 Cx1. -/
import Derived.Test.YtjkkjpgebcnhgaaGreatDoorMg00
import Derived.Deep.RegionHeld3
import Derived.Deep.RegionLaw
import Derived.Deep.DeepCutAuto
import Derived.WalkLawsBesides
/- Contracts: the model's answers on a book of things. -/
namespace Go.Proofs.YtjkkjpgebcnhgaaGreatDoor.rg
open Go.ChangeShapes Go.WideShapes Go.ChangeAt Go.RowKit
open Go.Proofs.YtjkkjpgebcnhgaaGreatDoor.ce Go.Proofs.YtjkkjpgebcnhgaaGreatDoor.ro
set_option linter.unusedVariables false

theorem less_asymm : ∀ x y : List UInt8, Op.bytesLess x y = true → Op.bytesLess y x = false := fun x y h => by
  cases e : Op.bytesLess y x with
  | false => rfl
  | true =>
    have := less_trans x y x h e
    rw [less_irrefl] at this
    exact this.symm
theorem less_total : ∀ x y : List UInt8, Op.bytesLess x y = false → Op.bytesLess y x = false → x = y
  | [], [], _, _ => rfl
  | [], b :: y, h, _ => by simp [Op.bytesLess] at h
  | a :: x, [], _, h => by simp [Op.bytesLess] at h
  | a :: x, b :: y, h, k => by
    simp only [Op.bytesLess, Bool.or_eq_false_iff, decide_eq_false_iff_not] at h k
    have e : a = b := UInt8.le_antisymm (UInt8.not_lt.1 k.1) (UInt8.not_lt.1 h.1)
    subst e
    rw [less_total x y (by simpa using h.2) (by simpa using k.2)]
/-- no text in the book is long -/
def SmK (b : List It) : Prop := ∀ i ∈ b, i.N.size ≤ 1048576 ∧ i.B.size ≤ 1048576

theorem specFindItem_any (b : List It) (s : ByteArray) (v : Value) (w : World) (r : Rd encIt w v b) :
    Calls Tryz.prog 26 #[v, .string s] w fun e w' => e = .returned (.int .i64 (findI b s)) ∧ w' = w := by
  have hl := r.len
  obtain ⟨a, cap, rfl⟩ := r.form
  have R : Hid (Rd encIt w (.slice a b.length cap) b) := r
  clear r
  obtain ⟨y, hy⟩ := hid_ex (findI b s)
  rw [hy.out]
  go_enter Tryz.func26, Tryz.ntmps26
  go_wp2
  go_loop [5] (fun p => ∃ i : Nat, i ≤ b.length ∧ p = .int .i64 i ∧ Hid (s ∉ (b.map (·.N)).take i)) (fun p => b.length - (intOf p).toNat)
  case atStart => exact ⟨0, by omega, rfl, (by unfold Hid; simp)⟩
  case round =>
    obtain ⟨i, hi1, rfl, hno⟩ := hrel
    by_cases hlt : i < b.length
    · obtain ⟨bk, off, rfl, hb, rg⟩ := rd_item rfl rfl R.out i hlt
      have d0 := (rng5 rg).1
      have hm : i < (b.map (·.N)).length := by rw [List.length_map]; exact hlt
      have hlt' : (i : Int) < (b.length : Int) := by omega
      have ge : (b.map (·.N))[i] = b[i].N := by rw [List.getElem_map]
      obtain ⟨z, hz⟩ := hid_ex (b[i].N)
      rw [hz.out] at d0
      clear rg
      by_cases he : z.toList = s.toList
      · have ey : y = i := by rw [← hy.out]; exact posS_at hm (ge.trans (hz.out.trans (str_eq he))) hno.out
        subst ey
        have hbe : (z.toList == s.toList) = true := by simpa using he
        clear he ge
        go_wp2
        go_ret
        exact ⟨rfl, rfl⟩
      · have hno2 : Hid (s ∉ (b.map (·.N)).take (i + 1)) := by
          unfold Hid
          rw [List.take_succ_eq_append_getElem hm, List.mem_append, ge, hz.out, List.mem_singleton]
          rintro (h | h)
          · exact hno.out h
          · exact he (by rw [h])
        have hbe : (z.toList == s.toList) = false := by simpa using he
        clear he ge
        go_wp2
        go_round
        case rel => exact ⟨i + 1, by omega, by go_num, hno2⟩
        case measure => simp [intOf]; omega
    · have hlt' : ¬ (i : Int) < (b.length : Int) := by omega
      have ey : y = -1 := by
        have h := hno.out
        rw [List.take_of_length_le (by rw [List.length_map]; omega)] at h
        rw [← hy.out]; exact posS_no h
      subst ey
      go_wp2
      go_ret
      exact ⟨rfl, rfl⟩

set_option maxRecDepth 100000 in
set_option maxHeartbeats 4000000 in
theorem specBookOk_any (b : List It) (v : Value) (w : World) (r : Rd encIt w v b) (hs : SmK b) :
    Calls Tryz.prog 53 #[v] w fun e w' => e = .returned (.bool (bookB b)) ∧ Below w.heap.size w w' := by
  have hl := r.len
  obtain ⟨a, cap, rfl⟩ := r.form
  have R : Hid (Rd encIt w (.slice a b.length cap) b) := r
  have HS : Hid (SmK b) := hs
  clear r hs
  obtain ⟨y, hy⟩ := hid_ex (bookB b)
  rw [hy.out]
  go_enter Tryz.func53, Tryz.ntmps53
  go_wp2
  go_loopw [3] (fun p wr => ∃ i : Nat, i ≤ b.length ∧ p = .int .i64 i ∧ Hid (PreB b i) ∧ Below w.heap.size w wr) (fun p _ => b.length - (intOf p).toNat)
  case atStart => exact ⟨0, by omega, rfl, preB_zero b, Below.refl _ _⟩
  case round =>
    obtain ⟨i, hi1, rfl, hP, hBr⟩ := hrel
    by_cases hlt : i < b.length
    · have hRr := R.out.grow hBr
      obtain ⟨bk, off, rfl, hb, rg0⟩ := rd_item rfl rfl hRr i hlt
      have hlt' : (i : Int) < (b.length : Int) := by omega
      have hsz := HS.out b[i] (List.getElem_mem hlt)
      have hp1 := @preB_not1 b i hlt
      have hp2 := @preB_not2 b i hlt
      have hp3 := preB_succ hP.out hlt
      have hsr := hBr.size
      obtain ⟨z, hz⟩ := hid_ex (b[i])
      rw [hz.out] at rg0 hsz hp1 hp3
      simp only [hz.out] at hp2
      obtain ⟨N, F, B, C, U⟩ := z
      obtain ⟨hN, hB⟩ := hsz
      dsimp only at hN hB hp2 hp3
      have rg : Hid (wr.rangeAt bk (off + i * 5) [.string N, .int .i64 F, .string B, .int .i64 C, .int .i64 U]) := rg0
      clear rg0
      obtain ⟨x, hx⟩ := hid_ex (itemB ⟨N, F, B, C, U⟩)
      cases x with
      | false =>
        have ey : y = false := by rw [← hy.out]; exact hp1 hx.out
        subst ey
        clear hp1 hp2 hp3
        go_upto_region 4 with (fail)
        refine wp_region_held_drew (S := fun w' => w'.cell? ⟨bk, off + i * 5, none⟩ = some (.string N) ∧ w'.cell? ⟨bk, off + i * 5 + 1, none⟩ = some (.int .i64 F) ∧ w'.cell? ⟨bk, off + i * 5 + 2, none⟩ = some (.string B) ∧ w'.cell? ⟨bk, off + i * 5 + 3, none⟩ = some (.int .i64 C) ∧ w'.cell? ⟨bk, off + i * 5 + 4, none⟩ = some (.int .i64 U)) (by kernel_rfl) (rng5 (w := wr.drew) rg.out) (fun hHeld => ?_)
        refine wpAnyH_take (i := 0) (oi := { dst := some 10, op := Op.move (Operand.tmp 0), type := 29, pos := "l10_item.go:22", after := #[], guard := none }) (v := ?_) rfl (by kernel_rfl) (by kernel_rfl) (by kernel_rfl) (fun _ _ _ h => h) (Or.inl ⟨by rfl, ?_⟩) (by assumption) ?_
        rotate_left 1
        · intro w' hSw; (try dsimp only at hSw); go_simp; (try with_reducible rfl)
        (try simp only [Act.put, List.setIfInBounds_toArray, List.set_cons_zero, List.set_cons_succ])
        refine wpAnyH_take (i := 1) (oi := { dst := some 11, op := Op.move (Operand.tmp 3), type := 3, pos := "l10_item.go:22", after := #[], guard := none }) (v := ?_) rfl (by kernel_rfl) (by kernel_rfl) (by kernel_rfl) (fun _ _ _ h => h) (Or.inl ⟨by rfl, ?_⟩) (by assumption) ?_
        rotate_left 1
        · intro w' hSw; (try dsimp only at hSw); go_simp; (try with_reducible rfl)
        (try simp only [Act.put, List.setIfInBounds_toArray, List.set_cons_zero, List.set_cons_succ])
        refine wpAnyH_take (i := 2) (oi := { dst := some 12, op := Op.indexAddr 29 (Operand.tmp 10) (Operand.tmp 11), type := 0, pos := "l10_item.go:22", after := #[{ on := 0, ground := Ground.data }, { on := 1, ground := Ground.data }], guard := none }) (v := ?_) rfl (by kernel_rfl) (by kernel_rfl) (by kernel_rfl) (fun _ _ _ h => h) (Or.inl ⟨by rfl, ?_⟩) (by assumption) ?_
        rotate_left 1
        · intro w' hSw; (try dsimp only at hSw); go_simp; (try with_reducible rfl)
        (try simp only [Act.put, List.setIfInBounds_toArray, List.set_cons_zero, List.set_cons_succ])
        refine wpAnyH_take (i := 3) (oi := { dst := some 13, op := Op.load 56 (Operand.tmp 12), type := 56, pos := "l10_item.go:22", after := #[{ on := 2, ground := Ground.data }], guard := none }) (v := ?_) rfl (by kernel_rfl) (by kernel_rfl) (by kernel_rfl) (fun _ _ _ h => h) (Or.inl ⟨by rfl, ?_⟩) (by assumption) ?_
        rotate_left 1
        · intro w' hSw; (try dsimp only at hSw); go_simp; (try with_reducible rfl)
        (try simp only [Act.put, List.setIfInBounds_toArray, List.set_cons_zero, List.set_cons_succ])
        refine wpAnyH_ready (rs := [4]) (by kernel_rfl) (by simp) ?_
        refine AllReadyH.cons (o := { dst := some 14, op := Op.call { callee := Callee.value (Operand.func 99), args := #[Operand.tmp 13], argTypes := #[56] }, type := 4, pos := "l10_item.go:22", after := #[{ on := 3, ground := Ground.data }], guard := none }) rfl (fun KC hKC => ?_) AllReadyH.nil
        go_simp
        (go_at_call 99; refine (specItemOk_any N B F C U _ hx (by omega) (by omega) _).mono ?_; rintro e w2 ⟨rfl, hB2⟩; have hz2 := hB2.size)
        refine hKC.out _ _ (rng5 (range_of rg.out (hB2.block bk hb))) (fun hHeld2 => ?_)
        clear hKC KC hHeld
        have hHeld := hHeld2
        clear hHeld2
        (try simp only [Act.put, List.setIfInBounds_toArray, List.set_cons_zero, List.set_cons_succ])
        refine wpAnyH_take (i := 5) (oi := { dst := some 15, op := Op.unOp UnOp.not 4 (Operand.tmp 14), type := 4, pos := "l10_item.go:22", after := #[{ on := 4, ground := Ground.data }], guard := none }) (v := ?_) rfl (by kernel_rfl) (by kernel_rfl) (by kernel_rfl) (fun _ _ _ h => h) (Or.inl ⟨by rfl, ?_⟩) (by assumption) ?_
        rotate_left 1
        · intro w' hSw; (try dsimp only at hSw); go_simp; (try with_reducible rfl)
        (try simp only [Act.put, List.setIfInBounds_toArray, List.set_cons_zero, List.set_cons_succ])
        refine wpAnyH_take (i := 6) (oi := { dst := some 16, op := Op.move (Operand.tmp 15), type := 4, pos := "l10_item.go:22", after := #[{ on := 5, ground := Ground.data }, { on := 4, ground := Ground.chain }], guard := none }) (v := ?_) rfl (by kernel_rfl) (by kernel_rfl) (by kernel_rfl) (fun _ _ _ h => h) (Or.inl ⟨by rfl, ?_⟩) (by assumption) ?_
        rotate_left 1
        · intro w' hSw; (try dsimp only at hSw); go_simp; (try with_reducible rfl)
        (try simp only [Act.put, List.setIfInBounds_toArray, List.set_cons_zero, List.set_cons_succ])
        refine wpAnyH_take (i := 7) (oi := { dst := some 17, op := Op.move (Operand.tmp 3), type := 3, pos := "l10_item.go:22", after := #[{ on := 6, ground := Ground.guard }], guard := some (6, false) }) (v := undef) rfl (by kernel_rfl) (by kernel_rfl) (by kernel_rfl) (fun _ _ _ h => h) (Or.inr ⟨by rfl, rfl⟩) (by assumption) ?_
        (try simp only [Act.put, List.setIfInBounds_toArray, List.set_cons_zero, List.set_cons_succ])
        refine wpAnyH_take (i := 8) (oi := { dst := some 18, op := Op.binOp BinOp.gtr 3 (Operand.tmp 17) (Operand.const (Value.int IntKind.i64 0)) 3, type := 4, pos := "l10_item.go:22", after := #[{ on := 7, ground := Ground.data }, { on := 6, ground := Ground.guard }], guard := some (6, false) }) (v := undef) rfl (by kernel_rfl) (by kernel_rfl) (by kernel_rfl) (fun _ _ _ h => h) (Or.inr ⟨by rfl, rfl⟩) (by assumption) ?_
        (try simp only [Act.put, List.setIfInBounds_toArray, List.set_cons_zero, List.set_cons_succ])
        refine wpAnyH_take (i := 9) (oi := { dst := some 19, op := Op.move (Operand.tmp 18), type := 4, pos := "l10_item.go:22", after := #[{ on := 8, ground := Ground.data }, { on := 6, ground := Ground.chain }, { on := 6, ground := Ground.guard }], guard := some (6, false) }) (v := undef) rfl (by kernel_rfl) (by kernel_rfl) (by kernel_rfl) (fun _ _ _ h => h) (Or.inr ⟨by rfl, rfl⟩) (by assumption) ?_
        (try simp only [Act.put, List.setIfInBounds_toArray, List.set_cons_zero, List.set_cons_succ])
        refine wpAnyH_take (i := 10) (oi := { dst := some 20, op := Op.move (Operand.tmp 0), type := 29, pos := "l10_item.go:22", after := #[{ on := 9, ground := Ground.guard }], guard := some (9, true) }) (v := undef) rfl (by kernel_rfl) (by kernel_rfl) (by kernel_rfl) (fun _ _ _ h => h) (Or.inr ⟨by rfl, rfl⟩) (by assumption) ?_
        (try simp only [Act.put, List.setIfInBounds_toArray, List.set_cons_zero, List.set_cons_succ])
        refine wpAnyH_take (i := 11) (oi := { dst := some 21, op := Op.move (Operand.tmp 3), type := 3, pos := "l10_item.go:22", after := #[{ on := 9, ground := Ground.guard }], guard := some (9, true) }) (v := undef) rfl (by kernel_rfl) (by kernel_rfl) (by kernel_rfl) (fun _ _ _ h => h) (Or.inr ⟨by rfl, rfl⟩) (by assumption) ?_
        (try simp only [Act.put, List.setIfInBounds_toArray, List.set_cons_zero, List.set_cons_succ])
        refine wpAnyH_take (i := 12) (oi := { dst := some 22, op := Op.indexAddr 29 (Operand.tmp 20) (Operand.tmp 21), type := 0, pos := "l10_item.go:22", after := #[{ on := 10, ground := Ground.data }, { on := 11, ground := Ground.data }, { on := 9, ground := Ground.guard }], guard := some (9, true) }) (v := undef) rfl (by kernel_rfl) (by kernel_rfl) (by kernel_rfl) (fun _ _ _ h => h) (Or.inr ⟨by rfl, rfl⟩) (by assumption) ?_
        (try simp only [Act.put, List.setIfInBounds_toArray, List.set_cons_zero, List.set_cons_succ])
        refine wpAnyH_take (i := 13) (oi := { dst := some 23, op := Op.fieldAddr 56 (Operand.tmp 22) 0, type := 0, pos := "l10_item.go:22", after := #[{ on := 12, ground := Ground.data }, { on := 9, ground := Ground.guard }], guard := some (9, true) }) (v := undef) rfl (by kernel_rfl) (by kernel_rfl) (by kernel_rfl) (fun _ _ _ h => h) (Or.inr ⟨by rfl, rfl⟩) (by assumption) ?_
        (try simp only [Act.put, List.setIfInBounds_toArray, List.set_cons_zero, List.set_cons_succ])
        refine wpAnyH_take (i := 14) (oi := { dst := some 24, op := Op.load 9 (Operand.tmp 23), type := 9, pos := "l10_item.go:22", after := #[{ on := 13, ground := Ground.data }, { on := 9, ground := Ground.guard }], guard := some (9, true) }) (v := undef) rfl (by kernel_rfl) (by kernel_rfl) (by kernel_rfl) (fun _ _ _ h => h) (Or.inr ⟨by rfl, rfl⟩) (by assumption) ?_
        (try simp only [Act.put, List.setIfInBounds_toArray, List.set_cons_zero, List.set_cons_succ])
        refine wpAnyH_take (i := 15) (oi := { dst := some 25, op := Op.move (Operand.tmp 0), type := 29, pos := "l10_item.go:22", after := #[{ on := 9, ground := Ground.guard }], guard := some (9, true) }) (v := undef) rfl (by kernel_rfl) (by kernel_rfl) (by kernel_rfl) (fun _ _ _ h => h) (Or.inr ⟨by rfl, rfl⟩) (by assumption) ?_
        (try simp only [Act.put, List.setIfInBounds_toArray, List.set_cons_zero, List.set_cons_succ])
        refine wpAnyH_take (i := 16) (oi := { dst := some 26, op := Op.move (Operand.tmp 3), type := 3, pos := "l10_item.go:22", after := #[{ on := 9, ground := Ground.guard }], guard := some (9, true) }) (v := undef) rfl (by kernel_rfl) (by kernel_rfl) (by kernel_rfl) (fun _ _ _ h => h) (Or.inr ⟨by rfl, rfl⟩) (by assumption) ?_
        (try simp only [Act.put, List.setIfInBounds_toArray, List.set_cons_zero, List.set_cons_succ])
        refine wpAnyH_take (i := 17) (oi := { dst := some 27, op := Op.binOp BinOp.sub 3 (Operand.tmp 26) (Operand.const (Value.int IntKind.i64 1)) 3, type := 3, pos := "l10_item.go:22", after := #[{ on := 16, ground := Ground.data }, { on := 9, ground := Ground.guard }], guard := some (9, true) }) (v := undef) rfl (by kernel_rfl) (by kernel_rfl) (by kernel_rfl) (fun _ _ _ h => h) (Or.inr ⟨by rfl, rfl⟩) (by assumption) ?_
        (try simp only [Act.put, List.setIfInBounds_toArray, List.set_cons_zero, List.set_cons_succ])
        refine wpAnyH_take (i := 18) (oi := { dst := some 28, op := Op.indexAddr 29 (Operand.tmp 25) (Operand.tmp 27), type := 0, pos := "l10_item.go:22", after := #[{ on := 15, ground := Ground.data }, { on := 17, ground := Ground.data }, { on := 9, ground := Ground.guard }], guard := some (9, true) }) (v := undef) rfl (by kernel_rfl) (by kernel_rfl) (by kernel_rfl) (fun _ _ _ h => h) (Or.inr ⟨by rfl, rfl⟩) (by assumption) ?_
        (try simp only [Act.put, List.setIfInBounds_toArray, List.set_cons_zero, List.set_cons_succ])
        refine wpAnyH_take (i := 19) (oi := { dst := some 29, op := Op.fieldAddr 56 (Operand.tmp 28) 0, type := 0, pos := "l10_item.go:22", after := #[{ on := 18, ground := Ground.data }, { on := 9, ground := Ground.guard }], guard := some (9, true) }) (v := undef) rfl (by kernel_rfl) (by kernel_rfl) (by kernel_rfl) (fun _ _ _ h => h) (Or.inr ⟨by rfl, rfl⟩) (by assumption) ?_
        (try simp only [Act.put, List.setIfInBounds_toArray, List.set_cons_zero, List.set_cons_succ])
        refine wpAnyH_take (i := 20) (oi := { dst := some 30, op := Op.load 9 (Operand.tmp 29), type := 9, pos := "l10_item.go:22", after := #[{ on := 19, ground := Ground.data }, { on := 9, ground := Ground.guard }], guard := some (9, true) }) (v := undef) rfl (by kernel_rfl) (by kernel_rfl) (by kernel_rfl) (fun _ _ _ h => h) (Or.inr ⟨by rfl, rfl⟩) (by assumption) ?_
        (try simp only [Act.put, List.setIfInBounds_toArray, List.set_cons_zero, List.set_cons_succ])
        refine wpAnyH_take (i := 21) (oi := { dst := some 31, op := Op.binOp BinOp.leq 9 (Operand.tmp 24) (Operand.tmp 30) 9, type := 4, pos := "l10_item.go:22", after := #[{ on := 14, ground := Ground.data }, { on := 20, ground := Ground.data }, { on := 9, ground := Ground.guard }], guard := some (9, true) }) (v := undef) rfl (by kernel_rfl) (by kernel_rfl) (by kernel_rfl) (fun _ _ _ h => h) (Or.inr ⟨by rfl, rfl⟩) (by assumption) ?_
        (try simp only [Act.put, List.setIfInBounds_toArray, List.set_cons_zero, List.set_cons_succ])
        refine wpAnyH_take (i := 22) (oi := { dst := some 32, op := Op.pick (Operand.tmp 19) (Operand.tmp 31) (Operand.const (Value.bool false)), type := 4, pos := "l10_item.go:22", after := #[{ on := 9, ground := Ground.data }, { on := 21, ground := Ground.data }, { on := 6, ground := Ground.guard }], guard := some (6, false) }) (v := undef) rfl (by kernel_rfl) (by kernel_rfl) (by kernel_rfl) (fun _ _ _ h => h) (Or.inr ⟨by rfl, rfl⟩) (by assumption) ?_
        (try simp only [Act.put, List.setIfInBounds_toArray, List.set_cons_zero, List.set_cons_succ])
        refine wpAnyH_take (i := 23) (oi := { dst := some 33, op := Op.pick (Operand.tmp 16) (Operand.const (Value.bool true)) (Operand.tmp 32), type := 4, pos := "l10_item.go:22", after := #[{ on := 6, ground := Ground.data }, { on := 22, ground := Ground.data }], guard := none }) (v := ?_) rfl (by kernel_rfl) (by kernel_rfl) (by kernel_rfl) (fun _ _ _ h => h) (Or.inl ⟨by rfl, ?_⟩) (by assumption) ?_
        rotate_left 1
        · intro w' hSw; (try dsimp only at hSw); go_simp; (try with_reducible rfl)
        (try simp only [Act.put, List.setIfInBounds_toArray, List.set_cons_zero, List.set_cons_succ])
        refine wpAnyH_done (by kernel_rfl) ?_ _
        go_wp2
        go_ret
        exact ⟨rfl, hBr.drew.trans (hB2.mono hsr)⟩
      | true =>
        by_cases h0 : 0 < i
        · have h0' : decide ((i : Int) > 0) = true := decide_eq_true (by omega)
          have h0'' : (0 : Int) < (i : Int) := by omega
          obtain ⟨p, hpi⟩ : ∃ p : Nat, Hid (p = i - 1) := ⟨_, rfl⟩
          have hpl : p < b.length := by have := hpi.out; omega
          have hpw : IntKind.i64.wrap ((i : Int) - 1) = (p : Int) := by rw [IntKind.wrap_i64]; have := hpi.out; omega
          have hpp : (p : Int) < (b.length : Int) := by omega
          obtain ⟨bk', off', e', -, rp⟩ := rd_item rfl rfl hRr p hpl
          cases e'
          obtain ⟨q, hq⟩ := hid_ex (b[p])
          have ep : (b[i - 1]'(by omega)) = q := by rw [← hq.out]; simp only [hpi.out]
          rw [hq.out] at rp
          simp only [ep] at hp2 hp3
          obtain ⟨N2, F2, B2, C2, U2⟩ := q
          dsimp only at hp2 hp3
          have rg2 : Hid (wr.rangeAt bk (off + p * 5) [.string N2, .int .i64 F2, .string B2, .int .i64 C2, .int .i64 U2]) := rp
          clear rp ep
          obtain ⟨l, hl2⟩ := hid_ex (Op.bytesLess N2.toList N.toList)
          cases l with
          | false =>
            have ey : y = false := by rw [← hy.out]; exact hp2 h0 hl2.out
            subst ey
            have hlb : Op.bytesLess N2.toList N.toList = false := hl2.out
            have hor : (Op.bytesLess N.toList N2.toList || N.toList == N2.toList) = true := by
              cases e : Op.bytesLess N.toList N2.toList with
              | true => rfl
              | false => rw [less_total _ _ e hlb]; simp
            clear hp1 hp2 hp3
            go_upto_region 4 with (fail)
            have hS0 : (wr.drew.cell? ⟨bk, off + i * 5, none⟩ = some (.string N) ∧ wr.drew.cell? ⟨bk, off + i * 5 + 1, none⟩ = some (.int .i64 F) ∧ wr.drew.cell? ⟨bk, off + i * 5 + 2, none⟩ = some (.string B) ∧ wr.drew.cell? ⟨bk, off + i * 5 + 3, none⟩ = some (.int .i64 C) ∧ wr.drew.cell? ⟨bk, off + i * 5 + 4, none⟩ = some (.int .i64 U)) ∧ wr.drew.cell? ⟨bk, off + p * 5, none⟩ = some (.string N2) := ⟨rng5 (w := wr.drew) rg.out, (rng5 (w := wr.drew) rg2.out).1⟩
            go_region_held3 (fun w' => (w'.cell? ⟨bk, off + i * 5, none⟩ = some (.string N) ∧ w'.cell? ⟨bk, off + i * 5 + 1, none⟩ = some (.int .i64 F) ∧ w'.cell? ⟨bk, off + i * 5 + 2, none⟩ = some (.string B) ∧ w'.cell? ⟨bk, off + i * 5 + 3, none⟩ = some (.int .i64 C) ∧ w'.cell? ⟨bk, off + i * 5 + 4, none⟩ = some (.int .i64 U)) ∧ w'.cell? ⟨bk, off + p * 5, none⟩ = some (.string N2)) (first | assumption | exact hS0) (first | (go_at_call 99; refine (specItemOk_any N B F C U _ hx (by omega) (by omega) _).mono ?_; rintro e w2 ⟨rfl, hB2⟩; have hS2 := And.intro (rng5 (range_of rg.out (hB2.block bk hb))) (rng5 (range_of rg2.out (hB2.block bk hb))).1) | (fail))
            go_wp2
            go_ret
            exact ⟨rfl, hBr.drew.trans (hB2.mono hsr)⟩
          | true =>
            have hlb : Op.bytesLess N2.toList N.toList = true := hl2.out
            have hor1 : Op.bytesLess N.toList N2.toList = false := less_asymm _ _ hlb
            have hor2 : (N.toList == N2.toList) = false := by
              cases e : (N.toList == N2.toList) with
              | false => rfl
              | true => rw [eq_of_beq e, less_irrefl] at hlb; cases hlb
            have hP3 : Hid (PreB b (i + 1)) := hp3 hx.out fun _ => hl2.out
            clear hp1 hp2 hp3
            go_upto_region 4 with (fail)
            have hS0 : (wr.drew.cell? ⟨bk, off + i * 5, none⟩ = some (.string N) ∧ wr.drew.cell? ⟨bk, off + i * 5 + 1, none⟩ = some (.int .i64 F) ∧ wr.drew.cell? ⟨bk, off + i * 5 + 2, none⟩ = some (.string B) ∧ wr.drew.cell? ⟨bk, off + i * 5 + 3, none⟩ = some (.int .i64 C) ∧ wr.drew.cell? ⟨bk, off + i * 5 + 4, none⟩ = some (.int .i64 U)) ∧ wr.drew.cell? ⟨bk, off + p * 5, none⟩ = some (.string N2) := ⟨rng5 (w := wr.drew) rg.out, (rng5 (w := wr.drew) rg2.out).1⟩
            go_region_held3 (fun w' => (w'.cell? ⟨bk, off + i * 5, none⟩ = some (.string N) ∧ w'.cell? ⟨bk, off + i * 5 + 1, none⟩ = some (.int .i64 F) ∧ w'.cell? ⟨bk, off + i * 5 + 2, none⟩ = some (.string B) ∧ w'.cell? ⟨bk, off + i * 5 + 3, none⟩ = some (.int .i64 C) ∧ w'.cell? ⟨bk, off + i * 5 + 4, none⟩ = some (.int .i64 U)) ∧ w'.cell? ⟨bk, off + p * 5, none⟩ = some (.string N2)) (first | assumption | exact hS0) (first | (go_at_call 99; refine (specItemOk_any N B F C U _ hx (by omega) (by omega) _).mono ?_; rintro e w2 ⟨rfl, hB2⟩; have hS2 := And.intro (rng5 (range_of rg.out (hB2.block bk hb))) (rng5 (range_of rg2.out (hB2.block bk hb))).1) | (fail))
            go_wp2
            go_roundw
            case rel => exact ⟨i + 1, by omega, by go_num, hP3, hBr.drew.trans (hB2.mono hsr)⟩
            case measure => simp [intOf]; omega
        · have hP3 : Hid (PreB b (i + 1)) := hp3 hx.out fun h => absurd h h0
          have h0' : decide ((i : Int) > 0) = false := decide_eq_false (by omega)
          have h0'' : ¬ (0 : Int) < (i : Int) := by omega
          clear hp1 hp2 hp3
          go_upto_region 4 with (fail)
          refine wp_region_held_drew (S := fun w' => w'.cell? ⟨bk, off + i * 5, none⟩ = some (.string N) ∧ w'.cell? ⟨bk, off + i * 5 + 1, none⟩ = some (.int .i64 F) ∧ w'.cell? ⟨bk, off + i * 5 + 2, none⟩ = some (.string B) ∧ w'.cell? ⟨bk, off + i * 5 + 3, none⟩ = some (.int .i64 C) ∧ w'.cell? ⟨bk, off + i * 5 + 4, none⟩ = some (.int .i64 U)) (by kernel_rfl) (rng5 (w := wr.drew) rg.out) (fun hHeld => ?_)
          refine wpAnyH_take (i := 0) (oi := { dst := some 10, op := Op.move (Operand.tmp 0), type := 29, pos := "l10_item.go:22", after := #[], guard := none }) (v := ?_) rfl (by kernel_rfl) (by kernel_rfl) (by kernel_rfl) (fun _ _ _ h => h) (Or.inl ⟨by rfl, ?_⟩) (by assumption) ?_
          rotate_left 1
          · intro w' hSw; (try dsimp only at hSw); go_simp; (try with_reducible rfl)
          (try simp only [Act.put, List.setIfInBounds_toArray, List.set_cons_zero, List.set_cons_succ])
          refine wpAnyH_take (i := 1) (oi := { dst := some 11, op := Op.move (Operand.tmp 3), type := 3, pos := "l10_item.go:22", after := #[], guard := none }) (v := ?_) rfl (by kernel_rfl) (by kernel_rfl) (by kernel_rfl) (fun _ _ _ h => h) (Or.inl ⟨by rfl, ?_⟩) (by assumption) ?_
          rotate_left 1
          · intro w' hSw; (try dsimp only at hSw); go_simp; (try with_reducible rfl)
          (try simp only [Act.put, List.setIfInBounds_toArray, List.set_cons_zero, List.set_cons_succ])
          refine wpAnyH_take (i := 2) (oi := { dst := some 12, op := Op.indexAddr 29 (Operand.tmp 10) (Operand.tmp 11), type := 0, pos := "l10_item.go:22", after := #[{ on := 0, ground := Ground.data }, { on := 1, ground := Ground.data }], guard := none }) (v := ?_) rfl (by kernel_rfl) (by kernel_rfl) (by kernel_rfl) (fun _ _ _ h => h) (Or.inl ⟨by rfl, ?_⟩) (by assumption) ?_
          rotate_left 1
          · intro w' hSw; (try dsimp only at hSw); go_simp; (try with_reducible rfl)
          (try simp only [Act.put, List.setIfInBounds_toArray, List.set_cons_zero, List.set_cons_succ])
          refine wpAnyH_take (i := 3) (oi := { dst := some 13, op := Op.load 56 (Operand.tmp 12), type := 56, pos := "l10_item.go:22", after := #[{ on := 2, ground := Ground.data }], guard := none }) (v := ?_) rfl (by kernel_rfl) (by kernel_rfl) (by kernel_rfl) (fun _ _ _ h => h) (Or.inl ⟨by rfl, ?_⟩) (by assumption) ?_
          rotate_left 1
          · intro w' hSw; (try dsimp only at hSw); go_simp; (try with_reducible rfl)
          (try simp only [Act.put, List.setIfInBounds_toArray, List.set_cons_zero, List.set_cons_succ])
          refine wpAnyH_ready (rs := [4]) (by kernel_rfl) (by simp) ?_
          refine AllReadyH.cons (o := { dst := some 14, op := Op.call { callee := Callee.value (Operand.func 99), args := #[Operand.tmp 13], argTypes := #[56] }, type := 4, pos := "l10_item.go:22", after := #[{ on := 3, ground := Ground.data }], guard := none }) rfl (fun KC hKC => ?_) AllReadyH.nil
          go_simp
          (go_at_call 99; refine (specItemOk_any N B F C U _ hx (by omega) (by omega) _).mono ?_; rintro e w2 ⟨rfl, hB2⟩; have hz2 := hB2.size)
          refine hKC.out _ _ (rng5 (range_of rg.out (hB2.block bk hb))) (fun hHeld2 => ?_)
          clear hKC KC hHeld
          have hHeld := hHeld2
          clear hHeld2
          (try simp only [Act.put, List.setIfInBounds_toArray, List.set_cons_zero, List.set_cons_succ])
          refine wpAnyH_take (i := 5) (oi := { dst := some 15, op := Op.unOp UnOp.not 4 (Operand.tmp 14), type := 4, pos := "l10_item.go:22", after := #[{ on := 4, ground := Ground.data }], guard := none }) (v := ?_) rfl (by kernel_rfl) (by kernel_rfl) (by kernel_rfl) (fun _ _ _ h => h) (Or.inl ⟨by rfl, ?_⟩) (by assumption) ?_
          rotate_left 1
          · intro w' hSw; (try dsimp only at hSw); go_simp; (try with_reducible rfl)
          (try simp only [Act.put, List.setIfInBounds_toArray, List.set_cons_zero, List.set_cons_succ])
          refine wpAnyH_take (i := 6) (oi := { dst := some 16, op := Op.move (Operand.tmp 15), type := 4, pos := "l10_item.go:22", after := #[{ on := 5, ground := Ground.data }, { on := 4, ground := Ground.chain }], guard := none }) (v := ?_) rfl (by kernel_rfl) (by kernel_rfl) (by kernel_rfl) (fun _ _ _ h => h) (Or.inl ⟨by rfl, ?_⟩) (by assumption) ?_
          rotate_left 1
          · intro w' hSw; (try dsimp only at hSw); go_simp; (try with_reducible rfl)
          (try simp only [Act.put, List.setIfInBounds_toArray, List.set_cons_zero, List.set_cons_succ])
          refine wpAnyH_take (i := 7) (oi := { dst := some 17, op := Op.move (Operand.tmp 3), type := 3, pos := "l10_item.go:22", after := #[{ on := 6, ground := Ground.guard }], guard := some (6, false) }) (v := ?_) rfl (by kernel_rfl) (by kernel_rfl) (by kernel_rfl) (fun _ _ _ h => h) (Or.inl ⟨by rfl, ?_⟩) (by assumption) ?_
          rotate_left 1
          · intro w' hSw; (try dsimp only at hSw); go_simp; (try with_reducible rfl)
          (try simp only [Act.put, List.setIfInBounds_toArray, List.set_cons_zero, List.set_cons_succ])
          refine wpAnyH_take (i := 8) (oi := { dst := some 18, op := Op.binOp BinOp.gtr 3 (Operand.tmp 17) (Operand.const (Value.int IntKind.i64 0)) 3, type := 4, pos := "l10_item.go:22", after := #[{ on := 7, ground := Ground.data }, { on := 6, ground := Ground.guard }], guard := some (6, false) }) (v := ?_) rfl (by kernel_rfl) (by kernel_rfl) (by kernel_rfl) (fun _ _ _ h => h) (Or.inl ⟨by rfl, ?_⟩) (by assumption) ?_
          rotate_left 1
          · intro w' hSw; (try dsimp only at hSw); go_simp; (try with_reducible rfl)
          (try simp only [Act.put, List.setIfInBounds_toArray, List.set_cons_zero, List.set_cons_succ])
          refine wpAnyH_take (i := 9) (oi := { dst := some 19, op := Op.move (Operand.tmp 18), type := 4, pos := "l10_item.go:22", after := #[{ on := 8, ground := Ground.data }, { on := 6, ground := Ground.chain }, { on := 6, ground := Ground.guard }], guard := some (6, false) }) (v := ?_) rfl (by kernel_rfl) (by kernel_rfl) (by kernel_rfl) (fun _ _ _ h => h) (Or.inl ⟨by rfl, ?_⟩) (by assumption) ?_
          rotate_left 1
          · intro w' hSw; (try dsimp only at hSw); go_simp; (try with_reducible rfl)
          (try simp only [Act.put, List.setIfInBounds_toArray, List.set_cons_zero, List.set_cons_succ])
          refine wpAnyH_take (i := 10) (oi := { dst := some 20, op := Op.move (Operand.tmp 0), type := 29, pos := "l10_item.go:22", after := #[{ on := 9, ground := Ground.guard }], guard := some (9, true) }) (v := undef) rfl (by kernel_rfl) (by kernel_rfl) (by kernel_rfl) (fun _ _ _ h => h) (Or.inr ⟨by rfl, rfl⟩) (by assumption) ?_
          (try simp only [Act.put, List.setIfInBounds_toArray, List.set_cons_zero, List.set_cons_succ])
          refine wpAnyH_take (i := 11) (oi := { dst := some 21, op := Op.move (Operand.tmp 3), type := 3, pos := "l10_item.go:22", after := #[{ on := 9, ground := Ground.guard }], guard := some (9, true) }) (v := undef) rfl (by kernel_rfl) (by kernel_rfl) (by kernel_rfl) (fun _ _ _ h => h) (Or.inr ⟨by rfl, rfl⟩) (by assumption) ?_
          (try simp only [Act.put, List.setIfInBounds_toArray, List.set_cons_zero, List.set_cons_succ])
          refine wpAnyH_take (i := 12) (oi := { dst := some 22, op := Op.indexAddr 29 (Operand.tmp 20) (Operand.tmp 21), type := 0, pos := "l10_item.go:22", after := #[{ on := 10, ground := Ground.data }, { on := 11, ground := Ground.data }, { on := 9, ground := Ground.guard }], guard := some (9, true) }) (v := undef) rfl (by kernel_rfl) (by kernel_rfl) (by kernel_rfl) (fun _ _ _ h => h) (Or.inr ⟨by rfl, rfl⟩) (by assumption) ?_
          (try simp only [Act.put, List.setIfInBounds_toArray, List.set_cons_zero, List.set_cons_succ])
          refine wpAnyH_take (i := 13) (oi := { dst := some 23, op := Op.fieldAddr 56 (Operand.tmp 22) 0, type := 0, pos := "l10_item.go:22", after := #[{ on := 12, ground := Ground.data }, { on := 9, ground := Ground.guard }], guard := some (9, true) }) (v := undef) rfl (by kernel_rfl) (by kernel_rfl) (by kernel_rfl) (fun _ _ _ h => h) (Or.inr ⟨by rfl, rfl⟩) (by assumption) ?_
          (try simp only [Act.put, List.setIfInBounds_toArray, List.set_cons_zero, List.set_cons_succ])
          refine wpAnyH_take (i := 14) (oi := { dst := some 24, op := Op.load 9 (Operand.tmp 23), type := 9, pos := "l10_item.go:22", after := #[{ on := 13, ground := Ground.data }, { on := 9, ground := Ground.guard }], guard := some (9, true) }) (v := undef) rfl (by kernel_rfl) (by kernel_rfl) (by kernel_rfl) (fun _ _ _ h => h) (Or.inr ⟨by rfl, rfl⟩) (by assumption) ?_
          (try simp only [Act.put, List.setIfInBounds_toArray, List.set_cons_zero, List.set_cons_succ])
          refine wpAnyH_take (i := 15) (oi := { dst := some 25, op := Op.move (Operand.tmp 0), type := 29, pos := "l10_item.go:22", after := #[{ on := 9, ground := Ground.guard }], guard := some (9, true) }) (v := undef) rfl (by kernel_rfl) (by kernel_rfl) (by kernel_rfl) (fun _ _ _ h => h) (Or.inr ⟨by rfl, rfl⟩) (by assumption) ?_
          (try simp only [Act.put, List.setIfInBounds_toArray, List.set_cons_zero, List.set_cons_succ])
          refine wpAnyH_take (i := 16) (oi := { dst := some 26, op := Op.move (Operand.tmp 3), type := 3, pos := "l10_item.go:22", after := #[{ on := 9, ground := Ground.guard }], guard := some (9, true) }) (v := undef) rfl (by kernel_rfl) (by kernel_rfl) (by kernel_rfl) (fun _ _ _ h => h) (Or.inr ⟨by rfl, rfl⟩) (by assumption) ?_
          (try simp only [Act.put, List.setIfInBounds_toArray, List.set_cons_zero, List.set_cons_succ])
          refine wpAnyH_take (i := 17) (oi := { dst := some 27, op := Op.binOp BinOp.sub 3 (Operand.tmp 26) (Operand.const (Value.int IntKind.i64 1)) 3, type := 3, pos := "l10_item.go:22", after := #[{ on := 16, ground := Ground.data }, { on := 9, ground := Ground.guard }], guard := some (9, true) }) (v := undef) rfl (by kernel_rfl) (by kernel_rfl) (by kernel_rfl) (fun _ _ _ h => h) (Or.inr ⟨by rfl, rfl⟩) (by assumption) ?_
          (try simp only [Act.put, List.setIfInBounds_toArray, List.set_cons_zero, List.set_cons_succ])
          refine wpAnyH_take (i := 18) (oi := { dst := some 28, op := Op.indexAddr 29 (Operand.tmp 25) (Operand.tmp 27), type := 0, pos := "l10_item.go:22", after := #[{ on := 15, ground := Ground.data }, { on := 17, ground := Ground.data }, { on := 9, ground := Ground.guard }], guard := some (9, true) }) (v := undef) rfl (by kernel_rfl) (by kernel_rfl) (by kernel_rfl) (fun _ _ _ h => h) (Or.inr ⟨by rfl, rfl⟩) (by assumption) ?_
          (try simp only [Act.put, List.setIfInBounds_toArray, List.set_cons_zero, List.set_cons_succ])
          refine wpAnyH_take (i := 19) (oi := { dst := some 29, op := Op.fieldAddr 56 (Operand.tmp 28) 0, type := 0, pos := "l10_item.go:22", after := #[{ on := 18, ground := Ground.data }, { on := 9, ground := Ground.guard }], guard := some (9, true) }) (v := undef) rfl (by kernel_rfl) (by kernel_rfl) (by kernel_rfl) (fun _ _ _ h => h) (Or.inr ⟨by rfl, rfl⟩) (by assumption) ?_
          (try simp only [Act.put, List.setIfInBounds_toArray, List.set_cons_zero, List.set_cons_succ])
          refine wpAnyH_take (i := 20) (oi := { dst := some 30, op := Op.load 9 (Operand.tmp 29), type := 9, pos := "l10_item.go:22", after := #[{ on := 19, ground := Ground.data }, { on := 9, ground := Ground.guard }], guard := some (9, true) }) (v := undef) rfl (by kernel_rfl) (by kernel_rfl) (by kernel_rfl) (fun _ _ _ h => h) (Or.inr ⟨by rfl, rfl⟩) (by assumption) ?_
          (try simp only [Act.put, List.setIfInBounds_toArray, List.set_cons_zero, List.set_cons_succ])
          refine wpAnyH_take (i := 21) (oi := { dst := some 31, op := Op.binOp BinOp.leq 9 (Operand.tmp 24) (Operand.tmp 30) 9, type := 4, pos := "l10_item.go:22", after := #[{ on := 14, ground := Ground.data }, { on := 20, ground := Ground.data }, { on := 9, ground := Ground.guard }], guard := some (9, true) }) (v := undef) rfl (by kernel_rfl) (by kernel_rfl) (by kernel_rfl) (fun _ _ _ h => h) (Or.inr ⟨by rfl, rfl⟩) (by assumption) ?_
          (try simp only [Act.put, List.setIfInBounds_toArray, List.set_cons_zero, List.set_cons_succ])
          refine wpAnyH_take (i := 22) (oi := { dst := some 32, op := Op.pick (Operand.tmp 19) (Operand.tmp 31) (Operand.const (Value.bool false)), type := 4, pos := "l10_item.go:22", after := #[{ on := 9, ground := Ground.data }, { on := 21, ground := Ground.data }, { on := 6, ground := Ground.guard }], guard := some (6, false) }) (v := ?_) rfl (by kernel_rfl) (by kernel_rfl) (by kernel_rfl) (fun _ _ _ h => h) (Or.inl ⟨by rfl, ?_⟩) (by assumption) ?_
          rotate_left 1
          · intro w' hSw; (try dsimp only at hSw); go_simp; (try with_reducible rfl)
          (try simp only [Act.put, List.setIfInBounds_toArray, List.set_cons_zero, List.set_cons_succ])
          refine wpAnyH_take (i := 23) (oi := { dst := some 33, op := Op.pick (Operand.tmp 16) (Operand.const (Value.bool true)) (Operand.tmp 32), type := 4, pos := "l10_item.go:22", after := #[{ on := 6, ground := Ground.data }, { on := 22, ground := Ground.data }], guard := none }) (v := ?_) rfl (by kernel_rfl) (by kernel_rfl) (by kernel_rfl) (fun _ _ _ h => h) (Or.inl ⟨by rfl, ?_⟩) (by assumption) ?_
          rotate_left 1
          · intro w' hSw; (try dsimp only at hSw); go_simp; (try with_reducible rfl)
          (try simp only [Act.put, List.setIfInBounds_toArray, List.set_cons_zero, List.set_cons_succ])
          refine wpAnyH_done (by kernel_rfl) ?_ _
          go_wp2
          go_roundw
          case rel => exact ⟨i + 1, by omega, by go_num, hP3, hBr.drew.trans (hB2.mono hsr)⟩
          case measure => simp [intOf]; omega
    · have hlt' : ¬ (i : Int) < (b.length : Int) := by omega
      have hP2 := hP.out
      rw [show i = b.length by omega] at hP2
      have ey : Hid (y = decide ((b.length : Int) ≤ 20)) := by unfold Hid; rw [← hy.out, preB_all hP2]
      clear hP2
      go_wp2
      go_ret
      exact ⟨by rw [ey.out]; rfl, hBr⟩

end Go.Proofs.YtjkkjpgebcnhgaaGreatDoor.rg
/- Contracts: the program's answers on a book of things. -/
namespace Go.Proofs.YtjkkjpgebcnhgaaGreatDoor.rg
open Go.ChangeShapes Go.WideShapes Go.ChangeAt Go.RowKit
open Go.Proofs.YtjkkjpgebcnhgaaGreatDoor.ce Go.Proofs.YtjkkjpgebcnhgaaGreatDoor.ro
set_option linter.unusedVariables false

set_option maxRecDepth 100000 in
set_option maxHeartbeats 4000000 in
theorem implBookOk_any (b : List It) (v : Value) (w : World) (r : Rd encIt w v b) (hs : SmK b) :
    Calls Tryz.prog 52 #[v] w fun e w' => e = .returned (.bool (bookB b)) ∧ Below w.heap.size w w' := by
  have hl := r.len
  obtain ⟨a, cap, rfl⟩ := r.form
  have R : Hid (Rd encIt w (.slice a b.length cap) b) := r
  have HS : Hid (SmK b) := hs
  clear r hs
  obtain ⟨y, hy⟩ := hid_ex (bookB b)
  rw [hy.out]
  by_cases h20 : (b.length : Int) > 20
  · have ey : y = false := by rw [← hy.out]; exact book_long (by omega)
    subst ey
    go_enter Tryz.func52, Tryz.ntmps52
    go_wp2
    go_ret
    exact ⟨rfl, Below.refl _ _⟩
  go_enter Tryz.func52, Tryz.ntmps52
  go_wp2
  go_loopw [10] (fun p wr => ∃ i : Nat, i ≤ b.length ∧ p = .int .i64 i ∧ Hid (PreB b i) ∧ Below w.heap.size w wr) (fun p _ => b.length - (intOf p).toNat)
  case atStart => exact ⟨0, by omega, rfl, preB_zero b, Below.refl _ _⟩
  case round =>
    obtain ⟨i, hi1, rfl, hP, hBr⟩ := hrel
    by_cases hlt : i < b.length
    · have hRr := R.out.grow hBr
      obtain ⟨bk, off, rfl, hb, rg0⟩ := rd_item rfl rfl hRr i hlt
      have hlt' : (i : Int) < (b.length : Int) := by omega
      have hsz := HS.out b[i] (List.getElem_mem hlt)
      have hp1 := @preB_not1 b i hlt
      have hp2 := @preB_not2 b i hlt
      have hp3 := preB_succ hP.out hlt
      have hsr := hBr.size
      obtain ⟨z, hz⟩ := hid_ex (b[i])
      rw [hz.out] at rg0 hsz hp1 hp3
      simp only [hz.out] at hp2
      obtain ⟨N, F, B, C, U⟩ := z
      obtain ⟨hN, hB⟩ := hsz
      dsimp only at hN hB hp2 hp3
      have rg : Hid (wr.rangeAt bk (off + i * 5) [.string N, .int .i64 F, .string B, .int .i64 C, .int .i64 U]) := rg0
      clear rg0
      obtain ⟨x, hx⟩ := hid_ex (itemB ⟨N, F, B, C, U⟩)
      cases x with
      | false =>
        have ey : y = false := by rw [← hy.out]; exact hp1 hx.out
        subst ey
        clear hp1 hp2 hp3
        go_upto_region 6 with (first | (refine wpList_load_r rfl 56 _ rfl bk (off + i * 5) [.string N, .int .i64 F, .string B, .int .i64 C, .int .i64 U] rfl _ Tryz.underlying56 rfl sizeIt rg.out ?_) | (refine wpList_alloc_v rfl 56 rfl _ zeroIt ?_; intro g w2 hg hwg hB2 V2; have hz2 := hB2.size) | (refine wpList_store_v rfl 56 _ _ rfl g [.string N, .int .i64 F, .string B, .int .i64 C, .int .i64 U] rfl rfl sizeIt V2 rfl (ic_one ⟨N, F, B, C, U⟩) ?_; intro w3 hO3 V3) | (fail))
        have hz3 : w2.heap.size ≤ w3.heap.size := Nat.le_of_eq hO3.1.symm
        have hz3b : w3.heap.size ≤ w2.heap.size := Nat.le_of_eq hO3.1
        have hB3 : Below w.heap.size w w3 := (hBr.trans (hB2.mono hsr)).trans (hO3.2.2 _ (by omega))
        have VV : Hid (VBlk w3 g 56 [.string N, .int .i64 F, .string B, .int .i64 C, .int .i64 U]) := V3
        clear V2 V3 hO3
        refine wp_region_held_drew (S := fun w' => w'.cell? ⟨g, 0, none⟩ = some (.string N) ∧ w'.cell? ⟨g, 1, none⟩ = some (.int .i64 F) ∧ w'.cell? ⟨g, 2, none⟩ = some (.string B) ∧ w'.cell? ⟨g, 3, none⟩ = some (.int .i64 C) ∧ w'.cell? ⟨g, 4, none⟩ = some (.int .i64 U)) (by kernel_rfl) (cells5 (w := w3.drew) VV.out) (fun hHeld => ?_)
        refine wpAnyH_take (i := 0) (oi := { dst := some 15, op := Op.load 56 (Operand.tmp 4), type := 56, pos := "l10_item.go:75", after := #[], guard := none }) (v := ?_) rfl (by kernel_rfl) (by kernel_rfl) (by kernel_rfl) (fun _ _ _ h => h) (Or.inl ⟨by rfl, ?_⟩) (by assumption) ?_
        rotate_left 1
        · intro w' hSw; (try dsimp only at hSw); go_simp; (try with_reducible rfl)
        (try simp only [Act.put, List.setIfInBounds_toArray, List.set_cons_zero, List.set_cons_succ])
        refine wpAnyH_ready (rs := [1]) (by kernel_rfl) (by simp) ?_
        refine AllReadyH.cons (o := { dst := some 16, op := Op.call { callee := Callee.value (Operand.func 96), args := #[Operand.tmp 15], argTypes := #[56] }, type := 4, pos := "l10_item.go:75", after := #[{ on := 0, ground := Ground.data }], guard := none }) rfl (fun KC hKC => ?_) AllReadyH.nil
        go_simp
        (go_at_call 96; refine (implItemOk_any N B F C U _ hx (by omega) (by omega) _).mono ?_; rintro e w4 ⟨rfl, hB4⟩; have hz4 := hB4.size)
        refine hKC.out _ _ (cells5 (vblk_grow VV.out.drew hB4)) (fun hHeld2 => ?_)
        clear hKC KC hHeld
        have hHeld := hHeld2
        clear hHeld2
        (try simp only [Act.put, List.setIfInBounds_toArray, List.set_cons_zero, List.set_cons_succ])
        refine wpAnyH_take (i := 2) (oi := { dst := some 17, op := Op.unOp UnOp.not 4 (Operand.tmp 16), type := 4, pos := "l10_item.go:75", after := #[{ on := 1, ground := Ground.data }], guard := none }) (v := ?_) rfl (by kernel_rfl) (by kernel_rfl) (by kernel_rfl) (fun _ _ _ h => h) (Or.inl ⟨by rfl, ?_⟩) (by assumption) ?_
        rotate_left 1
        · intro w' hSw; (try dsimp only at hSw); go_simp; (try with_reducible rfl)
        (try simp only [Act.put, List.setIfInBounds_toArray, List.set_cons_zero, List.set_cons_succ])
        refine wpAnyH_take (i := 3) (oi := { dst := some 18, op := Op.move (Operand.tmp 17), type := 4, pos := "l10_item.go:75", after := #[{ on := 2, ground := Ground.data }, { on := 1, ground := Ground.chain }], guard := none }) (v := ?_) rfl (by kernel_rfl) (by kernel_rfl) (by kernel_rfl) (fun _ _ _ h => h) (Or.inl ⟨by rfl, ?_⟩) (by assumption) ?_
        rotate_left 1
        · intro w' hSw; (try dsimp only at hSw); go_simp; (try with_reducible rfl)
        (try simp only [Act.put, List.setIfInBounds_toArray, List.set_cons_zero, List.set_cons_succ])
        refine wpAnyH_take (i := 4) (oi := { dst := some 19, op := Op.move (Operand.tmp 3), type := 3, pos := "l10_item.go:75", after := #[{ on := 3, ground := Ground.guard }], guard := some (3, false) }) (v := undef) rfl (by kernel_rfl) (by kernel_rfl) (by kernel_rfl) (fun _ _ _ h => h) (Or.inr ⟨by rfl, rfl⟩) (by assumption) ?_
        (try simp only [Act.put, List.setIfInBounds_toArray, List.set_cons_zero, List.set_cons_succ])
        refine wpAnyH_take (i := 5) (oi := { dst := some 20, op := Op.binOp BinOp.gtr 3 (Operand.tmp 19) (Operand.const (Value.int IntKind.i64 0)) 3, type := 4, pos := "l10_item.go:75", after := #[{ on := 4, ground := Ground.data }, { on := 3, ground := Ground.guard }], guard := some (3, false) }) (v := undef) rfl (by kernel_rfl) (by kernel_rfl) (by kernel_rfl) (fun _ _ _ h => h) (Or.inr ⟨by rfl, rfl⟩) (by assumption) ?_
        (try simp only [Act.put, List.setIfInBounds_toArray, List.set_cons_zero, List.set_cons_succ])
        refine wpAnyH_take (i := 6) (oi := { dst := some 21, op := Op.move (Operand.tmp 20), type := 4, pos := "l10_item.go:75", after := #[{ on := 5, ground := Ground.data }, { on := 3, ground := Ground.chain }, { on := 3, ground := Ground.guard }], guard := some (3, false) }) (v := undef) rfl (by kernel_rfl) (by kernel_rfl) (by kernel_rfl) (fun _ _ _ h => h) (Or.inr ⟨by rfl, rfl⟩) (by assumption) ?_
        (try simp only [Act.put, List.setIfInBounds_toArray, List.set_cons_zero, List.set_cons_succ])
        refine wpAnyH_take (i := 7) (oi := { dst := some 22, op := Op.move (Operand.tmp 0), type := 29, pos := "l10_item.go:75", after := #[{ on := 6, ground := Ground.guard }], guard := some (6, true) }) (v := undef) rfl (by kernel_rfl) (by kernel_rfl) (by kernel_rfl) (fun _ _ _ h => h) (Or.inr ⟨by rfl, rfl⟩) (by assumption) ?_
        (try simp only [Act.put, List.setIfInBounds_toArray, List.set_cons_zero, List.set_cons_succ])
        refine wpAnyH_take (i := 8) (oi := { dst := some 23, op := Op.move (Operand.tmp 3), type := 3, pos := "l10_item.go:75", after := #[{ on := 6, ground := Ground.guard }], guard := some (6, true) }) (v := undef) rfl (by kernel_rfl) (by kernel_rfl) (by kernel_rfl) (fun _ _ _ h => h) (Or.inr ⟨by rfl, rfl⟩) (by assumption) ?_
        (try simp only [Act.put, List.setIfInBounds_toArray, List.set_cons_zero, List.set_cons_succ])
        refine wpAnyH_take (i := 9) (oi := { dst := some 24, op := Op.binOp BinOp.sub 3 (Operand.tmp 23) (Operand.const (Value.int IntKind.i64 1)) 3, type := 3, pos := "l10_item.go:75", after := #[{ on := 8, ground := Ground.data }, { on := 6, ground := Ground.guard }], guard := some (6, true) }) (v := undef) rfl (by kernel_rfl) (by kernel_rfl) (by kernel_rfl) (fun _ _ _ h => h) (Or.inr ⟨by rfl, rfl⟩) (by assumption) ?_
        (try simp only [Act.put, List.setIfInBounds_toArray, List.set_cons_zero, List.set_cons_succ])
        refine wpAnyH_take (i := 10) (oi := { dst := some 25, op := Op.indexAddr 29 (Operand.tmp 22) (Operand.tmp 24), type := 0, pos := "l10_item.go:75", after := #[{ on := 7, ground := Ground.data }, { on := 9, ground := Ground.data }, { on := 6, ground := Ground.guard }], guard := some (6, true) }) (v := undef) rfl (by kernel_rfl) (by kernel_rfl) (by kernel_rfl) (fun _ _ _ h => h) (Or.inr ⟨by rfl, rfl⟩) (by assumption) ?_
        (try simp only [Act.put, List.setIfInBounds_toArray, List.set_cons_zero, List.set_cons_succ])
        refine wpAnyH_take (i := 11) (oi := { dst := some 26, op := Op.load 56 (Operand.tmp 25), type := 56, pos := "l10_item.go:75", after := #[{ on := 10, ground := Ground.data }, { on := 6, ground := Ground.guard }], guard := some (6, true) }) (v := undef) rfl (by kernel_rfl) (by kernel_rfl) (by kernel_rfl) (fun _ _ _ h => h) (Or.inr ⟨by rfl, rfl⟩) (by assumption) ?_
        (try simp only [Act.put, List.setIfInBounds_toArray, List.set_cons_zero, List.set_cons_succ])
        refine wpAnyH_take (i := 12) (oi := { dst := some 27, op := Op.call { callee := Callee.value (Operand.func 97), args := #[Operand.tmp 26], argTypes := #[56] }, type := 121, pos := "l10_item.go:75", after := #[{ on := 11, ground := Ground.data }, { on := 6, ground := Ground.chain }, { on := 6, ground := Ground.guard }], guard := some (6, true) }) (v := undef) rfl (by kernel_rfl) (by kernel_rfl) (by kernel_rfl) (fun _ _ _ h => h) (Or.inr ⟨by rfl, rfl⟩) (by assumption) ?_
        (try simp only [Act.put, List.setIfInBounds_toArray, List.set_cons_zero, List.set_cons_succ])
        refine wpAnyH_take (i := 13) (oi := { dst := some 28, op := Op.field 121 (Operand.tmp 27) 0, type := 119, pos := "l10_item.go:75", after := #[{ on := 12, ground := Ground.data }, { on := 6, ground := Ground.guard }], guard := some (6, true) }) (v := undef) rfl (by kernel_rfl) (by kernel_rfl) (by kernel_rfl) (fun _ _ _ h => h) (Or.inr ⟨by rfl, rfl⟩) (by assumption) ?_
        (try simp only [Act.put, List.setIfInBounds_toArray, List.set_cons_zero, List.set_cons_succ])
        refine wpAnyH_take (i := 14) (oi := { dst := some 29, op := Op.fieldAddr 56 (Operand.tmp 4) 0, type := 0, pos := "l10_item.go:75", after := #[{ on := 6, ground := Ground.guard }], guard := some (6, true) }) (v := undef) rfl (by kernel_rfl) (by kernel_rfl) (by kernel_rfl) (fun _ _ _ h => h) (Or.inr ⟨by rfl, rfl⟩) (by assumption) ?_
        (try simp only [Act.put, List.setIfInBounds_toArray, List.set_cons_zero, List.set_cons_succ])
        refine wpAnyH_take (i := 15) (oi := { dst := some 30, op := Op.load 9 (Operand.tmp 29), type := 9, pos := "l10_item.go:75", after := #[{ on := 14, ground := Ground.data }, { on := 6, ground := Ground.guard }], guard := some (6, true) }) (v := undef) rfl (by kernel_rfl) (by kernel_rfl) (by kernel_rfl) (fun _ _ _ h => h) (Or.inr ⟨by rfl, rfl⟩) (by assumption) ?_
        (try simp only [Act.put, List.setIfInBounds_toArray, List.set_cons_zero, List.set_cons_succ])
        refine wpAnyH_take (i := 16) (oi := { dst := some 31, op := Op.call { callee := Callee.value (Operand.func 98), args := #[Operand.tmp 28, Operand.tmp 30], argTypes := #[119, 9] }, type := 4, pos := "l10_item.go:75", after := #[{ on := 13, ground := Ground.data }, { on := 15, ground := Ground.data }, { on := 12, ground := Ground.chain }, { on := 6, ground := Ground.guard }], guard := some (6, true) }) (v := undef) rfl (by kernel_rfl) (by kernel_rfl) (by kernel_rfl) (fun _ _ _ h => h) (Or.inr ⟨by rfl, rfl⟩) (by assumption) ?_
        (try simp only [Act.put, List.setIfInBounds_toArray, List.set_cons_zero, List.set_cons_succ])
        refine wpAnyH_take (i := 17) (oi := { dst := some 32, op := Op.unOp UnOp.not 4 (Operand.tmp 31), type := 4, pos := "l10_item.go:75", after := #[{ on := 16, ground := Ground.data }, { on := 6, ground := Ground.guard }], guard := some (6, true) }) (v := undef) rfl (by kernel_rfl) (by kernel_rfl) (by kernel_rfl) (fun _ _ _ h => h) (Or.inr ⟨by rfl, rfl⟩) (by assumption) ?_
        (try simp only [Act.put, List.setIfInBounds_toArray, List.set_cons_zero, List.set_cons_succ])
        refine wpAnyH_take (i := 18) (oi := { dst := some 33, op := Op.pick (Operand.tmp 21) (Operand.tmp 32) (Operand.const (Value.bool false)), type := 4, pos := "l10_item.go:75", after := #[{ on := 6, ground := Ground.data }, { on := 17, ground := Ground.data }, { on := 3, ground := Ground.guard }], guard := some (3, false) }) (v := undef) rfl (by kernel_rfl) (by kernel_rfl) (by kernel_rfl) (fun _ _ _ h => h) (Or.inr ⟨by rfl, rfl⟩) (by assumption) ?_
        (try simp only [Act.put, List.setIfInBounds_toArray, List.set_cons_zero, List.set_cons_succ])
        refine wpAnyH_take (i := 19) (oi := { dst := some 34, op := Op.pick (Operand.tmp 18) (Operand.const (Value.bool true)) (Operand.tmp 33), type := 4, pos := "l10_item.go:75", after := #[{ on := 3, ground := Ground.data }, { on := 18, ground := Ground.data }], guard := none }) (v := ?_) rfl (by kernel_rfl) (by kernel_rfl) (by kernel_rfl) (fun _ _ _ h => h) (Or.inl ⟨by rfl, ?_⟩) (by assumption) ?_
        rotate_left 1
        · intro w' hSw; (try dsimp only at hSw); go_simp; (try with_reducible rfl)
        (try simp only [Act.put, List.setIfInBounds_toArray, List.set_cons_zero, List.set_cons_succ])
        refine wpAnyH_done (by kernel_rfl) ?_ _
        go_wp2
        go_ret
        exact ⟨rfl, hB3.drew.trans (hB4.mono hB3.size)⟩
      | true =>
        by_cases h0 : 0 < i
        · have h0' : decide ((i : Int) > 0) = true := decide_eq_true (by omega)
          have h0'' : (0 : Int) < (i : Int) := by omega
          obtain ⟨p, hpi⟩ : ∃ p : Nat, Hid (p = i - 1) := ⟨_, rfl⟩
          have hpl : p < b.length := by have := hpi.out; omega
          have hpw : IntKind.i64.wrap ((i : Int) - 1) = (p : Int) := by rw [IntKind.wrap_i64]; have := hpi.out; omega
          have hpp : (p : Int) < (b.length : Int) := by omega
          obtain ⟨bk', off', e', -, rp⟩ := rd_item rfl rfl hRr p hpl
          cases e'
          obtain ⟨q, hq⟩ := hid_ex (b[p])
          have ep : (b[i - 1]'(by omega)) = q := by rw [← hq.out]; simp only [hpi.out]
          rw [hq.out] at rp
          simp only [ep] at hp2 hp3
          obtain ⟨N2, F2, B2, C2, U2⟩ := q
          dsimp only at hp2 hp3
          have rg2 : Hid (wr.rangeAt bk (off + p * 5) [.string N2, .int .i64 F2, .string B2, .int .i64 C2, .int .i64 U2]) := rp
          clear rp ep
          obtain ⟨l, hl2⟩ := hid_ex (ltS N2 N)
          cases l with
          | false =>
            have ey : y = false := by rw [← hy.out]; exact hp2 h0 hl2.out
            subst ey
            clear hp1 hp2 hp3
            have hfd := field_thing N2 B2 F2 C2 U2
            go_upto_region 6 with (first | (refine wpList_load_r rfl 56 _ rfl bk (off + i * 5) [.string N, .int .i64 F, .string B, .int .i64 C, .int .i64 U] rfl _ Tryz.underlying56 rfl sizeIt rg.out ?_) | (refine wpList_alloc_v rfl 56 rfl _ zeroIt ?_; intro g w2 hg hwg hB2 V2; have hz2 := hB2.size) | (refine wpList_store_v rfl 56 _ _ rfl g [.string N, .int .i64 F, .string B, .int .i64 C, .int .i64 U] rfl rfl sizeIt V2 rfl (ic_one ⟨N, F, B, C, U⟩) ?_; intro w3 hO3 V3) | (fail))
            have hz3 : w2.heap.size ≤ w3.heap.size := Nat.le_of_eq hO3.1.symm
            have hz3b : w3.heap.size ≤ w2.heap.size := Nat.le_of_eq hO3.1
            have hB3 : Below w.heap.size w w3 := (hBr.trans (hB2.mono hsr)).trans (hO3.2.2 _ (by omega))
            have VV : Hid (VBlk w3 g 56 [.string N, .int .i64 F, .string B, .int .i64 C, .int .i64 U]) := V3
            have rg3 : Hid (w3.rangeAt bk (off + p * 5) [.string N2, .int .i64 F2, .string B2, .int .i64 C2, .int .i64 U2]) := range_of (range_of rg2.out (hB2.block bk hb)) (hO3.2.1 bk (by omega))
            have hbk3 : bk < w3.heap.size := by omega
            clear V2 V3 hO3
            have hS0 : (w3.drew.cell? ⟨g, 0, none⟩ = some (.string N) ∧ w3.drew.cell? ⟨g, 1, none⟩ = some (.int .i64 F) ∧ w3.drew.cell? ⟨g, 2, none⟩ = some (.string B) ∧ w3.drew.cell? ⟨g, 3, none⟩ = some (.int .i64 C) ∧ w3.drew.cell? ⟨g, 4, none⟩ = some (.int .i64 U)) ∧ w3.drew.cell? ⟨bk, off + p * 5, none⟩ = some (.string N2) ∧ w3.drew.cell? ⟨bk, off + p * 5 + 1, none⟩ = some (.int .i64 F2) ∧ w3.drew.cell? ⟨bk, off + p * 5 + 2, none⟩ = some (.string B2) ∧ w3.drew.cell? ⟨bk, off + p * 5 + 3, none⟩ = some (.int .i64 C2) ∧ w3.drew.cell? ⟨bk, off + p * 5 + 4, none⟩ = some (.int .i64 U2) := ⟨cells5 (w := w3.drew) VV.out, rng5 (w := w3.drew) rg3.out⟩
            go_region_held3 (fun w' => (w'.cell? ⟨g, 0, none⟩ = some (.string N) ∧ w'.cell? ⟨g, 1, none⟩ = some (.int .i64 F) ∧ w'.cell? ⟨g, 2, none⟩ = some (.string B) ∧ w'.cell? ⟨g, 3, none⟩ = some (.int .i64 C) ∧ w'.cell? ⟨g, 4, none⟩ = some (.int .i64 U)) ∧ w'.cell? ⟨bk, off + p * 5, none⟩ = some (.string N2) ∧ w'.cell? ⟨bk, off + p * 5 + 1, none⟩ = some (.int .i64 F2) ∧ w'.cell? ⟨bk, off + p * 5 + 2, none⟩ = some (.string B2) ∧ w'.cell? ⟨bk, off + p * 5 + 3, none⟩ = some (.int .i64 C2) ∧ w'.cell? ⟨bk, off + p * 5 + 4, none⟩ = some (.int .i64 U2)) (first | assumption | exact hS0) (first | (go_at_call 96; refine (implItemOk_any N B F C U _ hx (by omega) (by omega) _).mono ?_; rintro e w4 ⟨rfl, hB4⟩; have hz4 := hB4.size; have VW : Hid (VBlk w4 g 56 [.string N, .int .i64 F, .string B, .int .i64 C, .int .i64 U]) := vblk_grow VV.out.drew hB4; have rg4 : Hid (w4.rangeAt bk (off + p * 5) [.string N2, .int .i64 F2, .string B2, .int .i64 C2, .int .i64 U2]) := range_of rg3.out (hB4.block bk hbk3); have hS2 := And.intro (cells5 VW.out) (rng5 rg4.out)) | (go_at_call 97; refine (thingOf_any N2 B2 F2 C2 U2 _).mono ?_; rintro e w5 ⟨rfl, hB5⟩; have hS3 := And.intro (cells5 (vblk_grow VW.out hB5)) (rng5 (range_of rg4.out (hB5.block bk (Nat.lt_of_lt_of_le hbk3 hz4))))) | (go_at_call 98; refine (standsAhead_any N2 N _ hl2.out _).mono ?_; rintro e wq ⟨rfl, hq⟩; subst wq) | (fail))
            go_wp2
            go_ret
            exact ⟨rfl, (hB3.drew.trans (hB4.mono hB3.size)).trans (hB5.mono (Nat.le_trans hB3.size hz4))⟩
          | true =>
            have hP3 : Hid (PreB b (i + 1)) := hp3 hx.out fun _ => hl2.out
            clear hp1 hp2 hp3
            have hfd := field_thing N2 B2 F2 C2 U2
            go_upto_region 6 with (first | (refine wpList_load_r rfl 56 _ rfl bk (off + i * 5) [.string N, .int .i64 F, .string B, .int .i64 C, .int .i64 U] rfl _ Tryz.underlying56 rfl sizeIt rg.out ?_) | (refine wpList_alloc_v rfl 56 rfl _ zeroIt ?_; intro g w2 hg hwg hB2 V2; have hz2 := hB2.size) | (refine wpList_store_v rfl 56 _ _ rfl g [.string N, .int .i64 F, .string B, .int .i64 C, .int .i64 U] rfl rfl sizeIt V2 rfl (ic_one ⟨N, F, B, C, U⟩) ?_; intro w3 hO3 V3) | (fail))
            have hz3 : w2.heap.size ≤ w3.heap.size := Nat.le_of_eq hO3.1.symm
            have hz3b : w3.heap.size ≤ w2.heap.size := Nat.le_of_eq hO3.1
            have hB3 : Below w.heap.size w w3 := (hBr.trans (hB2.mono hsr)).trans (hO3.2.2 _ (by omega))
            have VV : Hid (VBlk w3 g 56 [.string N, .int .i64 F, .string B, .int .i64 C, .int .i64 U]) := V3
            have rg3 : Hid (w3.rangeAt bk (off + p * 5) [.string N2, .int .i64 F2, .string B2, .int .i64 C2, .int .i64 U2]) := range_of (range_of rg2.out (hB2.block bk hb)) (hO3.2.1 bk (by omega))
            have hbk3 : bk < w3.heap.size := by omega
            clear V2 V3 hO3
            have hS0 : (w3.drew.cell? ⟨g, 0, none⟩ = some (.string N) ∧ w3.drew.cell? ⟨g, 1, none⟩ = some (.int .i64 F) ∧ w3.drew.cell? ⟨g, 2, none⟩ = some (.string B) ∧ w3.drew.cell? ⟨g, 3, none⟩ = some (.int .i64 C) ∧ w3.drew.cell? ⟨g, 4, none⟩ = some (.int .i64 U)) ∧ w3.drew.cell? ⟨bk, off + p * 5, none⟩ = some (.string N2) ∧ w3.drew.cell? ⟨bk, off + p * 5 + 1, none⟩ = some (.int .i64 F2) ∧ w3.drew.cell? ⟨bk, off + p * 5 + 2, none⟩ = some (.string B2) ∧ w3.drew.cell? ⟨bk, off + p * 5 + 3, none⟩ = some (.int .i64 C2) ∧ w3.drew.cell? ⟨bk, off + p * 5 + 4, none⟩ = some (.int .i64 U2) := ⟨cells5 (w := w3.drew) VV.out, rng5 (w := w3.drew) rg3.out⟩
            go_region_held3 (fun w' => (w'.cell? ⟨g, 0, none⟩ = some (.string N) ∧ w'.cell? ⟨g, 1, none⟩ = some (.int .i64 F) ∧ w'.cell? ⟨g, 2, none⟩ = some (.string B) ∧ w'.cell? ⟨g, 3, none⟩ = some (.int .i64 C) ∧ w'.cell? ⟨g, 4, none⟩ = some (.int .i64 U)) ∧ w'.cell? ⟨bk, off + p * 5, none⟩ = some (.string N2) ∧ w'.cell? ⟨bk, off + p * 5 + 1, none⟩ = some (.int .i64 F2) ∧ w'.cell? ⟨bk, off + p * 5 + 2, none⟩ = some (.string B2) ∧ w'.cell? ⟨bk, off + p * 5 + 3, none⟩ = some (.int .i64 C2) ∧ w'.cell? ⟨bk, off + p * 5 + 4, none⟩ = some (.int .i64 U2)) (first | assumption | exact hS0) (first | (go_at_call 96; refine (implItemOk_any N B F C U _ hx (by omega) (by omega) _).mono ?_; rintro e w4 ⟨rfl, hB4⟩; have hz4 := hB4.size; have VW : Hid (VBlk w4 g 56 [.string N, .int .i64 F, .string B, .int .i64 C, .int .i64 U]) := vblk_grow VV.out.drew hB4; have rg4 : Hid (w4.rangeAt bk (off + p * 5) [.string N2, .int .i64 F2, .string B2, .int .i64 C2, .int .i64 U2]) := range_of rg3.out (hB4.block bk hbk3); have hS2 := And.intro (cells5 VW.out) (rng5 rg4.out)) | (go_at_call 97; refine (thingOf_any N2 B2 F2 C2 U2 _).mono ?_; rintro e w5 ⟨rfl, hB5⟩; have hS3 := And.intro (cells5 (vblk_grow VW.out hB5)) (rng5 (range_of rg4.out (hB5.block bk (Nat.lt_of_lt_of_le hbk3 hz4))))) | (go_at_call 98; refine (standsAhead_any N2 N _ hl2.out _).mono ?_; rintro e wq ⟨rfl, hq⟩; subst wq) | (fail))
            go_wp2
            go_roundw
            case rel => exact ⟨i + 1, by omega, by go_num, hP3, (hB3.drew.trans (hB4.mono hB3.size)).trans (hB5.mono (Nat.le_trans hB3.size hz4))⟩
            case measure => simp [intOf]; omega
        · have hP3 : Hid (PreB b (i + 1)) := hp3 hx.out fun h => absurd h h0
          have h0' : decide ((i : Int) > 0) = false := decide_eq_false (by omega)
          have h0'' : ¬ (0 : Int) < (i : Int) := by omega
          clear hp1 hp2 hp3
          go_upto_region 6 with (first | (refine wpList_load_r rfl 56 _ rfl bk (off + i * 5) [.string N, .int .i64 F, .string B, .int .i64 C, .int .i64 U] rfl _ Tryz.underlying56 rfl sizeIt rg.out ?_) | (refine wpList_alloc_v rfl 56 rfl _ zeroIt ?_; intro g w2 hg hwg hB2 V2; have hz2 := hB2.size) | (refine wpList_store_v rfl 56 _ _ rfl g [.string N, .int .i64 F, .string B, .int .i64 C, .int .i64 U] rfl rfl sizeIt V2 rfl (ic_one ⟨N, F, B, C, U⟩) ?_; intro w3 hO3 V3) | (fail))
          have hz3 : w2.heap.size ≤ w3.heap.size := Nat.le_of_eq hO3.1.symm
          have hz3b : w3.heap.size ≤ w2.heap.size := Nat.le_of_eq hO3.1
          have hB3 : Below w.heap.size w w3 := (hBr.trans (hB2.mono hsr)).trans (hO3.2.2 _ (by omega))
          have VV : Hid (VBlk w3 g 56 [.string N, .int .i64 F, .string B, .int .i64 C, .int .i64 U]) := V3
          clear V2 V3 hO3
          refine wp_region_held_drew (S := fun w' => w'.cell? ⟨g, 0, none⟩ = some (.string N) ∧ w'.cell? ⟨g, 1, none⟩ = some (.int .i64 F) ∧ w'.cell? ⟨g, 2, none⟩ = some (.string B) ∧ w'.cell? ⟨g, 3, none⟩ = some (.int .i64 C) ∧ w'.cell? ⟨g, 4, none⟩ = some (.int .i64 U)) (by kernel_rfl) (cells5 (w := w3.drew) VV.out) (fun hHeld => ?_)
          refine wpAnyH_take (i := 0) (oi := { dst := some 15, op := Op.load 56 (Operand.tmp 4), type := 56, pos := "l10_item.go:75", after := #[], guard := none }) (v := ?_) rfl (by kernel_rfl) (by kernel_rfl) (by kernel_rfl) (fun _ _ _ h => h) (Or.inl ⟨by rfl, ?_⟩) (by assumption) ?_
          rotate_left 1
          · intro w' hSw; (try dsimp only at hSw); go_simp; (try with_reducible rfl)
          (try simp only [Act.put, List.setIfInBounds_toArray, List.set_cons_zero, List.set_cons_succ])
          refine wpAnyH_ready (rs := [1]) (by kernel_rfl) (by simp) ?_
          refine AllReadyH.cons (o := { dst := some 16, op := Op.call { callee := Callee.value (Operand.func 96), args := #[Operand.tmp 15], argTypes := #[56] }, type := 4, pos := "l10_item.go:75", after := #[{ on := 0, ground := Ground.data }], guard := none }) rfl (fun KC hKC => ?_) AllReadyH.nil
          go_simp
          (go_at_call 96; refine (implItemOk_any N B F C U _ hx (by omega) (by omega) _).mono ?_; rintro e w4 ⟨rfl, hB4⟩; have hz4 := hB4.size)
          refine hKC.out _ _ (cells5 (vblk_grow VV.out.drew hB4)) (fun hHeld2 => ?_)
          clear hKC KC hHeld
          have hHeld := hHeld2
          clear hHeld2
          (try simp only [Act.put, List.setIfInBounds_toArray, List.set_cons_zero, List.set_cons_succ])
          refine wpAnyH_take (i := 2) (oi := { dst := some 17, op := Op.unOp UnOp.not 4 (Operand.tmp 16), type := 4, pos := "l10_item.go:75", after := #[{ on := 1, ground := Ground.data }], guard := none }) (v := ?_) rfl (by kernel_rfl) (by kernel_rfl) (by kernel_rfl) (fun _ _ _ h => h) (Or.inl ⟨by rfl, ?_⟩) (by assumption) ?_
          rotate_left 1
          · intro w' hSw; (try dsimp only at hSw); go_simp; (try with_reducible rfl)
          (try simp only [Act.put, List.setIfInBounds_toArray, List.set_cons_zero, List.set_cons_succ])
          refine wpAnyH_take (i := 3) (oi := { dst := some 18, op := Op.move (Operand.tmp 17), type := 4, pos := "l10_item.go:75", after := #[{ on := 2, ground := Ground.data }, { on := 1, ground := Ground.chain }], guard := none }) (v := ?_) rfl (by kernel_rfl) (by kernel_rfl) (by kernel_rfl) (fun _ _ _ h => h) (Or.inl ⟨by rfl, ?_⟩) (by assumption) ?_
          rotate_left 1
          · intro w' hSw; (try dsimp only at hSw); go_simp; (try with_reducible rfl)
          (try simp only [Act.put, List.setIfInBounds_toArray, List.set_cons_zero, List.set_cons_succ])
          refine wpAnyH_take (i := 4) (oi := { dst := some 19, op := Op.move (Operand.tmp 3), type := 3, pos := "l10_item.go:75", after := #[{ on := 3, ground := Ground.guard }], guard := some (3, false) }) (v := ?_) rfl (by kernel_rfl) (by kernel_rfl) (by kernel_rfl) (fun _ _ _ h => h) (Or.inl ⟨by rfl, ?_⟩) (by assumption) ?_
          rotate_left 1
          · intro w' hSw; (try dsimp only at hSw); go_simp; (try with_reducible rfl)
          (try simp only [Act.put, List.setIfInBounds_toArray, List.set_cons_zero, List.set_cons_succ])
          refine wpAnyH_take (i := 5) (oi := { dst := some 20, op := Op.binOp BinOp.gtr 3 (Operand.tmp 19) (Operand.const (Value.int IntKind.i64 0)) 3, type := 4, pos := "l10_item.go:75", after := #[{ on := 4, ground := Ground.data }, { on := 3, ground := Ground.guard }], guard := some (3, false) }) (v := ?_) rfl (by kernel_rfl) (by kernel_rfl) (by kernel_rfl) (fun _ _ _ h => h) (Or.inl ⟨by rfl, ?_⟩) (by assumption) ?_
          rotate_left 1
          · intro w' hSw; (try dsimp only at hSw); go_simp; (try with_reducible rfl)
          (try simp only [Act.put, List.setIfInBounds_toArray, List.set_cons_zero, List.set_cons_succ])
          refine wpAnyH_take (i := 6) (oi := { dst := some 21, op := Op.move (Operand.tmp 20), type := 4, pos := "l10_item.go:75", after := #[{ on := 5, ground := Ground.data }, { on := 3, ground := Ground.chain }, { on := 3, ground := Ground.guard }], guard := some (3, false) }) (v := ?_) rfl (by kernel_rfl) (by kernel_rfl) (by kernel_rfl) (fun _ _ _ h => h) (Or.inl ⟨by rfl, ?_⟩) (by assumption) ?_
          rotate_left 1
          · intro w' hSw; (try dsimp only at hSw); go_simp; (try with_reducible rfl)
          (try simp only [Act.put, List.setIfInBounds_toArray, List.set_cons_zero, List.set_cons_succ])
          refine wpAnyH_take (i := 7) (oi := { dst := some 22, op := Op.move (Operand.tmp 0), type := 29, pos := "l10_item.go:75", after := #[{ on := 6, ground := Ground.guard }], guard := some (6, true) }) (v := undef) rfl (by kernel_rfl) (by kernel_rfl) (by kernel_rfl) (fun _ _ _ h => h) (Or.inr ⟨by rfl, rfl⟩) (by assumption) ?_
          (try simp only [Act.put, List.setIfInBounds_toArray, List.set_cons_zero, List.set_cons_succ])
          refine wpAnyH_take (i := 8) (oi := { dst := some 23, op := Op.move (Operand.tmp 3), type := 3, pos := "l10_item.go:75", after := #[{ on := 6, ground := Ground.guard }], guard := some (6, true) }) (v := undef) rfl (by kernel_rfl) (by kernel_rfl) (by kernel_rfl) (fun _ _ _ h => h) (Or.inr ⟨by rfl, rfl⟩) (by assumption) ?_
          (try simp only [Act.put, List.setIfInBounds_toArray, List.set_cons_zero, List.set_cons_succ])
          refine wpAnyH_take (i := 9) (oi := { dst := some 24, op := Op.binOp BinOp.sub 3 (Operand.tmp 23) (Operand.const (Value.int IntKind.i64 1)) 3, type := 3, pos := "l10_item.go:75", after := #[{ on := 8, ground := Ground.data }, { on := 6, ground := Ground.guard }], guard := some (6, true) }) (v := undef) rfl (by kernel_rfl) (by kernel_rfl) (by kernel_rfl) (fun _ _ _ h => h) (Or.inr ⟨by rfl, rfl⟩) (by assumption) ?_
          (try simp only [Act.put, List.setIfInBounds_toArray, List.set_cons_zero, List.set_cons_succ])
          refine wpAnyH_take (i := 10) (oi := { dst := some 25, op := Op.indexAddr 29 (Operand.tmp 22) (Operand.tmp 24), type := 0, pos := "l10_item.go:75", after := #[{ on := 7, ground := Ground.data }, { on := 9, ground := Ground.data }, { on := 6, ground := Ground.guard }], guard := some (6, true) }) (v := undef) rfl (by kernel_rfl) (by kernel_rfl) (by kernel_rfl) (fun _ _ _ h => h) (Or.inr ⟨by rfl, rfl⟩) (by assumption) ?_
          (try simp only [Act.put, List.setIfInBounds_toArray, List.set_cons_zero, List.set_cons_succ])
          refine wpAnyH_take (i := 11) (oi := { dst := some 26, op := Op.load 56 (Operand.tmp 25), type := 56, pos := "l10_item.go:75", after := #[{ on := 10, ground := Ground.data }, { on := 6, ground := Ground.guard }], guard := some (6, true) }) (v := undef) rfl (by kernel_rfl) (by kernel_rfl) (by kernel_rfl) (fun _ _ _ h => h) (Or.inr ⟨by rfl, rfl⟩) (by assumption) ?_
          (try simp only [Act.put, List.setIfInBounds_toArray, List.set_cons_zero, List.set_cons_succ])
          refine wpAnyH_take (i := 12) (oi := { dst := some 27, op := Op.call { callee := Callee.value (Operand.func 97), args := #[Operand.tmp 26], argTypes := #[56] }, type := 121, pos := "l10_item.go:75", after := #[{ on := 11, ground := Ground.data }, { on := 6, ground := Ground.chain }, { on := 6, ground := Ground.guard }], guard := some (6, true) }) (v := undef) rfl (by kernel_rfl) (by kernel_rfl) (by kernel_rfl) (fun _ _ _ h => h) (Or.inr ⟨by rfl, rfl⟩) (by assumption) ?_
          (try simp only [Act.put, List.setIfInBounds_toArray, List.set_cons_zero, List.set_cons_succ])
          refine wpAnyH_take (i := 13) (oi := { dst := some 28, op := Op.field 121 (Operand.tmp 27) 0, type := 119, pos := "l10_item.go:75", after := #[{ on := 12, ground := Ground.data }, { on := 6, ground := Ground.guard }], guard := some (6, true) }) (v := undef) rfl (by kernel_rfl) (by kernel_rfl) (by kernel_rfl) (fun _ _ _ h => h) (Or.inr ⟨by rfl, rfl⟩) (by assumption) ?_
          (try simp only [Act.put, List.setIfInBounds_toArray, List.set_cons_zero, List.set_cons_succ])
          refine wpAnyH_take (i := 14) (oi := { dst := some 29, op := Op.fieldAddr 56 (Operand.tmp 4) 0, type := 0, pos := "l10_item.go:75", after := #[{ on := 6, ground := Ground.guard }], guard := some (6, true) }) (v := undef) rfl (by kernel_rfl) (by kernel_rfl) (by kernel_rfl) (fun _ _ _ h => h) (Or.inr ⟨by rfl, rfl⟩) (by assumption) ?_
          (try simp only [Act.put, List.setIfInBounds_toArray, List.set_cons_zero, List.set_cons_succ])
          refine wpAnyH_take (i := 15) (oi := { dst := some 30, op := Op.load 9 (Operand.tmp 29), type := 9, pos := "l10_item.go:75", after := #[{ on := 14, ground := Ground.data }, { on := 6, ground := Ground.guard }], guard := some (6, true) }) (v := undef) rfl (by kernel_rfl) (by kernel_rfl) (by kernel_rfl) (fun _ _ _ h => h) (Or.inr ⟨by rfl, rfl⟩) (by assumption) ?_
          (try simp only [Act.put, List.setIfInBounds_toArray, List.set_cons_zero, List.set_cons_succ])
          refine wpAnyH_take (i := 16) (oi := { dst := some 31, op := Op.call { callee := Callee.value (Operand.func 98), args := #[Operand.tmp 28, Operand.tmp 30], argTypes := #[119, 9] }, type := 4, pos := "l10_item.go:75", after := #[{ on := 13, ground := Ground.data }, { on := 15, ground := Ground.data }, { on := 12, ground := Ground.chain }, { on := 6, ground := Ground.guard }], guard := some (6, true) }) (v := undef) rfl (by kernel_rfl) (by kernel_rfl) (by kernel_rfl) (fun _ _ _ h => h) (Or.inr ⟨by rfl, rfl⟩) (by assumption) ?_
          (try simp only [Act.put, List.setIfInBounds_toArray, List.set_cons_zero, List.set_cons_succ])
          refine wpAnyH_take (i := 17) (oi := { dst := some 32, op := Op.unOp UnOp.not 4 (Operand.tmp 31), type := 4, pos := "l10_item.go:75", after := #[{ on := 16, ground := Ground.data }, { on := 6, ground := Ground.guard }], guard := some (6, true) }) (v := undef) rfl (by kernel_rfl) (by kernel_rfl) (by kernel_rfl) (fun _ _ _ h => h) (Or.inr ⟨by rfl, rfl⟩) (by assumption) ?_
          (try simp only [Act.put, List.setIfInBounds_toArray, List.set_cons_zero, List.set_cons_succ])
          refine wpAnyH_take (i := 18) (oi := { dst := some 33, op := Op.pick (Operand.tmp 21) (Operand.tmp 32) (Operand.const (Value.bool false)), type := 4, pos := "l10_item.go:75", after := #[{ on := 6, ground := Ground.data }, { on := 17, ground := Ground.data }, { on := 3, ground := Ground.guard }], guard := some (3, false) }) (v := ?_) rfl (by kernel_rfl) (by kernel_rfl) (by kernel_rfl) (fun _ _ _ h => h) (Or.inl ⟨by rfl, ?_⟩) (by assumption) ?_
          rotate_left 1
          · intro w' hSw; (try dsimp only at hSw); go_simp; (try with_reducible rfl)
          (try simp only [Act.put, List.setIfInBounds_toArray, List.set_cons_zero, List.set_cons_succ])
          refine wpAnyH_take (i := 19) (oi := { dst := some 34, op := Op.pick (Operand.tmp 18) (Operand.const (Value.bool true)) (Operand.tmp 33), type := 4, pos := "l10_item.go:75", after := #[{ on := 3, ground := Ground.data }, { on := 18, ground := Ground.data }], guard := none }) (v := ?_) rfl (by kernel_rfl) (by kernel_rfl) (by kernel_rfl) (fun _ _ _ h => h) (Or.inl ⟨by rfl, ?_⟩) (by assumption) ?_
          rotate_left 1
          · intro w' hSw; (try dsimp only at hSw); go_simp; (try with_reducible rfl)
          (try simp only [Act.put, List.setIfInBounds_toArray, List.set_cons_zero, List.set_cons_succ])
          refine wpAnyH_done (by kernel_rfl) ?_ _
          go_wp2
          go_roundw
          case rel => exact ⟨i + 1, by omega, by go_num, hP3, hB3.drew.trans (hB4.mono hB3.size)⟩
          case measure => simp [intOf]; omega
    · have hlt' : ¬ (i : Int) < (b.length : Int) := by omega
      have hP2 := hP.out
      rw [show i = b.length by omega] at hP2
      have ey : y = true := by rw [← hy.out, preB_all hP2]; exact decide_eq_true (by omega)
      subst ey
      clear hP2
      go_wp2
      go_ret
      exact ⟨rfl, hBr⟩

theorem implFindItem_any (b : List It) (s : ByteArray) (v : Value) (w : World) (r : Rd encIt w v b) :
    Calls Tryz.prog 75 #[v, .string s] w fun e w' => e = .returned (.int .i64 (findI b s)) ∧ Below w.heap.size w w' := by
  have hl := r.len
  obtain ⟨a, cap, rfl⟩ := r.form
  have R : Hid (Rd encIt w (.slice a b.length cap) b) := r
  clear r
  obtain ⟨y, hy⟩ := hid_ex (findI b s)
  rw [hy.out]
  go_enter Tryz.func75, Tryz.ntmps75
  go_wp2
  go_loopw [9] (fun p wr => ∃ i : Nat, i ≤ b.length ∧ p = .int .i64 i ∧ Hid (s ∉ (b.map (·.N)).take i) ∧ Below w.heap.size w wr) (fun p _ => b.length - (intOf p).toNat)
  case atStart => exact ⟨0, by omega, rfl, (by unfold Hid; simp), Below.refl _ _⟩
  case round =>
    obtain ⟨i, hi1, rfl, hno, hBr⟩ := hrel
    by_cases hlt : i < b.length
    · obtain ⟨bk, off, rfl, hb, rg0⟩ := rd_item rfl rfl (R.out.grow hBr) i hlt
      have hm : i < (b.map (·.N)).length := by rw [List.length_map]; exact hlt
      have hlt' : (i : Int) < (b.length : Int) := by omega
      have ge : (b.map (·.N))[i] = b[i].N := by rw [List.getElem_map]
      have hsr := hBr.size
      obtain ⟨z, hz⟩ := hid_ex (b[i])
      rw [hz.out] at rg0 ge
      obtain ⟨N, F, B, C, U⟩ := z
      dsimp only at ge
      have rg : Hid (wr.rangeAt bk (off + i * 5) [.string N, .int .i64 F, .string B, .int .i64 C, .int .i64 U]) := rg0
      clear rg0
      by_cases he : N.toList = s.toList
      · have ey : y = i := by rw [← hy.out]; exact posS_at hm (ge.trans (str_eq he)) hno.out
        subst ey
        have hbe : Hid ((N.toList == s.toList) = true) := by unfold Hid; simpa using he
        have hfd := field_thing N B F C U
        clear he ge
        go_wp2_with (first | (clear hno; refine wpList_load_r rfl 56 _ rfl bk (off + i * 5) [.string N, .int .i64 F, .string B, .int .i64 C, .int .i64 U] rfl _ Tryz.underlying56 rfl sizeIt rg.out ?_) | (refine wpList_alloc_v rfl 56 rfl _ zeroIt ?_; intro g w2 hg hwg hB2 V2; have hz2 := hB2.size) | (refine wpList_store_v rfl 56 _ _ rfl g [.string N, .int .i64 F, .string B, .int .i64 C, .int .i64 U] rfl rfl sizeIt V2 rfl (ic_one ⟨N, F, B, C, U⟩) ?_; intro w3 hO3 V3; have hz3 : w2.heap.size ≤ w3.heap.size := Nat.le_of_eq hO3.1.symm) | (refine wpList_load_r rfl 56 _ rfl g 0 [.string N, .int .i64 F, .string B, .int .i64 C, .int .i64 U] rfl _ Tryz.underlying56 rfl sizeIt V3.range ?_) | (go_at_call 97; refine (thingOf_any N B F C U _).mono ?_; rintro e w4 ⟨rfl, hB4⟩) | (go_at_call 109; refine (goesBy_any N s _ hbe.out _).mono ?_; rintro e wq ⟨rfl, hq⟩; subst wq) | (fail))
        go_ret
        exact ⟨rfl, ((hBr.trans (hB2.mono hsr)).trans (hO3.2.2 _ (by omega))).trans (hB4.mono (by omega))⟩
      · have hno2 : Hid (s ∉ (b.map (·.N)).take (i + 1)) := by
          unfold Hid
          rw [List.take_succ_eq_append_getElem hm, List.mem_append, ge, List.mem_singleton]
          rintro (h | h)
          · exact hno.out h
          · exact he (by rw [h])
        have hbe : Hid ((N.toList == s.toList) = false) := by unfold Hid; simpa using he
        have hfd := field_thing N B F C U
        clear he ge
        go_wp2_with (first | (clear hno; refine wpList_load_r rfl 56 _ rfl bk (off + i * 5) [.string N, .int .i64 F, .string B, .int .i64 C, .int .i64 U] rfl _ Tryz.underlying56 rfl sizeIt rg.out ?_) | (refine wpList_alloc_v rfl 56 rfl _ zeroIt ?_; intro g w2 hg hwg hB2 V2; have hz2 := hB2.size) | (refine wpList_store_v rfl 56 _ _ rfl g [.string N, .int .i64 F, .string B, .int .i64 C, .int .i64 U] rfl rfl sizeIt V2 rfl (ic_one ⟨N, F, B, C, U⟩) ?_; intro w3 hO3 V3; have hz3 : w2.heap.size ≤ w3.heap.size := Nat.le_of_eq hO3.1.symm) | (refine wpList_load_r rfl 56 _ rfl g 0 [.string N, .int .i64 F, .string B, .int .i64 C, .int .i64 U] rfl _ Tryz.underlying56 rfl sizeIt V3.range ?_) | (go_at_call 97; refine (thingOf_any N B F C U _).mono ?_; rintro e w4 ⟨rfl, hB4⟩) | (go_at_call 109; refine (goesBy_any N s _ hbe.out _).mono ?_; rintro e wq ⟨rfl, hq⟩; subst wq) | (fail))
        go_roundw
        case rel => exact ⟨i + 1, by omega, by go_num, hno2, ((hBr.trans (hB2.mono hsr)).trans (hO3.2.2 _ (by omega))).trans (hB4.mono (by omega))⟩
        case measure => simp [intOf]; omega
    · have hlt' : ¬ (i : Int) < (b.length : Int) := by omega
      have ey : y = -1 := by
        have h := hno.out
        rw [List.take_of_length_le (by rw [List.length_map]; omega)] at h
        rw [← hy.out]; exact posS_no h
      subst ey
      go_wp2
      go_ret
      exact ⟨rfl, hBr⟩

end Go.Proofs.YtjkkjpgebcnhgaaGreatDoor.rg
/- Mathematics of numbers and words in bytes, no Go in sight: numbers are read from what they are shown as, and only from that; words with blanks between them. -/
namespace Go.Proofs.YtjkkjpgebcnhgaaGreatDoor.cm
open Go.RowKit
set_option linter.unusedVariables false

/-- a digit -/
def dg (d : Nat) : UInt8 := UInt8.ofNat (48 + d)
def isD (c : UInt8) : Bool := decide (48 ≤ c.toNat) && decide (c.toNat ≤ 57)
theorem isD_iff {c : UInt8} : isD c = true ↔ 48 ≤ c.toNat ∧ c.toNat ≤ 57 := by simp [isD]
theorem dg_nat {d : Nat} (h : d < 10) : (dg d).toNat = 48 + d := by
  unfold dg
  rw [UInt8.toNat_ofNat']
  omega
theorem dg_isD {d : Nat} (h : d < 10) : isD (dg d) = true := isD_iff.2 (by rw [dg_nat h]; omega)
theorem dg_of {c : UInt8} (h : isD c = true) : dg (c.toNat - 48) = c := by
  have h2 := isD_iff.1 h
  apply UInt8.toNat_inj.1
  rw [dg_nat (by omega)]
  omega
/-- what digits tell -/
def val (a : Nat) (l : List UInt8) : Nat := l.foldl (fun b c => b * 10 + (c.toNat - 48)) a
theorem val_nil (a : Nat) : val a [] = a := by unfold val; rw [List.foldl_nil]
theorem val_cons (a : Nat) (c : UInt8) (r : List UInt8) : val a (c :: r) = val (a * 10 + (c.toNat - 48)) r := by unfold val; rw [List.foldl_cons]
theorem val_snoc (c : UInt8) (a : Nat) (l : List UInt8) : val a (l ++ [c]) = val a l * 10 + (c.toNat - 48) := by
  unfold val
  rw [List.foldl_append, List.foldl_cons, List.foldl_nil]
/-- how a number is shown -/
def digs (n : Nat) : List UInt8 := if n < 10 then [dg n] else digs (n / 10) ++ [dg (n % 10)]
termination_by n
decreasing_by omega
theorem digs_small {n : Nat} (h : n < 10) : digs n = [dg n] := by rw [digs, if_pos h]
theorem digs_big {n : Nat} (h : ¬ n < 10) : digs n = digs (n / 10) ++ [dg (n % 10)] := by rw [digs, if_neg h]
theorem digs_all (n : Nat) : ∀ c ∈ digs n, isD c = true := by
  induction n using Nat.strongRecOn with
  | _ n ih =>
    by_cases h : n < 10
    · rw [digs_small h]
      intro c hc
      rw [List.mem_singleton.1 hc]
      exact dg_isD h
    · rw [digs_big h]
      intro c hc
      rcases List.mem_append.1 hc with q | q
      · exact ih (n / 10) (by omega) c q
      · rw [List.mem_singleton.1 q]
        exact dg_isD (Nat.mod_lt _ (by omega))
theorem digs_ne (n : Nat) : digs n ≠ [] := by
  by_cases h : n < 10
  · rw [digs_small h]; simp
  · rw [digs_big h]; simp
theorem digs_len : ∀ (k n : Nat), n < 10 ^ (k + 1) → (digs n).length ≤ k + 1
  | 0, n, h => by rw [digs_small (by simpa using h)]; simp
  | k + 1, n, h => by
    by_cases h2 : n < 10
    · rw [digs_small h2]; simp
    · rw [digs_big h2, List.length_append, List.length_singleton]
      have : n / 10 < 10 ^ (k + 1) := by rw [Nat.div_lt_iff_lt_mul (by omega)]; rw [Nat.pow_succ] at h; omega
      have := digs_len k (n / 10) this
      omega
/-- the first digit is no 0, but of 0 alone -/
theorem digs_head (n : Nat) : (digs n).head? = some 48 → (digs n).length = 1 := by
  induction n using Nat.strongRecOn with
  | _ n ih =>
    by_cases h : n < 10
    · rw [digs_small h]
      intro _
      rfl
    · rw [digs_big h]
      intro hh
      have h1 : (digs (n / 10)).head? = some 48 := by
        cases hd : digs (n / 10) with
        | nil => exact absurd hd (digs_ne _)
        | cons c r => rw [hd] at hh; simpa using hh
      have h2 := ih (n / 10) (by omega) h1
      have h3 : n / 10 < 10 := Classical.byContradiction fun h4 => by
        rw [digs_big h4, List.length_append, List.length_singleton] at h2
        have := List.length_pos_iff.2 (digs_ne (n / 10 / 10))
        omega
      rw [digs_small h3] at h1
      have h5 : dg (n / 10) = 48 := by simpa using h1
      have h6 := congrArg UInt8.toNat h5
      rw [dg_nat h3] at h6
      have h7 : (48 : UInt8).toNat = 48 := rfl
      omega
/-- digits as a number is shown: one to nine of them, no 0 ahead -/
def canon (s : List UInt8) : Bool := s.all isD && decide (1 ≤ s.length) && decide (s.length ≤ 9) && !(s.head? == some 48 && decide (1 < s.length))
theorem canon_iff {s : List UInt8} : canon s = true ↔ (∀ c ∈ s, isD c = true) ∧ 1 ≤ s.length ∧ s.length ≤ 9 ∧ (s.head? = some 48 → s.length = 1) := by
  simp only [canon, Bool.and_eq_true, List.all_eq_true, decide_eq_true_eq, Bool.not_eq_true', Bool.and_eq_false_iff, beq_eq_false_iff_ne, decide_eq_false_iff_not]
  constructor
  · rintro ⟨⟨⟨h1, h2⟩, h3⟩, h4⟩
    refine ⟨h1, h2, h3, fun h => ?_⟩
    rcases h4 with q | q
    · exact absurd h q
    · omega
  · rintro ⟨h1, h2, h3, h4⟩
    refine ⟨⟨⟨h1, h2⟩, h3⟩, ?_⟩
    by_cases h : s.head? = some 48
    · have := h4 h
      exact .inr (by omega)
    · exact .inl h
theorem canon_digs {n : Nat} (h : n ≤ 999999999) : canon (digs n) = true :=
  canon_iff.2 ⟨digs_all n, by have := List.length_pos_iff.2 (digs_ne n); omega, digs_len 8 n (by omega), digs_head n⟩
theorem val_pos {c : UInt8} (hc : isD c = true) (h48 : c ≠ 48) : ∀ (l : List UInt8) (a : Nat), 0 < a → 0 < val a l
  | [], a, h => by rw [val_nil]; exact h
  | d :: r, a, h => by rw [val_cons]; exact val_pos hc h48 r _ (by omega)
theorem digs_val {c : UInt8} (hc : isD c = true) (h48 : c ≠ 48) : ∀ (n : Nat) (l : List UInt8), l.length = n → (∀ d ∈ l, isD d = true) → digs (val 0 (c :: l)) = c :: l
  | 0, l, hl, h => by
    rw [List.eq_nil_of_length_eq_zero hl]
    have h2 := isD_iff.1 hc
    rw [val_cons, val_nil, Nat.zero_mul, Nat.zero_add, digs_small (by omega), dg_of hc]
  | n + 1, l, hl, h => by
    have hne : l ≠ [] := fun e => by rw [e] at hl; simp at hl
    have e : l = l.dropLast ++ [l.getLast hne] := (List.dropLast_concat_getLast hne).symm
    have hd := isD_iff.1 (h (l.getLast hne) (List.getLast_mem hne))
    have ih := digs_val hc h48 n l.dropLast (by rw [List.length_dropLast]; omega) (fun d hd => h d (List.dropLast_subset l hd))
    have hcd := isD_iff.1 hc
    have hc0 : 0 < c.toNat - 48 := by
      have : c.toNat ≠ 48 := fun e => h48 (UInt8.toNat_inj.1 e)
      omega
    have hp : 0 < val 0 (c :: l.dropLast) := by
      rw [val_cons, Nat.zero_mul, Nat.zero_add]
      exact val_pos hc h48 _ _ hc0
    rw [e, ← List.cons_append, val_snoc, digs_big (by omega), show (val 0 (c :: l.dropLast) * 10 + ((l.getLast hne).toNat - 48)) / 10 = val 0 (c :: l.dropLast) by omega, ih, show (val 0 (c :: l.dropLast) * 10 + ((l.getLast hne).toNat - 48)) % 10 = (l.getLast hne).toNat - 48 by omega, dg_of (h (l.getLast hne) (List.getLast_mem hne))]
/-- a number is read only from what it is shown as -/
theorem digs_canon {s : List UInt8} (h : canon s = true) : digs (val 0 s) = s := by
  obtain ⟨h1, h2, h3, h4⟩ := canon_iff.1 h
  cases s with
  | nil => simp at h2
  | cons c r =>
    by_cases h48 : c = 48
    · have hl := h4 (by rw [h48]; rfl)
      have hr : r = [] := List.eq_nil_of_length_eq_zero (by simpa using hl)
      rw [hr, h48]
      have e : val 0 [48] = 0 := by rw [val_cons, val_nil]; rfl
      rw [e, digs_small (by omega)]
      rfl
    · exact digs_val (h1 c (List.mem_cons_self ..)) h48 r.length r rfl (fun d hd => h1 d (List.mem_cons_of_mem _ hd))
theorem val_lt : ∀ (l : List UInt8) (a k : Nat), (∀ c ∈ l, isD c = true) → a < 10 ^ k → val a l < 10 ^ (k + l.length)
  | [], a, k, _, h => by rw [val_nil]; simpa using h
  | c :: r, a, k, hc, h => by
    have h2 := isD_iff.1 (hc c (List.mem_cons_self ..))
    have := val_lt r (a * 10 + (c.toNat - 48)) (k + 1) (fun d hd => hc d (List.mem_cons_of_mem _ hd)) (by rw [Nat.pow_succ]; omega)
    rw [val_cons, List.length_cons, show k + (r.length + 1) = k + 1 + r.length by omega]
    exact this
theorem val_canon {s : List UInt8} (h : canon s = true) : val 0 s ≤ 999999999 := by
  obtain ⟨h1, h2, h3, -⟩ := canon_iff.1 h
  have := val_lt s 0 0 h1 (by decide)
  have h9 : (10 : Nat) ^ (0 + s.length) ≤ 10 ^ 9 := Nat.pow_le_pow_right (by decide) (by omega)
  omega

/-! ### words -/
def splitL (x : UInt8) : List UInt8 → List (List UInt8)
  | [] => [[]]
  | c :: r => if c = x then [] :: splitL x r else match splitL x r with
    | [] => [[c]]
    | w :: ws => (c :: w) :: ws
theorem splitL_ne (x : UInt8) : ∀ s, splitL x s ≠ []
  | [] => by simp [splitL]
  | c :: r => by
    unfold splitL
    split
    · simp
    · split <;> simp
theorem splitL_yes {x c : UInt8} (h : c = x) (r : List UInt8) : splitL x (c :: r) = [] :: splitL x r := by simp [splitL, h]
theorem splitL_no {x c : UInt8} (h : c ≠ x) {r w : List UInt8} {ws : List (List UInt8)} (e : splitL x r = w :: ws) : splitL x (c :: r) = (c :: w) :: ws := by simp [splitL, h, e]
def wordsL : List (List UInt8) → List UInt8
  | [] => []
  | [w] => w
  | w :: v :: ws => w ++ 32 :: wordsL (v :: ws)
theorem wordsL_cons {w : List UInt8} {ws : List (List UInt8)} (h : ws ≠ []) : wordsL (w :: ws) = w ++ 32 :: wordsL ws := by
  cases ws with
  | nil => exact absurd rfl h
  | cons v r => rfl
theorem words_split : ∀ s : List UInt8, wordsL (splitL 32 s) = s
  | [] => rfl
  | c :: r => by
    have ih := words_split r
    by_cases h : c = 32
    · rw [splitL_yes h, wordsL_cons (splitL_ne _ _), ih, h]
      rfl
    · cases e : splitL 32 r with
      | nil => exact absurd e (splitL_ne _ _)
      | cons w ws =>
        rw [splitL_no h e]
        rw [e] at ih
        rw [← ih]
        cases ws with
        | nil => rfl
        | cons v r => rfl
end Go.Proofs.YtjkkjpgebcnhgaaGreatDoor.cm
/- Mathematics of commands, no Go in sight: right ones, how they are shown, how a line is read. -/
namespace Go.Proofs.YtjkkjpgebcnhgaaGreatDoor.cm
open Go.RowKit
open Go.Proofs.YtjkkjpgebcnhgaaGreatDoor.rg (nameB nbB nameB_size)
set_option linter.unusedVariables false

/-- a command -/
structure Cm where
  V : Int
  N : ByteArray
  F : Int
  U : Int
  B : ByteArray
  C : Int
  D : Int
  Q : Bool
def emp : ByteArray := ⟨#[]⟩
def Cm.zero : Cm := ⟨0, emp, 0, 0, emp, 0, 0, false⟩
def sized (v : Int) : Bool := decide (3 ≤ v) && decide (v ≤ 8)
def full (v : Int) : Bool := (decide (3 ≤ v) && decide (v ≤ 5)) || decide (v = 8)
def stepV (v : Int) : Bool := decide (v = 9) || decide (v = 10)
/-- a right one -/
structure COk (c : Cm) : Prop where
  v0 : 1 ≤ c.V
  v1 : c.V ≤ 13
  q : c.Q = true → 3 ≤ c.V
  n0 : c.V = 13 → c.N = emp
  nm : c.V ≠ 13 → nameB c.N = true
  f : full c.V = false → c.F = 0
  u : full c.V = false → c.V ≠ 11 → c.U = 0
  b : sized c.V = false → c.B = emp
  c8 : c.V ≠ 8 → c.C = 0
  d : stepV c.V = false → c.D = 0
  c1 : c.V = 8 → 1 ≤ c.C ∧ c.C ≤ 1000000
  f1 : 0 ≤ c.F ∧ c.F ≤ 65535
  u1 : 0 ≤ c.U ∧ c.U ≤ 1000000
  b1 : c.B.size ≤ 64
  d1 : 0 ≤ c.D ∧ c.D ≤ 1000000
open Classical in
noncomputable def cmdB (c : Cm) : Bool := decide (COk c)
open Classical in
theorem cmdB_iff {c : Cm} : cmdB c = true ↔ COk c := by unfold cmdB; exact decide_eq_true_iff

/-! ### how it is shown -/
def verbs : List (List UInt8) := [[103, 101, 116], [103, 101, 116, 115], [115, 101, 116], [97, 100, 100], [114, 101, 112, 108, 97, 99, 101], [116, 97, 105, 108], [104, 101, 97, 100], [99, 97, 115], [117, 112], [100, 111, 119, 110], [116, 111, 117, 99, 104], [99, 117, 116], [99, 108, 101, 97, 114]]
def quiet : List UInt8 := [113, 117, 105, 101, 116]
def vw (v : Int) : List UInt8 := (verbs[(v - 1).toNat]?).getD []
def bs (s : ByteArray) : List UInt8 := s.data.toList
def tx (l : List UInt8) : ByteArray := ⟨l.toArray⟩
theorem bs_tx (l : List UInt8) : bs (tx l) = l := by simp [bs, tx]
theorem tx_bs (s : ByteArray) : tx (bs s) = s := by cases s; simp [bs, tx]
theorem bs_len (s : ByteArray) : (bs s).length = s.size := by cases s; simp [bs, ByteArray.size]
theorem tx_size (l : List UInt8) : (tx l).size = l.length := by simp [tx, ByteArray.size]
/-- the numbers of a command, k bytes behind it -/
def numsK (c : Cm) (k : Nat) : List Nat :=
  (if full c.V then [c.F.toNat, c.U.toNat] else []) ++ (if sized c.V then [k] else if c.V = 11 then [c.U.toNat] else if stepV c.V then [c.D.toNat] else []) ++ (if c.V = 8 then [c.C.toNat] else [])
def wordsK (c : Cm) (k : Nat) : List (List UInt8) :=
  vw c.V :: (if c.V = 13 then [] else [bs c.N]) ++ (numsK c k).map digs ++ (if c.Q then [quiet] else [])
def lineK (c : Cm) (k : Nat) : List UInt8 := wordsL (wordsK c k)
def showL (c : Cm) : List UInt8 := lineK c c.B.size ++ 10 :: (if sized c.V then bs c.B ++ [10] else [])

/-! ### how a line is read -/
def quietB (v : Int) (w : List (List UInt8)) : Bool := decide (1 < w.length) && (w.getLast? == some quiet) && decide (2 < v) && (decide (2 < w.length) || decide (v = 13))
def want (v : Int) : Nat := (if full v then 2 else 0) + (if sized v || decide (v = 11) || stepV v then 1 else 0) + (if v = 8 then 1 else 0)
def nth (n : List Nat) (i : Nat) : Int := ((n[i]?).getD 0 : Nat)
def build (v : Int) (q : Bool) (nm : ByteArray) (n : List Nat) : Cm :=
  if full v then ⟨v, nm, nth n 0, nth n 1, emp, if v = 8 then nth n 3 else 0, 0, q⟩
  else if sized v then ⟨v, nm, 0, 0, emp, 0, 0, q⟩
  else if v = 11 then ⟨v, nm, 0, nth n 0, emp, 0, 0, q⟩
  else if stepV v then ⟨v, nm, 0, 0, emp, 0, nth n 0, q⟩
  else ⟨v, nm, 0, 0, emp, 0, 0, q⟩
def sizeN (v : Int) (n : List Nat) : Nat := if full v then (n[2]?).getD 0 else if sized v then (n[0]?).getD 0 else 0
/-- the words but for the last quiet -/
def plainW (v : Int) (w : List (List UInt8)) : List (List UInt8) := if quietB v w then w.dropLast else w
def nameW (v : Int) (u : List (List UInt8)) : ByteArray := if v = 13 then emp else tx ((u[1]?).getD [])
def restW (v : Int) (u : List (List UInt8)) : List (List UInt8) := u.drop (if v = 13 then 1 else 2)
open Classical in
noncomputable def lineL (v : Int) (w : List (List UInt8)) : Option (Cm × Nat) :=
  if (v ≠ 13 ∧ (plainW v w).length < 2) ∨ ¬ (∀ x ∈ restW v (plainW v w), canon x = true) ∨ (restW v (plainW v w)).length ≠ want v then none
  else if sizeN v ((restW v (plainW v w)).map (val 0)) ≤ 64 ∧ COk (build v (quietB v w) (nameW v (plainW v w)) ((restW v (plainW v w)).map (val 0))) then
    some (build v (quietB v w) (nameW v (plainW v w)) ((restW v (plainW v w)).map (val 0)), sizeN v ((restW v (plainW v w)).map (val 0)))
  else none

theorem verb_cases {v : Int} (h0 : 1 ≤ v) (h1 : v ≤ 13) : v = 1 ∨ v = 2 ∨ v = 3 ∨ v = 4 ∨ v = 5 ∨ v = 6 ∨ v = 7 ∨ v = 8 ∨ v = 9 ∨ v = 10 ∨ v = 11 ∨ v = 12 ∨ v = 13 := by omega
theorem map_digs {l : List (List UInt8)} (h : ∀ x ∈ l, canon x = true) : (l.map (val 0)).map digs = l := by
  rw [List.map_map]
  exact (List.map_congr_left (fun x hx => digs_canon (h x hx))).trans (List.map_id' l)
/-- the command without its bytes -/
def bare (c : Cm) : Cm := ⟨c.V, c.N, c.F, c.U, emp, c.C, c.D, c.Q⟩
end Go.Proofs.YtjkkjpgebcnhgaaGreatDoor.cm
