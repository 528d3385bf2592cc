/- Texts laid together: Ds2 Cy3 Cy4. -/
import Derived.Test.YtjkkjpgebcnhgaaGreatDoorMg25
import Derived.Test.YtjkkjpgebcnhgaaGreatDoorDe3
import Derived.Test.YtjkkjpgebcnhgaaGreatDoorMg10
import Derived.Test.YtjkkjpgebcnhgaaGreatDoorMg00
import Derived.Test.YtjkkjpgebcnhgaaGreatDoorMg15
import Derived.Deep.DeepCutAuto
import Derived.Deep.RegionHeld3
import Derived.Deep.Slices
import Derived.Lib.SmallJoins
import Derived.Deep.LoopGhost
import Derived.Laws.DeepStrings4
/- The model's l13Drop. -/
namespace Go.Proofs.YtjkkjpgebcnhgaaGreatDoor.rg
open Go.ChangeShapes Go.WideShapes Go.ChangeAt Go.RowKit
open Go.Deep Go.Joins
open Go.Proofs.YtjkkjpgebcnhgaaGreatDoor.ce Go.Proofs.YtjkkjpgebcnhgaaGreatDoor.ro Go.Proofs.YtjkkjpgebcnhgaaGreatDoor.cm
set_option linter.unusedVariables false
def ol13Drop2_0 : Oper := { dst := some 13, op := Op.move (Operand.tmp 0), type := 66, pos := "l13_store.go:64", after := #[], guard := none }
def ol13Drop2_1 : Oper := { dst := some 14, op := Op.buildSlice 29 0 #[], type := 29, pos := "l13_store.go:64", after := #[], guard := none }
def ol13Drop2_2 : Oper := { dst := some 15, op := Op.move (Operand.tmp 0), type := 66, pos := "l13_store.go:64", after := #[], guard := none }
def ol13Drop2_3 : Oper := { dst := some 16, op := Op.nilCheck (Operand.tmp 15), type := 0, pos := "l13_store.go:64", after := #[{ on := 2, ground := Ground.data }], guard := none }
def ol13Drop2_4 : Oper := { dst := some 17, op := Op.fieldAddr 31 (Operand.tmp 16) 0, type := 0, pos := "l13_store.go:64", after := #[{ on := 3, ground := Ground.data }], guard := none }
def ol13Drop2_5 : Oper := { dst := some 18, op := Op.load 29 (Operand.tmp 17), type := 29, pos := "l13_store.go:64", after := #[{ on := 4, ground := Ground.data }], guard := none }
def ol13Drop2_6 : Oper := { dst := some 19, op := Op.move (Operand.tmp 4), type := 2, pos := "l13_store.go:64", after := #[], guard := none }
def ol13Drop2_8 : Oper := { dst := some 21, op := Op.call { callee := Callee.builtin Builtin.append, args := #[Operand.tmp 14, Operand.tmp 20], argTypes := #[29, 29] }, type := 29, pos := "l13_store.go:64", after := #[{ on := 1, ground := Ground.data }, { on := 7, ground := Ground.data }], guard := none }
def ol13Drop2_9 : Oper := { dst := some 22, op := Op.move (Operand.tmp 0), type := 66, pos := "l13_store.go:64", after := #[], guard := none }
def ol13Drop2_10 : Oper := { dst := some 23, op := Op.nilCheck (Operand.tmp 22), type := 0, pos := "l13_store.go:64", after := #[{ on := 9, ground := Ground.data }], guard := none }
def ol13Drop2_11 : Oper := { dst := some 24, op := Op.fieldAddr 31 (Operand.tmp 23) 0, type := 0, pos := "l13_store.go:64", after := #[{ on := 10, ground := Ground.data }], guard := none }
def ol13Drop2_12 : Oper := { dst := some 25, op := Op.load 29 (Operand.tmp 24), type := 29, pos := "l13_store.go:64", after := #[{ on := 11, ground := Ground.data }], guard := none }
def ol13Drop2_13 : Oper := { dst := some 26, op := Op.move (Operand.tmp 4), type := 2, pos := "l13_store.go:64", after := #[], guard := none }
def ol13Drop2_14 : Oper := { dst := some 27, op := Op.binOp BinOp.add 2 (Operand.tmp 26) (Operand.const (Value.int IntKind.i64 1)) 2, type := 2, pos := "l13_store.go:64", after := #[{ on := 13, ground := Ground.data }], guard := none }
def ol13Drop2_16 : Oper := { dst := some 29, op := Op.call { callee := Callee.builtin Builtin.append, args := #[Operand.tmp 21, Operand.tmp 28], argTypes := #[29, 29] }, type := 29, pos := "l13_store.go:64", after := #[{ on := 8, ground := Ground.data }, { on := 15, ground := Ground.data }, { on := 8, ground := Ground.chain }], guard := none }
def ol13Drop2_17 : Oper := { dst := some 30, op := Op.nilCheck (Operand.tmp 13), type := 0, pos := "l13_store.go:64", after := #[{ on := 0, ground := Ground.data }, { on := 0, ground := Ground.phase }, { on := 1, ground := Ground.phase }, { on := 2, ground := Ground.phase }, { on := 3, ground := Ground.phase }, { on := 4, ground := Ground.phase }, { on := 5, ground := Ground.phase }, { on := 6, ground := Ground.phase }, { on := 7, ground := Ground.phase }, { on := 8, ground := Ground.phase }, { on := 9, ground := Ground.phase }, { on := 10, ground := Ground.phase }, { on := 11, ground := Ground.phase }, { on := 12, ground := Ground.phase }, { on := 13, ground := Ground.phase }, { on := 14, ground := Ground.phase }, { on := 15, ground := Ground.phase }, { on := 16, ground := Ground.phase }], guard := none }
def ol13Drop2_18 : Oper := { dst := some 31, op := Op.fieldAddr 31 (Operand.tmp 30) 0, type := 0, pos := "l13_store.go:64", after := #[{ on := 17, ground := Ground.data }, { on := 0, ground := Ground.phase }, { on := 1, ground := Ground.phase }, { on := 2, ground := Ground.phase }, { on := 3, ground := Ground.phase }, { on := 4, ground := Ground.phase }, { on := 5, ground := Ground.phase }, { on := 6, ground := Ground.phase }, { on := 7, ground := Ground.phase }, { on := 8, ground := Ground.phase }, { on := 9, ground := Ground.phase }, { on := 10, ground := Ground.phase }, { on := 11, ground := Ground.phase }, { on := 12, ground := Ground.phase }, { on := 13, ground := Ground.phase }, { on := 14, ground := Ground.phase }, { on := 15, ground := Ground.phase }, { on := 16, ground := Ground.phase }], guard := none }
def ol13Drop2_19 : Oper := { dst := none, op := Op.store 29 (Operand.tmp 31) (Operand.tmp 29), type := 0, pos := "l13_store.go:64", after := #[{ on := 18, ground := Ground.data }, { on := 16, ground := Ground.data }, { on := 16, ground := Ground.chain }, { on := 0, ground := Ground.phase }, { on := 1, ground := Ground.phase }, { on := 2, ground := Ground.phase }, { on := 3, ground := Ground.phase }, { on := 4, ground := Ground.phase }, { on := 5, ground := Ground.phase }, { on := 6, ground := Ground.phase }, { on := 7, ground := Ground.phase }, { on := 8, ground := Ground.phase }, { on := 9, ground := Ground.phase }, { on := 10, ground := Ground.phase }, { on := 11, ground := Ground.phase }, { on := 12, ground := Ground.phase }, { on := 13, ground := Ground.phase }, { on := 14, ground := Ground.phase }, { on := 15, ground := Ground.phase }, { on := 16, ground := Ground.phase }], guard := none }

section laws
variable {ops : Array Oper} {rest : List Oper} {o : Oper} {a : Act} {w : World} {Q : Exit → Act → World → Prop} {K : Act → World → Prop} {X : Prop}
theorem run_build0 {P : Program} (w : World) (t e : TypeId) (i : TypeInfo) (ht : P.underlying t = some (.slice e)) (hi : P.info? e = some i) : (Instr.buildSlice t 0 #[]).run P w = .ok (.slice (some ⟨w.heap.size, 0, none⟩) 0 0) (w.alloc (.cells #[] e)) := by
  simp [Instr.buildSlice, run_underlying ht, sizeOf, typeInfo, hi, Instr.fill, Result.andThen]
  rw [show Array.map (fun x => (default : Value)) (Array.range 0) = #[] from Array.eq_empty_of_size_eq_zero (by simp)]
  rfl
theorem step_build0 (hgd : o.guard = none) (t e : TypeId) (i : TypeInfo) (ho : o.op = .buildSlice t 0 #[]) (ht : Tryz.prog.underlying t = some (.slice e)) (hi : Tryz.prog.info? e = some i)
    (h : ∀ (b : Nat) (w' : World), Below w.heap.size w w' → K (a.put o.dst (.slice (some ⟨b, 0, none⟩) 0 0)) w') : if Region.wanted o (yielded ops a.tmps) = true then Oper.wp Tryz.prog o a w K Q else X := by
  refine step_val hgd (v := .slice (some ⟨w.heap.size, 0, none⟩) 0 0) (w' := w.alloc (.cells #[] e)) ?_ (h _ _ (bAl _ _))
  simp [execOp, ho, run_build0 w t e i ht hi, Result.andThen]
theorem wpList_build0 (hgd : o.guard = none) (t e : TypeId) (i : TypeInfo) (ho : o.op = .buildSlice t 0 #[]) (ht : Tryz.prog.underlying t = some (.slice e)) (hi : Tryz.prog.info? e = some i)
    (h : ∀ (b : Nat) (w' : World), Below w.heap.size w w' → wpList Tryz.prog ops Q rest (a.put o.dst (.slice (some ⟨b, 0, none⟩) 0 0)) w') : wpList Tryz.prog ops Q (o :: rest) a w := by
  refine wpList_val hgd (v := .slice (some ⟨w.heap.size, 0, none⟩) 0 0) (w' := w.alloc (.cells #[] e)) ?_ (h _ _ (bAl _ _))
  simp [execOp, ho, run_build0 w t e i ht hi, Result.andThen]
theorem step_store_cell (hgd : o.guard = none) (t : TypeId) (x y : Operand) (ho : o.op = .store t x y) (b j : Nat) (u : Value) (hx : a.eval x = .pointer (some ⟨b, j, none⟩)) (hy : a.eval y = u) (h1 : u.oneCell' = true) (hi : (Tryz.prog.info? t).map (·.size) = some 1)
    {T : TypeId} {vs : List Value} (V : VBlk w b T vs) (hj : j < vs.length) (h : ∀ w', Only b w w' → VBlk w' b T (vs.set j u) → K (a.put o.dst undef) w') : if Region.wanted o (yielded ops a.tmps) = true then Oper.wp Tryz.prog o a w K Q else X := by
  have hw : Region.wanted o (yielded ops a.tmps) = true := by simp [Region.wanted, hgd]
  rw [if_pos hw]
  unfold Oper.wp execOp
  obtain ⟨i, hi1, hi2⟩ := Option.map_eq_some_iff.1 hi
  simp [ho, hx, hy, Instr.storeAt, Instr.sureAddr, storeVar, sizeOf, typeInfo, hi1, hi2, cells_one h1, storeCells, run_store _ _ _ _ _ h1, V.cell j hj, V.frozen j, Addr.add]
  exact h _ (only_set _ _ _ _) (V.set j u)
end laws
theorem infoItE : ∃ i, Tryz.prog.info? 56 = some i := by obtain ⟨i, z, h, -⟩ := infoIt.ex; exact ⟨i, h⟩
set_option maxRecDepth 100000 in
set_option maxHeartbeats 4000000 in
theorem l13Drop_any (I : List It) (X : Int) (s : ByteArray) (x : It) (b0 lo n0 k0 : Nat) (A0 : Option Addr) (w : World) (c0 : VBlk w b0 31 [.slice A0 n0 k0, .int .i64 X]) (hlo : lo ≤ b0) (o : Own encIt w lo w.heap.size (.slice A0 n0 k0) I) (hS : Srt I) (hl : I.length ≤ 1000000) (hlk : lookI I s = some x) :
    Calls Tryz.prog 66 #[.pointer (some ⟨b0, 0, none⟩), .string s] w fun e w' => e = .returned (.tuple #[]) ∧ ∃ A n k, VBlk w' b0 31 [.slice A n k, .int .i64 X] ∧ Own encIt w' lo w'.heap.size (.slice A n k) (dropL I s) ∧ Onb b0 w w' := by
  obtain ⟨-, hxs, k, hk, hk2, hk3⟩ := look_some hlk
  obtain ⟨iT, hiT⟩ := infoItE
  have hdrop : Hid (dropL I s = I.take k ++ I.drop (k + 1)) := by unfold Hid; rw [← hxs, ← hk3]; exact drop_at hS hk
  have hf : Hid (findI I s = k) := hk2
  have hlow := o.form (by omega)
  obtain ⟨g, cap, eg, hg1, hg2, hg3⟩ := hlow
  obtain ⟨rfl, rfl, rfl⟩ : A0 = some ⟨g, 0, none⟩ ∧ n0 = I.length ∧ k0 = cap := by simpa using eg
  have hcap := o.rd.cap
  have R : Hid (Rd encIt w (.slice (some ⟨g, 0, none⟩) I.length k0) I) := o.rd
  have C0 : Hid (VBlk w b0 31 [.slice (some ⟨g, 0, none⟩) I.length k0, .int .i64 X]) := c0
  have hlt0 := c0.lt
  obtain ⟨c00, c01⟩ := cells2 c0
  have hk0' : (0 : Int) ≤ (k : Int) := by omega
  have hkn : (k : Int) ≤ (I.length : Int) := by omega
  have hkc : (k : Int) ≤ (k0 : Int) := by omega
  have hwr : IntKind.i64.wrap ((k : Int) + 1) = ((k + 1 : Nat) : Int) := by rw [IntKind.wrap_i64]; omega
  have hge : decide (((k : Nat) : Int) ≥ 0) = true := decide_eq_true (by omega)
  clear hlk hxs hk2 hk3 eg hS o c0
  go_enter Tryz.func66, Tryz.ntmps66
  go_upto_region 2 with (first | (go_at_call 26; refine (specFindItem_any I s _ _ R.out).mono ?_; rintro e wq ⟨rfl, hq⟩; subst wq; rw [hf.out]) | (fail))
  by_cases hcc : k0 = k + 1
  · subst hcc
    have RT : Hid (Rd encIt w (.slice (some ⟨g, 0, none⟩) k (k + 1)) (I.take k)) := R.out.take k (by omega)
    have RD0 := rdIt_rest R.out (k + 1) (by omega)
    rw [if_pos rfl, show I.length - (k + 1) = 0 by omega, Nat.sub_self] at RD0
    have RD : Hid (Rd encIt w (.slice (some ⟨g, 0, none⟩) 0 0) (I.drop (k + 1))) := RD0
    clear RD0
    have hC : Below w.heap.size w w.drew := (Below.refl _ _).drew
    have C1 : Hid (VBlk w.drew b0 31 [.slice (some ⟨g, 0, none⟩) I.length (k + 1), .int .i64 X]) := vblk_grow C0.out hC
    have hzd : w.heap.size ≤ w.drew.heap.size := Nat.le_refl _
    have htl : (I.take k).length ≤ 1000000 := by rw [List.length_take]; omega
    have hdl : (I.drop (k + 1)).length ≤ 1000000 := by rw [List.length_drop]; omega
    (try simp only [Act.put])
    (try simp only [List.setIfInBounds_toArray, List.set_cons_zero, List.set_cons_succ])
    apply with_key (T := ∀ (wk : World) (bE n8 k8 : Nat) (A8 : Option Addr), Below w.heap.size w wk → Hid (VBlk wk b0 31 [.slice (some ⟨g, 0, none⟩) I.length (k + 1), .int .i64 X]) → Own encIt wk w.heap.size wk.heap.size (.slice A8 n8 k8) (I.take k) → (_ : Prop))
    case main =>
      intro key
      refine wp_region_held_drew (S := fun w' => True) (by kernel_rfl) (trivial) (fun hHeld => ?_)
      refine wpAnyH_take (i := 0) (oi := ol13Drop2_0) (v := ?_) rfl (by kernel_rfl) (by kernel_rfl) (by kernel_rfl) (fun _ _ _ h => h) (Or.inl ⟨by rfl, ?_⟩) (by assumption) ?_
      rotate_left 1
      · intro w' hSw; (try dsimp only at hSw); (try unfold ol13Drop2_0); go_simp; (try with_reducible rfl)
      (try unfold ol13Drop2_0)
      (try simp only [Act.put, List.setIfInBounds_toArray, List.set_cons_zero, List.set_cons_succ])
      refine wpAnyH_take (i := 2) (oi := ol13Drop2_2) (v := ?_) rfl (by kernel_rfl) (by kernel_rfl) (by kernel_rfl) (fun _ _ _ h => h) (Or.inl ⟨by rfl, ?_⟩) (by assumption) ?_
      rotate_left 1
      · intro w' hSw; (try dsimp only at hSw); (try unfold ol13Drop2_2); go_simp; (try with_reducible rfl)
      (try unfold ol13Drop2_2)
      (try simp only [Act.put, List.setIfInBounds_toArray, List.set_cons_zero, List.set_cons_succ])
      refine wpAnyH_take (i := 3) (oi := ol13Drop2_3) (v := ?_) rfl (by kernel_rfl) (by kernel_rfl) (by kernel_rfl) (fun _ _ _ h => h) (Or.inl ⟨by rfl, ?_⟩) (by assumption) ?_
      rotate_left 1
      · intro w' hSw; (try dsimp only at hSw); (try unfold ol13Drop2_3); go_simp; (try with_reducible rfl)
      (try unfold ol13Drop2_3)
      (try simp only [Act.put, List.setIfInBounds_toArray, List.set_cons_zero, List.set_cons_succ])
      refine wpAnyH_take (i := 4) (oi := ol13Drop2_4) (v := ?_) rfl (by kernel_rfl) (by kernel_rfl) (by kernel_rfl) (fun _ _ _ h => h) (Or.inl ⟨by rfl, ?_⟩) (by assumption) ?_
      rotate_left 1
      · intro w' hSw; (try dsimp only at hSw); (try unfold ol13Drop2_4); go_simp; (try with_reducible rfl)
      (try unfold ol13Drop2_4)
      (try simp only [Act.put, List.setIfInBounds_toArray, List.set_cons_zero, List.set_cons_succ])
      refine wpAnyH_take (i := 6) (oi := ol13Drop2_6) (v := ?_) rfl (by kernel_rfl) (by kernel_rfl) (by kernel_rfl) (fun _ _ _ h => h) (Or.inl ⟨by rfl, ?_⟩) (by assumption) ?_
      rotate_left 1
      · intro w' hSw; (try dsimp only at hSw); (try unfold ol13Drop2_6); go_simp; (try with_reducible rfl)
      (try unfold ol13Drop2_6)
      (try simp only [Act.put, List.setIfInBounds_toArray, List.set_cons_zero, List.set_cons_succ])
      refine wpAnyH_take (i := 9) (oi := ol13Drop2_9) (v := ?_) rfl (by kernel_rfl) (by kernel_rfl) (by kernel_rfl) (fun _ _ _ h => h) (Or.inl ⟨by rfl, ?_⟩) (by assumption) ?_
      rotate_left 1
      · intro w' hSw; (try dsimp only at hSw); (try unfold ol13Drop2_9); go_simp; (try with_reducible rfl)
      (try unfold ol13Drop2_9)
      (try simp only [Act.put, List.setIfInBounds_toArray, List.set_cons_zero, List.set_cons_succ])
      refine wpAnyH_take (i := 10) (oi := ol13Drop2_10) (v := ?_) rfl (by kernel_rfl) (by kernel_rfl) (by kernel_rfl) (fun _ _ _ h => h) (Or.inl ⟨by rfl, ?_⟩) (by assumption) ?_
      rotate_left 1
      · intro w' hSw; (try dsimp only at hSw); (try unfold ol13Drop2_10); go_simp; (try with_reducible rfl)
      (try unfold ol13Drop2_10)
      (try simp only [Act.put, List.setIfInBounds_toArray, List.set_cons_zero, List.set_cons_succ])
      refine wpAnyH_take (i := 11) (oi := ol13Drop2_11) (v := ?_) rfl (by kernel_rfl) (by kernel_rfl) (by kernel_rfl) (fun _ _ _ h => h) (Or.inl ⟨by rfl, ?_⟩) (by assumption) ?_
      rotate_left 1
      · intro w' hSw; (try dsimp only at hSw); (try unfold ol13Drop2_11); go_simp; (try with_reducible rfl)
      (try unfold ol13Drop2_11)
      (try simp only [Act.put, List.setIfInBounds_toArray, List.set_cons_zero, List.set_cons_succ])
      refine wpAnyH_take (i := 13) (oi := ol13Drop2_13) (v := ?_) rfl (by kernel_rfl) (by kernel_rfl) (by kernel_rfl) (fun _ _ _ h => h) (Or.inl ⟨by rfl, ?_⟩) (by assumption) ?_
      rotate_left 1
      · intro w' hSw; (try dsimp only at hSw); (try unfold ol13Drop2_13); go_simp; (try with_reducible rfl)
      (try unfold ol13Drop2_13)
      (try simp only [Act.put, List.setIfInBounds_toArray, List.set_cons_zero, List.set_cons_succ])
      refine wpAnyH_take (i := 14) (oi := ol13Drop2_14) (v := ?_) rfl (by kernel_rfl) (by kernel_rfl) (by kernel_rfl) (fun _ _ _ h => h) (Or.inl ⟨by rfl, ?_⟩) (by assumption) ?_
      rotate_left 1
      · intro w' hSw; (try dsimp only at hSw); (try unfold ol13Drop2_14); go_simp; (try with_reducible rfl)
      (try unfold ol13Drop2_14)
      (try simp only [Act.put, List.setIfInBounds_toArray, List.set_cons_zero, List.set_cons_succ])
      refine wpAnyH_ready (rs := [1, 5, 12]) (by kernel_rfl) (by simp) ?_
      refine AllReadyH.cons (o := ol13Drop2_1) rfl (fun KC hKC => ?_) (AllReadyH.cons (o := ol13Drop2_5) rfl (fun KC hKC => ?_) (AllReadyH.cons (o := ol13Drop2_12) rfl (fun KC hKC => ?_) AllReadyH.nil))
      · (try unfold ol13Drop2_1)
        refine step_build0 rfl 29 _ iT rfl Tryz.underlying29 hiT ?_
        intro bE wr1 hB1r
        have C2 : Hid (VBlk wr1 b0 31 _) := vblk_grow C1.out hB1r
        replace C1 := C2
        replace hC := hC.trans (hB1r.mono hC.size)
        refine hKC.out _ _ (trivial) (fun hHeld2 => ?_)
        clear hKC KC hHeld
        have hHeld := hHeld2
        clear hHeld2
        (try simp only [Act.put, List.setIfInBounds_toArray, List.set_cons_zero, List.set_cons_succ])
        refine wpAnyH_ready (rs := [5, 12]) (by kernel_rfl) (by simp) ?_
        refine AllReadyH.cons (o := ol13Drop2_5) rfl (fun KC hKC => ?_) (AllReadyH.cons (o := ol13Drop2_12) rfl (fun KC hKC => ?_) AllReadyH.nil)
        · (try unfold ol13Drop2_5)
          have q0 := (cells2 C1.out).1
          go_simp
          clear q0
          refine hKC.out _ _ (trivial) (fun hHeld2 => ?_)
          clear hKC KC hHeld
          have hHeld := hHeld2
          clear hHeld2
          (try simp only [Act.put, List.setIfInBounds_toArray, List.set_cons_zero, List.set_cons_succ])
          refine wpAnyH_take (i := 7) (oi := { dst := some 20, op := Op.slice 29 (Operand.tmp 18) none (some (Operand.tmp 19)) none, type := 29, pos := "l13_store.go:64", after := #[{ on := 5, ground := Ground.data }, { on := 6, ground := Ground.data }], guard := none }) (v := .slice (some ⟨g, 0, none⟩) k (k + 1)) rfl (by kernel_rfl) (by kernel_rfl) (by kernel_rfl) (fun _ _ _ h => h) (Or.inl ⟨by rfl, ?_⟩) (by assumption) ?_
          · intro w' hSw
            (try dsimp only at hSw)
            go_simp
            all_goals first | rfl | (intro hlt; omega) | (simp; omega) | (simp; done)
          (try simp only [Act.put, List.setIfInBounds_toArray, List.set_cons_zero, List.set_cons_succ])
          refine wpAnyH_ready (rs := [8, 12]) (by kernel_rfl) (by simp) ?_
          refine AllReadyH.cons (o := ol13Drop2_8) rfl (fun KC hKC => ?_) (AllReadyH.cons (o := ol13Drop2_12) rfl (fun KC hKC => ?_) AllReadyH.nil)
          · (try unfold ol13Drop2_8)
            refine step_append_g infoIt rfl _ _ 29 rfl Tryz.underlying29 w.heap.size w.heap.size _ [] rfl (own_zero encIt _ w.heap.size w.heap.size (some ⟨bE, 0, none⟩)) hC.size _ (I.take k) rfl (RT.out.grow hC) (by simp; omega) ?_
            intro v8 wr8 o8 hT8
            rw [List.nil_append] at o8
            have C2 : Hid (VBlk wr8 b0 31 _) := hT8.vblk C1.out (by decide)
            replace C1 := C2
            replace hC := hC.trans hT8.low
            obtain ⟨A8, n8, k8, rfl⟩ := o8.slice
            refine hKC.out _ _ (trivial) (fun hHeld2 => ?_)
            clear hKC KC hHeld
            have hHeld := hHeld2
            clear hHeld2
            (try simp only [Act.put, List.setIfInBounds_toArray, List.set_cons_zero, List.set_cons_succ])
            refine wpAnyH_ready (rs := [12]) (by kernel_rfl) (by simp) ?_
            refine AllReadyH.cons (o := ol13Drop2_12) rfl (fun KC hKC => ?_) AllReadyH.nil
            (try unfold ol13Drop2_12)
            have q0 := (cells2 C1.out).1
            go_simp
            clear q0
            refine hKC.out _ _ (trivial) (fun hHeld2 => ?_)
            clear hKC KC hHeld
            have hHeld := hHeld2
            clear hHeld2
            (try simp only [Act.put, List.setIfInBounds_toArray, List.set_cons_zero, List.set_cons_succ])
            refine wpAnyH_take (i := 15) (oi := { dst := some 28, op := Op.slice 29 (Operand.tmp 25) (some (Operand.tmp 27)) none none, type := 29, pos := "l13_store.go:64", after := #[{ on := 12, ground := Ground.data }, { on := 14, ground := Ground.data }], guard := none }) (v := .slice (some ⟨g, 0, none⟩) 0 0) rfl (by kernel_rfl) (by kernel_rfl) (by kernel_rfl) (fun _ _ _ h => h) (Or.inl ⟨by rfl, ?_⟩) (by assumption) ?_
            · intro w' hSw
              (try dsimp only at hSw)
              go_simp
              all_goals first | rfl | (intro hlt; omega) | (simp; omega) | (simp; done)
            (try simp only [Act.put, List.setIfInBounds_toArray, List.set_cons_zero, List.set_cons_succ])
            exact key _ bE n8 k8 A8 hC C1 o8.top
          (try unfold ol13Drop2_12)
          have q0 := (cells2 C1.out).1
          go_simp
          clear q0
          refine hKC.out _ _ (trivial) (fun hHeld2 => ?_)
          clear hKC KC hHeld
          have hHeld := hHeld2
          clear hHeld2
          (try simp only [Act.put, List.setIfInBounds_toArray, List.set_cons_zero, List.set_cons_succ])
          refine wpAnyH_take (i := 15) (oi := { dst := some 28, op := Op.slice 29 (Operand.tmp 25) (some (Operand.tmp 27)) none none, type := 29, pos := "l13_store.go:64", after := #[{ on := 12, ground := Ground.data }, { on := 14, ground := Ground.data }], guard := none }) (v := .slice (some ⟨g, 0, none⟩) 0 0) rfl (by kernel_rfl) (by kernel_rfl) (by kernel_rfl) (fun _ _ _ h => h) (Or.inl ⟨by rfl, ?_⟩) (by assumption) ?_
          · intro w' hSw
            (try dsimp only at hSw)
            go_simp
            all_goals first | rfl | (intro hlt; omega) | (simp; omega) | (simp; done)
          (try simp only [Act.put, List.setIfInBounds_toArray, List.set_cons_zero, List.set_cons_succ])
          refine wpAnyH_ready (rs := [8]) (by kernel_rfl) (by simp) ?_
          refine AllReadyH.cons (o := ol13Drop2_8) rfl (fun KC hKC => ?_) AllReadyH.nil
          (try unfold ol13Drop2_8)
          refine step_append_g infoIt rfl _ _ 29 rfl Tryz.underlying29 w.heap.size w.heap.size _ [] rfl (own_zero encIt _ w.heap.size w.heap.size (some ⟨bE, 0, none⟩)) hC.size _ (I.take k) rfl (RT.out.grow hC) (by simp; omega) ?_
          intro v8 wr8 o8 hT8
          rw [List.nil_append] at o8
          have C2 : Hid (VBlk wr8 b0 31 _) := hT8.vblk C1.out (by decide)
          replace C1 := C2
          replace hC := hC.trans hT8.low
          obtain ⟨A8, n8, k8, rfl⟩ := o8.slice
          refine hKC.out _ _ (trivial) (fun hHeld2 => ?_)
          clear hKC KC hHeld
          have hHeld := hHeld2
          clear hHeld2
          (try simp only [Act.put, List.setIfInBounds_toArray, List.set_cons_zero, List.set_cons_succ])
          exact key _ bE n8 k8 A8 hC C1 o8.top
        (try unfold ol13Drop2_12)
        have q0 := (cells2 C1.out).1
        go_simp
        clear q0
        refine hKC.out _ _ (trivial) (fun hHeld2 => ?_)
        clear hKC KC hHeld
        have hHeld := hHeld2
        clear hHeld2
        (try simp only [Act.put, List.setIfInBounds_toArray, List.set_cons_zero, List.set_cons_succ])
        refine wpAnyH_take (i := 15) (oi := { dst := some 28, op := Op.slice 29 (Operand.tmp 25) (some (Operand.tmp 27)) none none, type := 29, pos := "l13_store.go:64", after := #[{ on := 12, ground := Ground.data }, { on := 14, ground := Ground.data }], guard := none }) (v := .slice (some ⟨g, 0, none⟩) 0 0) rfl (by kernel_rfl) (by kernel_rfl) (by kernel_rfl) (fun _ _ _ h => h) (Or.inl ⟨by rfl, ?_⟩) (by assumption) ?_
        · intro w' hSw
          (try dsimp only at hSw)
          go_simp
          all_goals first | rfl | (intro hlt; omega) | (simp; omega) | (simp; done)
        (try simp only [Act.put, List.setIfInBounds_toArray, List.set_cons_zero, List.set_cons_succ])
        refine wpAnyH_ready (rs := [5]) (by kernel_rfl) (by simp) ?_
        refine AllReadyH.cons (o := ol13Drop2_5) rfl (fun KC hKC => ?_) AllReadyH.nil
        (try unfold ol13Drop2_5)
        have q0 := (cells2 C1.out).1
        go_simp
        clear q0
        refine hKC.out _ _ (trivial) (fun hHeld2 => ?_)
        clear hKC KC hHeld
        have hHeld := hHeld2
        clear hHeld2
        (try simp only [Act.put, List.setIfInBounds_toArray, List.set_cons_zero, List.set_cons_succ])
        refine wpAnyH_take (i := 7) (oi := { dst := some 20, op := Op.slice 29 (Operand.tmp 18) none (some (Operand.tmp 19)) none, type := 29, pos := "l13_store.go:64", after := #[{ on := 5, ground := Ground.data }, { on := 6, ground := Ground.data }], guard := none }) (v := .slice (some ⟨g, 0, none⟩) k (k + 1)) rfl (by kernel_rfl) (by kernel_rfl) (by kernel_rfl) (fun _ _ _ h => h) (Or.inl ⟨by rfl, ?_⟩) (by assumption) ?_
        · intro w' hSw
          (try dsimp only at hSw)
          go_simp
          all_goals first | rfl | (intro hlt; omega) | (simp; omega) | (simp; done)
        (try simp only [Act.put, List.setIfInBounds_toArray, List.set_cons_zero, List.set_cons_succ])
        refine wpAnyH_ready (rs := [8]) (by kernel_rfl) (by simp) ?_
        refine AllReadyH.cons (o := ol13Drop2_8) rfl (fun KC hKC => ?_) AllReadyH.nil
        (try unfold ol13Drop2_8)
        refine step_append_g infoIt rfl _ _ 29 rfl Tryz.underlying29 w.heap.size w.heap.size _ [] rfl (own_zero encIt _ w.heap.size w.heap.size (some ⟨bE, 0, none⟩)) hC.size _ (I.take k) rfl (RT.out.grow hC) (by simp; omega) ?_
        intro v8 wr8 o8 hT8
        rw [List.nil_append] at o8
        have C2 : Hid (VBlk wr8 b0 31 _) := hT8.vblk C1.out (by decide)
        replace C1 := C2
        replace hC := hC.trans hT8.low
        obtain ⟨A8, n8, k8, rfl⟩ := o8.slice
        refine hKC.out _ _ (trivial) (fun hHeld2 => ?_)
        clear hKC KC hHeld
        have hHeld := hHeld2
        clear hHeld2
        (try simp only [Act.put, List.setIfInBounds_toArray, List.set_cons_zero, List.set_cons_succ])
        exact key _ bE n8 k8 A8 hC C1 o8.top
      · (try unfold ol13Drop2_5)
        have q0 := (cells2 C1.out).1
        go_simp
        clear q0
        refine hKC.out _ _ (trivial) (fun hHeld2 => ?_)
        clear hKC KC hHeld
        have hHeld := hHeld2
        clear hHeld2
        (try simp only [Act.put, List.setIfInBounds_toArray, List.set_cons_zero, List.set_cons_succ])
        refine wpAnyH_take (i := 7) (oi := { dst := some 20, op := Op.slice 29 (Operand.tmp 18) none (some (Operand.tmp 19)) none, type := 29, pos := "l13_store.go:64", after := #[{ on := 5, ground := Ground.data }, { on := 6, ground := Ground.data }], guard := none }) (v := .slice (some ⟨g, 0, none⟩) k (k + 1)) rfl (by kernel_rfl) (by kernel_rfl) (by kernel_rfl) (fun _ _ _ h => h) (Or.inl ⟨by rfl, ?_⟩) (by assumption) ?_
        · intro w' hSw
          (try dsimp only at hSw)
          go_simp
          all_goals first | rfl | (intro hlt; omega) | (simp; omega) | (simp; done)
        (try simp only [Act.put, List.setIfInBounds_toArray, List.set_cons_zero, List.set_cons_succ])
        refine wpAnyH_ready (rs := [1, 12]) (by kernel_rfl) (by simp) ?_
        refine AllReadyH.cons (o := ol13Drop2_1) rfl (fun KC hKC => ?_) (AllReadyH.cons (o := ol13Drop2_12) rfl (fun KC hKC => ?_) AllReadyH.nil)
        · (try unfold ol13Drop2_1)
          refine step_build0 rfl 29 _ iT rfl Tryz.underlying29 hiT ?_
          intro bE wr1 hB1r
          have C2 : Hid (VBlk wr1 b0 31 _) := vblk_grow C1.out hB1r
          replace C1 := C2
          replace hC := hC.trans (hB1r.mono hC.size)
          refine hKC.out _ _ (trivial) (fun hHeld2 => ?_)
          clear hKC KC hHeld
          have hHeld := hHeld2
          clear hHeld2
          (try simp only [Act.put, List.setIfInBounds_toArray, List.set_cons_zero, List.set_cons_succ])
          refine wpAnyH_ready (rs := [8, 12]) (by kernel_rfl) (by simp) ?_
          refine AllReadyH.cons (o := ol13Drop2_8) rfl (fun KC hKC => ?_) (AllReadyH.cons (o := ol13Drop2_12) rfl (fun KC hKC => ?_) AllReadyH.nil)
          · (try unfold ol13Drop2_8)
            refine step_append_g infoIt rfl _ _ 29 rfl Tryz.underlying29 w.heap.size w.heap.size _ [] rfl (own_zero encIt _ w.heap.size w.heap.size (some ⟨bE, 0, none⟩)) hC.size _ (I.take k) rfl (RT.out.grow hC) (by simp; omega) ?_
            intro v8 wr8 o8 hT8
            rw [List.nil_append] at o8
            have C2 : Hid (VBlk wr8 b0 31 _) := hT8.vblk C1.out (by decide)
            replace C1 := C2
            replace hC := hC.trans hT8.low
            obtain ⟨A8, n8, k8, rfl⟩ := o8.slice
            refine hKC.out _ _ (trivial) (fun hHeld2 => ?_)
            clear hKC KC hHeld
            have hHeld := hHeld2
            clear hHeld2
            (try simp only [Act.put, List.setIfInBounds_toArray, List.set_cons_zero, List.set_cons_succ])
            refine wpAnyH_ready (rs := [12]) (by kernel_rfl) (by simp) ?_
            refine AllReadyH.cons (o := ol13Drop2_12) rfl (fun KC hKC => ?_) AllReadyH.nil
            (try unfold ol13Drop2_12)
            have q0 := (cells2 C1.out).1
            go_simp
            clear q0
            refine hKC.out _ _ (trivial) (fun hHeld2 => ?_)
            clear hKC KC hHeld
            have hHeld := hHeld2
            clear hHeld2
            (try simp only [Act.put, List.setIfInBounds_toArray, List.set_cons_zero, List.set_cons_succ])
            refine wpAnyH_take (i := 15) (oi := { dst := some 28, op := Op.slice 29 (Operand.tmp 25) (some (Operand.tmp 27)) none none, type := 29, pos := "l13_store.go:64", after := #[{ on := 12, ground := Ground.data }, { on := 14, ground := Ground.data }], guard := none }) (v := .slice (some ⟨g, 0, none⟩) 0 0) rfl (by kernel_rfl) (by kernel_rfl) (by kernel_rfl) (fun _ _ _ h => h) (Or.inl ⟨by rfl, ?_⟩) (by assumption) ?_
            · intro w' hSw
              (try dsimp only at hSw)
              go_simp
              all_goals first | rfl | (intro hlt; omega) | (simp; omega) | (simp; done)
            (try simp only [Act.put, List.setIfInBounds_toArray, List.set_cons_zero, List.set_cons_succ])
            exact key _ bE n8 k8 A8 hC C1 o8.top
          (try unfold ol13Drop2_12)
          have q0 := (cells2 C1.out).1
          go_simp
          clear q0
          refine hKC.out _ _ (trivial) (fun hHeld2 => ?_)
          clear hKC KC hHeld
          have hHeld := hHeld2
          clear hHeld2
          (try simp only [Act.put, List.setIfInBounds_toArray, List.set_cons_zero, List.set_cons_succ])
          refine wpAnyH_take (i := 15) (oi := { dst := some 28, op := Op.slice 29 (Operand.tmp 25) (some (Operand.tmp 27)) none none, type := 29, pos := "l13_store.go:64", after := #[{ on := 12, ground := Ground.data }, { on := 14, ground := Ground.data }], guard := none }) (v := .slice (some ⟨g, 0, none⟩) 0 0) rfl (by kernel_rfl) (by kernel_rfl) (by kernel_rfl) (fun _ _ _ h => h) (Or.inl ⟨by rfl, ?_⟩) (by assumption) ?_
          · intro w' hSw
            (try dsimp only at hSw)
            go_simp
            all_goals first | rfl | (intro hlt; omega) | (simp; omega) | (simp; done)
          (try simp only [Act.put, List.setIfInBounds_toArray, List.set_cons_zero, List.set_cons_succ])
          refine wpAnyH_ready (rs := [8]) (by kernel_rfl) (by simp) ?_
          refine AllReadyH.cons (o := ol13Drop2_8) rfl (fun KC hKC => ?_) AllReadyH.nil
          (try unfold ol13Drop2_8)
          refine step_append_g infoIt rfl _ _ 29 rfl Tryz.underlying29 w.heap.size w.heap.size _ [] rfl (own_zero encIt _ w.heap.size w.heap.size (some ⟨bE, 0, none⟩)) hC.size _ (I.take k) rfl (RT.out.grow hC) (by simp; omega) ?_
          intro v8 wr8 o8 hT8
          rw [List.nil_append] at o8
          have C2 : Hid (VBlk wr8 b0 31 _) := hT8.vblk C1.out (by decide)
          replace C1 := C2
          replace hC := hC.trans hT8.low
          obtain ⟨A8, n8, k8, rfl⟩ := o8.slice
          refine hKC.out _ _ (trivial) (fun hHeld2 => ?_)
          clear hKC KC hHeld
          have hHeld := hHeld2
          clear hHeld2
          (try simp only [Act.put, List.setIfInBounds_toArray, List.set_cons_zero, List.set_cons_succ])
          exact key _ bE n8 k8 A8 hC C1 o8.top
        (try unfold ol13Drop2_12)
        have q0 := (cells2 C1.out).1
        go_simp
        clear q0
        refine hKC.out _ _ (trivial) (fun hHeld2 => ?_)
        clear hKC KC hHeld
        have hHeld := hHeld2
        clear hHeld2
        (try simp only [Act.put, List.setIfInBounds_toArray, List.set_cons_zero, List.set_cons_succ])
        refine wpAnyH_take (i := 15) (oi := { dst := some 28, op := Op.slice 29 (Operand.tmp 25) (some (Operand.tmp 27)) none none, type := 29, pos := "l13_store.go:64", after := #[{ on := 12, ground := Ground.data }, { on := 14, ground := Ground.data }], guard := none }) (v := .slice (some ⟨g, 0, none⟩) 0 0) rfl (by kernel_rfl) (by kernel_rfl) (by kernel_rfl) (fun _ _ _ h => h) (Or.inl ⟨by rfl, ?_⟩) (by assumption) ?_
        · intro w' hSw
          (try dsimp only at hSw)
          go_simp
          all_goals first | rfl | (intro hlt; omega) | (simp; omega) | (simp; done)
        (try simp only [Act.put, List.setIfInBounds_toArray, List.set_cons_zero, List.set_cons_succ])
        refine wpAnyH_ready (rs := [1]) (by kernel_rfl) (by simp) ?_
        refine AllReadyH.cons (o := ol13Drop2_1) rfl (fun KC hKC => ?_) AllReadyH.nil
        (try unfold ol13Drop2_1)
        refine step_build0 rfl 29 _ iT rfl Tryz.underlying29 hiT ?_
        intro bE wr1 hB1r
        have C2 : Hid (VBlk wr1 b0 31 _) := vblk_grow C1.out hB1r
        replace C1 := C2
        replace hC := hC.trans (hB1r.mono hC.size)
        refine hKC.out _ _ (trivial) (fun hHeld2 => ?_)
        clear hKC KC hHeld
        have hHeld := hHeld2
        clear hHeld2
        (try simp only [Act.put, List.setIfInBounds_toArray, List.set_cons_zero, List.set_cons_succ])
        refine wpAnyH_ready (rs := [8]) (by kernel_rfl) (by simp) ?_
        refine AllReadyH.cons (o := ol13Drop2_8) rfl (fun KC hKC => ?_) AllReadyH.nil
        (try unfold ol13Drop2_8)
        refine step_append_g infoIt rfl _ _ 29 rfl Tryz.underlying29 w.heap.size w.heap.size _ [] rfl (own_zero encIt _ w.heap.size w.heap.size (some ⟨bE, 0, none⟩)) hC.size _ (I.take k) rfl (RT.out.grow hC) (by simp; omega) ?_
        intro v8 wr8 o8 hT8
        rw [List.nil_append] at o8
        have C2 : Hid (VBlk wr8 b0 31 _) := hT8.vblk C1.out (by decide)
        replace C1 := C2
        replace hC := hC.trans hT8.low
        obtain ⟨A8, n8, k8, rfl⟩ := o8.slice
        refine hKC.out _ _ (trivial) (fun hHeld2 => ?_)
        clear hKC KC hHeld
        have hHeld := hHeld2
        clear hHeld2
        (try simp only [Act.put, List.setIfInBounds_toArray, List.set_cons_zero, List.set_cons_succ])
        exact key _ bE n8 k8 A8 hC C1 o8.top
      (try unfold ol13Drop2_12)
      have q0 := (cells2 C1.out).1
      go_simp
      clear q0
      refine hKC.out _ _ (trivial) (fun hHeld2 => ?_)
      clear hKC KC hHeld
      have hHeld := hHeld2
      clear hHeld2
      (try simp only [Act.put, List.setIfInBounds_toArray, List.set_cons_zero, List.set_cons_succ])
      refine wpAnyH_take (i := 15) (oi := { dst := some 28, op := Op.slice 29 (Operand.tmp 25) (some (Operand.tmp 27)) none none, type := 29, pos := "l13_store.go:64", after := #[{ on := 12, ground := Ground.data }, { on := 14, ground := Ground.data }], guard := none }) (v := .slice (some ⟨g, 0, none⟩) 0 0) rfl (by kernel_rfl) (by kernel_rfl) (by kernel_rfl) (fun _ _ _ h => h) (Or.inl ⟨by rfl, ?_⟩) (by assumption) ?_
      · intro w' hSw
        (try dsimp only at hSw)
        go_simp
        all_goals first | rfl | (intro hlt; omega) | (simp; omega) | (simp; done)
      (try simp only [Act.put, List.setIfInBounds_toArray, List.set_cons_zero, List.set_cons_succ])
      refine wpAnyH_ready (rs := [1, 5]) (by kernel_rfl) (by simp) ?_
      refine AllReadyH.cons (o := ol13Drop2_1) rfl (fun KC hKC => ?_) (AllReadyH.cons (o := ol13Drop2_5) rfl (fun KC hKC => ?_) AllReadyH.nil)
      · (try unfold ol13Drop2_1)
        refine step_build0 rfl 29 _ iT rfl Tryz.underlying29 hiT ?_
        intro bE wr1 hB1r
        have C2 : Hid (VBlk wr1 b0 31 _) := vblk_grow C1.out hB1r
        replace C1 := C2
        replace hC := hC.trans (hB1r.mono hC.size)
        refine hKC.out _ _ (trivial) (fun hHeld2 => ?_)
        clear hKC KC hHeld
        have hHeld := hHeld2
        clear hHeld2
        (try simp only [Act.put, List.setIfInBounds_toArray, List.set_cons_zero, List.set_cons_succ])
        refine wpAnyH_ready (rs := [5]) (by kernel_rfl) (by simp) ?_
        refine AllReadyH.cons (o := ol13Drop2_5) rfl (fun KC hKC => ?_) AllReadyH.nil
        (try unfold ol13Drop2_5)
        have q0 := (cells2 C1.out).1
        go_simp
        clear q0
        refine hKC.out _ _ (trivial) (fun hHeld2 => ?_)
        clear hKC KC hHeld
        have hHeld := hHeld2
        clear hHeld2
        (try simp only [Act.put, List.setIfInBounds_toArray, List.set_cons_zero, List.set_cons_succ])
        refine wpAnyH_take (i := 7) (oi := { dst := some 20, op := Op.slice 29 (Operand.tmp 18) none (some (Operand.tmp 19)) none, type := 29, pos := "l13_store.go:64", after := #[{ on := 5, ground := Ground.data }, { on := 6, ground := Ground.data }], guard := none }) (v := .slice (some ⟨g, 0, none⟩) k (k + 1)) rfl (by kernel_rfl) (by kernel_rfl) (by kernel_rfl) (fun _ _ _ h => h) (Or.inl ⟨by rfl, ?_⟩) (by assumption) ?_
        · intro w' hSw
          (try dsimp only at hSw)
          go_simp
          all_goals first | rfl | (intro hlt; omega) | (simp; omega) | (simp; done)
        (try simp only [Act.put, List.setIfInBounds_toArray, List.set_cons_zero, List.set_cons_succ])
        refine wpAnyH_ready (rs := [8]) (by kernel_rfl) (by simp) ?_
        refine AllReadyH.cons (o := ol13Drop2_8) rfl (fun KC hKC => ?_) AllReadyH.nil
        (try unfold ol13Drop2_8)
        refine step_append_g infoIt rfl _ _ 29 rfl Tryz.underlying29 w.heap.size w.heap.size _ [] rfl (own_zero encIt _ w.heap.size w.heap.size (some ⟨bE, 0, none⟩)) hC.size _ (I.take k) rfl (RT.out.grow hC) (by simp; omega) ?_
        intro v8 wr8 o8 hT8
        rw [List.nil_append] at o8
        have C2 : Hid (VBlk wr8 b0 31 _) := hT8.vblk C1.out (by decide)
        replace C1 := C2
        replace hC := hC.trans hT8.low
        obtain ⟨A8, n8, k8, rfl⟩ := o8.slice
        refine hKC.out _ _ (trivial) (fun hHeld2 => ?_)
        clear hKC KC hHeld
        have hHeld := hHeld2
        clear hHeld2
        (try simp only [Act.put, List.setIfInBounds_toArray, List.set_cons_zero, List.set_cons_succ])
        exact key _ bE n8 k8 A8 hC C1 o8.top
      (try unfold ol13Drop2_5)
      have q0 := (cells2 C1.out).1
      go_simp
      clear q0
      refine hKC.out _ _ (trivial) (fun hHeld2 => ?_)
      clear hKC KC hHeld
      have hHeld := hHeld2
      clear hHeld2
      (try simp only [Act.put, List.setIfInBounds_toArray, List.set_cons_zero, List.set_cons_succ])
      refine wpAnyH_take (i := 7) (oi := { dst := some 20, op := Op.slice 29 (Operand.tmp 18) none (some (Operand.tmp 19)) none, type := 29, pos := "l13_store.go:64", after := #[{ on := 5, ground := Ground.data }, { on := 6, ground := Ground.data }], guard := none }) (v := .slice (some ⟨g, 0, none⟩) k (k + 1)) rfl (by kernel_rfl) (by kernel_rfl) (by kernel_rfl) (fun _ _ _ h => h) (Or.inl ⟨by rfl, ?_⟩) (by assumption) ?_
      · intro w' hSw
        (try dsimp only at hSw)
        go_simp
        all_goals first | rfl | (intro hlt; omega) | (simp; omega) | (simp; done)
      (try simp only [Act.put, List.setIfInBounds_toArray, List.set_cons_zero, List.set_cons_succ])
      refine wpAnyH_ready (rs := [1]) (by kernel_rfl) (by simp) ?_
      refine AllReadyH.cons (o := ol13Drop2_1) rfl (fun KC hKC => ?_) AllReadyH.nil
      (try unfold ol13Drop2_1)
      refine step_build0 rfl 29 _ iT rfl Tryz.underlying29 hiT ?_
      intro bE wr1 hB1r
      have C2 : Hid (VBlk wr1 b0 31 _) := vblk_grow C1.out hB1r
      replace C1 := C2
      replace hC := hC.trans (hB1r.mono hC.size)
      refine hKC.out _ _ (trivial) (fun hHeld2 => ?_)
      clear hKC KC hHeld
      have hHeld := hHeld2
      clear hHeld2
      (try simp only [Act.put, List.setIfInBounds_toArray, List.set_cons_zero, List.set_cons_succ])
      refine wpAnyH_ready (rs := [8]) (by kernel_rfl) (by simp) ?_
      refine AllReadyH.cons (o := ol13Drop2_8) rfl (fun KC hKC => ?_) AllReadyH.nil
      (try unfold ol13Drop2_8)
      refine step_append_g infoIt rfl _ _ 29 rfl Tryz.underlying29 w.heap.size w.heap.size _ [] rfl (own_zero encIt _ w.heap.size w.heap.size (some ⟨bE, 0, none⟩)) hC.size _ (I.take k) rfl (RT.out.grow hC) (by simp; omega) ?_
      intro v8 wr8 o8 hT8
      rw [List.nil_append] at o8
      have C2 : Hid (VBlk wr8 b0 31 _) := hT8.vblk C1.out (by decide)
      replace C1 := C2
      replace hC := hC.trans hT8.low
      obtain ⟨A8, n8, k8, rfl⟩ := o8.slice
      refine hKC.out _ _ (trivial) (fun hHeld2 => ?_)
      clear hKC KC hHeld
      have hHeld := hHeld2
      clear hHeld2
      (try simp only [Act.put, List.setIfInBounds_toArray, List.set_cons_zero, List.set_cons_succ])
      exact key _ bE n8 k8 A8 hC C1 o8.top
    case key =>
      intro wk bE n8 k8 A8 hC C1 o8
      have hHeld : True := trivial
      refine wpAnyH_ready (rs := [16]) (by kernel_rfl) (by simp) ?_
      refine AllReadyH.cons (o := ol13Drop2_16) rfl (fun KC hKC => ?_) AllReadyH.nil
      (try unfold ol13Drop2_16)
      refine step_append_g infoIt rfl _ _ 29 rfl Tryz.underlying29 w.heap.size _ _ (I.take k) rfl o8 hC.size _ (I.drop (k + 1)) rfl (RD.out.grow hC) (by omega) ?_
      intro v9 wr9 o9 hT9
      rw [← hdrop.out] at o9
      have C2 : Hid (VBlk wr9 b0 31 _) := hT9.vblk C1.out (by decide)
      replace C1 := C2
      replace hC := hC.trans hT9.low
      obtain ⟨A9, n9, k9, rfl⟩ := o9.slice
      refine hKC.out _ _ (trivial) (fun hHeld2 => ?_)
      clear hKC KC hHeld
      have hHeld := hHeld2
      clear hHeld2
      (try simp only [Act.put, List.setIfInBounds_toArray, List.set_cons_zero, List.set_cons_succ])
      refine wpAnyH_take (i := 17) (oi := ol13Drop2_17) (v := ?_) rfl (by kernel_rfl) (by kernel_rfl) (by kernel_rfl) (fun _ _ _ h => h) (Or.inl ⟨by rfl, ?_⟩) (by assumption) ?_
      rotate_left 1
      · intro w' hSw; (try dsimp only at hSw); (try unfold ol13Drop2_17); go_simp; (try with_reducible rfl)
      (try unfold ol13Drop2_17)
      (try simp only [Act.put, List.setIfInBounds_toArray, List.set_cons_zero, List.set_cons_succ])
      refine wpAnyH_take (i := 18) (oi := ol13Drop2_18) (v := ?_) rfl (by kernel_rfl) (by kernel_rfl) (by kernel_rfl) (fun _ _ _ h => h) (Or.inl ⟨by rfl, ?_⟩) (by assumption) ?_
      rotate_left 1
      · intro w' hSw; (try dsimp only at hSw); (try unfold ol13Drop2_18); go_simp; (try with_reducible rfl)
      (try unfold ol13Drop2_18)
      (try simp only [Act.put, List.setIfInBounds_toArray, List.set_cons_zero, List.set_cons_succ])
      refine wpAnyH_ready (rs := [19]) (by kernel_rfl) (by simp) ?_
      refine AllReadyH.cons (o := ol13Drop2_19) rfl (fun KC hKC => ?_) AllReadyH.nil
      (try unfold ol13Drop2_19)
      refine step_store_cell rfl 29 _ _ rfl b0 0 (.slice A9 n9 k9) rfl rfl rfl szL1 C1.out (by simp) ?_
      intro wr10 hO10 C2
      have C3 : Hid (VBlk wr10 b0 31 [.slice A9 n9 k9, .int .i64 X]) := C2
      clear C2
      refine hKC.out _ _ (trivial) (fun hHeld2 => ?_)
      clear hKC KC hHeld
      have hHeld := hHeld2
      clear hHeld2
      (try simp only [Act.put])
      refine wpAnyH_done (by kernel_rfl) ?_ _
      go_wp2
      exact bodyPost_end (v := .tuple #[]) (by simp [results, Tryz.f66, go_sem]) rfl ⟨rfl, A9, n9, k9, C3.out, ((o9.only hO10 C1.out (by decide)).wide (by omega) (Nat.le_of_eq hO10.1.symm)), (Onb.below hC).trans (Onb.only hO10)⟩
  · skip
    have RT : Hid (Rd encIt w (.slice (some ⟨g, 0, none⟩) k k0) (I.take k)) := R.out.take k (by omega)
    have RD0 := rdIt_rest R.out (k + 1) (by omega)
    rw [if_neg hcc, Nat.zero_add] at RD0
    have RD : Hid (Rd encIt w (.slice (some ⟨g, (k + 1) * 5, none⟩) (I.length - (k + 1)) (k0 - (k + 1))) (I.drop (k + 1))) := RD0
    clear RD0
    have hC : Below w.heap.size w w.drew := (Below.refl _ _).drew
    have C1 : Hid (VBlk w.drew b0 31 [.slice (some ⟨g, 0, none⟩) I.length k0, .int .i64 X]) := vblk_grow C0.out hC
    have hzd : w.heap.size ≤ w.drew.heap.size := Nat.le_refl _
    have htl : (I.take k).length ≤ 1000000 := by rw [List.length_take]; omega
    have hdl : (I.drop (k + 1)).length ≤ 1000000 := by rw [List.length_drop]; omega
    (try simp only [Act.put])
    (try simp only [List.setIfInBounds_toArray, List.set_cons_zero, List.set_cons_succ])
    apply with_key (T := ∀ (wk : World) (bE n8 k8 : Nat) (A8 : Option Addr), Below w.heap.size w wk → Hid (VBlk wk b0 31 [.slice (some ⟨g, 0, none⟩) I.length k0, .int .i64 X]) → Own encIt wk w.heap.size wk.heap.size (.slice A8 n8 k8) (I.take k) → (_ : Prop))
    case main =>
      intro key
      refine wp_region_held_drew (S := fun w' => True) (by kernel_rfl) (trivial) (fun hHeld => ?_)
      refine wpAnyH_take (i := 0) (oi := ol13Drop2_0) (v := ?_) rfl (by kernel_rfl) (by kernel_rfl) (by kernel_rfl) (fun _ _ _ h => h) (Or.inl ⟨by rfl, ?_⟩) (by assumption) ?_
      rotate_left 1
      · intro w' hSw; (try dsimp only at hSw); (try unfold ol13Drop2_0); go_simp; (try with_reducible rfl)
      (try unfold ol13Drop2_0)
      (try simp only [Act.put, List.setIfInBounds_toArray, List.set_cons_zero, List.set_cons_succ])
      refine wpAnyH_take (i := 2) (oi := ol13Drop2_2) (v := ?_) rfl (by kernel_rfl) (by kernel_rfl) (by kernel_rfl) (fun _ _ _ h => h) (Or.inl ⟨by rfl, ?_⟩) (by assumption) ?_
      rotate_left 1
      · intro w' hSw; (try dsimp only at hSw); (try unfold ol13Drop2_2); go_simp; (try with_reducible rfl)
      (try unfold ol13Drop2_2)
      (try simp only [Act.put, List.setIfInBounds_toArray, List.set_cons_zero, List.set_cons_succ])
      refine wpAnyH_take (i := 3) (oi := ol13Drop2_3) (v := ?_) rfl (by kernel_rfl) (by kernel_rfl) (by kernel_rfl) (fun _ _ _ h => h) (Or.inl ⟨by rfl, ?_⟩) (by assumption) ?_
      rotate_left 1
      · intro w' hSw; (try dsimp only at hSw); (try unfold ol13Drop2_3); go_simp; (try with_reducible rfl)
      (try unfold ol13Drop2_3)
      (try simp only [Act.put, List.setIfInBounds_toArray, List.set_cons_zero, List.set_cons_succ])
      refine wpAnyH_take (i := 4) (oi := ol13Drop2_4) (v := ?_) rfl (by kernel_rfl) (by kernel_rfl) (by kernel_rfl) (fun _ _ _ h => h) (Or.inl ⟨by rfl, ?_⟩) (by assumption) ?_
      rotate_left 1
      · intro w' hSw; (try dsimp only at hSw); (try unfold ol13Drop2_4); go_simp; (try with_reducible rfl)
      (try unfold ol13Drop2_4)
      (try simp only [Act.put, List.setIfInBounds_toArray, List.set_cons_zero, List.set_cons_succ])
      refine wpAnyH_take (i := 6) (oi := ol13Drop2_6) (v := ?_) rfl (by kernel_rfl) (by kernel_rfl) (by kernel_rfl) (fun _ _ _ h => h) (Or.inl ⟨by rfl, ?_⟩) (by assumption) ?_
      rotate_left 1
      · intro w' hSw; (try dsimp only at hSw); (try unfold ol13Drop2_6); go_simp; (try with_reducible rfl)
      (try unfold ol13Drop2_6)
      (try simp only [Act.put, List.setIfInBounds_toArray, List.set_cons_zero, List.set_cons_succ])
      refine wpAnyH_take (i := 9) (oi := ol13Drop2_9) (v := ?_) rfl (by kernel_rfl) (by kernel_rfl) (by kernel_rfl) (fun _ _ _ h => h) (Or.inl ⟨by rfl, ?_⟩) (by assumption) ?_
      rotate_left 1
      · intro w' hSw; (try dsimp only at hSw); (try unfold ol13Drop2_9); go_simp; (try with_reducible rfl)
      (try unfold ol13Drop2_9)
      (try simp only [Act.put, List.setIfInBounds_toArray, List.set_cons_zero, List.set_cons_succ])
      refine wpAnyH_take (i := 10) (oi := ol13Drop2_10) (v := ?_) rfl (by kernel_rfl) (by kernel_rfl) (by kernel_rfl) (fun _ _ _ h => h) (Or.inl ⟨by rfl, ?_⟩) (by assumption) ?_
      rotate_left 1
      · intro w' hSw; (try dsimp only at hSw); (try unfold ol13Drop2_10); go_simp; (try with_reducible rfl)
      (try unfold ol13Drop2_10)
      (try simp only [Act.put, List.setIfInBounds_toArray, List.set_cons_zero, List.set_cons_succ])
      refine wpAnyH_take (i := 11) (oi := ol13Drop2_11) (v := ?_) rfl (by kernel_rfl) (by kernel_rfl) (by kernel_rfl) (fun _ _ _ h => h) (Or.inl ⟨by rfl, ?_⟩) (by assumption) ?_
      rotate_left 1
      · intro w' hSw; (try dsimp only at hSw); (try unfold ol13Drop2_11); go_simp; (try with_reducible rfl)
      (try unfold ol13Drop2_11)
      (try simp only [Act.put, List.setIfInBounds_toArray, List.set_cons_zero, List.set_cons_succ])
      refine wpAnyH_take (i := 13) (oi := ol13Drop2_13) (v := ?_) rfl (by kernel_rfl) (by kernel_rfl) (by kernel_rfl) (fun _ _ _ h => h) (Or.inl ⟨by rfl, ?_⟩) (by assumption) ?_
      rotate_left 1
      · intro w' hSw; (try dsimp only at hSw); (try unfold ol13Drop2_13); go_simp; (try with_reducible rfl)
      (try unfold ol13Drop2_13)
      (try simp only [Act.put, List.setIfInBounds_toArray, List.set_cons_zero, List.set_cons_succ])
      refine wpAnyH_take (i := 14) (oi := ol13Drop2_14) (v := ?_) rfl (by kernel_rfl) (by kernel_rfl) (by kernel_rfl) (fun _ _ _ h => h) (Or.inl ⟨by rfl, ?_⟩) (by assumption) ?_
      rotate_left 1
      · intro w' hSw; (try dsimp only at hSw); (try unfold ol13Drop2_14); go_simp; (try with_reducible rfl)
      (try unfold ol13Drop2_14)
      (try simp only [Act.put, List.setIfInBounds_toArray, List.set_cons_zero, List.set_cons_succ])
      refine wpAnyH_ready (rs := [1, 5, 12]) (by kernel_rfl) (by simp) ?_
      refine AllReadyH.cons (o := ol13Drop2_1) rfl (fun KC hKC => ?_) (AllReadyH.cons (o := ol13Drop2_5) rfl (fun KC hKC => ?_) (AllReadyH.cons (o := ol13Drop2_12) rfl (fun KC hKC => ?_) AllReadyH.nil))
      · (try unfold ol13Drop2_1)
        refine step_build0 rfl 29 _ iT rfl Tryz.underlying29 hiT ?_
        intro bE wr1 hB1r
        have C2 : Hid (VBlk wr1 b0 31 _) := vblk_grow C1.out hB1r
        replace C1 := C2
        replace hC := hC.trans (hB1r.mono hC.size)
        refine hKC.out _ _ (trivial) (fun hHeld2 => ?_)
        clear hKC KC hHeld
        have hHeld := hHeld2
        clear hHeld2
        (try simp only [Act.put, List.setIfInBounds_toArray, List.set_cons_zero, List.set_cons_succ])
        refine wpAnyH_ready (rs := [5, 12]) (by kernel_rfl) (by simp) ?_
        refine AllReadyH.cons (o := ol13Drop2_5) rfl (fun KC hKC => ?_) (AllReadyH.cons (o := ol13Drop2_12) rfl (fun KC hKC => ?_) AllReadyH.nil)
        · (try unfold ol13Drop2_5)
          have q0 := (cells2 C1.out).1
          go_simp
          clear q0
          refine hKC.out _ _ (trivial) (fun hHeld2 => ?_)
          clear hKC KC hHeld
          have hHeld := hHeld2
          clear hHeld2
          (try simp only [Act.put, List.setIfInBounds_toArray, List.set_cons_zero, List.set_cons_succ])
          refine wpAnyH_take (i := 7) (oi := { dst := some 20, op := Op.slice 29 (Operand.tmp 18) none (some (Operand.tmp 19)) none, type := 29, pos := "l13_store.go:64", after := #[{ on := 5, ground := Ground.data }, { on := 6, ground := Ground.data }], guard := none }) (v := .slice (some ⟨g, 0, none⟩) k k0) rfl (by kernel_rfl) (by kernel_rfl) (by kernel_rfl) (fun _ _ _ h => h) (Or.inl ⟨by rfl, ?_⟩) (by assumption) ?_
          · intro w' hSw
            (try dsimp only at hSw)
            go_simp
            all_goals first | rfl | (intro hlt; omega) | (simp; omega) | (simp [hcc]; done)
          (try simp only [Act.put, List.setIfInBounds_toArray, List.set_cons_zero, List.set_cons_succ])
          refine wpAnyH_ready (rs := [8, 12]) (by kernel_rfl) (by simp) ?_
          refine AllReadyH.cons (o := ol13Drop2_8) rfl (fun KC hKC => ?_) (AllReadyH.cons (o := ol13Drop2_12) rfl (fun KC hKC => ?_) AllReadyH.nil)
          · (try unfold ol13Drop2_8)
            refine step_append_g infoIt rfl _ _ 29 rfl Tryz.underlying29 w.heap.size w.heap.size _ [] rfl (own_zero encIt _ w.heap.size w.heap.size (some ⟨bE, 0, none⟩)) hC.size _ (I.take k) rfl (RT.out.grow hC) (by simp; omega) ?_
            intro v8 wr8 o8 hT8
            rw [List.nil_append] at o8
            have C2 : Hid (VBlk wr8 b0 31 _) := hT8.vblk C1.out (by decide)
            replace C1 := C2
            replace hC := hC.trans hT8.low
            obtain ⟨A8, n8, k8, rfl⟩ := o8.slice
            refine hKC.out _ _ (trivial) (fun hHeld2 => ?_)
            clear hKC KC hHeld
            have hHeld := hHeld2
            clear hHeld2
            (try simp only [Act.put, List.setIfInBounds_toArray, List.set_cons_zero, List.set_cons_succ])
            refine wpAnyH_ready (rs := [12]) (by kernel_rfl) (by simp) ?_
            refine AllReadyH.cons (o := ol13Drop2_12) rfl (fun KC hKC => ?_) AllReadyH.nil
            (try unfold ol13Drop2_12)
            have q0 := (cells2 C1.out).1
            go_simp
            clear q0
            refine hKC.out _ _ (trivial) (fun hHeld2 => ?_)
            clear hKC KC hHeld
            have hHeld := hHeld2
            clear hHeld2
            (try simp only [Act.put, List.setIfInBounds_toArray, List.set_cons_zero, List.set_cons_succ])
            refine wpAnyH_take (i := 15) (oi := { dst := some 28, op := Op.slice 29 (Operand.tmp 25) (some (Operand.tmp 27)) none none, type := 29, pos := "l13_store.go:64", after := #[{ on := 12, ground := Ground.data }, { on := 14, ground := Ground.data }], guard := none }) (v := .slice (some ⟨g, (k + 1) * 5, none⟩) (I.length - (k + 1)) (k0 - (k + 1))) rfl (by kernel_rfl) (by kernel_rfl) (by kernel_rfl) (fun _ _ _ h => h) (Or.inl ⟨by rfl, ?_⟩) (by assumption) ?_
            · intro w' hSw
              (try dsimp only at hSw)
              go_simp
              all_goals first | rfl | (intro hlt; omega) | (simp; omega) | (simp [hcc]; done)
            (try simp only [Act.put, List.setIfInBounds_toArray, List.set_cons_zero, List.set_cons_succ])
            exact key _ bE n8 k8 A8 hC C1 o8.top
          (try unfold ol13Drop2_12)
          have q0 := (cells2 C1.out).1
          go_simp
          clear q0
          refine hKC.out _ _ (trivial) (fun hHeld2 => ?_)
          clear hKC KC hHeld
          have hHeld := hHeld2
          clear hHeld2
          (try simp only [Act.put, List.setIfInBounds_toArray, List.set_cons_zero, List.set_cons_succ])
          refine wpAnyH_take (i := 15) (oi := { dst := some 28, op := Op.slice 29 (Operand.tmp 25) (some (Operand.tmp 27)) none none, type := 29, pos := "l13_store.go:64", after := #[{ on := 12, ground := Ground.data }, { on := 14, ground := Ground.data }], guard := none }) (v := .slice (some ⟨g, (k + 1) * 5, none⟩) (I.length - (k + 1)) (k0 - (k + 1))) rfl (by kernel_rfl) (by kernel_rfl) (by kernel_rfl) (fun _ _ _ h => h) (Or.inl ⟨by rfl, ?_⟩) (by assumption) ?_
          · intro w' hSw
            (try dsimp only at hSw)
            go_simp
            all_goals first | rfl | (intro hlt; omega) | (simp; omega) | (simp [hcc]; done)
          (try simp only [Act.put, List.setIfInBounds_toArray, List.set_cons_zero, List.set_cons_succ])
          refine wpAnyH_ready (rs := [8]) (by kernel_rfl) (by simp) ?_
          refine AllReadyH.cons (o := ol13Drop2_8) rfl (fun KC hKC => ?_) AllReadyH.nil
          (try unfold ol13Drop2_8)
          refine step_append_g infoIt rfl _ _ 29 rfl Tryz.underlying29 w.heap.size w.heap.size _ [] rfl (own_zero encIt _ w.heap.size w.heap.size (some ⟨bE, 0, none⟩)) hC.size _ (I.take k) rfl (RT.out.grow hC) (by simp; omega) ?_
          intro v8 wr8 o8 hT8
          rw [List.nil_append] at o8
          have C2 : Hid (VBlk wr8 b0 31 _) := hT8.vblk C1.out (by decide)
          replace C1 := C2
          replace hC := hC.trans hT8.low
          obtain ⟨A8, n8, k8, rfl⟩ := o8.slice
          refine hKC.out _ _ (trivial) (fun hHeld2 => ?_)
          clear hKC KC hHeld
          have hHeld := hHeld2
          clear hHeld2
          (try simp only [Act.put, List.setIfInBounds_toArray, List.set_cons_zero, List.set_cons_succ])
          exact key _ bE n8 k8 A8 hC C1 o8.top
        (try unfold ol13Drop2_12)
        have q0 := (cells2 C1.out).1
        go_simp
        clear q0
        refine hKC.out _ _ (trivial) (fun hHeld2 => ?_)
        clear hKC KC hHeld
        have hHeld := hHeld2
        clear hHeld2
        (try simp only [Act.put, List.setIfInBounds_toArray, List.set_cons_zero, List.set_cons_succ])
        refine wpAnyH_take (i := 15) (oi := { dst := some 28, op := Op.slice 29 (Operand.tmp 25) (some (Operand.tmp 27)) none none, type := 29, pos := "l13_store.go:64", after := #[{ on := 12, ground := Ground.data }, { on := 14, ground := Ground.data }], guard := none }) (v := .slice (some ⟨g, (k + 1) * 5, none⟩) (I.length - (k + 1)) (k0 - (k + 1))) rfl (by kernel_rfl) (by kernel_rfl) (by kernel_rfl) (fun _ _ _ h => h) (Or.inl ⟨by rfl, ?_⟩) (by assumption) ?_
        · intro w' hSw
          (try dsimp only at hSw)
          go_simp
          all_goals first | rfl | (intro hlt; omega) | (simp; omega) | (simp [hcc]; done)
        (try simp only [Act.put, List.setIfInBounds_toArray, List.set_cons_zero, List.set_cons_succ])
        refine wpAnyH_ready (rs := [5]) (by kernel_rfl) (by simp) ?_
        refine AllReadyH.cons (o := ol13Drop2_5) rfl (fun KC hKC => ?_) AllReadyH.nil
        (try unfold ol13Drop2_5)
        have q0 := (cells2 C1.out).1
        go_simp
        clear q0
        refine hKC.out _ _ (trivial) (fun hHeld2 => ?_)
        clear hKC KC hHeld
        have hHeld := hHeld2
        clear hHeld2
        (try simp only [Act.put, List.setIfInBounds_toArray, List.set_cons_zero, List.set_cons_succ])
        refine wpAnyH_take (i := 7) (oi := { dst := some 20, op := Op.slice 29 (Operand.tmp 18) none (some (Operand.tmp 19)) none, type := 29, pos := "l13_store.go:64", after := #[{ on := 5, ground := Ground.data }, { on := 6, ground := Ground.data }], guard := none }) (v := .slice (some ⟨g, 0, none⟩) k k0) rfl (by kernel_rfl) (by kernel_rfl) (by kernel_rfl) (fun _ _ _ h => h) (Or.inl ⟨by rfl, ?_⟩) (by assumption) ?_
        · intro w' hSw
          (try dsimp only at hSw)
          go_simp
          all_goals first | rfl | (intro hlt; omega) | (simp; omega) | (simp [hcc]; done)
        (try simp only [Act.put, List.setIfInBounds_toArray, List.set_cons_zero, List.set_cons_succ])
        refine wpAnyH_ready (rs := [8]) (by kernel_rfl) (by simp) ?_
        refine AllReadyH.cons (o := ol13Drop2_8) rfl (fun KC hKC => ?_) AllReadyH.nil
        (try unfold ol13Drop2_8)
        refine step_append_g infoIt rfl _ _ 29 rfl Tryz.underlying29 w.heap.size w.heap.size _ [] rfl (own_zero encIt _ w.heap.size w.heap.size (some ⟨bE, 0, none⟩)) hC.size _ (I.take k) rfl (RT.out.grow hC) (by simp; omega) ?_
        intro v8 wr8 o8 hT8
        rw [List.nil_append] at o8
        have C2 : Hid (VBlk wr8 b0 31 _) := hT8.vblk C1.out (by decide)
        replace C1 := C2
        replace hC := hC.trans hT8.low
        obtain ⟨A8, n8, k8, rfl⟩ := o8.slice
        refine hKC.out _ _ (trivial) (fun hHeld2 => ?_)
        clear hKC KC hHeld
        have hHeld := hHeld2
        clear hHeld2
        (try simp only [Act.put, List.setIfInBounds_toArray, List.set_cons_zero, List.set_cons_succ])
        exact key _ bE n8 k8 A8 hC C1 o8.top
      · (try unfold ol13Drop2_5)
        have q0 := (cells2 C1.out).1
        go_simp
        clear q0
        refine hKC.out _ _ (trivial) (fun hHeld2 => ?_)
        clear hKC KC hHeld
        have hHeld := hHeld2
        clear hHeld2
        (try simp only [Act.put, List.setIfInBounds_toArray, List.set_cons_zero, List.set_cons_succ])
        refine wpAnyH_take (i := 7) (oi := { dst := some 20, op := Op.slice 29 (Operand.tmp 18) none (some (Operand.tmp 19)) none, type := 29, pos := "l13_store.go:64", after := #[{ on := 5, ground := Ground.data }, { on := 6, ground := Ground.data }], guard := none }) (v := .slice (some ⟨g, 0, none⟩) k k0) rfl (by kernel_rfl) (by kernel_rfl) (by kernel_rfl) (fun _ _ _ h => h) (Or.inl ⟨by rfl, ?_⟩) (by assumption) ?_
        · intro w' hSw
          (try dsimp only at hSw)
          go_simp
          all_goals first | rfl | (intro hlt; omega) | (simp; omega) | (simp [hcc]; done)
        (try simp only [Act.put, List.setIfInBounds_toArray, List.set_cons_zero, List.set_cons_succ])
        refine wpAnyH_ready (rs := [1, 12]) (by kernel_rfl) (by simp) ?_
        refine AllReadyH.cons (o := ol13Drop2_1) rfl (fun KC hKC => ?_) (AllReadyH.cons (o := ol13Drop2_12) rfl (fun KC hKC => ?_) AllReadyH.nil)
        · (try unfold ol13Drop2_1)
          refine step_build0 rfl 29 _ iT rfl Tryz.underlying29 hiT ?_
          intro bE wr1 hB1r
          have C2 : Hid (VBlk wr1 b0 31 _) := vblk_grow C1.out hB1r
          replace C1 := C2
          replace hC := hC.trans (hB1r.mono hC.size)
          refine hKC.out _ _ (trivial) (fun hHeld2 => ?_)
          clear hKC KC hHeld
          have hHeld := hHeld2
          clear hHeld2
          (try simp only [Act.put, List.setIfInBounds_toArray, List.set_cons_zero, List.set_cons_succ])
          refine wpAnyH_ready (rs := [8, 12]) (by kernel_rfl) (by simp) ?_
          refine AllReadyH.cons (o := ol13Drop2_8) rfl (fun KC hKC => ?_) (AllReadyH.cons (o := ol13Drop2_12) rfl (fun KC hKC => ?_) AllReadyH.nil)
          · (try unfold ol13Drop2_8)
            refine step_append_g infoIt rfl _ _ 29 rfl Tryz.underlying29 w.heap.size w.heap.size _ [] rfl (own_zero encIt _ w.heap.size w.heap.size (some ⟨bE, 0, none⟩)) hC.size _ (I.take k) rfl (RT.out.grow hC) (by simp; omega) ?_
            intro v8 wr8 o8 hT8
            rw [List.nil_append] at o8
            have C2 : Hid (VBlk wr8 b0 31 _) := hT8.vblk C1.out (by decide)
            replace C1 := C2
            replace hC := hC.trans hT8.low
            obtain ⟨A8, n8, k8, rfl⟩ := o8.slice
            refine hKC.out _ _ (trivial) (fun hHeld2 => ?_)
            clear hKC KC hHeld
            have hHeld := hHeld2
            clear hHeld2
            (try simp only [Act.put, List.setIfInBounds_toArray, List.set_cons_zero, List.set_cons_succ])
            refine wpAnyH_ready (rs := [12]) (by kernel_rfl) (by simp) ?_
            refine AllReadyH.cons (o := ol13Drop2_12) rfl (fun KC hKC => ?_) AllReadyH.nil
            (try unfold ol13Drop2_12)
            have q0 := (cells2 C1.out).1
            go_simp
            clear q0
            refine hKC.out _ _ (trivial) (fun hHeld2 => ?_)
            clear hKC KC hHeld
            have hHeld := hHeld2
            clear hHeld2
            (try simp only [Act.put, List.setIfInBounds_toArray, List.set_cons_zero, List.set_cons_succ])
            refine wpAnyH_take (i := 15) (oi := { dst := some 28, op := Op.slice 29 (Operand.tmp 25) (some (Operand.tmp 27)) none none, type := 29, pos := "l13_store.go:64", after := #[{ on := 12, ground := Ground.data }, { on := 14, ground := Ground.data }], guard := none }) (v := .slice (some ⟨g, (k + 1) * 5, none⟩) (I.length - (k + 1)) (k0 - (k + 1))) rfl (by kernel_rfl) (by kernel_rfl) (by kernel_rfl) (fun _ _ _ h => h) (Or.inl ⟨by rfl, ?_⟩) (by assumption) ?_
            · intro w' hSw
              (try dsimp only at hSw)
              go_simp
              all_goals first | rfl | (intro hlt; omega) | (simp; omega) | (simp [hcc]; done)
            (try simp only [Act.put, List.setIfInBounds_toArray, List.set_cons_zero, List.set_cons_succ])
            exact key _ bE n8 k8 A8 hC C1 o8.top
          (try unfold ol13Drop2_12)
          have q0 := (cells2 C1.out).1
          go_simp
          clear q0
          refine hKC.out _ _ (trivial) (fun hHeld2 => ?_)
          clear hKC KC hHeld
          have hHeld := hHeld2
          clear hHeld2
          (try simp only [Act.put, List.setIfInBounds_toArray, List.set_cons_zero, List.set_cons_succ])
          refine wpAnyH_take (i := 15) (oi := { dst := some 28, op := Op.slice 29 (Operand.tmp 25) (some (Operand.tmp 27)) none none, type := 29, pos := "l13_store.go:64", after := #[{ on := 12, ground := Ground.data }, { on := 14, ground := Ground.data }], guard := none }) (v := .slice (some ⟨g, (k + 1) * 5, none⟩) (I.length - (k + 1)) (k0 - (k + 1))) rfl (by kernel_rfl) (by kernel_rfl) (by kernel_rfl) (fun _ _ _ h => h) (Or.inl ⟨by rfl, ?_⟩) (by assumption) ?_
          · intro w' hSw
            (try dsimp only at hSw)
            go_simp
            all_goals first | rfl | (intro hlt; omega) | (simp; omega) | (simp [hcc]; done)
          (try simp only [Act.put, List.setIfInBounds_toArray, List.set_cons_zero, List.set_cons_succ])
          refine wpAnyH_ready (rs := [8]) (by kernel_rfl) (by simp) ?_
          refine AllReadyH.cons (o := ol13Drop2_8) rfl (fun KC hKC => ?_) AllReadyH.nil
          (try unfold ol13Drop2_8)
          refine step_append_g infoIt rfl _ _ 29 rfl Tryz.underlying29 w.heap.size w.heap.size _ [] rfl (own_zero encIt _ w.heap.size w.heap.size (some ⟨bE, 0, none⟩)) hC.size _ (I.take k) rfl (RT.out.grow hC) (by simp; omega) ?_
          intro v8 wr8 o8 hT8
          rw [List.nil_append] at o8
          have C2 : Hid (VBlk wr8 b0 31 _) := hT8.vblk C1.out (by decide)
          replace C1 := C2
          replace hC := hC.trans hT8.low
          obtain ⟨A8, n8, k8, rfl⟩ := o8.slice
          refine hKC.out _ _ (trivial) (fun hHeld2 => ?_)
          clear hKC KC hHeld
          have hHeld := hHeld2
          clear hHeld2
          (try simp only [Act.put, List.setIfInBounds_toArray, List.set_cons_zero, List.set_cons_succ])
          exact key _ bE n8 k8 A8 hC C1 o8.top
        (try unfold ol13Drop2_12)
        have q0 := (cells2 C1.out).1
        go_simp
        clear q0
        refine hKC.out _ _ (trivial) (fun hHeld2 => ?_)
        clear hKC KC hHeld
        have hHeld := hHeld2
        clear hHeld2
        (try simp only [Act.put, List.setIfInBounds_toArray, List.set_cons_zero, List.set_cons_succ])
        refine wpAnyH_take (i := 15) (oi := { dst := some 28, op := Op.slice 29 (Operand.tmp 25) (some (Operand.tmp 27)) none none, type := 29, pos := "l13_store.go:64", after := #[{ on := 12, ground := Ground.data }, { on := 14, ground := Ground.data }], guard := none }) (v := .slice (some ⟨g, (k + 1) * 5, none⟩) (I.length - (k + 1)) (k0 - (k + 1))) rfl (by kernel_rfl) (by kernel_rfl) (by kernel_rfl) (fun _ _ _ h => h) (Or.inl ⟨by rfl, ?_⟩) (by assumption) ?_
        · intro w' hSw
          (try dsimp only at hSw)
          go_simp
          all_goals first | rfl | (intro hlt; omega) | (simp; omega) | (simp [hcc]; done)
        (try simp only [Act.put, List.setIfInBounds_toArray, List.set_cons_zero, List.set_cons_succ])
        refine wpAnyH_ready (rs := [1]) (by kernel_rfl) (by simp) ?_
        refine AllReadyH.cons (o := ol13Drop2_1) rfl (fun KC hKC => ?_) AllReadyH.nil
        (try unfold ol13Drop2_1)
        refine step_build0 rfl 29 _ iT rfl Tryz.underlying29 hiT ?_
        intro bE wr1 hB1r
        have C2 : Hid (VBlk wr1 b0 31 _) := vblk_grow C1.out hB1r
        replace C1 := C2
        replace hC := hC.trans (hB1r.mono hC.size)
        refine hKC.out _ _ (trivial) (fun hHeld2 => ?_)
        clear hKC KC hHeld
        have hHeld := hHeld2
        clear hHeld2
        (try simp only [Act.put, List.setIfInBounds_toArray, List.set_cons_zero, List.set_cons_succ])
        refine wpAnyH_ready (rs := [8]) (by kernel_rfl) (by simp) ?_
        refine AllReadyH.cons (o := ol13Drop2_8) rfl (fun KC hKC => ?_) AllReadyH.nil
        (try unfold ol13Drop2_8)
        refine step_append_g infoIt rfl _ _ 29 rfl Tryz.underlying29 w.heap.size w.heap.size _ [] rfl (own_zero encIt _ w.heap.size w.heap.size (some ⟨bE, 0, none⟩)) hC.size _ (I.take k) rfl (RT.out.grow hC) (by simp; omega) ?_
        intro v8 wr8 o8 hT8
        rw [List.nil_append] at o8
        have C2 : Hid (VBlk wr8 b0 31 _) := hT8.vblk C1.out (by decide)
        replace C1 := C2
        replace hC := hC.trans hT8.low
        obtain ⟨A8, n8, k8, rfl⟩ := o8.slice
        refine hKC.out _ _ (trivial) (fun hHeld2 => ?_)
        clear hKC KC hHeld
        have hHeld := hHeld2
        clear hHeld2
        (try simp only [Act.put, List.setIfInBounds_toArray, List.set_cons_zero, List.set_cons_succ])
        exact key _ bE n8 k8 A8 hC C1 o8.top
      (try unfold ol13Drop2_12)
      have q0 := (cells2 C1.out).1
      go_simp
      clear q0
      refine hKC.out _ _ (trivial) (fun hHeld2 => ?_)
      clear hKC KC hHeld
      have hHeld := hHeld2
      clear hHeld2
      (try simp only [Act.put, List.setIfInBounds_toArray, List.set_cons_zero, List.set_cons_succ])
      refine wpAnyH_take (i := 15) (oi := { dst := some 28, op := Op.slice 29 (Operand.tmp 25) (some (Operand.tmp 27)) none none, type := 29, pos := "l13_store.go:64", after := #[{ on := 12, ground := Ground.data }, { on := 14, ground := Ground.data }], guard := none }) (v := .slice (some ⟨g, (k + 1) * 5, none⟩) (I.length - (k + 1)) (k0 - (k + 1))) rfl (by kernel_rfl) (by kernel_rfl) (by kernel_rfl) (fun _ _ _ h => h) (Or.inl ⟨by rfl, ?_⟩) (by assumption) ?_
      · intro w' hSw
        (try dsimp only at hSw)
        go_simp
        all_goals first | rfl | (intro hlt; omega) | (simp; omega) | (simp [hcc]; done)
      (try simp only [Act.put, List.setIfInBounds_toArray, List.set_cons_zero, List.set_cons_succ])
      refine wpAnyH_ready (rs := [1, 5]) (by kernel_rfl) (by simp) ?_
      refine AllReadyH.cons (o := ol13Drop2_1) rfl (fun KC hKC => ?_) (AllReadyH.cons (o := ol13Drop2_5) rfl (fun KC hKC => ?_) AllReadyH.nil)
      · (try unfold ol13Drop2_1)
        refine step_build0 rfl 29 _ iT rfl Tryz.underlying29 hiT ?_
        intro bE wr1 hB1r
        have C2 : Hid (VBlk wr1 b0 31 _) := vblk_grow C1.out hB1r
        replace C1 := C2
        replace hC := hC.trans (hB1r.mono hC.size)
        refine hKC.out _ _ (trivial) (fun hHeld2 => ?_)
        clear hKC KC hHeld
        have hHeld := hHeld2
        clear hHeld2
        (try simp only [Act.put, List.setIfInBounds_toArray, List.set_cons_zero, List.set_cons_succ])
        refine wpAnyH_ready (rs := [5]) (by kernel_rfl) (by simp) ?_
        refine AllReadyH.cons (o := ol13Drop2_5) rfl (fun KC hKC => ?_) AllReadyH.nil
        (try unfold ol13Drop2_5)
        have q0 := (cells2 C1.out).1
        go_simp
        clear q0
        refine hKC.out _ _ (trivial) (fun hHeld2 => ?_)
        clear hKC KC hHeld
        have hHeld := hHeld2
        clear hHeld2
        (try simp only [Act.put, List.setIfInBounds_toArray, List.set_cons_zero, List.set_cons_succ])
        refine wpAnyH_take (i := 7) (oi := { dst := some 20, op := Op.slice 29 (Operand.tmp 18) none (some (Operand.tmp 19)) none, type := 29, pos := "l13_store.go:64", after := #[{ on := 5, ground := Ground.data }, { on := 6, ground := Ground.data }], guard := none }) (v := .slice (some ⟨g, 0, none⟩) k k0) rfl (by kernel_rfl) (by kernel_rfl) (by kernel_rfl) (fun _ _ _ h => h) (Or.inl ⟨by rfl, ?_⟩) (by assumption) ?_
        · intro w' hSw
          (try dsimp only at hSw)
          go_simp
          all_goals first | rfl | (intro hlt; omega) | (simp; omega) | (simp [hcc]; done)
        (try simp only [Act.put, List.setIfInBounds_toArray, List.set_cons_zero, List.set_cons_succ])
        refine wpAnyH_ready (rs := [8]) (by kernel_rfl) (by simp) ?_
        refine AllReadyH.cons (o := ol13Drop2_8) rfl (fun KC hKC => ?_) AllReadyH.nil
        (try unfold ol13Drop2_8)
        refine step_append_g infoIt rfl _ _ 29 rfl Tryz.underlying29 w.heap.size w.heap.size _ [] rfl (own_zero encIt _ w.heap.size w.heap.size (some ⟨bE, 0, none⟩)) hC.size _ (I.take k) rfl (RT.out.grow hC) (by simp; omega) ?_
        intro v8 wr8 o8 hT8
        rw [List.nil_append] at o8
        have C2 : Hid (VBlk wr8 b0 31 _) := hT8.vblk C1.out (by decide)
        replace C1 := C2
        replace hC := hC.trans hT8.low
        obtain ⟨A8, n8, k8, rfl⟩ := o8.slice
        refine hKC.out _ _ (trivial) (fun hHeld2 => ?_)
        clear hKC KC hHeld
        have hHeld := hHeld2
        clear hHeld2
        (try simp only [Act.put, List.setIfInBounds_toArray, List.set_cons_zero, List.set_cons_succ])
        exact key _ bE n8 k8 A8 hC C1 o8.top
      (try unfold ol13Drop2_5)
      have q0 := (cells2 C1.out).1
      go_simp
      clear q0
      refine hKC.out _ _ (trivial) (fun hHeld2 => ?_)
      clear hKC KC hHeld
      have hHeld := hHeld2
      clear hHeld2
      (try simp only [Act.put, List.setIfInBounds_toArray, List.set_cons_zero, List.set_cons_succ])
      refine wpAnyH_take (i := 7) (oi := { dst := some 20, op := Op.slice 29 (Operand.tmp 18) none (some (Operand.tmp 19)) none, type := 29, pos := "l13_store.go:64", after := #[{ on := 5, ground := Ground.data }, { on := 6, ground := Ground.data }], guard := none }) (v := .slice (some ⟨g, 0, none⟩) k k0) rfl (by kernel_rfl) (by kernel_rfl) (by kernel_rfl) (fun _ _ _ h => h) (Or.inl ⟨by rfl, ?_⟩) (by assumption) ?_
      · intro w' hSw
        (try dsimp only at hSw)
        go_simp
        all_goals first | rfl | (intro hlt; omega) | (simp; omega) | (simp [hcc]; done)
      (try simp only [Act.put, List.setIfInBounds_toArray, List.set_cons_zero, List.set_cons_succ])
      refine wpAnyH_ready (rs := [1]) (by kernel_rfl) (by simp) ?_
      refine AllReadyH.cons (o := ol13Drop2_1) rfl (fun KC hKC => ?_) AllReadyH.nil
      (try unfold ol13Drop2_1)
      refine step_build0 rfl 29 _ iT rfl Tryz.underlying29 hiT ?_
      intro bE wr1 hB1r
      have C2 : Hid (VBlk wr1 b0 31 _) := vblk_grow C1.out hB1r
      replace C1 := C2
      replace hC := hC.trans (hB1r.mono hC.size)
      refine hKC.out _ _ (trivial) (fun hHeld2 => ?_)
      clear hKC KC hHeld
      have hHeld := hHeld2
      clear hHeld2
      (try simp only [Act.put, List.setIfInBounds_toArray, List.set_cons_zero, List.set_cons_succ])
      refine wpAnyH_ready (rs := [8]) (by kernel_rfl) (by simp) ?_
      refine AllReadyH.cons (o := ol13Drop2_8) rfl (fun KC hKC => ?_) AllReadyH.nil
      (try unfold ol13Drop2_8)
      refine step_append_g infoIt rfl _ _ 29 rfl Tryz.underlying29 w.heap.size w.heap.size _ [] rfl (own_zero encIt _ w.heap.size w.heap.size (some ⟨bE, 0, none⟩)) hC.size _ (I.take k) rfl (RT.out.grow hC) (by simp; omega) ?_
      intro v8 wr8 o8 hT8
      rw [List.nil_append] at o8
      have C2 : Hid (VBlk wr8 b0 31 _) := hT8.vblk C1.out (by decide)
      replace C1 := C2
      replace hC := hC.trans hT8.low
      obtain ⟨A8, n8, k8, rfl⟩ := o8.slice
      refine hKC.out _ _ (trivial) (fun hHeld2 => ?_)
      clear hKC KC hHeld
      have hHeld := hHeld2
      clear hHeld2
      (try simp only [Act.put, List.setIfInBounds_toArray, List.set_cons_zero, List.set_cons_succ])
      exact key _ bE n8 k8 A8 hC C1 o8.top
    case key =>
      intro wk bE n8 k8 A8 hC C1 o8
      have hHeld : True := trivial
      refine wpAnyH_ready (rs := [16]) (by kernel_rfl) (by simp) ?_
      refine AllReadyH.cons (o := ol13Drop2_16) rfl (fun KC hKC => ?_) AllReadyH.nil
      (try unfold ol13Drop2_16)
      refine step_append_g infoIt rfl _ _ 29 rfl Tryz.underlying29 w.heap.size _ _ (I.take k) rfl o8 hC.size _ (I.drop (k + 1)) rfl (RD.out.grow hC) (by omega) ?_
      intro v9 wr9 o9 hT9
      rw [← hdrop.out] at o9
      have C2 : Hid (VBlk wr9 b0 31 _) := hT9.vblk C1.out (by decide)
      replace C1 := C2
      replace hC := hC.trans hT9.low
      obtain ⟨A9, n9, k9, rfl⟩ := o9.slice
      refine hKC.out _ _ (trivial) (fun hHeld2 => ?_)
      clear hKC KC hHeld
      have hHeld := hHeld2
      clear hHeld2
      (try simp only [Act.put, List.setIfInBounds_toArray, List.set_cons_zero, List.set_cons_succ])
      refine wpAnyH_take (i := 17) (oi := ol13Drop2_17) (v := ?_) rfl (by kernel_rfl) (by kernel_rfl) (by kernel_rfl) (fun _ _ _ h => h) (Or.inl ⟨by rfl, ?_⟩) (by assumption) ?_
      rotate_left 1
      · intro w' hSw; (try dsimp only at hSw); (try unfold ol13Drop2_17); go_simp; (try with_reducible rfl)
      (try unfold ol13Drop2_17)
      (try simp only [Act.put, List.setIfInBounds_toArray, List.set_cons_zero, List.set_cons_succ])
      refine wpAnyH_take (i := 18) (oi := ol13Drop2_18) (v := ?_) rfl (by kernel_rfl) (by kernel_rfl) (by kernel_rfl) (fun _ _ _ h => h) (Or.inl ⟨by rfl, ?_⟩) (by assumption) ?_
      rotate_left 1
      · intro w' hSw; (try dsimp only at hSw); (try unfold ol13Drop2_18); go_simp; (try with_reducible rfl)
      (try unfold ol13Drop2_18)
      (try simp only [Act.put, List.setIfInBounds_toArray, List.set_cons_zero, List.set_cons_succ])
      refine wpAnyH_ready (rs := [19]) (by kernel_rfl) (by simp) ?_
      refine AllReadyH.cons (o := ol13Drop2_19) rfl (fun KC hKC => ?_) AllReadyH.nil
      (try unfold ol13Drop2_19)
      refine step_store_cell rfl 29 _ _ rfl b0 0 (.slice A9 n9 k9) rfl rfl rfl szL1 C1.out (by simp) ?_
      intro wr10 hO10 C2
      have C3 : Hid (VBlk wr10 b0 31 [.slice A9 n9 k9, .int .i64 X]) := C2
      clear C2
      refine hKC.out _ _ (trivial) (fun hHeld2 => ?_)
      clear hKC KC hHeld
      have hHeld := hHeld2
      clear hHeld2
      (try simp only [Act.put])
      refine wpAnyH_done (by kernel_rfl) ?_ _
      go_wp2
      exact bodyPost_end (v := .tuple #[]) (by simp [results, Tryz.f66, go_sem]) rfl ⟨rfl, A9, n9, k9, C3.out, ((o9.only hO10 C1.out (by decide)).wide (by omega) (Nat.le_of_eq hO10.1.symm)), (Onb.below hC).trans (Onb.only hO10)⟩
end Go.Proofs.YtjkkjpgebcnhgaaGreatDoor.rg
/- Contracts of the model's helpers on texts: a text is split. -/
namespace Go.Proofs.YtjkkjpgebcnhgaaGreatDoor.cm
open Go.ChangeShapes Go.WideShapes Go.ChangeAt Go.RowKit
open Go.Proofs.YtjkkjpgebcnhgaaGreatDoor.ce Go.Proofs.YtjkkjpgebcnhgaaGreatDoor.ro Go.Proofs.YtjkkjpgebcnhgaaGreatDoor.rg
set_option linter.unusedVariables false

theorem bAl (w : World) (o : Obj) : Below w.heap.size w (w.alloc o) := (Below.refl _ w).alloc (Nat.le_refl _) _
end Go.Proofs.YtjkkjpgebcnhgaaGreatDoor.cm
/- Contracts of the model's helpers on texts: a number is read. -/
namespace Go.Proofs.YtjkkjpgebcnhgaaGreatDoor.cm
open Go.ChangeShapes Go.WideShapes Go.ChangeAt Go.RowKit
open Go.Proofs.YtjkkjpgebcnhgaaGreatDoor.ce Go.Proofs.YtjkkjpgebcnhgaaGreatDoor.ro Go.Proofs.YtjkkjpgebcnhgaaGreatDoor.rg
set_option linter.unusedVariables false

theorem rdF_minus {r : List UInt8} : rdF (45 :: r) = if canon r = true ∧ r.head? ≠ some 48 then (-((val 0 r : Nat) : Int), true) else (0, false) := rfl
theorem rdF_plain {l : List UInt8} (h : l.head? ≠ some 45) : rdF l = if canon l = true then (((val 0 l : Nat) : Int), true) else (0, false) := by
  unfold rdF
  rw [if_neg h]
theorem val9 {l : List UInt8} {k n : Nat} (h : Rdn l k n) (hk : k ≤ l.length) (h9 : l.length ≤ 9) : n < 1000000000 := by
  have h1 := rdn_lt h hk
  have h2 : (10 : Nat) ^ k ≤ 10 ^ 9 := Nat.pow_le_pow_right (by decide) (by omega)
  omega
theorem head_at {s : ByteArray} (h : 0 < s.size) : (bs s).head? = some s[0] := by
  have : 0 < (bs s).length := by rw [bs_len]; exact h
  rw [List.head?_eq_getElem?, List.getElem?_eq_getElem this]
  rfl

set_option maxRecDepth 100000 in
set_option maxHeartbeats 1000000 in
theorem l1Read_plain (s : ByteArray) (hs : s.size ≤ 1048576) (h0 : 0 < s.size) (h45 : s[0] ≠ 45) (w : World) (a : Int) (b : Bool) (hr : Hid (rdF (bs s) = (a, b))) :
    Calls Tryz.prog 67 #[.string s] w fun e w' => e = .returned (.tuple #[.int .i64 a, .bool b]) ∧ w' = w := by
  have hne : s.toList.isEmpty = false := by
    have : s.toList.length = s.size := by rw [bs_toList, bs_len]
    cases hl : s.toList with
    | nil => rw [hl] at this; simp at this; omega
    | cons x r => rfl
  have h0' : (0 : Int) < (s.size : Int) := by omega
  obtain ⟨c0, hc0⟩ : ∃ n : Nat, s[0].toNat = n := ⟨_, rfl⟩
  have h45b : ((s[0].toNat : Int) == 45) = false := by
    simp
    intro h
    exact h45 (UInt8.toNat_inj.1 (by show s[0].toNat = 45; omega))
  obtain ⟨t, ht⟩ : ∃ t, bs s = t := ⟨_, rfl⟩
  have hlt : t.length = s.size := by rw [← ht]; exact bs_len s
  have HR : Hid ((if canon t = true then (((val 0 t : Nat) : Int), true) else (0, false)) = (a, b)) := by
    have := hr.out
    rw [rdF_plain (by rw [head_at h0]; simp; exact h45), ht] at this
    exact this
  have hat : Hid (∀ i (h : i < t.length) (h2 : i < s.size), t[i] = s[i]) := fun i h h2 => by
    have e : (bs s)[i]'(by rw [bs_len]; exact h2) = s[i] := rfl
    rw [← e]
    simp [ht]
  have HL : Hid (t.length = s.size) := hlt
  clear hr h45 ht hlt hc0
  have no : canon t = false → a = 0 ∧ b = false := fun h => by
    have := HR.out
    rw [h] at this
    simp at this
    exact ⟨this.1.symm, by simpa using this.2⟩
  have NO : Hid (canon t = false → a = 0 ∧ b = false) := no
  clear no
  have ew : IntKind.i64.wrap ((s.size : Int) - 0) = (s.size : Int) := by rw [IntKind.wrap_i64]; omega
  by_cases hsh : (s.size : Int) < 1
  · obtain ⟨rfl, rfl⟩ := NO.out (canon_len (by have := HL.out; omega))
    go_enter Tryz.func67, Tryz.ntmps67
    go_wp2
    go_ret2
    exact ⟨rfl, rfl⟩
  by_cases hlg : 9 < (s.size : Int)
  · obtain ⟨rfl, rfl⟩ := NO.out (canon_len (by have := HL.out; omega))
    go_enter Tryz.func67, Tryz.ntmps67
    go_wp2
    go_ret2
    exact ⟨rfl, rfl⟩
  go_enter Tryz.func67, Tryz.ntmps67
  go_wp2
  go_loop [6, 7] (fun q p => ∃ k n : Nat, p = .int .i64 k ∧ q = .int .i64 n ∧ 0 ≤ k ∧ k ≤ s.size ∧ Hid (Rdn t (k - 0) n)) (fun _ p => s.size - (intOf p).toNat)
  case atStart => exact ⟨0, 0, rfl, rfl, by omega, by omega, rdn_start t⟩
  case round =>
    obtain ⟨k, n, rfl, rfl, hk1, hk2, hR⟩ := hrel
    have hn9 : n < 1000000000 := val9 hR.out (by have := HL.out; omega) (by have := HL.out; omega)
    by_cases hkl : k < s.size
    · have hkl' : (k : Int) < (s.size : Int) := by omega
      have hcl := UInt8.toNat_lt s[k]
      have hst : isD s[k] = true → Rdn t (k - 0 + 1) (n * 10 + (s[k].toNat - 48)) := fun h => by
        have hl := HL.out
        have e : t[k - 0]'(by omega) = s[k] := by
          have := hat.out (k - 0) (by omega) (by omega)
          simpa [show k - 0 + 0 = k by omega] using this
        have := rdn_step hR.out (by omega) (by rw [e]; exact h)
        rw [e] at this
        exact this
      have hst0 : isD s[k] = false → canon t = false := fun h => by
        have hl := HL.out
        have e : t[k - 0]'(by omega) = s[k] := by
          have := hat.out (k - 0) (by omega) (by omega)
          simpa [show k - 0 + 0 = k by omega] using this
        exact rdn_not (k := k - 0) (by omega) (by rw [e]; exact h)
      obtain ⟨c, hc⟩ : ∃ c : Nat, s[k].toNat = c := ⟨_, rfl⟩
      unfold isD at hst hst0
      rw [hc] at hst hst0 hcl
      have hcc : (s[k].toNat : Int) = (c : Int) := by omega
      have HS : Hid ((decide (48 ≤ c) && decide (c ≤ 57)) = true → Rdn t (k - 0 + 1) (n * 10 + (c - 48))) := hst
      have HS0 : Hid ((decide (48 ≤ c) && decide (c ≤ 57)) = false → canon t = false) := hst0
      clear hst hst0 hc
      by_cases h1 : (c : Int) < 48
      · obtain ⟨rfl, rfl⟩ := NO.out (HS0.out (by rw [decide_eq_false (show ¬ 48 ≤ c by omega)]; rfl))
        go_wp2
        go_ret2
        exact ⟨rfl, rfl⟩
      · by_cases h2 : (57 : Int) < (c : Int)
        · obtain ⟨rfl, rfl⟩ := NO.out (HS0.out (by rw [decide_eq_false (show ¬ c ≤ 57 by omega), Bool.and_false]))
          go_wp2
          go_ret2
          exact ⟨rfl, rfl⟩
        · have hst2 := HS.out (by rw [decide_eq_true (show 48 ≤ c by omega), decide_eq_true (show c ≤ 57 by omega)]; rfl)
          obtain ⟨m, hm⟩ := hid_ex (n * 10 + (c - 48))
          rw [hm.out] at hst2
          have HS2 : Hid (Rdn t (k + 1 - 0) m) := by unfold Hid; rw [show k + 1 - 0 = k - 0 + 1 by omega]; exact hst2
          have e1 : IntKind.u8.wrap ((c : Int) - 48) = (c : Int) - 48 := by rw [IntKind.wrap_u8]; omega
          have e2 : IntKind.i64.wrap ((n : Int) * 10) = (n : Int) * 10 := by rw [IntKind.wrap_i64]; omega
          have e3 : IntKind.i64.wrap ((c : Int) - 48) = (c : Int) - 48 := by rw [IntKind.wrap_i64]; omega
          have e4 : IntKind.i64.wrap ((n : Int) * 10 + ((c : Int) - 48)) = (m : Int) := by rw [IntKind.wrap_i64]; have := hm.out; omega
          clear hst2 HS HS0
          go_wp2
          go_round
          case rel => exact ⟨k + 1, m, by go_num, rfl, by omega, by omega, HS2⟩
          case measure => simp [intOf]; omega
    · have hkl' : ¬ (k : Int) < (s.size : Int) := by omega
      have hend := rdn_end (l := t) (n := n) (by have := hR.out; rw [show k - 0 = t.length by have := HL.out; omega] at this; exact this) (by have := HL.out; omega) (by have := HL.out; omega)
      have hh : t.head? = some s[0] := by
        have hl := HL.out
        have e := hat.out 0 (by omega) (by omega)
        rw [List.head?_eq_getElem?, List.getElem?_eq_getElem (by omega), e]
      obtain ⟨d, hd⟩ : ∃ c : Nat, s[0].toNat = c := ⟨_, rfl⟩
      have hdd : (s[0].toNat : Int) = (d : Int) := by omega
      by_cases h48 : d = 48
      · have hb : ((d : Int) == 48) = true := by simp; omega
        have h48' : t.head? = some 48 := by rw [hh]; exact congrArg some (UInt8.toNat_inj.1 (by show s[0].toNat = 48; omega))
        by_cases hl1 : (1 : Int) < (s.size : Int)
        · obtain ⟨rfl, rfl⟩ := NO.out (by rw [hend.2, h48', decide_eq_true (show 1 < t.length by have := HL.out; omega)]; rfl)
          clear hend hh hd h48 h48'
          go_wp2
          go_ret2
          exact ⟨rfl, rfl⟩
        · have : (a, b) = ((n : Int), true) := by
            rw [← HR.out, if_pos (by rw [hend.2, decide_eq_false (show ¬ 1 < t.length by have := HL.out; omega), Bool.and_false]; rfl), hend.1]
          obtain ⟨rfl, rfl⟩ := Prod.mk.inj this
          clear hend hh hd h48 this h48'
          go_wp2
          go_ret2
          exact ⟨rfl, rfl⟩
      · have hb : ((d : Int) == 48) = false := by simp; omega
        have h48' : t.head? ≠ some 48 := fun q => by
          rw [hh] at q
          have := Option.some.inj q
          rw [this] at hd
          exact h48 hd.symm
        have : (a, b) = ((n : Int), true) := by
          rw [← HR.out, if_pos (by rw [hend.2, show (t.head? == some 48) = false by simpa using h48']; rfl), hend.1]
        obtain ⟨rfl, rfl⟩ := Prod.mk.inj this
        clear hend hh hd h48 this h48'
        go_wp2
        go_ret2
        exact ⟨rfl, rfl⟩

set_option maxRecDepth 100000 in
set_option maxHeartbeats 1000000 in
theorem l1Read_minus (s : ByteArray) (hs : s.size ≤ 1048576) (h0 : 0 < s.size) (h45 : s[0] = 45) (w : World) (a : Int) (b : Bool) (hr : Hid (rdF (bs s) = (a, b))) :
    Calls Tryz.prog 67 #[.string s] w fun e w' => e = .returned (.tuple #[.int .i64 a, .bool b]) ∧ w' = w := by
  have hne : s.toList.isEmpty = false := by
    have : s.toList.length = s.size := by rw [bs_toList, bs_len]
    cases hl : s.toList with
    | nil => rw [hl] at this; simp at this; omega
    | cons x r => rfl
  have h0' : (0 : Int) < (s.size : Int) := by omega
  obtain ⟨c0, hc0⟩ : ∃ n : Nat, s[0].toNat = n := ⟨_, rfl⟩
  have h45b : ((s[0].toNat : Int) == 45) = true := by rw [h45]; rfl
  obtain ⟨t, ht⟩ : ∃ t, bs s = 45 :: t := by
    have := head_at h0
    rw [h45] at this
    cases hb : bs s with
    | nil => rw [hb] at this; simp at this
    | cons x r => rw [hb] at this; simp at this; exact ⟨r, by rw [this]⟩
  have hlt : t.length = s.size - 1 := by have := bs_len s; rw [ht] at this; simp at this; omega
  have HR : Hid ((if canon t = true ∧ t.head? ≠ some 48 then (-((val 0 t : Nat) : Int), true) else (0, false)) = (a, b)) := by
    have := hr.out
    rw [ht, rdF_minus] at this
    exact this
  have hat : Hid (∀ i (h : i < t.length) (h2 : i + 1 < s.size), t[i] = s[i + 1]) := fun i h h2 => by
    have e : (bs s)[i + 1]'(by rw [bs_len]; exact h2) = s[i + 1] := rfl
    rw [← e]
    simp [ht]
  have HL : Hid (t.length = s.size - 1) := hlt
  clear hr h45 ht hlt hc0
  have no : canon t = false → a = 0 ∧ b = false := fun h => by
    have := HR.out
    rw [h] at this
    simp at this
    exact ⟨this.1.symm, by simpa using this.2⟩
  have NO : Hid (canon t = false → a = 0 ∧ b = false) := no
  clear no
  have ew : IntKind.i64.wrap ((s.size : Int) - 1) = (s.size : Int) - 1 := by rw [IntKind.wrap_i64]; omega
  by_cases hsh : (s.size : Int) - 1 < 1
  · obtain ⟨rfl, rfl⟩ := NO.out (canon_len (by have := HL.out; omega))
    go_enter Tryz.func67, Tryz.ntmps67
    go_wp2
    go_ret2
    exact ⟨rfl, rfl⟩
  by_cases hlg : 9 < (s.size : Int) - 1
  · obtain ⟨rfl, rfl⟩ := NO.out (canon_len (by have := HL.out; omega))
    go_enter Tryz.func67, Tryz.ntmps67
    go_wp2
    go_ret2
    exact ⟨rfl, rfl⟩
  go_enter Tryz.func67, Tryz.ntmps67
  go_wp2
  go_loop [6, 7] (fun q p => ∃ k n : Nat, p = .int .i64 k ∧ q = .int .i64 n ∧ 1 ≤ k ∧ k ≤ s.size ∧ Hid (Rdn t (k - 1) n)) (fun _ p => s.size - (intOf p).toNat)
  case atStart => exact ⟨1, 0, rfl, rfl, by omega, by omega, rdn_start t⟩
  case round =>
    obtain ⟨k, n, rfl, rfl, hk1, hk2, hR⟩ := hrel
    have hn9 : n < 1000000000 := val9 hR.out (by have := HL.out; omega) (by have := HL.out; omega)
    by_cases hkl : k < s.size
    · have hkl' : (k : Int) < (s.size : Int) := by omega
      have hcl := UInt8.toNat_lt s[k]
      have hst : isD s[k] = true → Rdn t (k - 1 + 1) (n * 10 + (s[k].toNat - 48)) := fun h => by
        have hl := HL.out
        have e : t[k - 1]'(by omega) = s[k] := by
          have := hat.out (k - 1) (by omega) (by omega)
          simpa [show k - 1 + 1 = k by omega] using this
        have := rdn_step hR.out (by omega) (by rw [e]; exact h)
        rw [e] at this
        exact this
      have hst0 : isD s[k] = false → canon t = false := fun h => by
        have hl := HL.out
        have e : t[k - 1]'(by omega) = s[k] := by
          have := hat.out (k - 1) (by omega) (by omega)
          simpa [show k - 1 + 1 = k by omega] using this
        exact rdn_not (k := k - 1) (by omega) (by rw [e]; exact h)
      obtain ⟨c, hc⟩ : ∃ c : Nat, s[k].toNat = c := ⟨_, rfl⟩
      unfold isD at hst hst0
      rw [hc] at hst hst0 hcl
      have hcc : (s[k].toNat : Int) = (c : Int) := by omega
      have HS : Hid ((decide (48 ≤ c) && decide (c ≤ 57)) = true → Rdn t (k - 1 + 1) (n * 10 + (c - 48))) := hst
      have HS0 : Hid ((decide (48 ≤ c) && decide (c ≤ 57)) = false → canon t = false) := hst0
      clear hst hst0 hc
      by_cases h1 : (c : Int) < 48
      · obtain ⟨rfl, rfl⟩ := NO.out (HS0.out (by rw [decide_eq_false (show ¬ 48 ≤ c by omega)]; rfl))
        go_wp2
        go_ret2
        exact ⟨rfl, rfl⟩
      · by_cases h2 : (57 : Int) < (c : Int)
        · obtain ⟨rfl, rfl⟩ := NO.out (HS0.out (by rw [decide_eq_false (show ¬ c ≤ 57 by omega), Bool.and_false]))
          go_wp2
          go_ret2
          exact ⟨rfl, rfl⟩
        · have hst2 := HS.out (by rw [decide_eq_true (show 48 ≤ c by omega), decide_eq_true (show c ≤ 57 by omega)]; rfl)
          obtain ⟨m, hm⟩ := hid_ex (n * 10 + (c - 48))
          rw [hm.out] at hst2
          have HS2 : Hid (Rdn t (k + 1 - 1) m) := by unfold Hid; rw [show k + 1 - 1 = k - 1 + 1 by omega]; exact hst2
          have e1 : IntKind.u8.wrap ((c : Int) - 48) = (c : Int) - 48 := by rw [IntKind.wrap_u8]; omega
          have e2 : IntKind.i64.wrap ((n : Int) * 10) = (n : Int) * 10 := by rw [IntKind.wrap_i64]; omega
          have e3 : IntKind.i64.wrap ((c : Int) - 48) = (c : Int) - 48 := by rw [IntKind.wrap_i64]; omega
          have e4 : IntKind.i64.wrap ((n : Int) * 10 + ((c : Int) - 48)) = (m : Int) := by rw [IntKind.wrap_i64]; have := hm.out; omega
          clear hst2 HS HS0
          go_wp2
          go_round
          case rel => exact ⟨k + 1, m, by go_num, rfl, by omega, by omega, HS2⟩
          case measure => simp [intOf]; omega
    · have hkl' : ¬ (k : Int) < (s.size : Int) := by omega
      have hend := rdn_end (l := t) (n := n) (by have := hR.out; rw [show k - 1 = t.length by have := HL.out; omega] at this; exact this) (by have := HL.out; omega) (by have := HL.out; omega)
      have hh : t.head? = some s[1] := by
        have hl := HL.out
        have e := hat.out 0 (by omega) (by omega)
        rw [List.head?_eq_getElem?, List.getElem?_eq_getElem (by omega), e]
      obtain ⟨d, hd⟩ : ∃ c : Nat, s[1].toNat = c := ⟨_, rfl⟩
      have hdd : (s[1].toNat : Int) = (d : Int) := by omega
      have h1' : (1 : Int) < (s.size : Int) := by omega
      by_cases h48 : d = 48
      · have hb : ((d : Int) == 48) = true := by simp; omega
        have : (a, b) = ((0 : Int), false) := by
          rw [← HR.out, if_neg]
          rintro ⟨-, q⟩
          exact q (by rw [hh]; exact congrArg some (UInt8.toNat_inj.1 (by show s[1].toNat = 48; omega)))
        obtain ⟨rfl, rfl⟩ := Prod.mk.inj this
        clear hend hh hd h48 this
        go_wp2
        go_ret2
        exact ⟨rfl, rfl⟩
      · have hb : ((d : Int) == 48) = false := by simp; omega
        have h48' : t.head? ≠ some 48 := fun q => by
          rw [hh] at q
          have := Option.some.inj q
          rw [this] at hd
          exact h48 hd.symm
        have : (a, b) = (-(n : Int), true) := by
          rw [← HR.out, if_pos ⟨by rw [hend.2, show (t.head? == some 48) = false by simpa using h48']; rfl, h48'⟩, hend.1]
        obtain ⟨rfl, rfl⟩ := Prod.mk.inj this
        have e5 : IntKind.i64.wrap (-(n : Int)) = -(n : Int) := by rw [IntKind.wrap_i64]; omega
        clear hend hh hd h48 this h48'
        go_wp2
        go_ret2
        exact ⟨rfl, rfl⟩

set_option maxHeartbeats 1000000 in
theorem l1Read_is (s : ByteArray) (hs : s.size ≤ 1048576) (w : World) (a : Int) (b : Bool) (hr : Hid (rdF (bs s) = (a, b))) :
    Calls Tryz.prog 67 #[.string s] w fun e w' => e = .returned (.tuple #[.int .i64 a, .bool b]) ∧ w' = w := by
  by_cases h0 : 0 < s.size
  · by_cases h45 : s[0] = 45
    · exact l1Read_minus s hs h0 h45 w a b hr
    · exact l1Read_plain s hs h0 h45 w a b hr
  · have hl : bs s = [] := List.eq_nil_of_length_eq_zero (by rw [bs_len]; omega)
    have : (a, b) = ((0 : Int), false) := by rw [← hr.out, hl]; rfl
    obtain ⟨rfl, rfl⟩ := Prod.mk.inj this
    have hne : s.toList.isEmpty = true := by rw [bs_toList, hl]; rfl
    have e0 : (s.size : Int) = 0 := by omega
    have hsh : (s.size : Int) < 1 := by omega
    have ew : IntKind.i64.wrap ((s.size : Int) - 0) = (s.size : Int) := by rw [IntKind.wrap_i64]; omega
    clear this hr
    go_enter Tryz.func67, Tryz.ntmps67
    go_wp2
    go_ret2
    exact ⟨rfl, rfl⟩
end Go.Proofs.YtjkkjpgebcnhgaaGreatDoor.cm
