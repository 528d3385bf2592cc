/- Texts laid together: Ra3 Draw1 DrawS. -/
import Derived.Test.YtaabmkhckbndgaaGreatDoorRa2
import Derived.Test.YtaabmkhckbndgaaGreatDoorRows
import Derived.Deep.DeepCutAuto
import Derived.Deep.RegionHeld3
import Derived.BigQuiet
import Derived.WalkKit
import Derived.ProofKit
import Derived.OpenShut
import Derived.Below
import Derived.OwnWalk
import Derived.Deep.QuietTactic
/- Contracts: the reply at a place, the program's. -/
namespace Go.Proofs.YtaabmkhckbndgaaGreatDoor.cm
open Go.ChangeShapes Go.WideShapes Go.ChangeAt Go.RowKit
open Go.Deep Go.Joins
open Go.Proofs.YtaabmkhckbndgaaGreatDoor.ce Go.Proofs.YtaabmkhckbndgaaGreatDoor.ro Go.Proofs.YtaabmkhckbndgaaGreatDoor.rg
set_option linter.unusedVariables false

theorem oneRs (K : Int) (N : ByteArray) (F : Int) (B : ByteArray) (C M : Int) : ∀ v ∈ [Value.int .i64 K, .string N, .int .i64 F, .string B, .int .i64 C, .int .i64 M], v.oneCell' = true := oneRp ⟨K, N, F, B, C, M⟩
theorem pre_size {z q : ByteArray} (h : bs z <+: bs q) : z.size ≤ q.size := by have := h.length_le; rwa [bs_len, bs_len] at this
theorem hasPre_is (q z : ByteArray) (y : Bool) (hy : Hid ((bs z).isPrefixOf (bs q) = y)) (w : World) : Calls Tryz.prog 132 #[.string q, .string z] w fun e w' => e = .returned (.bool y) ∧ w' = w := by
  by_cases h : (z.size : Int) ≤ (q.size : Int)
  · obtain ⟨x, hx⟩ := hid_ex (q.extract 0 z.size)
    have hxe : q.extract 0 z.size = x := hx.out
    have hxl : (x.toList == z.toList) = y := by
      rw [← hy.out, bs_toList, bs_toList, ← hx.out, bs_extract, List.drop_zero, Nat.sub_zero, ← bs_len]
      refine b_ext ?_
      rw [beq_iff_eq, List.isPrefixOf_iff_prefix, List.prefix_iff_eq_take]
      exact ⟨fun e => e.symm, fun e => e.symm⟩
    go_enter Tryz.func132, Tryz.ntmps132
    go_wp2
    go_ret
    exact ⟨rfl, rfl⟩
  · have ey : y = false := by
      rw [← hy.out]
      cases e : (bs z).isPrefixOf (bs q) with
      | false => rfl
      | true =>
        have := pre_size (List.isPrefixOf_iff_prefix.1 e)
        omega
    subst ey
    go_enter Tryz.func132, Tryz.ntmps132
    go_wp2
    go_ret
    exact ⟨rfl, rfl⟩
theorem hasPrefix_is (q z : ByteArray) (y : Bool) (hy : Hid ((bs z).isPrefixOf (bs q) = y)) (w : World) : Calls Tryz.prog 83 #[.string q, .string z] w fun e w' => e = .returned (.bool y) ∧ w' = w := by
  go_enter Tryz.func83, Tryz.ntmps83
  go_wp2_with (first | (go_at_call 132; refine (hasPre_is q z y hy _).mono ?_; rintro e wq ⟨rfl, hq⟩; subst wq) | (fail))
  go_ret
  exact ⟨rfl, rfl⟩
/-- of which form a shape is -/
structure Fm (n : Nat) (r : Rp) : Prop where
  sN : r.N.size ≤ n
  sB : r.B.size ≤ n
  k : (r.K = 5 ∧ r.M = 0) ∨ (r.K = 6 ∧ r.N = emp ∧ r.F = 0 ∧ r.B = emp ∧ r.C = 0) ∨ (r.K ≠ 5 ∧ r.K ≠ 6 ∧ 1 ≤ r.K ∧ r.K ≤ 12 ∧ r.N = emp ∧ r.F = 0 ∧ r.B = emp ∧ r.C = 0 ∧ r.M = 0)
theorem word_in (ws : List (List UInt8)) : (wordF ⟨ws, false⟩).1 = [] ∨ (wordF ⟨ws, false⟩).1 ∈ ws := by
  unfold wordF
  cases ws with
  | nil => left; rfl
  | cons a b => right; exact List.mem_cons_self ..
theorem line_le (t : List UInt8) : (lineOf t).length ≤ t.length := lineOf_le t
theorem shape_fm {t : List UInt8} {r : Rp} (h : shapeF t = some r) : Fm t.length r := by
  unfold shapeF at h
  split at h
  · unfold shapeW at h
    have hb := kindOf_bd ((splitL 32 (lineOf t)).headD [])
    split at h
    · cases h
    · rename_i h0
      split at h
      · obtain rfl := Option.some.inj h
        exact ⟨Nat.zero_le _, Nat.zero_le _, .inr (.inl ⟨rfl, rfl, rfl, rfl, rfl⟩)⟩
      · rename_i h6
        split at h
        · unfold valF at h
          split at h
          · rename_i hc
            obtain rfl := Option.some.inj h
            refine ⟨?_, ?_, .inl ⟨rfl, rfl⟩⟩
            · show (tx _).size ≤ t.length
              rw [tx_size]
              rcases word_in (splitL 32 (lineOf t)).tail with e | e
              · rw [e]; exact Nat.zero_le _
              · exact Nat.le_trans (split_mem 32 (lineOf t) _ (List.mem_of_mem_tail e)) (line_le t)
            · show (tx _).size ≤ t.length
              rw [tx_size, List.length_take, List.length_drop]
              omega
          · cases h
        · rename_i h5
          obtain rfl := Option.some.inj h
          exact ⟨Nat.zero_le _, Nat.zero_le _, .inr (.inr ⟨h5, h6, by show 1 ≤ kindOf _; omega, hb.2, rfl, rfl, rfl, rfl, rfl⟩)⟩
  · cases h
/-- what ReplyAt tells -/
noncomputable def atR (s : ByteArray) (p : Int) : Rp × Int := if 0 ≤ p ∧ p ≤ s.size then (match repL ((bs s).drop p.toNat) with | some r => (r, p + (showR r).length) | none => (Rp.zero, -1)) else (Rp.zero, -1)
theorem atR_out {s : ByteArray} {p : Int} (h : ¬ (0 ≤ p ∧ p ≤ s.size)) : atR s p = (Rp.zero, -1) := if_neg h
theorem atR_none {s : ByteArray} {p : Nat} (h : repL ((bs s).drop p) = none) : atR s p = (Rp.zero, -1) := by
  unfold atR
  split
  · rw [Int.toNat_natCast, h]
  · rfl
theorem atR_some {s : ByteArray} {p : Nat} (hp : p ≤ s.size) {r : Rp} (h : repL ((bs s).drop p) = some r) : atR s p = (r, (p : Int) + (showR r).length) := by
  unfold atR
  rw [if_pos ⟨by omega, by omega⟩, Int.toNat_natCast, h]
def PostR (x : Rp × Int) (w : World) (e : Ending) (w' : World) : Prop := e = .returned (.tuple #[.agg (csRp x.1).toArray, .int .i64 x.2]) ∧ Below w.heap.size w w'
set_option maxRecDepth 100000 in
set_option maxHeartbeats 2000000 in
theorem ra_nil (s : ByteArray) (p : Nat) (hp : p ≤ s.size) (hs : s.size ≤ 1048576) (q : ByteArray) (hqe : s.extract p s.size = q) (hqs : q.size ≤ 1048576)  (X : Rp × Int) (hout : Hid (X = (Rp.zero, -1))) (hO : Hid (svO (shapeF (bs q)) = .nilIface)) (w : World) (en : EnvX w) :
    Calls Tryz.prog 27 #[.string s, .int .i64 (p : Int)] w fun e w' => PostR X w e w' := by
  have EN : Hid (EnvX w) := en
  clear en
  have m1 : Hid True := trivial
  have hd : (decide ((0 : Int) ≤ (p : Int)) && decide ((p : Int) ≤ (s.size : Int))) = true := by simp; exact hp
  have hp1 : (p : Int) ≤ (s.size : Int) := by omega
  go_enter Tryz.func27, Tryz.ntmps27
  go_upto_region 4 with (first | (clear m1; refine wpList_alloc_v rfl 42 rfl _ zeroRp ?_; intro b4 w1 hb4 hw4 hB1 V4; have hz1 := hB1.size) | (go_at_call 63; refine (with_is _ _ _ true hd _).mono ?_; rintro er wq ⟨rfl, hq⟩; subst wq) | (go_at_call 81; refine (shapeFrom_any q hqs _ (EN.out.grow hB1) _ hO).mono ?_; rintro er w2 ⟨rfl, hB2⟩; have V4b := vblk_grow V4 hB2; have hz2 := hB2.size; have hB12 : Below w.heap.size w w2 := hB1.trans (hB2.mono hz1)) | (fail))
  refine wp_region_held_drew (S := fun w' => True) (by kernel_rfl) (trivial) (fun hHeld => ?_)
  refine wpAnyH_take (i := 0) (oi := { dst := some 17, op := Op.move (Operand.tmp 6), type := 103, pos := "l12_reply.go:176", after := #[], guard := none }) (v := ?_) rfl (by kernel_rfl) (by kernel_rfl) (by kernel_rfl) (fun _ _ _ h => h) (Or.inl ⟨by rfl, ?_⟩) (by assumption) ?_
  rotate_left 1
  · intro w' hSw
    (try dsimp only at hSw)
    go_simp
    (try with_reducible rfl)
  (try simp only [Act.put, List.setIfInBounds_toArray, List.set_cons_zero, List.set_cons_succ])
  refine wpAnyH_ready (rs := [1]) (by kernel_rfl) (by simp) ?_
  refine AllReadyH.cons (o := { dst := some 18, op := Op.call { callee := Callee.value (Operand.func 82), args := #[Operand.tmp 17], argTypes := #[103] }, type := 4, pos := "l12_reply.go:176", after := #[{ on := 0, ground := Ground.data }], guard := none }) rfl (fun KC hKC => ?_) AllReadyH.nil
  go_simp
  go_at_call 82
  refine (right_nil _).mono ?_
  rintro e wq ⟨rfl, hq⟩
  subst wq
  refine hKC.out _ _ (trivial) (fun hHeld2 => ?_)
  clear hKC KC hHeld
  have hHeld := hHeld2
  clear hHeld2
  (try simp only [Act.put, List.setIfInBounds_toArray, List.set_cons_zero, List.set_cons_succ])
  refine wpAnyH_take (i := 2) (oi := { dst := some 19, op := Op.unOp UnOp.not 4 (Operand.tmp 18), type := 4, pos := "l12_reply.go:176", after := #[{ on := 1, ground := Ground.data }], guard := none }) (v := ?_) rfl (by kernel_rfl) (by kernel_rfl) (by kernel_rfl) (fun _ _ _ h => h) (Or.inl ⟨by rfl, ?_⟩) (by assumption) ?_
  rotate_left 1
  · intro w' hSw
    (try dsimp only at hSw)
    go_simp
    (try with_reducible rfl)
  (try simp only [Act.put, List.setIfInBounds_toArray, List.set_cons_zero, List.set_cons_succ])
  refine wpAnyH_take (i := 3) (oi := { dst := some 20, op := Op.move (Operand.tmp 19), type := 4, pos := "l12_reply.go:176", after := #[{ on := 2, ground := Ground.data }, { on := 1, ground := Ground.chain }], guard := none }) (v := ?_) rfl (by kernel_rfl) (by kernel_rfl) (by kernel_rfl) (fun _ _ _ h => h) (Or.inl ⟨by rfl, ?_⟩) (by assumption) ?_
  rotate_left 1
  · intro w' hSw
    (try dsimp only at hSw)
    go_simp
    (try with_reducible rfl)
  (try simp only [Act.put, List.setIfInBounds_toArray, List.set_cons_zero, List.set_cons_succ])
  refine wpAnyH_take (i := 4) (oi := { dst := some 21, op := Op.move (Operand.tmp 0), type := 9, pos := "l12_reply.go:176", after := #[{ on := 3, ground := Ground.guard }], guard := some (3, false) }) (v := undef) rfl (by kernel_rfl) (by kernel_rfl) (by kernel_rfl) (fun _ _ _ h => h) (Or.inr ⟨by rfl, rfl⟩) (by assumption) ?_
  (try simp only [Act.put, List.setIfInBounds_toArray, List.set_cons_zero, List.set_cons_succ])
  refine wpAnyH_take (i := 5) (oi := { dst := some 22, op := Op.move (Operand.tmp 1), type := 2, pos := "l12_reply.go:176", after := #[{ on := 3, ground := Ground.guard }], guard := some (3, false) }) (v := undef) rfl (by kernel_rfl) (by kernel_rfl) (by kernel_rfl) (fun _ _ _ h => h) (Or.inr ⟨by rfl, rfl⟩) (by assumption) ?_
  (try simp only [Act.put, List.setIfInBounds_toArray, List.set_cons_zero, List.set_cons_succ])
  refine wpAnyH_take (i := 6) (oi := { dst := some 23, op := Op.slice 9 (Operand.tmp 21) (some (Operand.tmp 22)) none none, type := 9, pos := "l12_reply.go:176", after := #[{ on := 4, ground := Ground.data }, { on := 5, ground := Ground.data }, { on := 3, ground := Ground.guard }], guard := some (3, false) }) (v := undef) rfl (by kernel_rfl) (by kernel_rfl) (by kernel_rfl) (fun _ _ _ h => h) (Or.inr ⟨by rfl, rfl⟩) (by assumption) ?_
  (try simp only [Act.put, List.setIfInBounds_toArray, List.set_cons_zero, List.set_cons_succ])
  refine wpAnyH_take (i := 7) (oi := { dst := some 24, op := Op.move (Operand.tmp 6), type := 103, pos := "l12_reply.go:176", after := #[{ on := 3, ground := Ground.guard }], guard := some (3, false) }) (v := undef) rfl (by kernel_rfl) (by kernel_rfl) (by kernel_rfl) (fun _ _ _ h => h) (Or.inr ⟨by rfl, rfl⟩) (by assumption) ?_
  (try simp only [Act.put, List.setIfInBounds_toArray, List.set_cons_zero, List.set_cons_succ])
  refine wpAnyH_take (i := 8) (oi := { dst := some 25, op := Op.call { callee := Callee.value (Operand.func 76), args := #[Operand.tmp 24], argTypes := #[103] }, type := 9, pos := "l12_reply.go:176", after := #[{ on := 7, ground := Ground.data }, { on := 3, ground := Ground.chain }, { on := 3, ground := Ground.guard }], guard := some (3, false) }) (v := undef) rfl (by kernel_rfl) (by kernel_rfl) (by kernel_rfl) (fun _ _ _ h => h) (Or.inr ⟨by rfl, rfl⟩) (by assumption) ?_
  (try simp only [Act.put, List.setIfInBounds_toArray, List.set_cons_zero, List.set_cons_succ])
  refine wpAnyH_take (i := 9) (oi := { dst := some 26, op := Op.call { callee := Callee.value (Operand.func 83), args := #[Operand.tmp 23, Operand.tmp 25], argTypes := #[9, 9] }, type := 4, pos := "l12_reply.go:176", after := #[{ on := 6, ground := Ground.data }, { on := 8, ground := Ground.data }, { on := 8, ground := Ground.chain }, { on := 3, ground := Ground.guard }], guard := some (3, false) }) (v := undef) rfl (by kernel_rfl) (by kernel_rfl) (by kernel_rfl) (fun _ _ _ h => h) (Or.inr ⟨by rfl, rfl⟩) (by assumption) ?_
  (try simp only [Act.put, List.setIfInBounds_toArray, List.set_cons_zero, List.set_cons_succ])
  refine wpAnyH_take (i := 10) (oi := { dst := some 27, op := Op.unOp UnOp.not 4 (Operand.tmp 26), type := 4, pos := "l12_reply.go:176", after := #[{ on := 9, ground := Ground.data }, { on := 3, ground := Ground.guard }], guard := some (3, false) }) (v := undef) rfl (by kernel_rfl) (by kernel_rfl) (by kernel_rfl) (fun _ _ _ h => h) (Or.inr ⟨by rfl, rfl⟩) (by assumption) ?_
  (try simp only [Act.put, List.setIfInBounds_toArray, List.set_cons_zero, List.set_cons_succ])
  refine wpAnyH_take (i := 11) (oi := { dst := some 28, op := Op.pick (Operand.tmp 20) (Operand.const (Value.bool true)) (Operand.tmp 27), type := 4, pos := "l12_reply.go:176", after := #[{ on := 3, ground := Ground.data }, { on := 10, ground := Ground.data }], guard := none }) (v := ?_) rfl (by kernel_rfl) (by kernel_rfl) (by kernel_rfl) (fun _ _ _ h => h) (Or.inl ⟨by rfl, ?_⟩) (by assumption) ?_
  rotate_left 1
  · intro w' hSw
    (try dsimp only at hSw)
    go_simp
    (try with_reducible rfl)
  (try simp only [Act.put, List.setIfInBounds_toArray, List.set_cons_zero, List.set_cons_succ])
  refine wpAnyH_done (by kernel_rfl) ?_ _
  go_wp2_with (first | (refine wpList_store_v rfl 42 _ _ rfl b4 [.int .i64 0, .string ⟨#[]⟩, .int .i64 0, .string ⟨#[]⟩, .int .i64 0, .int .i64 0] rfl rfl sizeRp V4b.drew rfl (oneRs 0 ⟨#[]⟩ 0 ⟨#[]⟩ 0 0) ?_; intro w9 hO9 V9) | (fail))
  exact row_ct rfl rfl rfl V9 Tryz.underlying42 sizeRp rfl ⟨by rw [hout.out]; rfl, hB12.drew.trans (hO9.2.2 _ hb4)⟩
set_option maxRecDepth 100000 in
set_option maxHeartbeats 2000000 in
theorem ra_num_no (s : ByteArray) (p : Nat) (hp : p ≤ s.size) (hs : s.size ≤ 1048576) (q : ByteArray) (hqe : s.extract p s.size = q) (hqs : q.size ≤ 1048576) (M : Int) (HR : Hid ((decide (0 ≤ M) && decide (M ≤ 999999999)) = false)) (X : Rp × Int) (hout : Hid (X = (Rp.zero, -1))) (hO : Hid (svO (shapeF (bs q)) = .iface 158 (.int .i64 M))) (w : World) (en : EnvX w) :
    Calls Tryz.prog 27 #[.string s, .int .i64 (p : Int)] w fun e w' => PostR X w e w' := by
  have EN : Hid (EnvX w) := en
  clear en
  have m1 : Hid True := trivial
  have hd : (decide ((0 : Int) ≤ (p : Int)) && decide ((p : Int) ≤ (s.size : Int))) = true := by simp; exact hp
  have hp1 : (p : Int) ≤ (s.size : Int) := by omega
  go_enter Tryz.func27, Tryz.ntmps27
  go_upto_region 4 with (first | (clear m1; refine wpList_alloc_v rfl 42 rfl _ zeroRp ?_; intro b4 w1 hb4 hw4 hB1 V4; have hz1 := hB1.size) | (go_at_call 63; refine (with_is _ _ _ true hd _).mono ?_; rintro er wq ⟨rfl, hq⟩; subst wq) | (go_at_call 81; refine (shapeFrom_any q hqs _ (EN.out.grow hB1) _ hO).mono ?_; rintro er w2 ⟨rfl, hB2⟩; have V4b := vblk_grow V4 hB2; have hz2 := hB2.size; have hB12 : Below w.heap.size w w2 := hB1.trans (hB2.mono hz1)) | (fail))
  refine wp_region_held_drew (S := fun w' => True) (by kernel_rfl) (trivial) (fun hHeld => ?_)
  refine wpAnyH_take (i := 0) (oi := { dst := some 17, op := Op.move (Operand.tmp 6), type := 103, pos := "l12_reply.go:176", after := #[], guard := none }) (v := ?_) rfl (by kernel_rfl) (by kernel_rfl) (by kernel_rfl) (fun _ _ _ h => h) (Or.inl ⟨by rfl, ?_⟩) (by assumption) ?_
  rotate_left 1
  · intro w' hSw
    (try dsimp only at hSw)
    go_simp
    (try with_reducible rfl)
  (try simp only [Act.put, List.setIfInBounds_toArray, List.set_cons_zero, List.set_cons_succ])
  refine wpAnyH_ready (rs := [1]) (by kernel_rfl) (by simp) ?_
  refine AllReadyH.cons (o := { dst := some 18, op := Op.call { callee := Callee.value (Operand.func 82), args := #[Operand.tmp 17], argTypes := #[103] }, type := 4, pos := "l12_reply.go:176", after := #[{ on := 0, ground := Ground.data }], guard := none }) rfl (fun KC hKC => ?_) AllReadyH.nil
  go_simp
  go_at_call 82
  refine (right_num M false HR.out _).mono ?_
  rintro e wq ⟨rfl, hq⟩
  subst wq
  refine hKC.out _ _ (trivial) (fun hHeld2 => ?_)
  clear hKC KC hHeld
  have hHeld := hHeld2
  clear hHeld2
  (try simp only [Act.put, List.setIfInBounds_toArray, List.set_cons_zero, List.set_cons_succ])
  refine wpAnyH_take (i := 2) (oi := { dst := some 19, op := Op.unOp UnOp.not 4 (Operand.tmp 18), type := 4, pos := "l12_reply.go:176", after := #[{ on := 1, ground := Ground.data }], guard := none }) (v := ?_) rfl (by kernel_rfl) (by kernel_rfl) (by kernel_rfl) (fun _ _ _ h => h) (Or.inl ⟨by rfl, ?_⟩) (by assumption) ?_
  rotate_left 1
  · intro w' hSw
    (try dsimp only at hSw)
    go_simp
    (try with_reducible rfl)
  (try simp only [Act.put, List.setIfInBounds_toArray, List.set_cons_zero, List.set_cons_succ])
  refine wpAnyH_take (i := 3) (oi := { dst := some 20, op := Op.move (Operand.tmp 19), type := 4, pos := "l12_reply.go:176", after := #[{ on := 2, ground := Ground.data }, { on := 1, ground := Ground.chain }], guard := none }) (v := ?_) rfl (by kernel_rfl) (by kernel_rfl) (by kernel_rfl) (fun _ _ _ h => h) (Or.inl ⟨by rfl, ?_⟩) (by assumption) ?_
  rotate_left 1
  · intro w' hSw
    (try dsimp only at hSw)
    go_simp
    (try with_reducible rfl)
  (try simp only [Act.put, List.setIfInBounds_toArray, List.set_cons_zero, List.set_cons_succ])
  refine wpAnyH_take (i := 4) (oi := { dst := some 21, op := Op.move (Operand.tmp 0), type := 9, pos := "l12_reply.go:176", after := #[{ on := 3, ground := Ground.guard }], guard := some (3, false) }) (v := undef) rfl (by kernel_rfl) (by kernel_rfl) (by kernel_rfl) (fun _ _ _ h => h) (Or.inr ⟨by rfl, rfl⟩) (by assumption) ?_
  (try simp only [Act.put, List.setIfInBounds_toArray, List.set_cons_zero, List.set_cons_succ])
  refine wpAnyH_take (i := 5) (oi := { dst := some 22, op := Op.move (Operand.tmp 1), type := 2, pos := "l12_reply.go:176", after := #[{ on := 3, ground := Ground.guard }], guard := some (3, false) }) (v := undef) rfl (by kernel_rfl) (by kernel_rfl) (by kernel_rfl) (fun _ _ _ h => h) (Or.inr ⟨by rfl, rfl⟩) (by assumption) ?_
  (try simp only [Act.put, List.setIfInBounds_toArray, List.set_cons_zero, List.set_cons_succ])
  refine wpAnyH_take (i := 6) (oi := { dst := some 23, op := Op.slice 9 (Operand.tmp 21) (some (Operand.tmp 22)) none none, type := 9, pos := "l12_reply.go:176", after := #[{ on := 4, ground := Ground.data }, { on := 5, ground := Ground.data }, { on := 3, ground := Ground.guard }], guard := some (3, false) }) (v := undef) rfl (by kernel_rfl) (by kernel_rfl) (by kernel_rfl) (fun _ _ _ h => h) (Or.inr ⟨by rfl, rfl⟩) (by assumption) ?_
  (try simp only [Act.put, List.setIfInBounds_toArray, List.set_cons_zero, List.set_cons_succ])
  refine wpAnyH_take (i := 7) (oi := { dst := some 24, op := Op.move (Operand.tmp 6), type := 103, pos := "l12_reply.go:176", after := #[{ on := 3, ground := Ground.guard }], guard := some (3, false) }) (v := undef) rfl (by kernel_rfl) (by kernel_rfl) (by kernel_rfl) (fun _ _ _ h => h) (Or.inr ⟨by rfl, rfl⟩) (by assumption) ?_
  (try simp only [Act.put, List.setIfInBounds_toArray, List.set_cons_zero, List.set_cons_succ])
  refine wpAnyH_take (i := 8) (oi := { dst := some 25, op := Op.call { callee := Callee.value (Operand.func 76), args := #[Operand.tmp 24], argTypes := #[103] }, type := 9, pos := "l12_reply.go:176", after := #[{ on := 7, ground := Ground.data }, { on := 3, ground := Ground.chain }, { on := 3, ground := Ground.guard }], guard := some (3, false) }) (v := undef) rfl (by kernel_rfl) (by kernel_rfl) (by kernel_rfl) (fun _ _ _ h => h) (Or.inr ⟨by rfl, rfl⟩) (by assumption) ?_
  (try simp only [Act.put, List.setIfInBounds_toArray, List.set_cons_zero, List.set_cons_succ])
  refine wpAnyH_take (i := 9) (oi := { dst := some 26, op := Op.call { callee := Callee.value (Operand.func 83), args := #[Operand.tmp 23, Operand.tmp 25], argTypes := #[9, 9] }, type := 4, pos := "l12_reply.go:176", after := #[{ on := 6, ground := Ground.data }, { on := 8, ground := Ground.data }, { on := 8, ground := Ground.chain }, { on := 3, ground := Ground.guard }], guard := some (3, false) }) (v := undef) rfl (by kernel_rfl) (by kernel_rfl) (by kernel_rfl) (fun _ _ _ h => h) (Or.inr ⟨by rfl, rfl⟩) (by assumption) ?_
  (try simp only [Act.put, List.setIfInBounds_toArray, List.set_cons_zero, List.set_cons_succ])
  refine wpAnyH_take (i := 10) (oi := { dst := some 27, op := Op.unOp UnOp.not 4 (Operand.tmp 26), type := 4, pos := "l12_reply.go:176", after := #[{ on := 9, ground := Ground.data }, { on := 3, ground := Ground.guard }], guard := some (3, false) }) (v := undef) rfl (by kernel_rfl) (by kernel_rfl) (by kernel_rfl) (fun _ _ _ h => h) (Or.inr ⟨by rfl, rfl⟩) (by assumption) ?_
  (try simp only [Act.put, List.setIfInBounds_toArray, List.set_cons_zero, List.set_cons_succ])
  refine wpAnyH_take (i := 11) (oi := { dst := some 28, op := Op.pick (Operand.tmp 20) (Operand.const (Value.bool true)) (Operand.tmp 27), type := 4, pos := "l12_reply.go:176", after := #[{ on := 3, ground := Ground.data }, { on := 10, ground := Ground.data }], guard := none }) (v := ?_) rfl (by kernel_rfl) (by kernel_rfl) (by kernel_rfl) (fun _ _ _ h => h) (Or.inl ⟨by rfl, ?_⟩) (by assumption) ?_
  rotate_left 1
  · intro w' hSw
    (try dsimp only at hSw)
    go_simp
    (try with_reducible rfl)
  (try simp only [Act.put, List.setIfInBounds_toArray, List.set_cons_zero, List.set_cons_succ])
  refine wpAnyH_done (by kernel_rfl) ?_ _
  go_wp2_with (first | (refine wpList_store_v rfl 42 _ _ rfl b4 [.int .i64 0, .string ⟨#[]⟩, .int .i64 0, .string ⟨#[]⟩, .int .i64 0, .int .i64 0] rfl rfl sizeRp V4b.drew rfl (oneRs 0 ⟨#[]⟩ 0 ⟨#[]⟩ 0 0) ?_; intro w9 hO9 V9) | (fail))
  exact row_ct rfl rfl rfl V9 Tryz.underlying42 sizeRp rfl ⟨by rw [hout.out]; rfl, hB12.drew.trans (hO9.2.2 _ hb4)⟩
set_option maxRecDepth 100000 in
set_option maxHeartbeats 2000000 in
theorem ra_val_no (s : ByteArray) (p : Nat) (hp : p ≤ s.size) (hs : s.size ≤ 1048576) (q : ByteArray) (hqe : s.extract p s.size = q) (hqs : q.size ≤ 1048576) (N : ByteArray) (F : Int) (B : ByteArray) (C : Int) (hN : N.size ≤ 9223372036854775807) (hB : B.size ≤ 9223372036854775807) (HR : Hid ((nameB N && (decide (0 ≤ F) && decide (F ≤ 65535)) && decide ((B.size : Int) ≤ 64) && (decide (0 ≤ C) && decide (C ≤ 1000000))) = false)) (X : Rp × Int) (hout : Hid (X = (Rp.zero, -1))) (hO : Hid (svO (shapeF (bs q)) = .iface 160 (.agg #[.string N, .int .i64 F, .string B, .int .i64 C]))) (w : World) (en : EnvX w) :
    Calls Tryz.prog 27 #[.string s, .int .i64 (p : Int)] w fun e w' => PostR X w e w' := by
  have EN : Hid (EnvX w) := en
  clear en
  have m1 : Hid True := trivial
  have hd : (decide ((0 : Int) ≤ (p : Int)) && decide ((p : Int) ≤ (s.size : Int))) = true := by simp; exact hp
  have hp1 : (p : Int) ≤ (s.size : Int) := by omega
  go_enter Tryz.func27, Tryz.ntmps27
  go_upto_region 4 with (first | (clear m1; refine wpList_alloc_v rfl 42 rfl _ zeroRp ?_; intro b4 w1 hb4 hw4 hB1 V4; have hz1 := hB1.size) | (go_at_call 63; refine (with_is _ _ _ true hd _).mono ?_; rintro er wq ⟨rfl, hq⟩; subst wq) | (go_at_call 81; refine (shapeFrom_any q hqs _ (EN.out.grow hB1) _ hO).mono ?_; rintro er w2 ⟨rfl, hB2⟩; have V4b := vblk_grow V4 hB2; have hz2 := hB2.size; have hB12 : Below w.heap.size w w2 := hB1.trans (hB2.mono hz1)) | (fail))
  refine wp_region_held_drew (S := fun w' => True) (by kernel_rfl) (trivial) (fun hHeld => ?_)
  refine wpAnyH_take (i := 0) (oi := { dst := some 17, op := Op.move (Operand.tmp 6), type := 103, pos := "l12_reply.go:176", after := #[], guard := none }) (v := ?_) rfl (by kernel_rfl) (by kernel_rfl) (by kernel_rfl) (fun _ _ _ h => h) (Or.inl ⟨by rfl, ?_⟩) (by assumption) ?_
  rotate_left 1
  · intro w' hSw
    (try dsimp only at hSw)
    go_simp
    (try with_reducible rfl)
  (try simp only [Act.put, List.setIfInBounds_toArray, List.set_cons_zero, List.set_cons_succ])
  refine wpAnyH_ready (rs := [1]) (by kernel_rfl) (by simp) ?_
  refine AllReadyH.cons (o := { dst := some 18, op := Op.call { callee := Callee.value (Operand.func 82), args := #[Operand.tmp 17], argTypes := #[103] }, type := 4, pos := "l12_reply.go:176", after := #[{ on := 0, ground := Ground.data }], guard := none }) rfl (fun KC hKC => ?_) AllReadyH.nil
  go_simp
  go_at_call 82
  refine (right_val N F B C false HR hN hB _).mono ?_
  rintro e w3 ⟨rfl, hB3⟩
  refine hKC.out _ _ (trivial) (fun hHeld2 => ?_)
  clear hKC KC hHeld
  have hHeld := hHeld2
  clear hHeld2
  (try simp only [Act.put, List.setIfInBounds_toArray, List.set_cons_zero, List.set_cons_succ])
  refine wpAnyH_take (i := 2) (oi := { dst := some 19, op := Op.unOp UnOp.not 4 (Operand.tmp 18), type := 4, pos := "l12_reply.go:176", after := #[{ on := 1, ground := Ground.data }], guard := none }) (v := ?_) rfl (by kernel_rfl) (by kernel_rfl) (by kernel_rfl) (fun _ _ _ h => h) (Or.inl ⟨by rfl, ?_⟩) (by assumption) ?_
  rotate_left 1
  · intro w' hSw
    (try dsimp only at hSw)
    go_simp
    (try with_reducible rfl)
  (try simp only [Act.put, List.setIfInBounds_toArray, List.set_cons_zero, List.set_cons_succ])
  refine wpAnyH_take (i := 3) (oi := { dst := some 20, op := Op.move (Operand.tmp 19), type := 4, pos := "l12_reply.go:176", after := #[{ on := 2, ground := Ground.data }, { on := 1, ground := Ground.chain }], guard := none }) (v := ?_) rfl (by kernel_rfl) (by kernel_rfl) (by kernel_rfl) (fun _ _ _ h => h) (Or.inl ⟨by rfl, ?_⟩) (by assumption) ?_
  rotate_left 1
  · intro w' hSw
    (try dsimp only at hSw)
    go_simp
    (try with_reducible rfl)
  (try simp only [Act.put, List.setIfInBounds_toArray, List.set_cons_zero, List.set_cons_succ])
  refine wpAnyH_take (i := 4) (oi := { dst := some 21, op := Op.move (Operand.tmp 0), type := 9, pos := "l12_reply.go:176", after := #[{ on := 3, ground := Ground.guard }], guard := some (3, false) }) (v := undef) rfl (by kernel_rfl) (by kernel_rfl) (by kernel_rfl) (fun _ _ _ h => h) (Or.inr ⟨by rfl, rfl⟩) (by assumption) ?_
  (try simp only [Act.put, List.setIfInBounds_toArray, List.set_cons_zero, List.set_cons_succ])
  refine wpAnyH_take (i := 5) (oi := { dst := some 22, op := Op.move (Operand.tmp 1), type := 2, pos := "l12_reply.go:176", after := #[{ on := 3, ground := Ground.guard }], guard := some (3, false) }) (v := undef) rfl (by kernel_rfl) (by kernel_rfl) (by kernel_rfl) (fun _ _ _ h => h) (Or.inr ⟨by rfl, rfl⟩) (by assumption) ?_
  (try simp only [Act.put, List.setIfInBounds_toArray, List.set_cons_zero, List.set_cons_succ])
  refine wpAnyH_take (i := 6) (oi := { dst := some 23, op := Op.slice 9 (Operand.tmp 21) (some (Operand.tmp 22)) none none, type := 9, pos := "l12_reply.go:176", after := #[{ on := 4, ground := Ground.data }, { on := 5, ground := Ground.data }, { on := 3, ground := Ground.guard }], guard := some (3, false) }) (v := undef) rfl (by kernel_rfl) (by kernel_rfl) (by kernel_rfl) (fun _ _ _ h => h) (Or.inr ⟨by rfl, rfl⟩) (by assumption) ?_
  (try simp only [Act.put, List.setIfInBounds_toArray, List.set_cons_zero, List.set_cons_succ])
  refine wpAnyH_take (i := 7) (oi := { dst := some 24, op := Op.move (Operand.tmp 6), type := 103, pos := "l12_reply.go:176", after := #[{ on := 3, ground := Ground.guard }], guard := some (3, false) }) (v := undef) rfl (by kernel_rfl) (by kernel_rfl) (by kernel_rfl) (fun _ _ _ h => h) (Or.inr ⟨by rfl, rfl⟩) (by assumption) ?_
  (try simp only [Act.put, List.setIfInBounds_toArray, List.set_cons_zero, List.set_cons_succ])
  refine wpAnyH_take (i := 8) (oi := { dst := some 25, op := Op.call { callee := Callee.value (Operand.func 76), args := #[Operand.tmp 24], argTypes := #[103] }, type := 9, pos := "l12_reply.go:176", after := #[{ on := 7, ground := Ground.data }, { on := 3, ground := Ground.chain }, { on := 3, ground := Ground.guard }], guard := some (3, false) }) (v := undef) rfl (by kernel_rfl) (by kernel_rfl) (by kernel_rfl) (fun _ _ _ h => h) (Or.inr ⟨by rfl, rfl⟩) (by assumption) ?_
  (try simp only [Act.put, List.setIfInBounds_toArray, List.set_cons_zero, List.set_cons_succ])
  refine wpAnyH_take (i := 9) (oi := { dst := some 26, op := Op.call { callee := Callee.value (Operand.func 83), args := #[Operand.tmp 23, Operand.tmp 25], argTypes := #[9, 9] }, type := 4, pos := "l12_reply.go:176", after := #[{ on := 6, ground := Ground.data }, { on := 8, ground := Ground.data }, { on := 8, ground := Ground.chain }, { on := 3, ground := Ground.guard }], guard := some (3, false) }) (v := undef) rfl (by kernel_rfl) (by kernel_rfl) (by kernel_rfl) (fun _ _ _ h => h) (Or.inr ⟨by rfl, rfl⟩) (by assumption) ?_
  (try simp only [Act.put, List.setIfInBounds_toArray, List.set_cons_zero, List.set_cons_succ])
  refine wpAnyH_take (i := 10) (oi := { dst := some 27, op := Op.unOp UnOp.not 4 (Operand.tmp 26), type := 4, pos := "l12_reply.go:176", after := #[{ on := 9, ground := Ground.data }, { on := 3, ground := Ground.guard }], guard := some (3, false) }) (v := undef) rfl (by kernel_rfl) (by kernel_rfl) (by kernel_rfl) (fun _ _ _ h => h) (Or.inr ⟨by rfl, rfl⟩) (by assumption) ?_
  (try simp only [Act.put, List.setIfInBounds_toArray, List.set_cons_zero, List.set_cons_succ])
  refine wpAnyH_take (i := 11) (oi := { dst := some 28, op := Op.pick (Operand.tmp 20) (Operand.const (Value.bool true)) (Operand.tmp 27), type := 4, pos := "l12_reply.go:176", after := #[{ on := 3, ground := Ground.data }, { on := 10, ground := Ground.data }], guard := none }) (v := ?_) rfl (by kernel_rfl) (by kernel_rfl) (by kernel_rfl) (fun _ _ _ h => h) (Or.inl ⟨by rfl, ?_⟩) (by assumption) ?_
  rotate_left 1
  · intro w' hSw
    (try dsimp only at hSw)
    go_simp
    (try with_reducible rfl)
  (try simp only [Act.put, List.setIfInBounds_toArray, List.set_cons_zero, List.set_cons_succ])
  refine wpAnyH_done (by kernel_rfl) ?_ _
  go_wp2_with (first | (refine wpList_store_v rfl 42 _ _ rfl b4 [.int .i64 0, .string ⟨#[]⟩, .int .i64 0, .string ⟨#[]⟩, .int .i64 0, .int .i64 0] rfl rfl sizeRp (vblk_grow V4b.drew hB3) rfl (oneRs 0 ⟨#[]⟩ 0 ⟨#[]⟩ 0 0) ?_; intro w9 hO9 V9) | (fail))
  exact row_ct rfl rfl rfl V9 Tryz.underlying42 sizeRp rfl ⟨by rw [hout.out]; rfl, (hB12.drew.trans (hB3.mono hB12.size)).trans (hO9.2.2 _ hb4)⟩
set_option maxRecDepth 100000 in
set_option maxHeartbeats 2000000 in
theorem ra_bare_pre (s : ByteArray) (p : Nat) (hp : p ≤ s.size) (hs : s.size ≤ 1048576) (q : ByteArray) (hqe : s.extract p s.size = q) (hqs : q.size ≤ 1048576) (K : Int)  (z : ByteArray) (SHN : Hid (∀ w', EnvP w' → Calls Tryz.prog 76 #[.iface 156 (.int .i64 K)] w' fun e w2 => e = .returned (.string z) ∧ Below w'.heap.size w' w2)) (HP : Hid ((bs z).isPrefixOf (bs q) = false)) (X : Rp × Int) (hout : Hid (X = (Rp.zero, -1))) (hO : Hid (svO (shapeF (bs q)) = .iface 156 (.int .i64 K))) (w : World) (en : EnvX w) :
    Calls Tryz.prog 27 #[.string s, .int .i64 (p : Int)] w fun e w' => PostR X w e w' := by
  have EN : Hid (EnvX w) := en
  clear en
  have m1 : Hid True := trivial
  have hd : (decide ((0 : Int) ≤ (p : Int)) && decide ((p : Int) ≤ (s.size : Int))) = true := by simp; exact hp
  have hp1 : (p : Int) ≤ (s.size : Int) := by omega
  go_enter Tryz.func27, Tryz.ntmps27
  go_upto_region 4 with (first | (clear m1; refine wpList_alloc_v rfl 42 rfl _ zeroRp ?_; intro b4 w1 hb4 hw4 hB1 V4; have hz1 := hB1.size) | (go_at_call 63; refine (with_is _ _ _ true hd _).mono ?_; rintro er wq ⟨rfl, hq⟩; subst wq) | (go_at_call 81; refine (shapeFrom_any q hqs _ (EN.out.grow hB1) _ hO).mono ?_; rintro er w2 ⟨rfl, hB2⟩; have V4b := vblk_grow V4 hB2; have hz2 := hB2.size; have hB12 : Below w.heap.size w w2 := hB1.trans (hB2.mono hz1)) | (fail))
  refine wp_region_held_drew (S := fun w' => True) (by kernel_rfl) (trivial) (fun hHeld => ?_)
  refine wpAnyH_take (i := 0) (oi := { dst := some 17, op := Op.move (Operand.tmp 6), type := 103, pos := "l12_reply.go:176", after := #[], guard := none }) (v := ?_) rfl (by kernel_rfl) (by kernel_rfl) (by kernel_rfl) (fun _ _ _ h => h) (Or.inl ⟨by rfl, ?_⟩) (by assumption) ?_
  rotate_left 1
  · intro w' hSw
    (try dsimp only at hSw)
    go_simp
    (try with_reducible rfl)
  (try simp only [Act.put, List.setIfInBounds_toArray, List.set_cons_zero, List.set_cons_succ])
  refine wpAnyH_ready (rs := [1]) (by kernel_rfl) (by simp) ?_
  refine AllReadyH.cons (o := { dst := some 18, op := Op.call { callee := Callee.value (Operand.func 82), args := #[Operand.tmp 17], argTypes := #[103] }, type := 4, pos := "l12_reply.go:176", after := #[{ on := 0, ground := Ground.data }], guard := none }) rfl (fun KC hKC => ?_) AllReadyH.nil
  go_simp
  go_at_call 82
  refine (right_bare K _).mono ?_
  rintro e wq ⟨rfl, hq⟩
  subst wq
  refine hKC.out _ _ (trivial) (fun hHeld2 => ?_)
  clear hKC KC hHeld
  have hHeld := hHeld2
  clear hHeld2
  (try simp only [Act.put, List.setIfInBounds_toArray, List.set_cons_zero, List.set_cons_succ])
  refine wpAnyH_take (i := 2) (oi := { dst := some 19, op := Op.unOp UnOp.not 4 (Operand.tmp 18), type := 4, pos := "l12_reply.go:176", after := #[{ on := 1, ground := Ground.data }], guard := none }) (v := ?_) rfl (by kernel_rfl) (by kernel_rfl) (by kernel_rfl) (fun _ _ _ h => h) (Or.inl ⟨by rfl, ?_⟩) (by assumption) ?_
  rotate_left 1
  · intro w' hSw
    (try dsimp only at hSw)
    go_simp
    (try with_reducible rfl)
  (try simp only [Act.put, List.setIfInBounds_toArray, List.set_cons_zero, List.set_cons_succ])
  refine wpAnyH_take (i := 3) (oi := { dst := some 20, op := Op.move (Operand.tmp 19), type := 4, pos := "l12_reply.go:176", after := #[{ on := 2, ground := Ground.data }, { on := 1, ground := Ground.chain }], guard := none }) (v := ?_) rfl (by kernel_rfl) (by kernel_rfl) (by kernel_rfl) (fun _ _ _ h => h) (Or.inl ⟨by rfl, ?_⟩) (by assumption) ?_
  rotate_left 1
  · intro w' hSw
    (try dsimp only at hSw)
    go_simp
    (try with_reducible rfl)
  (try simp only [Act.put, List.setIfInBounds_toArray, List.set_cons_zero, List.set_cons_succ])
  refine wpAnyH_take (i := 4) (oi := { dst := some 21, op := Op.move (Operand.tmp 0), type := 9, pos := "l12_reply.go:176", after := #[{ on := 3, ground := Ground.guard }], guard := some (3, false) }) (v := ?_) rfl (by kernel_rfl) (by kernel_rfl) (by kernel_rfl) (fun _ _ _ h => h) (Or.inl ⟨by rfl, ?_⟩) (by assumption) ?_
  rotate_left 1
  · intro w' hSw
    (try dsimp only at hSw)
    go_simp
    (try with_reducible rfl)
  (try simp only [Act.put, List.setIfInBounds_toArray, List.set_cons_zero, List.set_cons_succ])
  refine wpAnyH_take (i := 5) (oi := { dst := some 22, op := Op.move (Operand.tmp 1), type := 2, pos := "l12_reply.go:176", after := #[{ on := 3, ground := Ground.guard }], guard := some (3, false) }) (v := ?_) rfl (by kernel_rfl) (by kernel_rfl) (by kernel_rfl) (fun _ _ _ h => h) (Or.inl ⟨by rfl, ?_⟩) (by assumption) ?_
  rotate_left 1
  · intro w' hSw
    (try dsimp only at hSw)
    go_simp
    (try with_reducible rfl)
  (try simp only [Act.put, List.setIfInBounds_toArray, List.set_cons_zero, List.set_cons_succ])
  refine wpAnyH_take (i := 6) (oi := { dst := some 23, op := Op.slice 9 (Operand.tmp 21) (some (Operand.tmp 22)) none none, type := 9, pos := "l12_reply.go:176", after := #[{ on := 4, ground := Ground.data }, { on := 5, ground := Ground.data }, { on := 3, ground := Ground.guard }], guard := some (3, false) }) (v := ?_) rfl (by kernel_rfl) (by kernel_rfl) (by kernel_rfl) (fun _ _ _ h => h) (Or.inl ⟨by rfl, ?_⟩) (by assumption) ?_
  rotate_left 1
  · intro w' hSw
    (try dsimp only at hSw)
    go_simp
    (try with_reducible rfl)
  (try simp only [Act.put, List.setIfInBounds_toArray, List.set_cons_zero, List.set_cons_succ])
  refine wpAnyH_take (i := 7) (oi := { dst := some 24, op := Op.move (Operand.tmp 6), type := 103, pos := "l12_reply.go:176", after := #[{ on := 3, ground := Ground.guard }], guard := some (3, false) }) (v := ?_) rfl (by kernel_rfl) (by kernel_rfl) (by kernel_rfl) (fun _ _ _ h => h) (Or.inl ⟨by rfl, ?_⟩) (by assumption) ?_
  rotate_left 1
  · intro w' hSw
    (try dsimp only at hSw)
    go_simp
    (try with_reducible rfl)
  (try simp only [Act.put, List.setIfInBounds_toArray, List.set_cons_zero, List.set_cons_succ])
  refine wpAnyH_ready (rs := [8]) (by kernel_rfl) (by simp) ?_
  refine AllReadyH.cons (o := { dst := some 25, op := Op.call { callee := Callee.value (Operand.func 76), args := #[Operand.tmp 24], argTypes := #[103] }, type := 9, pos := "l12_reply.go:176", after := #[{ on := 7, ground := Ground.data }, { on := 3, ground := Ground.chain }, { on := 3, ground := Ground.guard }], guard := some (3, false) }) rfl (fun KC hKC => ?_) AllReadyH.nil
  go_simp
  go_at_call 76
  refine (SHN.out _ (EN.out.p.grow (by first | exact hB12.drew.trans (hB3.mono hB12.size) | exact hB12.drew))).mono ?_
  rintro e w4 ⟨rfl, hB4⟩
  refine hKC.out _ _ (trivial) (fun hHeld2 => ?_)
  clear hKC KC hHeld
  have hHeld := hHeld2
  clear hHeld2
  (try simp only [Act.put, List.setIfInBounds_toArray, List.set_cons_zero, List.set_cons_succ])
  refine wpAnyH_ready (rs := [9]) (by kernel_rfl) (by simp) ?_
  refine AllReadyH.cons (o := { dst := some 26, op := Op.call { callee := Callee.value (Operand.func 83), args := #[Operand.tmp 23, Operand.tmp 25], argTypes := #[9, 9] }, type := 4, pos := "l12_reply.go:176", after := #[{ on := 6, ground := Ground.data }, { on := 8, ground := Ground.data }, { on := 8, ground := Ground.chain }, { on := 3, ground := Ground.guard }], guard := some (3, false) }) rfl (fun KC hKC => ?_) AllReadyH.nil
  go_simp
  go_at_call 83
  refine (hasPrefix_is q z false HP _).mono ?_
  rintro e wq ⟨rfl, hq⟩
  subst wq
  refine hKC.out _ _ (trivial) (fun hHeld2 => ?_)
  clear hKC KC hHeld
  have hHeld := hHeld2
  clear hHeld2
  (try simp only [Act.put, List.setIfInBounds_toArray, List.set_cons_zero, List.set_cons_succ])
  refine wpAnyH_take (i := 10) (oi := { dst := some 27, op := Op.unOp UnOp.not 4 (Operand.tmp 26), type := 4, pos := "l12_reply.go:176", after := #[{ on := 9, ground := Ground.data }, { on := 3, ground := Ground.guard }], guard := some (3, false) }) (v := ?_) rfl (by kernel_rfl) (by kernel_rfl) (by kernel_rfl) (fun _ _ _ h => h) (Or.inl ⟨by rfl, ?_⟩) (by assumption) ?_
  rotate_left 1
  · intro w' hSw
    (try dsimp only at hSw)
    go_simp
    (try with_reducible rfl)
  (try simp only [Act.put, List.setIfInBounds_toArray, List.set_cons_zero, List.set_cons_succ])
  refine wpAnyH_take (i := 11) (oi := { dst := some 28, op := Op.pick (Operand.tmp 20) (Operand.const (Value.bool true)) (Operand.tmp 27), type := 4, pos := "l12_reply.go:176", after := #[{ on := 3, ground := Ground.data }, { on := 10, ground := Ground.data }], guard := none }) (v := ?_) rfl (by kernel_rfl) (by kernel_rfl) (by kernel_rfl) (fun _ _ _ h => h) (Or.inl ⟨by rfl, ?_⟩) (by assumption) ?_
  rotate_left 1
  · intro w' hSw
    (try dsimp only at hSw)
    go_simp
    (try with_reducible rfl)
  (try simp only [Act.put, List.setIfInBounds_toArray, List.set_cons_zero, List.set_cons_succ])
  refine wpAnyH_done (by kernel_rfl) ?_ _
  go_wp2_with (first | (refine wpList_store_v rfl 42 _ _ rfl b4 [.int .i64 0, .string ⟨#[]⟩, .int .i64 0, .string ⟨#[]⟩, .int .i64 0, .int .i64 0] rfl rfl sizeRp (vblk_grow V4b.drew hB4) rfl (oneRs 0 ⟨#[]⟩ 0 ⟨#[]⟩ 0 0) ?_; intro w9 hO9 V9) | (fail))
  exact row_ct rfl rfl rfl V9 Tryz.underlying42 sizeRp rfl ⟨by rw [hout.out]; rfl, (hB12.drew.trans (hB4.mono hB12.size)).trans (hO9.2.2 _ hb4)⟩
set_option maxRecDepth 100000 in
set_option maxHeartbeats 2000000 in
theorem ra_num_pre (s : ByteArray) (p : Nat) (hp : p ≤ s.size) (hs : s.size ≤ 1048576) (q : ByteArray) (hqe : s.extract p s.size = q) (hqs : q.size ≤ 1048576) (M : Int) (HR : Hid ((decide (0 ≤ M) && decide (M ≤ 999999999)) = true)) (z : ByteArray) (SHN : Hid (∀ w', EnvP w' → Calls Tryz.prog 76 #[.iface 158 (.int .i64 M)] w' fun e w2 => e = .returned (.string z) ∧ Below w'.heap.size w' w2)) (HP : Hid ((bs z).isPrefixOf (bs q) = false)) (X : Rp × Int) (hout : Hid (X = (Rp.zero, -1))) (hO : Hid (svO (shapeF (bs q)) = .iface 158 (.int .i64 M))) (w : World) (en : EnvX w) :
    Calls Tryz.prog 27 #[.string s, .int .i64 (p : Int)] w fun e w' => PostR X w e w' := by
  have EN : Hid (EnvX w) := en
  clear en
  have m1 : Hid True := trivial
  have hd : (decide ((0 : Int) ≤ (p : Int)) && decide ((p : Int) ≤ (s.size : Int))) = true := by simp; exact hp
  have hp1 : (p : Int) ≤ (s.size : Int) := by omega
  go_enter Tryz.func27, Tryz.ntmps27
  go_upto_region 4 with (first | (clear m1; refine wpList_alloc_v rfl 42 rfl _ zeroRp ?_; intro b4 w1 hb4 hw4 hB1 V4; have hz1 := hB1.size) | (go_at_call 63; refine (with_is _ _ _ true hd _).mono ?_; rintro er wq ⟨rfl, hq⟩; subst wq) | (go_at_call 81; refine (shapeFrom_any q hqs _ (EN.out.grow hB1) _ hO).mono ?_; rintro er w2 ⟨rfl, hB2⟩; have V4b := vblk_grow V4 hB2; have hz2 := hB2.size; have hB12 : Below w.heap.size w w2 := hB1.trans (hB2.mono hz1)) | (fail))
  refine wp_region_held_drew (S := fun w' => True) (by kernel_rfl) (trivial) (fun hHeld => ?_)
  refine wpAnyH_take (i := 0) (oi := { dst := some 17, op := Op.move (Operand.tmp 6), type := 103, pos := "l12_reply.go:176", after := #[], guard := none }) (v := ?_) rfl (by kernel_rfl) (by kernel_rfl) (by kernel_rfl) (fun _ _ _ h => h) (Or.inl ⟨by rfl, ?_⟩) (by assumption) ?_
  rotate_left 1
  · intro w' hSw
    (try dsimp only at hSw)
    go_simp
    (try with_reducible rfl)
  (try simp only [Act.put, List.setIfInBounds_toArray, List.set_cons_zero, List.set_cons_succ])
  refine wpAnyH_ready (rs := [1]) (by kernel_rfl) (by simp) ?_
  refine AllReadyH.cons (o := { dst := some 18, op := Op.call { callee := Callee.value (Operand.func 82), args := #[Operand.tmp 17], argTypes := #[103] }, type := 4, pos := "l12_reply.go:176", after := #[{ on := 0, ground := Ground.data }], guard := none }) rfl (fun KC hKC => ?_) AllReadyH.nil
  go_simp
  go_at_call 82
  refine (right_num M true HR.out _).mono ?_
  rintro e wq ⟨rfl, hq⟩
  subst wq
  refine hKC.out _ _ (trivial) (fun hHeld2 => ?_)
  clear hKC KC hHeld
  have hHeld := hHeld2
  clear hHeld2
  (try simp only [Act.put, List.setIfInBounds_toArray, List.set_cons_zero, List.set_cons_succ])
  refine wpAnyH_take (i := 2) (oi := { dst := some 19, op := Op.unOp UnOp.not 4 (Operand.tmp 18), type := 4, pos := "l12_reply.go:176", after := #[{ on := 1, ground := Ground.data }], guard := none }) (v := ?_) rfl (by kernel_rfl) (by kernel_rfl) (by kernel_rfl) (fun _ _ _ h => h) (Or.inl ⟨by rfl, ?_⟩) (by assumption) ?_
  rotate_left 1
  · intro w' hSw
    (try dsimp only at hSw)
    go_simp
    (try with_reducible rfl)
  (try simp only [Act.put, List.setIfInBounds_toArray, List.set_cons_zero, List.set_cons_succ])
  refine wpAnyH_take (i := 3) (oi := { dst := some 20, op := Op.move (Operand.tmp 19), type := 4, pos := "l12_reply.go:176", after := #[{ on := 2, ground := Ground.data }, { on := 1, ground := Ground.chain }], guard := none }) (v := ?_) rfl (by kernel_rfl) (by kernel_rfl) (by kernel_rfl) (fun _ _ _ h => h) (Or.inl ⟨by rfl, ?_⟩) (by assumption) ?_
  rotate_left 1
  · intro w' hSw
    (try dsimp only at hSw)
    go_simp
    (try with_reducible rfl)
  (try simp only [Act.put, List.setIfInBounds_toArray, List.set_cons_zero, List.set_cons_succ])
  refine wpAnyH_take (i := 4) (oi := { dst := some 21, op := Op.move (Operand.tmp 0), type := 9, pos := "l12_reply.go:176", after := #[{ on := 3, ground := Ground.guard }], guard := some (3, false) }) (v := ?_) rfl (by kernel_rfl) (by kernel_rfl) (by kernel_rfl) (fun _ _ _ h => h) (Or.inl ⟨by rfl, ?_⟩) (by assumption) ?_
  rotate_left 1
  · intro w' hSw
    (try dsimp only at hSw)
    go_simp
    (try with_reducible rfl)
  (try simp only [Act.put, List.setIfInBounds_toArray, List.set_cons_zero, List.set_cons_succ])
  refine wpAnyH_take (i := 5) (oi := { dst := some 22, op := Op.move (Operand.tmp 1), type := 2, pos := "l12_reply.go:176", after := #[{ on := 3, ground := Ground.guard }], guard := some (3, false) }) (v := ?_) rfl (by kernel_rfl) (by kernel_rfl) (by kernel_rfl) (fun _ _ _ h => h) (Or.inl ⟨by rfl, ?_⟩) (by assumption) ?_
  rotate_left 1
  · intro w' hSw
    (try dsimp only at hSw)
    go_simp
    (try with_reducible rfl)
  (try simp only [Act.put, List.setIfInBounds_toArray, List.set_cons_zero, List.set_cons_succ])
  refine wpAnyH_take (i := 6) (oi := { dst := some 23, op := Op.slice 9 (Operand.tmp 21) (some (Operand.tmp 22)) none none, type := 9, pos := "l12_reply.go:176", after := #[{ on := 4, ground := Ground.data }, { on := 5, ground := Ground.data }, { on := 3, ground := Ground.guard }], guard := some (3, false) }) (v := ?_) rfl (by kernel_rfl) (by kernel_rfl) (by kernel_rfl) (fun _ _ _ h => h) (Or.inl ⟨by rfl, ?_⟩) (by assumption) ?_
  rotate_left 1
  · intro w' hSw
    (try dsimp only at hSw)
    go_simp
    (try with_reducible rfl)
  (try simp only [Act.put, List.setIfInBounds_toArray, List.set_cons_zero, List.set_cons_succ])
  refine wpAnyH_take (i := 7) (oi := { dst := some 24, op := Op.move (Operand.tmp 6), type := 103, pos := "l12_reply.go:176", after := #[{ on := 3, ground := Ground.guard }], guard := some (3, false) }) (v := ?_) rfl (by kernel_rfl) (by kernel_rfl) (by kernel_rfl) (fun _ _ _ h => h) (Or.inl ⟨by rfl, ?_⟩) (by assumption) ?_
  rotate_left 1
  · intro w' hSw
    (try dsimp only at hSw)
    go_simp
    (try with_reducible rfl)
  (try simp only [Act.put, List.setIfInBounds_toArray, List.set_cons_zero, List.set_cons_succ])
  refine wpAnyH_ready (rs := [8]) (by kernel_rfl) (by simp) ?_
  refine AllReadyH.cons (o := { dst := some 25, op := Op.call { callee := Callee.value (Operand.func 76), args := #[Operand.tmp 24], argTypes := #[103] }, type := 9, pos := "l12_reply.go:176", after := #[{ on := 7, ground := Ground.data }, { on := 3, ground := Ground.chain }, { on := 3, ground := Ground.guard }], guard := some (3, false) }) rfl (fun KC hKC => ?_) AllReadyH.nil
  go_simp
  go_at_call 76
  refine (SHN.out _ (EN.out.p.grow (by first | exact hB12.drew.trans (hB3.mono hB12.size) | exact hB12.drew))).mono ?_
  rintro e w4 ⟨rfl, hB4⟩
  refine hKC.out _ _ (trivial) (fun hHeld2 => ?_)
  clear hKC KC hHeld
  have hHeld := hHeld2
  clear hHeld2
  (try simp only [Act.put, List.setIfInBounds_toArray, List.set_cons_zero, List.set_cons_succ])
  refine wpAnyH_ready (rs := [9]) (by kernel_rfl) (by simp) ?_
  refine AllReadyH.cons (o := { dst := some 26, op := Op.call { callee := Callee.value (Operand.func 83), args := #[Operand.tmp 23, Operand.tmp 25], argTypes := #[9, 9] }, type := 4, pos := "l12_reply.go:176", after := #[{ on := 6, ground := Ground.data }, { on := 8, ground := Ground.data }, { on := 8, ground := Ground.chain }, { on := 3, ground := Ground.guard }], guard := some (3, false) }) rfl (fun KC hKC => ?_) AllReadyH.nil
  go_simp
  go_at_call 83
  refine (hasPrefix_is q z false HP _).mono ?_
  rintro e wq ⟨rfl, hq⟩
  subst wq
  refine hKC.out _ _ (trivial) (fun hHeld2 => ?_)
  clear hKC KC hHeld
  have hHeld := hHeld2
  clear hHeld2
  (try simp only [Act.put, List.setIfInBounds_toArray, List.set_cons_zero, List.set_cons_succ])
  refine wpAnyH_take (i := 10) (oi := { dst := some 27, op := Op.unOp UnOp.not 4 (Operand.tmp 26), type := 4, pos := "l12_reply.go:176", after := #[{ on := 9, ground := Ground.data }, { on := 3, ground := Ground.guard }], guard := some (3, false) }) (v := ?_) rfl (by kernel_rfl) (by kernel_rfl) (by kernel_rfl) (fun _ _ _ h => h) (Or.inl ⟨by rfl, ?_⟩) (by assumption) ?_
  rotate_left 1
  · intro w' hSw
    (try dsimp only at hSw)
    go_simp
    (try with_reducible rfl)
  (try simp only [Act.put, List.setIfInBounds_toArray, List.set_cons_zero, List.set_cons_succ])
  refine wpAnyH_take (i := 11) (oi := { dst := some 28, op := Op.pick (Operand.tmp 20) (Operand.const (Value.bool true)) (Operand.tmp 27), type := 4, pos := "l12_reply.go:176", after := #[{ on := 3, ground := Ground.data }, { on := 10, ground := Ground.data }], guard := none }) (v := ?_) rfl (by kernel_rfl) (by kernel_rfl) (by kernel_rfl) (fun _ _ _ h => h) (Or.inl ⟨by rfl, ?_⟩) (by assumption) ?_
  rotate_left 1
  · intro w' hSw
    (try dsimp only at hSw)
    go_simp
    (try with_reducible rfl)
  (try simp only [Act.put, List.setIfInBounds_toArray, List.set_cons_zero, List.set_cons_succ])
  refine wpAnyH_done (by kernel_rfl) ?_ _
  go_wp2_with (first | (refine wpList_store_v rfl 42 _ _ rfl b4 [.int .i64 0, .string ⟨#[]⟩, .int .i64 0, .string ⟨#[]⟩, .int .i64 0, .int .i64 0] rfl rfl sizeRp (vblk_grow V4b.drew hB4) rfl (oneRs 0 ⟨#[]⟩ 0 ⟨#[]⟩ 0 0) ?_; intro w9 hO9 V9) | (fail))
  exact row_ct rfl rfl rfl V9 Tryz.underlying42 sizeRp rfl ⟨by rw [hout.out]; rfl, (hB12.drew.trans (hB4.mono hB12.size)).trans (hO9.2.2 _ hb4)⟩
set_option maxRecDepth 100000 in
set_option maxHeartbeats 2000000 in
theorem ra_val_pre (s : ByteArray) (p : Nat) (hp : p ≤ s.size) (hs : s.size ≤ 1048576) (q : ByteArray) (hqe : s.extract p s.size = q) (hqs : q.size ≤ 1048576) (N : ByteArray) (F : Int) (B : ByteArray) (C : Int) (hN : N.size ≤ 9223372036854775807) (hB : B.size ≤ 9223372036854775807) (HR : Hid ((nameB N && (decide (0 ≤ F) && decide (F ≤ 65535)) && decide ((B.size : Int) ≤ 64) && (decide (0 ≤ C) && decide (C ≤ 1000000))) = true)) (z : ByteArray) (SHN : Hid (∀ w', EnvP w' → Calls Tryz.prog 76 #[.iface 160 (.agg #[.string N, .int .i64 F, .string B, .int .i64 C])] w' fun e w2 => e = .returned (.string z) ∧ Below w'.heap.size w' w2)) (HP : Hid ((bs z).isPrefixOf (bs q) = false)) (X : Rp × Int) (hout : Hid (X = (Rp.zero, -1))) (hO : Hid (svO (shapeF (bs q)) = .iface 160 (.agg #[.string N, .int .i64 F, .string B, .int .i64 C]))) (w : World) (en : EnvX w) :
    Calls Tryz.prog 27 #[.string s, .int .i64 (p : Int)] w fun e w' => PostR X w e w' := by
  have EN : Hid (EnvX w) := en
  clear en
  have m1 : Hid True := trivial
  have hd : (decide ((0 : Int) ≤ (p : Int)) && decide ((p : Int) ≤ (s.size : Int))) = true := by simp; exact hp
  have hp1 : (p : Int) ≤ (s.size : Int) := by omega
  go_enter Tryz.func27, Tryz.ntmps27
  go_upto_region 4 with (first | (clear m1; refine wpList_alloc_v rfl 42 rfl _ zeroRp ?_; intro b4 w1 hb4 hw4 hB1 V4; have hz1 := hB1.size) | (go_at_call 63; refine (with_is _ _ _ true hd _).mono ?_; rintro er wq ⟨rfl, hq⟩; subst wq) | (go_at_call 81; refine (shapeFrom_any q hqs _ (EN.out.grow hB1) _ hO).mono ?_; rintro er w2 ⟨rfl, hB2⟩; have V4b := vblk_grow V4 hB2; have hz2 := hB2.size; have hB12 : Below w.heap.size w w2 := hB1.trans (hB2.mono hz1)) | (fail))
  refine wp_region_held_drew (S := fun w' => True) (by kernel_rfl) (trivial) (fun hHeld => ?_)
  refine wpAnyH_take (i := 0) (oi := { dst := some 17, op := Op.move (Operand.tmp 6), type := 103, pos := "l12_reply.go:176", after := #[], guard := none }) (v := ?_) rfl (by kernel_rfl) (by kernel_rfl) (by kernel_rfl) (fun _ _ _ h => h) (Or.inl ⟨by rfl, ?_⟩) (by assumption) ?_
  rotate_left 1
  · intro w' hSw
    (try dsimp only at hSw)
    go_simp
    (try with_reducible rfl)
  (try simp only [Act.put, List.setIfInBounds_toArray, List.set_cons_zero, List.set_cons_succ])
  refine wpAnyH_ready (rs := [1]) (by kernel_rfl) (by simp) ?_
  refine AllReadyH.cons (o := { dst := some 18, op := Op.call { callee := Callee.value (Operand.func 82), args := #[Operand.tmp 17], argTypes := #[103] }, type := 4, pos := "l12_reply.go:176", after := #[{ on := 0, ground := Ground.data }], guard := none }) rfl (fun KC hKC => ?_) AllReadyH.nil
  go_simp
  go_at_call 82
  refine (right_val N F B C true HR hN hB _).mono ?_
  rintro e w3 ⟨rfl, hB3⟩
  refine hKC.out _ _ (trivial) (fun hHeld2 => ?_)
  clear hKC KC hHeld
  have hHeld := hHeld2
  clear hHeld2
  (try simp only [Act.put, List.setIfInBounds_toArray, List.set_cons_zero, List.set_cons_succ])
  refine wpAnyH_take (i := 2) (oi := { dst := some 19, op := Op.unOp UnOp.not 4 (Operand.tmp 18), type := 4, pos := "l12_reply.go:176", after := #[{ on := 1, ground := Ground.data }], guard := none }) (v := ?_) rfl (by kernel_rfl) (by kernel_rfl) (by kernel_rfl) (fun _ _ _ h => h) (Or.inl ⟨by rfl, ?_⟩) (by assumption) ?_
  rotate_left 1
  · intro w' hSw
    (try dsimp only at hSw)
    go_simp
    (try with_reducible rfl)
  (try simp only [Act.put, List.setIfInBounds_toArray, List.set_cons_zero, List.set_cons_succ])
  refine wpAnyH_take (i := 3) (oi := { dst := some 20, op := Op.move (Operand.tmp 19), type := 4, pos := "l12_reply.go:176", after := #[{ on := 2, ground := Ground.data }, { on := 1, ground := Ground.chain }], guard := none }) (v := ?_) rfl (by kernel_rfl) (by kernel_rfl) (by kernel_rfl) (fun _ _ _ h => h) (Or.inl ⟨by rfl, ?_⟩) (by assumption) ?_
  rotate_left 1
  · intro w' hSw
    (try dsimp only at hSw)
    go_simp
    (try with_reducible rfl)
  (try simp only [Act.put, List.setIfInBounds_toArray, List.set_cons_zero, List.set_cons_succ])
  refine wpAnyH_take (i := 4) (oi := { dst := some 21, op := Op.move (Operand.tmp 0), type := 9, pos := "l12_reply.go:176", after := #[{ on := 3, ground := Ground.guard }], guard := some (3, false) }) (v := ?_) rfl (by kernel_rfl) (by kernel_rfl) (by kernel_rfl) (fun _ _ _ h => h) (Or.inl ⟨by rfl, ?_⟩) (by assumption) ?_
  rotate_left 1
  · intro w' hSw
    (try dsimp only at hSw)
    go_simp
    (try with_reducible rfl)
  (try simp only [Act.put, List.setIfInBounds_toArray, List.set_cons_zero, List.set_cons_succ])
  refine wpAnyH_take (i := 5) (oi := { dst := some 22, op := Op.move (Operand.tmp 1), type := 2, pos := "l12_reply.go:176", after := #[{ on := 3, ground := Ground.guard }], guard := some (3, false) }) (v := ?_) rfl (by kernel_rfl) (by kernel_rfl) (by kernel_rfl) (fun _ _ _ h => h) (Or.inl ⟨by rfl, ?_⟩) (by assumption) ?_
  rotate_left 1
  · intro w' hSw
    (try dsimp only at hSw)
    go_simp
    (try with_reducible rfl)
  (try simp only [Act.put, List.setIfInBounds_toArray, List.set_cons_zero, List.set_cons_succ])
  refine wpAnyH_take (i := 6) (oi := { dst := some 23, op := Op.slice 9 (Operand.tmp 21) (some (Operand.tmp 22)) none none, type := 9, pos := "l12_reply.go:176", after := #[{ on := 4, ground := Ground.data }, { on := 5, ground := Ground.data }, { on := 3, ground := Ground.guard }], guard := some (3, false) }) (v := ?_) rfl (by kernel_rfl) (by kernel_rfl) (by kernel_rfl) (fun _ _ _ h => h) (Or.inl ⟨by rfl, ?_⟩) (by assumption) ?_
  rotate_left 1
  · intro w' hSw
    (try dsimp only at hSw)
    go_simp
    (try with_reducible rfl)
  (try simp only [Act.put, List.setIfInBounds_toArray, List.set_cons_zero, List.set_cons_succ])
  refine wpAnyH_take (i := 7) (oi := { dst := some 24, op := Op.move (Operand.tmp 6), type := 103, pos := "l12_reply.go:176", after := #[{ on := 3, ground := Ground.guard }], guard := some (3, false) }) (v := ?_) rfl (by kernel_rfl) (by kernel_rfl) (by kernel_rfl) (fun _ _ _ h => h) (Or.inl ⟨by rfl, ?_⟩) (by assumption) ?_
  rotate_left 1
  · intro w' hSw
    (try dsimp only at hSw)
    go_simp
    (try with_reducible rfl)
  (try simp only [Act.put, List.setIfInBounds_toArray, List.set_cons_zero, List.set_cons_succ])
  refine wpAnyH_ready (rs := [8]) (by kernel_rfl) (by simp) ?_
  refine AllReadyH.cons (o := { dst := some 25, op := Op.call { callee := Callee.value (Operand.func 76), args := #[Operand.tmp 24], argTypes := #[103] }, type := 9, pos := "l12_reply.go:176", after := #[{ on := 7, ground := Ground.data }, { on := 3, ground := Ground.chain }, { on := 3, ground := Ground.guard }], guard := some (3, false) }) rfl (fun KC hKC => ?_) AllReadyH.nil
  go_simp
  go_at_call 76
  refine (SHN.out _ (EN.out.p.grow (by first | exact hB12.drew.trans (hB3.mono hB12.size) | exact hB12.drew))).mono ?_
  rintro e w4 ⟨rfl, hB4⟩
  refine hKC.out _ _ (trivial) (fun hHeld2 => ?_)
  clear hKC KC hHeld
  have hHeld := hHeld2
  clear hHeld2
  (try simp only [Act.put, List.setIfInBounds_toArray, List.set_cons_zero, List.set_cons_succ])
  refine wpAnyH_ready (rs := [9]) (by kernel_rfl) (by simp) ?_
  refine AllReadyH.cons (o := { dst := some 26, op := Op.call { callee := Callee.value (Operand.func 83), args := #[Operand.tmp 23, Operand.tmp 25], argTypes := #[9, 9] }, type := 4, pos := "l12_reply.go:176", after := #[{ on := 6, ground := Ground.data }, { on := 8, ground := Ground.data }, { on := 8, ground := Ground.chain }, { on := 3, ground := Ground.guard }], guard := some (3, false) }) rfl (fun KC hKC => ?_) AllReadyH.nil
  go_simp
  go_at_call 83
  refine (hasPrefix_is q z false HP _).mono ?_
  rintro e wq ⟨rfl, hq⟩
  subst wq
  refine hKC.out _ _ (trivial) (fun hHeld2 => ?_)
  clear hKC KC hHeld
  have hHeld := hHeld2
  clear hHeld2
  (try simp only [Act.put, List.setIfInBounds_toArray, List.set_cons_zero, List.set_cons_succ])
  refine wpAnyH_take (i := 10) (oi := { dst := some 27, op := Op.unOp UnOp.not 4 (Operand.tmp 26), type := 4, pos := "l12_reply.go:176", after := #[{ on := 9, ground := Ground.data }, { on := 3, ground := Ground.guard }], guard := some (3, false) }) (v := ?_) rfl (by kernel_rfl) (by kernel_rfl) (by kernel_rfl) (fun _ _ _ h => h) (Or.inl ⟨by rfl, ?_⟩) (by assumption) ?_
  rotate_left 1
  · intro w' hSw
    (try dsimp only at hSw)
    go_simp
    (try with_reducible rfl)
  (try simp only [Act.put, List.setIfInBounds_toArray, List.set_cons_zero, List.set_cons_succ])
  refine wpAnyH_take (i := 11) (oi := { dst := some 28, op := Op.pick (Operand.tmp 20) (Operand.const (Value.bool true)) (Operand.tmp 27), type := 4, pos := "l12_reply.go:176", after := #[{ on := 3, ground := Ground.data }, { on := 10, ground := Ground.data }], guard := none }) (v := ?_) rfl (by kernel_rfl) (by kernel_rfl) (by kernel_rfl) (fun _ _ _ h => h) (Or.inl ⟨by rfl, ?_⟩) (by assumption) ?_
  rotate_left 1
  · intro w' hSw
    (try dsimp only at hSw)
    go_simp
    (try with_reducible rfl)
  (try simp only [Act.put, List.setIfInBounds_toArray, List.set_cons_zero, List.set_cons_succ])
  refine wpAnyH_done (by kernel_rfl) ?_ _
  go_wp2_with (first | (refine wpList_store_v rfl 42 _ _ rfl b4 [.int .i64 0, .string ⟨#[]⟩, .int .i64 0, .string ⟨#[]⟩, .int .i64 0, .int .i64 0] rfl rfl sizeRp (vblk_grow (vblk_grow V4b.drew hB3) hB4) rfl (oneRs 0 ⟨#[]⟩ 0 ⟨#[]⟩ 0 0) ?_; intro w9 hO9 V9) | (fail))
  exact row_ct rfl rfl rfl V9 Tryz.underlying42 sizeRp rfl ⟨by rw [hout.out]; rfl, ((hB12.drew.trans (hB3.mono hB12.size)).trans (hB4.mono (Nat.le_trans hB12.size hB3.size))).trans (hO9.2.2 _ hb4)⟩
set_option maxRecDepth 100000 in
set_option maxHeartbeats 2000000 in
theorem ra_bare_yes (s : ByteArray) (p : Nat) (hp : p ≤ s.size) (hs : s.size ≤ 1048576) (q : ByteArray) (hqe : s.extract p s.size = q) (hqs : q.size ≤ 1048576) (K : Int)  (z : ByteArray) (SHN : Hid (∀ w', EnvP w' → Calls Tryz.prog 76 #[.iface 156 (.int .i64 K)] w' fun e w2 => e = .returned (.string z) ∧ Below w'.heap.size w' w2)) (HP : Hid ((bs z).isPrefixOf (bs q) = true)) (k : Nat) (hk : Hid (z.size = k)) (hk1 : k ≤ 10000) (X : Rp × Int) (hout : Hid (X = (⟨K, emp, 0, emp, 0, 0⟩, (p : Int) + (k : Int)))) (hO : Hid (svO (shapeF (bs q)) = .iface 156 (.int .i64 K))) (w : World) (en : EnvX w) :
    Calls Tryz.prog 27 #[.string s, .int .i64 (p : Int)] w fun e w' => PostR X w e w' := by
  have EN : Hid (EnvX w) := en
  clear en
  have m1 : Hid True := trivial
  have hd : (decide ((0 : Int) ≤ (p : Int)) && decide ((p : Int) ≤ (s.size : Int))) = true := by simp; exact hp
  have hp1 : (p : Int) ≤ (s.size : Int) := by omega
  have hkk : ((z.size : Nat) : Int) = (k : Int) := by rw [hk.out]
  have ew : IntKind.i64.wrap ((p : Int) + (k : Int)) = (p : Int) + (k : Int) := by rw [IntKind.wrap_i64]; omega
  have hM : ∀ w : World, (method 365 156 (.int .i64 K) "loop.example/g00401/impl.reply").run Tryz.prog w = .ok (257, .int .i64 K) w := fun w => by kernel_rfl
  have hC : ∀ (args : Array Value) (w : World), (callFunc 257 args).run Tryz.prog w = .ok (.enter 257 args) w := fun args w => by kernel_rfl
  go_enter Tryz.func27, Tryz.ntmps27
  go_upto_region 4 with (first | (clear m1; refine wpList_alloc_v rfl 42 rfl _ zeroRp ?_; intro b4 w1 hb4 hw4 hB1 V4; have hz1 := hB1.size) | (go_at_call 63; refine (with_is _ _ _ true hd _).mono ?_; rintro er wq ⟨rfl, hq⟩; subst wq) | (go_at_call 81; refine (shapeFrom_any q hqs _ (EN.out.grow hB1) _ hO).mono ?_; rintro er w2 ⟨rfl, hB2⟩; have V4b := vblk_grow V4 hB2; have hz2 := hB2.size; have hB12 : Below w.heap.size w w2 := hB1.trans (hB2.mono hz1)) | (fail))
  refine wp_region_held_drew (S := fun w' => True) (by kernel_rfl) (trivial) (fun hHeld => ?_)
  refine wpAnyH_take (i := 0) (oi := { dst := some 17, op := Op.move (Operand.tmp 6), type := 103, pos := "l12_reply.go:176", after := #[], guard := none }) (v := ?_) rfl (by kernel_rfl) (by kernel_rfl) (by kernel_rfl) (fun _ _ _ h => h) (Or.inl ⟨by rfl, ?_⟩) (by assumption) ?_
  rotate_left 1
  · intro w' hSw
    (try dsimp only at hSw)
    go_simp
    (try with_reducible rfl)
  (try simp only [Act.put, List.setIfInBounds_toArray, List.set_cons_zero, List.set_cons_succ])
  refine wpAnyH_ready (rs := [1]) (by kernel_rfl) (by simp) ?_
  refine AllReadyH.cons (o := { dst := some 18, op := Op.call { callee := Callee.value (Operand.func 82), args := #[Operand.tmp 17], argTypes := #[103] }, type := 4, pos := "l12_reply.go:176", after := #[{ on := 0, ground := Ground.data }], guard := none }) rfl (fun KC hKC => ?_) AllReadyH.nil
  go_simp
  go_at_call 82
  refine (right_bare K _).mono ?_
  rintro e wq ⟨rfl, hq⟩
  subst wq
  refine hKC.out _ _ (trivial) (fun hHeld2 => ?_)
  clear hKC KC hHeld
  have hHeld := hHeld2
  clear hHeld2
  (try simp only [Act.put, List.setIfInBounds_toArray, List.set_cons_zero, List.set_cons_succ])
  refine wpAnyH_take (i := 2) (oi := { dst := some 19, op := Op.unOp UnOp.not 4 (Operand.tmp 18), type := 4, pos := "l12_reply.go:176", after := #[{ on := 1, ground := Ground.data }], guard := none }) (v := ?_) rfl (by kernel_rfl) (by kernel_rfl) (by kernel_rfl) (fun _ _ _ h => h) (Or.inl ⟨by rfl, ?_⟩) (by assumption) ?_
  rotate_left 1
  · intro w' hSw
    (try dsimp only at hSw)
    go_simp
    (try with_reducible rfl)
  (try simp only [Act.put, List.setIfInBounds_toArray, List.set_cons_zero, List.set_cons_succ])
  refine wpAnyH_take (i := 3) (oi := { dst := some 20, op := Op.move (Operand.tmp 19), type := 4, pos := "l12_reply.go:176", after := #[{ on := 2, ground := Ground.data }, { on := 1, ground := Ground.chain }], guard := none }) (v := ?_) rfl (by kernel_rfl) (by kernel_rfl) (by kernel_rfl) (fun _ _ _ h => h) (Or.inl ⟨by rfl, ?_⟩) (by assumption) ?_
  rotate_left 1
  · intro w' hSw
    (try dsimp only at hSw)
    go_simp
    (try with_reducible rfl)
  (try simp only [Act.put, List.setIfInBounds_toArray, List.set_cons_zero, List.set_cons_succ])
  refine wpAnyH_take (i := 4) (oi := { dst := some 21, op := Op.move (Operand.tmp 0), type := 9, pos := "l12_reply.go:176", after := #[{ on := 3, ground := Ground.guard }], guard := some (3, false) }) (v := ?_) rfl (by kernel_rfl) (by kernel_rfl) (by kernel_rfl) (fun _ _ _ h => h) (Or.inl ⟨by rfl, ?_⟩) (by assumption) ?_
  rotate_left 1
  · intro w' hSw
    (try dsimp only at hSw)
    go_simp
    (try with_reducible rfl)
  (try simp only [Act.put, List.setIfInBounds_toArray, List.set_cons_zero, List.set_cons_succ])
  refine wpAnyH_take (i := 5) (oi := { dst := some 22, op := Op.move (Operand.tmp 1), type := 2, pos := "l12_reply.go:176", after := #[{ on := 3, ground := Ground.guard }], guard := some (3, false) }) (v := ?_) rfl (by kernel_rfl) (by kernel_rfl) (by kernel_rfl) (fun _ _ _ h => h) (Or.inl ⟨by rfl, ?_⟩) (by assumption) ?_
  rotate_left 1
  · intro w' hSw
    (try dsimp only at hSw)
    go_simp
    (try with_reducible rfl)
  (try simp only [Act.put, List.setIfInBounds_toArray, List.set_cons_zero, List.set_cons_succ])
  refine wpAnyH_take (i := 6) (oi := { dst := some 23, op := Op.slice 9 (Operand.tmp 21) (some (Operand.tmp 22)) none none, type := 9, pos := "l12_reply.go:176", after := #[{ on := 4, ground := Ground.data }, { on := 5, ground := Ground.data }, { on := 3, ground := Ground.guard }], guard := some (3, false) }) (v := ?_) rfl (by kernel_rfl) (by kernel_rfl) (by kernel_rfl) (fun _ _ _ h => h) (Or.inl ⟨by rfl, ?_⟩) (by assumption) ?_
  rotate_left 1
  · intro w' hSw
    (try dsimp only at hSw)
    go_simp
    (try with_reducible rfl)
  (try simp only [Act.put, List.setIfInBounds_toArray, List.set_cons_zero, List.set_cons_succ])
  refine wpAnyH_take (i := 7) (oi := { dst := some 24, op := Op.move (Operand.tmp 6), type := 103, pos := "l12_reply.go:176", after := #[{ on := 3, ground := Ground.guard }], guard := some (3, false) }) (v := ?_) rfl (by kernel_rfl) (by kernel_rfl) (by kernel_rfl) (fun _ _ _ h => h) (Or.inl ⟨by rfl, ?_⟩) (by assumption) ?_
  rotate_left 1
  · intro w' hSw
    (try dsimp only at hSw)
    go_simp
    (try with_reducible rfl)
  (try simp only [Act.put, List.setIfInBounds_toArray, List.set_cons_zero, List.set_cons_succ])
  refine wpAnyH_ready (rs := [8]) (by kernel_rfl) (by simp) ?_
  refine AllReadyH.cons (o := { dst := some 25, op := Op.call { callee := Callee.value (Operand.func 76), args := #[Operand.tmp 24], argTypes := #[103] }, type := 9, pos := "l12_reply.go:176", after := #[{ on := 7, ground := Ground.data }, { on := 3, ground := Ground.chain }, { on := 3, ground := Ground.guard }], guard := some (3, false) }) rfl (fun KC hKC => ?_) AllReadyH.nil
  go_simp
  go_at_call 76
  refine (SHN.out _ (EN.out.p.grow (by first | exact hB12.drew.trans (hB3.mono hB12.size) | exact hB12.drew))).mono ?_
  rintro e w4 ⟨rfl, hB4⟩
  refine hKC.out _ _ (trivial) (fun hHeld2 => ?_)
  clear hKC KC hHeld
  have hHeld := hHeld2
  clear hHeld2
  (try simp only [Act.put, List.setIfInBounds_toArray, List.set_cons_zero, List.set_cons_succ])
  refine wpAnyH_ready (rs := [9]) (by kernel_rfl) (by simp) ?_
  refine AllReadyH.cons (o := { dst := some 26, op := Op.call { callee := Callee.value (Operand.func 83), args := #[Operand.tmp 23, Operand.tmp 25], argTypes := #[9, 9] }, type := 4, pos := "l12_reply.go:176", after := #[{ on := 6, ground := Ground.data }, { on := 8, ground := Ground.data }, { on := 8, ground := Ground.chain }, { on := 3, ground := Ground.guard }], guard := some (3, false) }) rfl (fun KC hKC => ?_) AllReadyH.nil
  go_simp
  go_at_call 83
  refine (hasPrefix_is q z true HP _).mono ?_
  rintro e wq ⟨rfl, hq⟩
  subst wq
  refine hKC.out _ _ (trivial) (fun hHeld2 => ?_)
  clear hKC KC hHeld
  have hHeld := hHeld2
  clear hHeld2
  (try simp only [Act.put, List.setIfInBounds_toArray, List.set_cons_zero, List.set_cons_succ])
  refine wpAnyH_take (i := 10) (oi := { dst := some 27, op := Op.unOp UnOp.not 4 (Operand.tmp 26), type := 4, pos := "l12_reply.go:176", after := #[{ on := 9, ground := Ground.data }, { on := 3, ground := Ground.guard }], guard := some (3, false) }) (v := ?_) rfl (by kernel_rfl) (by kernel_rfl) (by kernel_rfl) (fun _ _ _ h => h) (Or.inl ⟨by rfl, ?_⟩) (by assumption) ?_
  rotate_left 1
  · intro w' hSw
    (try dsimp only at hSw)
    go_simp
    (try with_reducible rfl)
  (try simp only [Act.put, List.setIfInBounds_toArray, List.set_cons_zero, List.set_cons_succ])
  refine wpAnyH_take (i := 11) (oi := { dst := some 28, op := Op.pick (Operand.tmp 20) (Operand.const (Value.bool true)) (Operand.tmp 27), type := 4, pos := "l12_reply.go:176", after := #[{ on := 3, ground := Ground.data }, { on := 10, ground := Ground.data }], guard := none }) (v := ?_) rfl (by kernel_rfl) (by kernel_rfl) (by kernel_rfl) (fun _ _ _ h => h) (Or.inl ⟨by rfl, ?_⟩) (by assumption) ?_
  rotate_left 1
  · intro w' hSw
    (try dsimp only at hSw)
    go_simp
    (try with_reducible rfl)
  (try simp only [Act.put, List.setIfInBounds_toArray, List.set_cons_zero, List.set_cons_succ])
  refine wpAnyH_done (by kernel_rfl) ?_ _
  have hL4 : Below w.heap.size w w4 := (hB12.drew.trans (hB4.mono hB12.size))
  have V5 := (vblk_grow V4b.drew hB4)
  go_wp2_with (first | (go_at_call 257; refine (reply_bare K _).mono ?_; rintro e w6 ⟨rfl, hB6⟩; have V6 := vblk_grow V5 hB6; have hL6 : Below w.heap.size w w6 := hL4.trans (hB6.mono hL4.size)) | (go_at_call 76; refine (SHN.out _ (EN.out.p.grow hL6)).mono ?_; rintro e w7 ⟨rfl, hB7⟩; have V7 := vblk_grow V6 hB7; have hL7 : Below w.heap.size w w7 := hL6.trans (hB7.mono hL6.size)) | (refine wpList_store_v rfl 42 _ _ rfl b4 [.int .i64 K, .string ⟨#[]⟩, .int .i64 0, .string ⟨#[]⟩, .int .i64 0, .int .i64 0] rfl rfl sizeRp V7 rfl (oneRs K ⟨#[]⟩ 0 ⟨#[]⟩ 0 0) ?_; intro w9 hO9 V9) | (fail))
  exact row_ct rfl rfl rfl V9 Tryz.underlying42 sizeRp rfl ⟨by rw [hout.out]; rfl, hL7.trans (hO9.2.2 _ hb4)⟩
set_option maxRecDepth 100000 in
set_option maxHeartbeats 2000000 in
theorem ra_num_yes (s : ByteArray) (p : Nat) (hp : p ≤ s.size) (hs : s.size ≤ 1048576) (q : ByteArray) (hqe : s.extract p s.size = q) (hqs : q.size ≤ 1048576) (M : Int) (HR : Hid ((decide (0 ≤ M) && decide (M ≤ 999999999)) = true)) (z : ByteArray) (SHN : Hid (∀ w', EnvP w' → Calls Tryz.prog 76 #[.iface 158 (.int .i64 M)] w' fun e w2 => e = .returned (.string z) ∧ Below w'.heap.size w' w2)) (HP : Hid ((bs z).isPrefixOf (bs q) = true)) (k : Nat) (hk : Hid (z.size = k)) (hk1 : k ≤ 10000) (X : Rp × Int) (hout : Hid (X = (⟨6, emp, 0, emp, 0, M⟩, (p : Int) + (k : Int)))) (hO : Hid (svO (shapeF (bs q)) = .iface 158 (.int .i64 M))) (w : World) (en : EnvX w) :
    Calls Tryz.prog 27 #[.string s, .int .i64 (p : Int)] w fun e w' => PostR X w e w' := by
  have EN : Hid (EnvX w) := en
  clear en
  have m1 : Hid True := trivial
  have hd : (decide ((0 : Int) ≤ (p : Int)) && decide ((p : Int) ≤ (s.size : Int))) = true := by simp; exact hp
  have hp1 : (p : Int) ≤ (s.size : Int) := by omega
  have hkk : ((z.size : Nat) : Int) = (k : Int) := by rw [hk.out]
  have ew : IntKind.i64.wrap ((p : Int) + (k : Int)) = (p : Int) + (k : Int) := by rw [IntKind.wrap_i64]; omega
  have hM : ∀ w : World, (method 365 158 (.int .i64 M) "loop.example/g00401/impl.reply").run Tryz.prog w = .ok (258, .int .i64 M) w := fun w => by kernel_rfl
  have hC : ∀ (args : Array Value) (w : World), (callFunc 258 args).run Tryz.prog w = .ok (.enter 258 args) w := fun args w => by kernel_rfl
  go_enter Tryz.func27, Tryz.ntmps27
  go_upto_region 4 with (first | (clear m1; refine wpList_alloc_v rfl 42 rfl _ zeroRp ?_; intro b4 w1 hb4 hw4 hB1 V4; have hz1 := hB1.size) | (go_at_call 63; refine (with_is _ _ _ true hd _).mono ?_; rintro er wq ⟨rfl, hq⟩; subst wq) | (go_at_call 81; refine (shapeFrom_any q hqs _ (EN.out.grow hB1) _ hO).mono ?_; rintro er w2 ⟨rfl, hB2⟩; have V4b := vblk_grow V4 hB2; have hz2 := hB2.size; have hB12 : Below w.heap.size w w2 := hB1.trans (hB2.mono hz1)) | (fail))
  refine wp_region_held_drew (S := fun w' => True) (by kernel_rfl) (trivial) (fun hHeld => ?_)
  refine wpAnyH_take (i := 0) (oi := { dst := some 17, op := Op.move (Operand.tmp 6), type := 103, pos := "l12_reply.go:176", after := #[], guard := none }) (v := ?_) rfl (by kernel_rfl) (by kernel_rfl) (by kernel_rfl) (fun _ _ _ h => h) (Or.inl ⟨by rfl, ?_⟩) (by assumption) ?_
  rotate_left 1
  · intro w' hSw
    (try dsimp only at hSw)
    go_simp
    (try with_reducible rfl)
  (try simp only [Act.put, List.setIfInBounds_toArray, List.set_cons_zero, List.set_cons_succ])
  refine wpAnyH_ready (rs := [1]) (by kernel_rfl) (by simp) ?_
  refine AllReadyH.cons (o := { dst := some 18, op := Op.call { callee := Callee.value (Operand.func 82), args := #[Operand.tmp 17], argTypes := #[103] }, type := 4, pos := "l12_reply.go:176", after := #[{ on := 0, ground := Ground.data }], guard := none }) rfl (fun KC hKC => ?_) AllReadyH.nil
  go_simp
  go_at_call 82
  refine (right_num M true HR.out _).mono ?_
  rintro e wq ⟨rfl, hq⟩
  subst wq
  refine hKC.out _ _ (trivial) (fun hHeld2 => ?_)
  clear hKC KC hHeld
  have hHeld := hHeld2
  clear hHeld2
  (try simp only [Act.put, List.setIfInBounds_toArray, List.set_cons_zero, List.set_cons_succ])
  refine wpAnyH_take (i := 2) (oi := { dst := some 19, op := Op.unOp UnOp.not 4 (Operand.tmp 18), type := 4, pos := "l12_reply.go:176", after := #[{ on := 1, ground := Ground.data }], guard := none }) (v := ?_) rfl (by kernel_rfl) (by kernel_rfl) (by kernel_rfl) (fun _ _ _ h => h) (Or.inl ⟨by rfl, ?_⟩) (by assumption) ?_
  rotate_left 1
  · intro w' hSw
    (try dsimp only at hSw)
    go_simp
    (try with_reducible rfl)
  (try simp only [Act.put, List.setIfInBounds_toArray, List.set_cons_zero, List.set_cons_succ])
  refine wpAnyH_take (i := 3) (oi := { dst := some 20, op := Op.move (Operand.tmp 19), type := 4, pos := "l12_reply.go:176", after := #[{ on := 2, ground := Ground.data }, { on := 1, ground := Ground.chain }], guard := none }) (v := ?_) rfl (by kernel_rfl) (by kernel_rfl) (by kernel_rfl) (fun _ _ _ h => h) (Or.inl ⟨by rfl, ?_⟩) (by assumption) ?_
  rotate_left 1
  · intro w' hSw
    (try dsimp only at hSw)
    go_simp
    (try with_reducible rfl)
  (try simp only [Act.put, List.setIfInBounds_toArray, List.set_cons_zero, List.set_cons_succ])
  refine wpAnyH_take (i := 4) (oi := { dst := some 21, op := Op.move (Operand.tmp 0), type := 9, pos := "l12_reply.go:176", after := #[{ on := 3, ground := Ground.guard }], guard := some (3, false) }) (v := ?_) rfl (by kernel_rfl) (by kernel_rfl) (by kernel_rfl) (fun _ _ _ h => h) (Or.inl ⟨by rfl, ?_⟩) (by assumption) ?_
  rotate_left 1
  · intro w' hSw
    (try dsimp only at hSw)
    go_simp
    (try with_reducible rfl)
  (try simp only [Act.put, List.setIfInBounds_toArray, List.set_cons_zero, List.set_cons_succ])
  refine wpAnyH_take (i := 5) (oi := { dst := some 22, op := Op.move (Operand.tmp 1), type := 2, pos := "l12_reply.go:176", after := #[{ on := 3, ground := Ground.guard }], guard := some (3, false) }) (v := ?_) rfl (by kernel_rfl) (by kernel_rfl) (by kernel_rfl) (fun _ _ _ h => h) (Or.inl ⟨by rfl, ?_⟩) (by assumption) ?_
  rotate_left 1
  · intro w' hSw
    (try dsimp only at hSw)
    go_simp
    (try with_reducible rfl)
  (try simp only [Act.put, List.setIfInBounds_toArray, List.set_cons_zero, List.set_cons_succ])
  refine wpAnyH_take (i := 6) (oi := { dst := some 23, op := Op.slice 9 (Operand.tmp 21) (some (Operand.tmp 22)) none none, type := 9, pos := "l12_reply.go:176", after := #[{ on := 4, ground := Ground.data }, { on := 5, ground := Ground.data }, { on := 3, ground := Ground.guard }], guard := some (3, false) }) (v := ?_) rfl (by kernel_rfl) (by kernel_rfl) (by kernel_rfl) (fun _ _ _ h => h) (Or.inl ⟨by rfl, ?_⟩) (by assumption) ?_
  rotate_left 1
  · intro w' hSw
    (try dsimp only at hSw)
    go_simp
    (try with_reducible rfl)
  (try simp only [Act.put, List.setIfInBounds_toArray, List.set_cons_zero, List.set_cons_succ])
  refine wpAnyH_take (i := 7) (oi := { dst := some 24, op := Op.move (Operand.tmp 6), type := 103, pos := "l12_reply.go:176", after := #[{ on := 3, ground := Ground.guard }], guard := some (3, false) }) (v := ?_) rfl (by kernel_rfl) (by kernel_rfl) (by kernel_rfl) (fun _ _ _ h => h) (Or.inl ⟨by rfl, ?_⟩) (by assumption) ?_
  rotate_left 1
  · intro w' hSw
    (try dsimp only at hSw)
    go_simp
    (try with_reducible rfl)
  (try simp only [Act.put, List.setIfInBounds_toArray, List.set_cons_zero, List.set_cons_succ])
  refine wpAnyH_ready (rs := [8]) (by kernel_rfl) (by simp) ?_
  refine AllReadyH.cons (o := { dst := some 25, op := Op.call { callee := Callee.value (Operand.func 76), args := #[Operand.tmp 24], argTypes := #[103] }, type := 9, pos := "l12_reply.go:176", after := #[{ on := 7, ground := Ground.data }, { on := 3, ground := Ground.chain }, { on := 3, ground := Ground.guard }], guard := some (3, false) }) rfl (fun KC hKC => ?_) AllReadyH.nil
  go_simp
  go_at_call 76
  refine (SHN.out _ (EN.out.p.grow (by first | exact hB12.drew.trans (hB3.mono hB12.size) | exact hB12.drew))).mono ?_
  rintro e w4 ⟨rfl, hB4⟩
  refine hKC.out _ _ (trivial) (fun hHeld2 => ?_)
  clear hKC KC hHeld
  have hHeld := hHeld2
  clear hHeld2
  (try simp only [Act.put, List.setIfInBounds_toArray, List.set_cons_zero, List.set_cons_succ])
  refine wpAnyH_ready (rs := [9]) (by kernel_rfl) (by simp) ?_
  refine AllReadyH.cons (o := { dst := some 26, op := Op.call { callee := Callee.value (Operand.func 83), args := #[Operand.tmp 23, Operand.tmp 25], argTypes := #[9, 9] }, type := 4, pos := "l12_reply.go:176", after := #[{ on := 6, ground := Ground.data }, { on := 8, ground := Ground.data }, { on := 8, ground := Ground.chain }, { on := 3, ground := Ground.guard }], guard := some (3, false) }) rfl (fun KC hKC => ?_) AllReadyH.nil
  go_simp
  go_at_call 83
  refine (hasPrefix_is q z true HP _).mono ?_
  rintro e wq ⟨rfl, hq⟩
  subst wq
  refine hKC.out _ _ (trivial) (fun hHeld2 => ?_)
  clear hKC KC hHeld
  have hHeld := hHeld2
  clear hHeld2
  (try simp only [Act.put, List.setIfInBounds_toArray, List.set_cons_zero, List.set_cons_succ])
  refine wpAnyH_take (i := 10) (oi := { dst := some 27, op := Op.unOp UnOp.not 4 (Operand.tmp 26), type := 4, pos := "l12_reply.go:176", after := #[{ on := 9, ground := Ground.data }, { on := 3, ground := Ground.guard }], guard := some (3, false) }) (v := ?_) rfl (by kernel_rfl) (by kernel_rfl) (by kernel_rfl) (fun _ _ _ h => h) (Or.inl ⟨by rfl, ?_⟩) (by assumption) ?_
  rotate_left 1
  · intro w' hSw
    (try dsimp only at hSw)
    go_simp
    (try with_reducible rfl)
  (try simp only [Act.put, List.setIfInBounds_toArray, List.set_cons_zero, List.set_cons_succ])
  refine wpAnyH_take (i := 11) (oi := { dst := some 28, op := Op.pick (Operand.tmp 20) (Operand.const (Value.bool true)) (Operand.tmp 27), type := 4, pos := "l12_reply.go:176", after := #[{ on := 3, ground := Ground.data }, { on := 10, ground := Ground.data }], guard := none }) (v := ?_) rfl (by kernel_rfl) (by kernel_rfl) (by kernel_rfl) (fun _ _ _ h => h) (Or.inl ⟨by rfl, ?_⟩) (by assumption) ?_
  rotate_left 1
  · intro w' hSw
    (try dsimp only at hSw)
    go_simp
    (try with_reducible rfl)
  (try simp only [Act.put, List.setIfInBounds_toArray, List.set_cons_zero, List.set_cons_succ])
  refine wpAnyH_done (by kernel_rfl) ?_ _
  have hL4 : Below w.heap.size w w4 := (hB12.drew.trans (hB4.mono hB12.size))
  have V5 := (vblk_grow V4b.drew hB4)
  go_wp2_with (first | (go_at_call 258; refine (reply_numbered M _).mono ?_; rintro e w6 ⟨rfl, hB6⟩; have V6 := vblk_grow V5 hB6; have hL6 : Below w.heap.size w w6 := hL4.trans (hB6.mono hL4.size)) | (go_at_call 76; refine (SHN.out _ (EN.out.p.grow hL6)).mono ?_; rintro e w7 ⟨rfl, hB7⟩; have V7 := vblk_grow V6 hB7; have hL7 : Below w.heap.size w w7 := hL6.trans (hB7.mono hL6.size)) | (refine wpList_store_v rfl 42 _ _ rfl b4 [.int .i64 6, .string ⟨#[]⟩, .int .i64 0, .string ⟨#[]⟩, .int .i64 0, .int .i64 M] rfl rfl sizeRp V7 rfl (oneRs 6 ⟨#[]⟩ 0 ⟨#[]⟩ 0 M) ?_; intro w9 hO9 V9) | (fail))
  exact row_ct rfl rfl rfl V9 Tryz.underlying42 sizeRp rfl ⟨by rw [hout.out]; rfl, hL7.trans (hO9.2.2 _ hb4)⟩
set_option maxRecDepth 100000 in
set_option maxHeartbeats 2000000 in
theorem ra_val_yes (s : ByteArray) (p : Nat) (hp : p ≤ s.size) (hs : s.size ≤ 1048576) (q : ByteArray) (hqe : s.extract p s.size = q) (hqs : q.size ≤ 1048576) (N : ByteArray) (F : Int) (B : ByteArray) (C : Int) (hN : N.size ≤ 9223372036854775807) (hB : B.size ≤ 9223372036854775807) (HR : Hid ((nameB N && (decide (0 ≤ F) && decide (F ≤ 65535)) && decide ((B.size : Int) ≤ 64) && (decide (0 ≤ C) && decide (C ≤ 1000000))) = true)) (z : ByteArray) (SHN : Hid (∀ w', EnvP w' → Calls Tryz.prog 76 #[.iface 160 (.agg #[.string N, .int .i64 F, .string B, .int .i64 C])] w' fun e w2 => e = .returned (.string z) ∧ Below w'.heap.size w' w2)) (HP : Hid ((bs z).isPrefixOf (bs q) = true)) (k : Nat) (hk : Hid (z.size = k)) (hk1 : k ≤ 10000) (X : Rp × Int) (hout : Hid (X = (⟨5, N, F, B, C, 0⟩, (p : Int) + (k : Int)))) (hO : Hid (svO (shapeF (bs q)) = .iface 160 (.agg #[.string N, .int .i64 F, .string B, .int .i64 C]))) (w : World) (en : EnvX w) :
    Calls Tryz.prog 27 #[.string s, .int .i64 (p : Int)] w fun e w' => PostR X w e w' := by
  have EN : Hid (EnvX w) := en
  clear en
  have m1 : Hid True := trivial
  have hd : (decide ((0 : Int) ≤ (p : Int)) && decide ((p : Int) ≤ (s.size : Int))) = true := by simp; exact hp
  have hp1 : (p : Int) ≤ (s.size : Int) := by omega
  have hkk : ((z.size : Nat) : Int) = (k : Int) := by rw [hk.out]
  have ew : IntKind.i64.wrap ((p : Int) + (k : Int)) = (p : Int) + (k : Int) := by rw [IntKind.wrap_i64]; omega
  have hM : ∀ w : World, (method 365 160 (.agg #[.string N, .int .i64 F, .string B, .int .i64 C]) "loop.example/g00401/impl.reply").run Tryz.prog w = .ok (259, .agg #[.string N, .int .i64 F, .string B, .int .i64 C]) w := fun w => by kernel_rfl
  have hC : ∀ (args : Array Value) (w : World), (callFunc 259 args).run Tryz.prog w = .ok (.enter 259 args) w := fun args w => by kernel_rfl
  go_enter Tryz.func27, Tryz.ntmps27
  go_upto_region 4 with (first | (clear m1; refine wpList_alloc_v rfl 42 rfl _ zeroRp ?_; intro b4 w1 hb4 hw4 hB1 V4; have hz1 := hB1.size) | (go_at_call 63; refine (with_is _ _ _ true hd _).mono ?_; rintro er wq ⟨rfl, hq⟩; subst wq) | (go_at_call 81; refine (shapeFrom_any q hqs _ (EN.out.grow hB1) _ hO).mono ?_; rintro er w2 ⟨rfl, hB2⟩; have V4b := vblk_grow V4 hB2; have hz2 := hB2.size; have hB12 : Below w.heap.size w w2 := hB1.trans (hB2.mono hz1)) | (fail))
  refine wp_region_held_drew (S := fun w' => True) (by kernel_rfl) (trivial) (fun hHeld => ?_)
  refine wpAnyH_take (i := 0) (oi := { dst := some 17, op := Op.move (Operand.tmp 6), type := 103, pos := "l12_reply.go:176", after := #[], guard := none }) (v := ?_) rfl (by kernel_rfl) (by kernel_rfl) (by kernel_rfl) (fun _ _ _ h => h) (Or.inl ⟨by rfl, ?_⟩) (by assumption) ?_
  rotate_left 1
  · intro w' hSw
    (try dsimp only at hSw)
    go_simp
    (try with_reducible rfl)
  (try simp only [Act.put, List.setIfInBounds_toArray, List.set_cons_zero, List.set_cons_succ])
  refine wpAnyH_ready (rs := [1]) (by kernel_rfl) (by simp) ?_
  refine AllReadyH.cons (o := { dst := some 18, op := Op.call { callee := Callee.value (Operand.func 82), args := #[Operand.tmp 17], argTypes := #[103] }, type := 4, pos := "l12_reply.go:176", after := #[{ on := 0, ground := Ground.data }], guard := none }) rfl (fun KC hKC => ?_) AllReadyH.nil
  go_simp
  go_at_call 82
  refine (right_val N F B C true HR hN hB _).mono ?_
  rintro e w3 ⟨rfl, hB3⟩
  refine hKC.out _ _ (trivial) (fun hHeld2 => ?_)
  clear hKC KC hHeld
  have hHeld := hHeld2
  clear hHeld2
  (try simp only [Act.put, List.setIfInBounds_toArray, List.set_cons_zero, List.set_cons_succ])
  refine wpAnyH_take (i := 2) (oi := { dst := some 19, op := Op.unOp UnOp.not 4 (Operand.tmp 18), type := 4, pos := "l12_reply.go:176", after := #[{ on := 1, ground := Ground.data }], guard := none }) (v := ?_) rfl (by kernel_rfl) (by kernel_rfl) (by kernel_rfl) (fun _ _ _ h => h) (Or.inl ⟨by rfl, ?_⟩) (by assumption) ?_
  rotate_left 1
  · intro w' hSw
    (try dsimp only at hSw)
    go_simp
    (try with_reducible rfl)
  (try simp only [Act.put, List.setIfInBounds_toArray, List.set_cons_zero, List.set_cons_succ])
  refine wpAnyH_take (i := 3) (oi := { dst := some 20, op := Op.move (Operand.tmp 19), type := 4, pos := "l12_reply.go:176", after := #[{ on := 2, ground := Ground.data }, { on := 1, ground := Ground.chain }], guard := none }) (v := ?_) rfl (by kernel_rfl) (by kernel_rfl) (by kernel_rfl) (fun _ _ _ h => h) (Or.inl ⟨by rfl, ?_⟩) (by assumption) ?_
  rotate_left 1
  · intro w' hSw
    (try dsimp only at hSw)
    go_simp
    (try with_reducible rfl)
  (try simp only [Act.put, List.setIfInBounds_toArray, List.set_cons_zero, List.set_cons_succ])
  refine wpAnyH_take (i := 4) (oi := { dst := some 21, op := Op.move (Operand.tmp 0), type := 9, pos := "l12_reply.go:176", after := #[{ on := 3, ground := Ground.guard }], guard := some (3, false) }) (v := ?_) rfl (by kernel_rfl) (by kernel_rfl) (by kernel_rfl) (fun _ _ _ h => h) (Or.inl ⟨by rfl, ?_⟩) (by assumption) ?_
  rotate_left 1
  · intro w' hSw
    (try dsimp only at hSw)
    go_simp
    (try with_reducible rfl)
  (try simp only [Act.put, List.setIfInBounds_toArray, List.set_cons_zero, List.set_cons_succ])
  refine wpAnyH_take (i := 5) (oi := { dst := some 22, op := Op.move (Operand.tmp 1), type := 2, pos := "l12_reply.go:176", after := #[{ on := 3, ground := Ground.guard }], guard := some (3, false) }) (v := ?_) rfl (by kernel_rfl) (by kernel_rfl) (by kernel_rfl) (fun _ _ _ h => h) (Or.inl ⟨by rfl, ?_⟩) (by assumption) ?_
  rotate_left 1
  · intro w' hSw
    (try dsimp only at hSw)
    go_simp
    (try with_reducible rfl)
  (try simp only [Act.put, List.setIfInBounds_toArray, List.set_cons_zero, List.set_cons_succ])
  refine wpAnyH_take (i := 6) (oi := { dst := some 23, op := Op.slice 9 (Operand.tmp 21) (some (Operand.tmp 22)) none none, type := 9, pos := "l12_reply.go:176", after := #[{ on := 4, ground := Ground.data }, { on := 5, ground := Ground.data }, { on := 3, ground := Ground.guard }], guard := some (3, false) }) (v := ?_) rfl (by kernel_rfl) (by kernel_rfl) (by kernel_rfl) (fun _ _ _ h => h) (Or.inl ⟨by rfl, ?_⟩) (by assumption) ?_
  rotate_left 1
  · intro w' hSw
    (try dsimp only at hSw)
    go_simp
    (try with_reducible rfl)
  (try simp only [Act.put, List.setIfInBounds_toArray, List.set_cons_zero, List.set_cons_succ])
  refine wpAnyH_take (i := 7) (oi := { dst := some 24, op := Op.move (Operand.tmp 6), type := 103, pos := "l12_reply.go:176", after := #[{ on := 3, ground := Ground.guard }], guard := some (3, false) }) (v := ?_) rfl (by kernel_rfl) (by kernel_rfl) (by kernel_rfl) (fun _ _ _ h => h) (Or.inl ⟨by rfl, ?_⟩) (by assumption) ?_
  rotate_left 1
  · intro w' hSw
    (try dsimp only at hSw)
    go_simp
    (try with_reducible rfl)
  (try simp only [Act.put, List.setIfInBounds_toArray, List.set_cons_zero, List.set_cons_succ])
  refine wpAnyH_ready (rs := [8]) (by kernel_rfl) (by simp) ?_
  refine AllReadyH.cons (o := { dst := some 25, op := Op.call { callee := Callee.value (Operand.func 76), args := #[Operand.tmp 24], argTypes := #[103] }, type := 9, pos := "l12_reply.go:176", after := #[{ on := 7, ground := Ground.data }, { on := 3, ground := Ground.chain }, { on := 3, ground := Ground.guard }], guard := some (3, false) }) rfl (fun KC hKC => ?_) AllReadyH.nil
  go_simp
  go_at_call 76
  refine (SHN.out _ (EN.out.p.grow (by first | exact hB12.drew.trans (hB3.mono hB12.size) | exact hB12.drew))).mono ?_
  rintro e w4 ⟨rfl, hB4⟩
  refine hKC.out _ _ (trivial) (fun hHeld2 => ?_)
  clear hKC KC hHeld
  have hHeld := hHeld2
  clear hHeld2
  (try simp only [Act.put, List.setIfInBounds_toArray, List.set_cons_zero, List.set_cons_succ])
  refine wpAnyH_ready (rs := [9]) (by kernel_rfl) (by simp) ?_
  refine AllReadyH.cons (o := { dst := some 26, op := Op.call { callee := Callee.value (Operand.func 83), args := #[Operand.tmp 23, Operand.tmp 25], argTypes := #[9, 9] }, type := 4, pos := "l12_reply.go:176", after := #[{ on := 6, ground := Ground.data }, { on := 8, ground := Ground.data }, { on := 8, ground := Ground.chain }, { on := 3, ground := Ground.guard }], guard := some (3, false) }) rfl (fun KC hKC => ?_) AllReadyH.nil
  go_simp
  go_at_call 83
  refine (hasPrefix_is q z true HP _).mono ?_
  rintro e wq ⟨rfl, hq⟩
  subst wq
  refine hKC.out _ _ (trivial) (fun hHeld2 => ?_)
  clear hKC KC hHeld
  have hHeld := hHeld2
  clear hHeld2
  (try simp only [Act.put, List.setIfInBounds_toArray, List.set_cons_zero, List.set_cons_succ])
  refine wpAnyH_take (i := 10) (oi := { dst := some 27, op := Op.unOp UnOp.not 4 (Operand.tmp 26), type := 4, pos := "l12_reply.go:176", after := #[{ on := 9, ground := Ground.data }, { on := 3, ground := Ground.guard }], guard := some (3, false) }) (v := ?_) rfl (by kernel_rfl) (by kernel_rfl) (by kernel_rfl) (fun _ _ _ h => h) (Or.inl ⟨by rfl, ?_⟩) (by assumption) ?_
  rotate_left 1
  · intro w' hSw
    (try dsimp only at hSw)
    go_simp
    (try with_reducible rfl)
  (try simp only [Act.put, List.setIfInBounds_toArray, List.set_cons_zero, List.set_cons_succ])
  refine wpAnyH_take (i := 11) (oi := { dst := some 28, op := Op.pick (Operand.tmp 20) (Operand.const (Value.bool true)) (Operand.tmp 27), type := 4, pos := "l12_reply.go:176", after := #[{ on := 3, ground := Ground.data }, { on := 10, ground := Ground.data }], guard := none }) (v := ?_) rfl (by kernel_rfl) (by kernel_rfl) (by kernel_rfl) (fun _ _ _ h => h) (Or.inl ⟨by rfl, ?_⟩) (by assumption) ?_
  rotate_left 1
  · intro w' hSw
    (try dsimp only at hSw)
    go_simp
    (try with_reducible rfl)
  (try simp only [Act.put, List.setIfInBounds_toArray, List.set_cons_zero, List.set_cons_succ])
  refine wpAnyH_done (by kernel_rfl) ?_ _
  have hL4 : Below w.heap.size w w4 := ((hB12.drew.trans (hB3.mono hB12.size)).trans (hB4.mono (Nat.le_trans hB12.size hB3.size)))
  have V5 := (vblk_grow (vblk_grow V4b.drew hB3) hB4)
  go_wp2_with (first | (go_at_call 259; refine (reply_valued N F B C _).mono ?_; rintro e w6 ⟨rfl, hB6⟩; have V6 := vblk_grow V5 hB6; have hL6 : Below w.heap.size w w6 := hL4.trans (hB6.mono hL4.size)) | (go_at_call 76; refine (SHN.out _ (EN.out.p.grow hL6)).mono ?_; rintro e w7 ⟨rfl, hB7⟩; have V7 := vblk_grow V6 hB7; have hL7 : Below w.heap.size w w7 := hL6.trans (hB7.mono hL6.size)) | (refine wpList_store_v rfl 42 _ _ rfl b4 [.int .i64 5, .string N, .int .i64 F, .string B, .int .i64 C, .int .i64 0] rfl rfl sizeRp V7 rfl (oneRs 5 N F B C 0) ?_; intro w9 hO9 V9) | (fail))
  exact row_ct rfl rfl rfl V9 Tryz.underlying42 sizeRp rfl ⟨by rw [hout.out]; rfl, hL7.trans (hO9.2.2 _ hb4)⟩
end Go.Proofs.YtaabmkhckbndgaaGreatDoor.cm
/- Contracts of the model's drawing functions: whatever the bytes, each call returns a number within its bounds, writes to the cursor's own block alone, and leaves the cursor well formed. -/
namespace Go.Proofs.YtaabmkhckbndgaaGreatDoor.draw
open Go.ChangeShapes Go.WideShapes Go.ChangeAt Go.RowKit
set_option linter.unusedVariables false

/-- the bytes of the code, as they lie in memory -/
def CodeAt (w : World) (a0 : Option Addr) (len : Nat) : Prop :=
  len ≤ 9223372036854775806 ∧ (len = 0 ∨ ∃ b off, a0 = some ⟨b, off, none⟩ ∧ b < w.heap.size ∧ ∀ k, k < len → ∃ c : Int, w.cell? ⟨b, off + k, none⟩ = some (.int .u8 c) ∧ 0 ≤ c ∧ c ≤ 255)

/-- a cursor over the code lies in block p -/
def Cur (w : World) (p : Nat) (a0 : Option Addr) (len cap : Nat) : Prop :=
  p < w.heap.size ∧ CodeAt w a0 len ∧ (∀ b off, a0 = some ⟨b, off, none⟩ → len = 0 ∨ b < p) ∧
  ∃ (i : Nat) (h : Int), i ≤ len ∧ w.cell? ⟨p, 0, none⟩ = some (.slice a0 len cap) ∧ w.cell? ⟨p, 1, none⟩ = some (.int .i64 i) ∧ w.cell? ⟨p, 2, none⟩ = some (.int .i64 h) ∧
    w.frozen? ⟨p, 1, none⟩ = false ∧ w.frozen? ⟨p, 2, none⟩ = false

theorem gb_set (w : World) (a : Addr) (v : Value) : w.grownBy (w.setCell a v) (some a.block) :=
  ⟨rfl, rfl, rfl, by simp, fun k hk hne => Below.heap_setCell _ _ _ _ (fun h => hne (by rw [h]))⟩
theorem gb_drewN {w w' : World} {r : Option Nat} (h : w.grownBy w' r) (n : Nat) : w.grownBy (w'.drewN n) r := ⟨h.os, h.tape, h.output, h.size, h.block⟩
theorem gb_trans {w w1 w2 : World} {r : Option Nat} (h : w.grownBy w1 r) (k : w1.grownBy w2 r) : w.grownBy w2 r :=
  ⟨k.os.trans h.os, k.tape.trans h.tape, k.output.trans h.output, Nat.le_trans h.size k.size, fun i hi hn => (k.block i (Nat.lt_of_lt_of_le hi h.size) hn).trans (h.block i hi hn)⟩
theorem gb_cell {w w' : World} {p : Nat} (h : w.grownBy w' (some p)) {b : Nat} (hb : b < w.heap.size) (hne : b ≠ p) (o : Nat) : w'.cell? ⟨b, o, none⟩ = w.cell? ⟨b, o, none⟩ :=
  World.cell?_of_block (h.block b hb (fun e => hne (by cases e; rfl)))

theorem code_kept {w w' : World} {a0 : Option Addr} {len p : Nat} (h : CodeAt w a0 len) (hb : ∀ b off, a0 = some ⟨b, off, none⟩ → len = 0 ∨ b < p) (g : w.grownBy w' (some p)) : CodeAt w' a0 len := by
  refine ⟨h.1, ?_⟩
  rcases h.2 with h0 | ⟨b, off, e, hl, hc⟩
  · exact .inl h0
  rcases hb b off e with h0 | hbp
  · exact .inl h0
  · refine .inr ⟨b, off, e, Nat.lt_of_lt_of_le hl g.size, fun k hk => ?_⟩
    obtain ⟨c, hcell, h1, h2⟩ := hc k hk
    exact ⟨c, by rw [gb_cell g hl (by omega)]; exact hcell, h1, h2⟩

/-- a low byte, whatever number it is taken of -/
theorem and255 (x : Int) : 0 ≤ bits .and .i64 x 255 ∧ bits .and .i64 x 255 ≤ 255 := by
  have h : bits .and .i64 x 255 = IntKind.i64.wrap (((BitVec.ofInt 64 x).toNat &&& 255 : Nat) : Int) := by
    unfold bits
    simp only [BitVec.toNat_and]
    rfl
  have g : (BitVec.ofInt 64 x).toNat &&& 255 ≤ 255 := Nat.and_le_right
  rw [h, IntKind.wrap_i64]
  omega

set_option maxHeartbeats 1000000 in
theorem byte_end (w : World) (p : Nat) (a0 : Option Addr) (len cap i : Nat) (h : Int) (hi : ¬ i < len)
    (c0 : w.cell? ⟨p, 0, none⟩ = some (.slice a0 len cap)) (c1 : w.cell? ⟨p, 1, none⟩ = some (.int .i64 i)) (c2 : w.cell? ⟨p, 2, none⟩ = some (.int .i64 h))
    (f1 : w.frozen? ⟨p, 1, none⟩ = false) (f2 : w.frozen? ⟨p, 2, none⟩ = false) :
    Calls Tryz.prog 125 #[.pointer (some ⟨p, 0, none⟩)] w fun e w' => ∃ x h' : Int, e = .returned (.int .i64 x) ∧ 0 ≤ x ∧ x ≤ 255 ∧ ∃ n, w' = (w.setCell ⟨p, 2, none⟩ (.int .i64 h')).drewN n := by
  go_enter Tryz.func125, Tryz.ntmps125
  go_wp2
  go_quiet (fail)
  go_wp2
  go_quiet (fail)
  go_wp2
  go_ret
  exact ⟨_, wrap64 (wrap64 (h * 6364136223846793005) + 1442695040888963407), rfl, (and255 _).1, (and255 _).2, _, World.drewN_drewN _ _ _⟩

set_option maxHeartbeats 1000000 in
theorem byte_in (w : World) (p b off : Nat) (len cap i : Nat) (h c : Int) (hi : i < len) (hl : len ≤ 9223372036854775806) (hbp : b < p)
    (c0 : w.cell? ⟨p, 0, none⟩ = some (.slice (some ⟨b, off, none⟩) len cap)) (c1 : w.cell? ⟨p, 1, none⟩ = some (.int .i64 i)) (c2 : w.cell? ⟨p, 2, none⟩ = some (.int .i64 h))
    (f1 : w.frozen? ⟨p, 1, none⟩ = false) (f2 : w.frozen? ⟨p, 2, none⟩ = false) (hc : w.cell? ⟨b, off + i, none⟩ = some (.int .u8 c)) (h1 : 0 ≤ c) (h2 : c ≤ 255) :
    Calls Tryz.prog 125 #[.pointer (some ⟨p, 0, none⟩)] w fun e w' => ∃ x h' : Int, e = .returned (.int .i64 x) ∧ 0 ≤ x ∧ x ≤ 255 ∧ ∃ n, w' = ((w.setCell ⟨p, 2, none⟩ (.int .i64 h')).drewN n).setCell ⟨p, 1, none⟩ (.int .i64 ((i : Int) + 1)) := by
  have hlt : (i : Int) < (len : Int) := by omega
  have hne : b ≠ p := by omega
  have hnp : p ≠ b := by omega
  go_enter Tryz.func125, Tryz.ntmps125
  go_wp2
  go_quiet (fail)
  go_wp2
  go_quiet (fail)
  go_wp2
  go_quiet (fail)
  go_wp2
  go_ret
  exact ⟨_, wrap64 (wrap64 (h * 6364136223846793005) + 1442695040888963407), rfl, (and255 _).1, (and255 _).2, _, rfl⟩

theorem byte_any (w : World) (p : Nat) (a0 : Option Addr) (len cap : Nat) (hc : Cur w p a0 len cap) :
    Calls Tryz.prog 125 #[.pointer (some ⟨p, 0, none⟩)] w fun e w' => ∃ x : Int, e = .returned (.int .i64 x) ∧ 0 ≤ x ∧ x ≤ 255 ∧ Cur w' p a0 len cap ∧ w.grownBy w' (some p) := by
  obtain ⟨hp, hcode, hb, i, h, hi, c0, c1, c2, f1, f2⟩ := hc
  by_cases hlt : i < len
  · rcases hcode.2 with h0 | ⟨b, off, rfl, hbs, hcell⟩
    · omega
    obtain ⟨c, hc, h1, h2⟩ := hcell i hlt
    have hbp : b < p := by have := hb b off rfl; omega
    refine (byte_in w p b off len cap i h c hlt hcode.1 hbp c0 c1 c2 f1 f2 hc h1 h2).mono ?_
    rintro e w' ⟨x, h', rfl, g1, g2, n, rfl⟩
    have g0 : w.grownBy ((w.setCell ⟨p, 2, none⟩ (.int .i64 h')).drewN n) (some p) := gb_drewN (gb_set w ⟨p, 2, none⟩ (.int .i64 h')) n
    have g3 : ((w.setCell ⟨p, 2, none⟩ (.int .i64 h')).drewN n).grownBy (((w.setCell ⟨p, 2, none⟩ (.int .i64 h')).drewN n).setCell ⟨p, 1, none⟩ (.int .i64 ((i : Int) + 1))) (some p) := gb_set _ ⟨p, 1, none⟩ _
    have hg := gb_trans g0 g3
    refine ⟨x, rfl, g1, g2, ⟨Nat.lt_of_lt_of_le hp hg.size, code_kept hcode hb hg, hb, i + 1, h', by omega, ?_, ?_, ?_, ?_, ?_⟩, hg⟩
    · rw [World.cell?_setCell_other _ _ _ _ (by simp), World.cell?_drewN, World.cell?_setCell_other _ _ _ _ (by simp)]; exact c0
    · exact World.cell?_setCell_same _ _ _ (u := .int .i64 i) (by rw [World.cell?_drewN, World.cell?_setCell_other _ _ _ _ (by simp)]; exact c1)
    · rw [World.cell?_setCell_other _ _ _ _ (by simp), World.cell?_drewN]; exact World.cell?_setCell_same _ _ _ c2
    · rw [World.frozen?_setCell, World.frozen?_drewN, World.frozen?_setCell]; exact f1
    · rw [World.frozen?_setCell, World.frozen?_drewN, World.frozen?_setCell]; exact f2
  · refine (byte_end w p a0 len cap i h hlt c0 c1 c2 f1 f2).mono ?_
    rintro e w' ⟨x, h', rfl, g1, g2, n, rfl⟩
    have hg : w.grownBy ((w.setCell ⟨p, 2, none⟩ (.int .i64 h')).drewN n) (some p) := gb_drewN (gb_set w ⟨p, 2, none⟩ (.int .i64 h')) n
    refine ⟨x, rfl, g1, g2, ⟨Nat.lt_of_lt_of_le hp hg.size, code_kept hcode hb hg, hb, i, h', hi, ?_, ?_, ?_, ?_, ?_⟩, hg⟩
    · rw [World.cell?_drewN, World.cell?_setCell_other _ _ _ _ (by simp)]; exact c0
    · rw [World.cell?_drewN, World.cell?_setCell_other _ _ _ _ (by simp)]; exact c1
    · rw [World.cell?_drewN]; exact World.cell?_setCell_same _ _ _ c2
    · rw [World.frozen?_drewN, World.frozen?_setCell]; exact f1
    · rw [World.frozen?_drewN, World.frozen?_setCell]; exact f2

theorem byte_from (w0 w : World) (p : Nat) (a0 : Option Addr) (len cap : Nat) (hc : Cur w p a0 len cap) (hg : w0.grownBy w (some p)) :
    Calls Tryz.prog 125 #[.pointer (some ⟨p, 0, none⟩)] w fun e w' => ∃ x : Int, e = .returned (.int .i64 x) ∧ 0 ≤ x ∧ x ≤ 255 ∧ Cur w' p a0 len cap ∧ w0.grownBy w' (some p) :=
  (byte_any w p a0 len cap hc).mono fun e w' ⟨x, h1, h2, h3, h4, h5⟩ => ⟨x, h1, h2, h3, h4, gb_trans hg h5⟩

set_option maxHeartbeats 1000000 in
theorem below_from (w0 w : World) (p : Nat) (a0 : Option Addr) (len cap : Nat) (n : Int) (hn : 1 ≤ n) (hc : Cur w p a0 len cap) (hg : w0.grownBy w (some p)) :
    Calls Tryz.prog 78 #[.pointer (some ⟨p, 0, none⟩), .int .i64 n] w fun e w' => ∃ x : Int, e = .returned (.int .i64 x) ∧ 0 ≤ x ∧ x < n ∧ Cur w' p a0 len cap ∧ w0.grownBy w' (some p) := by
  by_cases h : n ≤ 256
  · go_enter Tryz.func78, Tryz.ntmps78
    go_wp2_with (go_at_call 125; refine (byte_from w0 _ p a0 len cap (by assumption) (by assumption)).mono ?_; rintro e w1 ⟨x, rfl, hx0, hx1, hc1, hg1⟩)
    go_ret
    exact ⟨_, rfl, Int.emod_nonneg _ (by omega), Int.emod_lt_of_pos _ (by omega), by assumption, by assumption⟩
  · go_enter Tryz.func78, Tryz.ntmps78
    go_wp2_with (go_at_call 125; refine (byte_from w0 _ p a0 len cap (by assumption) (by assumption)).mono ?_; rintro e w1 ⟨x, rfl, hx0, hx1, hc1, hg1⟩)
    go_ret
    exact ⟨_, rfl, Int.emod_nonneg _ (by omega), Int.emod_lt_of_pos _ (by omega), by assumption, by assumption⟩

theorem from_from (w0 w : World) (p : Nat) (a0 : Option Addr) (len cap : Nat) (lo hi : Int) (h1 : lo ≤ hi) (h2 : -1000000000 ≤ lo) (h3 : hi ≤ 1000000000) (hc : Cur w p a0 len cap) (hg : w0.grownBy w (some p)) :
    Calls Tryz.prog 62 #[.pointer (some ⟨p, 0, none⟩), .int .i64 lo, .int .i64 hi] w fun e w' => ∃ x : Int, e = .returned (.int .i64 x) ∧ lo ≤ x ∧ x ≤ hi ∧ Cur w' p a0 len cap ∧ w0.grownBy w' (some p) := by
  go_enter Tryz.func62, Tryz.ntmps62
  go_wp2_with (go_at_call 78; refine (below_from w0 _ p a0 len cap _ (by omega) (by assumption) (by assumption)).mono ?_; rintro e w1 ⟨x, rfl, hx0, hx1, hc1, hg1⟩)
  go_ret
  exact ⟨_, rfl, by omega, by omega, by assumption, by assumption⟩

theorem once_from (w0 w : World) (p : Nat) (a0 : Option Addr) (len cap : Nat) (n : Int) (hn : 1 ≤ n) (hc : Cur w p a0 len cap) (hg : w0.grownBy w (some p)) :
    Calls Tryz.prog 61 #[.pointer (some ⟨p, 0, none⟩), .int .i64 n] w fun e w' => ∃ x : Bool, e = .returned (.bool x) ∧ Cur w' p a0 len cap ∧ w0.grownBy w' (some p) := by
  go_enter Tryz.func61, Tryz.ntmps61
  go_wp2_with (go_at_call 78; refine (below_from w0 _ p a0 len cap _ hn (by assumption) (by assumption)).mono ?_; rintro e w1 ⟨x, rfl, hx0, hx1, hc1, hg1⟩)
  go_ret
  exact ⟨_, rfl, by assumption, by assumption⟩

/-! ### a new cursor -/
theorem new_any (w : World) (a0 : Option Addr) (len cap : Nat) (hcode : CodeAt w a0 len) :
    Calls Tryz.prog 59 #[.slice a0 len cap] w fun e w' => ∃ h : Int, e = .returned (.pointer (some ⟨w.heap.size, 0, none⟩)) ∧ w' = w.alloc (.cells #[.slice a0 len cap, .int .i64 0, .int .i64 h] 147) := by
  have hl := hcode.1
  go_enter Tryz.func59, Tryz.ntmps59
  go_wp2
  go_loop [3, 4] (fun o i => ∃ (k : Nat) (z : Int), k ≤ len ∧ i = .int .i64 k ∧ o = .int .i64 z) (fun _ i => len - (intOf i).toNat)
  case atStart => exact ⟨0, _, Nat.zero_le _, rfl, rfl⟩
  case round =>
    obtain ⟨k, z, hk, rfl, rfl⟩ := hrel
    by_cases hlt : k < len
    · rcases hcode.2 with h0 | ⟨b, off, rfl, hbs, hcell⟩
      · omega
      obtain ⟨c, hc, h1, h2⟩ := hcell k hlt
      clear hcell hcode
      have hlt' : (k : Int) < (len : Int) := by omega
      go_wp2
      go_round
      case rel => exact ⟨k + 1, _, by omega, by go_num, rfl⟩
      case measure => simp [intOf]; omega
    · go_wp2
      go_ret
      exact ⟨rfl, z, rfl⟩

theorem new_cur (w : World) (a0 : Option Addr) (len cap : Nat) (hcode : CodeAt w a0 len) :
    Calls Tryz.prog 59 #[.slice a0 len cap] w fun e w' => ∃ p : Nat, e = .returned (.pointer (some ⟨p, 0, none⟩)) ∧ w.heap.size ≤ p ∧ Cur w' p a0 len cap ∧ Below w.heap.size w w' := by
  refine (new_any w a0 len cap hcode).mono ?_
  rintro e w' ⟨h, rfl, rfl⟩
  have hb : Below w.heap.size w (w.alloc (.cells #[.slice a0 len cap, .int .i64 0, .int .i64 h] 147)) := (Below.refl _ _).alloc (Nat.le_refl _) _
  refine ⟨w.heap.size, rfl, Nat.le_refl _, ⟨by simp, ⟨hcode.1, ?_⟩, ?_, 0, h, Nat.zero_le _, by simp, by simp, by simp, by simp, by simp⟩, hb⟩
  · rcases hcode.2 with h0 | ⟨b, off, rfl, hbs, hcell⟩
    · exact .inl h0
    · refine .inr ⟨b, off, rfl, by simp; omega, fun k hk => ?_⟩
      obtain ⟨c, hc, h1, h2⟩ := hcell k hk
      exact ⟨c, by rw [hb.cell hbs]; exact hc, h1, h2⟩
  · intro b off e
    rcases hcode.2 with h0 | ⟨b', off', e', hbs, hcell⟩
    · exact .inl h0
    · rw [e'] at e; cases e; exact .inr hbs

/-! ### what chapter 1's laws draw -/
theorem cur_alloc {w : World} {p : Nat} {a0 : Option Addr} {len cap : Nat} (h : Cur w p a0 len cap) (o : Obj) : Cur (w.alloc o) p a0 len cap := by
  obtain ⟨hp, hcode, hb, i, h, hi, c0, c1, c2, f1, f2⟩ := h
  have hB : Below w.heap.size w (w.alloc o) := (Below.refl _ _).alloc (Nat.le_refl _) _
  refine ⟨by simp; omega, ⟨hcode.1, ?_⟩, hb, i, h, hi, ?_, ?_, ?_, ?_, ?_⟩
  · rcases hcode.2 with h0 | ⟨b, off, rfl, hbs, hcell⟩
    · exact .inl h0
    · refine .inr ⟨b, off, rfl, by simp; omega, fun k hk => ?_⟩
      obtain ⟨c, hc, h1, h2⟩ := hcell k hk
      exact ⟨c, by rw [hB.cell hbs]; exact hc, h1, h2⟩
  · rw [hB.cell hp]; exact c0
  · rw [hB.cell hp]; exact c1
  · rw [hB.cell hp]; exact c2
  · rw [hB.frozen hp]; exact f1
  · rw [hB.frozen hp]; exact f2
theorem cur_drewN {w : World} {p : Nat} {a0 : Option Addr} {len cap : Nat} (h : Cur w p a0 len cap) (n : Nat) : Cur (w.drewN n) p a0 len cap := h
theorem gb_alloc {w w' : World} {r : Option Nat} (h : w.grownBy w' r) (o : Obj) : w.grownBy (w'.alloc o) r :=
  ⟨h.os, h.tape, h.output, Nat.le_trans h.size (by simp), fun k hk hn => (Below.heap_alloc _ _ _ (Nat.lt_of_lt_of_le hk h.size)).trans (h.block k hk hn)⟩


/-- a number drawn as a place in a row of numbers that lies new -/
theorem below_lit (w0 w : World) (p : Nat) (a0 : Option Addr) (len cap : Nat) (xs : List Int) (t : TypeId) (n lo hi : Int) (hn : n = xs.length) (h1 : 1 ≤ n) (hall : ∀ x ∈ xs, lo ≤ x ∧ x ≤ hi) (hc : Cur w p a0 len cap) (hg : w0.grownBy w (some p)) :
    Calls Tryz.prog 78 #[.pointer (some ⟨p, 0, none⟩), .int .i64 n] (w.alloc (.cells (xs.map (Value.int .i64)).toArray t)) fun e w' => ∃ x v : Int, e = .returned (.int .i64 x) ∧ 0 ≤ x ∧ x < n ∧ w'.cell? ⟨w.heap.size, x.toNat, none⟩ = some (.int .i64 v) ∧ lo ≤ v ∧ v ≤ hi ∧ Cur w' p a0 len cap ∧ w0.grownBy w' (some p) := by
  have hp := hc.1
  refine (below_from (w.alloc (.cells (xs.map (Value.int .i64)).toArray t)) _ p a0 len cap n h1 (cur_alloc hc _) (World.grownBy.refl _ _)).mono ?_
  rintro e w' ⟨x, rfl, g0, g1, hc', hg'⟩
  have hk : x.toNat < xs.length := by omega
  refine ⟨x, xs[x.toNat], rfl, g0, g1, ?_, (hall _ (List.getElem_mem hk)).1, (hall _ (List.getElem_mem hk)).2, hc', gb_trans (gb_alloc hg _) hg'⟩
  rw [gb_cell hg' (by simp) (by omega)]
  simp [hk]
end Go.Proofs.YtaabmkhckbndgaaGreatDoor.draw
/- What the laws of chapter 2 draw, first part: a cursor stays while new memory is written; names; places. -/
namespace Go.Proofs.YtaabmkhckbndgaaGreatDoor.draw
open Go.ChangeShapes Go.WideShapes Go.ChangeAt Go.RowKit
set_option linter.unusedVariables false

theorem cur_below {w w' : World} {p : Nat} {a0 : Option Addr} {len cap L : Nat} (h : Cur w p a0 len cap) (hB : Below L w w') (hL : p < L) : Cur w' p a0 len cap := by
  obtain ⟨hp, hcode, hb, i, h, hi, c0, c1, c2, f1, f2⟩ := h
  refine ⟨Nat.lt_of_lt_of_le hp hB.size, ⟨hcode.1, ?_⟩, hb, i, h, hi, ?_, ?_, ?_, ?_, ?_⟩
  · rcases hcode.2 with h0 | ⟨b, off, e, hbs, hcell⟩
    · exact .inl h0
    · rcases hb b off e with h0 | hbp
      · exact .inl h0
      · refine .inr ⟨b, off, e, Nat.lt_of_lt_of_le hbs hB.size, fun k hk => ?_⟩
        obtain ⟨c, hc, h1, h2⟩ := hcell k hk
        exact ⟨c, by rw [hB.cell (by show b < L; omega)]; exact hc, h1, h2⟩
  · rw [hB.cell hL]; exact c0
  · rw [hB.cell hL]; exact c1
  · rw [hB.cell hL]; exact c2
  · rw [hB.frozen hL]; exact f1
  · rw [hB.frozen hL]; exact f2
theorem gb_below {w a b : World} {p L : Nat} (h : w.grownBy a (some p)) (hB : Below L a b) (hL : w.heap.size ≤ L) : w.grownBy b (some p) :=
  ⟨hB.os.trans h.os, hB.tape.trans h.tape, hB.output.trans h.output, Nat.le_trans h.size hB.size, fun k hk hn => (hB.block k (by omega)).trans (h.block k hk hn)⟩

/-- a number drawn as a place in a row of texts that lies new -/
theorem below_names (w0 w : World) (p : Nat) (a0 : Option Addr) (len cap : Nat) (ss : List ByteArray) (t : TypeId) (n : Int) (m : Nat) (hn : n = ss.length) (h1 : 1 ≤ n) (hall : ∀ s ∈ ss, s.size ≤ m) (hc : Cur w p a0 len cap) (hg : w0.grownBy w (some p)) :
    Calls Tryz.prog 78 #[.pointer (some ⟨p, 0, none⟩), .int .i64 n] (w.alloc (.cells (ss.map Value.string).toArray t)) fun e w' => ∃ (x : Int) (s : ByteArray), e = .returned (.int .i64 x) ∧ 0 ≤ x ∧ x < n ∧ w'.cell? ⟨w.heap.size, x.toNat, none⟩ = some (.string s) ∧ s.size ≤ m ∧ Cur w' p a0 len cap ∧ w0.grownBy w' (some p) := by
  have hp := hc.1
  refine (below_from (w.alloc (.cells (ss.map Value.string).toArray t)) _ p a0 len cap n h1 (cur_alloc hc _) (World.grownBy.refl _ _)).mono ?_
  rintro e w' ⟨x, rfl, g0, g1, hc', hg'⟩
  have hk : x.toNat < ss.length := by omega
  refine ⟨x, ss[x.toNat], rfl, g0, g1, ?_, hall _ (List.getElem_mem hk), hc', gb_trans (gb_alloc hg _) hg'⟩
  rw [gb_cell hg' (by simp) (by omega)]
  simp [hk]

/-- the eight names -/
def names : List ByteArray := [⟨#[97]⟩, ⟨#[98]⟩, ⟨#[99]⟩, ⟨#[100, 100]⟩, ⟨#[101, 49]⟩, ⟨#[102, 45]⟩, ⟨#[103]⟩, ⟨#[104]⟩]
theorem names_small : ∀ s ∈ names, s.size ≤ 2 := by
  intro s hs
  simp only [names, List.mem_cons, List.not_mem_nil, or_false] at hs
  rcases hs with rfl | rfl | rfl | rfl | rfl | rfl | rfl | rfl <;> decide

theorem name_from (w0 w : World) (p : Nat) (a0 : Option Addr) (len cap : Nat) (hc : Cur w p a0 len cap) (hg : w0.grownBy w (some p)) :
    Calls Tryz.prog 126 #[.pointer (some ⟨p, 0, none⟩)] w fun e w' => ∃ s : ByteArray, e = .returned (.string s) ∧ s.size ≤ 2 ∧ Cur w' p a0 len cap ∧ w0.grownBy w' (some p) := by
  go_enter Tryz.func126, Tryz.ntmps126
  go_wp2_with (first | (go_at_call 78; refine (below_names w0 w p a0 len cap names _ 8 2 rfl (by omega) names_small hc hg).mono ?_; rintro e w1 ⟨x, s, rfl, hx0, hx1, hcell, hs, hc1, hg1⟩; obtain ⟨k, hk⟩ : ∃ k : Nat, x = k := ⟨x.toNat, by omega⟩; subst hk; rw [Int.toNat_natCast] at hcell) | (fail))
  go_ret
  exact ⟨s, rfl, hs, hc1, hg1⟩

end Go.Proofs.YtaabmkhckbndgaaGreatDoor.draw
