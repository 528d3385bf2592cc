/- Texts laid together: Sn1 Sn2 Sn6 Sn3 Sn4 Sm1 Sn7 Sm2 Bb2 Sm3 Sn8. -/
import Derived.Test.YtjkkjpgebcnhgaaGreatDoorMg03
import Derived.Test.YtjkkjpgebcnhgaaGreatDoorMg02
import Derived.Test.YtjkkjpgebcnhgaaGreatDoorMg00
import Derived.Test.YtjkkjpgebcnhgaaGreatDoorMg01
import Derived.Test.YtjkkjpgebcnhgaaGreatDoorMg12
import Derived.Test.YtjkkjpgebcnhgaaGreatDoorDe3
import Derived.Lib.SmallJoins
import Derived.Deep.Slices
import Derived.Deep.RegionHeld3
import Derived.BigQuiet
import Derived.Lib.Bytealg
import Derived.Lib.Overlaps
import Derived.Lib.AppendZerosOnto
import Derived.Deep.DeepCutAuto
/- The program's casBehind, Clone of things, copyBook. -/
namespace Go.Proofs.YtjkkjpgebcnhgaaGreatDoor.rg
open Go.ChangeShapes Go.WideShapes Go.ChangeAt Go.RowKit
open Go.Deep Go.Joins
open Go.Proofs.YtjkkjpgebcnhgaaGreatDoor.ce Go.Proofs.YtjkkjpgebcnhgaaGreatDoor.ro
set_option linter.unusedVariables false

theorem casBehind_is (X : Int) (h0 : 1 ≤ X) (h1 : X ≤ 1000000) (w : World) : Calls Tryz.prog 62 #[.int .i64 X] w fun e w' => e = .returned (.int .i64 (nextX X)) ∧ w' = w := by
  have e3 : Hid (X % 1000000 + 1 = nextX X) := by unfold Hid nextX; split <;> omega
  go_enter Tryz.func62, Tryz.ntmps62
  go_wp2
  go_ret
  exact ⟨congrArg (fun z => Ending.returned (.int .i64 z)) e3.out, rfl⟩
set_option maxRecDepth 100000 in
theorem clone_any (I : List It) (v : Value) (w : World) (r : Rd encIt w v I) (hl : I.length ≤ 1048576) :
    Calls Tryz.prog 73 #[v] w fun e w' => ∃ v', e = .returned v' ∧ Own encIt w' w.heap.size w'.heap.size v' I ∧ Below w.heap.size w w' := by
  obtain ⟨a, cap, rfl⟩ := r.form
  have R : Hid (Rd encIt w (.slice a I.length cap) I) := r
  cases a with
  | none =>
    have hI : I = [] := by
      cases I with
      | nil => rfl
      | cons x q => obtain ⟨b, off, e, -⟩ := rd_item rfl rfl r 0 (by simp); cases e
    subst hI
    clear r
    have hnil : ∀ W, (binOp .eql 29 (.slice none 0 cap) (.slice none 0 0)).run Tryz.prog W = .ok (.bool true) W := fun W => by rw [Lib.run_eql_slice_nil W _ _ _ _ _ _ _ Tryz.underlying29]; rfl
    go_enter Tryz.func73, Tryz.ntmps73
    go_wp2
    go_ret
    exact ⟨_, rfl, own_zero _ _ _ _ _, Below.refl _ _⟩
  | some ad =>
    clear r
    have hnil : ∀ W, (binOp .eql 29 (.slice (some ad) I.length cap) (.slice none 0 0)).run Tryz.prog W = .ok (.bool false) W := fun W => by rw [Lib.run_eql_slice_nil W _ _ _ _ _ _ _ Tryz.underlying29]; rfl
    go_enter Tryz.func73, Tryz.ntmps73
    go_wp2_with (first | (at_builtin; refine wpList_append_g infoIt rfl _ _ 29 rfl Tryz.underlying29 w.heap.size _ _ [] rfl (own_zero _ _ _ 0 _) (by simp) _ I rfl (R.out.grow ((Below.refl _ _).alloc (Nat.le_refl _) _)) (by simp; omega) ?_; intro v4 w4 o4 hT4; rw [List.nil_append] at o4; have hB4 : Below w.heap.size w w4 := ((Below.refl _ _).alloc (Nat.le_refl _) _).trans hT4.low) | (fail))
    go_ret
    exact ⟨_, rfl, o4, hB4⟩
theorem cb_grow {w w' w'' : World} {b1 b2 : Nat} {u v : Value} (hB : Below w'.heap.size w' w'') (h : w'.cell? ⟨b1, 0, none⟩ = some u ∧ w'.cell? ⟨b1, 1, none⟩ = some v ∧ Cpb w b1 b2 [u, v] w') : w''.cell? ⟨b1, 0, none⟩ = some u ∧ w''.cell? ⟨b1, 1, none⟩ = some v ∧ Cpb w b1 b2 [u, v] w'' := by
  obtain ⟨q0, q1, hv⟩ := h.2.2.var
  exact cb_of ⟨h.2.2.low.trans (hB.mono h.2.2.low.size), vblk_grow h.2.2.src hB, q0, q1, vblk_grow hv hB⟩
set_option maxRecDepth 100000 in
set_option maxHeartbeats 2000000 in
theorem copyBook_any (I : List It) (X : Int) (v : Value) (w : World) (r : Rd encIt w v I) (hl : I.length ≤ 1048576) :
    Calls Tryz.prog 39 #[.agg #[v, .int .i64 X]] w fun e w' => ∃ v', e = .returned (.agg #[v', .int .i64 X]) ∧ Own encIt w' w.heap.size w'.heap.size v' I ∧ Below w.heap.size w w' := by
  obtain ⟨a, cap, rfl⟩ := r.form
  have R : Hid (Rd encIt w (.slice a I.length cap) I) := r
  clear r
  have m1 : Hid True := trivial
  go_enter Tryz.func39, Tryz.ntmps39
  go_wp2_with (first | (clear m1; refine wpList_box_v rfl 31 _ rfl [.slice a I.length cap, .int .i64 X] rfl ?_; intro b1 w1 hb1 hw1 hB1 hV1; have hz1 := hB1.size) | (refine wpList_alloc_v rfl 31 rfl _ zeroBk ?_; intro b2 w2 hb2 hw2 hB2 hV2; have hz2 := hB2.size; have hB12 : Below w.heap.size w w2 := hB1.trans (hB2.mono hz1)) | (fail))
  have S1 := cb_of (w := w) (b1 := b1) (b2 := b2) (w' := w2.drew) ⟨hB12.drew, hV1.of (hB2.block b1 hw1), _, _, hV2⟩
  have hne : b1 ≠ b2 := by omega
  have hlo : w.heap.size ≤ b2 := by omega
  go_region_held3 (fun w' => w'.cell? ⟨b1, 0, none⟩ = some (.slice a I.length cap) ∧ w'.cell? ⟨b1, 1, none⟩ = some (.int .i64 X) ∧ Cpb w b1 b2 [.slice a I.length cap, .int .i64 X] w') (first | with_reducible assumption | with_reducible exact cb_store hne hlo (by assumption) | with_reducible exact cb_alloc (by assumption) | with_reducible exact cb_alloc_drew (by assumption) | (fail)) (first | (go_at_call 73; refine (clone_any I _ _ (R.out.grow (cb_low (by with_reducible assumption))) hl).mono ?_; rintro e W5 ⟨v5, rfl, o5, hB5⟩; replace o5 := o5.wide (lo' := w.heap.size) (cb_size (by with_reducible assumption)) (Nat.le_refl _); have hS5 := cb_grow hB5 (by with_reducible assumption); obtain ⟨q0, q1, hv⟩ := hS5.2.2.var; obtain ⟨g0, g1⟩ := cells2 hv; have f0 := hv.frozen 0; have f1 := hv.frozen 1; obtain ⟨a5, n5, k5, rfl⟩ := o5.slice) | (fail))
  all_goals
    go_wp2
    exact row_retv rfl rfl (copy2_end hv) Tryz.underlying31 sizeBk rfl ⟨_, rfl, (own_store2 o5 hv (by decide)).top, cb_low (by with_reducible assumption)⟩
end Go.Proofs.YtjkkjpgebcnhgaaGreatDoor.rg
/- The closure that withoutItem hands on; IndexFunc with it. -/
namespace Go.Proofs.YtjkkjpgebcnhgaaGreatDoor.rg
open Go.ChangeShapes Go.WideShapes Go.ChangeAt Go.RowKit
open Go.Deep Go.Joins
open Go.Proofs.YtjkkjpgebcnhgaaGreatDoor.ce Go.Proofs.YtjkkjpgebcnhgaaGreatDoor.ro
set_option linter.unusedVariables false

set_option maxRecDepth 100000 in
theorem wo1_any (N B s : ByteArray) (F C U : Int) (bs : Nat) (y : Bool) (hy : Hid ((N.toList == s.toList) = y)) (w : World) (V : VBlk w bs 9 [.string s]) :
    Calls Tryz.prog 120 #[.agg #[.string N, .int .i64 F, .string B, .int .i64 C, .int .i64 U], .pointer (some ⟨bs, 0, none⟩)] w fun e w' => e = .returned (.bool y) ∧ Below w.heap.size w w' := by
  have hfd := field_thing N B F C U
  go_enter Tryz.func120, Tryz.ntmps120
  go_upto_region 1 with (first | (refine wpList_box_v rfl 56 _ rfl [.string N, .int .i64 F, .string B, .int .i64 C, .int .i64 U] rfl ?_; intro b2 w1 hb2 hw2 hB1 V1; have hz1 := hB1.size) | (fail))
  have Vs := vblk_grow V hB1
  clear V
  have S1 : w1.drew.cell? ⟨bs, 0, none⟩ = some (.string s) ∧ w1.drew.cell? ⟨b2, 0, none⟩ = some (.string N) ∧ w1.drew.cell? ⟨b2, 1, none⟩ = some (.int .i64 F) ∧ w1.drew.cell? ⟨b2, 2, none⟩ = some (.string B) ∧ w1.drew.cell? ⟨b2, 3, none⟩ = some (.int .i64 C) ∧ w1.drew.cell? ⟨b2, 4, none⟩ = some (.int .i64 U) := ⟨Vs.cell 0 (by simp), cells5 (w := w1.drew) V1⟩
  go_region_held3 (fun w' => w'.cell? ⟨bs, 0, none⟩ = some (.string s) ∧ w'.cell? ⟨b2, 0, none⟩ = some (.string N) ∧ w'.cell? ⟨b2, 1, none⟩ = some (.int .i64 F) ∧ w'.cell? ⟨b2, 2, none⟩ = some (.string B) ∧ w'.cell? ⟨b2, 3, none⟩ = some (.int .i64 C) ∧ w'.cell? ⟨b2, 4, none⟩ = some (.int .i64 U)) (first | with_reducible assumption | with_reducible exact S1 | (fail)) (first | (go_at_call 97; refine (thingOf_any N B F C U _).mono ?_; rintro e w3 ⟨rfl, hB3⟩; have S3 : w3.cell? ⟨bs, 0, none⟩ = some (.string s) ∧ w3.cell? ⟨b2, 0, none⟩ = some (.string N) ∧ w3.cell? ⟨b2, 1, none⟩ = some (.int .i64 F) ∧ w3.cell? ⟨b2, 2, none⟩ = some (.string B) ∧ w3.cell? ⟨b2, 3, none⟩ = some (.int .i64 C) ∧ w3.cell? ⟨b2, 4, none⟩ = some (.int .i64 U) := ⟨(vblk_grow Vs ((Below.refl _ _).drew.trans hB3)).cell 0 (by simp), cells5 (vblk_grow V1 ((Below.refl _ _).drew.trans hB3))⟩) | (go_at_call 109; refine (goesBy_any N s y hy.out _).mono ?_; rintro e wq ⟨rfl, hq⟩; subst wq) | (fail))
  go_wp2
  go_ret
  exact ⟨rfl, hB1.trans (((Below.refl _ _).drew.trans hB3).mono hz1)⟩
/-- the first place that goes by the name -/
def idx (s : ByteArray) : List It → Nat
  | [] => 0
  | x :: r => if x.N = s then 0 else idx s r + 1
theorem idx_at {s : ByteArray} {l : List It} {i : Nat} (hi : i < l.length) (h : ∀ j (h : j < l.length), j < i → l[j].N ≠ s) (he : l[i].N = s) : idx s l = i := by
  induction l generalizing i with
  | nil => simp at hi
  | cons x r ih =>
    cases i with
    | zero => unfold idx; rw [if_pos (by simpa using he)]
    | succ k =>
      have h0 := h 0 (by simp) (by omega)
      unfold idx
      rw [if_neg (by simpa using h0), ih (by simpa using hi) (fun j hj hk => h (j + 1) (by simp; omega) (by omega)) (by simpa using he)]
theorem idx_no {s : ByteArray} {l : List It} (h : ∀ j (h : j < l.length), l[j].N ≠ s) : idx s l = l.length := by
  induction l with
  | nil => rfl
  | cons x r ih =>
    have h0 := h 0 (by simp)
    unfold idx
    rw [if_neg (by simpa using h0), ih (fun j hj => h (j + 1) (by simp; omega)), List.length_cons]
set_option maxRecDepth 100000 in
set_option maxHeartbeats 2000000 in
theorem index_any (I : List It) (s : ByteArray) (bs : Nat) (v : Value) (w : World) (r : Rd encIt w v I) (V : VBlk w bs 9 [.string s]) (hl : I.length ≤ 1048576) :
    Calls Tryz.prog 127 #[v, .func (.func 120) #[] #[.pointer (some ⟨bs, 0, none⟩)]] w fun e w' => e = .returned (.int .i64 (if idx s I < I.length then (idx s I : Int) else -1)) ∧ Below w.heap.size w w' := by
  obtain ⟨a, cap, rfl⟩ := r.form
  have R : Hid (Rd encIt w (.slice a I.length cap) I) := r
  have VV : Hid (VBlk w bs 9 [.string s]) := V
  clear r V
  obtain ⟨z, hz⟩ := hid_ex (if idx s I < I.length then (idx s I : Int) else -1)
  rw [hz.out]
  have hcf : ∀ args w, (callFunc 120 args).run Tryz.prog w = .ok (.enter 120 args) w := by intro args w; kernel_rfl
  go_enter Tryz.func127, Tryz.ntmps127
  go_wp2
  go_loopw [8, 5] (fun p u wr => ∃ i : Nat, i ≤ I.length ∧ p = .int .i64 i ∧ Hid (∀ j (h : j < I.length), j < i → I[j].N ≠ s) ∧ Hid (Below w.heap.size w wr)) (fun p _ _ => I.length - (intOf p).toNat)
  case atStart => exact ⟨0, by omega, rfl, (fun j h hj => by omega), Below.refl _ _⟩
  case round =>
    obtain ⟨i, hi1, rfl, hno, hBr⟩ := hrel
    by_cases hlt : i < I.length
    · obtain ⟨b, off, eA, hbk, rg⟩ := rd_item rfl rfl (R.out.grow hBr.out) i hlt
      subst eA
      have hlt' : (i : Int) < (I.length : Int) := by omega
      have Vr := vblk_grow VV.out hBr.out
      by_cases he : I[i].N = s
      · have ez : z = (i : Int) := by rw [← hz.out, idx_at hlt hno.out he, if_pos hlt]
        subst ez
        obtain ⟨x, hx⟩ := hid_ex (I[i])
        rw [hx.out] at rg he
        obtain ⟨N, F, B, C, U⟩ := x
        have hY : Hid ((N.toList == s.toList) = true) := by unfold Hid; dsimp only at he; rw [he]; simp
        clear he
        go_wp2_with (first | (refine wpList_load_r rfl 56 _ rfl b (off + i * 5) [.string N, .int .i64 F, .string B, .int .i64 C, .int .i64 U] rfl _ Tryz.underlying56 rfl sizeIt rg ?_) | (go_at_call 120; refine (wo1_any N B s F C U bs true hY _ Vr).mono ?_; rintro e w3 ⟨rfl, hB3⟩) | (fail))
        go_ret
        exact ⟨rfl, hBr.out.trans (hB3.mono hBr.out.size)⟩
      · have hno2 : Hid (∀ j (h : j < I.length), j < i + 1 → I[j].N ≠ s) := fun j h hj => by
          by_cases q : j = i
          · subst q; exact he
          · exact hno.out j h (by omega)
        obtain ⟨x, hx⟩ := hid_ex (I[i])
        rw [hx.out] at rg he
        obtain ⟨N, F, B, C, U⟩ := x
        have hY : Hid ((N.toList == s.toList) = false) := by unfold Hid; dsimp only at he; simpa using fun e => he (str_eq e)
        clear he
        go_wp2_with (first | (refine wpList_load_r rfl 56 _ rfl b (off + i * 5) [.string N, .int .i64 F, .string B, .int .i64 C, .int .i64 U] rfl _ Tryz.underlying56 rfl sizeIt rg ?_) | (go_at_call 120; refine (wo1_any N B s F C U bs false hY _ Vr).mono ?_; rintro e w3 ⟨rfl, hB3⟩) | (fail))
        go_roundw
        case rel => exact ⟨i + 1, by omega, by go_num, hno2, hBr.out.trans (hB3.mono hBr.out.size)⟩
        case measure => simp [intOf]; omega
    · have hlt' : ¬ (i : Int) < (I.length : Int) := by omega
      have ez : z = -1 := by rw [← hz.out, idx_no (fun j h => hno.out j h (by omega)), if_neg (Nat.lt_irrefl _)]
      subst ez
      go_wp2
      go_ret
      exact ⟨rfl, hBr.out⟩
end Go.Proofs.YtjkkjpgebcnhgaaGreatDoor.rg
/- slices.DeleteFunc with the closure of withoutItem; withoutItem. -/
namespace Go.Proofs.YtjkkjpgebcnhgaaGreatDoor.rg
open Go.ChangeShapes Go.WideShapes Go.ChangeAt Go.RowKit
open Go.Deep Go.Joins
open Go.Proofs.YtjkkjpgebcnhgaaGreatDoor.ce Go.Proofs.YtjkkjpgebcnhgaaGreatDoor.ro
set_option linter.unusedVariables false

theorem idx_in {s : ByteArray} {l : List It} (h : idx s l < l.length) : l[idx s l].N = s := by
  induction l with
  | nil => simp at h
  | cons x r ih =>
    by_cases e : x.N = s
    · have e0 : idx s (x :: r) = 0 := by unfold idx; rw [if_pos e]
      simp [e0, e]
    · have e0 : idx s (x :: r) = idx s r + 1 := by conv => lhs; unfold idx; rw [if_neg e]
      rw [e0] at h
      simp only [e0, List.getElem_cons_succ]
      exact ih (by simpa using h)
theorem idx_none {s : ByteArray} {l : List It} (h : ¬ idx s l < l.length) : ∀ x ∈ l, x.N ≠ s := fun x hx => by
  induction l with
  | nil => simp at hx
  | cons y r ih =>
    have hy : y.N ≠ s := fun e => h (by unfold idx; rw [if_pos e]; simp)
    have e0 : idx s (y :: r) = idx s r + 1 := by conv => lhs; unfold idx; rw [if_neg hy]
    rcases List.mem_cons.1 hx with rfl | hx
    · exact hy
    · exact ih (by rw [e0] at h; simpa using h) hx
/-- one is gone, the others as far as they have been moved -/
def mvd (I : List It) (k p : Nat) : List It := (I.take k ++ I.drop (k + 1)).take p ++ I.drop p
theorem mvd_start (I : List It) {k : Nat} (hk : k < I.length) : mvd I k k = I := by
  unfold mvd
  rw [List.take_append_of_le_length (by rw [List.length_take]; omega), List.take_take, Nat.min_self, List.take_append_drop]
theorem mvd_len (I : List It) {k p : Nat} (hk : k < I.length) (hp : p < I.length) : (mvd I k p).length = I.length := by
  unfold mvd
  simp only [List.length_append, List.length_take, List.length_drop]
  omega
theorem mvd_at (I : List It) {k p j : Nat} (hk : k < I.length) (hp : p < j) (hj : j < I.length) (h : j < (mvd I k p).length) : (mvd I k p)[j] = I[j] := by
  have hl : ((I.take k ++ I.drop (k + 1)).take p).length = p := by simp only [List.length_append, List.length_take, List.length_drop]; omega
  apply Option.some.inj
  rw [← List.getElem?_eq_getElem h, ← List.getElem?_eq_getElem hj]
  unfold mvd
  rw [List.getElem?_append_right (by omega), hl, List.getElem?_drop]
  congr 1
  omega
theorem mvd_step (I : List It) {k p : Nat} (hk : k < I.length) (hkp : k ≤ p) (hp : p + 1 < I.length) : (mvd I k p).set p I[p + 1] = mvd I k (p + 1) := by
  have hl : ((I.take k ++ I.drop (k + 1)).take p).length = p := by simp only [List.length_append, List.length_take, List.length_drop]; omega
  have hD : p < (I.take k ++ I.drop (k + 1)).length := by simp only [List.length_append, List.length_take, List.length_drop]; omega
  have e1 : (I.take k ++ I.drop (k + 1))[p] = I[p + 1] := by
    have ht : (I.take k).length = k := by rw [List.length_take]; omega
    rw [List.getElem_append_right (by omega)]
    simp only [ht, List.getElem_drop]
    congr 1
    omega
  unfold mvd
  rw [List.set_append_right _ _ (by omega), hl, Nat.sub_self, List.drop_eq_getElem_cons (show p < I.length by omega), List.set_cons_zero, List.take_succ_eq_append_getElem hD, e1, List.append_assoc]
  rfl
theorem mvd_end (I : List It) {k p : Nat} (hk : k < I.length) (hp : p + 1 = I.length) : (mvd I k p).take p = I.take k ++ I.drop (k + 1) := by
  have hl : (I.take k ++ I.drop (k + 1)).length = p := by simp only [List.length_append, List.length_take, List.length_drop]; omega
  unfold mvd
  rw [List.take_append_of_le_length (by rw [List.length_take, hl]; omega), List.take_take, Nat.min_self, List.take_of_length_le (by omega)]
/-- the cells of a thing are cleared -/
theorem run_clear_it (w : World) (ty : TypeId) (b o c : Nat) (hc : ∀ j, j < 5 → (w.cell? ⟨b, o + j, none⟩).isSome = true) (hf : ∀ j, w.frozen? ⟨b, j, none⟩ = false) :
    (Builtin.clear_ #[29] ty #[.slice (some ⟨b, o, none⟩) 1 c]).run Tryz.prog w = .ok (.tuple #[]) (w.setCells b o (encIt.row [⟨⟨#[]⟩, 0, ⟨#[]⟩, 0, 0⟩])) := by
  have hzc : (Builtin.zeroCells (Value.agg #[.string ⟨#[]⟩, .int .i64 0, .string ⟨#[]⟩, .int .i64 0, .int .i64 0]).cells 1).toList = [.string ⟨#[]⟩, .int .i64 0, .string ⟨#[]⟩, .int .i64 0, .int .i64 0] := by
    simp [Builtin.zeroCells, Value.cells, List.range_succ]
  have hst := run_storeCells_cells (P := Tryz.prog) b o [.string ⟨#[]⟩, .int .i64 0, .string ⟨#[]⟩, .int .i64 0, .int .i64 0] 0 w (by simpa using hc) (by intro j hj; exact hf _) (by intro v hv; simp at hv; rcases hv with rfl | rfl | rfl | rfl | rfl <;> rfl)
  simp only [Nat.add_zero] at hst
  simp [Builtin.clear_, run_underlying Tryz.underlying29, hzc, hst]
  rfl
theorem own_apart {w w' : World} {lo hi b : Nat} {v : Value} {xs : List It} (o : Own encIt w lo hi v xs) (h : Only b w w') (hb : hi ≤ b) : Own encIt w' lo hi v xs := o.below (h.2.2 b (Nat.le_refl _)) hb
set_option maxRecDepth 100000 in
set_option maxHeartbeats 4000000 in
theorem delete_any (I : List It) (s : ByteArray) (bs lo : Nat) (v : Value) (w : World) (o : Own encIt w lo w.heap.size v I) (V : VBlk w bs 9 [.string s]) (hlo : lo ≤ w.heap.size) (hS : Srt I) (hl : I.length ≤ 1048576) :
    Calls Tryz.prog 119 #[v, .func (.func 120) #[] #[.pointer (some ⟨bs, 0, none⟩)]] w fun e w' => ∃ v', e = .returned v' ∧ Own encIt w' lo w'.heap.size v' (dropL I s) ∧ Ty lo 56 w w' := by
  have HS : Hid (Srt I) := hS
  have VV : Hid (VBlk w bs 9 [.string s]) := V
  have O : Hid (Own encIt w lo w.heap.size v I) := o
  clear hS V
  have hcf : ∀ args w, (callFunc 120 args).run Tryz.prog w = .ok (.enter 120 args) w := by intro args w; kernel_rfl
  by_cases hk : idx s I < I.length
  · have hdr : dropL I s = I.take (idx s I) ++ I.drop (idx s I + 1) := by
      have := drop_at HS.out hk
      rw [idx_in hk] at this
      exact this
    have hns : Hid (∀ j (h : j < I.length), idx s I < j → I[j].N ≠ s) := fun j h hj e => by
      have h1 := idx_in hk
      exact ltS_ne (List.pairwise_iff_getElem.1 HS.out _ _ hk h hj) (h1.trans e.symm)
    obtain ⟨k, hkk⟩ := hid_ex (idx s I)
    rw [hkk.out] at hdr hns hk
    obtain ⟨g, cap, rfl, hg1, hg2, -⟩ := o.form (by omega)
    obtain ⟨hnc, hcap, hmx⟩ := o.rd.cap
    obtain ⟨n, hn⟩ := hid_ex I.length
    have O2 : Hid (Own encIt w lo w.heap.size (.slice (some ⟨g, 0, none⟩) n cap) I) := by rw [← hn.out]; exact O.out
    rw [hn.out]
    rw [hn.out] at hk hcap hl
    rw [hdr]
    clear o O hnc
    have hne : ((k : Int) == -1) = false := by first | (simp; done) | (simp; omega)
    have ew : IntKind.i64.wrap ((k : Int) + 1) = ((k + 1 : Nat) : Int) := by rw [IntKind.wrap_i64]; omega
    go_enter Tryz.func119, Tryz.ntmps119
    go_wp2_with (first | (go_at_call 127; refine (index_any I s bs _ w O2.out.rd VV.out (by rw [hn.out]; exact hl)).mono ?_; rintro e w1 ⟨rfl, hB1⟩; rw [hkk.out, hn.out, if_pos hk]; have hz1 := hB1.size) | (fail))
    have O3 : Hid (Own encIt w1 lo w.heap.size (.slice (some ⟨g, 0, none⟩) n cap) I) := O2.out.grow hB1
    have V3 : Hid (VBlk w1 bs 9 [.string s]) := vblk_grow VV.out hB1
    have T3 : Hid (Ty lo 56 w w1) := Ty.of_below hB1 (by omega)
    clear hB1
    go_loopw [5, 6] (fun s5 s6 wr => ∃ p j : Nat, s5 = .int .i64 p ∧ s6 = .int .i64 j ∧ Hid (j = p + 1) ∧ k ≤ p ∧ p < n ∧ j ≤ n ∧ Hid (Own encIt wr lo w.heap.size (.slice (some ⟨g, 0, none⟩) n cap) (mvd I k p)) ∧ Hid (Ty lo 56 w wr) ∧ w.heap.size ≤ wr.heap.size) (fun _ s6 _ => n - (intOf s6).toNat)
    case atStart => exact ⟨k, k + 1, rfl, rfl, rfl, Nat.le_refl _, hk, hk, by rw [mvd_start I (by rw [hn.out]; exact hk)]; exact O3.out, T3, hz1⟩
    case round =>
      obtain ⟨p, j, rfl, rfl, hj, hkp, hpn, hjn, hO, hT, hz⟩ := hrel
      by_cases hlt : j < n
      · have hjp := hj.out
        have hml : Hid ((mvd I k p).length = n) := by unfold Hid; rw [mvd_len I (by rw [hn.out]; omega) (by rw [hn.out]; omega)]; exact hn.out
        have hjl : j < (mvd I k p).length := by rw [hml.out]; exact hlt
        obtain ⟨b, off, eA, hbk, rg⟩ := rd_item rfl rfl hO.out.rd j hjl
        obtain ⟨rfl, rfl⟩ : b = g ∧ off = 0 := by cases eA; exact ⟨rfl, rfl⟩
        have hlt' : (j : Int) < (n : Int) := by omega
        have hpn' : (p : Int) < (n : Int) := by omega
        rw [mvd_at I (by rw [hn.out]; omega) (by omega) (by rw [hn.out]; exact hlt)] at rg
        have hN := hns.out j (by rw [hn.out]; exact hlt) (by omega)
        have hst : Hid ((mvd I k p).set p (I[j]'(by rw [hn.out]; exact hlt)) = mvd I k (p + 1)) := by
          have := mvd_step I (k := k) (p := p) (by rw [hn.out]; omega) hkp (by rw [hn.out]; omega)
          subst hjp
          exact this
        obtain ⟨x, hx⟩ := hid_ex (I[j]'(by rw [hn.out]; exact hlt))
        rw [hx.out] at rg hN hst
        obtain ⟨N, F, B, C, U⟩ := x
        have hY : Hid ((N.toList == s.toList) = false) := by unfold Hid; simpa using fun e => hN (str_eq e)
        have Vr := hT.out.vblk VV.out (by decide)
        have ep : IntKind.i64.wrap ((p : Int) + 1) = (j : Int) := by rw [IntKind.wrap_i64]; omega
        have RG : Hid (wr.rangeAt b (0 + j * 5) [.string N, .int .i64 F, .string B, .int .i64 C, .int .i64 U]) := rg
        have m1 : Hid True := trivial
        have m2 : Hid True := trivial
        have m3 : Hid True := trivial
        clear hjp hN eA rg hx
        rw [Nat.zero_add] at RG
        go_wp2_with (first
          | (clear m1; refine wpList_load_r rfl 56 _ rfl b (j * 5) [.string N, .int .i64 F, .string B, .int .i64 C, .int .i64 U] rfl _ Tryz.underlying56 rfl sizeIt RG.out ?_)
          | (refine wpList_alloc_v rfl 56 rfl _ zeroIt ?_; intro b7 w2 hb7 hw7 hB2 V7; have O4 := hO.out.grow hB2; have Vr2 := vblk_grow Vr hB2; have hz2 := hB2.size)
          | (clear m2; refine wpList_store_v rfl 56 _ _ rfl b7 [.string N, .int .i64 F, .string B, .int .i64 C, .int .i64 U] rfl rfl sizeIt V7 rfl (ic_one ⟨N, F, B, C, U⟩) ?_; intro w3 hO3 V73; have O5 := own_apart O4 hO3 (by omega); have Vr3 := vblk_only Vr2 hO3 (by have := Vr.lt; omega); have hz3 := Nat.le_of_eq hO3.1.symm; have hy3 := Nat.le_of_eq hO3.1)
          | (clear m3; refine wpList_load_r rfl 56 _ rfl b7 0 [.string N, .int .i64 F, .string B, .int .i64 C, .int .i64 U] rfl _ Tryz.underlying56 rfl sizeIt V73.range ?_)
          | (go_at_call 120; refine (wo1_any N B s F C U bs false hY _ Vr3).mono ?_; rintro e w4 ⟨rfl, hB4⟩; have O6 := O5.grow hB4; have V74 := vblk_grow V73 hB4; have hz4 := hB4.size)
          | (refine wpList_load_r rfl 56 _ rfl b7 0 [.string N, .int .i64 F, .string B, .int .i64 C, .int .i64 U] rfl _ Tryz.underlying56 rfl sizeIt V74.range ?_)
          | (refine wpList_store_e (E := encIt) sizeIt rfl _ _ rfl lo w.heap.size b n cap p (p * 5) _ ⟨N, F, B, C, U⟩ rfl rfl rfl O6 (by rw [hml.out]; exact hpn) ?_; intro w5 hO5 O7; rw [hst.out] at O7)
          | (fail))
        go_roundw
        case measure => simp [intOf]; omega
        case rel =>
          have hE : (mvd I k p) ≠ [] := fun e => by have := hml.out; rw [e] at this; simp at this; omega
          have T5 : Ty lo 56 wr w5 := ((Ty.of_below (hB2.trans ((hO3.2.2 _ (by omega)).trans (hB4.mono (by omega)))) (by omega)).trans ((O6.at hE).1.ty (O6.at hE).2.1 hO5))
          have hjo := hj.out
          rw [← hjo] at O7
          exact ⟨j, j + 1, by first | rfl | go_num, by go_num, rfl, by omega, hlt, by omega, O7, hT.out.trans T5, by have := hO5.1; omega⟩
      · have hlt' : ¬ (j : Int) < (n : Int) := by omega
        have hpe : Hid (p + 1 = n) := by unfold Hid; have := hj.out; omega
        have hml : Hid ((mvd I k p).length = n) := by unfold Hid; rw [mvd_len I (by rw [hn.out]; omega) (by rw [hn.out]; omega)]; exact hn.out
        have hE : Hid (mvd I k p ≠ []) := fun e => by have := hml.out; rw [e] at this; simp at this; omega
        obtain ⟨r0, hg3, hg4⟩ := hO.out.at hE.out
        obtain ⟨h1, h2, -⟩ := r0.there
        have hpc : p < cap := by omega
        have h3 : ∀ q, q < 5 → (wr.cell? ⟨g, p * 5 + q, none⟩).isSome = true := fun q hq => h1 _ (by show _ < cap * 5; omega)
        obtain ⟨W2, hW2⟩ : ∃ W2, Hid (wr.setCells g (p * 5) (encIt.row [⟨⟨#[]⟩, 0, ⟨#[]⟩, 0, 0⟩]) = W2) := ⟨_, rfl⟩
        have hclr : ∀ ty, (Builtin.clear_ #[29] ty #[.slice (some ⟨g, p * 5, none⟩) 1 (cap - p)]).run Tryz.prog wr = .ok (.tuple #[]) W2 := fun ty => by
          rw [← hW2.out]
          exact run_clear_it wr ty g (p * 5) (cap - p) h3 h2
        have O8 := r0.write p (by rw [hml.out]; omega) [⟨⟨#[]⟩, 0, ⟨#[]⟩, 0, 0⟩] (by simp; omega)
        have T8 := r0.ty hg3 (only_setCells wr g (encIt.row [⟨⟨#[]⟩, 0, ⟨#[]⟩, 0, 0⟩]) (p * 5))
        have O9 := O8.cut p
        rw [List.append_assoc, List.take_append_of_le_length (by rw [List.length_take, hml.out]; omega), List.take_take, Nat.min_self, mvd_end I (by rw [hn.out]; omega) (by rw [hn.out]; exact hpe.out)] at O9
        have hlD : p = (I.take k ++ I.drop (k + 1)).length := by simp only [List.length_append, List.length_take, List.length_drop]; rw [hn.out]; have := hpe.out; omega
        have O10 : Hid (Own encIt W2 lo w.heap.size (.slice (some ⟨g, 0, none⟩) p cap) (I.take k ++ I.drop (k + 1))) := by rw [← hW2.out]; exact O9.own hg3 hg4 hlD
        have T10 : Hid (Ty lo 56 wr W2) := by rw [← hW2.out]; exact T8
        have hz10 : W2.heap.size = wr.heap.size := by rw [← hW2.out]; exact (only_setCells wr g _ _).1
        have e1 : ¬ cap = p := by omega
        have e2 : n - p = 1 := by have := hpe.out; omega
        have e3 : (p : Int) ≤ (n : Int) := by omega
        have e4 : (p : Int) ≤ (cap : Int) := by omega
        have HZ : Hid (W2.heap.size = wr.heap.size) := hz10
        clear h1 h2 h3 O8 T8 O9 hz10 r0 hlD
        go_wp2
        go_ret
        exact ⟨_, rfl, O10.out.wide (Nat.le_refl _) (by rw [HZ.out]; exact hz), hT.out.trans T10.out⟩
  · have hdr : dropL I s = I := drop_no (idx_none hk)
    rw [hdr]
    obtain ⟨a, cap, rfl⟩ := o.rd.form
    clear o hdr
    go_enter Tryz.func119, Tryz.ntmps119
    go_wp2_with (first | (go_at_call 127; refine (index_any I s bs _ w O.out.rd VV.out hl).mono ?_; rintro e w1 ⟨rfl, hB1⟩; rw [if_neg hk]) | (fail))
    go_ret
    exact ⟨_, rfl, (O.out.grow hB1).top, Ty.of_below hB1 hlo⟩
end Go.Proofs.YtjkkjpgebcnhgaaGreatDoor.rg
/- strings.Compare; the closure that withItem hands on. -/
namespace Go.Proofs.YtjkkjpgebcnhgaaGreatDoor.rg
open Go.ChangeShapes Go.WideShapes Go.ChangeAt Go.RowKit
open Go.Deep Go.Joins
open Go.Proofs.YtjkkjpgebcnhgaaGreatDoor.ce Go.Proofs.YtjkkjpgebcnhgaaGreatDoor.ro
set_option linter.unusedVariables false

def cmpS (a b : ByteArray) : Int := Lib.compareBytes a.data.toList b.data.toList
set_option maxRecDepth 100000 in
theorem cmpString_any (a b : ByteArray) (w : World) : Calls Tryz.prog 121 #[.string a, .string b] w fun e w' => e = .returned (.int .i64 (cmpS a b)) ∧ w' = w := by
  unfold cmpS
  go_enter Tryz.func121, Tryz.ntmps121
  go_wp2
  rw [run_callFunc_extern Tryz.func128 (by kernel_rfl) (by kernel_rfl) (by kernel_rfl) (e := Extern.BytealgCompare.compare) (by kernel_rfl), Lib.run_compareString]
  simp only [Result.andThen]
  rw [Oper.upon_value]
  go_wp2
  go_ret
  exact ⟨rfl, rfl⟩
theorem compare_any (a b : ByteArray) (w : World) : Calls Tryz.prog 105 #[.string a, .string b] w fun e w' => e = .returned (.int .i64 (cmpS a b)) ∧ w' = w := by
  go_enter Tryz.func105, Tryz.ntmps105
  go_wp2_with (first | (go_at_call 121; refine (cmpString_any _ _ _).mono ?_; rintro e wq ⟨rfl, hq⟩; subst wq) | (fail))
  go_ret
  exact ⟨rfl, rfl⟩
theorem wi1_any (N B s : ByteArray) (F C U : Int) (w : World) : Calls Tryz.prog 104 #[.agg #[.string N, .int .i64 F, .string B, .int .i64 C, .int .i64 U], .string s] w fun e w' => e = .returned (.int .i64 (cmpS N s)) ∧ Below w.heap.size w w' := by
  go_enter Tryz.func104, Tryz.ntmps104
  go_wp2_with (first | (refine wpList_box_v rfl 56 _ rfl [.string N, .int .i64 F, .string B, .int .i64 C, .int .i64 U] rfl ?_; intro b2 w1 hb2 hw2 hB1 V1; obtain ⟨c0, c1, c2, c3, c4⟩ := cells5 V1) | (go_at_call 105; refine (compare_any _ _ _).mono ?_; rintro e wq ⟨rfl, hq⟩; subst wq) | (fail))
  go_ret
  exact ⟨rfl, hB1⟩
theorem cmp_less : ∀ l m : List UInt8, Lib.compareBytes l m < 0 ↔ Op.bytesLess l m = true
  | [], [] => by simp [Lib.compareBytes, Op.bytesLess]
  | [], _ :: _ => by simp [Lib.compareBytes, Op.bytesLess]
  | _ :: _, [] => by simp [Lib.compareBytes, Op.bytesLess]
  | a :: l, b :: m => by
    have ih := cmp_less l m
    unfold Lib.compareBytes Op.bytesLess
    by_cases h1 : a < b
    · simp [h1]
    · by_cases h2 : b < a
      · simp [h1, h2]
        try (intro e; exact absurd (e ▸ h2) (by simp))
      · have e : a = b := by
          have h1' := UInt8.not_lt.1 h1
          have h2' := UInt8.not_lt.1 h2
          exact UInt8.le_antisymm h2' h1'
        subst e
        simpa using ih
end Go.Proofs.YtjkkjpgebcnhgaaGreatDoor.rg
/- slices.BinarySearchFunc with the closure of withItem. -/
namespace Go.Proofs.YtjkkjpgebcnhgaaGreatDoor.rg
open Go.ChangeShapes Go.WideShapes Go.ChangeAt Go.RowKit
open Go.Deep Go.Joins
open Go.Proofs.YtjkkjpgebcnhgaaGreatDoor.ce Go.Proofs.YtjkkjpgebcnhgaaGreatDoor.ro
set_option linter.unusedVariables false

theorem cmp_ltS (a b : ByteArray) : cmpS a b < 0 ↔ ltS a b = true := by
  unfold cmpS ltS
  rw [cmp_less, ByteArray.toList_eq, ByteArray.toList_eq]
theorem lt_trans' {I : List It} (h : Srt I) {s : ByteArray} {i j : Nat} (hi : i < I.length) (hj : j < I.length) (hij : i ≤ j) (hl : ltS I[j].N s = true) : ltS I[i].N s = true := by
  by_cases e : i = j
  · subst e; exact hl
  · exact ltS_trans (List.pairwise_iff_getElem.1 h i j hi hj (by omega)) hl
set_option maxRecDepth 100000 in
set_option maxHeartbeats 4000000 in
theorem bsf_any (I : List It) (s : ByteArray) (v : Value) (w : World) (r : Rd encIt w v I) (hS : Srt I) (hl : I.length ≤ 1048576) :
    Calls Tryz.prog 103 #[v, .string s, .func (.func 104) #[] #[]] w fun e w' => ∃ (k : Nat) (y : Bool), e = .returned (.tuple #[.int .i64 k, .bool y]) ∧ k ≤ I.length ∧ (∀ t (h : t < I.length), t < k → ltS I[t].N s = true) ∧ (∀ t (h : t < I.length), k ≤ t → ltS I[t].N s = false) ∧ Below w.heap.size w w' := by
  obtain ⟨a, cap, rfl⟩ := r.form
  have R : Hid (Rd encIt w (.slice a I.length cap) I) := r
  have HS : Hid (Srt I) := hS
  clear r hS
  have hcf : ∀ args w, (callFunc 104 args).run Tryz.prog w = .ok (.enter 104 args) w := by intro args w; kernel_rfl
  go_enter Tryz.func103, Tryz.ntmps103
  go_wp2
  go_loopg [9, 10] I.length (fun g s7 s8 wr => ∃ lo hi : Nat, s7 = .int .i64 lo ∧ s8 = .int .i64 hi ∧ lo ≤ hi ∧ hi ≤ I.length ∧ hi - lo ≤ g ∧ Hid (Below w.heap.size w wr) ∧ Hid (∀ t (h : t < I.length), t < lo → ltS I[t].N s = true) ∧ Hid (∀ t (h : t < I.length), hi ≤ t → ltS I[t].N s = false))
  case atStart => exact ⟨0, I.length, rfl, rfl, Nat.zero_le _, Nat.le_refl _, by omega, Below.refl _ _, fun t h ht => absurd ht (Nat.not_lt_zero _), fun t h h1 => absurd h (by omega)⟩
  case round =>
    obtain ⟨lo, hi', rfl, rfl, hlh, hin, hg, hBr, h1, h2⟩ := hrel
    by_cases hlt : lo < hi'
    · obtain ⟨m, hm⟩ : ∃ m, m = (lo + hi') / 2 := ⟨_, rfl⟩
      have em : ((lo : Int) + (hi' : Int)) / 2 = (m : Int) := by omega
      have hml : m < I.length := by omega
      have hm1 : lo ≤ m := by omega
      have hm2 : m < hi' := by omega
      clear hm
      obtain ⟨b, off, eA, hbk, rg⟩ := rd_item rfl rfl (R.out.grow hBr.out) m hml
      subst eA
      by_cases hyx : ltS I[m].N s = true
      · have n1 : Hid (∀ t (h : t < I.length), t < m + 1 → ltS I[t].N s = true) := fun t h ht => lt_trans' HS.out h hml (by omega) hyx
        obtain ⟨x, hx⟩ := hid_ex (I[m])
        rw [hx.out] at rg hyx
        obtain ⟨N, F, B, C, U⟩ := x
        have hc0 : cmpS N s < 0 := (cmp_ltS N s).2 hyx
        obtain ⟨c, hc⟩ := hid_ex (cmpS N s)
        rw [hc.out] at hc0
        clear hyx
        go_wp2_with (first | (refine wpList_load_r rfl 56 _ rfl b (off + m * 5) [.string N, .int .i64 F, .string B, .int .i64 C, .int .i64 U] rfl _ Tryz.underlying56 rfl sizeIt rg ?_) | (go_at_call 104; refine (wi1_any N B s F C U _).mono ?_; rintro e w3 ⟨rfl, hB3⟩; rw [hc.out]) | (fail))
        go_roundg (hi' - (m + 1))
        case measure => omega
        case rel => exact ⟨m + 1, hi', by go_num, rfl, by omega, hin, Nat.le_refl _, hBr.out.trans (hB3.mono hBr.out.size), n1, h2⟩
      · have n2 : Hid (∀ t (h : t < I.length), m ≤ t → ltS I[t].N s = false) := fun t h ht => by
          cases q : ltS I[t].N s with
          | false => rfl
          | true => exact absurd (lt_trans' HS.out hml h ht q) hyx
        obtain ⟨x, hx⟩ := hid_ex (I[m])
        rw [hx.out] at rg hyx
        obtain ⟨N, F, B, C, U⟩ := x
        have hc0 : ¬ cmpS N s < 0 := fun q => hyx ((cmp_ltS N s).1 q)
        obtain ⟨c, hc⟩ := hid_ex (cmpS N s)
        rw [hc.out] at hc0
        clear hyx
        go_wp2_with (first | (refine wpList_load_r rfl 56 _ rfl b (off + m * 5) [.string N, .int .i64 F, .string B, .int .i64 C, .int .i64 U] rfl _ Tryz.underlying56 rfl sizeIt rg ?_) | (go_at_call 104; refine (wi1_any N B s F C U _).mono ?_; rintro e w3 ⟨rfl, hB3⟩; rw [hc.out]) | (fail))
        go_roundg (m - lo)
        case measure => omega
        case rel => exact ⟨lo, m, rfl, rfl, by omega, by omega, Nat.le_refl _, hBr.out.trans (hB3.mono hBr.out.size), h1, n2⟩
    · obtain rfl : hi' = lo := by omega
      by_cases hn : hi' < I.length
      · obtain ⟨m, hm⟩ : ∃ m, Hid (m = hi') := ⟨_, rfl⟩
        have hn' : (hi' : Int) < (I.length : Int) := by omega
        obtain ⟨b, off, eA, hbk, rg⟩ := rd_item rfl rfl (R.out.grow hBr.out) hi' hn
        subst eA
        obtain ⟨x, hx⟩ := hid_ex (I[hi'])
        rw [hx.out] at rg
        obtain ⟨N, F, B, C, U⟩ := x
        obtain ⟨c, hc⟩ := hid_ex (cmpS N s)
        have e5 := rng5 rg
        obtain ⟨d0, d1, d2, d3, d4⟩ := e5
        go_wp2_with (first | (refine wpList_load_r rfl 56 _ rfl b (off + hi' * 5) [.string N, .int .i64 F, .string B, .int .i64 C, .int .i64 U] rfl _ Tryz.underlying56 rfl sizeIt rg ?_) | (go_at_call 104; refine (wi1_any N B s F C U _).mono ?_; rintro e w3 ⟨rfl, hB3⟩; rw [hc.out]) | (fail))
        go_ret2
        exact ⟨hi', _, rfl, hin, h1.out, h2.out, hBr.out.trans (hB3.mono hBr.out.size)⟩
      · have hn' : ¬ (hi' : Int) < (I.length : Int) := by omega
        go_wp2
        go_ret2
        first | exact ⟨hi', _, rfl, hin, h1.out, h2.out, hBr.out⟩ | exact ⟨hi', Or.inl rfl, hin, h1.out, h2.out, hBr.out⟩
end Go.Proofs.YtjkkjpgebcnhgaaGreatDoor.rg
/- A thing is put into a list that a call made. -/
namespace Go.Proofs.YtjkkjpgebcnhgaaGreatDoor.rg
open Go.ChangeShapes Go.WideShapes Go.ChangeAt Go.RowKit
open Go.Deep Go.Joins
open Go.Proofs.YtjkkjpgebcnhgaaGreatDoor.ce Go.Proofs.YtjkkjpgebcnhgaaGreatDoor.ro Go.Proofs.YtjkkjpgebcnhgaaGreatDoor.draw
set_option linter.unusedVariables false

theorem put_is {b : List It} {k : Nat} {i : It} (hk : k ≤ b.length) (h1 : ∀ x ∈ b.take k, ltS x.N i.N = true) (h2 : ∀ h : k < b.length, ltS b[k].N i.N = false) : b.take k ++ i :: bhd i.N (b.drop k) = putL b i := by
  have ht : (b.drop k).takeWhile (fun x => ltS x.N i.N) = [] ∧ (b.drop k).dropWhile (fun x => ltS x.N i.N) = b.drop k := by
    by_cases hlt : k < b.length
    · rw [List.drop_eq_getElem_cons hlt, List.takeWhile_cons, List.dropWhile_cons, h2 hlt]
      simp
    · rw [List.drop_eq_nil_of_le (by omega)]
      simp
  have hb : ∀ l, bhd i.N l = behind i l := fun l => by cases l <;> rfl
  have e1 : b.takeWhile (fun x => ltS x.N i.N) = b.take k := by
    conv => lhs; rw [← List.take_append_drop k b]
    rw [List.takeWhile_append_of_pos h1, ht.1, List.append_nil]
  have e2 : b.dropWhile (fun x => ltS x.N i.N) = b.drop k := by
    conv => lhs; rw [← List.take_append_drop k b]
    rw [List.dropWhile_append_of_pos h1, ht.2]
  unfold putL
  rw [e1, e2, hb]
set_option maxRecDepth 100000 in
set_option maxHeartbeats 4000000 in
theorem l10Put_zero (a : Option Addr) (N B : ByteArray) (F C U : Int) (w : World) :
    Calls Tryz.prog 107 #[.slice a 0 0, .agg #[.string N, .int .i64 F, .string B, .int .i64 C, .int .i64 U]] w fun e w' => ∃ v', e = .returned v' ∧ Own encIt w' w.heap.size w'.heap.size v' [⟨N, F, B, C, U⟩] ∧ Below w.heap.size w w' := by
  go_enter Tryz.func107, Tryz.ntmps107
  go_wp2_with (first | (refine wpList_box_v rfl 56 _ rfl [.string N, .int .i64 F, .string B, .int .i64 C, .int .i64 U] rfl ?_; intro b1 w1 hb1 hw1 hB1 V1; have hz1 := hB1.size) | (fail))
  have VV : Hid (VBlk w1 b1 56 [.string N, .int .i64 F, .string B, .int .i64 C, .int .i64 U]) := V1
  clear V1
  go_loopw [5] (fun p wr => p = .int .i64 0 ∧ Hid (Below w1.heap.size w1 wr)) (fun p _ => 0)
  case atStart => exact ⟨rfl, Below.refl _ _⟩
  case round =>
    obtain ⟨rfl, hBr⟩ := hrel
    have hBw : Below w.heap.size w wr := hB1.trans (hBr.out.mono hz1)
    have hzr := hBr.out.size
    have c0 := (cells5 (vblk_grow VV.out hBr.out)).1
    have hdr : ([] : List It) = [] := rfl
    go_wp2
    go_quiet (fail)
    generalize hwq : wr.drewN nq = wq
    have hBq : Below wr.heap.size wr wq := hwq ▸ ce.below_drewN _ _
    have hzq := hBq.size
    have hBwq : Below w.heap.size w wq := hBw.trans (hBq.mono hBw.size)
    have Vq : Hid (VBlk wq b1 56 [.string N, .int .i64 F, .string B, .int .i64 C, .int .i64 U]) := vblk_grow (vblk_grow VV.out hBr.out) hBq
    have RT : Hid (Rd encIt wq (.slice a 0 0) (([] : List It))) := rd_zero encIt _ _ _ (Nat.zero_le _)
    skip
    have hdl : ([] : List It).length ≤ 1000000 := by simp
    have htl : (([] : List It)).length ≤ 1000000 := by simp
    clear hwq c0 hBr
    have m4 : Hid True := trivial
    go_wp2_with (first | (clear m4; at_builtin; refine wpList_append_g infoIt rfl _ _ 29 rfl Tryz.underlying29 wq.heap.size _ _ [] rfl (own_zero _ _ _ 0 _) (by simp) _ [] rfl (rd_zero encIt _ _ _ (by unfold maxLen; omega)) (by simp) ?_; intro v4 w4 o4 hT4; rw [List.nil_append] at o4; have hB4 : Below wq.heap.size wq w4 := ((Below.refl _ _).alloc (Nat.le_refl _) _).trans hT4.low) | (fail))
    have hz4 := hB4.size
    have V4 : Hid (VBlk w4 b1 56 [.string N, .int .i64 F, .string B, .int .i64 C, .int .i64 U]) := vblk_grow Vq.out hB4
    have c0 := (cells5 V4.out).1
    obtain ⟨A4, n4, k4, rfl⟩ := o4.slice
    obtain rfl : n4 = 0 := o4.rd.cap.1
    have O4 : Hid (Own encIt w4 wq.heap.size w4.heap.size (.slice A4 0 k4) []) := o4
    clear o4
    go_wp2
    go_quiet (fail)
    generalize hwv : w4.drewN nq = w5
    have hB5 : Below w4.heap.size w4 w5 := hwv ▸ ce.below_drewN _ _
    have hz5 := hB5.size
    have V5 : Hid (VBlk w5 b1 56 [.string N, .int .i64 F, .string B, .int .i64 C, .int .i64 U]) := vblk_grow V4.out hB5
    have RT5 : Hid (Rd encIt w5 (.slice a 0 0) (([] : List It))) := (RT.out.grow hB4).grow hB5
    have hBw5 : Below w.heap.size w w5 := (hBwq.trans (hB4.mono hBwq.size)).trans (hB5.mono (Nat.le_trans hBwq.size hz4))
    clear hwv
    have hxl : ([] : List It).length ≤ 1000000 := by first | (rw [← hdr]; exact hdl) | (rw [hdr] at hdl; simp at hdl ⊢; omega) | simp
    have RR4 := O4.out.rd.grow hB5
    clear O4
    have R5 : Hid (Rd encIt w5 _ ([] : List It)) := RR4
    clear RR4
    go_wp2
    have hS0 : Below w5.heap.size w5 w5.drew ∧ w5.drew.cell? ⟨b1, 0, none⟩ = some (.string N) ∧ w5.drew.cell? ⟨b1, 1, none⟩ = some (.int .i64 F) ∧ w5.drew.cell? ⟨b1, 2, none⟩ = some (.string B) ∧ w5.drew.cell? ⟨b1, 3, none⟩ = some (.int .i64 C) ∧ w5.drew.cell? ⟨b1, 4, none⟩ = some (.int .i64 U) := ⟨(Below.refl _ _).drew, cells5 (w := w5.drew) V5.out⟩
    have m7 : Hid True := trivial
    have m8 : Hid True := trivial
    go_region_held3 (fun w' => Below w5.heap.size w5 w' ∧ w'.cell? ⟨b1, 0, none⟩ = some (.string N) ∧ w'.cell? ⟨b1, 1, none⟩ = some (.int .i64 F) ∧ w'.cell? ⟨b1, 2, none⟩ = some (.string B) ∧ w'.cell? ⟨b1, 3, none⟩ = some (.int .i64 C) ∧ w'.cell? ⟨b1, 4, none⟩ = some (.int .i64 U)) (first | with_reducible assumption | with_reducible exact hS0 | with_reducible exact sp_alloc V5.out (by with_reducible assumption) | with_reducible exact sp_alloc_drew V5.out (by with_reducible assumption) | (fail)) (first | (clear m7; refine step_append_g infoIt rfl _ _ 29 rfl Tryz.underlying29 _ 0 _ [] rfl (own_zero _ _ _ _ _) (Nat.le_refl _) _ (([] : List It)) rfl (RT5.out.grow (sp_b (by with_reducible assumption))) (by first | (simp; done) | (simp; omega) | (unfold maxLen; simp)) ?_; intro v6 w6 o6 hT6; rw [List.nil_append] at o6; have hzc := sp_size hT6 (by with_reducible assumption); have hS6 := sp_trans V5.out (by with_reducible assumption) hT6.low hzc) | (clear m8; refine step_append_g infoIt rfl _ _ 29 rfl Tryz.underlying29 _ _ _ (([] : List It)) rfl (o6.grow ((Below.refl _ _).alloc (Nat.le_refl _) _)) (Nat.le_trans hT6.low.size (by simp)) (.slice (some ⟨w6.heap.size, 0, none⟩) 1 1) [⟨N, F, B, C, U⟩] rfl (rd_new (E := encIt) w6 ⟨N, F, B, C, U⟩ #[.string N, .int .i64 F, .string B, .int .i64 C, .int .i64 U] rfl) (by first | (simp; done) | (simp; omega) | (unfold maxLen; simp)) ?_; intro v7 w7 o7 hT7; have hS7 := sp_trans V5.out (by with_reducible assumption) hT7.low hzc; have hzz := Nat.le_trans (Nat.le_trans hT6.low.size (show _ ≤ _ by first | exact Nat.le_refl _ | simp)) hT7.low.size) | (clear m8; refine step_append_g infoIt rfl _ _ 29 rfl Tryz.underlying29 _ _ _ (([] : List It)) rfl o6 (Nat.le_trans hT6.low.size (by simp)) (.slice (some ⟨w5.heap.size + 1, 0, none⟩) 1 1) [⟨N, F, B, C, U⟩] rfl (by have := (rd_new (E := encIt) (w5.alloc (Obj.cells #[] 56)) ⟨N, F, B, C, U⟩ #[.string N, .int .i64 F, .string B, .int .i64 C, .int .i64 U] rfl).drew.grow hT6.low; simpa using this) (by first | (simp; done) | (simp; omega) | (unfold maxLen; simp)) ?_; intro v7 w7 o7 hT7; have hS7 := sp_trans V5.out (by with_reducible assumption) hT7.low hzc; have hzz := Nat.le_trans (Nat.le_trans hT6.low.size (show _ ≤ _ by first | exact Nat.le_refl _ | simp)) hT7.low.size) | (clear m8; refine step_append_g infoIt rfl _ _ 29 rfl Tryz.underlying29 _ _ _ (([] : List It)) rfl o6 (Nat.le_trans hT6.low.size (by simp)) (.slice (some ⟨w5.heap.size, 0, none⟩) 1 1) [⟨N, F, B, C, U⟩] rfl (((rd_new (E := encIt) w5 ⟨N, F, B, C, U⟩ #[.string N, .int .i64 F, .string B, .int .i64 C, .int .i64 U] rfl).grow ((Below.refl _ _).alloc (Nat.le_refl _) (Obj.cells #[] 56))).drew.grow hT6.low) (by first | (simp; done) | (simp; omega) | (unfold maxLen; simp)) ?_; intro v7 w7 o7 hT7; have hS7 := sp_trans V5.out (by with_reducible assumption) hT7.low hzc; have hzz := Nat.le_trans (Nat.le_trans hT6.low.size (show _ ≤ _ by first | exact Nat.le_refl _ | simp)) hT7.low.size) | (refine step_append_g infoIt rfl _ _ 29 rfl Tryz.underlying29 _ _ _ (([] : List It) ++ [⟨N, F, B, C, U⟩]) rfl o7 (Nat.le_trans hzz (Nat.le_refl _)) _ ([] : List It) rfl (R5.out.grow hS7.1) (by first | (simp; done) | (simp; omega) | (unfold maxLen; simp)) ?_; intro v8 w8 o8 hT8; have hS8 := sp_trans V5.out hS7 hT8.low hzc) | (fail))
    all_goals
      go_wp2
      go_ret
      refine ⟨_, rfl, ?_, hBw5.trans (hS8.1.mono hBw5.size)⟩
      have := o8.wide (lo' := w.heap.size) (Nat.le_trans hBw5.size hzc) (Nat.le_refl _)
      simpa using this
theorem l10Put_own (I : List It) (v : Value) (lo hi : Nat) (N B : ByteArray) (F C U : Int) (w : World) (o : Own encIt w lo hi v I) (hl : I.length ≤ 1000000) :
    Calls Tryz.prog 107 #[v, .agg #[.string N, .int .i64 F, .string B, .int .i64 C, .int .i64 U]] w fun e w' => ∃ v', e = .returned v' ∧ Own encIt w' w.heap.size w'.heap.size v' (putL I ⟨N, F, B, C, U⟩) ∧ Below w.heap.size w w' := by
  have r := o.rd
  rcases o.row with ⟨rfl, a, rfl⟩ | ⟨g, cap, cur, rfl, -⟩
  · exact l10Put_zero a N B F C U w
  · refine (l10Put_any I g 0 I.length cap N B F C U w r hl).mono ?_
    rintro e w' ⟨v', k, rfl, o', hB, hk, h1, h2⟩
    rw [put_is (i := ⟨N, F, B, C, U⟩) hk h1 h2] at o'
    exact ⟨v', rfl, o', hB⟩
end Go.Proofs.YtjkkjpgebcnhgaaGreatDoor.rg
/- withoutItem; slices.Insert of one thing; withItem. -/
namespace Go.Proofs.YtjkkjpgebcnhgaaGreatDoor.rg
open Go.ChangeShapes Go.WideShapes Go.ChangeAt Go.RowKit
open Go.Deep Go.Joins
open Go.Proofs.YtjkkjpgebcnhgaaGreatDoor.ce Go.Proofs.YtjkkjpgebcnhgaaGreatDoor.ro
set_option linter.unusedVariables false

theorem srt_ext : ∀ {l m : List It}, Srt l → Srt m → (∀ x, x ∈ l ↔ x ∈ m) → l = m
  | [], [], _, _, _ => rfl
  | [], y :: m, _, _, h => by have := (h y).2 (List.mem_cons_self ..); simp at this
  | x :: l, [], _, _, h => by have := (h x).1 (List.mem_cons_self ..); simp at this
  | x :: l, y :: m, h1, h2, h => by
    obtain ⟨a1, a2⟩ := List.pairwise_cons.1 h1
    obtain ⟨b1, b2⟩ := List.pairwise_cons.1 h2
    have e : x = y := by
      rcases List.mem_cons.1 ((h x).1 (List.mem_cons_self ..)) with q | q
      · exact q
      · rcases List.mem_cons.1 ((h y).2 (List.mem_cons_self ..)) with r | r
        · exact r.symm
        · exact absurd rfl (ltS_ne (ltS_trans (b1 x q) (a1 y r)))
    subst e
    rw [srt_ext a2 b2 fun z => ?_]
    constructor
    · intro hz
      rcases List.mem_cons.1 ((h z).1 (List.mem_cons_of_mem _ hz)) with q | q
      · exact absurd rfl (ltS_ne (q ▸ a1 z hz))
      · exact q
    · intro hz
      rcases List.mem_cons.1 ((h z).2 (List.mem_cons_of_mem _ hz)) with q | q
      · exact absurd rfl (ltS_ne (q ▸ b1 z hz))
      · exact q
/-- put where it belongs among those of other names -/
theorem with_is {I : List It} (h : Srt I) (i : It) {k : Nat} (hk : k ≤ (dropL I i.N).length) (h1 : ∀ t (h : t < (dropL I i.N).length), t < k → ltS (dropL I i.N)[t].N i.N = true) (h2 : ∀ t (h : t < (dropL I i.N).length), k ≤ t → ltS (dropL I i.N)[t].N i.N = false) :
    (dropL I i.N).take k ++ i :: (dropL I i.N).drop k = putL I i := by
  have hd : Srt (dropL I i.N) := h.filter _
  have hm : ∀ x ∈ dropL I i.N, x.N ≠ i.N := fun x hx => of_decide_eq_true (List.mem_filter.1 hx).2
  have e1 := put_is (b := dropL I i.N) (k := k) (i := i) hk (fun x hx => by
    obtain ⟨t, ht, e⟩ := List.mem_iff_getElem.1 hx
    simp at ht e
    rw [← e]
    have ht2 : t < min k (dropL I i.N).length := by simpa using ht
    exact h1 t (by omega) (by omega)) (fun hk' => h2 k hk' (Nat.le_refl _))
  have e2 : bhd i.N ((dropL I i.N).drop k) = (dropL I i.N).drop k := by
    cases q : (dropL I i.N).drop k with
    | nil => rfl
    | cons y r =>
      have hy : y ∈ dropL I i.N := List.mem_of_mem_drop (q ▸ List.mem_cons_self ..)
      exact if_neg (hm y hy)
  rw [e2] at e1
  rw [e1]
  refine srt_ext (put_srt hd i) (put_srt h i) fun x => ?_
  rw [put_mem hd, put_mem h]
  constructor
  · rintro (q | ⟨q, r⟩)
    · exact .inl q
    · exact .inr ⟨(List.mem_filter.1 q).1, r⟩
  · rintro (q | ⟨q, r⟩)
    · exact .inl q
    · exact .inr ⟨List.mem_filter.2 ⟨q, decide_eq_true r⟩, r⟩
theorem stamp_iff {b : Bk} (h : StOk b) (i : It) : storeB (stampR b i) = stampOk b i := by
  cases q : stampOk b i with
  | true => exact storeB_iff.2 (stamp_ok h q).1
  | false =>
    cases r : storeB (stampR b i) with
    | false => rfl
    | true =>
      have ok := storeB_iff.1 r
      have hm : stampI b i ∈ putL b.I (stampI b i) := (put_mem h.bk.srt _ _).2 (.inl rfl)
      have h1 := ok.bk.1 _ hm
      have h2 : (putL b.I (stampI b i)).length ≤ 20 := ok.bk.2.2
      unfold stampOk at q
      rw [h1, Bool.true_and, decide_eq_false_iff_not] at q
      omega
set_option maxRecDepth 100000 in
set_option maxHeartbeats 1000000 in
theorem without_any (I : List It) (s : ByteArray) (v : Value) (w : World) (r : Rd encIt w v I) (hS : Srt I) (hl : I.length ≤ 1048576) :
    Calls Tryz.prog 102 #[v, .string s] w fun e w' => ∃ v', e = .returned v' ∧ Own encIt w' w.heap.size w'.heap.size v' (dropL I s) ∧ Below w.heap.size w w' := by
  obtain ⟨a, cap, rfl⟩ := r.form
  have R : Hid (Rd encIt w (.slice a I.length cap) I) := r
  have HS : Hid (Srt I) := hS
  clear r hS
  have V1 : VBlk (w.alloc (.cells #[.string s] 9)) w.heap.size 9 [.string s] := heap_alloc_new _ _
  have hB1 : Below w.heap.size w (w.alloc (.cells #[.string s] 9)) := (Below.refl _ _).alloc (Nat.le_refl _) _
  go_enter Tryz.func102, Tryz.ntmps102
  go_wp2_with (first
    | (go_at_call 73; refine (clone_any I _ _ (R.out.grow hB1) hl).mono ?_; rintro e w2 ⟨v2, rfl, o2, hB2⟩; have V2 := vblk_grow V1 hB2; have hz2 := hB2.size; have hz1 := hB1.size)
    | (go_at_call 119; refine (delete_any I s w.heap.size _ _ _ o2 V2 hz2 HS.out hl).mono ?_; rintro e w3 ⟨v3, rfl, o3, hT3⟩)
    | (fail))
  go_ret
  exact ⟨_, rfl, o3.wide hz1 (Nat.le_refl _), (hB1.trans (hB2.mono hz1)).trans (hT3.low.mono hz1)⟩
/-- the two blocks do not overlap -/
theorem over_no (w : World) (vb g o la ca lb cb : Nat) (hne : vb ≠ g) {t : TypeId} {vs : List Value} (V : VBlk w vb t vs) {k : Nat} (hsb : w.shape? g = some (56, k)) (hk : k ≠ 0) :
    (callFunc 122 #[.slice (some ⟨vb, 0, none⟩) la ca, .slice (some ⟨g, o, none⟩) lb cb]).run Tryz.prog w = .ok (.value (.bool false)) w := by
  have hz : ∀ w, (sizeOf 56).run Tryz.prog w = .ok 5 w := fun w => by
    obtain ⟨i, z, h1, -, h2, -⟩ := infoIt.ex
    have h3 : Tryz.prog.info? 56 = some i := h1
    have h4 : i.size = 5 := h2
    simp [sizeOf, typeInfo, h3, h4]
  have hsa : w.shape? vb = some (t, vs.length) := by
    have : w.heap[vb]? = some (.cells vs.toArray t (0, 0)) := V
    simp [World.shape?, this]
  rw [run_callFunc_extern Tryz.func122 (by kernel_rfl) (by kernel_rfl) (by kernel_rfl) (e := Extern.SlicesOverlaps.overlaps #[29, 29] #[4]) (by kernel_rfl),
    Lib.run_overlaps_apart w 29 4 56 Tryz.underlying29 5 hz ⟨vb, 0, none⟩ ⟨g, o, none⟩ la ca lb cb hne t 56 vs.length k hsa hsb hk (V.frozen _) (V.frozen _)]
  rfl
set_option maxRecDepth 100000 in
set_option maxHeartbeats 4000000 in
theorem insert_any (I : List It) (i : It) (k vb lo : Nat) (v : Value) (w : World) (o : Own encIt w lo vb v I) (V : VBlk w vb 56 (ic i)) (hlo : lo ≤ vb) (hk : k ≤ I.length) (hl : I.length ≤ 1048576) :
    Calls Tryz.prog 106 #[v, .int .i64 k, .slice (some ⟨vb, 0, none⟩) 1 1] w fun e w' => ∃ v', e = .returned v' ∧ Own encIt w' lo w'.heap.size v' (I.take k ++ i :: I.drop k) ∧ Ty lo 56 w w' := by
  have hvl := V.lt
  have hvr : Rd encIt w (.slice (some ⟨vb, 0, none⟩) 1 1) [i] := ⟨_, 1, rfl, Nat.le_refl _, by unfold maxLen; omega, fun _ => ⟨vb, 0, rfl, V.lt, by rw [encIt.row_one']; exact V.range⟩⟩
  have HV : Hid (VBlk w vb 56 (ic i)) := V
  have HR : Hid (Rd encIt w (.slice (some ⟨vb, 0, none⟩) 1 1) [i]) := hvr
  have O : Hid (Own encIt w lo vb v I) := o
  clear V hvr
  by_cases hkn : k = I.length
  · subst hkn
    rw [List.take_of_length_le (Nat.le_refl _), List.drop_of_length_le (Nat.le_refl _)]
    obtain ⟨a, cap, rfl⟩ := o.rd.form
    have hcp := o.rd.cap
    clear o
    have h1 : ((I.length : Int) == (I.length : Int)) = true := by simp
    have h2 : (I.length : Int) ≤ (cap : Int) := by omega
    go_enter Tryz.func106, Tryz.ntmps106
    cases a with
    | none =>
      go_wp2_with (first | (at_builtin; refine wpList_append_g infoIt rfl _ _ 29 rfl Tryz.underlying29 lo _ _ I rfl O.out (by omega) _ [i] rfl HR.out (by simp; omega) ?_; intro v4 w4 o4 hT4) | (fail))
      go_ret
      exact ⟨_, rfl, o4, hT4⟩
    | some ad =>
      obtain ⟨ab, ao, asp⟩ := ad
      go_wp2_with (first | (at_builtin; refine wpList_append_g infoIt rfl _ _ 29 rfl Tryz.underlying29 lo _ _ I rfl O.out (by omega) _ [i] rfl HR.out (by simp; omega) ?_; intro v4 w4 o4 hT4) | (fail))
      all_goals
        go_ret
        exact ⟨_, rfl, o4, hT4⟩
  · have hkn' : k < I.length := by omega
    have hne : I ≠ [] := fun e => by rw [e] at hkn'; simp at hkn'
    obtain ⟨g, cap, rfl, hg1, hg2, -⟩ := o.form (by omega)
    obtain ⟨r0, -, -⟩ := o.at hne
    have hcap := r0.le
    have hmx : cap ≤ 9223372036854775807 := by have := r0.cap; unfold maxLen at this; exact this
    have R0 : Hid (RowAt encIt w g cap I) := r0
    obtain ⟨n, hn⟩ := hid_ex I.length
    rw [hn.out] at hkn' hcap hl ⊢
    obtain ⟨n1, hn1⟩ : ∃ n1, Hid (n1 = n + 1) := ⟨_, rfl⟩
    obtain ⟨k1, hk1⟩ : ∃ k1, Hid (k1 = k + 1) := ⟨_, rfl⟩
    have hn1' := hn1.out
    have hk1' := hk1.out
    have e1 : ((k : Int) == (n : Int)) = false := by first | (simp; done) | (simp; omega)
    have w1 : IntKind.i64.wrap ((n : Int) + 1) = (n1 : Int) := by rw [IntKind.wrap_i64]; omega
    have w2 : IntKind.i64.wrap ((k : Int) + 1) = (k1 : Int) := by rw [IntKind.wrap_i64]; omega
    have b1 : (k : Int) ≤ (n : Int) := by omega
    have b2 : (n : Int) ≤ (cap : Int) := by omega
    have b3 : (k : Int) ≤ (cap : Int) := by omega
    have b4 : (k1 : Int) ≤ (n1 : Int) := by omega
    have b5 : (k : Int) ≤ (n1 : Int) := by omega
    have b6 : (k1 : Int) ≤ (n : Int) := by omega
    have b7 : k ≤ n := by omega
    have b8 : n ≤ cap := by omega
    have b9 : ¬ cap = k := by omega
    have hlD : Hid ((I.drop k).length = n - k) := by unfold Hid; rw [List.length_drop, hn.out]
    have hlT : Hid ((I.take k).length = k) := by unfold Hid; rw [List.length_take, hn.out]; omega
    have HG : Hid (vb ≠ g) := by unfold Hid; omega
    clear o r0 hne hk hkn hmx
    by_cases hroom : n1 ≤ cap
    · have c1 : ¬ ((cap : Int) < (n1 : Int)) := by omega
      have c2 : (n1 : Int) ≤ (cap : Int) := by omega
      have c3 : (k1 : Int) ≤ (cap : Int) := by omega
      have c4 : ¬ cap = k1 := by omega
      have hD : Below w.heap.size w w.drew := (Below.refl _ _).drew
      have RD := R0.out.grow hD
      have r1 := RD.write k1 (by rw [hn.out]; omega) (I.drop k) (by rw [hlD.out]; omega)
      have r2 := r1.write k (by simp only [List.length_append, List.length_take, hlD.out, hn.out]; omega) [i] (by simp; omega)
      obtain ⟨t1, t2, t3⟩ := R0.out.there
      obtain ⟨d1, d2, d3⟩ := RD.there
      obtain ⟨W1, hW1⟩ : ∃ W1, Hid (w.drew.setCells g (k1 * encIt.k) (encIt.row (I.drop k)) = W1) := ⟨_, rfl⟩
      rw [hW1.out] at r1 r2
      obtain ⟨s1, s2, s3⟩ := r1.there
      obtain ⟨W2, hW2⟩ : ∃ W2, Hid (W1.setCells g (k * encIt.k) (encIt.row [i]) = W2) := ⟨_, rfl⟩
      rw [hW2.out] at r2
      have hO1 : Only g w.drew W1 := by rw [← hW1.out]; exact only_setCells _ _ _ _
      have hO2 : Only g W1 W2 := by rw [← hW2.out]; exact only_setCells _ _ _ _
      have hT : Hid (Ty lo 56 w W2) := ((Ty.of_below hD (by omega)).trans (RD.ty hg1 hO1)).trans (r1.ty hg1 hO2)
      have ec : ((I.take k1 ++ I.drop k ++ I.drop (k1 + (I.drop k).length)).take k ++ [i] ++ (I.take k1 ++ I.drop k ++ I.drop (k1 + (I.drop k).length)).drop (k + [i].length)) = I.take k ++ i :: I.drop k := by
        have h0 : I.drop (k1 + (I.drop k).length) = [] := List.drop_of_length_le (by rw [hlD.out, hn.out]; omega)
        have h1 : (I.take k1).length = k1 := by rw [List.length_take, hn.out]; omega
        have h2 : (I.take k1).drop k1 = [] := List.drop_of_length_le (by omega)
        rw [h0, List.append_nil, List.take_append_of_le_length (by omega), List.take_take, Nat.min_eq_left (by omega), List.length_singleton, ← hk1', List.drop_append_of_le_length (by omega), h2, List.nil_append, List.append_assoc]
        rfl
      rw [ec] at r2
      have O2 : Hid (Own encIt W2 lo W2.heap.size (.slice (some ⟨g, 0, none⟩) n1 cap) (I.take k ++ i :: I.drop k)) := r2.own hg1 r2.lt (by rw [List.length_append, List.length_cons, hlD.out, hlT.out]; omega)
      have hcp1 : ∀ ty dc sc, (Builtin.copy_ #[29, 29] ty #[.slice (some ⟨g, k1 * 5, none⟩) (n1 - k1) dc, .slice (some ⟨g, k * 5, none⟩) (n1 - k) sc]).run Tryz.prog w.drew = .ok (goInt (I.drop k).length) W1 := fun ty dc sc => by
        rw [← hW1.out]
        exact run_copy_e (E := encIt) w.drew 29 29 ty Tryz.underlying29 sizeIt g (k1 * 5) (n1 - k1) dc g (k * 5) (n1 - k) sc (I.drop k) (by rw [hlD.out]; show _ = min _ _; omega) (RD.range k (by rw [hn.out]; omega)) (fun q hq => d1 _ (by rw [hlD.out] at hq; have hq' : q < (n - k) * 5 := hq; show _ < cap * 5; omega)) d2
      have hrv : w.drew.rangeAt vb 0 (ic i) := (HV.out.of rfl).range
      have hcp2 : ∀ ty dc, (Builtin.copy_ #[29, 29] ty #[.slice (some ⟨g, k * 5, none⟩) (n1 - k) dc, .slice (some ⟨vb, 0, none⟩) 1 1]).run Tryz.prog W1 = .ok (goInt 1) W2 := fun ty dc => by
        rw [← hW2.out]
        exact run_copy_e (E := encIt) W1 29 29 ty Tryz.underlying29 sizeIt g (k * 5) (n1 - k) dc vb 0 1 1 [i] (by show _ = min _ _; simp; omega) (by rw [encIt.row_one']; exact range_of hrv (hO1.2.1 vb HG.out)) (fun q hq => s1 _ (by have hq' : q < 1 * 5 := hq; show _ < cap * 5; omega)) s2
      have hov : ∀ lb cb, (callFunc 122 #[.slice (some ⟨vb, 0, none⟩) 1 1, .slice (some ⟨g, k1 * 5, none⟩) lb cb]).run Tryz.prog w = .ok (.value (.bool false)) w := fun lb cb => over_no w vb g (k1 * 5) 1 1 lb cb HG.out HV.out t3 (by have : encIt.k = 5 := rfl; rw [this]; omega)
      clear hn1' hk1' t1 t2 t3 d1 d2 d3 s1 s2 s3 r1 r2 RD hD ec hO1 hO2 hrv
      go_enter Tryz.func106, Tryz.ntmps106
      go_wp2_with (simp only [hov])
      go_region_law (refine step_cp rfl _ _ 29 29 rfl _ _ (by simp [Act.eval, Act.put]) (by simp [Act.eval, Act.put]) (hcp1 _ _ _) ?_)
      go_wp2_with (at_builtin; refine wpList_cp rfl _ _ 29 29 rfl _ _ rfl rfl (hcp2 _ _) ?_)
      go_ret
      exact ⟨_, rfl, O2.out, hT.out⟩
    · have c1 : (cap : Int) < (n1 : Int) := by omega
      have hcn : cap = n := by omega
      obtain ⟨q, hq⟩ : ∃ q, Hid (q = n1 - k) := ⟨_, rfl⟩
      have hqo := hq.out
      have w3 : IntKind.i64.wrap ((n1 : Int) - (k : Int)) = (q : Int) := by rw [IntKind.wrap_i64]; omega
      obtain ⟨i0, z, hi0, hz0, hz1, hz2, hz3⟩ := infoIt.ex
      have hz1' : i0.size = 5 := hz1
      have hz3' : z.cells.size = 5 := hz3
      have hhd : (encIt.row (I.take k)).length = k * 5 := by rw [encIt.row_len, hlT.out]; rfl
      have hold : (Builtin.firstCells i0.size k (.slice (some ⟨g, 0, none⟩) k cap)).run Tryz.prog w.drew = .ok (encIt.row (I.take k)).toArray w.drew := by
        rw [hz1']
        exact run_firstCells_some (w := w.drew) 5 k ⟨g, 0, none⟩ k cap (encIt.row (I.take k)) hhd (fun j v hv => by rw [Addr.add_mid]; exact (R0.out.grow (Below.refl _ _).drew).head k j v hv)
      have hap : ∀ ty, (Builtin.append_ #[29, 3] ty #[.slice (some ⟨g, 0, none⟩) k cap, .int .i64 (q : Int)]).run Tryz.prog w = _ := fun ty =>
        Lib.run_append_grow_zeros w 29 3 ty 56 i0 z .i64 .i64 Tryz.underlying29 Tryz.underlying3 hi0 hz0 (some ⟨g, 0, none⟩) k cap _ hold q (by omega) (by omega) (by omega) (by omega) (by have := Nat.mul_le_mul hz2 (show q ≤ 1048577 by omega); rw [Nat.mul_comm]; omega) (growslice_fits (by omega) (by have := Nat.mul_le_mul hz2 (show k + q ≤ 1048577 by omega); rw [Nat.mul_comm]; omega))
      have hG1 : k + q ≤ grownCap w (k + q) cap 56 := grownCap_ge w _ _ _
      have hG2 := grownCap_le_maxLen w (k + q) cap 56 (by unfold maxLen; omega)
      obtain ⟨G, hG⟩ : ∃ G, grownCap w (k + q) cap 56 = G := ⟨_, rfl⟩
      obtain ⟨Z, hZ⟩ : ∃ Z, (encIt.row (I.take k)).toArray ++ Builtin.zeroCells z.cells q ++ Builtin.zeroCells z.cells (G - (k + q)) = Z := ⟨_, rfl⟩
      rw [hG] at hap hG1 hG2
      rw [hZ] at hap
      have hkq : k + q = n1 := by omega
      rw [hkq] at hap hG1
      have hZs : Z.size = G * 5 := by rw [← hZ]; simp [size_zeroCells, hz3', hhd]; omega
      have hZt : Z.toList.take (k * 5) = encIt.row (I.take k) := by
        rw [← hZ]
        simp only [Array.toList_append, List.append_assoc]
        rw [List.take_append_of_le_length (by rw [hhd]; exact Nat.le_refl _), List.take_of_length_le (by rw [hhd]; exact Nat.le_refl _)]
      obtain ⟨WA, hWA⟩ : ∃ WA, Hid (w.drew.alloc (.cells Z 56) = WA) := ⟨_, rfl⟩
      obtain ⟨h0, hh0⟩ : ∃ h0, Hid (w.heap.size = h0) := ⟨_, rfl⟩
      have hBA : Below w.heap.size w WA := by rw [← hWA.out]; exact (Below.refl _ _).drew.alloc (Nat.le_refl _) _
      have ra : RowAt encIt WA h0 G (I.take k) := ⟨⟨Z, by rw [← hWA.out, ← hh0.out]; exact heap_alloc_new w.drew _, hZs, by rw [hlT.out]; exact hZt⟩, by rw [hlT.out]; omega, hG2⟩
      have hap2 : ∀ ty, (Builtin.append_ #[29, 3] ty #[.slice (some ⟨g, 0, none⟩) k cap, .int .i64 (q : Int)]).run Tryz.prog w = .ok (.slice (some ⟨h0, 0, none⟩) n1 G) WA := fun ty => by rw [hap ty, hWA.out, hh0.out]
      have RA := R0.out.grow hBA
      have hh1 : h0 = w.heap.size := hh0.out.symm
      have hgh : g ≠ h0 := by have := R0.out.lt; omega
      have r1 := ra.write k (by rw [hlT.out]; exact Nat.le_refl _) [i] (by simp; omega)
      rw [show (I.take k).take k ++ [i] ++ (I.take k).drop (k + [i].length) = I.take k ++ [i] by rw [List.take_take, Nat.min_self, List.drop_of_length_le (by rw [hlT.out]; simp), List.append_nil]] at r1
      obtain ⟨W1, hW1⟩ : ∃ W1, Hid (WA.setCells h0 (k * encIt.k) (encIt.row [i]) = W1) := ⟨_, rfl⟩
      rw [hW1.out] at r1
      have hO1 : Only h0 WA W1 := by rw [← hW1.out]; exact only_setCells _ _ _ _
      have hD1 : Below W1.heap.size W1 W1.drew := (Below.refl _ _).drew
      have rd1 := r1.grow hD1
      have hl1 : (I.take k ++ [i]).length = k1 := by rw [List.length_append, hlT.out]; simp; omega
      have hl9 : (I.take k ++ [i]).drop (k1 + (I.drop k).length) = [] := List.drop_of_length_le (by rw [hl1]; omega)
      have r2 := rd1.write k1 (by rw [hl1]; exact Nat.le_refl _) (I.drop k) (by rw [hlD.out]; omega)
      rw [show (I.take k ++ [i]).take k1 ++ I.drop k ++ (I.take k ++ [i]).drop (k1 + (I.drop k).length) = I.take k ++ i :: I.drop k by rw [List.take_of_length_le (by rw [hl1]; exact Nat.le_refl _), hl9, List.append_nil, List.append_assoc]; rfl] at r2
      obtain ⟨W2, hW2⟩ : ∃ W2, Hid (W1.drew.setCells h0 (k1 * encIt.k) (encIt.row (I.drop k)) = W2) := ⟨_, rfl⟩
      rw [hW2.out] at r2
      have hO2 : Only h0 W1.drew W2 := by rw [← hW2.out]; exact only_setCells _ _ _ _
      have hT : Hid (Ty lo 56 w W2) := (((Ty.of_below hBA (by omega)).trans (ra.ty (by omega) hO1)).trans (Ty.of_below hD1 (by have := hO1.1; have := hBA.size; omega))).trans (rd1.ty (by omega) hO2)
      have O2 : Hid (Own encIt W2 lo W2.heap.size (.slice (some ⟨h0, 0, none⟩) n1 G) (I.take k ++ i :: I.drop k)) := r2.own (by omega) r2.lt (by rw [List.length_append, List.length_cons, hlD.out, hlT.out]; omega)
      obtain ⟨s1, s2, s3⟩ := ra.there
      obtain ⟨d1, d2, d3⟩ := rd1.there
      have hcp1 : ∀ ty dc, (Builtin.copy_ #[29, 29] ty #[.slice (some ⟨h0, k * 5, none⟩) (n1 - k) dc, .slice (some ⟨vb, 0, none⟩) 1 1]).run Tryz.prog WA = .ok (goInt 1) W1 := fun ty dc => by
        rw [← hW1.out]
        exact run_copy_e (E := encIt) WA 29 29 ty Tryz.underlying29 sizeIt h0 (k * 5) (n1 - k) dc vb 0 1 1 [i] (by show _ = min _ _; simp; omega) (by rw [encIt.row_one']; exact (vblk_grow HV.out hBA).range) (fun q hq => s1 _ (by have hq' : q < 1 * 5 := hq; show _ < G * 5; omega)) s2
      have hcp2 : ∀ ty dc sc, (Builtin.copy_ #[29, 29] ty #[.slice (some ⟨h0, k1 * 5, none⟩) (n1 - k1) dc, .slice (some ⟨g, k * 5, none⟩) (n - k) sc]).run Tryz.prog W1.drew = .ok (goInt (I.drop k).length) W2 := fun ty dc sc => by
        rw [← hW2.out]
        exact run_copy_e (E := encIt) W1.drew 29 29 ty Tryz.underlying29 sizeIt h0 (k1 * 5) (n1 - k1) dc g (k * 5) (n - k) sc (I.drop k) (by rw [hlD.out]; show _ = min _ _; omega) (range_of (RA.range k (by rw [hn.out]; omega)) (hO1.2.1 g hgh)) (fun q hq => d1 _ (by rw [hlD.out] at hq; have hq' : q < (n - k) * 5 := hq; show _ < G * 5; omega)) d2
      have c2 : (n1 : Int) ≤ (G : Int) := by omega
      have c3 : (k : Int) ≤ (G : Int) := by omega
      have c4 : (k1 : Int) ≤ (G : Int) := by omega
      have c5 : ¬ G = k := by omega
      have c6 : ¬ G = k1 := by omega
      clear hn1' hk1' s1 s2 s3 d1 d2 d3 r1 r2 ra rd1 RA hO1 hO2 hD1 hBA hold hap hZ hZs hZt hG hG1 hG2 hl1 hl9 hgh hkq hqo hhd hi0 hz0 hz1 hz2 hz3 hz1' hz3' hh1 hcn
      go_enter Tryz.func106, Tryz.ntmps106
      go_wp2_with (first | (at_builtin; refine Lib.wpList_append_run _ rfl _ _ _ _ rfl _ _ rfl rfl _ _ (hap2 _) ?_) | (at_builtin; refine wpList_cp rfl _ _ 29 29 rfl _ _ rfl rfl (hcp1 _ _) ?_) | (fail))
      go_region_law (refine step_cp rfl _ _ 29 29 rfl _ _ (by simp [Act.eval, Act.put]) (by simp [Act.eval, Act.put]) (hcp2 _ _ _) ?_)
      go_wp2
      go_ret
      exact ⟨_, rfl, O2.out, hT.out⟩
end Go.Proofs.YtjkkjpgebcnhgaaGreatDoor.rg
/- The model's l13Stamp. -/
namespace Go.Proofs.YtjkkjpgebcnhgaaGreatDoor.rg
open Go.ChangeShapes Go.WideShapes Go.ChangeAt Go.RowKit
open Go.Deep Go.Joins
open Go.Proofs.YtjkkjpgebcnhgaaGreatDoor.ce Go.Proofs.YtjkkjpgebcnhgaaGreatDoor.ro Go.Proofs.YtjkkjpgebcnhgaaGreatDoor.draw
set_option linter.unusedVariables false

end Go.Proofs.YtjkkjpgebcnhgaaGreatDoor.rg
/- Contracts: a book without what is over, both sides. -/
namespace Go.Proofs.YtjkkjpgebcnhgaaGreatDoor.rg
open Go.ChangeShapes Go.WideShapes Go.ChangeAt Go.RowKit
open Go.Deep Go.Joins
open Go.Proofs.YtjkkjpgebcnhgaaGreatDoor.ce Go.Proofs.YtjkkjpgebcnhgaaGreatDoor.ro
set_option linter.unusedVariables false

/-- only the variable q changes, besides what is new -/
structure Onb (q : Nat) (w w' : World) : Prop where
  size : w.heap.size ≤ w'.heap.size
  keep : ∀ k, k < w.heap.size → k ≠ q → w'.heap[k]? = w.heap[k]?
  low : ∀ B, B ≤ q → B ≤ w.heap.size → Below B w w'
theorem Onb.refl (q : Nat) (w : World) : Onb q w w := ⟨Nat.le_refl _, fun _ _ _ => rfl, fun _ _ _ => Below.refl _ _⟩
theorem Onb.below {q : Nat} {w w' : World} (h : Below w.heap.size w w') : Onb q w w' := ⟨h.size, fun k hk _ => h.block k hk, fun B _ hB => h.mono hB⟩
theorem Onb.trans {q : Nat} {x y z : World} (h : Onb q x y) (k : Onb q y z) : Onb q x z := ⟨Nat.le_trans h.size k.size, fun j hj hb => (k.keep j (Nat.lt_of_lt_of_le hj h.size) hb).trans (h.keep j hj hb), fun B h1 h2 => (h.low B h1 h2).trans (k.low B h1 (Nat.le_trans h2 h.size))⟩
theorem Onb.only {q : Nat} {w w' : World} (h : Only q w w') : Onb q w w' := ⟨Nat.le_of_eq h.1.symm, fun k _ hk => h.2.1 k hk, fun B hB _ => h.2.2 B hB⟩
theorem Onb.vblk {q b : Nat} {w w' : World} {t : TypeId} {vs : List Value} (h : Onb q w w') (hb : VBlk w b t vs) (hn : b ≠ q) : VBlk w' b t vs := hb.of (h.keep b hb.lt hn)
theorem Onb.own {α : Type} {E : Enc α} {q lo hi : Nat} {w w' : World} {v : Value} {xs : List α} {t : TypeId} {vs : List Value} (h : Onb q w w') (o : Own E w lo hi v xs) (hv : VBlk w q t vs) (ht : E.t ≠ t) : Own E w' lo hi v xs := o.keepT fun g cur hg _ _ => h.keep g (Array.getElem?_eq_some_iff.1 hg).1 fun e => by
  rw [e] at hg
  have := hg.symm.trans hv
  simp at this
  exact ht this.2
theorem take_age {I : List It} {i : Nat} (hi : i < I.length) (now : Int) : ageL (I.take (i + 1)) now = ageL (I.take i) now ++ (if overB I[i] now = true then [] else [I[i]]) := by
  unfold ageL
  rw [List.take_succ_eq_append_getElem hi, List.filter_append]
  congr 1
  cases h : overB I[i] now <;> simp [h]
theorem take_gone {I : List It} {i : Nat} (hi : i < I.length) (now : Int) : goneL (I.take (i + 1)) now = goneL (I.take i) now ++ (if overB I[i] now = true then [I[i].N] else []) := by
  unfold goneL
  rw [List.take_succ_eq_append_getElem hi, List.filter_append, List.map_append]
  congr 1
  cases h : overB I[i] now <;> simp [h]
theorem age_le (I : List It) (now : Int) (i : Nat) : (ageL (I.take i) now).length ≤ I.length ∧ (goneL (I.take i) now).length ≤ I.length := by
  have h1 : (I.take i).length ≤ I.length := by rw [List.length_take]; omega
  refine ⟨Nat.le_trans (List.length_filter_le _ _) h1, ?_⟩
  unfold goneL
  rw [List.length_map]
  exact Nat.le_trans (List.length_filter_le _ _) h1
/-- two variables that hold books -/
structure Two2 (wr : World) (b1 b2 : Nat) (vs : List Value) : Prop where
  a : VBlk wr b1 31 vs
  b : ∃ x y, VBlk wr b2 31 [x, y]
theorem Two2.grow {w w' : World} {b1 b2 : Nat} {vs : List Value} (h : Two2 w b1 b2 vs) (hb : Below w.heap.size w w') : Two2 w' b1 b2 vs := by
  obtain ⟨h1, x, y, h2⟩ := h
  exact ⟨vblk_grow h1 hb, x, y, vblk_grow h2 hb⟩
theorem Two2.only {w w' : World} {b1 b2 b : Nat} {vs : List Value} (h : Two2 w b1 b2 vs) (ho : Only b w w') {n : Nat} (hb : n ≤ b) (h1 : b1 < n) (h2 : b2 < n) : Two2 w' b1 b2 vs := by
  obtain ⟨h1, x, y, h2⟩ := h
  exact ⟨vblk_only h1 ho (by omega), x, y, vblk_only h2 ho (by omega)⟩
theorem Two2.ty {w w' : World} {b1 b2 lo : Nat} {t : TypeId} {vs : List Value} (h : Two2 w b1 b2 vs) (hT : Ty lo t w w') (ht : 31 ≠ t) : Two2 w' b1 b2 vs := by
  obtain ⟨h1, x, y, h2⟩ := h
  exact ⟨hT.vblk h1 ht, x, y, hT.vblk h2 ht⟩
theorem Two2.lt {w : World} {b1 b2 : Nat} {vs : List Value} (h : Two2 w b1 b2 vs) : b1 < w.heap.size ∧ b2 < w.heap.size := by
  obtain ⟨h1, x, y, h2⟩ := h
  exact ⟨h1.lt, h2.lt⟩
/-- while a book is aged: its things are read, two rows grow -/
structure Agd (w wr : World) (v : Value) (I G : List It) (N : List ByteArray) (vi vg : Value) : Prop where
  R : Rd encIt wr v I
  oi : Own encIt wr w.heap.size wr.heap.size vi G
  og : Own encS wr w.heap.size wr.heap.size vg N
  b : Below w.heap.size w wr
theorem Agd.size {w wr : World} {v vi vg : Value} {I G : List It} {N : List ByteArray} (h : Agd w wr v I G N vi vg) : w.heap.size ≤ wr.heap.size := h.b.size
theorem Agd.grow {w wr w' : World} {v vi vg : Value} {I G : List It} {N : List ByteArray} (h : Agd w wr v I G N vi vg) (hb : Below wr.heap.size wr w') : Agd w w' v I G N vi vg :=
  ⟨h.R.grow hb, (h.oi.grow hb).top, (h.og.grow hb).top, h.b.trans (hb.mono h.b.size)⟩
theorem Agd.only {w wr w' : World} {v vi vg : Value} {I G : List It} {N : List ByteArray} {b : Nat} {t : TypeId} {vs : List Value} (h : Agd w wr v I G N vi vg) (R0 : Rd encIt w v I) (ho : Only b wr w') (hb : VBlk wr b t vs) (h1 : encIt.t ≠ t) (h2 : encS.t ≠ t) (hlo : w.heap.size ≤ b) : Agd w w' v I G N vi vg :=
  have hB := h.b.trans (ho.2.2 _ hlo)
  ⟨R0.grow hB, (h.oi.only ho hb h1).top, (h.og.only ho hb h2).top, hB⟩
theorem Agd.appI {w wr w' : World} {v vi vg v' : Value} {I G G' : List It} {N : List ByteArray} (h : Agd w wr v I G N vi vg) (R0 : Rd encIt w v I) (hT : Ty w.heap.size encIt.t wr w') (o' : Own encIt w' w.heap.size w'.heap.size v' G') : Agd w w' v I G' N v' vg :=
  ⟨R0.grow (h.b.trans hT.low), o', (hT.own h.og (by decide)).top, h.b.trans hT.low⟩
theorem Agd.appG {w wr w' : World} {v vi vg v' : Value} {I G : List It} {N N' : List ByteArray} (h : Agd w wr v I G N vi vg) (R0 : Rd encIt w v I) (hT : Ty w.heap.size encS.t wr w') (o' : Own encS w' w.heap.size w'.heap.size v' N') : Agd w w' v I G N' vi v' :=
  ⟨R0.grow (h.b.trans hT.low), (hT.own h.oi (by decide)).top, o', h.b.trans hT.low⟩
set_option maxRecDepth 100000 in
set_option maxHeartbeats 2000000 in
theorem l13Age_any (q : Nat) (I : List It) (X now : Int) (v : Value) (w : World) (V : VBlk w q 31 [v, .int .i64 X]) (r : Rd encIt w v I) (hl : I.length ≤ 1048576) :
    Calls Tryz.prog 34 #[.pointer (some ⟨q, 0, none⟩), .int .i64 now] w fun e w' => ∃ vg, e = .returned vg ∧ ∃ v', VBlk w' q 31 [v', .int .i64 X] ∧ Own encIt w' w.heap.size w'.heap.size v' (ageL I now) ∧ Own encS w' w.heap.size w'.heap.size vg (goneL I now) ∧ Onb q w w' := by
  obtain ⟨a, cap, rfl⟩ := r.form
  have R : Hid (Rd encIt w (.slice a I.length cap) I) := r
  have VV : Hid (VBlk w q 31 [.slice a I.length cap, .int .i64 X]) := V
  have HQ : q < w.heap.size := V.lt
  clear r V
  go_enter Tryz.func34, Tryz.ntmps34
  go_wp2
  go_loopw [5, 6, 7] (fun g it iv wr => ∃ (i : Nat) (ag : Option Addr) (ng kg : Nat) (ai : Option Addr) (ni ki : Nat), i ≤ I.length ∧ iv = .int .i64 i ∧ g = .slice ag ng kg ∧ it = .slice ai ni ki ∧ Agd w wr (.slice a I.length cap) I (ageL (I.take i) now) (goneL (I.take i) now) (.slice ai ni ki) (.slice ag ng kg)) (fun _ _ iv _ => I.length - (intOf iv).toNat)
  case atStart => exact ⟨0, _, _, _, _, _, _, by omega, rfl, rfl, rfl, R.out.grow (by first | exact Below.refl _ _ | exact (bAl _ _) | exact (bAl _ _).trans ((bAl _ _).mono (by simp))), by simpa [ageL] using own_zero _ _ _ _ _, by simpa [goneL] using own_zero _ _ _ _ _, (by first | exact Below.refl _ _ | exact (bAl _ _) | exact (bAl _ _).trans ((bAl _ _).mono (by simp)))⟩
  case round =>
    obtain ⟨i, ag, ng, kg, ai, ni, ki, hi1, rfl, rfl, rfl, A⟩ := hrel
    have VQ := VV.out.below A.b HQ
    obtain ⟨q0, q1⟩ := cells2 VQ
    have mL : Hid True := trivial
    have A0 : Hid (Agd w wr (.slice a I.length cap) I (ageL (I.take i) now) (goneL (I.take i) now) (.slice ai ni ki) (.slice ag ng kg)) := A
    by_cases hlt : i < I.length
    · obtain ⟨bk, off, rfl, hb, rg0⟩ := rd_item rfl rfl A0.out.R i hlt
      have hlt' : (i : Int) < (I.length : Int) := by omega
      have ta := take_age hlt now
      have tg := take_gone hlt now
      obtain ⟨z, hz⟩ := hid_ex (I[i])
      rw [hz.out] at rg0 ta tg
      obtain ⟨N, F, B, C, U⟩ := z
      have rg : Hid (wr.rangeAt bk (off + i * 5) [.string N, .int .i64 F, .string B, .int .i64 C, .int .i64 U]) := rg0
      obtain ⟨c0, -, -, -, -⟩ := rng5 rg.out
      clear rg0
      have hle := age_le I now i
      obtain ⟨x, hx⟩ := hid_ex (overB ⟨N, F, B, C, U⟩ now)
      rw [hx.out] at ta tg
      have TA : Hid (ageL (I.take (i + 1)) now = ageL (I.take i) now ++ (if x = true then [] else [⟨N, F, B, C, U⟩])) := ta
      have TG : Hid (goneL (I.take (i + 1)) now = goneL (I.take i) now ++ (if x = true then [N] else [])) := tg
      clear ta tg A
      cases x with
      | true =>
        go_wp2_with (first | (clear mL; refine wpList_load_r rfl 56 _ rfl bk (off + i * 5) [.string N, .int .i64 F, .string B, .int .i64 C, .int .i64 U] rfl _ Tryz.underlying56 rfl sizeIt rg.out ?_) | (go_at_call 30; refine (specOverAt_any N B F C U now _ hx _).mono ?_; rintro e w2 ⟨rfl, hB2⟩; have A2 : Hid (Agd w w2 (.slice (some ⟨bk, off, none⟩) I.length cap) I (ageL (I.take i) now) (goneL (I.take i) now) (.slice ai ni ki) (.slice ag ng kg)) := A0.out.grow hB2; have VQ2 := VV.out.below A2.out.b HQ; obtain ⟨p0, p1⟩ := cells2 VQ2; obtain ⟨r0, -, -, -, -⟩ := rng5 (range_of rg.out (hB2.block bk hb))) | (at_builtin; refine wpList_append_g infoS rfl _ _ 51 rfl Tryz.underlying51 w.heap.size _ _ (goneL (I.take i) now) rfl ((A2.out).grow (bAl _ _)).og (by have := (A2.out).size; simp; omega) _ [N] rfl (rd_new (E := encS) _ N #[.string N] rfl) (by simp; omega) ?_; intro v7 w7 o7 hT7; have A7 : Hid (Agd w w7 (.slice (some ⟨bk, off, none⟩) I.length cap) I (ageL (I.take i) now) (goneL (I.take i) now ++ [N]) (.slice ai ni ki) v7) := ((A2.out).grow (bAl _ _)).appG R.out hT7 o7; obtain ⟨a7, n7, k7, rfl⟩ := o7.slice) | (fail))
        go_roundw
        case rel => exact ⟨i + 1, _, _, _, _, _, _, by omega, by go_num, rfl, rfl, by rw [TA.out, TG.out]; simpa using A7.out⟩
        case measure => simp [intOf]; omega
      | false =>
        have mM : Hid True := trivial
        go_wp2_with (first | (clear mL; refine wpList_load_r rfl 56 _ rfl bk (off + i * 5) [.string N, .int .i64 F, .string B, .int .i64 C, .int .i64 U] rfl _ Tryz.underlying56 rfl sizeIt rg.out ?_) | (go_at_call 30; refine (specOverAt_any N B F C U now _ hx _).mono ?_; rintro e w2 ⟨rfl, hB2⟩; have A2 : Hid (Agd w w2 (.slice (some ⟨bk, off, none⟩) I.length cap) I (ageL (I.take i) now) (goneL (I.take i) now) (.slice ai ni ki) (.slice ag ng kg)) := A0.out.grow hB2; have VQ2 := VV.out.below A2.out.b HQ; obtain ⟨p0, p1⟩ := cells2 VQ2; have rg2 := range_of rg.out (hB2.block bk hb)) | (clear mM; refine wpList_load_r rfl 56 _ rfl bk (off + i * 5) [.string N, .int .i64 F, .string B, .int .i64 C, .int .i64 U] rfl _ Tryz.underlying56 rfl sizeIt rg2 ?_) | (at_builtin; refine wpList_append_g infoIt rfl _ _ 29 rfl Tryz.underlying29 w.heap.size _ _ (ageL (I.take i) now) rfl ((A2.out).grow (bAl _ _)).oi (by have := (A2.out).size; simp; omega) _ [⟨N, F, B, C, U⟩] rfl (rd_new (E := encIt) _ ⟨N, F, B, C, U⟩ #[.string N, .int .i64 F, .string B, .int .i64 C, .int .i64 U] rfl) (by simp; omega) ?_; intro v7 w7 o7 hT7; have A7 : Hid (Agd w w7 (.slice (some ⟨bk, off, none⟩) I.length cap) I (ageL (I.take i) now ++ [⟨N, F, B, C, U⟩]) (goneL (I.take i) now) v7 (.slice ag ng kg)) := ((A2.out).grow (bAl _ _)).appI R.out hT7 o7; obtain ⟨a7, n7, k7, rfl⟩ := o7.slice) | (fail))
        go_roundw
        case rel => exact ⟨i + 1, _, _, _, _, _, _, by omega, by go_num, rfl, rfl, by rw [TA.out, TG.out]; simpa using A7.out⟩
        case measure => simp [intOf]; omega
    · have hlt' : ¬ (i : Int) < (I.length : Int) := by omega
      have ei : I.take i = I := List.take_of_length_le (by omega)
      rw [ei] at A0
      have f0 := VQ.frozen 0
      clear A
      go_wp2
      go_ret
      have hO := only_set wr q 0 (.slice ai ni ki)
      refine ⟨_, rfl, _, by simpa using VQ.set 0 (.slice ai ni ki), (A0.out.oi.only hO VQ (by decide)).top, (A0.out.og.only hO VQ (by decide)).top, ?_⟩
      exact (Onb.below A0.out.b).trans (Onb.only hO)
theorem l13Time_is (x : Int) (y : Bool) (h : (decide (0 ≤ x) && decide (x ≤ 1000000)) = y) (w : World) : Calls Tryz.prog 32 #[.int .i64 x] w fun e w' => e = .returned (.bool y) ∧ w' = w := by
  have hy : Hid ((decide (0 ≤ x) && decide (x ≤ 1000000)) = y) := h
  clear h
  go_enter Tryz.func32, Tryz.ntmps32
  go_wp2_with (first | (go_at_call 54; refine (in_is _ _ _ y hy.out _).mono ?_; rintro e wq ⟨rfl, hq⟩; subst wq) | (fail))
  go_ret
  exact ⟨rfl, rfl⟩
theorem ag_no {I : List It} {X now : Int} (h : (storeB ⟨I, X⟩ && timeB now) = false) : agR ⟨I, X⟩ now = ⟨[], 0⟩ ∧ agN ⟨I, X⟩ now = [] := by
  unfold agR agN
  rw [h]
  exact ⟨rfl, rfl⟩
theorem ag_yes {I : List It} {X now : Int} (h : (storeB ⟨I, X⟩ && timeB now) = true) : agR ⟨I, X⟩ now = ⟨ageL I now, X⟩ ∧ agN ⟨I, X⟩ now = goneL I now := by
  unfold agR agN
  rw [h]
  exact ⟨rfl, rfl⟩
/-- what Aged tells -/
def PostG (I : List It) (X now : Int) (w : World) (e : Ending) (w' : World) : Prop := ∃ v' vg, e = .returned (.tuple #[.agg #[v', .int .i64 (agR ⟨I, X⟩ now).X], vg]) ∧ Own encIt w' w.heap.size w'.heap.size v' (agR ⟨I, X⟩ now).I ∧ Own encS w' w.heap.size w'.heap.size vg (agN ⟨I, X⟩ now) ∧ Below w.heap.size w w'
set_option maxRecDepth 100000 in
set_option maxHeartbeats 2000000 in
theorem specAged_any (I : List It) (X now : Int) (v : Value) (w : World) (r : Rd encIt w v I) (hs : SmK I) (hl : I.length ≤ 1048576) :
    Calls Tryz.prog 25 #[.agg #[v, .int .i64 X], .int .i64 now] w fun e w' => PostG I X now w e w' := by
  obtain ⟨a, cap, rfl⟩ := r.form
  have R : Hid (Rd encIt w (.slice a I.length cap) I) := r
  have HS : Hid (SmK I) := hs
  clear r hs
  have k1 : Hid True := trivial
  have k2 : Hid True := trivial
  have k3 : Hid True := trivial
  have k4 : Hid True := trivial
  have k5 : Hid True := trivial
  have k6 : Hid True := trivial
  have k7 : Hid True := trivial
  have k8 : Hid True := trivial
  have k9 : Hid True := trivial
  cases hst : storeB ⟨I, X⟩ with
  | false =>
    have HY : Hid (storeB ⟨I, X⟩ = false) := hst
    have hno : Hid ((storeB ⟨I, X⟩ && timeB now) = false) := by unfold Hid; rw [hst]; rfl
    clear hst
    have eX : (agR ⟨I, X⟩ now).X = 0 := by rw [(ag_no hno.out).1]
    unfold PostG
    rw [eX]
    go_enter Tryz.func25, Tryz.ntmps25
    go_wp2_with (first | (clear k1; refine wpList_box_v rfl 31 _ rfl [.slice a I.length cap, .int .i64 X] rfl ?_; intro b1 w1 hb1 hw1 hB1 V1; have hz1 := hB1.size) | (clear k2; refine wpList_alloc_v rfl 31 rfl _ zeroBk ?_; intro b2 w2 hb2 hw2 hB2 V2; have hz2 := hB2.size; have V1b := vblk_grow V1 hB2) | (clear k3; refine wpList_load_r rfl 31 _ rfl b1 0 [.slice a I.length cap, .int .i64 X] rfl _ Tryz.underlying31 rfl sizeBk V1b.range ?_) | (go_at_call 20; refine (specStoreOk_any I X _ false HY _ (R.out.grow (hB1.trans (hB2.mono hz1))) HS.out).mono ?_; rintro e w3 ⟨rfl, hB3⟩; have V1c := vblk_grow V1b hB3; have V2c := vblk_grow V2 hB3; have hz3 := hB3.size; obtain ⟨q0, q1⟩ := cells2 V1c) | (refine wpList_store_v rfl 31 _ _ rfl b2 [.slice none 0 0, .int .i64 0] rfl rfl sizeBk (vblk_grow V2c (bAl w3 (.cells #[] 9))) rfl (oneBk _ _ _ _) ?_; intro w4 hO4 V4) | (fail))
    exact row_ct rfl rfl rfl V4 Tryz.underlying31 sizeBk rfl ⟨_, _, rfl, by rw [(ag_no hno.out).1]; exact own_zero _ _ _ _ _, by rw [(ag_no hno.out).2]; exact own_zero _ _ _ _ _, (((hB1.trans (hB2.mono hz1)).trans (hB3.mono (by omega))).trans ((bAl w3 (.cells #[] 9)).mono (by omega))).trans (hO4.2.2 _ (by omega))⟩
  | true =>
    have HY : Hid (storeB ⟨I, X⟩ = true) := hst
    cases htm : timeB now with
    | false =>
      have HT : Hid ((decide (0 ≤ now) && decide (now ≤ 1000000)) = false) := htm
      have hno : Hid ((storeB ⟨I, X⟩ && timeB now) = false) := by unfold Hid; rw [hst, htm]; rfl
      clear hst htm
      have eX : (agR ⟨I, X⟩ now).X = 0 := by rw [(ag_no hno.out).1]
      unfold PostG
      rw [eX]
      go_enter Tryz.func25, Tryz.ntmps25
      go_wp2_with (first | (clear k1; refine wpList_box_v rfl 31 _ rfl [.slice a I.length cap, .int .i64 X] rfl ?_; intro b1 w1 hb1 hw1 hB1 V1; have hz1 := hB1.size) | (clear k2; refine wpList_alloc_v rfl 31 rfl _ zeroBk ?_; intro b2 w2 hb2 hw2 hB2 V2; have hz2 := hB2.size; have V1b := vblk_grow V1 hB2) | (clear k3; refine wpList_load_r rfl 31 _ rfl b1 0 [.slice a I.length cap, .int .i64 X] rfl _ Tryz.underlying31 rfl sizeBk V1b.range ?_) | (go_at_call 20; refine (specStoreOk_any I X _ true HY _ (R.out.grow (hB1.trans (hB2.mono hz1))) HS.out).mono ?_; rintro e w3 ⟨rfl, hB3⟩; have V1c := vblk_grow V1b hB3; have V2c := vblk_grow V2 hB3; have hz3 := hB3.size; obtain ⟨q0, q1⟩ := cells2 V1c) | (go_at_call 32; refine (l13Time_is now false HT.out _).mono ?_; rintro e wq ⟨rfl, hq⟩; subst wq) | (refine wpList_store_v rfl 31 _ _ rfl b2 [.slice none 0 0, .int .i64 0] rfl rfl sizeBk (vblk_grow V2c (bAl w3 (.cells #[] 9))) rfl (oneBk _ _ _ _) ?_; intro w4 hO4 V4) | (fail))
      exact row_ct rfl rfl rfl V4 Tryz.underlying31 sizeBk rfl ⟨_, _, rfl, by rw [(ag_no hno.out).1]; exact own_zero _ _ _ _ _, by rw [(ag_no hno.out).2]; exact own_zero _ _ _ _ _, (((hB1.trans (hB2.mono hz1)).trans (hB3.mono (by omega))).trans ((bAl w3 (.cells #[] 9)).mono (by omega))).trans (hO4.2.2 _ (by omega))⟩
    | true =>
      have HT : Hid ((decide (0 ≤ now) && decide (now ≤ 1000000)) = true) := htm
      have hyes : Hid ((storeB ⟨I, X⟩ && timeB now) = true) := by unfold Hid; rw [hst, htm]; rfl
      clear hst htm
      have eX : (agR ⟨I, X⟩ now).X = X := by rw [(ag_yes hyes.out).1]
      have eI : (agR ⟨I, X⟩ now).I = ageL I now := by rw [(ag_yes hyes.out).1]
      have eN : agN ⟨I, X⟩ now = goneL I now := (ag_yes hyes.out).2
      unfold PostG
      rw [eX, eI, eN]
      clear eX eI eN
      go_enter Tryz.func25, Tryz.ntmps25
      go_wp2_with (first | (clear k1; refine wpList_box_v rfl 31 _ rfl [.slice a I.length cap, .int .i64 X] rfl ?_; intro b1 w1 hb1 hw1 hB1 V1; have hz1 := hB1.size) | (clear k2; refine wpList_alloc_v rfl 31 rfl _ zeroBk ?_; intro b2 w2 hb2 hw2 hB2 V2; have hz2 := hB2.size; have V1b := vblk_grow V1 hB2) | (clear k3; refine wpList_load_r rfl 31 _ rfl b1 0 [.slice a I.length cap, .int .i64 X] rfl _ Tryz.underlying31 rfl sizeBk V1b.range ?_) | (go_at_call 20; refine (specStoreOk_any I X _ true HY _ (R.out.grow (hB1.trans (hB2.mono hz1))) HS.out).mono ?_; rintro e w3 ⟨rfl, hB3⟩; have V1c := vblk_grow V1b hB3; have V2c := vblk_grow V2 hB3; have hz3 := hB3.size; obtain ⟨q0, q1⟩ := cells2 V1c) | (go_at_call 32; refine (l13Time_is now true HT.out _).mono ?_; rintro e wq ⟨rfl, hq⟩; subst wq) | (clear k4; refine wpList_load_r rfl 31 _ rfl b1 0 [.slice a I.length cap, .int .i64 X] rfl _ Tryz.underlying31 rfl sizeBk V1c.range ?_) | (go_at_call 33; refine (l13Copy_any I X _ _ (R.out.grow ((hB1.trans (hB2.mono hz1)).trans (hB3.mono (by omega)))) hl).mono ?_; rintro e w4 ⟨v4, rfl, o4, hB4⟩; have V2d := vblk_grow V2c hB4; have hz4 := hB4.size; obtain ⟨a4, n4, k4', rfl⟩ := o4.slice) | (clear k5; refine wpList_alloc_v rfl 31 rfl _ zeroBk ?_; intro b5 w5 hb5 hw5 hB5 V5; have hz5 := hB5.size; have o5 := o4.grow hB5; have V2e := vblk_grow V2d hB5) | (clear k6; refine wpList_store_v rfl 31 _ _ rfl b5 [.slice a4 n4 k4', .int .i64 X] rfl rfl sizeBk V5 rfl (oneBk _ _ _ _) ?_; intro w6 hO6 V6; have o6 := o5.only hO6 V5 (by decide); have V2f := vblk_only V2e hO6 (by have := V2d.lt; omega)) | (go_at_call 34; refine (l13Age_any b5 I X now _ _ V6 o6.rd hl).mono ?_; rintro e w7 ⟨vg, rfl, v7, V7, o7, g7, hN7⟩; have V2g := hN7.vblk V2f (by have := V2d.lt; omega); obtain ⟨a7, n7, c7, rfl⟩ := o7.slice; obtain ⟨a8, n8, c8, rfl⟩ := g7.slice) | (clear k7; refine wpList_load_r rfl 31 _ rfl b5 0 [.slice a7 n7 c7, .int .i64 X] rfl _ Tryz.underlying31 rfl sizeBk V7.range ?_) | (clear k8; refine wpList_store_v rfl 31 _ _ rfl b2 [.slice a7 n7 c7, .int .i64 X] rfl rfl sizeBk V2g rfl (oneBk _ _ _ _) ?_; intro w9 hO9 V9) | (fail))
      have hs6 : w5.heap.size ≤ w6.heap.size := Nat.le_of_eq hO6.1.symm
      have hlow : Below w.heap.size w w9 := ((((((hB1.trans (hB2.mono hz1)).trans (hB3.mono (by omega))).trans (hB4.mono (by omega))).trans (hB5.mono (by omega))).trans (hO6.2.2 _ (by omega))).trans (hN7.low _ (by omega) (by omega))).trans (hO9.2.2 _ (by omega))
      exact row_ct rfl rfl rfl V9 Tryz.underlying31 sizeBk rfl ⟨_, _, rfl, ((o7.only hO9 V2g (by decide)).wide (by omega) (Nat.le_refl _)).top, ((g7.only hO9 V2g (by decide)).wide (by omega) (Nat.le_refl _)).top, hlow⟩
set_option maxRecDepth 100000 in
set_option maxHeartbeats 2000000 in
theorem implAged_any (I : List It) (X now : Int) (v : Value) (w : World) (r : Rd encIt w v I) (hs : SmK I) (hl : I.length ≤ 1048576) :
    Calls Tryz.prog 40 #[.agg #[v, .int .i64 X], .int .i64 now] w fun e w' => PostG I X now w e w' := by
  obtain ⟨a, cap, rfl⟩ := r.form
  have R : Hid (Rd encIt w (.slice a I.length cap) I) := r
  have HS : Hid (SmK I) := hs
  clear r hs
  have k1 : Hid True := trivial
  have k2 : Hid True := trivial
  have k3 : Hid True := trivial
  have k4 : Hid True := trivial
  have k5 : Hid True := trivial
  have k6 : Hid True := trivial
  have k7 : Hid True := trivial
  have k8 : Hid True := trivial
  have k9 : Hid True := trivial
  cases hst : storeB ⟨I, X⟩ with
  | false =>
    have HY : Hid (storeB ⟨I, X⟩ = false) := hst
    have hno : Hid ((storeB ⟨I, X⟩ && timeB now) = false) := by unfold Hid; rw [hst]; rfl
    clear hst
    have eX : (agR ⟨I, X⟩ now).X = 0 := by rw [(ag_no hno.out).1]
    unfold PostG
    rw [eX]
    go_enter Tryz.func40, Tryz.ntmps40
    go_wp2_with (first | (clear k1; refine wpList_box_v rfl 31 _ rfl [.slice a I.length cap, .int .i64 X] rfl ?_; intro b1 w1 hb1 hw1 hB1 V1; have hz1 := hB1.size) | (clear k2; refine wpList_alloc_v rfl 31 rfl _ zeroBk ?_; intro b2 w2 hb2 hw2 hB2 V2; have hz2 := hB2.size; have V1b := vblk_grow V1 hB2) | (clear k3; refine wpList_load_r rfl 31 _ rfl b1 0 [.slice a I.length cap, .int .i64 X] rfl _ Tryz.underlying31 rfl sizeBk V1b.range ?_) | (go_at_call 19; refine (implStoreOk_any I X _ false HY _ (R.out.grow (hB1.trans (hB2.mono hz1))) HS.out).mono ?_; rintro e w3 ⟨rfl, hB3⟩; have V1c := vblk_grow V1b hB3; have V2c := vblk_grow V2 hB3; have hz3 := hB3.size; obtain ⟨q0, q1⟩ := cells2 V1c) | (refine wpList_store_v rfl 31 _ _ rfl b2 [.slice none 0 0, .int .i64 0] rfl rfl sizeBk V2c rfl (oneBk _ _ _ _) ?_; intro w4 hO4 V4) | (fail))
    exact row_ct rfl rfl rfl V4 Tryz.underlying31 sizeBk rfl ⟨_, _, rfl, by rw [(ag_no hno.out).1]; exact own_zero _ _ _ _ _, by rw [(ag_no hno.out).2]; exact own_zero _ _ _ _ _, ((hB1.trans (hB2.mono hz1)).trans (hB3.mono (by omega))).trans (hO4.2.2 _ (by omega))⟩
  | true =>
    have HY : Hid (storeB ⟨I, X⟩ = true) := hst
    cases htm : timeB now with
    | false =>
      have HT : Hid ((decide (0 ≤ now) && decide (now ≤ 1000000)) = false) := htm
      have hno : Hid ((storeB ⟨I, X⟩ && timeB now) = false) := by unfold Hid; rw [hst, htm]; rfl
      clear hst htm
      have eX : (agR ⟨I, X⟩ now).X = 0 := by rw [(ag_no hno.out).1]
      unfold PostG
      rw [eX]
      go_enter Tryz.func40, Tryz.ntmps40
      go_wp2_with (first | (clear k1; refine wpList_box_v rfl 31 _ rfl [.slice a I.length cap, .int .i64 X] rfl ?_; intro b1 w1 hb1 hw1 hB1 V1; have hz1 := hB1.size) | (clear k2; refine wpList_alloc_v rfl 31 rfl _ zeroBk ?_; intro b2 w2 hb2 hw2 hB2 V2; have hz2 := hB2.size; have V1b := vblk_grow V1 hB2) | (clear k3; refine wpList_load_r rfl 31 _ rfl b1 0 [.slice a I.length cap, .int .i64 X] rfl _ Tryz.underlying31 rfl sizeBk V1b.range ?_) | (go_at_call 19; refine (implStoreOk_any I X _ true HY _ (R.out.grow (hB1.trans (hB2.mono hz1))) HS.out).mono ?_; rintro e w3 ⟨rfl, hB3⟩; have V1c := vblk_grow V1b hB3; have V2c := vblk_grow V2 hB3; have hz3 := hB3.size; obtain ⟨q0, q1⟩ := cells2 V1c) | (go_at_call 37; refine (within_is now 0 1000000 false HT.out _).mono ?_; rintro e wq ⟨rfl, hq⟩; subst wq) | (refine wpList_store_v rfl 31 _ _ rfl b2 [.slice none 0 0, .int .i64 0] rfl rfl sizeBk V2c rfl (oneBk _ _ _ _) ?_; intro w4 hO4 V4) | (fail))
      exact row_ct rfl rfl rfl V4 Tryz.underlying31 sizeBk rfl ⟨_, _, rfl, by rw [(ag_no hno.out).1]; exact own_zero _ _ _ _ _, by rw [(ag_no hno.out).2]; exact own_zero _ _ _ _ _, ((hB1.trans (hB2.mono hz1)).trans (hB3.mono (by omega))).trans (hO4.2.2 _ (by omega))⟩
    | true =>
      have HT : Hid ((decide (0 ≤ now) && decide (now ≤ 1000000)) = true) := htm
      have hyes : Hid ((storeB ⟨I, X⟩ && timeB now) = true) := by unfold Hid; rw [hst, htm]; rfl
      clear hst htm
      have eX : (agR ⟨I, X⟩ now).X = X := by rw [(ag_yes hyes.out).1]
      have eI : (agR ⟨I, X⟩ now).I = ageL I now := by rw [(ag_yes hyes.out).1]
      have eN : agN ⟨I, X⟩ now = goneL I now := (ag_yes hyes.out).2
      unfold PostG
      rw [eX, eI, eN]
      clear eX eI eN
      go_enter Tryz.func40, Tryz.ntmps40
      go_wp2_with (first | (clear k1; refine wpList_box_v rfl 31 _ rfl [.slice a I.length cap, .int .i64 X] rfl ?_; intro b1 w1 hb1 hw1 hB1 V1; have hz1 := hB1.size) | (clear k2; refine wpList_alloc_v rfl 31 rfl _ zeroBk ?_; intro b2 w2 hb2 hw2 hB2 V2; have hz2 := hB2.size; have V1b := vblk_grow V1 hB2) | (clear k3; refine wpList_load_r rfl 31 _ rfl b1 0 [.slice a I.length cap, .int .i64 X] rfl _ Tryz.underlying31 rfl sizeBk V1b.range ?_) | (go_at_call 19; refine (implStoreOk_any I X _ true HY _ (R.out.grow (hB1.trans (hB2.mono hz1))) HS.out).mono ?_; rintro e w3 ⟨rfl, hB3⟩; have V1c := vblk_grow V1b hB3; have V2c := vblk_grow V2 hB3; have hz3 := hB3.size; obtain ⟨q0, q1⟩ := cells2 V1c) | (go_at_call 37; refine (within_is now 0 1000000 true HT.out _).mono ?_; rintro e wq ⟨rfl, hq⟩; subst wq) | (fail))
      have V1d := V1c
      have hB13 : Below w.heap.size w w3 := (hB1.trans (hB2.mono hz1)).trans (hB3.mono (by omega))
      go_loopw [6, 7, 22] (fun it g iv wr => ∃ (i : Nat) (ag : Option Addr) (ng kg : Nat) (ai : Option Addr) (ni ki : Nat), i ≤ I.length ∧ iv = .int .i64 i ∧ g = .slice ag ng kg ∧ it = .slice ai ni ki ∧ Hid (Two2 wr b1 b2 [.slice a I.length cap, .int .i64 X]) ∧ Agd w wr (.slice a I.length cap) I (ageL (I.take i) now) (goneL (I.take i) now) (.slice ai ni ki) (.slice ag ng kg)) (fun _ _ iv _ => I.length - (intOf iv).toNat)
      case atStart => exact ⟨0, _, _, _, _, _, _, by omega, rfl, rfl, rfl, ⟨V1d, _, _, V2c⟩, R.out.grow hB13, by simpa [ageL] using own_zero _ _ _ _ _, by simpa [goneL] using own_zero _ _ _ _ _, hB13⟩
      case round =>
        obtain ⟨i, ag, ng, kg, ai, ni, ki, hi1, rfl, rfl, rfl, VA, A⟩ := hrel
        have mL : Hid True := trivial
        have A0 : Hid (Agd w wr (.slice a I.length cap) I (ageL (I.take i) now) (goneL (I.take i) now) (.slice ai ni ki) (.slice ag ng kg)) := A
        by_cases hlt : i < I.length
        · obtain ⟨bk, off, rfl, hb, rg0⟩ := rd_item rfl rfl A0.out.R i hlt
          have hlt' : (i : Int) < (I.length : Int) := by omega
          have ta := take_age hlt now
          have tg := take_gone hlt now
          obtain ⟨z, hz⟩ := hid_ex (I[i])
          rw [hz.out] at rg0 ta tg
          obtain ⟨N, F, B, C, U⟩ := z
          have rg : Hid (wr.rangeAt bk (off + i * 5) [.string N, .int .i64 F, .string B, .int .i64 C, .int .i64 U]) := rg0
          obtain ⟨c0, -, -, -, -⟩ := rng5 rg.out
          clear rg0
          have hle := age_le I now i
          obtain ⟨x, hx⟩ := hid_ex (overB ⟨N, F, B, C, U⟩ now)
          rw [hx.out] at ta tg
          have TA : Hid (ageL (I.take (i + 1)) now = ageL (I.take i) now ++ (if x = true then [] else [⟨N, F, B, C, U⟩])) := ta
          have TG : Hid (goneL (I.take (i + 1)) now = goneL (I.take i) now ++ (if x = true then [N] else [])) := tg
          clear ta tg A
          cases x with
          | true =>
            go_wp2_with (first | (clear mL; refine wpList_load_r rfl 56 _ rfl bk (off + i * 5) [.string N, .int .i64 F, .string B, .int .i64 C, .int .i64 U] rfl _ Tryz.underlying56 rfl sizeIt rg.out ?_) | (clear k4; refine wpList_alloc_v rfl 56 rfl _ zeroIt ?_; intro b9 u1 hb9 hw9 hBu1 W1; have A1 : Hid (Agd w u1 (.slice (some ⟨bk, off, none⟩) I.length cap) I (ageL (I.take i) now) (goneL (I.take i) now) (.slice ai ni ki) (.slice ag ng kg)) := A0.out.grow hBu1; have hzu := hBu1.size) | (clear k5; refine wpList_store_v rfl 56 _ _ rfl b9 [.string N, .int .i64 F, .string B, .int .i64 C, .int .i64 U] rfl rfl sizeIt W1 rfl (ic_one ⟨N, F, B, C, U⟩) ?_; intro u2 hOu2 W2; have A1b : Hid (Agd w u2 (.slice (some ⟨bk, off, none⟩) I.length cap) I (ageL (I.take i) now) (goneL (I.take i) now) (.slice ai ni ki) (.slice ag ng kg)) := A0.out.grow (hBu1.trans (hOu2.2.2 _ hb9))) | (clear k6; refine wpList_load_r rfl 56 _ rfl b9 0 [.string N, .int .i64 F, .string B, .int .i64 C, .int .i64 U] rfl _ Tryz.underlying56 rfl sizeIt W2.range ?_) | (go_at_call 74; refine (implOverAt_any N B F C U now _ hx _).mono ?_; rintro e w2 ⟨rfl, hB2⟩; have A2 : Hid (Agd w w2 (.slice (some ⟨bk, off, none⟩) I.length cap) I (ageL (I.take i) now) (goneL (I.take i) now) (.slice ai ni ki) (.slice ag ng kg)) := A1b.out.grow hB2; have W3 := vblk_grow W2 hB2; obtain ⟨r0, -, -, -, -⟩ := cells5 W3) | (at_builtin; refine wpList_append_g infoS rfl _ _ 51 rfl Tryz.underlying51 w.heap.size _ _ (goneL (I.take i) now) rfl ((A2.out).grow (bAl _ _)).og (by have := (A2.out).size; simp; omega) _ [N] rfl (rd_new (E := encS) _ N #[.string N] rfl) (by simp; omega) ?_; intro v7 w7 o7 hT7; have A7 : Hid (Agd w w7 (.slice (some ⟨bk, off, none⟩) I.length cap) I (ageL (I.take i) now) (goneL (I.take i) now ++ [N]) (.slice ai ni ki) v7) := ((A2.out).grow (bAl _ _)).appG R.out hT7 o7; obtain ⟨a7, n7, k7, rfl⟩ := o7.slice) | (fail))
            have T7 : Hid (Two2 w7 b1 b2 [.slice (some ⟨bk, off, none⟩) I.length cap, .int .i64 X]) := (((((VA.out.grow hBu1).only hOu2 hb9 VA.out.lt.1 VA.out.lt.2).grow hB2).grow (bAl _ _)).ty hT7 (by decide))
            go_roundw
            case rel => exact ⟨i + 1, _, _, _, _, _, _, by omega, by go_num, rfl, rfl, T7.out, by rw [TA.out, TG.out]; simpa using A7.out⟩
            case measure => simp [intOf]; omega
          | false =>
            go_wp2_with (first | (clear mL; refine wpList_load_r rfl 56 _ rfl bk (off + i * 5) [.string N, .int .i64 F, .string B, .int .i64 C, .int .i64 U] rfl _ Tryz.underlying56 rfl sizeIt rg.out ?_) | (clear k4; refine wpList_alloc_v rfl 56 rfl _ zeroIt ?_; intro b9 u1 hb9 hw9 hBu1 W1; have A1 : Hid (Agd w u1 (.slice (some ⟨bk, off, none⟩) I.length cap) I (ageL (I.take i) now) (goneL (I.take i) now) (.slice ai ni ki) (.slice ag ng kg)) := A0.out.grow hBu1; have hzu := hBu1.size) | (clear k5; refine wpList_store_v rfl 56 _ _ rfl b9 [.string N, .int .i64 F, .string B, .int .i64 C, .int .i64 U] rfl rfl sizeIt W1 rfl (ic_one ⟨N, F, B, C, U⟩) ?_; intro u2 hOu2 W2; have A1b : Hid (Agd w u2 (.slice (some ⟨bk, off, none⟩) I.length cap) I (ageL (I.take i) now) (goneL (I.take i) now) (.slice ai ni ki) (.slice ag ng kg)) := A0.out.grow (hBu1.trans (hOu2.2.2 _ hb9))) | (clear k6; refine wpList_load_r rfl 56 _ rfl b9 0 [.string N, .int .i64 F, .string B, .int .i64 C, .int .i64 U] rfl _ Tryz.underlying56 rfl sizeIt W2.range ?_) | (go_at_call 74; refine (implOverAt_any N B F C U now _ hx _).mono ?_; rintro e w2 ⟨rfl, hB2⟩; have A2 : Hid (Agd w w2 (.slice (some ⟨bk, off, none⟩) I.length cap) I (ageL (I.take i) now) (goneL (I.take i) now) (.slice ai ni ki) (.slice ag ng kg)) := A1b.out.grow hB2; have W3 := vblk_grow W2 hB2; obtain ⟨r0, -, -, -, -⟩ := cells5 W3) | (clear k7; refine wpList_load_r rfl 56 _ rfl b9 0 [.string N, .int .i64 F, .string B, .int .i64 C, .int .i64 U] rfl _ Tryz.underlying56 rfl sizeIt W3.range ?_) | (at_builtin; refine wpList_append_g infoIt rfl _ _ 29 rfl Tryz.underlying29 w.heap.size _ _ (ageL (I.take i) now) rfl ((A2.out).grow (bAl _ _)).oi (by have := (A2.out).size; simp; omega) _ [⟨N, F, B, C, U⟩] rfl (rd_new (E := encIt) _ ⟨N, F, B, C, U⟩ #[.string N, .int .i64 F, .string B, .int .i64 C, .int .i64 U] rfl) (by simp; omega) ?_; intro v7 w7 o7 hT7; have A7 : Hid (Agd w w7 (.slice (some ⟨bk, off, none⟩) I.length cap) I (ageL (I.take i) now ++ [⟨N, F, B, C, U⟩]) (goneL (I.take i) now) v7 (.slice ag ng kg)) := ((A2.out).grow (bAl _ _)).appI R.out hT7 o7; obtain ⟨a7, n7, k7, rfl⟩ := o7.slice) | (fail))
            have T7 : Hid (Two2 w7 b1 b2 [.slice (some ⟨bk, off, none⟩) I.length cap, .int .i64 X]) := (((((VA.out.grow hBu1).only hOu2 hb9 VA.out.lt.1 VA.out.lt.2).grow hB2).grow (bAl _ _)).ty hT7 (by decide))
            go_roundw
            case rel => exact ⟨i + 1, _, _, _, _, _, _, by omega, by go_num, rfl, rfl, T7.out, by rw [TA.out, TG.out]; simpa using A7.out⟩
            case measure => simp [intOf]; omega
        · have hlt' : ¬ (i : Int) < (I.length : Int) := by omega
          have ei : I.take i = I := List.take_of_length_le (by omega)
          rw [ei] at A0
          obtain ⟨x2, y2, VB2⟩ := VA.out.b
          obtain ⟨p0, p1⟩ := cells2 VA.out.a
          clear A
          go_wp2_with (first | (refine wpList_store_v rfl 31 _ _ rfl b2 [.slice ai ni ki, .int .i64 X] rfl rfl sizeBk VB2 rfl (oneBk _ _ _ _) ?_; intro w9 hO9 V9) | (fail))
          exact row_ct rfl rfl rfl V9 Tryz.underlying31 sizeBk rfl ⟨.slice ai ni ki, .slice ag ng kg, rfl, (A0.out.oi.only hO9 VB2 (by decide)).top, (A0.out.og.only hO9 VB2 (by decide)).top, A0.out.b.trans (hO9.2.2 _ (by omega))⟩
end Go.Proofs.YtjkkjpgebcnhgaaGreatDoor.rg
/- The model's Stamped. -/
namespace Go.Proofs.YtjkkjpgebcnhgaaGreatDoor.rg
open Go.ChangeShapes Go.WideShapes Go.ChangeAt Go.RowKit
open Go.Deep Go.Joins
open Go.Proofs.YtjkkjpgebcnhgaaGreatDoor.ce Go.Proofs.YtjkkjpgebcnhgaaGreatDoor.ro Go.Proofs.YtjkkjpgebcnhgaaGreatDoor.draw
set_option linter.unusedVariables false

/-- what Stamped tells -/
def PostS (I : List It) (X : Int) (i : It) (w : World) (e : Ending) (w' : World) : Prop := ∃ v', e = .returned (.tuple #[.agg #[v', .int .i64 (stR ⟨I, X⟩ i).X], .bool (stB ⟨I, X⟩ i)]) ∧ Own encIt w' w.heap.size w'.heap.size v' (stR ⟨I, X⟩ i).I ∧ Below w.heap.size w w'
end Go.Proofs.YtjkkjpgebcnhgaaGreatDoor.rg
/- withItem; the program's Stamped. -/
namespace Go.Proofs.YtjkkjpgebcnhgaaGreatDoor.rg
open Go.ChangeShapes Go.WideShapes Go.ChangeAt Go.RowKit
open Go.Deep Go.Joins
open Go.Proofs.YtjkkjpgebcnhgaaGreatDoor.ce Go.Proofs.YtjkkjpgebcnhgaaGreatDoor.ro
set_option linter.unusedVariables false

set_option maxRecDepth 100000 in
set_option maxHeartbeats 2000000 in
theorem withItem_any (I : List It) (N B : ByteArray) (F C U : Int) (v : Value) (w : World) (r : Rd encIt w v I) (hS : Srt I) (hl : I.length ≤ 1000000) :
    Calls Tryz.prog 61 #[v, .agg #[.string N, .int .i64 F, .string B, .int .i64 C, .int .i64 U]] w fun e w' => ∃ v', e = .returned v' ∧ Own encIt w' w.heap.size w'.heap.size v' (putL I ⟨N, F, B, C, U⟩) ∧ Below w.heap.size w w' := by
  obtain ⟨a, cap, rfl⟩ := r.form
  have R : Hid (Rd encIt w (.slice a I.length cap) I) := r
  have HS : Hid (Srt I) := hS
  have HD : Hid (Srt (dropL I N)) := hS.filter _
  have hdl : (dropL I N).length ≤ 1048576 := by have := List.length_filter_le (fun x : It => decide (x.N ≠ N)) I; unfold dropL; omega
  clear r hS
  have m1 : Hid True := trivial
  have m2 : Hid True := trivial
  go_enter Tryz.func61, Tryz.ntmps61
  go_wp2_with (first
    | (clear m1; refine wpList_box_v rfl 56 _ rfl [.string N, .int .i64 F, .string B, .int .i64 C, .int .i64 U] rfl ?_; intro b3 w1 hb3 hw3 hB1 V1; have hz1 := hB1.size; obtain ⟨c0, c1, c2, c3, c4⟩ := cells5 V1)
    | (go_at_call 102; refine (without_any I N _ _ (R.out.grow hB1) HS.out (by omega)).mono ?_; rintro e w2 ⟨v2, rfl, o2, hB2⟩; have V2 := vblk_grow V1 hB2; have hz2 := hB2.size; clear c0 c1 c2 c3 c4; obtain ⟨c0, c1, c2, c3, c4⟩ := cells5 V2; obtain ⟨A2, n2, k2, rfl⟩ := o2.slice)
    | (go_at_call 103; refine (bsf_any (dropL I N) N _ _ o2.rd HD.out hdl).mono ?_; rintro e w3 ⟨k, y, rfl, hk, hk1, hk2, hB3⟩; have V3 := vblk_grow V2 hB3; have hz3 := hB3.size; have o3 := (o2.grow hB3); have HK : Hid ((dropL I N).take k ++ (⟨N, F, B, C, U⟩ : It) :: (dropL I N).drop k = putL I ⟨N, F, B, C, U⟩) := with_is HS.out ⟨N, F, B, C, U⟩ hk hk1 hk2; clear hk1 hk2)
    | (clear m2; refine wpList_load_r rfl 56 _ rfl b3 0 [.string N, .int .i64 F, .string B, .int .i64 C, .int .i64 U] rfl _ Tryz.underlying56 rfl sizeIt V3.range ?_)
    | (go_at_call 106; refine (insert_any (dropL I N) ⟨N, F, B, C, U⟩ k w3.heap.size w.heap.size _ _ ((o3.top.grow ((Below.refl _ _).alloc (Nat.le_refl _) _)).wide hz1 (Nat.le_refl _)) (heap_alloc_new _ _) (by omega) hk hdl).mono ?_; rintro e w4 ⟨v4, rfl, o4, hT4⟩; rw [HK.out] at o4)
    | (fail))
  go_ret
  have hB34 : Below w3.heap.size w3 (w3.alloc (.cells #[.string N, .int .i64 F, .string B, .int .i64 C, .int .i64 U] 56)) := (Below.refl _ _).alloc (Nat.le_refl _) _
  exact ⟨_, rfl, o4, (((hB1.trans (hB2.mono hz1)).trans (hB3.mono (by omega))).trans (hB34.mono (by omega))).trans hT4.low⟩
end Go.Proofs.YtjkkjpgebcnhgaaGreatDoor.rg
