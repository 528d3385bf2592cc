/- For every book, command and time the program's DidBook answers as the model's DidBook, in memory of its own, and writes into nothing that it was given (the law itself lets off what has over 1048576 things and bytes): the law's call returns true and its arguments read as before; no condition. A tied card: the listed package-level variables (tables and errors of Go's library) are tied to the program's text by the given tie; the pruned copy of the project alone is spoken of. -/
import Derived.Test.YtjkkjpgebcnhgaaGreatDoorMg03
import Derived.Test.YtjkkjpgebcnhgaaGreatDoorMg17
import Derived.Test.YtjkkjpgebcnhgaaGreatDoorLg1
import Derived.Test.YtjkkjpgebcnhgaaGreatDoorMg04
import Derived.Test.YtjkkjpgebcnhgaaGreatDoorCards
import Derived.Test.YtjkkjpgebcnhgaaGreatDoorTie
import Derived.Deep.DeepCutAuto
import Derived.Deep.RegionHeld3
import Derived.SevenTiedAt
import Derived.OpenVars
import Derived.Lay
import Derived.LaidMore
import Derived.Stop.Joined
namespace Go.Proofs.YtjkkjpgebcnhgaaGreatDoor.fnExactDidBook
open Go.ChangeShapes Go.WideShapes Go.ChangeAt Go.RowKit
open Go.Proofs.YtjkkjpgebcnhgaaGreatDoor.ce Go.Proofs.YtjkkjpgebcnhgaaGreatDoor.ro Go.Proofs.YtjkkjpgebcnhgaaGreatDoor.rg Go.Proofs.YtjkkjpgebcnhgaaGreatDoor.cm
open Go.ChangeMaps (open_string shut_string)
set_option linter.unusedVariables false

theorem own : ownKnob Tryz.prog.godebug = none := by kernel_rfl
theorem laidOut : laidOutB Tryz.prog = true := by kernel_rfl
/-- what the listed variables give: the tens, the error -/
theorem envOf {W : World} (h : laidMetH Tryz.prog Rows.fnExactDidBookRow.laid W) : EnvD W := by
  have h2 : laidMet Tryz.prog Rows.fnExactDidBookRow.laid W := by rw [MakeChecks.laidMetH_plain _ _ _ (by kernel_rfl)] at h; exact h
  have m1 : ("internal/strconv.uint64pow10", (Lib.tabData .u64 Lib.pow10Tab : DataW Unit)) ∈ Rows.fnExactDidBookRow.laid := by
    rw [show (Lib.tabData .u64 Lib.pow10Tab : DataW Unit) = Rows.laid_internal_strconv_uint64pow10 by kernel_rfl]
    simp [Rows.fnExactDidBookRow]
  have m3 : ("strconv.ErrSyntax", (DataW.iface "*errors.errorString" (.ptr (.agg [.lit (.string [105, 110, 118, 97, 108, 105, 100, 32, 115, 121, 110, 116, 97, 120])])) : DataW Unit)) ∈ Rows.fnExactDidBookRow.laid := by
    rw [show (DataW.iface "*errors.errorString" (.ptr (.agg [.lit (.string [105, 110, 118, 97, 108, 105, 100, 32, 115, 121, 110, 116, 97, 120])])) : DataW Unit) = Rows.laid_strconv_ErrSyntax by kernel_rfl]
    simp [Rows.fnExactDidBookRow]
  exact ⟨tab_get (g := 3) h2 m1 (by kernel_rfl) (by kernel_rfl) Tryz.underlying172 Tryz.underlying154 (by kernel_rfl) (by kernel_rfl), iface_get (g := 1) h2 m3 (by kernel_rfl) (by kernel_rfl) ⟨_, Tryz.underlying146⟩⟩

/-! ### operations of the drawn regions, by name -/
def op8_0 : Oper := { dst := some 29, op := Op.load 24 (Operand.tmp 3), type := 24, pos := "exact.go:3570", after := #[], guard := none }
def op8_1 : Oper := { dst := some 30, op := Op.call { callee := Callee.value (Operand.func 9), args := #[Operand.tmp 29], argTypes := #[24] }, type := 31, pos := "exact.go:3570", after := #[{ on := 0, ground := Ground.data }], guard := none }
def op8_2 : Oper := { dst := some 31, op := Op.load 26 (Operand.tmp 4), type := 26, pos := "exact.go:3570", after := #[], guard := none }
def op8_3 : Oper := { dst := some 32, op := Op.call { callee := Callee.value (Operand.func 10), args := #[Operand.tmp 31], argTypes := #[26] }, type := 37, pos := "exact.go:3570", after := #[{ on := 2, ground := Ground.data }, { on := 1, ground := Ground.chain }], guard := none }
def op8_4 : Oper := { dst := some 33, op := Op.move (Operand.tmp 2), type := 2, pos := "exact.go:3570", after := #[], guard := none }
def op8_5 : Oper := { dst := some 34, op := Op.call { callee := Callee.value (Operand.func 8), args := #[Operand.tmp 30, Operand.tmp 32, Operand.tmp 33], argTypes := #[31, 37, 2] }, type := 34, pos := "exact.go:3570", after := #[{ on := 1, ground := Ground.data }, { on := 3, ground := Ground.data }, { on := 4, ground := Ground.data }, { on := 3, ground := Ground.chain }], guard := none }
def op8_6 : Oper := { dst := some 28, op := Op.move (Operand.tmp 34), type := 34, pos := "exact.go:3570", after := #[{ on := 5, ground := Ground.data }], guard := none }
def op8_7 : Oper := { dst := some 35, op := Op.extract (Operand.tmp 28) 0, type := 31, pos := "exact.go:3570", after := #[{ on := 6, ground := Ground.data }], guard := none }
def op8_8 : Oper := { dst := some 36, op := Op.extract (Operand.tmp 28) 1, type := 33, pos := "exact.go:3570", after := #[{ on := 6, ground := Ground.data }, { on := 11, ground := Ground.gcOnly Departure.lateStores }], guard := none }
def op8_9 : Oper := { dst := some 8, op := Op.alloc 31, type := 0, pos := "exact.go:3570", after := #[], guard := none }
def op8_10 : Oper := { dst := some 9, op := Op.alloc 33, type := 0, pos := "exact.go:3570", after := #[], guard := none }
def op8_11 : Oper := { dst := none, op := Op.store 31 (Operand.tmp 8) (Operand.tmp 35), type := 0, pos := "exact.go:3570", after := #[{ on := 9, ground := Ground.data }, { on := 7, ground := Ground.data }, { on := 5, ground := Ground.chain }, { on := 0, ground := Ground.phase }, { on := 1, ground := Ground.phase }, { on := 2, ground := Ground.phase }, { on := 3, ground := Ground.phase }, { on := 4, ground := Ground.phase }, { on := 5, ground := Ground.phase }, { on := 6, ground := Ground.phase }, { on := 7, ground := Ground.phase }, { on := 8, ground := Ground.textOnly Departure.lateStores }, { on := 9, ground := Ground.phase }, { on := 10, ground := Ground.phase }], guard := none }
def op8_12 : Oper := { dst := none, op := Op.store 33 (Operand.tmp 9) (Operand.tmp 36), type := 0, pos := "exact.go:3570", after := #[{ on := 10, ground := Ground.data }, { on := 8, ground := Ground.data }, { on := 11, ground := Ground.chain }, { on := 0, ground := Ground.phase }, { on := 1, ground := Ground.phase }, { on := 2, ground := Ground.phase }, { on := 3, ground := Ground.phase }, { on := 4, ground := Ground.phase }, { on := 5, ground := Ground.phase }, { on := 6, ground := Ground.phase }, { on := 7, ground := Ground.phase }, { on := 8, ground := Ground.phase }, { on := 9, ground := Ground.phase }, { on := 10, ground := Ground.phase }, { on := 11, ground := Ground.phase }], guard := none }
def op10_0 : Oper := { dst := some 40, op := Op.load 31 (Operand.tmp 10), type := 31, pos := "exact.go:3572", after := #[], guard := none }
def op10_1 : Oper := { dst := some 41, op := Op.load 26 (Operand.tmp 4), type := 26, pos := "exact.go:3572", after := #[], guard := none }
def op10_2 : Oper := { dst := some 42, op := Op.call { callee := Callee.value (Operand.func 10), args := #[Operand.tmp 41], argTypes := #[26] }, type := 37, pos := "exact.go:3572", after := #[{ on := 1, ground := Ground.data }], guard := none }
def op10_3 : Oper := { dst := some 43, op := Op.move (Operand.tmp 2), type := 2, pos := "exact.go:3572", after := #[], guard := none }
def op10_4 : Oper := { dst := some 44, op := Op.call { callee := Callee.value (Operand.func 11), args := #[Operand.tmp 40, Operand.tmp 42, Operand.tmp 43], argTypes := #[31, 37, 2] }, type := 34, pos := "exact.go:3572", after := #[{ on := 0, ground := Ground.data }, { on := 2, ground := Ground.data }, { on := 3, ground := Ground.data }, { on := 2, ground := Ground.chain }], guard := none }
def op10_5 : Oper := { dst := some 39, op := Op.move (Operand.tmp 44), type := 34, pos := "exact.go:3572", after := #[{ on := 4, ground := Ground.data }], guard := none }
def op10_6 : Oper := { dst := some 45, op := Op.extract (Operand.tmp 39) 0, type := 31, pos := "exact.go:3572", after := #[{ on := 5, ground := Ground.data }], guard := none }
def op10_7 : Oper := { dst := some 46, op := Op.extract (Operand.tmp 39) 1, type := 33, pos := "exact.go:3572", after := #[{ on := 5, ground := Ground.data }, { on := 10, ground := Ground.gcOnly Departure.lateStores }], guard := none }
def op10_8 : Oper := { dst := some 11, op := Op.alloc 31, type := 0, pos := "exact.go:3572", after := #[], guard := none }
def op10_9 : Oper := { dst := some 12, op := Op.alloc 33, type := 0, pos := "exact.go:3572", after := #[], guard := none }
def op10_10 : Oper := { dst := none, op := Op.store 31 (Operand.tmp 11) (Operand.tmp 45), type := 0, pos := "exact.go:3572", after := #[{ on := 8, ground := Ground.data }, { on := 6, ground := Ground.data }, { on := 4, ground := Ground.chain }, { on := 0, ground := Ground.phase }, { on := 1, ground := Ground.phase }, { on := 2, ground := Ground.phase }, { on := 3, ground := Ground.phase }, { on := 4, ground := Ground.phase }, { on := 5, ground := Ground.phase }, { on := 6, ground := Ground.phase }, { on := 7, ground := Ground.textOnly Departure.lateStores }, { on := 8, ground := Ground.phase }, { on := 9, ground := Ground.phase }], guard := none }
def op10_11 : Oper := { dst := none, op := Op.store 33 (Operand.tmp 12) (Operand.tmp 46), type := 0, pos := "exact.go:3572", after := #[{ on := 9, ground := Ground.data }, { on := 7, ground := Ground.data }, { on := 10, ground := Ground.chain }, { on := 0, ground := Ground.phase }, { on := 1, ground := Ground.phase }, { on := 2, ground := Ground.phase }, { on := 3, ground := Ground.phase }, { on := 4, ground := Ground.phase }, { on := 5, ground := Ground.phase }, { on := 6, ground := Ground.phase }, { on := 7, ground := Ground.phase }, { on := 8, ground := Ground.phase }, { on := 9, ground := Ground.phase }, { on := 10, ground := Ground.phase }], guard := none }
def op27_0 : Oper := { dst := some 91, op := Op.load 24 (Operand.tmp 3), type := 24, pos := "exact.go:3594", after := #[], guard := none }
def op27_1 : Oper := { dst := some 92, op := Op.call { callee := Callee.value (Operand.func 9), args := #[Operand.tmp 91], argTypes := #[24] }, type := 31, pos := "exact.go:3594", after := #[{ on := 0, ground := Ground.data }], guard := none }
def op27_2 : Oper := { dst := some 93, op := Op.load 26 (Operand.tmp 4), type := 26, pos := "exact.go:3594", after := #[], guard := none }
def op27_3 : Oper := { dst := some 94, op := Op.call { callee := Callee.value (Operand.func 10), args := #[Operand.tmp 93], argTypes := #[26] }, type := 37, pos := "exact.go:3594", after := #[{ on := 2, ground := Ground.data }, { on := 1, ground := Ground.chain }], guard := none }
def op27_4 : Oper := { dst := some 95, op := Op.move (Operand.tmp 2), type := 2, pos := "exact.go:3594", after := #[], guard := none }
def op27_5 : Oper := { dst := some 96, op := Op.call { callee := Callee.value (Operand.func 11), args := #[Operand.tmp 92, Operand.tmp 94, Operand.tmp 95], argTypes := #[31, 37, 2] }, type := 34, pos := "exact.go:3594", after := #[{ on := 1, ground := Ground.data }, { on := 3, ground := Ground.data }, { on := 4, ground := Ground.data }, { on := 3, ground := Ground.chain }], guard := none }
def op27_6 : Oper := { dst := some 90, op := Op.move (Operand.tmp 96), type := 34, pos := "exact.go:3594", after := #[{ on := 5, ground := Ground.data }], guard := none }
def op27_7 : Oper := { dst := some 97, op := Op.extract (Operand.tmp 90) 0, type := 31, pos := "exact.go:3594", after := #[{ on := 6, ground := Ground.data }], guard := none }
def op27_8 : Oper := { dst := some 98, op := Op.extract (Operand.tmp 90) 1, type := 33, pos := "exact.go:3594", after := #[{ on := 6, ground := Ground.data }, { on := 11, ground := Ground.gcOnly Departure.lateStores }], guard := none }
def op27_9 : Oper := { dst := some 16, op := Op.alloc 31, type := 0, pos := "exact.go:3594", after := #[], guard := none }
def op27_10 : Oper := { dst := some 17, op := Op.alloc 33, type := 0, pos := "exact.go:3594", after := #[], guard := none }
def op27_11 : Oper := { dst := none, op := Op.store 31 (Operand.tmp 16) (Operand.tmp 97), type := 0, pos := "exact.go:3594", after := #[{ on := 9, ground := Ground.data }, { on := 7, ground := Ground.data }, { on := 5, ground := Ground.chain }, { on := 0, ground := Ground.phase }, { on := 1, ground := Ground.phase }, { on := 2, ground := Ground.phase }, { on := 3, ground := Ground.phase }, { on := 4, ground := Ground.phase }, { on := 5, ground := Ground.phase }, { on := 6, ground := Ground.phase }, { on := 7, ground := Ground.phase }, { on := 8, ground := Ground.textOnly Departure.lateStores }, { on := 9, ground := Ground.phase }, { on := 10, ground := Ground.phase }], guard := none }
def op27_12 : Oper := { dst := none, op := Op.store 33 (Operand.tmp 17) (Operand.tmp 98), type := 0, pos := "exact.go:3594", after := #[{ on := 10, ground := Ground.data }, { on := 8, ground := Ground.data }, { on := 11, ground := Ground.chain }, { on := 0, ground := Ground.phase }, { on := 1, ground := Ground.phase }, { on := 2, ground := Ground.phase }, { on := 3, ground := Ground.phase }, { on := 4, ground := Ground.phase }, { on := 5, ground := Ground.phase }, { on := 6, ground := Ground.phase }, { on := 7, ground := Ground.phase }, { on := 8, ground := Ground.phase }, { on := 9, ground := Ground.phase }, { on := 10, ground := Ground.phase }, { on := 11, ground := Ground.phase }], guard := none }
/-! ### the walk -/
set_option maxRecDepth 100000 in
set_option maxHeartbeats 4000000 in
theorem walk (v : Value) (I : List It) (X : Int) (V : Int) (N2 : ByteArray) (F2 U2 : Int) (B2 : ByteArray) (C2 D2 : Int) (Q2 : Bool) (now : Int) (w : World) (en : EnvD w) (hv : Rd encLi w v I) (hlo : Lo I) (hN2 : N2.size ≤ 9223372036854775807) (hB2 : B2.size ≤ 9223372036854775807) :
    Calls Tryz.prog 3 #[.agg #[v, .int .i64 X], .agg #[.int .i64 V, .string N2, .int .i64 F2, .int .i64 U2, .string B2, .int .i64 C2, .int .i64 D2, .bool Q2], .int .i64 now] w fun e w' => e = .returned (.bool true) ∧ Below w.heap.size w w' := by
  obtain ⟨a, cap, rfl⟩ := hv.form
  have R : Hid (Rd encLi w (.slice a I.length cap) I) := hv
  have HLO : Hid (Lo I) := hlo
  have EN : Hid (EnvD w) := en
  clear hv hlo en
  have kS := fun (hs : SmK I) (hl : I.length ≤ 1048576) (h1 : N2.size ≤ 1048576) (h2 : B2.size ≤ 1048576) v w' r => specDidBook_any I X V N2 F2 U2 B2 C2 D2 Q2 now v w' r hs hl h1 h2
  have kI := fun (hs : SmK I) (hl : I.length ≤ 1048576) (h1 : N2.size ≤ 1048576) (h2 : B2.size ≤ 1048576) v w' r e => implDidBook_any I X V N2 F2 U2 B2 C2 D2 Q2 now v w' r hs hl h1 h2 e
  have kl := di_len ⟨I, X⟩ ⟨V, N2, F2, U2, B2, C2, D2, Q2⟩ now
  obtain ⟨⟨⟨J, Y⟩, ⟨r1, r2, r3, r4, r5, r6⟩⟩, hD⟩ := hid_ex (diR ⟨I, X⟩ ⟨V, N2, F2, U2, B2, C2, D2, Q2⟩ now)
  unfold PostD at kS kI
  rw [hD.out] at kS kI kl
  clear hD
  dsimp only [csRp] at kS kI kl
  have kq := eqRp_any r1 r2 r3 r4 r5 r6
  have k6 := oneRp ⟨r1, r2, r3, r4, r5, r6⟩
  have e6 : csRp ⟨r1, r2, r3, r4, r5, r6⟩ = [.int .i64 r1, .string r2, .int .i64 r3, .string r4, .int .i64 r5, .int .i64 r6] := rfl
  rw [e6] at k6
  clear e6
  have sX : (Tryz.prog.info? 33).map (·.size) = some ([.int .i64 r1, .string r2, .int .i64 r3, .string r4, .int .i64 r5, .int .i64 r6] : List Value).length := sizeRp
  have nX : ([.int .i64 r1, .string r2, .int .i64 r3, .string r4, .int .i64 r5, .int .i64 r6] : List Value).length = ([.int .i64 0, .string ⟨#[]⟩, .int .i64 0, .string ⟨#[]⟩, .int .i64 0, .int .i64 0] : List Value).length := rfl
  have nX2 : ([.int .i64 0, .string ⟨#[]⟩, .int .i64 0, .string ⟨#[]⟩, .int .i64 0, .int .i64 0] : List Value).length = 6 := rfl
  generalize Value.int .i64 r1 = x1 at kS kI kq k6
  generalize Value.string r2 = x2 at kS kI kq k6
  generalize Value.int .i64 r3 = x3 at kS kI kq k6
  generalize Value.string r4 = x4 at kS kI kq k6
  generalize Value.int .i64 r5 = x5 at kS kI kq k6
  generalize Value.int .i64 r6 = x6 at kS kI kq k6
  clear sX nX nX2
  have toC := toCm_any V N2 F2 U2 B2 C2 D2 Q2
  have kz := szCm_any V N2 F2 U2 B2 C2 D2 Q2 hN2 hB2
  have slC : (Tryz.prog.info? 26).map (·.size) = some ([.int .i64 V, .string N2, .int .i64 F2, .int .i64 U2, .string B2, .int .i64 C2, .int .i64 D2, .bool Q2] : List Value).length := sizeLCm
  generalize ([.int .i64 V, .string N2, .int .i64 F2, .int .i64 U2, .string B2, .int .i64 C2, .int .i64 D2, .bool Q2] : List Value) = lC at kS kI toC kz slC ⊢
  have hkS : Hid _ := kS
  clear kS
  have hkI : Hid _ := kI
  clear kI
  have hkq : Hid _ := kq
  clear kq
  have hk6 : Hid _ := k6
  clear k6
  have htoC : Hid _ := toC
  clear toC
  have hkz : Hid _ := kz
  clear kz
  have hkl : Hid _ := kl
  clear kl
  clear r1 r2 r3 r4 r5 r6 hN2 hB2
  go_enter Tryz.func3, Tryz.ntmps3
  have mk1 : Hid True := trivial
  have mk2 : Hid True := trivial
  have mk3 : Hid True := trivial
  have mk4 : Hid True := trivial
  have mk5 : Hid True := trivial
  go_wp2_with (first | (clear mk1; refine wpList_box_v rfl 24 _ rfl [.slice a I.length cap, .int .i64 X] rfl ?_; intro ba w1 hba hwba hB1 ca; have hz1 : w.heap.size ≤ w1.heap.size := hB1.size; have hB := hB1; have hzw := hB.size; obtain ⟨ca0, ca1⟩ := cells2 ca) | (clear mk2; refine wpList_box_v rfl 26 _ rfl lC rfl ?_; intro bc w2 hbc hwbc hB2 cc; have hz2 : w1.heap.size ≤ w2.heap.size := hB2.size; replace ca := vblk_grow ca hB2; replace hB := hB.trans (hB2.mono (by omega)); replace hzw := hB.size; clear ca0 ca1; obtain ⟨ca0, ca1⟩ := cells2 ca) | (clear mk3; go_at_call 6; refine (szBook_le I X _ 1048576 (by omega) (by omega) _ (R.out.grow hB) HLO.out).mono ?_; rintro er w3 ⟨q, rfl, hB3, hr, hq1⟩; have hz3 : w2.heap.size ≤ w3.heap.size := hB3.size; replace ca := vblk_grow ca hB3; replace cc := vblk_grow cc hB3; replace hB := hB.trans (hB3.mono (by omega)); replace hzw := hB.size; clear ca0 ca1; obtain ⟨ca0, ca1⟩ := cells2 ca; by_cases hneg : q < 0) | (clear mk4; refine wpList_load_r rfl 26 _ rfl bc 0 lC rfl _ Tryz.underlying26 rfl slC cc.range ?_) | (clear mk5; go_at_call 7; refine (hkz.out q hq1 (by omega) _).mono ?_; rintro er w4 ⟨q2, rfl, hB4, hq2, hr2⟩; have hz4 : w3.heap.size ≤ w4.heap.size := hB4.size; replace ca := vblk_grow ca hB4; replace cc := vblk_grow cc hB4; replace hB := hB.trans (hB4.mono (by omega)); replace hzw := hB.size; clear ca0 ca1; obtain ⟨ca0, ca1⟩ := cells2 ca; by_cases hneg2 : q2 < 0) | (fail))
  · go_ret
    exact ⟨rfl, hB⟩
  · go_ret
    exact ⟨rfl, hB⟩
  obtain ⟨hl, hsm⟩ := hr (by omega)
  clear hr
  have SMK : Hid (SmK I) := hsm
  clear hsm
  obtain ⟨hN1, hB1x⟩ := hr2 (by omega)
  clear hr2 hkz
  obtain ⟨mk, hmk⟩ : ∃ m : Nat, Hid (m = 1 + 5 * I.length) := ⟨_, rfl⟩
  obtain ⟨mj, hmj⟩ : ∃ m : Nat, Hid (m = 1 + 5 * J.length) := ⟨_, rfl⟩
  have hmj2 : 1 ≤ mj ∧ mj ≤ 6000000 := by have := hmj.out; have := hkl.out; omega
  have hJ2 : J.length ≤ 1048577 := by have := hkl.out; omega
  have hsd : decide ((mk : Int) < 0) = false := decide_eq_false (by omega)
  have hsd2 : ¬ ((mk : Int) < 0) := by omega
  have hsn : ¬ ((mj : Int) < 0) := by omega
  have hse : ((mj : Int) != (mj : Int)) = false := by simp
  (try simp only [Act.put])
  (try simp only [List.setIfInBounds_toArray, List.set_cons_zero, List.set_cons_succ])
  go_cut [8, 9] from 28 to 37 (fun s8 s9 wc => ∃ (bw : Nat) (ew : Nat) (Aw : Option Addr) (Nw Kw : Nat), s8 = .pointer (some ⟨bw, 0, none⟩) ∧ s9 = .pointer (some ⟨ew, 0, none⟩) ∧ Below w4.heap.size w4 wc ∧ VBlk wc ba 24 [.slice a I.length cap, .int .i64 X] ∧ VBlk wc bc 26 lC ∧ VBlk wc bw 31 [.slice Aw Nw Kw, .int .i64 Y] ∧ VBlk wc ew 33 [x1, x2, x3, x4, x5, x6] ∧ ro.Own encIt wc w4.heap.size wc.heap.size (.slice Aw Nw Kw) J)
  case first =>
    have hC : Below w4.heap.size w4 w4.drew := (Below.refl _ _).drew
    clear ca0 ca1
    apply with_key (T := ∀ (wk : World) (bw ew : Nat) (Aw : Option Addr) (Nw Kw : Nat) (At : Option Addr) (Nt Kt : Nat), (Below w4.heap.size w4 wk) → (VBlk wk bw 31 [.slice none 0 0, .int .i64 0]) → (VBlk wk ew 33 [.int .i64 0, .string ⟨#[]⟩, .int .i64 0, .string ⟨#[]⟩, .int .i64 0, .int .i64 0]) → (ro.Own encIt wk w4.heap.size wk.heap.size (.slice Aw Nw Kw) J) → (w4.heap.size ≤ bw) → (w4.heap.size ≤ ew) → (bw ≠ ew) → (VBlk wk ba 24 [.slice a I.length cap, .int .i64 X] ∧ VBlk wk bc 26 lC) → (_ : Prop))
    case main =>
      intro key
      refine wp_region_held_drew (S := fun w' => VBlk w' ba 24 [.slice a I.length cap, .int .i64 X] ∧ VBlk w' bc 26 lC) (by kernel_rfl) (⟨vblk_grow ca hC, vblk_grow cc hC⟩) (fun hHeld => ?_)
      refine wpAnyH_take (i := 0) (oi := { dst := some 29, op := Op.load 24 (Operand.tmp 3), type := 24, pos := "exact.go:3570", after := #[], guard := none }) (v := .agg ([.slice a I.length cap, .int .i64 X] : List Value).toArray) rfl (by kernel_rfl) (by kernel_rfl) (by kernel_rfl) (fun _ _ _ h => h) (yieldsIf_load_mid (by rfl) 24 _ rfl ba 0 rfl [.slice a I.length cap, .int .i64 X] _ (fun w' hw' => hw'.1.range) Tryz.underlying24 rfl sizeLBk) (by assumption) ?_
      (try simp only [Act.put, List.setIfInBounds_toArray, List.set_cons_zero, List.set_cons_succ])
      refine wpAnyH_take (i := 2) (oi := { dst := some 31, op := Op.load 26 (Operand.tmp 4), type := 26, pos := "exact.go:3570", after := #[], guard := none }) (v := .agg (lC : List Value).toArray) rfl (by kernel_rfl) (by kernel_rfl) (by kernel_rfl) (fun _ _ _ h => h) (yieldsIf_load_mid (by rfl) 26 _ rfl bc 0 rfl lC _ (fun w' hw' => hw'.2.range) Tryz.underlying26 rfl slC) (by assumption) ?_
      (try simp only [Act.put, List.setIfInBounds_toArray, List.set_cons_zero, List.set_cons_succ])
      refine wpAnyH_take (i := 4) (oi := op8_4) (v := ?_) rfl (by kernel_rfl) (by kernel_rfl) (by kernel_rfl) (fun _ _ _ h => h) (Or.inl ⟨by rfl, ?_⟩) (by assumption) ?_
      rotate_left 1
      · intro w' hSw; (try dsimp only at hSw); (try unfold op8_4); go_simp; (try with_reducible rfl)
      (try unfold op8_4)
      (try simp only [Act.put, List.setIfInBounds_toArray, List.set_cons_zero, List.set_cons_succ])
      refine wpAnyH_ready (rs := [1, 9, 10]) (by kernel_rfl) (by simp) ?_
      refine AllReadyH.cons (o := op8_1) rfl (fun KC hKC => ?_) (AllReadyH.cons (o := op8_9) rfl (fun KC hKC => ?_) (AllReadyH.cons (o := op8_10) rfl (fun KC hKC => ?_) AllReadyH.nil))
      · (try unfold op8_1)
        go_simp
        go_at_call 9
        refine (toBook_any I X _ _ (R.out.grow (hB.trans (hC.mono hB.size))) hl).mono ?_
        rintro er wr1 ⟨vt, rfl, ot, hBr1⟩
        obtain ⟨At, Nt, Kt, rfl⟩ := ot.slice
        (try replace ow := ow.grow hBr1)
        (try replace cw := vblk_grow cw hBr1)
        (try replace dw := vblk_grow dw hBr1)
        replace hC := hC.trans (hBr1.mono hC.size)
        refine hKC.out _ _ (⟨vblk_grow ca hC, vblk_grow cc hC⟩) (fun hHeld2 => ?_)
        clear hKC KC hHeld
        have hHeld := hHeld2
        clear hHeld2
        (try simp only [Act.put, List.setIfInBounds_toArray, List.set_cons_zero, List.set_cons_succ])
        refine wpAnyH_ready (rs := [3, 9, 10]) (by kernel_rfl) (by simp) ?_
        refine AllReadyH.cons (o := op8_3) rfl (fun KC hKC => ?_) (AllReadyH.cons (o := op8_9) rfl (fun KC hKC => ?_) (AllReadyH.cons (o := op8_10) rfl (fun KC hKC => ?_) AllReadyH.nil))
        · (try unfold op8_3)
          go_simp
          go_at_call 10
          refine (htoC.out _).mono ?_
          rintro er wr2 ⟨rfl, hBr2⟩
          (try replace ot := ot.grow hBr2)
          (try replace ow := ow.grow hBr2)
          (try replace cw := vblk_grow cw hBr2)
          (try replace dw := vblk_grow dw hBr2)
          replace hC := hC.trans (hBr2.mono hC.size)
          refine hKC.out _ _ (⟨vblk_grow ca hC, vblk_grow cc hC⟩) (fun hHeld2 => ?_)
          clear hKC KC hHeld
          have hHeld := hHeld2
          clear hHeld2
          (try simp only [Act.put, List.setIfInBounds_toArray, List.set_cons_zero, List.set_cons_succ])
          refine wpAnyH_ready (rs := [5, 9, 10]) (by kernel_rfl) (by simp) ?_
          refine AllReadyH.cons (o := op8_5) rfl (fun KC hKC => ?_) (AllReadyH.cons (o := op8_9) rfl (fun KC hKC => ?_) (AllReadyH.cons (o := op8_10) rfl (fun KC hKC => ?_) AllReadyH.nil))
          · (try unfold op8_5)
            go_simp
            go_at_call 8
            refine (hkS.out SMK.out hl hN1 hB1x _ _ ot.rd).mono ?_
            rintro er wr3 ⟨vw, rfl, ow, hBr3⟩
            obtain ⟨Aw, Nw, Kw, rfl⟩ := ow.slice
            replace ow := ow.wide (lo' := w4.heap.size) hC.size (Nat.le_refl _)
            (try replace ot := ot.grow hBr3)
            (try replace cw := vblk_grow cw hBr3)
            (try replace dw := vblk_grow dw hBr3)
            replace hC := hC.trans (hBr3.mono hC.size)
            refine hKC.out _ _ (⟨vblk_grow ca hC, vblk_grow cc hC⟩) (fun hHeld2 => ?_)
            clear hKC KC hHeld
            have hHeld := hHeld2
            clear hHeld2
            (try simp only [Act.put, List.setIfInBounds_toArray, List.set_cons_zero, List.set_cons_succ])
            refine wpAnyH_take (i := 6) (oi := op8_6) (v := ?_) rfl (by kernel_rfl) (by kernel_rfl) (by kernel_rfl) (fun _ _ _ h => h) (Or.inl ⟨by rfl, ?_⟩) (by assumption) ?_
            rotate_left 1
            · intro w' hSw; (try dsimp only at hSw); (try unfold op8_6); go_simp; (try with_reducible rfl)
            (try unfold op8_6)
            (try simp only [Act.put, List.setIfInBounds_toArray, List.set_cons_zero, List.set_cons_succ])
            refine wpAnyH_take (i := 7) (oi := op8_7) (v := ?_) rfl (by kernel_rfl) (by kernel_rfl) (by kernel_rfl) (fun _ _ _ h => h) (Or.inl ⟨by rfl, ?_⟩) (by assumption) ?_
            rotate_left 1
            · intro w' hSw; (try dsimp only at hSw); (try unfold op8_7); go_simp; (try with_reducible rfl)
            (try unfold op8_7)
            (try simp only [Act.put, List.setIfInBounds_toArray, List.set_cons_zero, List.set_cons_succ])
            refine wpAnyH_take (i := 8) (oi := op8_8) (v := ?_) rfl (by kernel_rfl) (by kernel_rfl) (by kernel_rfl) (fun _ _ _ h => h) (Or.inl ⟨by rfl, ?_⟩) (by assumption) ?_
            rotate_left 1
            · intro w' hSw; (try dsimp only at hSw); (try unfold op8_8); go_simp; (try with_reducible rfl)
            (try unfold op8_8)
            (try simp only [Act.put, List.setIfInBounds_toArray, List.set_cons_zero, List.set_cons_succ])
            refine wpAnyH_ready (rs := [9, 10]) (by kernel_rfl) (by simp) ?_
            refine AllReadyH.cons (o := op8_9) rfl (fun KC hKC => ?_) (AllReadyH.cons (o := op8_10) rfl (fun KC hKC => ?_) AllReadyH.nil)
            · (try unfold op8_9)
              refine step_alloc_v rfl 31 rfl _ zeroBk ?_
              intro bw wr4 hbw hwbw hBr4 cw
              have hlv_cw : w4.heap.size ≤ bw := Nat.le_trans hC.size hbw
              (try have ne_w := Nat.ne_of_lt (Nat.lt_of_lt_of_le dw.lt hbw))
              (try replace ot := ot.grow hBr4)
              (try replace ow := ow.grow hBr4)
              (try replace dw := vblk_grow dw hBr4)
              replace hC := hC.trans (hBr4.mono hC.size)
              refine hKC.out _ _ (⟨vblk_grow ca hC, vblk_grow cc hC⟩) (fun hHeld2 => ?_)
              clear hKC KC hHeld
              have hHeld := hHeld2
              clear hHeld2
              (try simp only [Act.put, List.setIfInBounds_toArray, List.set_cons_zero, List.set_cons_succ])
              refine wpAnyH_ready (rs := [10]) (by kernel_rfl) (by simp) ?_
              refine AllReadyH.cons (o := op8_10) rfl (fun KC hKC => ?_) AllReadyH.nil
              (try unfold op8_10)
              refine step_alloc_v rfl 33 rfl _ zeroRp ?_
              intro ew wr5 hew hwew hBr5 dw
              have hlv_dw : w4.heap.size ≤ ew := Nat.le_trans hC.size hew
              (try have ne_w := Nat.ne_of_lt (Nat.lt_of_lt_of_le cw.lt hew))
              (try replace ot := ot.grow hBr5)
              (try replace ow := ow.grow hBr5)
              (try replace cw := vblk_grow cw hBr5)
              replace hC := hC.trans (hBr5.mono hC.size)
              refine hKC.out _ _ (⟨vblk_grow ca hC, vblk_grow cc hC⟩) (fun hHeld2 => ?_)
              clear hKC KC hHeld
              have hHeld := hHeld2
              clear hHeld2
              (try simp only [Act.put, List.setIfInBounds_toArray, List.set_cons_zero, List.set_cons_succ])
              exact key wr5 bw ew Aw Nw Kw At Nt Kt hC cw dw ow.top hlv_cw hlv_dw (by first | exact ne_w | exact Ne.symm ne_w) hHeld
            (try unfold op8_10)
            refine step_alloc_v rfl 33 rfl _ zeroRp ?_
            intro ew wr5 hew hwew hBr5 dw
            have hlv_dw : w4.heap.size ≤ ew := Nat.le_trans hC.size hew
            (try have ne_w := Nat.ne_of_lt (Nat.lt_of_lt_of_le cw.lt hew))
            (try replace ot := ot.grow hBr5)
            (try replace ow := ow.grow hBr5)
            (try replace cw := vblk_grow cw hBr5)
            replace hC := hC.trans (hBr5.mono hC.size)
            refine hKC.out _ _ (⟨vblk_grow ca hC, vblk_grow cc hC⟩) (fun hHeld2 => ?_)
            clear hKC KC hHeld
            have hHeld := hHeld2
            clear hHeld2
            (try simp only [Act.put, List.setIfInBounds_toArray, List.set_cons_zero, List.set_cons_succ])
            refine wpAnyH_ready (rs := [9]) (by kernel_rfl) (by simp) ?_
            refine AllReadyH.cons (o := op8_9) rfl (fun KC hKC => ?_) AllReadyH.nil
            (try unfold op8_9)
            refine step_alloc_v rfl 31 rfl _ zeroBk ?_
            intro bw wr4 hbw hwbw hBr4 cw
            have hlv_cw : w4.heap.size ≤ bw := Nat.le_trans hC.size hbw
            (try have ne_w := Nat.ne_of_lt (Nat.lt_of_lt_of_le dw.lt hbw))
            (try replace ot := ot.grow hBr4)
            (try replace ow := ow.grow hBr4)
            (try replace dw := vblk_grow dw hBr4)
            replace hC := hC.trans (hBr4.mono hC.size)
            refine hKC.out _ _ (⟨vblk_grow ca hC, vblk_grow cc hC⟩) (fun hHeld2 => ?_)
            clear hKC KC hHeld
            have hHeld := hHeld2
            clear hHeld2
            (try simp only [Act.put, List.setIfInBounds_toArray, List.set_cons_zero, List.set_cons_succ])
            exact key wr4 bw ew Aw Nw Kw At Nt Kt hC cw dw ow.top hlv_cw hlv_dw (by first | exact ne_w | exact Ne.symm ne_w) hHeld
          · (try unfold op8_9)
            refine step_alloc_v rfl 31 rfl _ zeroBk ?_
            intro bw wr4 hbw hwbw hBr4 cw
            have hlv_cw : w4.heap.size ≤ bw := Nat.le_trans hC.size hbw
            (try have ne_w := Nat.ne_of_lt (Nat.lt_of_lt_of_le dw.lt hbw))
            (try replace ot := ot.grow hBr4)
            (try replace ow := ow.grow hBr4)
            (try replace dw := vblk_grow dw hBr4)
            replace hC := hC.trans (hBr4.mono hC.size)
            refine hKC.out _ _ (⟨vblk_grow ca hC, vblk_grow cc hC⟩) (fun hHeld2 => ?_)
            clear hKC KC hHeld
            have hHeld := hHeld2
            clear hHeld2
            (try simp only [Act.put, List.setIfInBounds_toArray, List.set_cons_zero, List.set_cons_succ])
            refine wpAnyH_ready (rs := [5, 10]) (by kernel_rfl) (by simp) ?_
            refine AllReadyH.cons (o := op8_5) rfl (fun KC hKC => ?_) (AllReadyH.cons (o := op8_10) rfl (fun KC hKC => ?_) AllReadyH.nil)
            · (try unfold op8_5)
              go_simp
              go_at_call 8
              refine (hkS.out SMK.out hl hN1 hB1x _ _ ot.rd).mono ?_
              rintro er wr3 ⟨vw, rfl, ow, hBr3⟩
              obtain ⟨Aw, Nw, Kw, rfl⟩ := ow.slice
              replace ow := ow.wide (lo' := w4.heap.size) hC.size (Nat.le_refl _)
              (try replace ot := ot.grow hBr3)
              (try replace cw := vblk_grow cw hBr3)
              (try replace dw := vblk_grow dw hBr3)
              replace hC := hC.trans (hBr3.mono hC.size)
              refine hKC.out _ _ (⟨vblk_grow ca hC, vblk_grow cc hC⟩) (fun hHeld2 => ?_)
              clear hKC KC hHeld
              have hHeld := hHeld2
              clear hHeld2
              (try simp only [Act.put, List.setIfInBounds_toArray, List.set_cons_zero, List.set_cons_succ])
              refine wpAnyH_take (i := 6) (oi := op8_6) (v := ?_) rfl (by kernel_rfl) (by kernel_rfl) (by kernel_rfl) (fun _ _ _ h => h) (Or.inl ⟨by rfl, ?_⟩) (by assumption) ?_
              rotate_left 1
              · intro w' hSw; (try dsimp only at hSw); (try unfold op8_6); go_simp; (try with_reducible rfl)
              (try unfold op8_6)
              (try simp only [Act.put, List.setIfInBounds_toArray, List.set_cons_zero, List.set_cons_succ])
              refine wpAnyH_take (i := 7) (oi := op8_7) (v := ?_) rfl (by kernel_rfl) (by kernel_rfl) (by kernel_rfl) (fun _ _ _ h => h) (Or.inl ⟨by rfl, ?_⟩) (by assumption) ?_
              rotate_left 1
              · intro w' hSw; (try dsimp only at hSw); (try unfold op8_7); go_simp; (try with_reducible rfl)
              (try unfold op8_7)
              (try simp only [Act.put, List.setIfInBounds_toArray, List.set_cons_zero, List.set_cons_succ])
              refine wpAnyH_take (i := 8) (oi := op8_8) (v := ?_) rfl (by kernel_rfl) (by kernel_rfl) (by kernel_rfl) (fun _ _ _ h => h) (Or.inl ⟨by rfl, ?_⟩) (by assumption) ?_
              rotate_left 1
              · intro w' hSw; (try dsimp only at hSw); (try unfold op8_8); go_simp; (try with_reducible rfl)
              (try unfold op8_8)
              (try simp only [Act.put, List.setIfInBounds_toArray, List.set_cons_zero, List.set_cons_succ])
              refine wpAnyH_ready (rs := [10]) (by kernel_rfl) (by simp) ?_
              refine AllReadyH.cons (o := op8_10) rfl (fun KC hKC => ?_) AllReadyH.nil
              (try unfold op8_10)
              refine step_alloc_v rfl 33 rfl _ zeroRp ?_
              intro ew wr5 hew hwew hBr5 dw
              have hlv_dw : w4.heap.size ≤ ew := Nat.le_trans hC.size hew
              (try have ne_w := Nat.ne_of_lt (Nat.lt_of_lt_of_le cw.lt hew))
              (try replace ot := ot.grow hBr5)
              (try replace ow := ow.grow hBr5)
              (try replace cw := vblk_grow cw hBr5)
              replace hC := hC.trans (hBr5.mono hC.size)
              refine hKC.out _ _ (⟨vblk_grow ca hC, vblk_grow cc hC⟩) (fun hHeld2 => ?_)
              clear hKC KC hHeld
              have hHeld := hHeld2
              clear hHeld2
              (try simp only [Act.put, List.setIfInBounds_toArray, List.set_cons_zero, List.set_cons_succ])
              exact key wr5 bw ew Aw Nw Kw At Nt Kt hC cw dw ow.top hlv_cw hlv_dw (by first | exact ne_w | exact Ne.symm ne_w) hHeld
            (try unfold op8_10)
            refine step_alloc_v rfl 33 rfl _ zeroRp ?_
            intro ew wr5 hew hwew hBr5 dw
            have hlv_dw : w4.heap.size ≤ ew := Nat.le_trans hC.size hew
            (try have ne_w := Nat.ne_of_lt (Nat.lt_of_lt_of_le cw.lt hew))
            (try replace ot := ot.grow hBr5)
            (try replace ow := ow.grow hBr5)
            (try replace cw := vblk_grow cw hBr5)
            replace hC := hC.trans (hBr5.mono hC.size)
            refine hKC.out _ _ (⟨vblk_grow ca hC, vblk_grow cc hC⟩) (fun hHeld2 => ?_)
            clear hKC KC hHeld
            have hHeld := hHeld2
            clear hHeld2
            (try simp only [Act.put, List.setIfInBounds_toArray, List.set_cons_zero, List.set_cons_succ])
            refine wpAnyH_ready (rs := [5]) (by kernel_rfl) (by simp) ?_
            refine AllReadyH.cons (o := op8_5) rfl (fun KC hKC => ?_) AllReadyH.nil
            (try unfold op8_5)
            go_simp
            go_at_call 8
            refine (hkS.out SMK.out hl hN1 hB1x _ _ ot.rd).mono ?_
            rintro er wr3 ⟨vw, rfl, ow, hBr3⟩
            obtain ⟨Aw, Nw, Kw, rfl⟩ := ow.slice
            replace ow := ow.wide (lo' := w4.heap.size) hC.size (Nat.le_refl _)
            (try replace ot := ot.grow hBr3)
            (try replace cw := vblk_grow cw hBr3)
            (try replace dw := vblk_grow dw hBr3)
            replace hC := hC.trans (hBr3.mono hC.size)
            refine hKC.out _ _ (⟨vblk_grow ca hC, vblk_grow cc hC⟩) (fun hHeld2 => ?_)
            clear hKC KC hHeld
            have hHeld := hHeld2
            clear hHeld2
            (try simp only [Act.put, List.setIfInBounds_toArray, List.set_cons_zero, List.set_cons_succ])
            refine wpAnyH_take (i := 6) (oi := op8_6) (v := ?_) rfl (by kernel_rfl) (by kernel_rfl) (by kernel_rfl) (fun _ _ _ h => h) (Or.inl ⟨by rfl, ?_⟩) (by assumption) ?_
            rotate_left 1
            · intro w' hSw; (try dsimp only at hSw); (try unfold op8_6); go_simp; (try with_reducible rfl)
            (try unfold op8_6)
            (try simp only [Act.put, List.setIfInBounds_toArray, List.set_cons_zero, List.set_cons_succ])
            refine wpAnyH_take (i := 7) (oi := op8_7) (v := ?_) rfl (by kernel_rfl) (by kernel_rfl) (by kernel_rfl) (fun _ _ _ h => h) (Or.inl ⟨by rfl, ?_⟩) (by assumption) ?_
            rotate_left 1
            · intro w' hSw; (try dsimp only at hSw); (try unfold op8_7); go_simp; (try with_reducible rfl)
            (try unfold op8_7)
            (try simp only [Act.put, List.setIfInBounds_toArray, List.set_cons_zero, List.set_cons_succ])
            refine wpAnyH_take (i := 8) (oi := op8_8) (v := ?_) rfl (by kernel_rfl) (by kernel_rfl) (by kernel_rfl) (fun _ _ _ h => h) (Or.inl ⟨by rfl, ?_⟩) (by assumption) ?_
            rotate_left 1
            · intro w' hSw; (try dsimp only at hSw); (try unfold op8_8); go_simp; (try with_reducible rfl)
            (try unfold op8_8)
            (try simp only [Act.put, List.setIfInBounds_toArray, List.set_cons_zero, List.set_cons_succ])
            exact key wr3 bw ew Aw Nw Kw At Nt Kt hC cw dw ow.top hlv_cw hlv_dw (by first | exact ne_w | exact Ne.symm ne_w) hHeld
          (try unfold op8_10)
          refine step_alloc_v rfl 33 rfl _ zeroRp ?_
          intro ew wr5 hew hwew hBr5 dw
          have hlv_dw : w4.heap.size ≤ ew := Nat.le_trans hC.size hew
          (try have ne_w := Nat.ne_of_lt (Nat.lt_of_lt_of_le cw.lt hew))
          (try replace ot := ot.grow hBr5)
          (try replace ow := ow.grow hBr5)
          (try replace cw := vblk_grow cw hBr5)
          replace hC := hC.trans (hBr5.mono hC.size)
          refine hKC.out _ _ (⟨vblk_grow ca hC, vblk_grow cc hC⟩) (fun hHeld2 => ?_)
          clear hKC KC hHeld
          have hHeld := hHeld2
          clear hHeld2
          (try simp only [Act.put, List.setIfInBounds_toArray, List.set_cons_zero, List.set_cons_succ])
          refine wpAnyH_ready (rs := [5, 9]) (by kernel_rfl) (by simp) ?_
          refine AllReadyH.cons (o := op8_5) rfl (fun KC hKC => ?_) (AllReadyH.cons (o := op8_9) rfl (fun KC hKC => ?_) AllReadyH.nil)
          · (try unfold op8_5)
            go_simp
            go_at_call 8
            refine (hkS.out SMK.out hl hN1 hB1x _ _ ot.rd).mono ?_
            rintro er wr3 ⟨vw, rfl, ow, hBr3⟩
            obtain ⟨Aw, Nw, Kw, rfl⟩ := ow.slice
            replace ow := ow.wide (lo' := w4.heap.size) hC.size (Nat.le_refl _)
            (try replace ot := ot.grow hBr3)
            (try replace cw := vblk_grow cw hBr3)
            (try replace dw := vblk_grow dw hBr3)
            replace hC := hC.trans (hBr3.mono hC.size)
            refine hKC.out _ _ (⟨vblk_grow ca hC, vblk_grow cc hC⟩) (fun hHeld2 => ?_)
            clear hKC KC hHeld
            have hHeld := hHeld2
            clear hHeld2
            (try simp only [Act.put, List.setIfInBounds_toArray, List.set_cons_zero, List.set_cons_succ])
            refine wpAnyH_take (i := 6) (oi := op8_6) (v := ?_) rfl (by kernel_rfl) (by kernel_rfl) (by kernel_rfl) (fun _ _ _ h => h) (Or.inl ⟨by rfl, ?_⟩) (by assumption) ?_
            rotate_left 1
            · intro w' hSw; (try dsimp only at hSw); (try unfold op8_6); go_simp; (try with_reducible rfl)
            (try unfold op8_6)
            (try simp only [Act.put, List.setIfInBounds_toArray, List.set_cons_zero, List.set_cons_succ])
            refine wpAnyH_take (i := 7) (oi := op8_7) (v := ?_) rfl (by kernel_rfl) (by kernel_rfl) (by kernel_rfl) (fun _ _ _ h => h) (Or.inl ⟨by rfl, ?_⟩) (by assumption) ?_
            rotate_left 1
            · intro w' hSw; (try dsimp only at hSw); (try unfold op8_7); go_simp; (try with_reducible rfl)
            (try unfold op8_7)
            (try simp only [Act.put, List.setIfInBounds_toArray, List.set_cons_zero, List.set_cons_succ])
            refine wpAnyH_take (i := 8) (oi := op8_8) (v := ?_) rfl (by kernel_rfl) (by kernel_rfl) (by kernel_rfl) (fun _ _ _ h => h) (Or.inl ⟨by rfl, ?_⟩) (by assumption) ?_
            rotate_left 1
            · intro w' hSw; (try dsimp only at hSw); (try unfold op8_8); go_simp; (try with_reducible rfl)
            (try unfold op8_8)
            (try simp only [Act.put, List.setIfInBounds_toArray, List.set_cons_zero, List.set_cons_succ])
            refine wpAnyH_ready (rs := [9]) (by kernel_rfl) (by simp) ?_
            refine AllReadyH.cons (o := op8_9) rfl (fun KC hKC => ?_) AllReadyH.nil
            (try unfold op8_9)
            refine step_alloc_v rfl 31 rfl _ zeroBk ?_
            intro bw wr4 hbw hwbw hBr4 cw
            have hlv_cw : w4.heap.size ≤ bw := Nat.le_trans hC.size hbw
            (try have ne_w := Nat.ne_of_lt (Nat.lt_of_lt_of_le dw.lt hbw))
            (try replace ot := ot.grow hBr4)
            (try replace ow := ow.grow hBr4)
            (try replace dw := vblk_grow dw hBr4)
            replace hC := hC.trans (hBr4.mono hC.size)
            refine hKC.out _ _ (⟨vblk_grow ca hC, vblk_grow cc hC⟩) (fun hHeld2 => ?_)
            clear hKC KC hHeld
            have hHeld := hHeld2
            clear hHeld2
            (try simp only [Act.put, List.setIfInBounds_toArray, List.set_cons_zero, List.set_cons_succ])
            exact key wr4 bw ew Aw Nw Kw At Nt Kt hC cw dw ow.top hlv_cw hlv_dw (by first | exact ne_w | exact Ne.symm ne_w) hHeld
          (try unfold op8_9)
          refine step_alloc_v rfl 31 rfl _ zeroBk ?_
          intro bw wr4 hbw hwbw hBr4 cw
          have hlv_cw : w4.heap.size ≤ bw := Nat.le_trans hC.size hbw
          (try have ne_w := Nat.ne_of_lt (Nat.lt_of_lt_of_le dw.lt hbw))
          (try replace ot := ot.grow hBr4)
          (try replace ow := ow.grow hBr4)
          (try replace dw := vblk_grow dw hBr4)
          replace hC := hC.trans (hBr4.mono hC.size)
          refine hKC.out _ _ (⟨vblk_grow ca hC, vblk_grow cc hC⟩) (fun hHeld2 => ?_)
          clear hKC KC hHeld
          have hHeld := hHeld2
          clear hHeld2
          (try simp only [Act.put, List.setIfInBounds_toArray, List.set_cons_zero, List.set_cons_succ])
          refine wpAnyH_ready (rs := [5]) (by kernel_rfl) (by simp) ?_
          refine AllReadyH.cons (o := op8_5) rfl (fun KC hKC => ?_) AllReadyH.nil
          (try unfold op8_5)
          go_simp
          go_at_call 8
          refine (hkS.out SMK.out hl hN1 hB1x _ _ ot.rd).mono ?_
          rintro er wr3 ⟨vw, rfl, ow, hBr3⟩
          obtain ⟨Aw, Nw, Kw, rfl⟩ := ow.slice
          replace ow := ow.wide (lo' := w4.heap.size) hC.size (Nat.le_refl _)
          (try replace ot := ot.grow hBr3)
          (try replace cw := vblk_grow cw hBr3)
          (try replace dw := vblk_grow dw hBr3)
          replace hC := hC.trans (hBr3.mono hC.size)
          refine hKC.out _ _ (⟨vblk_grow ca hC, vblk_grow cc hC⟩) (fun hHeld2 => ?_)
          clear hKC KC hHeld
          have hHeld := hHeld2
          clear hHeld2
          (try simp only [Act.put, List.setIfInBounds_toArray, List.set_cons_zero, List.set_cons_succ])
          refine wpAnyH_take (i := 6) (oi := op8_6) (v := ?_) rfl (by kernel_rfl) (by kernel_rfl) (by kernel_rfl) (fun _ _ _ h => h) (Or.inl ⟨by rfl, ?_⟩) (by assumption) ?_
          rotate_left 1
          · intro w' hSw; (try dsimp only at hSw); (try unfold op8_6); go_simp; (try with_reducible rfl)
          (try unfold op8_6)
          (try simp only [Act.put, List.setIfInBounds_toArray, List.set_cons_zero, List.set_cons_succ])
          refine wpAnyH_take (i := 7) (oi := op8_7) (v := ?_) rfl (by kernel_rfl) (by kernel_rfl) (by kernel_rfl) (fun _ _ _ h => h) (Or.inl ⟨by rfl, ?_⟩) (by assumption) ?_
          rotate_left 1
          · intro w' hSw; (try dsimp only at hSw); (try unfold op8_7); go_simp; (try with_reducible rfl)
          (try unfold op8_7)
          (try simp only [Act.put, List.setIfInBounds_toArray, List.set_cons_zero, List.set_cons_succ])
          refine wpAnyH_take (i := 8) (oi := op8_8) (v := ?_) rfl (by kernel_rfl) (by kernel_rfl) (by kernel_rfl) (fun _ _ _ h => h) (Or.inl ⟨by rfl, ?_⟩) (by assumption) ?_
          rotate_left 1
          · intro w' hSw; (try dsimp only at hSw); (try unfold op8_8); go_simp; (try with_reducible rfl)
          (try unfold op8_8)
          (try simp only [Act.put, List.setIfInBounds_toArray, List.set_cons_zero, List.set_cons_succ])
          exact key wr3 bw ew Aw Nw Kw At Nt Kt hC cw dw ow.top hlv_cw hlv_dw (by first | exact ne_w | exact Ne.symm ne_w) hHeld
        · (try unfold op8_9)
          refine step_alloc_v rfl 31 rfl _ zeroBk ?_
          intro bw wr4 hbw hwbw hBr4 cw
          have hlv_cw : w4.heap.size ≤ bw := Nat.le_trans hC.size hbw
          (try have ne_w := Nat.ne_of_lt (Nat.lt_of_lt_of_le dw.lt hbw))
          (try replace ot := ot.grow hBr4)
          (try replace ow := ow.grow hBr4)
          (try replace dw := vblk_grow dw hBr4)
          replace hC := hC.trans (hBr4.mono hC.size)
          refine hKC.out _ _ (⟨vblk_grow ca hC, vblk_grow cc hC⟩) (fun hHeld2 => ?_)
          clear hKC KC hHeld
          have hHeld := hHeld2
          clear hHeld2
          (try simp only [Act.put, List.setIfInBounds_toArray, List.set_cons_zero, List.set_cons_succ])
          refine wpAnyH_ready (rs := [3, 10]) (by kernel_rfl) (by simp) ?_
          refine AllReadyH.cons (o := op8_3) rfl (fun KC hKC => ?_) (AllReadyH.cons (o := op8_10) rfl (fun KC hKC => ?_) AllReadyH.nil)
          · (try unfold op8_3)
            go_simp
            go_at_call 10
            refine (htoC.out _).mono ?_
            rintro er wr2 ⟨rfl, hBr2⟩
            (try replace ot := ot.grow hBr2)
            (try replace ow := ow.grow hBr2)
            (try replace cw := vblk_grow cw hBr2)
            (try replace dw := vblk_grow dw hBr2)
            replace hC := hC.trans (hBr2.mono hC.size)
            refine hKC.out _ _ (⟨vblk_grow ca hC, vblk_grow cc hC⟩) (fun hHeld2 => ?_)
            clear hKC KC hHeld
            have hHeld := hHeld2
            clear hHeld2
            (try simp only [Act.put, List.setIfInBounds_toArray, List.set_cons_zero, List.set_cons_succ])
            refine wpAnyH_ready (rs := [5, 10]) (by kernel_rfl) (by simp) ?_
            refine AllReadyH.cons (o := op8_5) rfl (fun KC hKC => ?_) (AllReadyH.cons (o := op8_10) rfl (fun KC hKC => ?_) AllReadyH.nil)
            · (try unfold op8_5)
              go_simp
              go_at_call 8
              refine (hkS.out SMK.out hl hN1 hB1x _ _ ot.rd).mono ?_
              rintro er wr3 ⟨vw, rfl, ow, hBr3⟩
              obtain ⟨Aw, Nw, Kw, rfl⟩ := ow.slice
              replace ow := ow.wide (lo' := w4.heap.size) hC.size (Nat.le_refl _)
              (try replace ot := ot.grow hBr3)
              (try replace cw := vblk_grow cw hBr3)
              (try replace dw := vblk_grow dw hBr3)
              replace hC := hC.trans (hBr3.mono hC.size)
              refine hKC.out _ _ (⟨vblk_grow ca hC, vblk_grow cc hC⟩) (fun hHeld2 => ?_)
              clear hKC KC hHeld
              have hHeld := hHeld2
              clear hHeld2
              (try simp only [Act.put, List.setIfInBounds_toArray, List.set_cons_zero, List.set_cons_succ])
              refine wpAnyH_take (i := 6) (oi := op8_6) (v := ?_) rfl (by kernel_rfl) (by kernel_rfl) (by kernel_rfl) (fun _ _ _ h => h) (Or.inl ⟨by rfl, ?_⟩) (by assumption) ?_
              rotate_left 1
              · intro w' hSw; (try dsimp only at hSw); (try unfold op8_6); go_simp; (try with_reducible rfl)
              (try unfold op8_6)
              (try simp only [Act.put, List.setIfInBounds_toArray, List.set_cons_zero, List.set_cons_succ])
              refine wpAnyH_take (i := 7) (oi := op8_7) (v := ?_) rfl (by kernel_rfl) (by kernel_rfl) (by kernel_rfl) (fun _ _ _ h => h) (Or.inl ⟨by rfl, ?_⟩) (by assumption) ?_
              rotate_left 1
              · intro w' hSw; (try dsimp only at hSw); (try unfold op8_7); go_simp; (try with_reducible rfl)
              (try unfold op8_7)
              (try simp only [Act.put, List.setIfInBounds_toArray, List.set_cons_zero, List.set_cons_succ])
              refine wpAnyH_take (i := 8) (oi := op8_8) (v := ?_) rfl (by kernel_rfl) (by kernel_rfl) (by kernel_rfl) (fun _ _ _ h => h) (Or.inl ⟨by rfl, ?_⟩) (by assumption) ?_
              rotate_left 1
              · intro w' hSw; (try dsimp only at hSw); (try unfold op8_8); go_simp; (try with_reducible rfl)
              (try unfold op8_8)
              (try simp only [Act.put, List.setIfInBounds_toArray, List.set_cons_zero, List.set_cons_succ])
              refine wpAnyH_ready (rs := [10]) (by kernel_rfl) (by simp) ?_
              refine AllReadyH.cons (o := op8_10) rfl (fun KC hKC => ?_) AllReadyH.nil
              (try unfold op8_10)
              refine step_alloc_v rfl 33 rfl _ zeroRp ?_
              intro ew wr5 hew hwew hBr5 dw
              have hlv_dw : w4.heap.size ≤ ew := Nat.le_trans hC.size hew
              (try have ne_w := Nat.ne_of_lt (Nat.lt_of_lt_of_le cw.lt hew))
              (try replace ot := ot.grow hBr5)
              (try replace ow := ow.grow hBr5)
              (try replace cw := vblk_grow cw hBr5)
              replace hC := hC.trans (hBr5.mono hC.size)
              refine hKC.out _ _ (⟨vblk_grow ca hC, vblk_grow cc hC⟩) (fun hHeld2 => ?_)
              clear hKC KC hHeld
              have hHeld := hHeld2
              clear hHeld2
              (try simp only [Act.put, List.setIfInBounds_toArray, List.set_cons_zero, List.set_cons_succ])
              exact key wr5 bw ew Aw Nw Kw At Nt Kt hC cw dw ow.top hlv_cw hlv_dw (by first | exact ne_w | exact Ne.symm ne_w) hHeld
            (try unfold op8_10)
            refine step_alloc_v rfl 33 rfl _ zeroRp ?_
            intro ew wr5 hew hwew hBr5 dw
            have hlv_dw : w4.heap.size ≤ ew := Nat.le_trans hC.size hew
            (try have ne_w := Nat.ne_of_lt (Nat.lt_of_lt_of_le cw.lt hew))
            (try replace ot := ot.grow hBr5)
            (try replace ow := ow.grow hBr5)
            (try replace cw := vblk_grow cw hBr5)
            replace hC := hC.trans (hBr5.mono hC.size)
            refine hKC.out _ _ (⟨vblk_grow ca hC, vblk_grow cc hC⟩) (fun hHeld2 => ?_)
            clear hKC KC hHeld
            have hHeld := hHeld2
            clear hHeld2
            (try simp only [Act.put, List.setIfInBounds_toArray, List.set_cons_zero, List.set_cons_succ])
            refine wpAnyH_ready (rs := [5]) (by kernel_rfl) (by simp) ?_
            refine AllReadyH.cons (o := op8_5) rfl (fun KC hKC => ?_) AllReadyH.nil
            (try unfold op8_5)
            go_simp
            go_at_call 8
            refine (hkS.out SMK.out hl hN1 hB1x _ _ ot.rd).mono ?_
            rintro er wr3 ⟨vw, rfl, ow, hBr3⟩
            obtain ⟨Aw, Nw, Kw, rfl⟩ := ow.slice
            replace ow := ow.wide (lo' := w4.heap.size) hC.size (Nat.le_refl _)
            (try replace ot := ot.grow hBr3)
            (try replace cw := vblk_grow cw hBr3)
            (try replace dw := vblk_grow dw hBr3)
            replace hC := hC.trans (hBr3.mono hC.size)
            refine hKC.out _ _ (⟨vblk_grow ca hC, vblk_grow cc hC⟩) (fun hHeld2 => ?_)
            clear hKC KC hHeld
            have hHeld := hHeld2
            clear hHeld2
            (try simp only [Act.put, List.setIfInBounds_toArray, List.set_cons_zero, List.set_cons_succ])
            refine wpAnyH_take (i := 6) (oi := op8_6) (v := ?_) rfl (by kernel_rfl) (by kernel_rfl) (by kernel_rfl) (fun _ _ _ h => h) (Or.inl ⟨by rfl, ?_⟩) (by assumption) ?_
            rotate_left 1
            · intro w' hSw; (try dsimp only at hSw); (try unfold op8_6); go_simp; (try with_reducible rfl)
            (try unfold op8_6)
            (try simp only [Act.put, List.setIfInBounds_toArray, List.set_cons_zero, List.set_cons_succ])
            refine wpAnyH_take (i := 7) (oi := op8_7) (v := ?_) rfl (by kernel_rfl) (by kernel_rfl) (by kernel_rfl) (fun _ _ _ h => h) (Or.inl ⟨by rfl, ?_⟩) (by assumption) ?_
            rotate_left 1
            · intro w' hSw; (try dsimp only at hSw); (try unfold op8_7); go_simp; (try with_reducible rfl)
            (try unfold op8_7)
            (try simp only [Act.put, List.setIfInBounds_toArray, List.set_cons_zero, List.set_cons_succ])
            refine wpAnyH_take (i := 8) (oi := op8_8) (v := ?_) rfl (by kernel_rfl) (by kernel_rfl) (by kernel_rfl) (fun _ _ _ h => h) (Or.inl ⟨by rfl, ?_⟩) (by assumption) ?_
            rotate_left 1
            · intro w' hSw; (try dsimp only at hSw); (try unfold op8_8); go_simp; (try with_reducible rfl)
            (try unfold op8_8)
            (try simp only [Act.put, List.setIfInBounds_toArray, List.set_cons_zero, List.set_cons_succ])
            exact key wr3 bw ew Aw Nw Kw At Nt Kt hC cw dw ow.top hlv_cw hlv_dw (by first | exact ne_w | exact Ne.symm ne_w) hHeld
          (try unfold op8_10)
          refine step_alloc_v rfl 33 rfl _ zeroRp ?_
          intro ew wr5 hew hwew hBr5 dw
          have hlv_dw : w4.heap.size ≤ ew := Nat.le_trans hC.size hew
          (try have ne_w := Nat.ne_of_lt (Nat.lt_of_lt_of_le cw.lt hew))
          (try replace ot := ot.grow hBr5)
          (try replace ow := ow.grow hBr5)
          (try replace cw := vblk_grow cw hBr5)
          replace hC := hC.trans (hBr5.mono hC.size)
          refine hKC.out _ _ (⟨vblk_grow ca hC, vblk_grow cc hC⟩) (fun hHeld2 => ?_)
          clear hKC KC hHeld
          have hHeld := hHeld2
          clear hHeld2
          (try simp only [Act.put, List.setIfInBounds_toArray, List.set_cons_zero, List.set_cons_succ])
          refine wpAnyH_ready (rs := [3]) (by kernel_rfl) (by simp) ?_
          refine AllReadyH.cons (o := op8_3) rfl (fun KC hKC => ?_) AllReadyH.nil
          (try unfold op8_3)
          go_simp
          go_at_call 10
          refine (htoC.out _).mono ?_
          rintro er wr2 ⟨rfl, hBr2⟩
          (try replace ot := ot.grow hBr2)
          (try replace ow := ow.grow hBr2)
          (try replace cw := vblk_grow cw hBr2)
          (try replace dw := vblk_grow dw hBr2)
          replace hC := hC.trans (hBr2.mono hC.size)
          refine hKC.out _ _ (⟨vblk_grow ca hC, vblk_grow cc hC⟩) (fun hHeld2 => ?_)
          clear hKC KC hHeld
          have hHeld := hHeld2
          clear hHeld2
          (try simp only [Act.put, List.setIfInBounds_toArray, List.set_cons_zero, List.set_cons_succ])
          refine wpAnyH_ready (rs := [5]) (by kernel_rfl) (by simp) ?_
          refine AllReadyH.cons (o := op8_5) rfl (fun KC hKC => ?_) AllReadyH.nil
          (try unfold op8_5)
          go_simp
          go_at_call 8
          refine (hkS.out SMK.out hl hN1 hB1x _ _ ot.rd).mono ?_
          rintro er wr3 ⟨vw, rfl, ow, hBr3⟩
          obtain ⟨Aw, Nw, Kw, rfl⟩ := ow.slice
          replace ow := ow.wide (lo' := w4.heap.size) hC.size (Nat.le_refl _)
          (try replace ot := ot.grow hBr3)
          (try replace cw := vblk_grow cw hBr3)
          (try replace dw := vblk_grow dw hBr3)
          replace hC := hC.trans (hBr3.mono hC.size)
          refine hKC.out _ _ (⟨vblk_grow ca hC, vblk_grow cc hC⟩) (fun hHeld2 => ?_)
          clear hKC KC hHeld
          have hHeld := hHeld2
          clear hHeld2
          (try simp only [Act.put, List.setIfInBounds_toArray, List.set_cons_zero, List.set_cons_succ])
          refine wpAnyH_take (i := 6) (oi := op8_6) (v := ?_) rfl (by kernel_rfl) (by kernel_rfl) (by kernel_rfl) (fun _ _ _ h => h) (Or.inl ⟨by rfl, ?_⟩) (by assumption) ?_
          rotate_left 1
          · intro w' hSw; (try dsimp only at hSw); (try unfold op8_6); go_simp; (try with_reducible rfl)
          (try unfold op8_6)
          (try simp only [Act.put, List.setIfInBounds_toArray, List.set_cons_zero, List.set_cons_succ])
          refine wpAnyH_take (i := 7) (oi := op8_7) (v := ?_) rfl (by kernel_rfl) (by kernel_rfl) (by kernel_rfl) (fun _ _ _ h => h) (Or.inl ⟨by rfl, ?_⟩) (by assumption) ?_
          rotate_left 1
          · intro w' hSw; (try dsimp only at hSw); (try unfold op8_7); go_simp; (try with_reducible rfl)
          (try unfold op8_7)
          (try simp only [Act.put, List.setIfInBounds_toArray, List.set_cons_zero, List.set_cons_succ])
          refine wpAnyH_take (i := 8) (oi := op8_8) (v := ?_) rfl (by kernel_rfl) (by kernel_rfl) (by kernel_rfl) (fun _ _ _ h => h) (Or.inl ⟨by rfl, ?_⟩) (by assumption) ?_
          rotate_left 1
          · intro w' hSw; (try dsimp only at hSw); (try unfold op8_8); go_simp; (try with_reducible rfl)
          (try unfold op8_8)
          (try simp only [Act.put, List.setIfInBounds_toArray, List.set_cons_zero, List.set_cons_succ])
          exact key wr3 bw ew Aw Nw Kw At Nt Kt hC cw dw ow.top hlv_cw hlv_dw (by first | exact ne_w | exact Ne.symm ne_w) hHeld
        (try unfold op8_10)
        refine step_alloc_v rfl 33 rfl _ zeroRp ?_
        intro ew wr5 hew hwew hBr5 dw
        have hlv_dw : w4.heap.size ≤ ew := Nat.le_trans hC.size hew
        (try have ne_w := Nat.ne_of_lt (Nat.lt_of_lt_of_le cw.lt hew))
        (try replace ot := ot.grow hBr5)
        (try replace ow := ow.grow hBr5)
        (try replace cw := vblk_grow cw hBr5)
        replace hC := hC.trans (hBr5.mono hC.size)
        refine hKC.out _ _ (⟨vblk_grow ca hC, vblk_grow cc hC⟩) (fun hHeld2 => ?_)
        clear hKC KC hHeld
        have hHeld := hHeld2
        clear hHeld2
        (try simp only [Act.put, List.setIfInBounds_toArray, List.set_cons_zero, List.set_cons_succ])
        refine wpAnyH_ready (rs := [3, 9]) (by kernel_rfl) (by simp) ?_
        refine AllReadyH.cons (o := op8_3) rfl (fun KC hKC => ?_) (AllReadyH.cons (o := op8_9) rfl (fun KC hKC => ?_) AllReadyH.nil)
        · (try unfold op8_3)
          go_simp
          go_at_call 10
          refine (htoC.out _).mono ?_
          rintro er wr2 ⟨rfl, hBr2⟩
          (try replace ot := ot.grow hBr2)
          (try replace ow := ow.grow hBr2)
          (try replace cw := vblk_grow cw hBr2)
          (try replace dw := vblk_grow dw hBr2)
          replace hC := hC.trans (hBr2.mono hC.size)
          refine hKC.out _ _ (⟨vblk_grow ca hC, vblk_grow cc hC⟩) (fun hHeld2 => ?_)
          clear hKC KC hHeld
          have hHeld := hHeld2
          clear hHeld2
          (try simp only [Act.put, List.setIfInBounds_toArray, List.set_cons_zero, List.set_cons_succ])
          refine wpAnyH_ready (rs := [5, 9]) (by kernel_rfl) (by simp) ?_
          refine AllReadyH.cons (o := op8_5) rfl (fun KC hKC => ?_) (AllReadyH.cons (o := op8_9) rfl (fun KC hKC => ?_) AllReadyH.nil)
          · (try unfold op8_5)
            go_simp
            go_at_call 8
            refine (hkS.out SMK.out hl hN1 hB1x _ _ ot.rd).mono ?_
            rintro er wr3 ⟨vw, rfl, ow, hBr3⟩
            obtain ⟨Aw, Nw, Kw, rfl⟩ := ow.slice
            replace ow := ow.wide (lo' := w4.heap.size) hC.size (Nat.le_refl _)
            (try replace ot := ot.grow hBr3)
            (try replace cw := vblk_grow cw hBr3)
            (try replace dw := vblk_grow dw hBr3)
            replace hC := hC.trans (hBr3.mono hC.size)
            refine hKC.out _ _ (⟨vblk_grow ca hC, vblk_grow cc hC⟩) (fun hHeld2 => ?_)
            clear hKC KC hHeld
            have hHeld := hHeld2
            clear hHeld2
            (try simp only [Act.put, List.setIfInBounds_toArray, List.set_cons_zero, List.set_cons_succ])
            refine wpAnyH_take (i := 6) (oi := op8_6) (v := ?_) rfl (by kernel_rfl) (by kernel_rfl) (by kernel_rfl) (fun _ _ _ h => h) (Or.inl ⟨by rfl, ?_⟩) (by assumption) ?_
            rotate_left 1
            · intro w' hSw; (try dsimp only at hSw); (try unfold op8_6); go_simp; (try with_reducible rfl)
            (try unfold op8_6)
            (try simp only [Act.put, List.setIfInBounds_toArray, List.set_cons_zero, List.set_cons_succ])
            refine wpAnyH_take (i := 7) (oi := op8_7) (v := ?_) rfl (by kernel_rfl) (by kernel_rfl) (by kernel_rfl) (fun _ _ _ h => h) (Or.inl ⟨by rfl, ?_⟩) (by assumption) ?_
            rotate_left 1
            · intro w' hSw; (try dsimp only at hSw); (try unfold op8_7); go_simp; (try with_reducible rfl)
            (try unfold op8_7)
            (try simp only [Act.put, List.setIfInBounds_toArray, List.set_cons_zero, List.set_cons_succ])
            refine wpAnyH_take (i := 8) (oi := op8_8) (v := ?_) rfl (by kernel_rfl) (by kernel_rfl) (by kernel_rfl) (fun _ _ _ h => h) (Or.inl ⟨by rfl, ?_⟩) (by assumption) ?_
            rotate_left 1
            · intro w' hSw; (try dsimp only at hSw); (try unfold op8_8); go_simp; (try with_reducible rfl)
            (try unfold op8_8)
            (try simp only [Act.put, List.setIfInBounds_toArray, List.set_cons_zero, List.set_cons_succ])
            refine wpAnyH_ready (rs := [9]) (by kernel_rfl) (by simp) ?_
            refine AllReadyH.cons (o := op8_9) rfl (fun KC hKC => ?_) AllReadyH.nil
            (try unfold op8_9)
            refine step_alloc_v rfl 31 rfl _ zeroBk ?_
            intro bw wr4 hbw hwbw hBr4 cw
            have hlv_cw : w4.heap.size ≤ bw := Nat.le_trans hC.size hbw
            (try have ne_w := Nat.ne_of_lt (Nat.lt_of_lt_of_le dw.lt hbw))
            (try replace ot := ot.grow hBr4)
            (try replace ow := ow.grow hBr4)
            (try replace dw := vblk_grow dw hBr4)
            replace hC := hC.trans (hBr4.mono hC.size)
            refine hKC.out _ _ (⟨vblk_grow ca hC, vblk_grow cc hC⟩) (fun hHeld2 => ?_)
            clear hKC KC hHeld
            have hHeld := hHeld2
            clear hHeld2
            (try simp only [Act.put, List.setIfInBounds_toArray, List.set_cons_zero, List.set_cons_succ])
            exact key wr4 bw ew Aw Nw Kw At Nt Kt hC cw dw ow.top hlv_cw hlv_dw (by first | exact ne_w | exact Ne.symm ne_w) hHeld
          (try unfold op8_9)
          refine step_alloc_v rfl 31 rfl _ zeroBk ?_
          intro bw wr4 hbw hwbw hBr4 cw
          have hlv_cw : w4.heap.size ≤ bw := Nat.le_trans hC.size hbw
          (try have ne_w := Nat.ne_of_lt (Nat.lt_of_lt_of_le dw.lt hbw))
          (try replace ot := ot.grow hBr4)
          (try replace ow := ow.grow hBr4)
          (try replace dw := vblk_grow dw hBr4)
          replace hC := hC.trans (hBr4.mono hC.size)
          refine hKC.out _ _ (⟨vblk_grow ca hC, vblk_grow cc hC⟩) (fun hHeld2 => ?_)
          clear hKC KC hHeld
          have hHeld := hHeld2
          clear hHeld2
          (try simp only [Act.put, List.setIfInBounds_toArray, List.set_cons_zero, List.set_cons_succ])
          refine wpAnyH_ready (rs := [5]) (by kernel_rfl) (by simp) ?_
          refine AllReadyH.cons (o := op8_5) rfl (fun KC hKC => ?_) AllReadyH.nil
          (try unfold op8_5)
          go_simp
          go_at_call 8
          refine (hkS.out SMK.out hl hN1 hB1x _ _ ot.rd).mono ?_
          rintro er wr3 ⟨vw, rfl, ow, hBr3⟩
          obtain ⟨Aw, Nw, Kw, rfl⟩ := ow.slice
          replace ow := ow.wide (lo' := w4.heap.size) hC.size (Nat.le_refl _)
          (try replace ot := ot.grow hBr3)
          (try replace cw := vblk_grow cw hBr3)
          (try replace dw := vblk_grow dw hBr3)
          replace hC := hC.trans (hBr3.mono hC.size)
          refine hKC.out _ _ (⟨vblk_grow ca hC, vblk_grow cc hC⟩) (fun hHeld2 => ?_)
          clear hKC KC hHeld
          have hHeld := hHeld2
          clear hHeld2
          (try simp only [Act.put, List.setIfInBounds_toArray, List.set_cons_zero, List.set_cons_succ])
          refine wpAnyH_take (i := 6) (oi := op8_6) (v := ?_) rfl (by kernel_rfl) (by kernel_rfl) (by kernel_rfl) (fun _ _ _ h => h) (Or.inl ⟨by rfl, ?_⟩) (by assumption) ?_
          rotate_left 1
          · intro w' hSw; (try dsimp only at hSw); (try unfold op8_6); go_simp; (try with_reducible rfl)
          (try unfold op8_6)
          (try simp only [Act.put, List.setIfInBounds_toArray, List.set_cons_zero, List.set_cons_succ])
          refine wpAnyH_take (i := 7) (oi := op8_7) (v := ?_) rfl (by kernel_rfl) (by kernel_rfl) (by kernel_rfl) (fun _ _ _ h => h) (Or.inl ⟨by rfl, ?_⟩) (by assumption) ?_
          rotate_left 1
          · intro w' hSw; (try dsimp only at hSw); (try unfold op8_7); go_simp; (try with_reducible rfl)
          (try unfold op8_7)
          (try simp only [Act.put, List.setIfInBounds_toArray, List.set_cons_zero, List.set_cons_succ])
          refine wpAnyH_take (i := 8) (oi := op8_8) (v := ?_) rfl (by kernel_rfl) (by kernel_rfl) (by kernel_rfl) (fun _ _ _ h => h) (Or.inl ⟨by rfl, ?_⟩) (by assumption) ?_
          rotate_left 1
          · intro w' hSw; (try dsimp only at hSw); (try unfold op8_8); go_simp; (try with_reducible rfl)
          (try unfold op8_8)
          (try simp only [Act.put, List.setIfInBounds_toArray, List.set_cons_zero, List.set_cons_succ])
          exact key wr3 bw ew Aw Nw Kw At Nt Kt hC cw dw ow.top hlv_cw hlv_dw (by first | exact ne_w | exact Ne.symm ne_w) hHeld
        (try unfold op8_9)
        refine step_alloc_v rfl 31 rfl _ zeroBk ?_
        intro bw wr4 hbw hwbw hBr4 cw
        have hlv_cw : w4.heap.size ≤ bw := Nat.le_trans hC.size hbw
        (try have ne_w := Nat.ne_of_lt (Nat.lt_of_lt_of_le dw.lt hbw))
        (try replace ot := ot.grow hBr4)
        (try replace ow := ow.grow hBr4)
        (try replace dw := vblk_grow dw hBr4)
        replace hC := hC.trans (hBr4.mono hC.size)
        refine hKC.out _ _ (⟨vblk_grow ca hC, vblk_grow cc hC⟩) (fun hHeld2 => ?_)
        clear hKC KC hHeld
        have hHeld := hHeld2
        clear hHeld2
        (try simp only [Act.put, List.setIfInBounds_toArray, List.set_cons_zero, List.set_cons_succ])
        refine wpAnyH_ready (rs := [3]) (by kernel_rfl) (by simp) ?_
        refine AllReadyH.cons (o := op8_3) rfl (fun KC hKC => ?_) AllReadyH.nil
        (try unfold op8_3)
        go_simp
        go_at_call 10
        refine (htoC.out _).mono ?_
        rintro er wr2 ⟨rfl, hBr2⟩
        (try replace ot := ot.grow hBr2)
        (try replace ow := ow.grow hBr2)
        (try replace cw := vblk_grow cw hBr2)
        (try replace dw := vblk_grow dw hBr2)
        replace hC := hC.trans (hBr2.mono hC.size)
        refine hKC.out _ _ (⟨vblk_grow ca hC, vblk_grow cc hC⟩) (fun hHeld2 => ?_)
        clear hKC KC hHeld
        have hHeld := hHeld2
        clear hHeld2
        (try simp only [Act.put, List.setIfInBounds_toArray, List.set_cons_zero, List.set_cons_succ])
        refine wpAnyH_ready (rs := [5]) (by kernel_rfl) (by simp) ?_
        refine AllReadyH.cons (o := op8_5) rfl (fun KC hKC => ?_) AllReadyH.nil
        (try unfold op8_5)
        go_simp
        go_at_call 8
        refine (hkS.out SMK.out hl hN1 hB1x _ _ ot.rd).mono ?_
        rintro er wr3 ⟨vw, rfl, ow, hBr3⟩
        obtain ⟨Aw, Nw, Kw, rfl⟩ := ow.slice
        replace ow := ow.wide (lo' := w4.heap.size) hC.size (Nat.le_refl _)
        (try replace ot := ot.grow hBr3)
        (try replace cw := vblk_grow cw hBr3)
        (try replace dw := vblk_grow dw hBr3)
        replace hC := hC.trans (hBr3.mono hC.size)
        refine hKC.out _ _ (⟨vblk_grow ca hC, vblk_grow cc hC⟩) (fun hHeld2 => ?_)
        clear hKC KC hHeld
        have hHeld := hHeld2
        clear hHeld2
        (try simp only [Act.put, List.setIfInBounds_toArray, List.set_cons_zero, List.set_cons_succ])
        refine wpAnyH_take (i := 6) (oi := op8_6) (v := ?_) rfl (by kernel_rfl) (by kernel_rfl) (by kernel_rfl) (fun _ _ _ h => h) (Or.inl ⟨by rfl, ?_⟩) (by assumption) ?_
        rotate_left 1
        · intro w' hSw; (try dsimp only at hSw); (try unfold op8_6); go_simp; (try with_reducible rfl)
        (try unfold op8_6)
        (try simp only [Act.put, List.setIfInBounds_toArray, List.set_cons_zero, List.set_cons_succ])
        refine wpAnyH_take (i := 7) (oi := op8_7) (v := ?_) rfl (by kernel_rfl) (by kernel_rfl) (by kernel_rfl) (fun _ _ _ h => h) (Or.inl ⟨by rfl, ?_⟩) (by assumption) ?_
        rotate_left 1
        · intro w' hSw; (try dsimp only at hSw); (try unfold op8_7); go_simp; (try with_reducible rfl)
        (try unfold op8_7)
        (try simp only [Act.put, List.setIfInBounds_toArray, List.set_cons_zero, List.set_cons_succ])
        refine wpAnyH_take (i := 8) (oi := op8_8) (v := ?_) rfl (by kernel_rfl) (by kernel_rfl) (by kernel_rfl) (fun _ _ _ h => h) (Or.inl ⟨by rfl, ?_⟩) (by assumption) ?_
        rotate_left 1
        · intro w' hSw; (try dsimp only at hSw); (try unfold op8_8); go_simp; (try with_reducible rfl)
        (try unfold op8_8)
        (try simp only [Act.put, List.setIfInBounds_toArray, List.set_cons_zero, List.set_cons_succ])
        exact key wr3 bw ew Aw Nw Kw At Nt Kt hC cw dw ow.top hlv_cw hlv_dw (by first | exact ne_w | exact Ne.symm ne_w) hHeld
      · (try unfold op8_9)
        refine step_alloc_v rfl 31 rfl _ zeroBk ?_
        intro bw wr4 hbw hwbw hBr4 cw
        have hlv_cw : w4.heap.size ≤ bw := Nat.le_trans hC.size hbw
        (try have ne_w := Nat.ne_of_lt (Nat.lt_of_lt_of_le dw.lt hbw))
        (try replace ot := ot.grow hBr4)
        (try replace ow := ow.grow hBr4)
        (try replace dw := vblk_grow dw hBr4)
        replace hC := hC.trans (hBr4.mono hC.size)
        refine hKC.out _ _ (⟨vblk_grow ca hC, vblk_grow cc hC⟩) (fun hHeld2 => ?_)
        clear hKC KC hHeld
        have hHeld := hHeld2
        clear hHeld2
        (try simp only [Act.put, List.setIfInBounds_toArray, List.set_cons_zero, List.set_cons_succ])
        refine wpAnyH_ready (rs := [1, 10]) (by kernel_rfl) (by simp) ?_
        refine AllReadyH.cons (o := op8_1) rfl (fun KC hKC => ?_) (AllReadyH.cons (o := op8_10) rfl (fun KC hKC => ?_) AllReadyH.nil)
        · (try unfold op8_1)
          go_simp
          go_at_call 9
          refine (toBook_any I X _ _ (R.out.grow (hB.trans (hC.mono hB.size))) hl).mono ?_
          rintro er wr1 ⟨vt, rfl, ot, hBr1⟩
          obtain ⟨At, Nt, Kt, rfl⟩ := ot.slice
          (try replace ow := ow.grow hBr1)
          (try replace cw := vblk_grow cw hBr1)
          (try replace dw := vblk_grow dw hBr1)
          replace hC := hC.trans (hBr1.mono hC.size)
          refine hKC.out _ _ (⟨vblk_grow ca hC, vblk_grow cc hC⟩) (fun hHeld2 => ?_)
          clear hKC KC hHeld
          have hHeld := hHeld2
          clear hHeld2
          (try simp only [Act.put, List.setIfInBounds_toArray, List.set_cons_zero, List.set_cons_succ])
          refine wpAnyH_ready (rs := [3, 10]) (by kernel_rfl) (by simp) ?_
          refine AllReadyH.cons (o := op8_3) rfl (fun KC hKC => ?_) (AllReadyH.cons (o := op8_10) rfl (fun KC hKC => ?_) AllReadyH.nil)
          · (try unfold op8_3)
            go_simp
            go_at_call 10
            refine (htoC.out _).mono ?_
            rintro er wr2 ⟨rfl, hBr2⟩
            (try replace ot := ot.grow hBr2)
            (try replace ow := ow.grow hBr2)
            (try replace cw := vblk_grow cw hBr2)
            (try replace dw := vblk_grow dw hBr2)
            replace hC := hC.trans (hBr2.mono hC.size)
            refine hKC.out _ _ (⟨vblk_grow ca hC, vblk_grow cc hC⟩) (fun hHeld2 => ?_)
            clear hKC KC hHeld
            have hHeld := hHeld2
            clear hHeld2
            (try simp only [Act.put, List.setIfInBounds_toArray, List.set_cons_zero, List.set_cons_succ])
            refine wpAnyH_ready (rs := [5, 10]) (by kernel_rfl) (by simp) ?_
            refine AllReadyH.cons (o := op8_5) rfl (fun KC hKC => ?_) (AllReadyH.cons (o := op8_10) rfl (fun KC hKC => ?_) AllReadyH.nil)
            · (try unfold op8_5)
              go_simp
              go_at_call 8
              refine (hkS.out SMK.out hl hN1 hB1x _ _ ot.rd).mono ?_
              rintro er wr3 ⟨vw, rfl, ow, hBr3⟩
              obtain ⟨Aw, Nw, Kw, rfl⟩ := ow.slice
              replace ow := ow.wide (lo' := w4.heap.size) hC.size (Nat.le_refl _)
              (try replace ot := ot.grow hBr3)
              (try replace cw := vblk_grow cw hBr3)
              (try replace dw := vblk_grow dw hBr3)
              replace hC := hC.trans (hBr3.mono hC.size)
              refine hKC.out _ _ (⟨vblk_grow ca hC, vblk_grow cc hC⟩) (fun hHeld2 => ?_)
              clear hKC KC hHeld
              have hHeld := hHeld2
              clear hHeld2
              (try simp only [Act.put, List.setIfInBounds_toArray, List.set_cons_zero, List.set_cons_succ])
              refine wpAnyH_take (i := 6) (oi := op8_6) (v := ?_) rfl (by kernel_rfl) (by kernel_rfl) (by kernel_rfl) (fun _ _ _ h => h) (Or.inl ⟨by rfl, ?_⟩) (by assumption) ?_
              rotate_left 1
              · intro w' hSw; (try dsimp only at hSw); (try unfold op8_6); go_simp; (try with_reducible rfl)
              (try unfold op8_6)
              (try simp only [Act.put, List.setIfInBounds_toArray, List.set_cons_zero, List.set_cons_succ])
              refine wpAnyH_take (i := 7) (oi := op8_7) (v := ?_) rfl (by kernel_rfl) (by kernel_rfl) (by kernel_rfl) (fun _ _ _ h => h) (Or.inl ⟨by rfl, ?_⟩) (by assumption) ?_
              rotate_left 1
              · intro w' hSw; (try dsimp only at hSw); (try unfold op8_7); go_simp; (try with_reducible rfl)
              (try unfold op8_7)
              (try simp only [Act.put, List.setIfInBounds_toArray, List.set_cons_zero, List.set_cons_succ])
              refine wpAnyH_take (i := 8) (oi := op8_8) (v := ?_) rfl (by kernel_rfl) (by kernel_rfl) (by kernel_rfl) (fun _ _ _ h => h) (Or.inl ⟨by rfl, ?_⟩) (by assumption) ?_
              rotate_left 1
              · intro w' hSw; (try dsimp only at hSw); (try unfold op8_8); go_simp; (try with_reducible rfl)
              (try unfold op8_8)
              (try simp only [Act.put, List.setIfInBounds_toArray, List.set_cons_zero, List.set_cons_succ])
              refine wpAnyH_ready (rs := [10]) (by kernel_rfl) (by simp) ?_
              refine AllReadyH.cons (o := op8_10) rfl (fun KC hKC => ?_) AllReadyH.nil
              (try unfold op8_10)
              refine step_alloc_v rfl 33 rfl _ zeroRp ?_
              intro ew wr5 hew hwew hBr5 dw
              have hlv_dw : w4.heap.size ≤ ew := Nat.le_trans hC.size hew
              (try have ne_w := Nat.ne_of_lt (Nat.lt_of_lt_of_le cw.lt hew))
              (try replace ot := ot.grow hBr5)
              (try replace ow := ow.grow hBr5)
              (try replace cw := vblk_grow cw hBr5)
              replace hC := hC.trans (hBr5.mono hC.size)
              refine hKC.out _ _ (⟨vblk_grow ca hC, vblk_grow cc hC⟩) (fun hHeld2 => ?_)
              clear hKC KC hHeld
              have hHeld := hHeld2
              clear hHeld2
              (try simp only [Act.put, List.setIfInBounds_toArray, List.set_cons_zero, List.set_cons_succ])
              exact key wr5 bw ew Aw Nw Kw At Nt Kt hC cw dw ow.top hlv_cw hlv_dw (by first | exact ne_w | exact Ne.symm ne_w) hHeld
            (try unfold op8_10)
            refine step_alloc_v rfl 33 rfl _ zeroRp ?_
            intro ew wr5 hew hwew hBr5 dw
            have hlv_dw : w4.heap.size ≤ ew := Nat.le_trans hC.size hew
            (try have ne_w := Nat.ne_of_lt (Nat.lt_of_lt_of_le cw.lt hew))
            (try replace ot := ot.grow hBr5)
            (try replace ow := ow.grow hBr5)
            (try replace cw := vblk_grow cw hBr5)
            replace hC := hC.trans (hBr5.mono hC.size)
            refine hKC.out _ _ (⟨vblk_grow ca hC, vblk_grow cc hC⟩) (fun hHeld2 => ?_)
            clear hKC KC hHeld
            have hHeld := hHeld2
            clear hHeld2
            (try simp only [Act.put, List.setIfInBounds_toArray, List.set_cons_zero, List.set_cons_succ])
            refine wpAnyH_ready (rs := [5]) (by kernel_rfl) (by simp) ?_
            refine AllReadyH.cons (o := op8_5) rfl (fun KC hKC => ?_) AllReadyH.nil
            (try unfold op8_5)
            go_simp
            go_at_call 8
            refine (hkS.out SMK.out hl hN1 hB1x _ _ ot.rd).mono ?_
            rintro er wr3 ⟨vw, rfl, ow, hBr3⟩
            obtain ⟨Aw, Nw, Kw, rfl⟩ := ow.slice
            replace ow := ow.wide (lo' := w4.heap.size) hC.size (Nat.le_refl _)
            (try replace ot := ot.grow hBr3)
            (try replace cw := vblk_grow cw hBr3)
            (try replace dw := vblk_grow dw hBr3)
            replace hC := hC.trans (hBr3.mono hC.size)
            refine hKC.out _ _ (⟨vblk_grow ca hC, vblk_grow cc hC⟩) (fun hHeld2 => ?_)
            clear hKC KC hHeld
            have hHeld := hHeld2
            clear hHeld2
            (try simp only [Act.put, List.setIfInBounds_toArray, List.set_cons_zero, List.set_cons_succ])
            refine wpAnyH_take (i := 6) (oi := op8_6) (v := ?_) rfl (by kernel_rfl) (by kernel_rfl) (by kernel_rfl) (fun _ _ _ h => h) (Or.inl ⟨by rfl, ?_⟩) (by assumption) ?_
            rotate_left 1
            · intro w' hSw; (try dsimp only at hSw); (try unfold op8_6); go_simp; (try with_reducible rfl)
            (try unfold op8_6)
            (try simp only [Act.put, List.setIfInBounds_toArray, List.set_cons_zero, List.set_cons_succ])
            refine wpAnyH_take (i := 7) (oi := op8_7) (v := ?_) rfl (by kernel_rfl) (by kernel_rfl) (by kernel_rfl) (fun _ _ _ h => h) (Or.inl ⟨by rfl, ?_⟩) (by assumption) ?_
            rotate_left 1
            · intro w' hSw; (try dsimp only at hSw); (try unfold op8_7); go_simp; (try with_reducible rfl)
            (try unfold op8_7)
            (try simp only [Act.put, List.setIfInBounds_toArray, List.set_cons_zero, List.set_cons_succ])
            refine wpAnyH_take (i := 8) (oi := op8_8) (v := ?_) rfl (by kernel_rfl) (by kernel_rfl) (by kernel_rfl) (fun _ _ _ h => h) (Or.inl ⟨by rfl, ?_⟩) (by assumption) ?_
            rotate_left 1
            · intro w' hSw; (try dsimp only at hSw); (try unfold op8_8); go_simp; (try with_reducible rfl)
            (try unfold op8_8)
            (try simp only [Act.put, List.setIfInBounds_toArray, List.set_cons_zero, List.set_cons_succ])
            exact key wr3 bw ew Aw Nw Kw At Nt Kt hC cw dw ow.top hlv_cw hlv_dw (by first | exact ne_w | exact Ne.symm ne_w) hHeld
          (try unfold op8_10)
          refine step_alloc_v rfl 33 rfl _ zeroRp ?_
          intro ew wr5 hew hwew hBr5 dw
          have hlv_dw : w4.heap.size ≤ ew := Nat.le_trans hC.size hew
          (try have ne_w := Nat.ne_of_lt (Nat.lt_of_lt_of_le cw.lt hew))
          (try replace ot := ot.grow hBr5)
          (try replace ow := ow.grow hBr5)
          (try replace cw := vblk_grow cw hBr5)
          replace hC := hC.trans (hBr5.mono hC.size)
          refine hKC.out _ _ (⟨vblk_grow ca hC, vblk_grow cc hC⟩) (fun hHeld2 => ?_)
          clear hKC KC hHeld
          have hHeld := hHeld2
          clear hHeld2
          (try simp only [Act.put, List.setIfInBounds_toArray, List.set_cons_zero, List.set_cons_succ])
          refine wpAnyH_ready (rs := [3]) (by kernel_rfl) (by simp) ?_
          refine AllReadyH.cons (o := op8_3) rfl (fun KC hKC => ?_) AllReadyH.nil
          (try unfold op8_3)
          go_simp
          go_at_call 10
          refine (htoC.out _).mono ?_
          rintro er wr2 ⟨rfl, hBr2⟩
          (try replace ot := ot.grow hBr2)
          (try replace ow := ow.grow hBr2)
          (try replace cw := vblk_grow cw hBr2)
          (try replace dw := vblk_grow dw hBr2)
          replace hC := hC.trans (hBr2.mono hC.size)
          refine hKC.out _ _ (⟨vblk_grow ca hC, vblk_grow cc hC⟩) (fun hHeld2 => ?_)
          clear hKC KC hHeld
          have hHeld := hHeld2
          clear hHeld2
          (try simp only [Act.put, List.setIfInBounds_toArray, List.set_cons_zero, List.set_cons_succ])
          refine wpAnyH_ready (rs := [5]) (by kernel_rfl) (by simp) ?_
          refine AllReadyH.cons (o := op8_5) rfl (fun KC hKC => ?_) AllReadyH.nil
          (try unfold op8_5)
          go_simp
          go_at_call 8
          refine (hkS.out SMK.out hl hN1 hB1x _ _ ot.rd).mono ?_
          rintro er wr3 ⟨vw, rfl, ow, hBr3⟩
          obtain ⟨Aw, Nw, Kw, rfl⟩ := ow.slice
          replace ow := ow.wide (lo' := w4.heap.size) hC.size (Nat.le_refl _)
          (try replace ot := ot.grow hBr3)
          (try replace cw := vblk_grow cw hBr3)
          (try replace dw := vblk_grow dw hBr3)
          replace hC := hC.trans (hBr3.mono hC.size)
          refine hKC.out _ _ (⟨vblk_grow ca hC, vblk_grow cc hC⟩) (fun hHeld2 => ?_)
          clear hKC KC hHeld
          have hHeld := hHeld2
          clear hHeld2
          (try simp only [Act.put, List.setIfInBounds_toArray, List.set_cons_zero, List.set_cons_succ])
          refine wpAnyH_take (i := 6) (oi := op8_6) (v := ?_) rfl (by kernel_rfl) (by kernel_rfl) (by kernel_rfl) (fun _ _ _ h => h) (Or.inl ⟨by rfl, ?_⟩) (by assumption) ?_
          rotate_left 1
          · intro w' hSw; (try dsimp only at hSw); (try unfold op8_6); go_simp; (try with_reducible rfl)
          (try unfold op8_6)
          (try simp only [Act.put, List.setIfInBounds_toArray, List.set_cons_zero, List.set_cons_succ])
          refine wpAnyH_take (i := 7) (oi := op8_7) (v := ?_) rfl (by kernel_rfl) (by kernel_rfl) (by kernel_rfl) (fun _ _ _ h => h) (Or.inl ⟨by rfl, ?_⟩) (by assumption) ?_
          rotate_left 1
          · intro w' hSw; (try dsimp only at hSw); (try unfold op8_7); go_simp; (try with_reducible rfl)
          (try unfold op8_7)
          (try simp only [Act.put, List.setIfInBounds_toArray, List.set_cons_zero, List.set_cons_succ])
          refine wpAnyH_take (i := 8) (oi := op8_8) (v := ?_) rfl (by kernel_rfl) (by kernel_rfl) (by kernel_rfl) (fun _ _ _ h => h) (Or.inl ⟨by rfl, ?_⟩) (by assumption) ?_
          rotate_left 1
          · intro w' hSw; (try dsimp only at hSw); (try unfold op8_8); go_simp; (try with_reducible rfl)
          (try unfold op8_8)
          (try simp only [Act.put, List.setIfInBounds_toArray, List.set_cons_zero, List.set_cons_succ])
          exact key wr3 bw ew Aw Nw Kw At Nt Kt hC cw dw ow.top hlv_cw hlv_dw (by first | exact ne_w | exact Ne.symm ne_w) hHeld
        (try unfold op8_10)
        refine step_alloc_v rfl 33 rfl _ zeroRp ?_
        intro ew wr5 hew hwew hBr5 dw
        have hlv_dw : w4.heap.size ≤ ew := Nat.le_trans hC.size hew
        (try have ne_w := Nat.ne_of_lt (Nat.lt_of_lt_of_le cw.lt hew))
        (try replace ot := ot.grow hBr5)
        (try replace ow := ow.grow hBr5)
        (try replace cw := vblk_grow cw hBr5)
        replace hC := hC.trans (hBr5.mono hC.size)
        refine hKC.out _ _ (⟨vblk_grow ca hC, vblk_grow cc hC⟩) (fun hHeld2 => ?_)
        clear hKC KC hHeld
        have hHeld := hHeld2
        clear hHeld2
        (try simp only [Act.put, List.setIfInBounds_toArray, List.set_cons_zero, List.set_cons_succ])
        refine wpAnyH_ready (rs := [1]) (by kernel_rfl) (by simp) ?_
        refine AllReadyH.cons (o := op8_1) rfl (fun KC hKC => ?_) AllReadyH.nil
        (try unfold op8_1)
        go_simp
        go_at_call 9
        refine (toBook_any I X _ _ (R.out.grow (hB.trans (hC.mono hB.size))) hl).mono ?_
        rintro er wr1 ⟨vt, rfl, ot, hBr1⟩
        obtain ⟨At, Nt, Kt, rfl⟩ := ot.slice
        (try replace ow := ow.grow hBr1)
        (try replace cw := vblk_grow cw hBr1)
        (try replace dw := vblk_grow dw hBr1)
        replace hC := hC.trans (hBr1.mono hC.size)
        refine hKC.out _ _ (⟨vblk_grow ca hC, vblk_grow cc hC⟩) (fun hHeld2 => ?_)
        clear hKC KC hHeld
        have hHeld := hHeld2
        clear hHeld2
        (try simp only [Act.put, List.setIfInBounds_toArray, List.set_cons_zero, List.set_cons_succ])
        refine wpAnyH_ready (rs := [3]) (by kernel_rfl) (by simp) ?_
        refine AllReadyH.cons (o := op8_3) rfl (fun KC hKC => ?_) AllReadyH.nil
        (try unfold op8_3)
        go_simp
        go_at_call 10
        refine (htoC.out _).mono ?_
        rintro er wr2 ⟨rfl, hBr2⟩
        (try replace ot := ot.grow hBr2)
        (try replace ow := ow.grow hBr2)
        (try replace cw := vblk_grow cw hBr2)
        (try replace dw := vblk_grow dw hBr2)
        replace hC := hC.trans (hBr2.mono hC.size)
        refine hKC.out _ _ (⟨vblk_grow ca hC, vblk_grow cc hC⟩) (fun hHeld2 => ?_)
        clear hKC KC hHeld
        have hHeld := hHeld2
        clear hHeld2
        (try simp only [Act.put, List.setIfInBounds_toArray, List.set_cons_zero, List.set_cons_succ])
        refine wpAnyH_ready (rs := [5]) (by kernel_rfl) (by simp) ?_
        refine AllReadyH.cons (o := op8_5) rfl (fun KC hKC => ?_) AllReadyH.nil
        (try unfold op8_5)
        go_simp
        go_at_call 8
        refine (hkS.out SMK.out hl hN1 hB1x _ _ ot.rd).mono ?_
        rintro er wr3 ⟨vw, rfl, ow, hBr3⟩
        obtain ⟨Aw, Nw, Kw, rfl⟩ := ow.slice
        replace ow := ow.wide (lo' := w4.heap.size) hC.size (Nat.le_refl _)
        (try replace ot := ot.grow hBr3)
        (try replace cw := vblk_grow cw hBr3)
        (try replace dw := vblk_grow dw hBr3)
        replace hC := hC.trans (hBr3.mono hC.size)
        refine hKC.out _ _ (⟨vblk_grow ca hC, vblk_grow cc hC⟩) (fun hHeld2 => ?_)
        clear hKC KC hHeld
        have hHeld := hHeld2
        clear hHeld2
        (try simp only [Act.put, List.setIfInBounds_toArray, List.set_cons_zero, List.set_cons_succ])
        refine wpAnyH_take (i := 6) (oi := op8_6) (v := ?_) rfl (by kernel_rfl) (by kernel_rfl) (by kernel_rfl) (fun _ _ _ h => h) (Or.inl ⟨by rfl, ?_⟩) (by assumption) ?_
        rotate_left 1
        · intro w' hSw; (try dsimp only at hSw); (try unfold op8_6); go_simp; (try with_reducible rfl)
        (try unfold op8_6)
        (try simp only [Act.put, List.setIfInBounds_toArray, List.set_cons_zero, List.set_cons_succ])
        refine wpAnyH_take (i := 7) (oi := op8_7) (v := ?_) rfl (by kernel_rfl) (by kernel_rfl) (by kernel_rfl) (fun _ _ _ h => h) (Or.inl ⟨by rfl, ?_⟩) (by assumption) ?_
        rotate_left 1
        · intro w' hSw; (try dsimp only at hSw); (try unfold op8_7); go_simp; (try with_reducible rfl)
        (try unfold op8_7)
        (try simp only [Act.put, List.setIfInBounds_toArray, List.set_cons_zero, List.set_cons_succ])
        refine wpAnyH_take (i := 8) (oi := op8_8) (v := ?_) rfl (by kernel_rfl) (by kernel_rfl) (by kernel_rfl) (fun _ _ _ h => h) (Or.inl ⟨by rfl, ?_⟩) (by assumption) ?_
        rotate_left 1
        · intro w' hSw; (try dsimp only at hSw); (try unfold op8_8); go_simp; (try with_reducible rfl)
        (try unfold op8_8)
        (try simp only [Act.put, List.setIfInBounds_toArray, List.set_cons_zero, List.set_cons_succ])
        exact key wr3 bw ew Aw Nw Kw At Nt Kt hC cw dw ow.top hlv_cw hlv_dw (by first | exact ne_w | exact Ne.symm ne_w) hHeld
      (try unfold op8_10)
      refine step_alloc_v rfl 33 rfl _ zeroRp ?_
      intro ew wr5 hew hwew hBr5 dw
      have hlv_dw : w4.heap.size ≤ ew := Nat.le_trans hC.size hew
      (try have ne_w := Nat.ne_of_lt (Nat.lt_of_lt_of_le cw.lt hew))
      (try replace ot := ot.grow hBr5)
      (try replace ow := ow.grow hBr5)
      (try replace cw := vblk_grow cw hBr5)
      replace hC := hC.trans (hBr5.mono hC.size)
      refine hKC.out _ _ (⟨vblk_grow ca hC, vblk_grow cc hC⟩) (fun hHeld2 => ?_)
      clear hKC KC hHeld
      have hHeld := hHeld2
      clear hHeld2
      (try simp only [Act.put, List.setIfInBounds_toArray, List.set_cons_zero, List.set_cons_succ])
      refine wpAnyH_ready (rs := [1, 9]) (by kernel_rfl) (by simp) ?_
      refine AllReadyH.cons (o := op8_1) rfl (fun KC hKC => ?_) (AllReadyH.cons (o := op8_9) rfl (fun KC hKC => ?_) AllReadyH.nil)
      · (try unfold op8_1)
        go_simp
        go_at_call 9
        refine (toBook_any I X _ _ (R.out.grow (hB.trans (hC.mono hB.size))) hl).mono ?_
        rintro er wr1 ⟨vt, rfl, ot, hBr1⟩
        obtain ⟨At, Nt, Kt, rfl⟩ := ot.slice
        (try replace ow := ow.grow hBr1)
        (try replace cw := vblk_grow cw hBr1)
        (try replace dw := vblk_grow dw hBr1)
        replace hC := hC.trans (hBr1.mono hC.size)
        refine hKC.out _ _ (⟨vblk_grow ca hC, vblk_grow cc hC⟩) (fun hHeld2 => ?_)
        clear hKC KC hHeld
        have hHeld := hHeld2
        clear hHeld2
        (try simp only [Act.put, List.setIfInBounds_toArray, List.set_cons_zero, List.set_cons_succ])
        refine wpAnyH_ready (rs := [3, 9]) (by kernel_rfl) (by simp) ?_
        refine AllReadyH.cons (o := op8_3) rfl (fun KC hKC => ?_) (AllReadyH.cons (o := op8_9) rfl (fun KC hKC => ?_) AllReadyH.nil)
        · (try unfold op8_3)
          go_simp
          go_at_call 10
          refine (htoC.out _).mono ?_
          rintro er wr2 ⟨rfl, hBr2⟩
          (try replace ot := ot.grow hBr2)
          (try replace ow := ow.grow hBr2)
          (try replace cw := vblk_grow cw hBr2)
          (try replace dw := vblk_grow dw hBr2)
          replace hC := hC.trans (hBr2.mono hC.size)
          refine hKC.out _ _ (⟨vblk_grow ca hC, vblk_grow cc hC⟩) (fun hHeld2 => ?_)
          clear hKC KC hHeld
          have hHeld := hHeld2
          clear hHeld2
          (try simp only [Act.put, List.setIfInBounds_toArray, List.set_cons_zero, List.set_cons_succ])
          refine wpAnyH_ready (rs := [5, 9]) (by kernel_rfl) (by simp) ?_
          refine AllReadyH.cons (o := op8_5) rfl (fun KC hKC => ?_) (AllReadyH.cons (o := op8_9) rfl (fun KC hKC => ?_) AllReadyH.nil)
          · (try unfold op8_5)
            go_simp
            go_at_call 8
            refine (hkS.out SMK.out hl hN1 hB1x _ _ ot.rd).mono ?_
            rintro er wr3 ⟨vw, rfl, ow, hBr3⟩
            obtain ⟨Aw, Nw, Kw, rfl⟩ := ow.slice
            replace ow := ow.wide (lo' := w4.heap.size) hC.size (Nat.le_refl _)
            (try replace ot := ot.grow hBr3)
            (try replace cw := vblk_grow cw hBr3)
            (try replace dw := vblk_grow dw hBr3)
            replace hC := hC.trans (hBr3.mono hC.size)
            refine hKC.out _ _ (⟨vblk_grow ca hC, vblk_grow cc hC⟩) (fun hHeld2 => ?_)
            clear hKC KC hHeld
            have hHeld := hHeld2
            clear hHeld2
            (try simp only [Act.put, List.setIfInBounds_toArray, List.set_cons_zero, List.set_cons_succ])
            refine wpAnyH_take (i := 6) (oi := op8_6) (v := ?_) rfl (by kernel_rfl) (by kernel_rfl) (by kernel_rfl) (fun _ _ _ h => h) (Or.inl ⟨by rfl, ?_⟩) (by assumption) ?_
            rotate_left 1
            · intro w' hSw; (try dsimp only at hSw); (try unfold op8_6); go_simp; (try with_reducible rfl)
            (try unfold op8_6)
            (try simp only [Act.put, List.setIfInBounds_toArray, List.set_cons_zero, List.set_cons_succ])
            refine wpAnyH_take (i := 7) (oi := op8_7) (v := ?_) rfl (by kernel_rfl) (by kernel_rfl) (by kernel_rfl) (fun _ _ _ h => h) (Or.inl ⟨by rfl, ?_⟩) (by assumption) ?_
            rotate_left 1
            · intro w' hSw; (try dsimp only at hSw); (try unfold op8_7); go_simp; (try with_reducible rfl)
            (try unfold op8_7)
            (try simp only [Act.put, List.setIfInBounds_toArray, List.set_cons_zero, List.set_cons_succ])
            refine wpAnyH_take (i := 8) (oi := op8_8) (v := ?_) rfl (by kernel_rfl) (by kernel_rfl) (by kernel_rfl) (fun _ _ _ h => h) (Or.inl ⟨by rfl, ?_⟩) (by assumption) ?_
            rotate_left 1
            · intro w' hSw; (try dsimp only at hSw); (try unfold op8_8); go_simp; (try with_reducible rfl)
            (try unfold op8_8)
            (try simp only [Act.put, List.setIfInBounds_toArray, List.set_cons_zero, List.set_cons_succ])
            refine wpAnyH_ready (rs := [9]) (by kernel_rfl) (by simp) ?_
            refine AllReadyH.cons (o := op8_9) rfl (fun KC hKC => ?_) AllReadyH.nil
            (try unfold op8_9)
            refine step_alloc_v rfl 31 rfl _ zeroBk ?_
            intro bw wr4 hbw hwbw hBr4 cw
            have hlv_cw : w4.heap.size ≤ bw := Nat.le_trans hC.size hbw
            (try have ne_w := Nat.ne_of_lt (Nat.lt_of_lt_of_le dw.lt hbw))
            (try replace ot := ot.grow hBr4)
            (try replace ow := ow.grow hBr4)
            (try replace dw := vblk_grow dw hBr4)
            replace hC := hC.trans (hBr4.mono hC.size)
            refine hKC.out _ _ (⟨vblk_grow ca hC, vblk_grow cc hC⟩) (fun hHeld2 => ?_)
            clear hKC KC hHeld
            have hHeld := hHeld2
            clear hHeld2
            (try simp only [Act.put, List.setIfInBounds_toArray, List.set_cons_zero, List.set_cons_succ])
            exact key wr4 bw ew Aw Nw Kw At Nt Kt hC cw dw ow.top hlv_cw hlv_dw (by first | exact ne_w | exact Ne.symm ne_w) hHeld
          (try unfold op8_9)
          refine step_alloc_v rfl 31 rfl _ zeroBk ?_
          intro bw wr4 hbw hwbw hBr4 cw
          have hlv_cw : w4.heap.size ≤ bw := Nat.le_trans hC.size hbw
          (try have ne_w := Nat.ne_of_lt (Nat.lt_of_lt_of_le dw.lt hbw))
          (try replace ot := ot.grow hBr4)
          (try replace ow := ow.grow hBr4)
          (try replace dw := vblk_grow dw hBr4)
          replace hC := hC.trans (hBr4.mono hC.size)
          refine hKC.out _ _ (⟨vblk_grow ca hC, vblk_grow cc hC⟩) (fun hHeld2 => ?_)
          clear hKC KC hHeld
          have hHeld := hHeld2
          clear hHeld2
          (try simp only [Act.put, List.setIfInBounds_toArray, List.set_cons_zero, List.set_cons_succ])
          refine wpAnyH_ready (rs := [5]) (by kernel_rfl) (by simp) ?_
          refine AllReadyH.cons (o := op8_5) rfl (fun KC hKC => ?_) AllReadyH.nil
          (try unfold op8_5)
          go_simp
          go_at_call 8
          refine (hkS.out SMK.out hl hN1 hB1x _ _ ot.rd).mono ?_
          rintro er wr3 ⟨vw, rfl, ow, hBr3⟩
          obtain ⟨Aw, Nw, Kw, rfl⟩ := ow.slice
          replace ow := ow.wide (lo' := w4.heap.size) hC.size (Nat.le_refl _)
          (try replace ot := ot.grow hBr3)
          (try replace cw := vblk_grow cw hBr3)
          (try replace dw := vblk_grow dw hBr3)
          replace hC := hC.trans (hBr3.mono hC.size)
          refine hKC.out _ _ (⟨vblk_grow ca hC, vblk_grow cc hC⟩) (fun hHeld2 => ?_)
          clear hKC KC hHeld
          have hHeld := hHeld2
          clear hHeld2
          (try simp only [Act.put, List.setIfInBounds_toArray, List.set_cons_zero, List.set_cons_succ])
          refine wpAnyH_take (i := 6) (oi := op8_6) (v := ?_) rfl (by kernel_rfl) (by kernel_rfl) (by kernel_rfl) (fun _ _ _ h => h) (Or.inl ⟨by rfl, ?_⟩) (by assumption) ?_
          rotate_left 1
          · intro w' hSw; (try dsimp only at hSw); (try unfold op8_6); go_simp; (try with_reducible rfl)
          (try unfold op8_6)
          (try simp only [Act.put, List.setIfInBounds_toArray, List.set_cons_zero, List.set_cons_succ])
          refine wpAnyH_take (i := 7) (oi := op8_7) (v := ?_) rfl (by kernel_rfl) (by kernel_rfl) (by kernel_rfl) (fun _ _ _ h => h) (Or.inl ⟨by rfl, ?_⟩) (by assumption) ?_
          rotate_left 1
          · intro w' hSw; (try dsimp only at hSw); (try unfold op8_7); go_simp; (try with_reducible rfl)
          (try unfold op8_7)
          (try simp only [Act.put, List.setIfInBounds_toArray, List.set_cons_zero, List.set_cons_succ])
          refine wpAnyH_take (i := 8) (oi := op8_8) (v := ?_) rfl (by kernel_rfl) (by kernel_rfl) (by kernel_rfl) (fun _ _ _ h => h) (Or.inl ⟨by rfl, ?_⟩) (by assumption) ?_
          rotate_left 1
          · intro w' hSw; (try dsimp only at hSw); (try unfold op8_8); go_simp; (try with_reducible rfl)
          (try unfold op8_8)
          (try simp only [Act.put, List.setIfInBounds_toArray, List.set_cons_zero, List.set_cons_succ])
          exact key wr3 bw ew Aw Nw Kw At Nt Kt hC cw dw ow.top hlv_cw hlv_dw (by first | exact ne_w | exact Ne.symm ne_w) hHeld
        (try unfold op8_9)
        refine step_alloc_v rfl 31 rfl _ zeroBk ?_
        intro bw wr4 hbw hwbw hBr4 cw
        have hlv_cw : w4.heap.size ≤ bw := Nat.le_trans hC.size hbw
        (try have ne_w := Nat.ne_of_lt (Nat.lt_of_lt_of_le dw.lt hbw))
        (try replace ot := ot.grow hBr4)
        (try replace ow := ow.grow hBr4)
        (try replace dw := vblk_grow dw hBr4)
        replace hC := hC.trans (hBr4.mono hC.size)
        refine hKC.out _ _ (⟨vblk_grow ca hC, vblk_grow cc hC⟩) (fun hHeld2 => ?_)
        clear hKC KC hHeld
        have hHeld := hHeld2
        clear hHeld2
        (try simp only [Act.put, List.setIfInBounds_toArray, List.set_cons_zero, List.set_cons_succ])
        refine wpAnyH_ready (rs := [3]) (by kernel_rfl) (by simp) ?_
        refine AllReadyH.cons (o := op8_3) rfl (fun KC hKC => ?_) AllReadyH.nil
        (try unfold op8_3)
        go_simp
        go_at_call 10
        refine (htoC.out _).mono ?_
        rintro er wr2 ⟨rfl, hBr2⟩
        (try replace ot := ot.grow hBr2)
        (try replace ow := ow.grow hBr2)
        (try replace cw := vblk_grow cw hBr2)
        (try replace dw := vblk_grow dw hBr2)
        replace hC := hC.trans (hBr2.mono hC.size)
        refine hKC.out _ _ (⟨vblk_grow ca hC, vblk_grow cc hC⟩) (fun hHeld2 => ?_)
        clear hKC KC hHeld
        have hHeld := hHeld2
        clear hHeld2
        (try simp only [Act.put, List.setIfInBounds_toArray, List.set_cons_zero, List.set_cons_succ])
        refine wpAnyH_ready (rs := [5]) (by kernel_rfl) (by simp) ?_
        refine AllReadyH.cons (o := op8_5) rfl (fun KC hKC => ?_) AllReadyH.nil
        (try unfold op8_5)
        go_simp
        go_at_call 8
        refine (hkS.out SMK.out hl hN1 hB1x _ _ ot.rd).mono ?_
        rintro er wr3 ⟨vw, rfl, ow, hBr3⟩
        obtain ⟨Aw, Nw, Kw, rfl⟩ := ow.slice
        replace ow := ow.wide (lo' := w4.heap.size) hC.size (Nat.le_refl _)
        (try replace ot := ot.grow hBr3)
        (try replace cw := vblk_grow cw hBr3)
        (try replace dw := vblk_grow dw hBr3)
        replace hC := hC.trans (hBr3.mono hC.size)
        refine hKC.out _ _ (⟨vblk_grow ca hC, vblk_grow cc hC⟩) (fun hHeld2 => ?_)
        clear hKC KC hHeld
        have hHeld := hHeld2
        clear hHeld2
        (try simp only [Act.put, List.setIfInBounds_toArray, List.set_cons_zero, List.set_cons_succ])
        refine wpAnyH_take (i := 6) (oi := op8_6) (v := ?_) rfl (by kernel_rfl) (by kernel_rfl) (by kernel_rfl) (fun _ _ _ h => h) (Or.inl ⟨by rfl, ?_⟩) (by assumption) ?_
        rotate_left 1
        · intro w' hSw; (try dsimp only at hSw); (try unfold op8_6); go_simp; (try with_reducible rfl)
        (try unfold op8_6)
        (try simp only [Act.put, List.setIfInBounds_toArray, List.set_cons_zero, List.set_cons_succ])
        refine wpAnyH_take (i := 7) (oi := op8_7) (v := ?_) rfl (by kernel_rfl) (by kernel_rfl) (by kernel_rfl) (fun _ _ _ h => h) (Or.inl ⟨by rfl, ?_⟩) (by assumption) ?_
        rotate_left 1
        · intro w' hSw; (try dsimp only at hSw); (try unfold op8_7); go_simp; (try with_reducible rfl)
        (try unfold op8_7)
        (try simp only [Act.put, List.setIfInBounds_toArray, List.set_cons_zero, List.set_cons_succ])
        refine wpAnyH_take (i := 8) (oi := op8_8) (v := ?_) rfl (by kernel_rfl) (by kernel_rfl) (by kernel_rfl) (fun _ _ _ h => h) (Or.inl ⟨by rfl, ?_⟩) (by assumption) ?_
        rotate_left 1
        · intro w' hSw; (try dsimp only at hSw); (try unfold op8_8); go_simp; (try with_reducible rfl)
        (try unfold op8_8)
        (try simp only [Act.put, List.setIfInBounds_toArray, List.set_cons_zero, List.set_cons_succ])
        exact key wr3 bw ew Aw Nw Kw At Nt Kt hC cw dw ow.top hlv_cw hlv_dw (by first | exact ne_w | exact Ne.symm ne_w) hHeld
      (try unfold op8_9)
      refine step_alloc_v rfl 31 rfl _ zeroBk ?_
      intro bw wr4 hbw hwbw hBr4 cw
      have hlv_cw : w4.heap.size ≤ bw := Nat.le_trans hC.size hbw
      (try have ne_w := Nat.ne_of_lt (Nat.lt_of_lt_of_le dw.lt hbw))
      (try replace ot := ot.grow hBr4)
      (try replace ow := ow.grow hBr4)
      (try replace dw := vblk_grow dw hBr4)
      replace hC := hC.trans (hBr4.mono hC.size)
      refine hKC.out _ _ (⟨vblk_grow ca hC, vblk_grow cc hC⟩) (fun hHeld2 => ?_)
      clear hKC KC hHeld
      have hHeld := hHeld2
      clear hHeld2
      (try simp only [Act.put, List.setIfInBounds_toArray, List.set_cons_zero, List.set_cons_succ])
      refine wpAnyH_ready (rs := [1]) (by kernel_rfl) (by simp) ?_
      refine AllReadyH.cons (o := op8_1) rfl (fun KC hKC => ?_) AllReadyH.nil
      (try unfold op8_1)
      go_simp
      go_at_call 9
      refine (toBook_any I X _ _ (R.out.grow (hB.trans (hC.mono hB.size))) hl).mono ?_
      rintro er wr1 ⟨vt, rfl, ot, hBr1⟩
      obtain ⟨At, Nt, Kt, rfl⟩ := ot.slice
      (try replace ow := ow.grow hBr1)
      (try replace cw := vblk_grow cw hBr1)
      (try replace dw := vblk_grow dw hBr1)
      replace hC := hC.trans (hBr1.mono hC.size)
      refine hKC.out _ _ (⟨vblk_grow ca hC, vblk_grow cc hC⟩) (fun hHeld2 => ?_)
      clear hKC KC hHeld
      have hHeld := hHeld2
      clear hHeld2
      (try simp only [Act.put, List.setIfInBounds_toArray, List.set_cons_zero, List.set_cons_succ])
      refine wpAnyH_ready (rs := [3]) (by kernel_rfl) (by simp) ?_
      refine AllReadyH.cons (o := op8_3) rfl (fun KC hKC => ?_) AllReadyH.nil
      (try unfold op8_3)
      go_simp
      go_at_call 10
      refine (htoC.out _).mono ?_
      rintro er wr2 ⟨rfl, hBr2⟩
      (try replace ot := ot.grow hBr2)
      (try replace ow := ow.grow hBr2)
      (try replace cw := vblk_grow cw hBr2)
      (try replace dw := vblk_grow dw hBr2)
      replace hC := hC.trans (hBr2.mono hC.size)
      refine hKC.out _ _ (⟨vblk_grow ca hC, vblk_grow cc hC⟩) (fun hHeld2 => ?_)
      clear hKC KC hHeld
      have hHeld := hHeld2
      clear hHeld2
      (try simp only [Act.put, List.setIfInBounds_toArray, List.set_cons_zero, List.set_cons_succ])
      refine wpAnyH_ready (rs := [5]) (by kernel_rfl) (by simp) ?_
      refine AllReadyH.cons (o := op8_5) rfl (fun KC hKC => ?_) AllReadyH.nil
      (try unfold op8_5)
      go_simp
      go_at_call 8
      refine (hkS.out SMK.out hl hN1 hB1x _ _ ot.rd).mono ?_
      rintro er wr3 ⟨vw, rfl, ow, hBr3⟩
      obtain ⟨Aw, Nw, Kw, rfl⟩ := ow.slice
      replace ow := ow.wide (lo' := w4.heap.size) hC.size (Nat.le_refl _)
      (try replace ot := ot.grow hBr3)
      (try replace cw := vblk_grow cw hBr3)
      (try replace dw := vblk_grow dw hBr3)
      replace hC := hC.trans (hBr3.mono hC.size)
      refine hKC.out _ _ (⟨vblk_grow ca hC, vblk_grow cc hC⟩) (fun hHeld2 => ?_)
      clear hKC KC hHeld
      have hHeld := hHeld2
      clear hHeld2
      (try simp only [Act.put, List.setIfInBounds_toArray, List.set_cons_zero, List.set_cons_succ])
      refine wpAnyH_take (i := 6) (oi := op8_6) (v := ?_) rfl (by kernel_rfl) (by kernel_rfl) (by kernel_rfl) (fun _ _ _ h => h) (Or.inl ⟨by rfl, ?_⟩) (by assumption) ?_
      rotate_left 1
      · intro w' hSw; (try dsimp only at hSw); (try unfold op8_6); go_simp; (try with_reducible rfl)
      (try unfold op8_6)
      (try simp only [Act.put, List.setIfInBounds_toArray, List.set_cons_zero, List.set_cons_succ])
      refine wpAnyH_take (i := 7) (oi := op8_7) (v := ?_) rfl (by kernel_rfl) (by kernel_rfl) (by kernel_rfl) (fun _ _ _ h => h) (Or.inl ⟨by rfl, ?_⟩) (by assumption) ?_
      rotate_left 1
      · intro w' hSw; (try dsimp only at hSw); (try unfold op8_7); go_simp; (try with_reducible rfl)
      (try unfold op8_7)
      (try simp only [Act.put, List.setIfInBounds_toArray, List.set_cons_zero, List.set_cons_succ])
      refine wpAnyH_take (i := 8) (oi := op8_8) (v := ?_) rfl (by kernel_rfl) (by kernel_rfl) (by kernel_rfl) (fun _ _ _ h => h) (Or.inl ⟨by rfl, ?_⟩) (by assumption) ?_
      rotate_left 1
      · intro w' hSw; (try dsimp only at hSw); (try unfold op8_8); go_simp; (try with_reducible rfl)
      (try unfold op8_8)
      (try simp only [Act.put, List.setIfInBounds_toArray, List.set_cons_zero, List.set_cons_succ])
      exact key wr3 bw ew Aw Nw Kw At Nt Kt hC cw dw ow.top hlv_cw hlv_dw (by first | exact ne_w | exact Ne.symm ne_w) hHeld
    case key =>
      intro wk bw ew Aw Nw Kw At Nt Kt hC cw dw ow hlv_cw hlv_dw ne_w hHeld
      refine wpAnyH_ready (rs := [11]) (by kernel_rfl) (by simp) ?_
      refine AllReadyH.cons (o := op8_11) rfl (fun KC hKC => ?_) AllReadyH.nil
      (try unfold op8_11)
      refine step_store_v rfl 31 _ _ rfl bw [.slice Aw Nw Kw, .int .i64 Y] rfl rfl sizeBk cw rfl (oneBk _ _ _ _) ?_
      intro wr6 hOr6 cwx
      (try replace ot := ot.only hOr6 cw (by decide))
      (try replace ow := ow.only hOr6 cw (by decide))
      (try replace dw := vblk_only dw hOr6 (by first | exact ne_w | exact Ne.symm ne_w))
      replace hC := hC.trans (hOr6.2.2 _ hlv_cw)
      replace cw := cwx
      refine hKC.out _ _ (⟨vblk_grow ca hC, vblk_grow cc hC⟩) (fun hHeld2 => ?_)
      clear hKC KC hHeld
      have hHeld := hHeld2
      clear hHeld2
      (try simp only [Act.put])
      refine wpAnyH_ready (rs := [12]) (by kernel_rfl) (by simp) ?_
      refine AllReadyH.cons (o := op8_12) rfl (fun KC hKC => ?_) AllReadyH.nil
      (try unfold op8_12)
      refine step_store_v rfl 33 _ _ rfl ew [x1, x2, x3, x4, x5, x6] rfl rfl sizeRp dw rfl hk6.out ?_
      intro wr7 hOr7 dwx
      (try replace ot := ot.only hOr7 dw (by decide))
      (try replace ow := ow.only hOr7 dw (by decide))
      (try replace cw := vblk_only cw hOr7 (by first | exact ne_w | exact Ne.symm ne_w))
      replace hC := hC.trans (hOr7.2.2 _ hlv_dw)
      replace dw := dwx
      refine hKC.out _ _ (⟨vblk_grow ca hC, vblk_grow cc hC⟩) (fun hHeld2 => ?_)
      clear hKC KC hHeld
      have hHeld := hHeld2
      clear hHeld2
      (try simp only [Act.put])
      refine wpAnyH_done (by kernel_rfl) ?_ _
      go_wp2
      go_meet
      case rel => exact ⟨bw, ew, Aw, Nw, Kw, rfl, rfl, hC, vblk_grow ca hC, vblk_grow cc hC, cw, dw, ow.top⟩
  case rest =>
  obtain ⟨bw, ew, Aw, Nw, Kw, rfl, rfl, n_hC, n_ca, n_cc, n_cw, n_dw, n_ow⟩ := hcut
  rename World => w5
  clear ca
  clear cc
  clear ca0 ca1
  have hC := n_hC
  clear n_hC
  have ca := n_ca
  clear n_ca
  have cc := n_cc
  clear n_cc
  have cw := n_cw
  clear n_cw
  have dw := n_dw
  clear n_dw
  have ow := n_ow
  clear n_ow
  have hz5 : w4.heap.size ≤ w5.heap.size := hC.size
  replace hB := hB.trans (hC.mono (by omega))
  replace hzw := hB.size
  clear hC
  obtain ⟨ca0, ca1⟩ := cells2 ca
  obtain ⟨cw0, cw1⟩ := cells2 cw
  obtain ⟨dw0, dw1, dw2, dw3, dw4, dw5⟩ := cellsRp dw
  have hl_cw := cw.lt
  have hl_dw := dw.lt
  have mk6 : Hid True := trivial
  have mk7 : Hid True := trivial
  have mk8 : Hid True := trivial
  go_upto_region 10 with (first | (clear mk6; go_at_call 9; refine (toBook_any I X _ _ (R.out.grow hB) hl).mono ?_; rintro er w6 ⟨vx, rfl, ox, hB6⟩; have hz6 : w5.heap.size ≤ w6.heap.size := hB6.size; replace ow := ow.grow hB6; replace ca := vblk_grow ca hB6; replace cc := vblk_grow cc hB6; replace cw := vblk_grow cw hB6; replace dw := vblk_grow dw hB6; replace hB := hB.trans (hB6.mono (by omega)); replace hzw := hB.size; clear ca0 ca1; obtain ⟨ca0, ca1⟩ := cells2 ca; clear cw0 cw1; obtain ⟨cw0, cw1⟩ := cells2 cw; clear dw0 dw1 dw2 dw3 dw4 dw5; obtain ⟨dw0, dw1, dw2, dw3, dw4, dw5⟩ := cellsRp dw; obtain ⟨Ax, Nx, Kx, rfl⟩ := ox.slice) | (clear mk7; refine wpList_alloc_v rfl 31 rfl _ zeroBk ?_; intro bx w7 hbx hwbx hB7 cx; have hz7 : w6.heap.size ≤ w7.heap.size := hB7.size; replace ow := ow.grow hB7; replace ox := ox.grow hB7; replace ca := vblk_grow ca hB7; replace cc := vblk_grow cc hB7; replace cw := vblk_grow cw hB7; replace dw := vblk_grow dw hB7; replace hB := hB.trans (hB7.mono (by omega)); replace hzw := hB.size; clear ca0 ca1; obtain ⟨ca0, ca1⟩ := cells2 ca; clear cw0 cw1; obtain ⟨cw0, cw1⟩ := cells2 cw; clear dw0 dw1 dw2 dw3 dw4 dw5; obtain ⟨dw0, dw1, dw2, dw3, dw4, dw5⟩ := cellsRp dw) | (clear mk8; refine wpList_store_v rfl 31 _ _ rfl bx [.slice Ax Nx Kx, .int .i64 X] rfl rfl sizeBk cx rfl (oneBk _ _ _ _) ?_; intro w8 hO8 cxx; have hz8 : w7.heap.size ≤ w8.heap.size := (Nat.le_of_eq hO8.1.symm); have hy8 : w8.heap.size ≤ w7.heap.size := (Nat.le_of_eq hO8.1); replace ow := ow.only hO8 cx (by decide); replace ox := ox.only hO8 cx (by decide); replace ca := vblk_only ca hO8 (by omega); replace cc := vblk_only cc hO8 (by omega); replace cw := vblk_only cw hO8 (by omega); replace dw := vblk_only dw hO8 (by omega); replace hB := hB.trans (hO8.2.2 _ (by omega)); replace hzw := hB.size; clear ca0 ca1; obtain ⟨ca0, ca1⟩ := cells2 ca; clear cw0 cw1; obtain ⟨cw0, cw1⟩ := cells2 cw; clear dw0 dw1 dw2 dw3 dw4 dw5; obtain ⟨dw0, dw1, dw2, dw3, dw4, dw5⟩ := cellsRp dw; clear cx; have cx := cxx; clear cxx; obtain ⟨cx0, cx1⟩ := cells2 cx) | (fail))
  (try simp only [Act.put])
  (try simp only [List.setIfInBounds_toArray, List.set_cons_zero, List.set_cons_succ])
  go_cut [11, 12] from 39 to 47 (fun s11 s12 wc => ∃ (bg : Nat) (eg : Nat) (Ag : Option Addr) (Ng Kg : Nat), s11 = .pointer (some ⟨bg, 0, none⟩) ∧ s12 = .pointer (some ⟨eg, 0, none⟩) ∧ Below w8.heap.size w8 wc ∧ VBlk wc ba 24 [.slice a I.length cap, .int .i64 X] ∧ VBlk wc bc 26 lC ∧ VBlk wc bw 31 [.slice Aw Nw Kw, .int .i64 Y] ∧ VBlk wc ew 33 [x1, x2, x3, x4, x5, x6] ∧ VBlk wc bx 31 [.slice Ax Nx Kx, .int .i64 X] ∧ ro.Own encIt wc w4.heap.size w5.heap.size (.slice Aw Nw Kw) J ∧ ro.Own encIt wc w5.heap.size w6.heap.size (.slice Ax Nx Kx) I ∧ VBlk wc bg 31 [.slice Ag Ng Kg, .int .i64 Y] ∧ VBlk wc eg 33 [x1, x2, x3, x4, x5, x6] ∧ ro.Own encIt wc w8.heap.size wc.heap.size (.slice Ag Ng Kg) J)
  case first =>
    have hC : Below w8.heap.size w8 w8.drew := (Below.refl _ _).drew
    clear ca0 ca1
    clear cw0 cw1
    clear dw0 dw1 dw2 dw3 dw4 dw5
    clear cx0 cx1
    apply with_key (T := ∀ (wk : World) (bg eg : Nat) (Ag : Option Addr) (Ng Kg : Nat), (Below w8.heap.size w8 wk) → (VBlk wk bg 31 [.slice none 0 0, .int .i64 0]) → (VBlk wk eg 33 [.int .i64 0, .string ⟨#[]⟩, .int .i64 0, .string ⟨#[]⟩, .int .i64 0, .int .i64 0]) → (ro.Own encIt wk w8.heap.size wk.heap.size (.slice Ag Ng Kg) J) → (w8.heap.size ≤ bg) → (w8.heap.size ≤ eg) → (bg ≠ eg) → (VBlk wk bx 31 [.slice Ax Nx Kx, .int .i64 X] ∧ VBlk wk bc 26 lC) → (_ : Prop))
    case main =>
      intro key
      refine wp_region_held_drew (S := fun w' => VBlk w' bx 31 [.slice Ax Nx Kx, .int .i64 X] ∧ VBlk w' bc 26 lC) (by kernel_rfl) (⟨vblk_grow cx hC, vblk_grow cc hC⟩) (fun hHeld => ?_)
      refine wpAnyH_take (i := 0) (oi := { dst := some 40, op := Op.load 31 (Operand.tmp 10), type := 31, pos := "exact.go:3572", after := #[], guard := none }) (v := .agg ([.slice Ax Nx Kx, .int .i64 X] : List Value).toArray) rfl (by kernel_rfl) (by kernel_rfl) (by kernel_rfl) (fun _ _ _ h => h) (yieldsIf_load_mid (by rfl) 31 _ rfl bx 0 rfl [.slice Ax Nx Kx, .int .i64 X] _ (fun w' hw' => hw'.1.range) Tryz.underlying31 rfl sizeBk) (by assumption) ?_
      (try simp only [Act.put, List.setIfInBounds_toArray, List.set_cons_zero, List.set_cons_succ])
      refine wpAnyH_take (i := 1) (oi := { dst := some 41, op := Op.load 26 (Operand.tmp 4), type := 26, pos := "exact.go:3572", after := #[], guard := none }) (v := .agg (lC : List Value).toArray) rfl (by kernel_rfl) (by kernel_rfl) (by kernel_rfl) (fun _ _ _ h => h) (yieldsIf_load_mid (by rfl) 26 _ rfl bc 0 rfl lC _ (fun w' hw' => hw'.2.range) Tryz.underlying26 rfl slC) (by assumption) ?_
      (try simp only [Act.put, List.setIfInBounds_toArray, List.set_cons_zero, List.set_cons_succ])
      refine wpAnyH_take (i := 3) (oi := op10_3) (v := ?_) rfl (by kernel_rfl) (by kernel_rfl) (by kernel_rfl) (fun _ _ _ h => h) (Or.inl ⟨by rfl, ?_⟩) (by assumption) ?_
      rotate_left 1
      · intro w' hSw; (try dsimp only at hSw); (try unfold op10_3); go_simp; (try with_reducible rfl)
      (try unfold op10_3)
      (try simp only [Act.put, List.setIfInBounds_toArray, List.set_cons_zero, List.set_cons_succ])
      refine wpAnyH_ready (rs := [2, 8, 9]) (by kernel_rfl) (by simp) ?_
      refine AllReadyH.cons (o := op10_2) rfl (fun KC hKC => ?_) (AllReadyH.cons (o := op10_8) rfl (fun KC hKC => ?_) (AllReadyH.cons (o := op10_9) rfl (fun KC hKC => ?_) AllReadyH.nil))
      · (try unfold op10_2)
        go_simp
        go_at_call 10
        refine (htoC.out _).mono ?_
        rintro er wr2 ⟨rfl, hBr2⟩
        (try replace og := og.grow hBr2)
        (try replace cg := vblk_grow cg hBr2)
        (try replace dg := vblk_grow dg hBr2)
        replace hC := hC.trans (hBr2.mono hC.size)
        refine hKC.out _ _ (⟨vblk_grow cx hC, vblk_grow cc hC⟩) (fun hHeld2 => ?_)
        clear hKC KC hHeld
        have hHeld := hHeld2
        clear hHeld2
        (try simp only [Act.put, List.setIfInBounds_toArray, List.set_cons_zero, List.set_cons_succ])
        refine wpAnyH_ready (rs := [4, 8, 9]) (by kernel_rfl) (by simp) ?_
        refine AllReadyH.cons (o := op10_4) rfl (fun KC hKC => ?_) (AllReadyH.cons (o := op10_8) rfl (fun KC hKC => ?_) (AllReadyH.cons (o := op10_9) rfl (fun KC hKC => ?_) AllReadyH.nil))
        · (try unfold op10_4)
          go_simp
          go_at_call 11
          refine (hkI.out SMK.out hl hN1 hB1x _ _ (ox.grow hC).rd (EN.out.grow (hB.trans (hC.mono hB.size)))).mono ?_
          rintro er wr3 ⟨vg, rfl, og, hBr3⟩
          obtain ⟨Ag, Ng, Kg, rfl⟩ := og.slice
          replace og := og.wide (lo' := w8.heap.size) hC.size (Nat.le_refl _)
          (try replace cg := vblk_grow cg hBr3)
          (try replace dg := vblk_grow dg hBr3)
          replace hC := hC.trans (hBr3.mono hC.size)
          refine hKC.out _ _ (⟨vblk_grow cx hC, vblk_grow cc hC⟩) (fun hHeld2 => ?_)
          clear hKC KC hHeld
          have hHeld := hHeld2
          clear hHeld2
          (try simp only [Act.put, List.setIfInBounds_toArray, List.set_cons_zero, List.set_cons_succ])
          refine wpAnyH_take (i := 5) (oi := op10_5) (v := ?_) rfl (by kernel_rfl) (by kernel_rfl) (by kernel_rfl) (fun _ _ _ h => h) (Or.inl ⟨by rfl, ?_⟩) (by assumption) ?_
          rotate_left 1
          · intro w' hSw; (try dsimp only at hSw); (try unfold op10_5); go_simp; (try with_reducible rfl)
          (try unfold op10_5)
          (try simp only [Act.put, List.setIfInBounds_toArray, List.set_cons_zero, List.set_cons_succ])
          refine wpAnyH_take (i := 6) (oi := op10_6) (v := ?_) rfl (by kernel_rfl) (by kernel_rfl) (by kernel_rfl) (fun _ _ _ h => h) (Or.inl ⟨by rfl, ?_⟩) (by assumption) ?_
          rotate_left 1
          · intro w' hSw; (try dsimp only at hSw); (try unfold op10_6); go_simp; (try with_reducible rfl)
          (try unfold op10_6)
          (try simp only [Act.put, List.setIfInBounds_toArray, List.set_cons_zero, List.set_cons_succ])
          refine wpAnyH_take (i := 7) (oi := op10_7) (v := ?_) rfl (by kernel_rfl) (by kernel_rfl) (by kernel_rfl) (fun _ _ _ h => h) (Or.inl ⟨by rfl, ?_⟩) (by assumption) ?_
          rotate_left 1
          · intro w' hSw; (try dsimp only at hSw); (try unfold op10_7); go_simp; (try with_reducible rfl)
          (try unfold op10_7)
          (try simp only [Act.put, List.setIfInBounds_toArray, List.set_cons_zero, List.set_cons_succ])
          refine wpAnyH_ready (rs := [8, 9]) (by kernel_rfl) (by simp) ?_
          refine AllReadyH.cons (o := op10_8) rfl (fun KC hKC => ?_) (AllReadyH.cons (o := op10_9) rfl (fun KC hKC => ?_) AllReadyH.nil)
          · (try unfold op10_8)
            refine step_alloc_v rfl 31 rfl _ zeroBk ?_
            intro bg wr4 hbg hwbg hBr4 cg
            have hlv_cg : w8.heap.size ≤ bg := Nat.le_trans hC.size hbg
            (try have ne_g := Nat.ne_of_lt (Nat.lt_of_lt_of_le dg.lt hbg))
            (try replace og := og.grow hBr4)
            (try replace dg := vblk_grow dg hBr4)
            replace hC := hC.trans (hBr4.mono hC.size)
            refine hKC.out _ _ (⟨vblk_grow cx hC, vblk_grow cc hC⟩) (fun hHeld2 => ?_)
            clear hKC KC hHeld
            have hHeld := hHeld2
            clear hHeld2
            (try simp only [Act.put, List.setIfInBounds_toArray, List.set_cons_zero, List.set_cons_succ])
            refine wpAnyH_ready (rs := [9]) (by kernel_rfl) (by simp) ?_
            refine AllReadyH.cons (o := op10_9) rfl (fun KC hKC => ?_) AllReadyH.nil
            (try unfold op10_9)
            refine step_alloc_v rfl 33 rfl _ zeroRp ?_
            intro eg wr5 heg hweg hBr5 dg
            have hlv_dg : w8.heap.size ≤ eg := Nat.le_trans hC.size heg
            (try have ne_g := Nat.ne_of_lt (Nat.lt_of_lt_of_le cg.lt heg))
            (try replace og := og.grow hBr5)
            (try replace cg := vblk_grow cg hBr5)
            replace hC := hC.trans (hBr5.mono hC.size)
            refine hKC.out _ _ (⟨vblk_grow cx hC, vblk_grow cc hC⟩) (fun hHeld2 => ?_)
            clear hKC KC hHeld
            have hHeld := hHeld2
            clear hHeld2
            (try simp only [Act.put, List.setIfInBounds_toArray, List.set_cons_zero, List.set_cons_succ])
            exact key wr5 bg eg Ag Ng Kg hC cg dg og.top hlv_cg hlv_dg (by first | exact ne_g | exact Ne.symm ne_g) hHeld
          (try unfold op10_9)
          refine step_alloc_v rfl 33 rfl _ zeroRp ?_
          intro eg wr5 heg hweg hBr5 dg
          have hlv_dg : w8.heap.size ≤ eg := Nat.le_trans hC.size heg
          (try have ne_g := Nat.ne_of_lt (Nat.lt_of_lt_of_le cg.lt heg))
          (try replace og := og.grow hBr5)
          (try replace cg := vblk_grow cg hBr5)
          replace hC := hC.trans (hBr5.mono hC.size)
          refine hKC.out _ _ (⟨vblk_grow cx hC, vblk_grow cc hC⟩) (fun hHeld2 => ?_)
          clear hKC KC hHeld
          have hHeld := hHeld2
          clear hHeld2
          (try simp only [Act.put, List.setIfInBounds_toArray, List.set_cons_zero, List.set_cons_succ])
          refine wpAnyH_ready (rs := [8]) (by kernel_rfl) (by simp) ?_
          refine AllReadyH.cons (o := op10_8) rfl (fun KC hKC => ?_) AllReadyH.nil
          (try unfold op10_8)
          refine step_alloc_v rfl 31 rfl _ zeroBk ?_
          intro bg wr4 hbg hwbg hBr4 cg
          have hlv_cg : w8.heap.size ≤ bg := Nat.le_trans hC.size hbg
          (try have ne_g := Nat.ne_of_lt (Nat.lt_of_lt_of_le dg.lt hbg))
          (try replace og := og.grow hBr4)
          (try replace dg := vblk_grow dg hBr4)
          replace hC := hC.trans (hBr4.mono hC.size)
          refine hKC.out _ _ (⟨vblk_grow cx hC, vblk_grow cc hC⟩) (fun hHeld2 => ?_)
          clear hKC KC hHeld
          have hHeld := hHeld2
          clear hHeld2
          (try simp only [Act.put, List.setIfInBounds_toArray, List.set_cons_zero, List.set_cons_succ])
          exact key wr4 bg eg Ag Ng Kg hC cg dg og.top hlv_cg hlv_dg (by first | exact ne_g | exact Ne.symm ne_g) hHeld
        · (try unfold op10_8)
          refine step_alloc_v rfl 31 rfl _ zeroBk ?_
          intro bg wr4 hbg hwbg hBr4 cg
          have hlv_cg : w8.heap.size ≤ bg := Nat.le_trans hC.size hbg
          (try have ne_g := Nat.ne_of_lt (Nat.lt_of_lt_of_le dg.lt hbg))
          (try replace og := og.grow hBr4)
          (try replace dg := vblk_grow dg hBr4)
          replace hC := hC.trans (hBr4.mono hC.size)
          refine hKC.out _ _ (⟨vblk_grow cx hC, vblk_grow cc hC⟩) (fun hHeld2 => ?_)
          clear hKC KC hHeld
          have hHeld := hHeld2
          clear hHeld2
          (try simp only [Act.put, List.setIfInBounds_toArray, List.set_cons_zero, List.set_cons_succ])
          refine wpAnyH_ready (rs := [4, 9]) (by kernel_rfl) (by simp) ?_
          refine AllReadyH.cons (o := op10_4) rfl (fun KC hKC => ?_) (AllReadyH.cons (o := op10_9) rfl (fun KC hKC => ?_) AllReadyH.nil)
          · (try unfold op10_4)
            go_simp
            go_at_call 11
            refine (hkI.out SMK.out hl hN1 hB1x _ _ (ox.grow hC).rd (EN.out.grow (hB.trans (hC.mono hB.size)))).mono ?_
            rintro er wr3 ⟨vg, rfl, og, hBr3⟩
            obtain ⟨Ag, Ng, Kg, rfl⟩ := og.slice
            replace og := og.wide (lo' := w8.heap.size) hC.size (Nat.le_refl _)
            (try replace cg := vblk_grow cg hBr3)
            (try replace dg := vblk_grow dg hBr3)
            replace hC := hC.trans (hBr3.mono hC.size)
            refine hKC.out _ _ (⟨vblk_grow cx hC, vblk_grow cc hC⟩) (fun hHeld2 => ?_)
            clear hKC KC hHeld
            have hHeld := hHeld2
            clear hHeld2
            (try simp only [Act.put, List.setIfInBounds_toArray, List.set_cons_zero, List.set_cons_succ])
            refine wpAnyH_take (i := 5) (oi := op10_5) (v := ?_) rfl (by kernel_rfl) (by kernel_rfl) (by kernel_rfl) (fun _ _ _ h => h) (Or.inl ⟨by rfl, ?_⟩) (by assumption) ?_
            rotate_left 1
            · intro w' hSw; (try dsimp only at hSw); (try unfold op10_5); go_simp; (try with_reducible rfl)
            (try unfold op10_5)
            (try simp only [Act.put, List.setIfInBounds_toArray, List.set_cons_zero, List.set_cons_succ])
            refine wpAnyH_take (i := 6) (oi := op10_6) (v := ?_) rfl (by kernel_rfl) (by kernel_rfl) (by kernel_rfl) (fun _ _ _ h => h) (Or.inl ⟨by rfl, ?_⟩) (by assumption) ?_
            rotate_left 1
            · intro w' hSw; (try dsimp only at hSw); (try unfold op10_6); go_simp; (try with_reducible rfl)
            (try unfold op10_6)
            (try simp only [Act.put, List.setIfInBounds_toArray, List.set_cons_zero, List.set_cons_succ])
            refine wpAnyH_take (i := 7) (oi := op10_7) (v := ?_) rfl (by kernel_rfl) (by kernel_rfl) (by kernel_rfl) (fun _ _ _ h => h) (Or.inl ⟨by rfl, ?_⟩) (by assumption) ?_
            rotate_left 1
            · intro w' hSw; (try dsimp only at hSw); (try unfold op10_7); go_simp; (try with_reducible rfl)
            (try unfold op10_7)
            (try simp only [Act.put, List.setIfInBounds_toArray, List.set_cons_zero, List.set_cons_succ])
            refine wpAnyH_ready (rs := [9]) (by kernel_rfl) (by simp) ?_
            refine AllReadyH.cons (o := op10_9) rfl (fun KC hKC => ?_) AllReadyH.nil
            (try unfold op10_9)
            refine step_alloc_v rfl 33 rfl _ zeroRp ?_
            intro eg wr5 heg hweg hBr5 dg
            have hlv_dg : w8.heap.size ≤ eg := Nat.le_trans hC.size heg
            (try have ne_g := Nat.ne_of_lt (Nat.lt_of_lt_of_le cg.lt heg))
            (try replace og := og.grow hBr5)
            (try replace cg := vblk_grow cg hBr5)
            replace hC := hC.trans (hBr5.mono hC.size)
            refine hKC.out _ _ (⟨vblk_grow cx hC, vblk_grow cc hC⟩) (fun hHeld2 => ?_)
            clear hKC KC hHeld
            have hHeld := hHeld2
            clear hHeld2
            (try simp only [Act.put, List.setIfInBounds_toArray, List.set_cons_zero, List.set_cons_succ])
            exact key wr5 bg eg Ag Ng Kg hC cg dg og.top hlv_cg hlv_dg (by first | exact ne_g | exact Ne.symm ne_g) hHeld
          (try unfold op10_9)
          refine step_alloc_v rfl 33 rfl _ zeroRp ?_
          intro eg wr5 heg hweg hBr5 dg
          have hlv_dg : w8.heap.size ≤ eg := Nat.le_trans hC.size heg
          (try have ne_g := Nat.ne_of_lt (Nat.lt_of_lt_of_le cg.lt heg))
          (try replace og := og.grow hBr5)
          (try replace cg := vblk_grow cg hBr5)
          replace hC := hC.trans (hBr5.mono hC.size)
          refine hKC.out _ _ (⟨vblk_grow cx hC, vblk_grow cc hC⟩) (fun hHeld2 => ?_)
          clear hKC KC hHeld
          have hHeld := hHeld2
          clear hHeld2
          (try simp only [Act.put, List.setIfInBounds_toArray, List.set_cons_zero, List.set_cons_succ])
          refine wpAnyH_ready (rs := [4]) (by kernel_rfl) (by simp) ?_
          refine AllReadyH.cons (o := op10_4) rfl (fun KC hKC => ?_) AllReadyH.nil
          (try unfold op10_4)
          go_simp
          go_at_call 11
          refine (hkI.out SMK.out hl hN1 hB1x _ _ (ox.grow hC).rd (EN.out.grow (hB.trans (hC.mono hB.size)))).mono ?_
          rintro er wr3 ⟨vg, rfl, og, hBr3⟩
          obtain ⟨Ag, Ng, Kg, rfl⟩ := og.slice
          replace og := og.wide (lo' := w8.heap.size) hC.size (Nat.le_refl _)
          (try replace cg := vblk_grow cg hBr3)
          (try replace dg := vblk_grow dg hBr3)
          replace hC := hC.trans (hBr3.mono hC.size)
          refine hKC.out _ _ (⟨vblk_grow cx hC, vblk_grow cc hC⟩) (fun hHeld2 => ?_)
          clear hKC KC hHeld
          have hHeld := hHeld2
          clear hHeld2
          (try simp only [Act.put, List.setIfInBounds_toArray, List.set_cons_zero, List.set_cons_succ])
          refine wpAnyH_take (i := 5) (oi := op10_5) (v := ?_) rfl (by kernel_rfl) (by kernel_rfl) (by kernel_rfl) (fun _ _ _ h => h) (Or.inl ⟨by rfl, ?_⟩) (by assumption) ?_
          rotate_left 1
          · intro w' hSw; (try dsimp only at hSw); (try unfold op10_5); go_simp; (try with_reducible rfl)
          (try unfold op10_5)
          (try simp only [Act.put, List.setIfInBounds_toArray, List.set_cons_zero, List.set_cons_succ])
          refine wpAnyH_take (i := 6) (oi := op10_6) (v := ?_) rfl (by kernel_rfl) (by kernel_rfl) (by kernel_rfl) (fun _ _ _ h => h) (Or.inl ⟨by rfl, ?_⟩) (by assumption) ?_
          rotate_left 1
          · intro w' hSw; (try dsimp only at hSw); (try unfold op10_6); go_simp; (try with_reducible rfl)
          (try unfold op10_6)
          (try simp only [Act.put, List.setIfInBounds_toArray, List.set_cons_zero, List.set_cons_succ])
          refine wpAnyH_take (i := 7) (oi := op10_7) (v := ?_) rfl (by kernel_rfl) (by kernel_rfl) (by kernel_rfl) (fun _ _ _ h => h) (Or.inl ⟨by rfl, ?_⟩) (by assumption) ?_
          rotate_left 1
          · intro w' hSw; (try dsimp only at hSw); (try unfold op10_7); go_simp; (try with_reducible rfl)
          (try unfold op10_7)
          (try simp only [Act.put, List.setIfInBounds_toArray, List.set_cons_zero, List.set_cons_succ])
          exact key wr3 bg eg Ag Ng Kg hC cg dg og.top hlv_cg hlv_dg (by first | exact ne_g | exact Ne.symm ne_g) hHeld
        (try unfold op10_9)
        refine step_alloc_v rfl 33 rfl _ zeroRp ?_
        intro eg wr5 heg hweg hBr5 dg
        have hlv_dg : w8.heap.size ≤ eg := Nat.le_trans hC.size heg
        (try have ne_g := Nat.ne_of_lt (Nat.lt_of_lt_of_le cg.lt heg))
        (try replace og := og.grow hBr5)
        (try replace cg := vblk_grow cg hBr5)
        replace hC := hC.trans (hBr5.mono hC.size)
        refine hKC.out _ _ (⟨vblk_grow cx hC, vblk_grow cc hC⟩) (fun hHeld2 => ?_)
        clear hKC KC hHeld
        have hHeld := hHeld2
        clear hHeld2
        (try simp only [Act.put, List.setIfInBounds_toArray, List.set_cons_zero, List.set_cons_succ])
        refine wpAnyH_ready (rs := [4, 8]) (by kernel_rfl) (by simp) ?_
        refine AllReadyH.cons (o := op10_4) rfl (fun KC hKC => ?_) (AllReadyH.cons (o := op10_8) rfl (fun KC hKC => ?_) AllReadyH.nil)
        · (try unfold op10_4)
          go_simp
          go_at_call 11
          refine (hkI.out SMK.out hl hN1 hB1x _ _ (ox.grow hC).rd (EN.out.grow (hB.trans (hC.mono hB.size)))).mono ?_
          rintro er wr3 ⟨vg, rfl, og, hBr3⟩
          obtain ⟨Ag, Ng, Kg, rfl⟩ := og.slice
          replace og := og.wide (lo' := w8.heap.size) hC.size (Nat.le_refl _)
          (try replace cg := vblk_grow cg hBr3)
          (try replace dg := vblk_grow dg hBr3)
          replace hC := hC.trans (hBr3.mono hC.size)
          refine hKC.out _ _ (⟨vblk_grow cx hC, vblk_grow cc hC⟩) (fun hHeld2 => ?_)
          clear hKC KC hHeld
          have hHeld := hHeld2
          clear hHeld2
          (try simp only [Act.put, List.setIfInBounds_toArray, List.set_cons_zero, List.set_cons_succ])
          refine wpAnyH_take (i := 5) (oi := op10_5) (v := ?_) rfl (by kernel_rfl) (by kernel_rfl) (by kernel_rfl) (fun _ _ _ h => h) (Or.inl ⟨by rfl, ?_⟩) (by assumption) ?_
          rotate_left 1
          · intro w' hSw; (try dsimp only at hSw); (try unfold op10_5); go_simp; (try with_reducible rfl)
          (try unfold op10_5)
          (try simp only [Act.put, List.setIfInBounds_toArray, List.set_cons_zero, List.set_cons_succ])
          refine wpAnyH_take (i := 6) (oi := op10_6) (v := ?_) rfl (by kernel_rfl) (by kernel_rfl) (by kernel_rfl) (fun _ _ _ h => h) (Or.inl ⟨by rfl, ?_⟩) (by assumption) ?_
          rotate_left 1
          · intro w' hSw; (try dsimp only at hSw); (try unfold op10_6); go_simp; (try with_reducible rfl)
          (try unfold op10_6)
          (try simp only [Act.put, List.setIfInBounds_toArray, List.set_cons_zero, List.set_cons_succ])
          refine wpAnyH_take (i := 7) (oi := op10_7) (v := ?_) rfl (by kernel_rfl) (by kernel_rfl) (by kernel_rfl) (fun _ _ _ h => h) (Or.inl ⟨by rfl, ?_⟩) (by assumption) ?_
          rotate_left 1
          · intro w' hSw; (try dsimp only at hSw); (try unfold op10_7); go_simp; (try with_reducible rfl)
          (try unfold op10_7)
          (try simp only [Act.put, List.setIfInBounds_toArray, List.set_cons_zero, List.set_cons_succ])
          refine wpAnyH_ready (rs := [8]) (by kernel_rfl) (by simp) ?_
          refine AllReadyH.cons (o := op10_8) rfl (fun KC hKC => ?_) AllReadyH.nil
          (try unfold op10_8)
          refine step_alloc_v rfl 31 rfl _ zeroBk ?_
          intro bg wr4 hbg hwbg hBr4 cg
          have hlv_cg : w8.heap.size ≤ bg := Nat.le_trans hC.size hbg
          (try have ne_g := Nat.ne_of_lt (Nat.lt_of_lt_of_le dg.lt hbg))
          (try replace og := og.grow hBr4)
          (try replace dg := vblk_grow dg hBr4)
          replace hC := hC.trans (hBr4.mono hC.size)
          refine hKC.out _ _ (⟨vblk_grow cx hC, vblk_grow cc hC⟩) (fun hHeld2 => ?_)
          clear hKC KC hHeld
          have hHeld := hHeld2
          clear hHeld2
          (try simp only [Act.put, List.setIfInBounds_toArray, List.set_cons_zero, List.set_cons_succ])
          exact key wr4 bg eg Ag Ng Kg hC cg dg og.top hlv_cg hlv_dg (by first | exact ne_g | exact Ne.symm ne_g) hHeld
        (try unfold op10_8)
        refine step_alloc_v rfl 31 rfl _ zeroBk ?_
        intro bg wr4 hbg hwbg hBr4 cg
        have hlv_cg : w8.heap.size ≤ bg := Nat.le_trans hC.size hbg
        (try have ne_g := Nat.ne_of_lt (Nat.lt_of_lt_of_le dg.lt hbg))
        (try replace og := og.grow hBr4)
        (try replace dg := vblk_grow dg hBr4)
        replace hC := hC.trans (hBr4.mono hC.size)
        refine hKC.out _ _ (⟨vblk_grow cx hC, vblk_grow cc hC⟩) (fun hHeld2 => ?_)
        clear hKC KC hHeld
        have hHeld := hHeld2
        clear hHeld2
        (try simp only [Act.put, List.setIfInBounds_toArray, List.set_cons_zero, List.set_cons_succ])
        refine wpAnyH_ready (rs := [4]) (by kernel_rfl) (by simp) ?_
        refine AllReadyH.cons (o := op10_4) rfl (fun KC hKC => ?_) AllReadyH.nil
        (try unfold op10_4)
        go_simp
        go_at_call 11
        refine (hkI.out SMK.out hl hN1 hB1x _ _ (ox.grow hC).rd (EN.out.grow (hB.trans (hC.mono hB.size)))).mono ?_
        rintro er wr3 ⟨vg, rfl, og, hBr3⟩
        obtain ⟨Ag, Ng, Kg, rfl⟩ := og.slice
        replace og := og.wide (lo' := w8.heap.size) hC.size (Nat.le_refl _)
        (try replace cg := vblk_grow cg hBr3)
        (try replace dg := vblk_grow dg hBr3)
        replace hC := hC.trans (hBr3.mono hC.size)
        refine hKC.out _ _ (⟨vblk_grow cx hC, vblk_grow cc hC⟩) (fun hHeld2 => ?_)
        clear hKC KC hHeld
        have hHeld := hHeld2
        clear hHeld2
        (try simp only [Act.put, List.setIfInBounds_toArray, List.set_cons_zero, List.set_cons_succ])
        refine wpAnyH_take (i := 5) (oi := op10_5) (v := ?_) rfl (by kernel_rfl) (by kernel_rfl) (by kernel_rfl) (fun _ _ _ h => h) (Or.inl ⟨by rfl, ?_⟩) (by assumption) ?_
        rotate_left 1
        · intro w' hSw; (try dsimp only at hSw); (try unfold op10_5); go_simp; (try with_reducible rfl)
        (try unfold op10_5)
        (try simp only [Act.put, List.setIfInBounds_toArray, List.set_cons_zero, List.set_cons_succ])
        refine wpAnyH_take (i := 6) (oi := op10_6) (v := ?_) rfl (by kernel_rfl) (by kernel_rfl) (by kernel_rfl) (fun _ _ _ h => h) (Or.inl ⟨by rfl, ?_⟩) (by assumption) ?_
        rotate_left 1
        · intro w' hSw; (try dsimp only at hSw); (try unfold op10_6); go_simp; (try with_reducible rfl)
        (try unfold op10_6)
        (try simp only [Act.put, List.setIfInBounds_toArray, List.set_cons_zero, List.set_cons_succ])
        refine wpAnyH_take (i := 7) (oi := op10_7) (v := ?_) rfl (by kernel_rfl) (by kernel_rfl) (by kernel_rfl) (fun _ _ _ h => h) (Or.inl ⟨by rfl, ?_⟩) (by assumption) ?_
        rotate_left 1
        · intro w' hSw; (try dsimp only at hSw); (try unfold op10_7); go_simp; (try with_reducible rfl)
        (try unfold op10_7)
        (try simp only [Act.put, List.setIfInBounds_toArray, List.set_cons_zero, List.set_cons_succ])
        exact key wr3 bg eg Ag Ng Kg hC cg dg og.top hlv_cg hlv_dg (by first | exact ne_g | exact Ne.symm ne_g) hHeld
      · (try unfold op10_8)
        refine step_alloc_v rfl 31 rfl _ zeroBk ?_
        intro bg wr4 hbg hwbg hBr4 cg
        have hlv_cg : w8.heap.size ≤ bg := Nat.le_trans hC.size hbg
        (try have ne_g := Nat.ne_of_lt (Nat.lt_of_lt_of_le dg.lt hbg))
        (try replace og := og.grow hBr4)
        (try replace dg := vblk_grow dg hBr4)
        replace hC := hC.trans (hBr4.mono hC.size)
        refine hKC.out _ _ (⟨vblk_grow cx hC, vblk_grow cc hC⟩) (fun hHeld2 => ?_)
        clear hKC KC hHeld
        have hHeld := hHeld2
        clear hHeld2
        (try simp only [Act.put, List.setIfInBounds_toArray, List.set_cons_zero, List.set_cons_succ])
        refine wpAnyH_ready (rs := [2, 9]) (by kernel_rfl) (by simp) ?_
        refine AllReadyH.cons (o := op10_2) rfl (fun KC hKC => ?_) (AllReadyH.cons (o := op10_9) rfl (fun KC hKC => ?_) AllReadyH.nil)
        · (try unfold op10_2)
          go_simp
          go_at_call 10
          refine (htoC.out _).mono ?_
          rintro er wr2 ⟨rfl, hBr2⟩
          (try replace og := og.grow hBr2)
          (try replace cg := vblk_grow cg hBr2)
          (try replace dg := vblk_grow dg hBr2)
          replace hC := hC.trans (hBr2.mono hC.size)
          refine hKC.out _ _ (⟨vblk_grow cx hC, vblk_grow cc hC⟩) (fun hHeld2 => ?_)
          clear hKC KC hHeld
          have hHeld := hHeld2
          clear hHeld2
          (try simp only [Act.put, List.setIfInBounds_toArray, List.set_cons_zero, List.set_cons_succ])
          refine wpAnyH_ready (rs := [4, 9]) (by kernel_rfl) (by simp) ?_
          refine AllReadyH.cons (o := op10_4) rfl (fun KC hKC => ?_) (AllReadyH.cons (o := op10_9) rfl (fun KC hKC => ?_) AllReadyH.nil)
          · (try unfold op10_4)
            go_simp
            go_at_call 11
            refine (hkI.out SMK.out hl hN1 hB1x _ _ (ox.grow hC).rd (EN.out.grow (hB.trans (hC.mono hB.size)))).mono ?_
            rintro er wr3 ⟨vg, rfl, og, hBr3⟩
            obtain ⟨Ag, Ng, Kg, rfl⟩ := og.slice
            replace og := og.wide (lo' := w8.heap.size) hC.size (Nat.le_refl _)
            (try replace cg := vblk_grow cg hBr3)
            (try replace dg := vblk_grow dg hBr3)
            replace hC := hC.trans (hBr3.mono hC.size)
            refine hKC.out _ _ (⟨vblk_grow cx hC, vblk_grow cc hC⟩) (fun hHeld2 => ?_)
            clear hKC KC hHeld
            have hHeld := hHeld2
            clear hHeld2
            (try simp only [Act.put, List.setIfInBounds_toArray, List.set_cons_zero, List.set_cons_succ])
            refine wpAnyH_take (i := 5) (oi := op10_5) (v := ?_) rfl (by kernel_rfl) (by kernel_rfl) (by kernel_rfl) (fun _ _ _ h => h) (Or.inl ⟨by rfl, ?_⟩) (by assumption) ?_
            rotate_left 1
            · intro w' hSw; (try dsimp only at hSw); (try unfold op10_5); go_simp; (try with_reducible rfl)
            (try unfold op10_5)
            (try simp only [Act.put, List.setIfInBounds_toArray, List.set_cons_zero, List.set_cons_succ])
            refine wpAnyH_take (i := 6) (oi := op10_6) (v := ?_) rfl (by kernel_rfl) (by kernel_rfl) (by kernel_rfl) (fun _ _ _ h => h) (Or.inl ⟨by rfl, ?_⟩) (by assumption) ?_
            rotate_left 1
            · intro w' hSw; (try dsimp only at hSw); (try unfold op10_6); go_simp; (try with_reducible rfl)
            (try unfold op10_6)
            (try simp only [Act.put, List.setIfInBounds_toArray, List.set_cons_zero, List.set_cons_succ])
            refine wpAnyH_take (i := 7) (oi := op10_7) (v := ?_) rfl (by kernel_rfl) (by kernel_rfl) (by kernel_rfl) (fun _ _ _ h => h) (Or.inl ⟨by rfl, ?_⟩) (by assumption) ?_
            rotate_left 1
            · intro w' hSw; (try dsimp only at hSw); (try unfold op10_7); go_simp; (try with_reducible rfl)
            (try unfold op10_7)
            (try simp only [Act.put, List.setIfInBounds_toArray, List.set_cons_zero, List.set_cons_succ])
            refine wpAnyH_ready (rs := [9]) (by kernel_rfl) (by simp) ?_
            refine AllReadyH.cons (o := op10_9) rfl (fun KC hKC => ?_) AllReadyH.nil
            (try unfold op10_9)
            refine step_alloc_v rfl 33 rfl _ zeroRp ?_
            intro eg wr5 heg hweg hBr5 dg
            have hlv_dg : w8.heap.size ≤ eg := Nat.le_trans hC.size heg
            (try have ne_g := Nat.ne_of_lt (Nat.lt_of_lt_of_le cg.lt heg))
            (try replace og := og.grow hBr5)
            (try replace cg := vblk_grow cg hBr5)
            replace hC := hC.trans (hBr5.mono hC.size)
            refine hKC.out _ _ (⟨vblk_grow cx hC, vblk_grow cc hC⟩) (fun hHeld2 => ?_)
            clear hKC KC hHeld
            have hHeld := hHeld2
            clear hHeld2
            (try simp only [Act.put, List.setIfInBounds_toArray, List.set_cons_zero, List.set_cons_succ])
            exact key wr5 bg eg Ag Ng Kg hC cg dg og.top hlv_cg hlv_dg (by first | exact ne_g | exact Ne.symm ne_g) hHeld
          (try unfold op10_9)
          refine step_alloc_v rfl 33 rfl _ zeroRp ?_
          intro eg wr5 heg hweg hBr5 dg
          have hlv_dg : w8.heap.size ≤ eg := Nat.le_trans hC.size heg
          (try have ne_g := Nat.ne_of_lt (Nat.lt_of_lt_of_le cg.lt heg))
          (try replace og := og.grow hBr5)
          (try replace cg := vblk_grow cg hBr5)
          replace hC := hC.trans (hBr5.mono hC.size)
          refine hKC.out _ _ (⟨vblk_grow cx hC, vblk_grow cc hC⟩) (fun hHeld2 => ?_)
          clear hKC KC hHeld
          have hHeld := hHeld2
          clear hHeld2
          (try simp only [Act.put, List.setIfInBounds_toArray, List.set_cons_zero, List.set_cons_succ])
          refine wpAnyH_ready (rs := [4]) (by kernel_rfl) (by simp) ?_
          refine AllReadyH.cons (o := op10_4) rfl (fun KC hKC => ?_) AllReadyH.nil
          (try unfold op10_4)
          go_simp
          go_at_call 11
          refine (hkI.out SMK.out hl hN1 hB1x _ _ (ox.grow hC).rd (EN.out.grow (hB.trans (hC.mono hB.size)))).mono ?_
          rintro er wr3 ⟨vg, rfl, og, hBr3⟩
          obtain ⟨Ag, Ng, Kg, rfl⟩ := og.slice
          replace og := og.wide (lo' := w8.heap.size) hC.size (Nat.le_refl _)
          (try replace cg := vblk_grow cg hBr3)
          (try replace dg := vblk_grow dg hBr3)
          replace hC := hC.trans (hBr3.mono hC.size)
          refine hKC.out _ _ (⟨vblk_grow cx hC, vblk_grow cc hC⟩) (fun hHeld2 => ?_)
          clear hKC KC hHeld
          have hHeld := hHeld2
          clear hHeld2
          (try simp only [Act.put, List.setIfInBounds_toArray, List.set_cons_zero, List.set_cons_succ])
          refine wpAnyH_take (i := 5) (oi := op10_5) (v := ?_) rfl (by kernel_rfl) (by kernel_rfl) (by kernel_rfl) (fun _ _ _ h => h) (Or.inl ⟨by rfl, ?_⟩) (by assumption) ?_
          rotate_left 1
          · intro w' hSw; (try dsimp only at hSw); (try unfold op10_5); go_simp; (try with_reducible rfl)
          (try unfold op10_5)
          (try simp only [Act.put, List.setIfInBounds_toArray, List.set_cons_zero, List.set_cons_succ])
          refine wpAnyH_take (i := 6) (oi := op10_6) (v := ?_) rfl (by kernel_rfl) (by kernel_rfl) (by kernel_rfl) (fun _ _ _ h => h) (Or.inl ⟨by rfl, ?_⟩) (by assumption) ?_
          rotate_left 1
          · intro w' hSw; (try dsimp only at hSw); (try unfold op10_6); go_simp; (try with_reducible rfl)
          (try unfold op10_6)
          (try simp only [Act.put, List.setIfInBounds_toArray, List.set_cons_zero, List.set_cons_succ])
          refine wpAnyH_take (i := 7) (oi := op10_7) (v := ?_) rfl (by kernel_rfl) (by kernel_rfl) (by kernel_rfl) (fun _ _ _ h => h) (Or.inl ⟨by rfl, ?_⟩) (by assumption) ?_
          rotate_left 1
          · intro w' hSw; (try dsimp only at hSw); (try unfold op10_7); go_simp; (try with_reducible rfl)
          (try unfold op10_7)
          (try simp only [Act.put, List.setIfInBounds_toArray, List.set_cons_zero, List.set_cons_succ])
          exact key wr3 bg eg Ag Ng Kg hC cg dg og.top hlv_cg hlv_dg (by first | exact ne_g | exact Ne.symm ne_g) hHeld
        (try unfold op10_9)
        refine step_alloc_v rfl 33 rfl _ zeroRp ?_
        intro eg wr5 heg hweg hBr5 dg
        have hlv_dg : w8.heap.size ≤ eg := Nat.le_trans hC.size heg
        (try have ne_g := Nat.ne_of_lt (Nat.lt_of_lt_of_le cg.lt heg))
        (try replace og := og.grow hBr5)
        (try replace cg := vblk_grow cg hBr5)
        replace hC := hC.trans (hBr5.mono hC.size)
        refine hKC.out _ _ (⟨vblk_grow cx hC, vblk_grow cc hC⟩) (fun hHeld2 => ?_)
        clear hKC KC hHeld
        have hHeld := hHeld2
        clear hHeld2
        (try simp only [Act.put, List.setIfInBounds_toArray, List.set_cons_zero, List.set_cons_succ])
        refine wpAnyH_ready (rs := [2]) (by kernel_rfl) (by simp) ?_
        refine AllReadyH.cons (o := op10_2) rfl (fun KC hKC => ?_) AllReadyH.nil
        (try unfold op10_2)
        go_simp
        go_at_call 10
        refine (htoC.out _).mono ?_
        rintro er wr2 ⟨rfl, hBr2⟩
        (try replace og := og.grow hBr2)
        (try replace cg := vblk_grow cg hBr2)
        (try replace dg := vblk_grow dg hBr2)
        replace hC := hC.trans (hBr2.mono hC.size)
        refine hKC.out _ _ (⟨vblk_grow cx hC, vblk_grow cc hC⟩) (fun hHeld2 => ?_)
        clear hKC KC hHeld
        have hHeld := hHeld2
        clear hHeld2
        (try simp only [Act.put, List.setIfInBounds_toArray, List.set_cons_zero, List.set_cons_succ])
        refine wpAnyH_ready (rs := [4]) (by kernel_rfl) (by simp) ?_
        refine AllReadyH.cons (o := op10_4) rfl (fun KC hKC => ?_) AllReadyH.nil
        (try unfold op10_4)
        go_simp
        go_at_call 11
        refine (hkI.out SMK.out hl hN1 hB1x _ _ (ox.grow hC).rd (EN.out.grow (hB.trans (hC.mono hB.size)))).mono ?_
        rintro er wr3 ⟨vg, rfl, og, hBr3⟩
        obtain ⟨Ag, Ng, Kg, rfl⟩ := og.slice
        replace og := og.wide (lo' := w8.heap.size) hC.size (Nat.le_refl _)
        (try replace cg := vblk_grow cg hBr3)
        (try replace dg := vblk_grow dg hBr3)
        replace hC := hC.trans (hBr3.mono hC.size)
        refine hKC.out _ _ (⟨vblk_grow cx hC, vblk_grow cc hC⟩) (fun hHeld2 => ?_)
        clear hKC KC hHeld
        have hHeld := hHeld2
        clear hHeld2
        (try simp only [Act.put, List.setIfInBounds_toArray, List.set_cons_zero, List.set_cons_succ])
        refine wpAnyH_take (i := 5) (oi := op10_5) (v := ?_) rfl (by kernel_rfl) (by kernel_rfl) (by kernel_rfl) (fun _ _ _ h => h) (Or.inl ⟨by rfl, ?_⟩) (by assumption) ?_
        rotate_left 1
        · intro w' hSw; (try dsimp only at hSw); (try unfold op10_5); go_simp; (try with_reducible rfl)
        (try unfold op10_5)
        (try simp only [Act.put, List.setIfInBounds_toArray, List.set_cons_zero, List.set_cons_succ])
        refine wpAnyH_take (i := 6) (oi := op10_6) (v := ?_) rfl (by kernel_rfl) (by kernel_rfl) (by kernel_rfl) (fun _ _ _ h => h) (Or.inl ⟨by rfl, ?_⟩) (by assumption) ?_
        rotate_left 1
        · intro w' hSw; (try dsimp only at hSw); (try unfold op10_6); go_simp; (try with_reducible rfl)
        (try unfold op10_6)
        (try simp only [Act.put, List.setIfInBounds_toArray, List.set_cons_zero, List.set_cons_succ])
        refine wpAnyH_take (i := 7) (oi := op10_7) (v := ?_) rfl (by kernel_rfl) (by kernel_rfl) (by kernel_rfl) (fun _ _ _ h => h) (Or.inl ⟨by rfl, ?_⟩) (by assumption) ?_
        rotate_left 1
        · intro w' hSw; (try dsimp only at hSw); (try unfold op10_7); go_simp; (try with_reducible rfl)
        (try unfold op10_7)
        (try simp only [Act.put, List.setIfInBounds_toArray, List.set_cons_zero, List.set_cons_succ])
        exact key wr3 bg eg Ag Ng Kg hC cg dg og.top hlv_cg hlv_dg (by first | exact ne_g | exact Ne.symm ne_g) hHeld
      (try unfold op10_9)
      refine step_alloc_v rfl 33 rfl _ zeroRp ?_
      intro eg wr5 heg hweg hBr5 dg
      have hlv_dg : w8.heap.size ≤ eg := Nat.le_trans hC.size heg
      (try have ne_g := Nat.ne_of_lt (Nat.lt_of_lt_of_le cg.lt heg))
      (try replace og := og.grow hBr5)
      (try replace cg := vblk_grow cg hBr5)
      replace hC := hC.trans (hBr5.mono hC.size)
      refine hKC.out _ _ (⟨vblk_grow cx hC, vblk_grow cc hC⟩) (fun hHeld2 => ?_)
      clear hKC KC hHeld
      have hHeld := hHeld2
      clear hHeld2
      (try simp only [Act.put, List.setIfInBounds_toArray, List.set_cons_zero, List.set_cons_succ])
      refine wpAnyH_ready (rs := [2, 8]) (by kernel_rfl) (by simp) ?_
      refine AllReadyH.cons (o := op10_2) rfl (fun KC hKC => ?_) (AllReadyH.cons (o := op10_8) rfl (fun KC hKC => ?_) AllReadyH.nil)
      · (try unfold op10_2)
        go_simp
        go_at_call 10
        refine (htoC.out _).mono ?_
        rintro er wr2 ⟨rfl, hBr2⟩
        (try replace og := og.grow hBr2)
        (try replace cg := vblk_grow cg hBr2)
        (try replace dg := vblk_grow dg hBr2)
        replace hC := hC.trans (hBr2.mono hC.size)
        refine hKC.out _ _ (⟨vblk_grow cx hC, vblk_grow cc hC⟩) (fun hHeld2 => ?_)
        clear hKC KC hHeld
        have hHeld := hHeld2
        clear hHeld2
        (try simp only [Act.put, List.setIfInBounds_toArray, List.set_cons_zero, List.set_cons_succ])
        refine wpAnyH_ready (rs := [4, 8]) (by kernel_rfl) (by simp) ?_
        refine AllReadyH.cons (o := op10_4) rfl (fun KC hKC => ?_) (AllReadyH.cons (o := op10_8) rfl (fun KC hKC => ?_) AllReadyH.nil)
        · (try unfold op10_4)
          go_simp
          go_at_call 11
          refine (hkI.out SMK.out hl hN1 hB1x _ _ (ox.grow hC).rd (EN.out.grow (hB.trans (hC.mono hB.size)))).mono ?_
          rintro er wr3 ⟨vg, rfl, og, hBr3⟩
          obtain ⟨Ag, Ng, Kg, rfl⟩ := og.slice
          replace og := og.wide (lo' := w8.heap.size) hC.size (Nat.le_refl _)
          (try replace cg := vblk_grow cg hBr3)
          (try replace dg := vblk_grow dg hBr3)
          replace hC := hC.trans (hBr3.mono hC.size)
          refine hKC.out _ _ (⟨vblk_grow cx hC, vblk_grow cc hC⟩) (fun hHeld2 => ?_)
          clear hKC KC hHeld
          have hHeld := hHeld2
          clear hHeld2
          (try simp only [Act.put, List.setIfInBounds_toArray, List.set_cons_zero, List.set_cons_succ])
          refine wpAnyH_take (i := 5) (oi := op10_5) (v := ?_) rfl (by kernel_rfl) (by kernel_rfl) (by kernel_rfl) (fun _ _ _ h => h) (Or.inl ⟨by rfl, ?_⟩) (by assumption) ?_
          rotate_left 1
          · intro w' hSw; (try dsimp only at hSw); (try unfold op10_5); go_simp; (try with_reducible rfl)
          (try unfold op10_5)
          (try simp only [Act.put, List.setIfInBounds_toArray, List.set_cons_zero, List.set_cons_succ])
          refine wpAnyH_take (i := 6) (oi := op10_6) (v := ?_) rfl (by kernel_rfl) (by kernel_rfl) (by kernel_rfl) (fun _ _ _ h => h) (Or.inl ⟨by rfl, ?_⟩) (by assumption) ?_
          rotate_left 1
          · intro w' hSw; (try dsimp only at hSw); (try unfold op10_6); go_simp; (try with_reducible rfl)
          (try unfold op10_6)
          (try simp only [Act.put, List.setIfInBounds_toArray, List.set_cons_zero, List.set_cons_succ])
          refine wpAnyH_take (i := 7) (oi := op10_7) (v := ?_) rfl (by kernel_rfl) (by kernel_rfl) (by kernel_rfl) (fun _ _ _ h => h) (Or.inl ⟨by rfl, ?_⟩) (by assumption) ?_
          rotate_left 1
          · intro w' hSw; (try dsimp only at hSw); (try unfold op10_7); go_simp; (try with_reducible rfl)
          (try unfold op10_7)
          (try simp only [Act.put, List.setIfInBounds_toArray, List.set_cons_zero, List.set_cons_succ])
          refine wpAnyH_ready (rs := [8]) (by kernel_rfl) (by simp) ?_
          refine AllReadyH.cons (o := op10_8) rfl (fun KC hKC => ?_) AllReadyH.nil
          (try unfold op10_8)
          refine step_alloc_v rfl 31 rfl _ zeroBk ?_
          intro bg wr4 hbg hwbg hBr4 cg
          have hlv_cg : w8.heap.size ≤ bg := Nat.le_trans hC.size hbg
          (try have ne_g := Nat.ne_of_lt (Nat.lt_of_lt_of_le dg.lt hbg))
          (try replace og := og.grow hBr4)
          (try replace dg := vblk_grow dg hBr4)
          replace hC := hC.trans (hBr4.mono hC.size)
          refine hKC.out _ _ (⟨vblk_grow cx hC, vblk_grow cc hC⟩) (fun hHeld2 => ?_)
          clear hKC KC hHeld
          have hHeld := hHeld2
          clear hHeld2
          (try simp only [Act.put, List.setIfInBounds_toArray, List.set_cons_zero, List.set_cons_succ])
          exact key wr4 bg eg Ag Ng Kg hC cg dg og.top hlv_cg hlv_dg (by first | exact ne_g | exact Ne.symm ne_g) hHeld
        (try unfold op10_8)
        refine step_alloc_v rfl 31 rfl _ zeroBk ?_
        intro bg wr4 hbg hwbg hBr4 cg
        have hlv_cg : w8.heap.size ≤ bg := Nat.le_trans hC.size hbg
        (try have ne_g := Nat.ne_of_lt (Nat.lt_of_lt_of_le dg.lt hbg))
        (try replace og := og.grow hBr4)
        (try replace dg := vblk_grow dg hBr4)
        replace hC := hC.trans (hBr4.mono hC.size)
        refine hKC.out _ _ (⟨vblk_grow cx hC, vblk_grow cc hC⟩) (fun hHeld2 => ?_)
        clear hKC KC hHeld
        have hHeld := hHeld2
        clear hHeld2
        (try simp only [Act.put, List.setIfInBounds_toArray, List.set_cons_zero, List.set_cons_succ])
        refine wpAnyH_ready (rs := [4]) (by kernel_rfl) (by simp) ?_
        refine AllReadyH.cons (o := op10_4) rfl (fun KC hKC => ?_) AllReadyH.nil
        (try unfold op10_4)
        go_simp
        go_at_call 11
        refine (hkI.out SMK.out hl hN1 hB1x _ _ (ox.grow hC).rd (EN.out.grow (hB.trans (hC.mono hB.size)))).mono ?_
        rintro er wr3 ⟨vg, rfl, og, hBr3⟩
        obtain ⟨Ag, Ng, Kg, rfl⟩ := og.slice
        replace og := og.wide (lo' := w8.heap.size) hC.size (Nat.le_refl _)
        (try replace cg := vblk_grow cg hBr3)
        (try replace dg := vblk_grow dg hBr3)
        replace hC := hC.trans (hBr3.mono hC.size)
        refine hKC.out _ _ (⟨vblk_grow cx hC, vblk_grow cc hC⟩) (fun hHeld2 => ?_)
        clear hKC KC hHeld
        have hHeld := hHeld2
        clear hHeld2
        (try simp only [Act.put, List.setIfInBounds_toArray, List.set_cons_zero, List.set_cons_succ])
        refine wpAnyH_take (i := 5) (oi := op10_5) (v := ?_) rfl (by kernel_rfl) (by kernel_rfl) (by kernel_rfl) (fun _ _ _ h => h) (Or.inl ⟨by rfl, ?_⟩) (by assumption) ?_
        rotate_left 1
        · intro w' hSw; (try dsimp only at hSw); (try unfold op10_5); go_simp; (try with_reducible rfl)
        (try unfold op10_5)
        (try simp only [Act.put, List.setIfInBounds_toArray, List.set_cons_zero, List.set_cons_succ])
        refine wpAnyH_take (i := 6) (oi := op10_6) (v := ?_) rfl (by kernel_rfl) (by kernel_rfl) (by kernel_rfl) (fun _ _ _ h => h) (Or.inl ⟨by rfl, ?_⟩) (by assumption) ?_
        rotate_left 1
        · intro w' hSw; (try dsimp only at hSw); (try unfold op10_6); go_simp; (try with_reducible rfl)
        (try unfold op10_6)
        (try simp only [Act.put, List.setIfInBounds_toArray, List.set_cons_zero, List.set_cons_succ])
        refine wpAnyH_take (i := 7) (oi := op10_7) (v := ?_) rfl (by kernel_rfl) (by kernel_rfl) (by kernel_rfl) (fun _ _ _ h => h) (Or.inl ⟨by rfl, ?_⟩) (by assumption) ?_
        rotate_left 1
        · intro w' hSw; (try dsimp only at hSw); (try unfold op10_7); go_simp; (try with_reducible rfl)
        (try unfold op10_7)
        (try simp only [Act.put, List.setIfInBounds_toArray, List.set_cons_zero, List.set_cons_succ])
        exact key wr3 bg eg Ag Ng Kg hC cg dg og.top hlv_cg hlv_dg (by first | exact ne_g | exact Ne.symm ne_g) hHeld
      (try unfold op10_8)
      refine step_alloc_v rfl 31 rfl _ zeroBk ?_
      intro bg wr4 hbg hwbg hBr4 cg
      have hlv_cg : w8.heap.size ≤ bg := Nat.le_trans hC.size hbg
      (try have ne_g := Nat.ne_of_lt (Nat.lt_of_lt_of_le dg.lt hbg))
      (try replace og := og.grow hBr4)
      (try replace dg := vblk_grow dg hBr4)
      replace hC := hC.trans (hBr4.mono hC.size)
      refine hKC.out _ _ (⟨vblk_grow cx hC, vblk_grow cc hC⟩) (fun hHeld2 => ?_)
      clear hKC KC hHeld
      have hHeld := hHeld2
      clear hHeld2
      (try simp only [Act.put, List.setIfInBounds_toArray, List.set_cons_zero, List.set_cons_succ])
      refine wpAnyH_ready (rs := [2]) (by kernel_rfl) (by simp) ?_
      refine AllReadyH.cons (o := op10_2) rfl (fun KC hKC => ?_) AllReadyH.nil
      (try unfold op10_2)
      go_simp
      go_at_call 10
      refine (htoC.out _).mono ?_
      rintro er wr2 ⟨rfl, hBr2⟩
      (try replace og := og.grow hBr2)
      (try replace cg := vblk_grow cg hBr2)
      (try replace dg := vblk_grow dg hBr2)
      replace hC := hC.trans (hBr2.mono hC.size)
      refine hKC.out _ _ (⟨vblk_grow cx hC, vblk_grow cc hC⟩) (fun hHeld2 => ?_)
      clear hKC KC hHeld
      have hHeld := hHeld2
      clear hHeld2
      (try simp only [Act.put, List.setIfInBounds_toArray, List.set_cons_zero, List.set_cons_succ])
      refine wpAnyH_ready (rs := [4]) (by kernel_rfl) (by simp) ?_
      refine AllReadyH.cons (o := op10_4) rfl (fun KC hKC => ?_) AllReadyH.nil
      (try unfold op10_4)
      go_simp
      go_at_call 11
      refine (hkI.out SMK.out hl hN1 hB1x _ _ (ox.grow hC).rd (EN.out.grow (hB.trans (hC.mono hB.size)))).mono ?_
      rintro er wr3 ⟨vg, rfl, og, hBr3⟩
      obtain ⟨Ag, Ng, Kg, rfl⟩ := og.slice
      replace og := og.wide (lo' := w8.heap.size) hC.size (Nat.le_refl _)
      (try replace cg := vblk_grow cg hBr3)
      (try replace dg := vblk_grow dg hBr3)
      replace hC := hC.trans (hBr3.mono hC.size)
      refine hKC.out _ _ (⟨vblk_grow cx hC, vblk_grow cc hC⟩) (fun hHeld2 => ?_)
      clear hKC KC hHeld
      have hHeld := hHeld2
      clear hHeld2
      (try simp only [Act.put, List.setIfInBounds_toArray, List.set_cons_zero, List.set_cons_succ])
      refine wpAnyH_take (i := 5) (oi := op10_5) (v := ?_) rfl (by kernel_rfl) (by kernel_rfl) (by kernel_rfl) (fun _ _ _ h => h) (Or.inl ⟨by rfl, ?_⟩) (by assumption) ?_
      rotate_left 1
      · intro w' hSw; (try dsimp only at hSw); (try unfold op10_5); go_simp; (try with_reducible rfl)
      (try unfold op10_5)
      (try simp only [Act.put, List.setIfInBounds_toArray, List.set_cons_zero, List.set_cons_succ])
      refine wpAnyH_take (i := 6) (oi := op10_6) (v := ?_) rfl (by kernel_rfl) (by kernel_rfl) (by kernel_rfl) (fun _ _ _ h => h) (Or.inl ⟨by rfl, ?_⟩) (by assumption) ?_
      rotate_left 1
      · intro w' hSw; (try dsimp only at hSw); (try unfold op10_6); go_simp; (try with_reducible rfl)
      (try unfold op10_6)
      (try simp only [Act.put, List.setIfInBounds_toArray, List.set_cons_zero, List.set_cons_succ])
      refine wpAnyH_take (i := 7) (oi := op10_7) (v := ?_) rfl (by kernel_rfl) (by kernel_rfl) (by kernel_rfl) (fun _ _ _ h => h) (Or.inl ⟨by rfl, ?_⟩) (by assumption) ?_
      rotate_left 1
      · intro w' hSw; (try dsimp only at hSw); (try unfold op10_7); go_simp; (try with_reducible rfl)
      (try unfold op10_7)
      (try simp only [Act.put, List.setIfInBounds_toArray, List.set_cons_zero, List.set_cons_succ])
      exact key wr3 bg eg Ag Ng Kg hC cg dg og.top hlv_cg hlv_dg (by first | exact ne_g | exact Ne.symm ne_g) hHeld
    case key =>
      intro wk bg eg Ag Ng Kg hC cg dg og hlv_cg hlv_dg ne_g hHeld
      refine wpAnyH_ready (rs := [10]) (by kernel_rfl) (by simp) ?_
      refine AllReadyH.cons (o := op10_10) rfl (fun KC hKC => ?_) AllReadyH.nil
      (try unfold op10_10)
      refine step_store_v rfl 31 _ _ rfl bg [.slice Ag Ng Kg, .int .i64 Y] rfl rfl sizeBk cg rfl (oneBk _ _ _ _) ?_
      intro wr6 hOr6 cgx
      (try replace og := og.only hOr6 cg (by decide))
      (try replace dg := vblk_only dg hOr6 (by first | exact ne_g | exact Ne.symm ne_g))
      replace hC := hC.trans (hOr6.2.2 _ hlv_cg)
      replace cg := cgx
      refine hKC.out _ _ (⟨vblk_grow cx hC, vblk_grow cc hC⟩) (fun hHeld2 => ?_)
      clear hKC KC hHeld
      have hHeld := hHeld2
      clear hHeld2
      (try simp only [Act.put])
      refine wpAnyH_ready (rs := [11]) (by kernel_rfl) (by simp) ?_
      refine AllReadyH.cons (o := op10_11) rfl (fun KC hKC => ?_) AllReadyH.nil
      (try unfold op10_11)
      refine step_store_v rfl 33 _ _ rfl eg [x1, x2, x3, x4, x5, x6] rfl rfl sizeRp dg rfl hk6.out ?_
      intro wr7 hOr7 dgx
      (try replace og := og.only hOr7 dg (by decide))
      (try replace cg := vblk_only cg hOr7 (by first | exact ne_g | exact Ne.symm ne_g))
      replace hC := hC.trans (hOr7.2.2 _ hlv_dg)
      replace dg := dgx
      refine hKC.out _ _ (⟨vblk_grow cx hC, vblk_grow cc hC⟩) (fun hHeld2 => ?_)
      clear hKC KC hHeld
      have hHeld := hHeld2
      clear hHeld2
      (try simp only [Act.put])
      refine wpAnyH_done (by kernel_rfl) ?_ _
      go_wp2
      go_meet
      case rel => exact ⟨bg, eg, Ag, Ng, Kg, rfl, rfl, hC, vblk_grow ca hC, vblk_grow cc hC, vblk_grow cw hC, vblk_grow dw hC, vblk_grow cx hC, ow.grow hC, ox.grow hC, cg, dg, og.top⟩
  case rest =>
  obtain ⟨bg, eg, Ag, Ng, Kg, rfl, rfl, n_hC, n_ca, n_cc, n_cw, n_dw, n_cx, n_ow, n_ox, n_cg, n_dg, n_og⟩ := hcut
  rename World => w9
  clear ow
  clear ox
  clear ca
  clear cc
  clear cw
  clear dw
  clear cx
  clear ca0 ca1
  clear cw0 cw1
  clear dw0 dw1 dw2 dw3 dw4 dw5
  clear cx0 cx1
  have hC := n_hC
  clear n_hC
  have ca := n_ca
  clear n_ca
  have cc := n_cc
  clear n_cc
  have cw := n_cw
  clear n_cw
  have dw := n_dw
  clear n_dw
  have cx := n_cx
  clear n_cx
  have ow := n_ow
  clear n_ow
  have ox := n_ox
  clear n_ox
  have cg := n_cg
  clear n_cg
  have dg := n_dg
  clear n_dg
  have og := n_og
  clear n_og
  have hz9 : w8.heap.size ≤ w9.heap.size := hC.size
  replace hB := hB.trans (hC.mono (by omega))
  replace hzw := hB.size
  clear hC
  obtain ⟨ca0, ca1⟩ := cells2 ca
  obtain ⟨cw0, cw1⟩ := cells2 cw
  obtain ⟨dw0, dw1, dw2, dw3, dw4, dw5⟩ := cellsRp dw
  obtain ⟨cx0, cx1⟩ := cells2 cx
  obtain ⟨cg0, cg1⟩ := cells2 cg
  obtain ⟨dg0, dg1, dg2, dg3, dg4, dg5⟩ := cellsRp dg
  have hl_cg := cg.lt
  have hl_dg := dg.lt
  have mk9 : Hid True := trivial
  have mk10 : Hid True := trivial
  go_upto_region 13 with (first | (clear mk9; go_at_call 12; refine (eqBook_any J Y _ _ _ og.rd ow.rd).mono ?_; rintro er w10 ⟨rfl, hB10⟩; have hz10 : w9.heap.size ≤ w10.heap.size := hB10.size; replace ow := ow.grow hB10; replace ox := ox.grow hB10; replace og := og.grow hB10; replace ca := vblk_grow ca hB10; replace cc := vblk_grow cc hB10; replace cw := vblk_grow cw hB10; replace dw := vblk_grow dw hB10; replace cx := vblk_grow cx hB10; replace cg := vblk_grow cg hB10; replace dg := vblk_grow dg hB10; replace hB := hB.trans (hB10.mono (by omega)); replace hzw := hB.size; clear ca0 ca1; obtain ⟨ca0, ca1⟩ := cells2 ca; clear cw0 cw1; obtain ⟨cw0, cw1⟩ := cells2 cw; clear dw0 dw1 dw2 dw3 dw4 dw5; obtain ⟨dw0, dw1, dw2, dw3, dw4, dw5⟩ := cellsRp dw; clear cx0 cx1; obtain ⟨cx0, cx1⟩ := cells2 cx; clear cg0 cg1; obtain ⟨cg0, cg1⟩ := cells2 cg; clear dg0 dg1 dg2 dg3 dg4 dg5; obtain ⟨dg0, dg1, dg2, dg3, dg4, dg5⟩ := cellsRp dg) | (clear mk10; go_at_call 13; refine (hkq.out _).mono ?_; rintro er w11 ⟨rfl, hB11⟩; have hz11 : w10.heap.size ≤ w11.heap.size := hB11.size; replace ow := ow.grow hB11; replace ox := ox.grow hB11; replace og := og.grow hB11; replace ca := vblk_grow ca hB11; replace cc := vblk_grow cc hB11; replace cw := vblk_grow cw hB11; replace dw := vblk_grow dw hB11; replace cx := vblk_grow cx hB11; replace cg := vblk_grow cg hB11; replace dg := vblk_grow dg hB11; replace hB := hB.trans (hB11.mono (by omega)); replace hzw := hB.size; clear ca0 ca1; obtain ⟨ca0, ca1⟩ := cells2 ca; clear cw0 cw1; obtain ⟨cw0, cw1⟩ := cells2 cw; clear dw0 dw1 dw2 dw3 dw4 dw5; obtain ⟨dw0, dw1, dw2, dw3, dw4, dw5⟩ := cellsRp dw; clear cx0 cx1; obtain ⟨cx0, cx1⟩ := cells2 cx; clear cg0 cg1; obtain ⟨cg0, cg1⟩ := cells2 cg; clear dg0 dg1 dg2 dg3 dg4 dg5; obtain ⟨dg0, dg1, dg2, dg3, dg4, dg5⟩ := cellsRp dg) | (fail))
  have hBd : Below w11.heap.size w11 w11.drew := (Below.refl _ _).drew
  have hzd : w11.drew.heap.size ≤ w11.heap.size := Nat.le_refl _
  have hzd2 : w11.heap.size ≤ w11.drew.heap.size := Nat.le_refl _
  replace ow := ow.grow hBd
  replace ox := ox.grow hBd
  replace og := og.grow hBd
  replace ca := vblk_grow ca hBd
  clear ca0 ca1
  obtain ⟨ca0, ca1⟩ := cells2 ca
  replace cc := vblk_grow cc hBd
  replace cw := vblk_grow cw hBd
  clear cw0 cw1
  obtain ⟨cw0, cw1⟩ := cells2 cw
  replace dw := vblk_grow dw hBd
  clear dw0 dw1 dw2 dw3 dw4 dw5
  obtain ⟨dw0, dw1, dw2, dw3, dw4, dw5⟩ := cellsRp dw
  replace cx := vblk_grow cx hBd
  clear cx0 cx1
  obtain ⟨cx0, cx1⟩ := cells2 cx
  replace cg := vblk_grow cg hBd
  clear cg0 cg1
  obtain ⟨cg0, cg1⟩ := cells2 cg
  replace dg := vblk_grow dg hBd
  clear dg0 dg1 dg2 dg3 dg4 dg5
  obtain ⟨dg0, dg1, dg2, dg3, dg4, dg5⟩ := cellsRp dg
  replace hB := hB.trans (hBd.mono (by omega))
  replace hzw := hB.size
  have S1 : (w11.drew.cell? ⟨bx, 0, none⟩ = some (.slice Ax Nx Kx) ∧ w11.drew.cell? ⟨bx, 1, none⟩ = some (.int .i64 X) ∧ w11.drew.cell? ⟨ba, 0, none⟩ = some (.slice a I.length cap) ∧ w11.drew.cell? ⟨ba, 1, none⟩ = some (.int .i64 X)) := ⟨cx0, cx1, ca0, ca1⟩
  have mk11 : Hid True := trivial
  have mk12 : Hid True := trivial
  go_region_held3 (fun w' => (w'.cell? ⟨bx, 0, none⟩ = some (.slice Ax Nx Kx) ∧ w'.cell? ⟨bx, 1, none⟩ = some (.int .i64 X) ∧ w'.cell? ⟨ba, 0, none⟩ = some (.slice a I.length cap) ∧ w'.cell? ⟨ba, 1, none⟩ = some (.int .i64 X))) (first | with_reducible assumption | with_reducible exact S1 | (fail)) (first | (clear mk11; go_at_call 9; refine (toBook_any I X _ (w11.drew) (R.out.grow hB) hl).mono ?_; rintro er w12 ⟨vy, rfl, oy, hB12⟩; have hz12 : w11.drew.heap.size ≤ w12.heap.size := hB12.size; replace ow := ow.grow hB12; replace ox := ox.grow hB12; replace og := og.grow hB12; replace ca := vblk_grow ca hB12; replace cc := vblk_grow cc hB12; replace cw := vblk_grow cw hB12; replace dw := vblk_grow dw hB12; replace cx := vblk_grow cx hB12; replace cg := vblk_grow cg hB12; replace dg := vblk_grow dg hB12; replace hB := hB.trans (hB12.mono (by omega)); replace hzw := hB.size; clear ca0 ca1; obtain ⟨ca0, ca1⟩ := cells2 ca; clear cw0 cw1; obtain ⟨cw0, cw1⟩ := cells2 cw; clear dw0 dw1 dw2 dw3 dw4 dw5; obtain ⟨dw0, dw1, dw2, dw3, dw4, dw5⟩ := cellsRp dw; clear cx0 cx1; obtain ⟨cx0, cx1⟩ := cells2 cx; clear cg0 cg1; obtain ⟨cg0, cg1⟩ := cells2 cg; clear dg0 dg1 dg2 dg3 dg4 dg5; obtain ⟨dg0, dg1, dg2, dg3, dg4, dg5⟩ := cellsRp dg; obtain ⟨Ay, Ny, Ky, rfl⟩ := oy.slice; have S2 : (w12.cell? ⟨bx, 0, none⟩ = some (.slice Ax Nx Kx) ∧ w12.cell? ⟨bx, 1, none⟩ = some (.int .i64 X) ∧ w12.cell? ⟨ba, 0, none⟩ = some (.slice a I.length cap) ∧ w12.cell? ⟨ba, 1, none⟩ = some (.int .i64 X)) := ⟨cx0, cx1, ca0, ca1⟩) | (clear mk12; go_at_call 12; refine (eqBook_any I X _ _ _ ox.rd oy.rd).mono ?_; rintro er w13 ⟨rfl, hB13⟩; have hz13 : w12.heap.size ≤ w13.heap.size := hB13.size; replace ow := ow.grow hB13; replace ox := ox.grow hB13; replace og := og.grow hB13; replace ca := vblk_grow ca hB13; replace cc := vblk_grow cc hB13; replace cw := vblk_grow cw hB13; replace dw := vblk_grow dw hB13; replace cx := vblk_grow cx hB13; replace cg := vblk_grow cg hB13; replace dg := vblk_grow dg hB13; replace hB := hB.trans (hB13.mono (by omega)); replace hzw := hB.size; clear ca0 ca1; obtain ⟨ca0, ca1⟩ := cells2 ca; clear cw0 cw1; obtain ⟨cw0, cw1⟩ := cells2 cw; clear dw0 dw1 dw2 dw3 dw4 dw5; obtain ⟨dw0, dw1, dw2, dw3, dw4, dw5⟩ := cellsRp dw; clear cx0 cx1; obtain ⟨cx0, cx1⟩ := cells2 cx; clear cg0 cg1; obtain ⟨cg0, cg1⟩ := cells2 cg; clear dg0 dg1 dg2 dg3 dg4 dg5; obtain ⟨dg0, dg1, dg2, dg3, dg4, dg5⟩ := cellsRp dg; have S3 : (w13.cell? ⟨bx, 0, none⟩ = some (.slice Ax Nx Kx) ∧ w13.cell? ⟨bx, 1, none⟩ = some (.int .i64 X) ∧ w13.cell? ⟨ba, 0, none⟩ = some (.slice a I.length cap) ∧ w13.cell? ⟨ba, 1, none⟩ = some (.int .i64 X)) := ⟨cx0, cx1, ca0, ca1⟩) | (fail))
  clear S1 hBd
  clear oy
  have mk13 : Hid True := trivial
  have mk14 : Hid True := trivial
  have mk15 : Hid True := trivial
  have mk16 : Hid True := trivial
  have mk17 : Hid True := trivial
  go_upto_region 27 with (first | (clear mk13; go_at_call 14; refine (markBook_any I X _ _ _ 1 (by omega) (by omega) mk hmk.out _ ox (by omega)).mono ?_; rintro er w14 ⟨rfl, -, hM14, hY14⟩; have hz14 : w13.heap.size ≤ w14.heap.size := hM14.size; replace ow := ow.within hM14 (by omega); replace og := og.within hM14 (by omega); replace ca := hY14.vblk ca (by decide); replace cc := hY14.vblk cc (by decide); replace cw := hY14.vblk cw (by decide); replace dw := hY14.vblk dw (by decide); replace cx := hY14.vblk cx (by decide); replace cg := hY14.vblk cg (by decide); replace dg := hY14.vblk dg (by decide); replace hB := hB.trans (hM14.below (by omega) (by omega)); replace hzw := hB.size; clear ca0 ca1; obtain ⟨ca0, ca1⟩ := cells2 ca; clear cw0 cw1; obtain ⟨cw0, cw1⟩ := cells2 cw; clear dw0 dw1 dw2 dw3 dw4 dw5; obtain ⟨dw0, dw1, dw2, dw3, dw4, dw5⟩ := cellsRp dw; clear cx0 cx1; obtain ⟨cx0, cx1⟩ := cells2 cx; clear cg0 cg1; obtain ⟨cg0, cg1⟩ := cells2 cg; clear dg0 dg1 dg2 dg3 dg4 dg5; obtain ⟨dg0, dg1, dg2, dg3, dg4, dg5⟩ := cellsRp dg) | (clear mk14; go_at_call 12; refine (eqBook_any J Y _ _ _ og.rd ow.rd).mono ?_; rintro er w15 ⟨rfl, hB15⟩; have hz15 : w14.heap.size ≤ w15.heap.size := hB15.size; replace ow := ow.grow hB15; replace og := og.grow hB15; replace ca := vblk_grow ca hB15; replace cc := vblk_grow cc hB15; replace cw := vblk_grow cw hB15; replace dw := vblk_grow dw hB15; replace cx := vblk_grow cx hB15; replace cg := vblk_grow cg hB15; replace dg := vblk_grow dg hB15; replace hB := hB.trans (hB15.mono (by omega)); replace hzw := hB.size; clear ca0 ca1; obtain ⟨ca0, ca1⟩ := cells2 ca; clear cw0 cw1; obtain ⟨cw0, cw1⟩ := cells2 cw; clear dw0 dw1 dw2 dw3 dw4 dw5; obtain ⟨dw0, dw1, dw2, dw3, dw4, dw5⟩ := cellsRp dw; clear cx0 cx1; obtain ⟨cx0, cx1⟩ := cells2 cx; clear cg0 cg1; obtain ⟨cg0, cg1⟩ := cells2 cg; clear dg0 dg1 dg2 dg3 dg4 dg5; obtain ⟨dg0, dg1, dg2, dg3, dg4, dg5⟩ := cellsRp dg) | (clear mk15; go_at_call 13; refine (hkq.out _).mono ?_; rintro er w16 ⟨rfl, hB16⟩; have hz16 : w15.heap.size ≤ w16.heap.size := hB16.size; replace ow := ow.grow hB16; replace og := og.grow hB16; replace ca := vblk_grow ca hB16; replace cc := vblk_grow cc hB16; replace cw := vblk_grow cw hB16; replace dw := vblk_grow dw hB16; replace cx := vblk_grow cx hB16; replace cg := vblk_grow cg hB16; replace dg := vblk_grow dg hB16; replace hB := hB.trans (hB16.mono (by omega)); replace hzw := hB.size; clear ca0 ca1; obtain ⟨ca0, ca1⟩ := cells2 ca; clear cw0 cw1; obtain ⟨cw0, cw1⟩ := cells2 cw; clear dw0 dw1 dw2 dw3 dw4 dw5; obtain ⟨dw0, dw1, dw2, dw3, dw4, dw5⟩ := cellsRp dw; clear cx0 cx1; obtain ⟨cx0, cx1⟩ := cells2 cx; clear cg0 cg1; obtain ⟨cg0, cg1⟩ := cells2 cg; clear dg0 dg1 dg2 dg3 dg4 dg5; obtain ⟨dg0, dg1, dg2, dg3, dg4, dg5⟩ := cellsRp dg) | (clear mk16; go_at_call 14; refine (markBook_any J Y _ _ _ 1 (by omega) (by omega) mj hmj.out _ og (by omega)).mono ?_; rintro er w17 ⟨rfl, pg, hM17, hY17⟩; have hz17 : w16.heap.size ≤ w17.heap.size := hM17.size; replace ow := ow.within hM17 (by omega); replace ca := hY17.vblk ca (by decide); replace cc := hY17.vblk cc (by decide); replace cw := hY17.vblk cw (by decide); replace dw := hY17.vblk dw (by decide); replace cx := hY17.vblk cx (by decide); replace cg := hY17.vblk cg (by decide); replace dg := hY17.vblk dg (by decide); replace hB := hB.trans (hM17.below (by omega) (by omega)); replace hzw := hB.size; clear ca0 ca1; obtain ⟨ca0, ca1⟩ := cells2 ca; clear cw0 cw1; obtain ⟨cw0, cw1⟩ := cells2 cw; clear dw0 dw1 dw2 dw3 dw4 dw5; obtain ⟨dw0, dw1, dw2, dw3, dw4, dw5⟩ := cellsRp dw; clear cx0 cx1; obtain ⟨cx0, cx1⟩ := cells2 cx; clear cg0 cg1; obtain ⟨cg0, cg1⟩ := cells2 cg; clear dg0 dg1 dg2 dg3 dg4 dg5; obtain ⟨dg0, dg1, dg2, dg3, dg4, dg5⟩ := cellsRp dg) | (clear mk17; go_at_call 15; refine (heldBook_any J.length Y _ 1 (by omega) (by omega) mj hmj.out _ pg.rd).mono ?_; rintro er w18 ⟨rfl, hB18⟩; have hz18 : w17.heap.size ≤ w18.heap.size := hB18.size; replace ow := ow.grow hB18; replace pg := pg.grow hB18; replace ca := vblk_grow ca hB18; replace cc := vblk_grow cc hB18; replace cw := vblk_grow cw hB18; replace dw := vblk_grow dw hB18; replace cx := vblk_grow cx hB18; replace cg := vblk_grow cg hB18; replace dg := vblk_grow dg hB18; replace hB := hB.trans (hB18.mono (by omega)); replace hzw := hB.size; clear ca0 ca1; obtain ⟨ca0, ca1⟩ := cells2 ca; clear cw0 cw1; obtain ⟨cw0, cw1⟩ := cells2 cw; clear dw0 dw1 dw2 dw3 dw4 dw5; obtain ⟨dw0, dw1, dw2, dw3, dw4, dw5⟩ := cellsRp dw; clear cx0 cx1; obtain ⟨cx0, cx1⟩ := cells2 cx; clear cg0 cg1; obtain ⟨cg0, cg1⟩ := cells2 cg; clear dg0 dg1 dg2 dg3 dg4 dg5; obtain ⟨dg0, dg1, dg2, dg3, dg4, dg5⟩ := cellsRp dg) | (fail))
  obtain ⟨pl, ph, pp⟩ : ∃ l h, ro.Own encIt w18 l h (.slice Ag Ng Kg) (mksIt 1 J.length) := ⟨_, _, pg⟩
  clear pg
  have pg := pp
  clear pp
  (try simp only [Act.put])
  (try simp only [List.setIfInBounds_toArray, List.set_cons_zero, List.set_cons_succ])
  go_cut [16, 17] from 90 to 99 (fun s16 s17 wc => ∃ (bh : Nat) (eh : Nat) (Ah : Option Addr) (Nh Kh : Nat), s16 = .pointer (some ⟨bh, 0, none⟩) ∧ s17 = .pointer (some ⟨eh, 0, none⟩) ∧ Below w18.heap.size w18 wc ∧ VBlk wc ba 24 [.slice a I.length cap, .int .i64 X] ∧ VBlk wc bc 26 lC ∧ VBlk wc bw 31 [.slice Aw Nw Kw, .int .i64 Y] ∧ VBlk wc ew 33 [x1, x2, x3, x4, x5, x6] ∧ VBlk wc bx 31 [.slice Ax Nx Kx, .int .i64 X] ∧ VBlk wc bg 31 [.slice Ag Ng Kg, .int .i64 Y] ∧ VBlk wc eg 33 [x1, x2, x3, x4, x5, x6] ∧ ro.Own encIt wc w4.heap.size w5.heap.size (.slice Aw Nw Kw) J ∧ ro.Own encIt wc pl ph (.slice Ag Ng Kg) (mksIt 1 J.length) ∧ VBlk wc bh 31 [.slice Ah Nh Kh, .int .i64 Y] ∧ VBlk wc eh 33 [x1, x2, x3, x4, x5, x6] ∧ ro.Own encIt wc w18.heap.size wc.heap.size (.slice Ah Nh Kh) J)
  case first =>
    have hC : Below w18.heap.size w18 w18.drew := (Below.refl _ _).drew
    clear ca0 ca1
    clear cw0 cw1
    clear dw0 dw1 dw2 dw3 dw4 dw5
    clear cx0 cx1
    clear cg0 cg1
    clear dg0 dg1 dg2 dg3 dg4 dg5
    apply with_key (T := ∀ (wk : World) (bh eh : Nat) (Ah : Option Addr) (Nh Kh : Nat) (At : Option Addr) (Nt Kt : Nat), (Below w18.heap.size w18 wk) → (VBlk wk bh 31 [.slice none 0 0, .int .i64 0]) → (VBlk wk eh 33 [.int .i64 0, .string ⟨#[]⟩, .int .i64 0, .string ⟨#[]⟩, .int .i64 0, .int .i64 0]) → (ro.Own encIt wk w18.heap.size wk.heap.size (.slice Ah Nh Kh) J) → (w18.heap.size ≤ bh) → (w18.heap.size ≤ eh) → (bh ≠ eh) → (VBlk wk ba 24 [.slice a I.length cap, .int .i64 X] ∧ VBlk wk bc 26 lC) → (_ : Prop))
    case main =>
      intro key
      refine wp_region_held_drew (S := fun w' => VBlk w' ba 24 [.slice a I.length cap, .int .i64 X] ∧ VBlk w' bc 26 lC) (by kernel_rfl) (⟨vblk_grow ca hC, vblk_grow cc hC⟩) (fun hHeld => ?_)
      refine wpAnyH_take (i := 0) (oi := { dst := some 91, op := Op.load 24 (Operand.tmp 3), type := 24, pos := "exact.go:3594", after := #[], guard := none }) (v := .agg ([.slice a I.length cap, .int .i64 X] : List Value).toArray) rfl (by kernel_rfl) (by kernel_rfl) (by kernel_rfl) (fun _ _ _ h => h) (yieldsIf_load_mid (by rfl) 24 _ rfl ba 0 rfl [.slice a I.length cap, .int .i64 X] _ (fun w' hw' => hw'.1.range) Tryz.underlying24 rfl sizeLBk) (by assumption) ?_
      (try simp only [Act.put, List.setIfInBounds_toArray, List.set_cons_zero, List.set_cons_succ])
      refine wpAnyH_take (i := 2) (oi := { dst := some 93, op := Op.load 26 (Operand.tmp 4), type := 26, pos := "exact.go:3594", after := #[], guard := none }) (v := .agg (lC : List Value).toArray) rfl (by kernel_rfl) (by kernel_rfl) (by kernel_rfl) (fun _ _ _ h => h) (yieldsIf_load_mid (by rfl) 26 _ rfl bc 0 rfl lC _ (fun w' hw' => hw'.2.range) Tryz.underlying26 rfl slC) (by assumption) ?_
      (try simp only [Act.put, List.setIfInBounds_toArray, List.set_cons_zero, List.set_cons_succ])
      refine wpAnyH_take (i := 4) (oi := op27_4) (v := ?_) rfl (by kernel_rfl) (by kernel_rfl) (by kernel_rfl) (fun _ _ _ h => h) (Or.inl ⟨by rfl, ?_⟩) (by assumption) ?_
      rotate_left 1
      · intro w' hSw; (try dsimp only at hSw); (try unfold op27_4); go_simp; (try with_reducible rfl)
      (try unfold op27_4)
      (try simp only [Act.put, List.setIfInBounds_toArray, List.set_cons_zero, List.set_cons_succ])
      refine wpAnyH_ready (rs := [1, 9, 10]) (by kernel_rfl) (by simp) ?_
      refine AllReadyH.cons (o := op27_1) rfl (fun KC hKC => ?_) (AllReadyH.cons (o := op27_9) rfl (fun KC hKC => ?_) (AllReadyH.cons (o := op27_10) rfl (fun KC hKC => ?_) AllReadyH.nil))
      · (try unfold op27_1)
        go_simp
        go_at_call 9
        refine (toBook_any I X _ _ (R.out.grow (hB.trans (hC.mono hB.size))) hl).mono ?_
        rintro er wr1 ⟨vt, rfl, ot, hBr1⟩
        obtain ⟨At, Nt, Kt, rfl⟩ := ot.slice
        (try replace oh := oh.grow hBr1)
        (try replace ch := vblk_grow ch hBr1)
        (try replace dh := vblk_grow dh hBr1)
        replace hC := hC.trans (hBr1.mono hC.size)
        refine hKC.out _ _ (⟨vblk_grow ca hC, vblk_grow cc hC⟩) (fun hHeld2 => ?_)
        clear hKC KC hHeld
        have hHeld := hHeld2
        clear hHeld2
        (try simp only [Act.put, List.setIfInBounds_toArray, List.set_cons_zero, List.set_cons_succ])
        refine wpAnyH_ready (rs := [3, 9, 10]) (by kernel_rfl) (by simp) ?_
        refine AllReadyH.cons (o := op27_3) rfl (fun KC hKC => ?_) (AllReadyH.cons (o := op27_9) rfl (fun KC hKC => ?_) (AllReadyH.cons (o := op27_10) rfl (fun KC hKC => ?_) AllReadyH.nil))
        · (try unfold op27_3)
          go_simp
          go_at_call 10
          refine (htoC.out _).mono ?_
          rintro er wr2 ⟨rfl, hBr2⟩
          (try replace ot := ot.grow hBr2)
          (try replace oh := oh.grow hBr2)
          (try replace ch := vblk_grow ch hBr2)
          (try replace dh := vblk_grow dh hBr2)
          replace hC := hC.trans (hBr2.mono hC.size)
          refine hKC.out _ _ (⟨vblk_grow ca hC, vblk_grow cc hC⟩) (fun hHeld2 => ?_)
          clear hKC KC hHeld
          have hHeld := hHeld2
          clear hHeld2
          (try simp only [Act.put, List.setIfInBounds_toArray, List.set_cons_zero, List.set_cons_succ])
          refine wpAnyH_ready (rs := [5, 9, 10]) (by kernel_rfl) (by simp) ?_
          refine AllReadyH.cons (o := op27_5) rfl (fun KC hKC => ?_) (AllReadyH.cons (o := op27_9) rfl (fun KC hKC => ?_) (AllReadyH.cons (o := op27_10) rfl (fun KC hKC => ?_) AllReadyH.nil))
          · (try unfold op27_5)
            go_simp
            go_at_call 11
            refine (hkI.out SMK.out hl hN1 hB1x _ _ ot.rd (EN.out.grow (hB.trans (hC.mono hB.size)))).mono ?_
            rintro er wr3 ⟨vh, rfl, oh, hBr3⟩
            obtain ⟨Ah, Nh, Kh, rfl⟩ := oh.slice
            replace oh := oh.wide (lo' := w18.heap.size) hC.size (Nat.le_refl _)
            (try replace ot := ot.grow hBr3)
            (try replace ch := vblk_grow ch hBr3)
            (try replace dh := vblk_grow dh hBr3)
            replace hC := hC.trans (hBr3.mono hC.size)
            refine hKC.out _ _ (⟨vblk_grow ca hC, vblk_grow cc hC⟩) (fun hHeld2 => ?_)
            clear hKC KC hHeld
            have hHeld := hHeld2
            clear hHeld2
            (try simp only [Act.put, List.setIfInBounds_toArray, List.set_cons_zero, List.set_cons_succ])
            refine wpAnyH_take (i := 6) (oi := op27_6) (v := ?_) rfl (by kernel_rfl) (by kernel_rfl) (by kernel_rfl) (fun _ _ _ h => h) (Or.inl ⟨by rfl, ?_⟩) (by assumption) ?_
            rotate_left 1
            · intro w' hSw; (try dsimp only at hSw); (try unfold op27_6); go_simp; (try with_reducible rfl)
            (try unfold op27_6)
            (try simp only [Act.put, List.setIfInBounds_toArray, List.set_cons_zero, List.set_cons_succ])
            refine wpAnyH_take (i := 7) (oi := op27_7) (v := ?_) rfl (by kernel_rfl) (by kernel_rfl) (by kernel_rfl) (fun _ _ _ h => h) (Or.inl ⟨by rfl, ?_⟩) (by assumption) ?_
            rotate_left 1
            · intro w' hSw; (try dsimp only at hSw); (try unfold op27_7); go_simp; (try with_reducible rfl)
            (try unfold op27_7)
            (try simp only [Act.put, List.setIfInBounds_toArray, List.set_cons_zero, List.set_cons_succ])
            refine wpAnyH_take (i := 8) (oi := op27_8) (v := ?_) rfl (by kernel_rfl) (by kernel_rfl) (by kernel_rfl) (fun _ _ _ h => h) (Or.inl ⟨by rfl, ?_⟩) (by assumption) ?_
            rotate_left 1
            · intro w' hSw; (try dsimp only at hSw); (try unfold op27_8); go_simp; (try with_reducible rfl)
            (try unfold op27_8)
            (try simp only [Act.put, List.setIfInBounds_toArray, List.set_cons_zero, List.set_cons_succ])
            refine wpAnyH_ready (rs := [9, 10]) (by kernel_rfl) (by simp) ?_
            refine AllReadyH.cons (o := op27_9) rfl (fun KC hKC => ?_) (AllReadyH.cons (o := op27_10) rfl (fun KC hKC => ?_) AllReadyH.nil)
            · (try unfold op27_9)
              refine step_alloc_v rfl 31 rfl _ zeroBk ?_
              intro bh wr4 hbh hwbh hBr4 ch
              have hlv_ch : w18.heap.size ≤ bh := Nat.le_trans hC.size hbh
              (try have ne_h := Nat.ne_of_lt (Nat.lt_of_lt_of_le dh.lt hbh))
              (try replace ot := ot.grow hBr4)
              (try replace oh := oh.grow hBr4)
              (try replace dh := vblk_grow dh hBr4)
              replace hC := hC.trans (hBr4.mono hC.size)
              refine hKC.out _ _ (⟨vblk_grow ca hC, vblk_grow cc hC⟩) (fun hHeld2 => ?_)
              clear hKC KC hHeld
              have hHeld := hHeld2
              clear hHeld2
              (try simp only [Act.put, List.setIfInBounds_toArray, List.set_cons_zero, List.set_cons_succ])
              refine wpAnyH_ready (rs := [10]) (by kernel_rfl) (by simp) ?_
              refine AllReadyH.cons (o := op27_10) rfl (fun KC hKC => ?_) AllReadyH.nil
              (try unfold op27_10)
              refine step_alloc_v rfl 33 rfl _ zeroRp ?_
              intro eh wr5 heh hweh hBr5 dh
              have hlv_dh : w18.heap.size ≤ eh := Nat.le_trans hC.size heh
              (try have ne_h := Nat.ne_of_lt (Nat.lt_of_lt_of_le ch.lt heh))
              (try replace ot := ot.grow hBr5)
              (try replace oh := oh.grow hBr5)
              (try replace ch := vblk_grow ch hBr5)
              replace hC := hC.trans (hBr5.mono hC.size)
              refine hKC.out _ _ (⟨vblk_grow ca hC, vblk_grow cc hC⟩) (fun hHeld2 => ?_)
              clear hKC KC hHeld
              have hHeld := hHeld2
              clear hHeld2
              (try simp only [Act.put, List.setIfInBounds_toArray, List.set_cons_zero, List.set_cons_succ])
              exact key wr5 bh eh Ah Nh Kh At Nt Kt hC ch dh oh.top hlv_ch hlv_dh (by first | exact ne_h | exact Ne.symm ne_h) hHeld
            (try unfold op27_10)
            refine step_alloc_v rfl 33 rfl _ zeroRp ?_
            intro eh wr5 heh hweh hBr5 dh
            have hlv_dh : w18.heap.size ≤ eh := Nat.le_trans hC.size heh
            (try have ne_h := Nat.ne_of_lt (Nat.lt_of_lt_of_le ch.lt heh))
            (try replace ot := ot.grow hBr5)
            (try replace oh := oh.grow hBr5)
            (try replace ch := vblk_grow ch hBr5)
            replace hC := hC.trans (hBr5.mono hC.size)
            refine hKC.out _ _ (⟨vblk_grow ca hC, vblk_grow cc hC⟩) (fun hHeld2 => ?_)
            clear hKC KC hHeld
            have hHeld := hHeld2
            clear hHeld2
            (try simp only [Act.put, List.setIfInBounds_toArray, List.set_cons_zero, List.set_cons_succ])
            refine wpAnyH_ready (rs := [9]) (by kernel_rfl) (by simp) ?_
            refine AllReadyH.cons (o := op27_9) rfl (fun KC hKC => ?_) AllReadyH.nil
            (try unfold op27_9)
            refine step_alloc_v rfl 31 rfl _ zeroBk ?_
            intro bh wr4 hbh hwbh hBr4 ch
            have hlv_ch : w18.heap.size ≤ bh := Nat.le_trans hC.size hbh
            (try have ne_h := Nat.ne_of_lt (Nat.lt_of_lt_of_le dh.lt hbh))
            (try replace ot := ot.grow hBr4)
            (try replace oh := oh.grow hBr4)
            (try replace dh := vblk_grow dh hBr4)
            replace hC := hC.trans (hBr4.mono hC.size)
            refine hKC.out _ _ (⟨vblk_grow ca hC, vblk_grow cc hC⟩) (fun hHeld2 => ?_)
            clear hKC KC hHeld
            have hHeld := hHeld2
            clear hHeld2
            (try simp only [Act.put, List.setIfInBounds_toArray, List.set_cons_zero, List.set_cons_succ])
            exact key wr4 bh eh Ah Nh Kh At Nt Kt hC ch dh oh.top hlv_ch hlv_dh (by first | exact ne_h | exact Ne.symm ne_h) hHeld
          · (try unfold op27_9)
            refine step_alloc_v rfl 31 rfl _ zeroBk ?_
            intro bh wr4 hbh hwbh hBr4 ch
            have hlv_ch : w18.heap.size ≤ bh := Nat.le_trans hC.size hbh
            (try have ne_h := Nat.ne_of_lt (Nat.lt_of_lt_of_le dh.lt hbh))
            (try replace ot := ot.grow hBr4)
            (try replace oh := oh.grow hBr4)
            (try replace dh := vblk_grow dh hBr4)
            replace hC := hC.trans (hBr4.mono hC.size)
            refine hKC.out _ _ (⟨vblk_grow ca hC, vblk_grow cc hC⟩) (fun hHeld2 => ?_)
            clear hKC KC hHeld
            have hHeld := hHeld2
            clear hHeld2
            (try simp only [Act.put, List.setIfInBounds_toArray, List.set_cons_zero, List.set_cons_succ])
            refine wpAnyH_ready (rs := [5, 10]) (by kernel_rfl) (by simp) ?_
            refine AllReadyH.cons (o := op27_5) rfl (fun KC hKC => ?_) (AllReadyH.cons (o := op27_10) rfl (fun KC hKC => ?_) AllReadyH.nil)
            · (try unfold op27_5)
              go_simp
              go_at_call 11
              refine (hkI.out SMK.out hl hN1 hB1x _ _ ot.rd (EN.out.grow (hB.trans (hC.mono hB.size)))).mono ?_
              rintro er wr3 ⟨vh, rfl, oh, hBr3⟩
              obtain ⟨Ah, Nh, Kh, rfl⟩ := oh.slice
              replace oh := oh.wide (lo' := w18.heap.size) hC.size (Nat.le_refl _)
              (try replace ot := ot.grow hBr3)
              (try replace ch := vblk_grow ch hBr3)
              (try replace dh := vblk_grow dh hBr3)
              replace hC := hC.trans (hBr3.mono hC.size)
              refine hKC.out _ _ (⟨vblk_grow ca hC, vblk_grow cc hC⟩) (fun hHeld2 => ?_)
              clear hKC KC hHeld
              have hHeld := hHeld2
              clear hHeld2
              (try simp only [Act.put, List.setIfInBounds_toArray, List.set_cons_zero, List.set_cons_succ])
              refine wpAnyH_take (i := 6) (oi := op27_6) (v := ?_) rfl (by kernel_rfl) (by kernel_rfl) (by kernel_rfl) (fun _ _ _ h => h) (Or.inl ⟨by rfl, ?_⟩) (by assumption) ?_
              rotate_left 1
              · intro w' hSw; (try dsimp only at hSw); (try unfold op27_6); go_simp; (try with_reducible rfl)
              (try unfold op27_6)
              (try simp only [Act.put, List.setIfInBounds_toArray, List.set_cons_zero, List.set_cons_succ])
              refine wpAnyH_take (i := 7) (oi := op27_7) (v := ?_) rfl (by kernel_rfl) (by kernel_rfl) (by kernel_rfl) (fun _ _ _ h => h) (Or.inl ⟨by rfl, ?_⟩) (by assumption) ?_
              rotate_left 1
              · intro w' hSw; (try dsimp only at hSw); (try unfold op27_7); go_simp; (try with_reducible rfl)
              (try unfold op27_7)
              (try simp only [Act.put, List.setIfInBounds_toArray, List.set_cons_zero, List.set_cons_succ])
              refine wpAnyH_take (i := 8) (oi := op27_8) (v := ?_) rfl (by kernel_rfl) (by kernel_rfl) (by kernel_rfl) (fun _ _ _ h => h) (Or.inl ⟨by rfl, ?_⟩) (by assumption) ?_
              rotate_left 1
              · intro w' hSw; (try dsimp only at hSw); (try unfold op27_8); go_simp; (try with_reducible rfl)
              (try unfold op27_8)
              (try simp only [Act.put, List.setIfInBounds_toArray, List.set_cons_zero, List.set_cons_succ])
              refine wpAnyH_ready (rs := [10]) (by kernel_rfl) (by simp) ?_
              refine AllReadyH.cons (o := op27_10) rfl (fun KC hKC => ?_) AllReadyH.nil
              (try unfold op27_10)
              refine step_alloc_v rfl 33 rfl _ zeroRp ?_
              intro eh wr5 heh hweh hBr5 dh
              have hlv_dh : w18.heap.size ≤ eh := Nat.le_trans hC.size heh
              (try have ne_h := Nat.ne_of_lt (Nat.lt_of_lt_of_le ch.lt heh))
              (try replace ot := ot.grow hBr5)
              (try replace oh := oh.grow hBr5)
              (try replace ch := vblk_grow ch hBr5)
              replace hC := hC.trans (hBr5.mono hC.size)
              refine hKC.out _ _ (⟨vblk_grow ca hC, vblk_grow cc hC⟩) (fun hHeld2 => ?_)
              clear hKC KC hHeld
              have hHeld := hHeld2
              clear hHeld2
              (try simp only [Act.put, List.setIfInBounds_toArray, List.set_cons_zero, List.set_cons_succ])
              exact key wr5 bh eh Ah Nh Kh At Nt Kt hC ch dh oh.top hlv_ch hlv_dh (by first | exact ne_h | exact Ne.symm ne_h) hHeld
            (try unfold op27_10)
            refine step_alloc_v rfl 33 rfl _ zeroRp ?_
            intro eh wr5 heh hweh hBr5 dh
            have hlv_dh : w18.heap.size ≤ eh := Nat.le_trans hC.size heh
            (try have ne_h := Nat.ne_of_lt (Nat.lt_of_lt_of_le ch.lt heh))
            (try replace ot := ot.grow hBr5)
            (try replace oh := oh.grow hBr5)
            (try replace ch := vblk_grow ch hBr5)
            replace hC := hC.trans (hBr5.mono hC.size)
            refine hKC.out _ _ (⟨vblk_grow ca hC, vblk_grow cc hC⟩) (fun hHeld2 => ?_)
            clear hKC KC hHeld
            have hHeld := hHeld2
            clear hHeld2
            (try simp only [Act.put, List.setIfInBounds_toArray, List.set_cons_zero, List.set_cons_succ])
            refine wpAnyH_ready (rs := [5]) (by kernel_rfl) (by simp) ?_
            refine AllReadyH.cons (o := op27_5) rfl (fun KC hKC => ?_) AllReadyH.nil
            (try unfold op27_5)
            go_simp
            go_at_call 11
            refine (hkI.out SMK.out hl hN1 hB1x _ _ ot.rd (EN.out.grow (hB.trans (hC.mono hB.size)))).mono ?_
            rintro er wr3 ⟨vh, rfl, oh, hBr3⟩
            obtain ⟨Ah, Nh, Kh, rfl⟩ := oh.slice
            replace oh := oh.wide (lo' := w18.heap.size) hC.size (Nat.le_refl _)
            (try replace ot := ot.grow hBr3)
            (try replace ch := vblk_grow ch hBr3)
            (try replace dh := vblk_grow dh hBr3)
            replace hC := hC.trans (hBr3.mono hC.size)
            refine hKC.out _ _ (⟨vblk_grow ca hC, vblk_grow cc hC⟩) (fun hHeld2 => ?_)
            clear hKC KC hHeld
            have hHeld := hHeld2
            clear hHeld2
            (try simp only [Act.put, List.setIfInBounds_toArray, List.set_cons_zero, List.set_cons_succ])
            refine wpAnyH_take (i := 6) (oi := op27_6) (v := ?_) rfl (by kernel_rfl) (by kernel_rfl) (by kernel_rfl) (fun _ _ _ h => h) (Or.inl ⟨by rfl, ?_⟩) (by assumption) ?_
            rotate_left 1
            · intro w' hSw; (try dsimp only at hSw); (try unfold op27_6); go_simp; (try with_reducible rfl)
            (try unfold op27_6)
            (try simp only [Act.put, List.setIfInBounds_toArray, List.set_cons_zero, List.set_cons_succ])
            refine wpAnyH_take (i := 7) (oi := op27_7) (v := ?_) rfl (by kernel_rfl) (by kernel_rfl) (by kernel_rfl) (fun _ _ _ h => h) (Or.inl ⟨by rfl, ?_⟩) (by assumption) ?_
            rotate_left 1
            · intro w' hSw; (try dsimp only at hSw); (try unfold op27_7); go_simp; (try with_reducible rfl)
            (try unfold op27_7)
            (try simp only [Act.put, List.setIfInBounds_toArray, List.set_cons_zero, List.set_cons_succ])
            refine wpAnyH_take (i := 8) (oi := op27_8) (v := ?_) rfl (by kernel_rfl) (by kernel_rfl) (by kernel_rfl) (fun _ _ _ h => h) (Or.inl ⟨by rfl, ?_⟩) (by assumption) ?_
            rotate_left 1
            · intro w' hSw; (try dsimp only at hSw); (try unfold op27_8); go_simp; (try with_reducible rfl)
            (try unfold op27_8)
            (try simp only [Act.put, List.setIfInBounds_toArray, List.set_cons_zero, List.set_cons_succ])
            exact key wr3 bh eh Ah Nh Kh At Nt Kt hC ch dh oh.top hlv_ch hlv_dh (by first | exact ne_h | exact Ne.symm ne_h) hHeld
          (try unfold op27_10)
          refine step_alloc_v rfl 33 rfl _ zeroRp ?_
          intro eh wr5 heh hweh hBr5 dh
          have hlv_dh : w18.heap.size ≤ eh := Nat.le_trans hC.size heh
          (try have ne_h := Nat.ne_of_lt (Nat.lt_of_lt_of_le ch.lt heh))
          (try replace ot := ot.grow hBr5)
          (try replace oh := oh.grow hBr5)
          (try replace ch := vblk_grow ch hBr5)
          replace hC := hC.trans (hBr5.mono hC.size)
          refine hKC.out _ _ (⟨vblk_grow ca hC, vblk_grow cc hC⟩) (fun hHeld2 => ?_)
          clear hKC KC hHeld
          have hHeld := hHeld2
          clear hHeld2
          (try simp only [Act.put, List.setIfInBounds_toArray, List.set_cons_zero, List.set_cons_succ])
          refine wpAnyH_ready (rs := [5, 9]) (by kernel_rfl) (by simp) ?_
          refine AllReadyH.cons (o := op27_5) rfl (fun KC hKC => ?_) (AllReadyH.cons (o := op27_9) rfl (fun KC hKC => ?_) AllReadyH.nil)
          · (try unfold op27_5)
            go_simp
            go_at_call 11
            refine (hkI.out SMK.out hl hN1 hB1x _ _ ot.rd (EN.out.grow (hB.trans (hC.mono hB.size)))).mono ?_
            rintro er wr3 ⟨vh, rfl, oh, hBr3⟩
            obtain ⟨Ah, Nh, Kh, rfl⟩ := oh.slice
            replace oh := oh.wide (lo' := w18.heap.size) hC.size (Nat.le_refl _)
            (try replace ot := ot.grow hBr3)
            (try replace ch := vblk_grow ch hBr3)
            (try replace dh := vblk_grow dh hBr3)
            replace hC := hC.trans (hBr3.mono hC.size)
            refine hKC.out _ _ (⟨vblk_grow ca hC, vblk_grow cc hC⟩) (fun hHeld2 => ?_)
            clear hKC KC hHeld
            have hHeld := hHeld2
            clear hHeld2
            (try simp only [Act.put, List.setIfInBounds_toArray, List.set_cons_zero, List.set_cons_succ])
            refine wpAnyH_take (i := 6) (oi := op27_6) (v := ?_) rfl (by kernel_rfl) (by kernel_rfl) (by kernel_rfl) (fun _ _ _ h => h) (Or.inl ⟨by rfl, ?_⟩) (by assumption) ?_
            rotate_left 1
            · intro w' hSw; (try dsimp only at hSw); (try unfold op27_6); go_simp; (try with_reducible rfl)
            (try unfold op27_6)
            (try simp only [Act.put, List.setIfInBounds_toArray, List.set_cons_zero, List.set_cons_succ])
            refine wpAnyH_take (i := 7) (oi := op27_7) (v := ?_) rfl (by kernel_rfl) (by kernel_rfl) (by kernel_rfl) (fun _ _ _ h => h) (Or.inl ⟨by rfl, ?_⟩) (by assumption) ?_
            rotate_left 1
            · intro w' hSw; (try dsimp only at hSw); (try unfold op27_7); go_simp; (try with_reducible rfl)
            (try unfold op27_7)
            (try simp only [Act.put, List.setIfInBounds_toArray, List.set_cons_zero, List.set_cons_succ])
            refine wpAnyH_take (i := 8) (oi := op27_8) (v := ?_) rfl (by kernel_rfl) (by kernel_rfl) (by kernel_rfl) (fun _ _ _ h => h) (Or.inl ⟨by rfl, ?_⟩) (by assumption) ?_
            rotate_left 1
            · intro w' hSw; (try dsimp only at hSw); (try unfold op27_8); go_simp; (try with_reducible rfl)
            (try unfold op27_8)
            (try simp only [Act.put, List.setIfInBounds_toArray, List.set_cons_zero, List.set_cons_succ])
            refine wpAnyH_ready (rs := [9]) (by kernel_rfl) (by simp) ?_
            refine AllReadyH.cons (o := op27_9) rfl (fun KC hKC => ?_) AllReadyH.nil
            (try unfold op27_9)
            refine step_alloc_v rfl 31 rfl _ zeroBk ?_
            intro bh wr4 hbh hwbh hBr4 ch
            have hlv_ch : w18.heap.size ≤ bh := Nat.le_trans hC.size hbh
            (try have ne_h := Nat.ne_of_lt (Nat.lt_of_lt_of_le dh.lt hbh))
            (try replace ot := ot.grow hBr4)
            (try replace oh := oh.grow hBr4)
            (try replace dh := vblk_grow dh hBr4)
            replace hC := hC.trans (hBr4.mono hC.size)
            refine hKC.out _ _ (⟨vblk_grow ca hC, vblk_grow cc hC⟩) (fun hHeld2 => ?_)
            clear hKC KC hHeld
            have hHeld := hHeld2
            clear hHeld2
            (try simp only [Act.put, List.setIfInBounds_toArray, List.set_cons_zero, List.set_cons_succ])
            exact key wr4 bh eh Ah Nh Kh At Nt Kt hC ch dh oh.top hlv_ch hlv_dh (by first | exact ne_h | exact Ne.symm ne_h) hHeld
          (try unfold op27_9)
          refine step_alloc_v rfl 31 rfl _ zeroBk ?_
          intro bh wr4 hbh hwbh hBr4 ch
          have hlv_ch : w18.heap.size ≤ bh := Nat.le_trans hC.size hbh
          (try have ne_h := Nat.ne_of_lt (Nat.lt_of_lt_of_le dh.lt hbh))
          (try replace ot := ot.grow hBr4)
          (try replace oh := oh.grow hBr4)
          (try replace dh := vblk_grow dh hBr4)
          replace hC := hC.trans (hBr4.mono hC.size)
          refine hKC.out _ _ (⟨vblk_grow ca hC, vblk_grow cc hC⟩) (fun hHeld2 => ?_)
          clear hKC KC hHeld
          have hHeld := hHeld2
          clear hHeld2
          (try simp only [Act.put, List.setIfInBounds_toArray, List.set_cons_zero, List.set_cons_succ])
          refine wpAnyH_ready (rs := [5]) (by kernel_rfl) (by simp) ?_
          refine AllReadyH.cons (o := op27_5) rfl (fun KC hKC => ?_) AllReadyH.nil
          (try unfold op27_5)
          go_simp
          go_at_call 11
          refine (hkI.out SMK.out hl hN1 hB1x _ _ ot.rd (EN.out.grow (hB.trans (hC.mono hB.size)))).mono ?_
          rintro er wr3 ⟨vh, rfl, oh, hBr3⟩
          obtain ⟨Ah, Nh, Kh, rfl⟩ := oh.slice
          replace oh := oh.wide (lo' := w18.heap.size) hC.size (Nat.le_refl _)
          (try replace ot := ot.grow hBr3)
          (try replace ch := vblk_grow ch hBr3)
          (try replace dh := vblk_grow dh hBr3)
          replace hC := hC.trans (hBr3.mono hC.size)
          refine hKC.out _ _ (⟨vblk_grow ca hC, vblk_grow cc hC⟩) (fun hHeld2 => ?_)
          clear hKC KC hHeld
          have hHeld := hHeld2
          clear hHeld2
          (try simp only [Act.put, List.setIfInBounds_toArray, List.set_cons_zero, List.set_cons_succ])
          refine wpAnyH_take (i := 6) (oi := op27_6) (v := ?_) rfl (by kernel_rfl) (by kernel_rfl) (by kernel_rfl) (fun _ _ _ h => h) (Or.inl ⟨by rfl, ?_⟩) (by assumption) ?_
          rotate_left 1
          · intro w' hSw; (try dsimp only at hSw); (try unfold op27_6); go_simp; (try with_reducible rfl)
          (try unfold op27_6)
          (try simp only [Act.put, List.setIfInBounds_toArray, List.set_cons_zero, List.set_cons_succ])
          refine wpAnyH_take (i := 7) (oi := op27_7) (v := ?_) rfl (by kernel_rfl) (by kernel_rfl) (by kernel_rfl) (fun _ _ _ h => h) (Or.inl ⟨by rfl, ?_⟩) (by assumption) ?_
          rotate_left 1
          · intro w' hSw; (try dsimp only at hSw); (try unfold op27_7); go_simp; (try with_reducible rfl)
          (try unfold op27_7)
          (try simp only [Act.put, List.setIfInBounds_toArray, List.set_cons_zero, List.set_cons_succ])
          refine wpAnyH_take (i := 8) (oi := op27_8) (v := ?_) rfl (by kernel_rfl) (by kernel_rfl) (by kernel_rfl) (fun _ _ _ h => h) (Or.inl ⟨by rfl, ?_⟩) (by assumption) ?_
          rotate_left 1
          · intro w' hSw; (try dsimp only at hSw); (try unfold op27_8); go_simp; (try with_reducible rfl)
          (try unfold op27_8)
          (try simp only [Act.put, List.setIfInBounds_toArray, List.set_cons_zero, List.set_cons_succ])
          exact key wr3 bh eh Ah Nh Kh At Nt Kt hC ch dh oh.top hlv_ch hlv_dh (by first | exact ne_h | exact Ne.symm ne_h) hHeld
        · (try unfold op27_9)
          refine step_alloc_v rfl 31 rfl _ zeroBk ?_
          intro bh wr4 hbh hwbh hBr4 ch
          have hlv_ch : w18.heap.size ≤ bh := Nat.le_trans hC.size hbh
          (try have ne_h := Nat.ne_of_lt (Nat.lt_of_lt_of_le dh.lt hbh))
          (try replace ot := ot.grow hBr4)
          (try replace oh := oh.grow hBr4)
          (try replace dh := vblk_grow dh hBr4)
          replace hC := hC.trans (hBr4.mono hC.size)
          refine hKC.out _ _ (⟨vblk_grow ca hC, vblk_grow cc hC⟩) (fun hHeld2 => ?_)
          clear hKC KC hHeld
          have hHeld := hHeld2
          clear hHeld2
          (try simp only [Act.put, List.setIfInBounds_toArray, List.set_cons_zero, List.set_cons_succ])
          refine wpAnyH_ready (rs := [3, 10]) (by kernel_rfl) (by simp) ?_
          refine AllReadyH.cons (o := op27_3) rfl (fun KC hKC => ?_) (AllReadyH.cons (o := op27_10) rfl (fun KC hKC => ?_) AllReadyH.nil)
          · (try unfold op27_3)
            go_simp
            go_at_call 10
            refine (htoC.out _).mono ?_
            rintro er wr2 ⟨rfl, hBr2⟩
            (try replace ot := ot.grow hBr2)
            (try replace oh := oh.grow hBr2)
            (try replace ch := vblk_grow ch hBr2)
            (try replace dh := vblk_grow dh hBr2)
            replace hC := hC.trans (hBr2.mono hC.size)
            refine hKC.out _ _ (⟨vblk_grow ca hC, vblk_grow cc hC⟩) (fun hHeld2 => ?_)
            clear hKC KC hHeld
            have hHeld := hHeld2
            clear hHeld2
            (try simp only [Act.put, List.setIfInBounds_toArray, List.set_cons_zero, List.set_cons_succ])
            refine wpAnyH_ready (rs := [5, 10]) (by kernel_rfl) (by simp) ?_
            refine AllReadyH.cons (o := op27_5) rfl (fun KC hKC => ?_) (AllReadyH.cons (o := op27_10) rfl (fun KC hKC => ?_) AllReadyH.nil)
            · (try unfold op27_5)
              go_simp
              go_at_call 11
              refine (hkI.out SMK.out hl hN1 hB1x _ _ ot.rd (EN.out.grow (hB.trans (hC.mono hB.size)))).mono ?_
              rintro er wr3 ⟨vh, rfl, oh, hBr3⟩
              obtain ⟨Ah, Nh, Kh, rfl⟩ := oh.slice
              replace oh := oh.wide (lo' := w18.heap.size) hC.size (Nat.le_refl _)
              (try replace ot := ot.grow hBr3)
              (try replace ch := vblk_grow ch hBr3)
              (try replace dh := vblk_grow dh hBr3)
              replace hC := hC.trans (hBr3.mono hC.size)
              refine hKC.out _ _ (⟨vblk_grow ca hC, vblk_grow cc hC⟩) (fun hHeld2 => ?_)
              clear hKC KC hHeld
              have hHeld := hHeld2
              clear hHeld2
              (try simp only [Act.put, List.setIfInBounds_toArray, List.set_cons_zero, List.set_cons_succ])
              refine wpAnyH_take (i := 6) (oi := op27_6) (v := ?_) rfl (by kernel_rfl) (by kernel_rfl) (by kernel_rfl) (fun _ _ _ h => h) (Or.inl ⟨by rfl, ?_⟩) (by assumption) ?_
              rotate_left 1
              · intro w' hSw; (try dsimp only at hSw); (try unfold op27_6); go_simp; (try with_reducible rfl)
              (try unfold op27_6)
              (try simp only [Act.put, List.setIfInBounds_toArray, List.set_cons_zero, List.set_cons_succ])
              refine wpAnyH_take (i := 7) (oi := op27_7) (v := ?_) rfl (by kernel_rfl) (by kernel_rfl) (by kernel_rfl) (fun _ _ _ h => h) (Or.inl ⟨by rfl, ?_⟩) (by assumption) ?_
              rotate_left 1
              · intro w' hSw; (try dsimp only at hSw); (try unfold op27_7); go_simp; (try with_reducible rfl)
              (try unfold op27_7)
              (try simp only [Act.put, List.setIfInBounds_toArray, List.set_cons_zero, List.set_cons_succ])
              refine wpAnyH_take (i := 8) (oi := op27_8) (v := ?_) rfl (by kernel_rfl) (by kernel_rfl) (by kernel_rfl) (fun _ _ _ h => h) (Or.inl ⟨by rfl, ?_⟩) (by assumption) ?_
              rotate_left 1
              · intro w' hSw; (try dsimp only at hSw); (try unfold op27_8); go_simp; (try with_reducible rfl)
              (try unfold op27_8)
              (try simp only [Act.put, List.setIfInBounds_toArray, List.set_cons_zero, List.set_cons_succ])
              refine wpAnyH_ready (rs := [10]) (by kernel_rfl) (by simp) ?_
              refine AllReadyH.cons (o := op27_10) rfl (fun KC hKC => ?_) AllReadyH.nil
              (try unfold op27_10)
              refine step_alloc_v rfl 33 rfl _ zeroRp ?_
              intro eh wr5 heh hweh hBr5 dh
              have hlv_dh : w18.heap.size ≤ eh := Nat.le_trans hC.size heh
              (try have ne_h := Nat.ne_of_lt (Nat.lt_of_lt_of_le ch.lt heh))
              (try replace ot := ot.grow hBr5)
              (try replace oh := oh.grow hBr5)
              (try replace ch := vblk_grow ch hBr5)
              replace hC := hC.trans (hBr5.mono hC.size)
              refine hKC.out _ _ (⟨vblk_grow ca hC, vblk_grow cc hC⟩) (fun hHeld2 => ?_)
              clear hKC KC hHeld
              have hHeld := hHeld2
              clear hHeld2
              (try simp only [Act.put, List.setIfInBounds_toArray, List.set_cons_zero, List.set_cons_succ])
              exact key wr5 bh eh Ah Nh Kh At Nt Kt hC ch dh oh.top hlv_ch hlv_dh (by first | exact ne_h | exact Ne.symm ne_h) hHeld
            (try unfold op27_10)
            refine step_alloc_v rfl 33 rfl _ zeroRp ?_
            intro eh wr5 heh hweh hBr5 dh
            have hlv_dh : w18.heap.size ≤ eh := Nat.le_trans hC.size heh
            (try have ne_h := Nat.ne_of_lt (Nat.lt_of_lt_of_le ch.lt heh))
            (try replace ot := ot.grow hBr5)
            (try replace oh := oh.grow hBr5)
            (try replace ch := vblk_grow ch hBr5)
            replace hC := hC.trans (hBr5.mono hC.size)
            refine hKC.out _ _ (⟨vblk_grow ca hC, vblk_grow cc hC⟩) (fun hHeld2 => ?_)
            clear hKC KC hHeld
            have hHeld := hHeld2
            clear hHeld2
            (try simp only [Act.put, List.setIfInBounds_toArray, List.set_cons_zero, List.set_cons_succ])
            refine wpAnyH_ready (rs := [5]) (by kernel_rfl) (by simp) ?_
            refine AllReadyH.cons (o := op27_5) rfl (fun KC hKC => ?_) AllReadyH.nil
            (try unfold op27_5)
            go_simp
            go_at_call 11
            refine (hkI.out SMK.out hl hN1 hB1x _ _ ot.rd (EN.out.grow (hB.trans (hC.mono hB.size)))).mono ?_
            rintro er wr3 ⟨vh, rfl, oh, hBr3⟩
            obtain ⟨Ah, Nh, Kh, rfl⟩ := oh.slice
            replace oh := oh.wide (lo' := w18.heap.size) hC.size (Nat.le_refl _)
            (try replace ot := ot.grow hBr3)
            (try replace ch := vblk_grow ch hBr3)
            (try replace dh := vblk_grow dh hBr3)
            replace hC := hC.trans (hBr3.mono hC.size)
            refine hKC.out _ _ (⟨vblk_grow ca hC, vblk_grow cc hC⟩) (fun hHeld2 => ?_)
            clear hKC KC hHeld
            have hHeld := hHeld2
            clear hHeld2
            (try simp only [Act.put, List.setIfInBounds_toArray, List.set_cons_zero, List.set_cons_succ])
            refine wpAnyH_take (i := 6) (oi := op27_6) (v := ?_) rfl (by kernel_rfl) (by kernel_rfl) (by kernel_rfl) (fun _ _ _ h => h) (Or.inl ⟨by rfl, ?_⟩) (by assumption) ?_
            rotate_left 1
            · intro w' hSw; (try dsimp only at hSw); (try unfold op27_6); go_simp; (try with_reducible rfl)
            (try unfold op27_6)
            (try simp only [Act.put, List.setIfInBounds_toArray, List.set_cons_zero, List.set_cons_succ])
            refine wpAnyH_take (i := 7) (oi := op27_7) (v := ?_) rfl (by kernel_rfl) (by kernel_rfl) (by kernel_rfl) (fun _ _ _ h => h) (Or.inl ⟨by rfl, ?_⟩) (by assumption) ?_
            rotate_left 1
            · intro w' hSw; (try dsimp only at hSw); (try unfold op27_7); go_simp; (try with_reducible rfl)
            (try unfold op27_7)
            (try simp only [Act.put, List.setIfInBounds_toArray, List.set_cons_zero, List.set_cons_succ])
            refine wpAnyH_take (i := 8) (oi := op27_8) (v := ?_) rfl (by kernel_rfl) (by kernel_rfl) (by kernel_rfl) (fun _ _ _ h => h) (Or.inl ⟨by rfl, ?_⟩) (by assumption) ?_
            rotate_left 1
            · intro w' hSw; (try dsimp only at hSw); (try unfold op27_8); go_simp; (try with_reducible rfl)
            (try unfold op27_8)
            (try simp only [Act.put, List.setIfInBounds_toArray, List.set_cons_zero, List.set_cons_succ])
            exact key wr3 bh eh Ah Nh Kh At Nt Kt hC ch dh oh.top hlv_ch hlv_dh (by first | exact ne_h | exact Ne.symm ne_h) hHeld
          (try unfold op27_10)
          refine step_alloc_v rfl 33 rfl _ zeroRp ?_
          intro eh wr5 heh hweh hBr5 dh
          have hlv_dh : w18.heap.size ≤ eh := Nat.le_trans hC.size heh
          (try have ne_h := Nat.ne_of_lt (Nat.lt_of_lt_of_le ch.lt heh))
          (try replace ot := ot.grow hBr5)
          (try replace oh := oh.grow hBr5)
          (try replace ch := vblk_grow ch hBr5)
          replace hC := hC.trans (hBr5.mono hC.size)
          refine hKC.out _ _ (⟨vblk_grow ca hC, vblk_grow cc hC⟩) (fun hHeld2 => ?_)
          clear hKC KC hHeld
          have hHeld := hHeld2
          clear hHeld2
          (try simp only [Act.put, List.setIfInBounds_toArray, List.set_cons_zero, List.set_cons_succ])
          refine wpAnyH_ready (rs := [3]) (by kernel_rfl) (by simp) ?_
          refine AllReadyH.cons (o := op27_3) rfl (fun KC hKC => ?_) AllReadyH.nil
          (try unfold op27_3)
          go_simp
          go_at_call 10
          refine (htoC.out _).mono ?_
          rintro er wr2 ⟨rfl, hBr2⟩
          (try replace ot := ot.grow hBr2)
          (try replace oh := oh.grow hBr2)
          (try replace ch := vblk_grow ch hBr2)
          (try replace dh := vblk_grow dh hBr2)
          replace hC := hC.trans (hBr2.mono hC.size)
          refine hKC.out _ _ (⟨vblk_grow ca hC, vblk_grow cc hC⟩) (fun hHeld2 => ?_)
          clear hKC KC hHeld
          have hHeld := hHeld2
          clear hHeld2
          (try simp only [Act.put, List.setIfInBounds_toArray, List.set_cons_zero, List.set_cons_succ])
          refine wpAnyH_ready (rs := [5]) (by kernel_rfl) (by simp) ?_
          refine AllReadyH.cons (o := op27_5) rfl (fun KC hKC => ?_) AllReadyH.nil
          (try unfold op27_5)
          go_simp
          go_at_call 11
          refine (hkI.out SMK.out hl hN1 hB1x _ _ ot.rd (EN.out.grow (hB.trans (hC.mono hB.size)))).mono ?_
          rintro er wr3 ⟨vh, rfl, oh, hBr3⟩
          obtain ⟨Ah, Nh, Kh, rfl⟩ := oh.slice
          replace oh := oh.wide (lo' := w18.heap.size) hC.size (Nat.le_refl _)
          (try replace ot := ot.grow hBr3)
          (try replace ch := vblk_grow ch hBr3)
          (try replace dh := vblk_grow dh hBr3)
          replace hC := hC.trans (hBr3.mono hC.size)
          refine hKC.out _ _ (⟨vblk_grow ca hC, vblk_grow cc hC⟩) (fun hHeld2 => ?_)
          clear hKC KC hHeld
          have hHeld := hHeld2
          clear hHeld2
          (try simp only [Act.put, List.setIfInBounds_toArray, List.set_cons_zero, List.set_cons_succ])
          refine wpAnyH_take (i := 6) (oi := op27_6) (v := ?_) rfl (by kernel_rfl) (by kernel_rfl) (by kernel_rfl) (fun _ _ _ h => h) (Or.inl ⟨by rfl, ?_⟩) (by assumption) ?_
          rotate_left 1
          · intro w' hSw; (try dsimp only at hSw); (try unfold op27_6); go_simp; (try with_reducible rfl)
          (try unfold op27_6)
          (try simp only [Act.put, List.setIfInBounds_toArray, List.set_cons_zero, List.set_cons_succ])
          refine wpAnyH_take (i := 7) (oi := op27_7) (v := ?_) rfl (by kernel_rfl) (by kernel_rfl) (by kernel_rfl) (fun _ _ _ h => h) (Or.inl ⟨by rfl, ?_⟩) (by assumption) ?_
          rotate_left 1
          · intro w' hSw; (try dsimp only at hSw); (try unfold op27_7); go_simp; (try with_reducible rfl)
          (try unfold op27_7)
          (try simp only [Act.put, List.setIfInBounds_toArray, List.set_cons_zero, List.set_cons_succ])
          refine wpAnyH_take (i := 8) (oi := op27_8) (v := ?_) rfl (by kernel_rfl) (by kernel_rfl) (by kernel_rfl) (fun _ _ _ h => h) (Or.inl ⟨by rfl, ?_⟩) (by assumption) ?_
          rotate_left 1
          · intro w' hSw; (try dsimp only at hSw); (try unfold op27_8); go_simp; (try with_reducible rfl)
          (try unfold op27_8)
          (try simp only [Act.put, List.setIfInBounds_toArray, List.set_cons_zero, List.set_cons_succ])
          exact key wr3 bh eh Ah Nh Kh At Nt Kt hC ch dh oh.top hlv_ch hlv_dh (by first | exact ne_h | exact Ne.symm ne_h) hHeld
        (try unfold op27_10)
        refine step_alloc_v rfl 33 rfl _ zeroRp ?_
        intro eh wr5 heh hweh hBr5 dh
        have hlv_dh : w18.heap.size ≤ eh := Nat.le_trans hC.size heh
        (try have ne_h := Nat.ne_of_lt (Nat.lt_of_lt_of_le ch.lt heh))
        (try replace ot := ot.grow hBr5)
        (try replace oh := oh.grow hBr5)
        (try replace ch := vblk_grow ch hBr5)
        replace hC := hC.trans (hBr5.mono hC.size)
        refine hKC.out _ _ (⟨vblk_grow ca hC, vblk_grow cc hC⟩) (fun hHeld2 => ?_)
        clear hKC KC hHeld
        have hHeld := hHeld2
        clear hHeld2
        (try simp only [Act.put, List.setIfInBounds_toArray, List.set_cons_zero, List.set_cons_succ])
        refine wpAnyH_ready (rs := [3, 9]) (by kernel_rfl) (by simp) ?_
        refine AllReadyH.cons (o := op27_3) rfl (fun KC hKC => ?_) (AllReadyH.cons (o := op27_9) rfl (fun KC hKC => ?_) AllReadyH.nil)
        · (try unfold op27_3)
          go_simp
          go_at_call 10
          refine (htoC.out _).mono ?_
          rintro er wr2 ⟨rfl, hBr2⟩
          (try replace ot := ot.grow hBr2)
          (try replace oh := oh.grow hBr2)
          (try replace ch := vblk_grow ch hBr2)
          (try replace dh := vblk_grow dh hBr2)
          replace hC := hC.trans (hBr2.mono hC.size)
          refine hKC.out _ _ (⟨vblk_grow ca hC, vblk_grow cc hC⟩) (fun hHeld2 => ?_)
          clear hKC KC hHeld
          have hHeld := hHeld2
          clear hHeld2
          (try simp only [Act.put, List.setIfInBounds_toArray, List.set_cons_zero, List.set_cons_succ])
          refine wpAnyH_ready (rs := [5, 9]) (by kernel_rfl) (by simp) ?_
          refine AllReadyH.cons (o := op27_5) rfl (fun KC hKC => ?_) (AllReadyH.cons (o := op27_9) rfl (fun KC hKC => ?_) AllReadyH.nil)
          · (try unfold op27_5)
            go_simp
            go_at_call 11
            refine (hkI.out SMK.out hl hN1 hB1x _ _ ot.rd (EN.out.grow (hB.trans (hC.mono hB.size)))).mono ?_
            rintro er wr3 ⟨vh, rfl, oh, hBr3⟩
            obtain ⟨Ah, Nh, Kh, rfl⟩ := oh.slice
            replace oh := oh.wide (lo' := w18.heap.size) hC.size (Nat.le_refl _)
            (try replace ot := ot.grow hBr3)
            (try replace ch := vblk_grow ch hBr3)
            (try replace dh := vblk_grow dh hBr3)
            replace hC := hC.trans (hBr3.mono hC.size)
            refine hKC.out _ _ (⟨vblk_grow ca hC, vblk_grow cc hC⟩) (fun hHeld2 => ?_)
            clear hKC KC hHeld
            have hHeld := hHeld2
            clear hHeld2
            (try simp only [Act.put, List.setIfInBounds_toArray, List.set_cons_zero, List.set_cons_succ])
            refine wpAnyH_take (i := 6) (oi := op27_6) (v := ?_) rfl (by kernel_rfl) (by kernel_rfl) (by kernel_rfl) (fun _ _ _ h => h) (Or.inl ⟨by rfl, ?_⟩) (by assumption) ?_
            rotate_left 1
            · intro w' hSw; (try dsimp only at hSw); (try unfold op27_6); go_simp; (try with_reducible rfl)
            (try unfold op27_6)
            (try simp only [Act.put, List.setIfInBounds_toArray, List.set_cons_zero, List.set_cons_succ])
            refine wpAnyH_take (i := 7) (oi := op27_7) (v := ?_) rfl (by kernel_rfl) (by kernel_rfl) (by kernel_rfl) (fun _ _ _ h => h) (Or.inl ⟨by rfl, ?_⟩) (by assumption) ?_
            rotate_left 1
            · intro w' hSw; (try dsimp only at hSw); (try unfold op27_7); go_simp; (try with_reducible rfl)
            (try unfold op27_7)
            (try simp only [Act.put, List.setIfInBounds_toArray, List.set_cons_zero, List.set_cons_succ])
            refine wpAnyH_take (i := 8) (oi := op27_8) (v := ?_) rfl (by kernel_rfl) (by kernel_rfl) (by kernel_rfl) (fun _ _ _ h => h) (Or.inl ⟨by rfl, ?_⟩) (by assumption) ?_
            rotate_left 1
            · intro w' hSw; (try dsimp only at hSw); (try unfold op27_8); go_simp; (try with_reducible rfl)
            (try unfold op27_8)
            (try simp only [Act.put, List.setIfInBounds_toArray, List.set_cons_zero, List.set_cons_succ])
            refine wpAnyH_ready (rs := [9]) (by kernel_rfl) (by simp) ?_
            refine AllReadyH.cons (o := op27_9) rfl (fun KC hKC => ?_) AllReadyH.nil
            (try unfold op27_9)
            refine step_alloc_v rfl 31 rfl _ zeroBk ?_
            intro bh wr4 hbh hwbh hBr4 ch
            have hlv_ch : w18.heap.size ≤ bh := Nat.le_trans hC.size hbh
            (try have ne_h := Nat.ne_of_lt (Nat.lt_of_lt_of_le dh.lt hbh))
            (try replace ot := ot.grow hBr4)
            (try replace oh := oh.grow hBr4)
            (try replace dh := vblk_grow dh hBr4)
            replace hC := hC.trans (hBr4.mono hC.size)
            refine hKC.out _ _ (⟨vblk_grow ca hC, vblk_grow cc hC⟩) (fun hHeld2 => ?_)
            clear hKC KC hHeld
            have hHeld := hHeld2
            clear hHeld2
            (try simp only [Act.put, List.setIfInBounds_toArray, List.set_cons_zero, List.set_cons_succ])
            exact key wr4 bh eh Ah Nh Kh At Nt Kt hC ch dh oh.top hlv_ch hlv_dh (by first | exact ne_h | exact Ne.symm ne_h) hHeld
          (try unfold op27_9)
          refine step_alloc_v rfl 31 rfl _ zeroBk ?_
          intro bh wr4 hbh hwbh hBr4 ch
          have hlv_ch : w18.heap.size ≤ bh := Nat.le_trans hC.size hbh
          (try have ne_h := Nat.ne_of_lt (Nat.lt_of_lt_of_le dh.lt hbh))
          (try replace ot := ot.grow hBr4)
          (try replace oh := oh.grow hBr4)
          (try replace dh := vblk_grow dh hBr4)
          replace hC := hC.trans (hBr4.mono hC.size)
          refine hKC.out _ _ (⟨vblk_grow ca hC, vblk_grow cc hC⟩) (fun hHeld2 => ?_)
          clear hKC KC hHeld
          have hHeld := hHeld2
          clear hHeld2
          (try simp only [Act.put, List.setIfInBounds_toArray, List.set_cons_zero, List.set_cons_succ])
          refine wpAnyH_ready (rs := [5]) (by kernel_rfl) (by simp) ?_
          refine AllReadyH.cons (o := op27_5) rfl (fun KC hKC => ?_) AllReadyH.nil
          (try unfold op27_5)
          go_simp
          go_at_call 11
          refine (hkI.out SMK.out hl hN1 hB1x _ _ ot.rd (EN.out.grow (hB.trans (hC.mono hB.size)))).mono ?_
          rintro er wr3 ⟨vh, rfl, oh, hBr3⟩
          obtain ⟨Ah, Nh, Kh, rfl⟩ := oh.slice
          replace oh := oh.wide (lo' := w18.heap.size) hC.size (Nat.le_refl _)
          (try replace ot := ot.grow hBr3)
          (try replace ch := vblk_grow ch hBr3)
          (try replace dh := vblk_grow dh hBr3)
          replace hC := hC.trans (hBr3.mono hC.size)
          refine hKC.out _ _ (⟨vblk_grow ca hC, vblk_grow cc hC⟩) (fun hHeld2 => ?_)
          clear hKC KC hHeld
          have hHeld := hHeld2
          clear hHeld2
          (try simp only [Act.put, List.setIfInBounds_toArray, List.set_cons_zero, List.set_cons_succ])
          refine wpAnyH_take (i := 6) (oi := op27_6) (v := ?_) rfl (by kernel_rfl) (by kernel_rfl) (by kernel_rfl) (fun _ _ _ h => h) (Or.inl ⟨by rfl, ?_⟩) (by assumption) ?_
          rotate_left 1
          · intro w' hSw; (try dsimp only at hSw); (try unfold op27_6); go_simp; (try with_reducible rfl)
          (try unfold op27_6)
          (try simp only [Act.put, List.setIfInBounds_toArray, List.set_cons_zero, List.set_cons_succ])
          refine wpAnyH_take (i := 7) (oi := op27_7) (v := ?_) rfl (by kernel_rfl) (by kernel_rfl) (by kernel_rfl) (fun _ _ _ h => h) (Or.inl ⟨by rfl, ?_⟩) (by assumption) ?_
          rotate_left 1
          · intro w' hSw; (try dsimp only at hSw); (try unfold op27_7); go_simp; (try with_reducible rfl)
          (try unfold op27_7)
          (try simp only [Act.put, List.setIfInBounds_toArray, List.set_cons_zero, List.set_cons_succ])
          refine wpAnyH_take (i := 8) (oi := op27_8) (v := ?_) rfl (by kernel_rfl) (by kernel_rfl) (by kernel_rfl) (fun _ _ _ h => h) (Or.inl ⟨by rfl, ?_⟩) (by assumption) ?_
          rotate_left 1
          · intro w' hSw; (try dsimp only at hSw); (try unfold op27_8); go_simp; (try with_reducible rfl)
          (try unfold op27_8)
          (try simp only [Act.put, List.setIfInBounds_toArray, List.set_cons_zero, List.set_cons_succ])
          exact key wr3 bh eh Ah Nh Kh At Nt Kt hC ch dh oh.top hlv_ch hlv_dh (by first | exact ne_h | exact Ne.symm ne_h) hHeld
        (try unfold op27_9)
        refine step_alloc_v rfl 31 rfl _ zeroBk ?_
        intro bh wr4 hbh hwbh hBr4 ch
        have hlv_ch : w18.heap.size ≤ bh := Nat.le_trans hC.size hbh
        (try have ne_h := Nat.ne_of_lt (Nat.lt_of_lt_of_le dh.lt hbh))
        (try replace ot := ot.grow hBr4)
        (try replace oh := oh.grow hBr4)
        (try replace dh := vblk_grow dh hBr4)
        replace hC := hC.trans (hBr4.mono hC.size)
        refine hKC.out _ _ (⟨vblk_grow ca hC, vblk_grow cc hC⟩) (fun hHeld2 => ?_)
        clear hKC KC hHeld
        have hHeld := hHeld2
        clear hHeld2
        (try simp only [Act.put, List.setIfInBounds_toArray, List.set_cons_zero, List.set_cons_succ])
        refine wpAnyH_ready (rs := [3]) (by kernel_rfl) (by simp) ?_
        refine AllReadyH.cons (o := op27_3) rfl (fun KC hKC => ?_) AllReadyH.nil
        (try unfold op27_3)
        go_simp
        go_at_call 10
        refine (htoC.out _).mono ?_
        rintro er wr2 ⟨rfl, hBr2⟩
        (try replace ot := ot.grow hBr2)
        (try replace oh := oh.grow hBr2)
        (try replace ch := vblk_grow ch hBr2)
        (try replace dh := vblk_grow dh hBr2)
        replace hC := hC.trans (hBr2.mono hC.size)
        refine hKC.out _ _ (⟨vblk_grow ca hC, vblk_grow cc hC⟩) (fun hHeld2 => ?_)
        clear hKC KC hHeld
        have hHeld := hHeld2
        clear hHeld2
        (try simp only [Act.put, List.setIfInBounds_toArray, List.set_cons_zero, List.set_cons_succ])
        refine wpAnyH_ready (rs := [5]) (by kernel_rfl) (by simp) ?_
        refine AllReadyH.cons (o := op27_5) rfl (fun KC hKC => ?_) AllReadyH.nil
        (try unfold op27_5)
        go_simp
        go_at_call 11
        refine (hkI.out SMK.out hl hN1 hB1x _ _ ot.rd (EN.out.grow (hB.trans (hC.mono hB.size)))).mono ?_
        rintro er wr3 ⟨vh, rfl, oh, hBr3⟩
        obtain ⟨Ah, Nh, Kh, rfl⟩ := oh.slice
        replace oh := oh.wide (lo' := w18.heap.size) hC.size (Nat.le_refl _)
        (try replace ot := ot.grow hBr3)
        (try replace ch := vblk_grow ch hBr3)
        (try replace dh := vblk_grow dh hBr3)
        replace hC := hC.trans (hBr3.mono hC.size)
        refine hKC.out _ _ (⟨vblk_grow ca hC, vblk_grow cc hC⟩) (fun hHeld2 => ?_)
        clear hKC KC hHeld
        have hHeld := hHeld2
        clear hHeld2
        (try simp only [Act.put, List.setIfInBounds_toArray, List.set_cons_zero, List.set_cons_succ])
        refine wpAnyH_take (i := 6) (oi := op27_6) (v := ?_) rfl (by kernel_rfl) (by kernel_rfl) (by kernel_rfl) (fun _ _ _ h => h) (Or.inl ⟨by rfl, ?_⟩) (by assumption) ?_
        rotate_left 1
        · intro w' hSw; (try dsimp only at hSw); (try unfold op27_6); go_simp; (try with_reducible rfl)
        (try unfold op27_6)
        (try simp only [Act.put, List.setIfInBounds_toArray, List.set_cons_zero, List.set_cons_succ])
        refine wpAnyH_take (i := 7) (oi := op27_7) (v := ?_) rfl (by kernel_rfl) (by kernel_rfl) (by kernel_rfl) (fun _ _ _ h => h) (Or.inl ⟨by rfl, ?_⟩) (by assumption) ?_
        rotate_left 1
        · intro w' hSw; (try dsimp only at hSw); (try unfold op27_7); go_simp; (try with_reducible rfl)
        (try unfold op27_7)
        (try simp only [Act.put, List.setIfInBounds_toArray, List.set_cons_zero, List.set_cons_succ])
        refine wpAnyH_take (i := 8) (oi := op27_8) (v := ?_) rfl (by kernel_rfl) (by kernel_rfl) (by kernel_rfl) (fun _ _ _ h => h) (Or.inl ⟨by rfl, ?_⟩) (by assumption) ?_
        rotate_left 1
        · intro w' hSw; (try dsimp only at hSw); (try unfold op27_8); go_simp; (try with_reducible rfl)
        (try unfold op27_8)
        (try simp only [Act.put, List.setIfInBounds_toArray, List.set_cons_zero, List.set_cons_succ])
        exact key wr3 bh eh Ah Nh Kh At Nt Kt hC ch dh oh.top hlv_ch hlv_dh (by first | exact ne_h | exact Ne.symm ne_h) hHeld
      · (try unfold op27_9)
        refine step_alloc_v rfl 31 rfl _ zeroBk ?_
        intro bh wr4 hbh hwbh hBr4 ch
        have hlv_ch : w18.heap.size ≤ bh := Nat.le_trans hC.size hbh
        (try have ne_h := Nat.ne_of_lt (Nat.lt_of_lt_of_le dh.lt hbh))
        (try replace ot := ot.grow hBr4)
        (try replace oh := oh.grow hBr4)
        (try replace dh := vblk_grow dh hBr4)
        replace hC := hC.trans (hBr4.mono hC.size)
        refine hKC.out _ _ (⟨vblk_grow ca hC, vblk_grow cc hC⟩) (fun hHeld2 => ?_)
        clear hKC KC hHeld
        have hHeld := hHeld2
        clear hHeld2
        (try simp only [Act.put, List.setIfInBounds_toArray, List.set_cons_zero, List.set_cons_succ])
        refine wpAnyH_ready (rs := [1, 10]) (by kernel_rfl) (by simp) ?_
        refine AllReadyH.cons (o := op27_1) rfl (fun KC hKC => ?_) (AllReadyH.cons (o := op27_10) rfl (fun KC hKC => ?_) AllReadyH.nil)
        · (try unfold op27_1)
          go_simp
          go_at_call 9
          refine (toBook_any I X _ _ (R.out.grow (hB.trans (hC.mono hB.size))) hl).mono ?_
          rintro er wr1 ⟨vt, rfl, ot, hBr1⟩
          obtain ⟨At, Nt, Kt, rfl⟩ := ot.slice
          (try replace oh := oh.grow hBr1)
          (try replace ch := vblk_grow ch hBr1)
          (try replace dh := vblk_grow dh hBr1)
          replace hC := hC.trans (hBr1.mono hC.size)
          refine hKC.out _ _ (⟨vblk_grow ca hC, vblk_grow cc hC⟩) (fun hHeld2 => ?_)
          clear hKC KC hHeld
          have hHeld := hHeld2
          clear hHeld2
          (try simp only [Act.put, List.setIfInBounds_toArray, List.set_cons_zero, List.set_cons_succ])
          refine wpAnyH_ready (rs := [3, 10]) (by kernel_rfl) (by simp) ?_
          refine AllReadyH.cons (o := op27_3) rfl (fun KC hKC => ?_) (AllReadyH.cons (o := op27_10) rfl (fun KC hKC => ?_) AllReadyH.nil)
          · (try unfold op27_3)
            go_simp
            go_at_call 10
            refine (htoC.out _).mono ?_
            rintro er wr2 ⟨rfl, hBr2⟩
            (try replace ot := ot.grow hBr2)
            (try replace oh := oh.grow hBr2)
            (try replace ch := vblk_grow ch hBr2)
            (try replace dh := vblk_grow dh hBr2)
            replace hC := hC.trans (hBr2.mono hC.size)
            refine hKC.out _ _ (⟨vblk_grow ca hC, vblk_grow cc hC⟩) (fun hHeld2 => ?_)
            clear hKC KC hHeld
            have hHeld := hHeld2
            clear hHeld2
            (try simp only [Act.put, List.setIfInBounds_toArray, List.set_cons_zero, List.set_cons_succ])
            refine wpAnyH_ready (rs := [5, 10]) (by kernel_rfl) (by simp) ?_
            refine AllReadyH.cons (o := op27_5) rfl (fun KC hKC => ?_) (AllReadyH.cons (o := op27_10) rfl (fun KC hKC => ?_) AllReadyH.nil)
            · (try unfold op27_5)
              go_simp
              go_at_call 11
              refine (hkI.out SMK.out hl hN1 hB1x _ _ ot.rd (EN.out.grow (hB.trans (hC.mono hB.size)))).mono ?_
              rintro er wr3 ⟨vh, rfl, oh, hBr3⟩
              obtain ⟨Ah, Nh, Kh, rfl⟩ := oh.slice
              replace oh := oh.wide (lo' := w18.heap.size) hC.size (Nat.le_refl _)
              (try replace ot := ot.grow hBr3)
              (try replace ch := vblk_grow ch hBr3)
              (try replace dh := vblk_grow dh hBr3)
              replace hC := hC.trans (hBr3.mono hC.size)
              refine hKC.out _ _ (⟨vblk_grow ca hC, vblk_grow cc hC⟩) (fun hHeld2 => ?_)
              clear hKC KC hHeld
              have hHeld := hHeld2
              clear hHeld2
              (try simp only [Act.put, List.setIfInBounds_toArray, List.set_cons_zero, List.set_cons_succ])
              refine wpAnyH_take (i := 6) (oi := op27_6) (v := ?_) rfl (by kernel_rfl) (by kernel_rfl) (by kernel_rfl) (fun _ _ _ h => h) (Or.inl ⟨by rfl, ?_⟩) (by assumption) ?_
              rotate_left 1
              · intro w' hSw; (try dsimp only at hSw); (try unfold op27_6); go_simp; (try with_reducible rfl)
              (try unfold op27_6)
              (try simp only [Act.put, List.setIfInBounds_toArray, List.set_cons_zero, List.set_cons_succ])
              refine wpAnyH_take (i := 7) (oi := op27_7) (v := ?_) rfl (by kernel_rfl) (by kernel_rfl) (by kernel_rfl) (fun _ _ _ h => h) (Or.inl ⟨by rfl, ?_⟩) (by assumption) ?_
              rotate_left 1
              · intro w' hSw; (try dsimp only at hSw); (try unfold op27_7); go_simp; (try with_reducible rfl)
              (try unfold op27_7)
              (try simp only [Act.put, List.setIfInBounds_toArray, List.set_cons_zero, List.set_cons_succ])
              refine wpAnyH_take (i := 8) (oi := op27_8) (v := ?_) rfl (by kernel_rfl) (by kernel_rfl) (by kernel_rfl) (fun _ _ _ h => h) (Or.inl ⟨by rfl, ?_⟩) (by assumption) ?_
              rotate_left 1
              · intro w' hSw; (try dsimp only at hSw); (try unfold op27_8); go_simp; (try with_reducible rfl)
              (try unfold op27_8)
              (try simp only [Act.put, List.setIfInBounds_toArray, List.set_cons_zero, List.set_cons_succ])
              refine wpAnyH_ready (rs := [10]) (by kernel_rfl) (by simp) ?_
              refine AllReadyH.cons (o := op27_10) rfl (fun KC hKC => ?_) AllReadyH.nil
              (try unfold op27_10)
              refine step_alloc_v rfl 33 rfl _ zeroRp ?_
              intro eh wr5 heh hweh hBr5 dh
              have hlv_dh : w18.heap.size ≤ eh := Nat.le_trans hC.size heh
              (try have ne_h := Nat.ne_of_lt (Nat.lt_of_lt_of_le ch.lt heh))
              (try replace ot := ot.grow hBr5)
              (try replace oh := oh.grow hBr5)
              (try replace ch := vblk_grow ch hBr5)
              replace hC := hC.trans (hBr5.mono hC.size)
              refine hKC.out _ _ (⟨vblk_grow ca hC, vblk_grow cc hC⟩) (fun hHeld2 => ?_)
              clear hKC KC hHeld
              have hHeld := hHeld2
              clear hHeld2
              (try simp only [Act.put, List.setIfInBounds_toArray, List.set_cons_zero, List.set_cons_succ])
              exact key wr5 bh eh Ah Nh Kh At Nt Kt hC ch dh oh.top hlv_ch hlv_dh (by first | exact ne_h | exact Ne.symm ne_h) hHeld
            (try unfold op27_10)
            refine step_alloc_v rfl 33 rfl _ zeroRp ?_
            intro eh wr5 heh hweh hBr5 dh
            have hlv_dh : w18.heap.size ≤ eh := Nat.le_trans hC.size heh
            (try have ne_h := Nat.ne_of_lt (Nat.lt_of_lt_of_le ch.lt heh))
            (try replace ot := ot.grow hBr5)
            (try replace oh := oh.grow hBr5)
            (try replace ch := vblk_grow ch hBr5)
            replace hC := hC.trans (hBr5.mono hC.size)
            refine hKC.out _ _ (⟨vblk_grow ca hC, vblk_grow cc hC⟩) (fun hHeld2 => ?_)
            clear hKC KC hHeld
            have hHeld := hHeld2
            clear hHeld2
            (try simp only [Act.put, List.setIfInBounds_toArray, List.set_cons_zero, List.set_cons_succ])
            refine wpAnyH_ready (rs := [5]) (by kernel_rfl) (by simp) ?_
            refine AllReadyH.cons (o := op27_5) rfl (fun KC hKC => ?_) AllReadyH.nil
            (try unfold op27_5)
            go_simp
            go_at_call 11
            refine (hkI.out SMK.out hl hN1 hB1x _ _ ot.rd (EN.out.grow (hB.trans (hC.mono hB.size)))).mono ?_
            rintro er wr3 ⟨vh, rfl, oh, hBr3⟩
            obtain ⟨Ah, Nh, Kh, rfl⟩ := oh.slice
            replace oh := oh.wide (lo' := w18.heap.size) hC.size (Nat.le_refl _)
            (try replace ot := ot.grow hBr3)
            (try replace ch := vblk_grow ch hBr3)
            (try replace dh := vblk_grow dh hBr3)
            replace hC := hC.trans (hBr3.mono hC.size)
            refine hKC.out _ _ (⟨vblk_grow ca hC, vblk_grow cc hC⟩) (fun hHeld2 => ?_)
            clear hKC KC hHeld
            have hHeld := hHeld2
            clear hHeld2
            (try simp only [Act.put, List.setIfInBounds_toArray, List.set_cons_zero, List.set_cons_succ])
            refine wpAnyH_take (i := 6) (oi := op27_6) (v := ?_) rfl (by kernel_rfl) (by kernel_rfl) (by kernel_rfl) (fun _ _ _ h => h) (Or.inl ⟨by rfl, ?_⟩) (by assumption) ?_
            rotate_left 1
            · intro w' hSw; (try dsimp only at hSw); (try unfold op27_6); go_simp; (try with_reducible rfl)
            (try unfold op27_6)
            (try simp only [Act.put, List.setIfInBounds_toArray, List.set_cons_zero, List.set_cons_succ])
            refine wpAnyH_take (i := 7) (oi := op27_7) (v := ?_) rfl (by kernel_rfl) (by kernel_rfl) (by kernel_rfl) (fun _ _ _ h => h) (Or.inl ⟨by rfl, ?_⟩) (by assumption) ?_
            rotate_left 1
            · intro w' hSw; (try dsimp only at hSw); (try unfold op27_7); go_simp; (try with_reducible rfl)
            (try unfold op27_7)
            (try simp only [Act.put, List.setIfInBounds_toArray, List.set_cons_zero, List.set_cons_succ])
            refine wpAnyH_take (i := 8) (oi := op27_8) (v := ?_) rfl (by kernel_rfl) (by kernel_rfl) (by kernel_rfl) (fun _ _ _ h => h) (Or.inl ⟨by rfl, ?_⟩) (by assumption) ?_
            rotate_left 1
            · intro w' hSw; (try dsimp only at hSw); (try unfold op27_8); go_simp; (try with_reducible rfl)
            (try unfold op27_8)
            (try simp only [Act.put, List.setIfInBounds_toArray, List.set_cons_zero, List.set_cons_succ])
            exact key wr3 bh eh Ah Nh Kh At Nt Kt hC ch dh oh.top hlv_ch hlv_dh (by first | exact ne_h | exact Ne.symm ne_h) hHeld
          (try unfold op27_10)
          refine step_alloc_v rfl 33 rfl _ zeroRp ?_
          intro eh wr5 heh hweh hBr5 dh
          have hlv_dh : w18.heap.size ≤ eh := Nat.le_trans hC.size heh
          (try have ne_h := Nat.ne_of_lt (Nat.lt_of_lt_of_le ch.lt heh))
          (try replace ot := ot.grow hBr5)
          (try replace oh := oh.grow hBr5)
          (try replace ch := vblk_grow ch hBr5)
          replace hC := hC.trans (hBr5.mono hC.size)
          refine hKC.out _ _ (⟨vblk_grow ca hC, vblk_grow cc hC⟩) (fun hHeld2 => ?_)
          clear hKC KC hHeld
          have hHeld := hHeld2
          clear hHeld2
          (try simp only [Act.put, List.setIfInBounds_toArray, List.set_cons_zero, List.set_cons_succ])
          refine wpAnyH_ready (rs := [3]) (by kernel_rfl) (by simp) ?_
          refine AllReadyH.cons (o := op27_3) rfl (fun KC hKC => ?_) AllReadyH.nil
          (try unfold op27_3)
          go_simp
          go_at_call 10
          refine (htoC.out _).mono ?_
          rintro er wr2 ⟨rfl, hBr2⟩
          (try replace ot := ot.grow hBr2)
          (try replace oh := oh.grow hBr2)
          (try replace ch := vblk_grow ch hBr2)
          (try replace dh := vblk_grow dh hBr2)
          replace hC := hC.trans (hBr2.mono hC.size)
          refine hKC.out _ _ (⟨vblk_grow ca hC, vblk_grow cc hC⟩) (fun hHeld2 => ?_)
          clear hKC KC hHeld
          have hHeld := hHeld2
          clear hHeld2
          (try simp only [Act.put, List.setIfInBounds_toArray, List.set_cons_zero, List.set_cons_succ])
          refine wpAnyH_ready (rs := [5]) (by kernel_rfl) (by simp) ?_
          refine AllReadyH.cons (o := op27_5) rfl (fun KC hKC => ?_) AllReadyH.nil
          (try unfold op27_5)
          go_simp
          go_at_call 11
          refine (hkI.out SMK.out hl hN1 hB1x _ _ ot.rd (EN.out.grow (hB.trans (hC.mono hB.size)))).mono ?_
          rintro er wr3 ⟨vh, rfl, oh, hBr3⟩
          obtain ⟨Ah, Nh, Kh, rfl⟩ := oh.slice
          replace oh := oh.wide (lo' := w18.heap.size) hC.size (Nat.le_refl _)
          (try replace ot := ot.grow hBr3)
          (try replace ch := vblk_grow ch hBr3)
          (try replace dh := vblk_grow dh hBr3)
          replace hC := hC.trans (hBr3.mono hC.size)
          refine hKC.out _ _ (⟨vblk_grow ca hC, vblk_grow cc hC⟩) (fun hHeld2 => ?_)
          clear hKC KC hHeld
          have hHeld := hHeld2
          clear hHeld2
          (try simp only [Act.put, List.setIfInBounds_toArray, List.set_cons_zero, List.set_cons_succ])
          refine wpAnyH_take (i := 6) (oi := op27_6) (v := ?_) rfl (by kernel_rfl) (by kernel_rfl) (by kernel_rfl) (fun _ _ _ h => h) (Or.inl ⟨by rfl, ?_⟩) (by assumption) ?_
          rotate_left 1
          · intro w' hSw; (try dsimp only at hSw); (try unfold op27_6); go_simp; (try with_reducible rfl)
          (try unfold op27_6)
          (try simp only [Act.put, List.setIfInBounds_toArray, List.set_cons_zero, List.set_cons_succ])
          refine wpAnyH_take (i := 7) (oi := op27_7) (v := ?_) rfl (by kernel_rfl) (by kernel_rfl) (by kernel_rfl) (fun _ _ _ h => h) (Or.inl ⟨by rfl, ?_⟩) (by assumption) ?_
          rotate_left 1
          · intro w' hSw; (try dsimp only at hSw); (try unfold op27_7); go_simp; (try with_reducible rfl)
          (try unfold op27_7)
          (try simp only [Act.put, List.setIfInBounds_toArray, List.set_cons_zero, List.set_cons_succ])
          refine wpAnyH_take (i := 8) (oi := op27_8) (v := ?_) rfl (by kernel_rfl) (by kernel_rfl) (by kernel_rfl) (fun _ _ _ h => h) (Or.inl ⟨by rfl, ?_⟩) (by assumption) ?_
          rotate_left 1
          · intro w' hSw; (try dsimp only at hSw); (try unfold op27_8); go_simp; (try with_reducible rfl)
          (try unfold op27_8)
          (try simp only [Act.put, List.setIfInBounds_toArray, List.set_cons_zero, List.set_cons_succ])
          exact key wr3 bh eh Ah Nh Kh At Nt Kt hC ch dh oh.top hlv_ch hlv_dh (by first | exact ne_h | exact Ne.symm ne_h) hHeld
        (try unfold op27_10)
        refine step_alloc_v rfl 33 rfl _ zeroRp ?_
        intro eh wr5 heh hweh hBr5 dh
        have hlv_dh : w18.heap.size ≤ eh := Nat.le_trans hC.size heh
        (try have ne_h := Nat.ne_of_lt (Nat.lt_of_lt_of_le ch.lt heh))
        (try replace ot := ot.grow hBr5)
        (try replace oh := oh.grow hBr5)
        (try replace ch := vblk_grow ch hBr5)
        replace hC := hC.trans (hBr5.mono hC.size)
        refine hKC.out _ _ (⟨vblk_grow ca hC, vblk_grow cc hC⟩) (fun hHeld2 => ?_)
        clear hKC KC hHeld
        have hHeld := hHeld2
        clear hHeld2
        (try simp only [Act.put, List.setIfInBounds_toArray, List.set_cons_zero, List.set_cons_succ])
        refine wpAnyH_ready (rs := [1]) (by kernel_rfl) (by simp) ?_
        refine AllReadyH.cons (o := op27_1) rfl (fun KC hKC => ?_) AllReadyH.nil
        (try unfold op27_1)
        go_simp
        go_at_call 9
        refine (toBook_any I X _ _ (R.out.grow (hB.trans (hC.mono hB.size))) hl).mono ?_
        rintro er wr1 ⟨vt, rfl, ot, hBr1⟩
        obtain ⟨At, Nt, Kt, rfl⟩ := ot.slice
        (try replace oh := oh.grow hBr1)
        (try replace ch := vblk_grow ch hBr1)
        (try replace dh := vblk_grow dh hBr1)
        replace hC := hC.trans (hBr1.mono hC.size)
        refine hKC.out _ _ (⟨vblk_grow ca hC, vblk_grow cc hC⟩) (fun hHeld2 => ?_)
        clear hKC KC hHeld
        have hHeld := hHeld2
        clear hHeld2
        (try simp only [Act.put, List.setIfInBounds_toArray, List.set_cons_zero, List.set_cons_succ])
        refine wpAnyH_ready (rs := [3]) (by kernel_rfl) (by simp) ?_
        refine AllReadyH.cons (o := op27_3) rfl (fun KC hKC => ?_) AllReadyH.nil
        (try unfold op27_3)
        go_simp
        go_at_call 10
        refine (htoC.out _).mono ?_
        rintro er wr2 ⟨rfl, hBr2⟩
        (try replace ot := ot.grow hBr2)
        (try replace oh := oh.grow hBr2)
        (try replace ch := vblk_grow ch hBr2)
        (try replace dh := vblk_grow dh hBr2)
        replace hC := hC.trans (hBr2.mono hC.size)
        refine hKC.out _ _ (⟨vblk_grow ca hC, vblk_grow cc hC⟩) (fun hHeld2 => ?_)
        clear hKC KC hHeld
        have hHeld := hHeld2
        clear hHeld2
        (try simp only [Act.put, List.setIfInBounds_toArray, List.set_cons_zero, List.set_cons_succ])
        refine wpAnyH_ready (rs := [5]) (by kernel_rfl) (by simp) ?_
        refine AllReadyH.cons (o := op27_5) rfl (fun KC hKC => ?_) AllReadyH.nil
        (try unfold op27_5)
        go_simp
        go_at_call 11
        refine (hkI.out SMK.out hl hN1 hB1x _ _ ot.rd (EN.out.grow (hB.trans (hC.mono hB.size)))).mono ?_
        rintro er wr3 ⟨vh, rfl, oh, hBr3⟩
        obtain ⟨Ah, Nh, Kh, rfl⟩ := oh.slice
        replace oh := oh.wide (lo' := w18.heap.size) hC.size (Nat.le_refl _)
        (try replace ot := ot.grow hBr3)
        (try replace ch := vblk_grow ch hBr3)
        (try replace dh := vblk_grow dh hBr3)
        replace hC := hC.trans (hBr3.mono hC.size)
        refine hKC.out _ _ (⟨vblk_grow ca hC, vblk_grow cc hC⟩) (fun hHeld2 => ?_)
        clear hKC KC hHeld
        have hHeld := hHeld2
        clear hHeld2
        (try simp only [Act.put, List.setIfInBounds_toArray, List.set_cons_zero, List.set_cons_succ])
        refine wpAnyH_take (i := 6) (oi := op27_6) (v := ?_) rfl (by kernel_rfl) (by kernel_rfl) (by kernel_rfl) (fun _ _ _ h => h) (Or.inl ⟨by rfl, ?_⟩) (by assumption) ?_
        rotate_left 1
        · intro w' hSw; (try dsimp only at hSw); (try unfold op27_6); go_simp; (try with_reducible rfl)
        (try unfold op27_6)
        (try simp only [Act.put, List.setIfInBounds_toArray, List.set_cons_zero, List.set_cons_succ])
        refine wpAnyH_take (i := 7) (oi := op27_7) (v := ?_) rfl (by kernel_rfl) (by kernel_rfl) (by kernel_rfl) (fun _ _ _ h => h) (Or.inl ⟨by rfl, ?_⟩) (by assumption) ?_
        rotate_left 1
        · intro w' hSw; (try dsimp only at hSw); (try unfold op27_7); go_simp; (try with_reducible rfl)
        (try unfold op27_7)
        (try simp only [Act.put, List.setIfInBounds_toArray, List.set_cons_zero, List.set_cons_succ])
        refine wpAnyH_take (i := 8) (oi := op27_8) (v := ?_) rfl (by kernel_rfl) (by kernel_rfl) (by kernel_rfl) (fun _ _ _ h => h) (Or.inl ⟨by rfl, ?_⟩) (by assumption) ?_
        rotate_left 1
        · intro w' hSw; (try dsimp only at hSw); (try unfold op27_8); go_simp; (try with_reducible rfl)
        (try unfold op27_8)
        (try simp only [Act.put, List.setIfInBounds_toArray, List.set_cons_zero, List.set_cons_succ])
        exact key wr3 bh eh Ah Nh Kh At Nt Kt hC ch dh oh.top hlv_ch hlv_dh (by first | exact ne_h | exact Ne.symm ne_h) hHeld
      (try unfold op27_10)
      refine step_alloc_v rfl 33 rfl _ zeroRp ?_
      intro eh wr5 heh hweh hBr5 dh
      have hlv_dh : w18.heap.size ≤ eh := Nat.le_trans hC.size heh
      (try have ne_h := Nat.ne_of_lt (Nat.lt_of_lt_of_le ch.lt heh))
      (try replace ot := ot.grow hBr5)
      (try replace oh := oh.grow hBr5)
      (try replace ch := vblk_grow ch hBr5)
      replace hC := hC.trans (hBr5.mono hC.size)
      refine hKC.out _ _ (⟨vblk_grow ca hC, vblk_grow cc hC⟩) (fun hHeld2 => ?_)
      clear hKC KC hHeld
      have hHeld := hHeld2
      clear hHeld2
      (try simp only [Act.put, List.setIfInBounds_toArray, List.set_cons_zero, List.set_cons_succ])
      refine wpAnyH_ready (rs := [1, 9]) (by kernel_rfl) (by simp) ?_
      refine AllReadyH.cons (o := op27_1) rfl (fun KC hKC => ?_) (AllReadyH.cons (o := op27_9) rfl (fun KC hKC => ?_) AllReadyH.nil)
      · (try unfold op27_1)
        go_simp
        go_at_call 9
        refine (toBook_any I X _ _ (R.out.grow (hB.trans (hC.mono hB.size))) hl).mono ?_
        rintro er wr1 ⟨vt, rfl, ot, hBr1⟩
        obtain ⟨At, Nt, Kt, rfl⟩ := ot.slice
        (try replace oh := oh.grow hBr1)
        (try replace ch := vblk_grow ch hBr1)
        (try replace dh := vblk_grow dh hBr1)
        replace hC := hC.trans (hBr1.mono hC.size)
        refine hKC.out _ _ (⟨vblk_grow ca hC, vblk_grow cc hC⟩) (fun hHeld2 => ?_)
        clear hKC KC hHeld
        have hHeld := hHeld2
        clear hHeld2
        (try simp only [Act.put, List.setIfInBounds_toArray, List.set_cons_zero, List.set_cons_succ])
        refine wpAnyH_ready (rs := [3, 9]) (by kernel_rfl) (by simp) ?_
        refine AllReadyH.cons (o := op27_3) rfl (fun KC hKC => ?_) (AllReadyH.cons (o := op27_9) rfl (fun KC hKC => ?_) AllReadyH.nil)
        · (try unfold op27_3)
          go_simp
          go_at_call 10
          refine (htoC.out _).mono ?_
          rintro er wr2 ⟨rfl, hBr2⟩
          (try replace ot := ot.grow hBr2)
          (try replace oh := oh.grow hBr2)
          (try replace ch := vblk_grow ch hBr2)
          (try replace dh := vblk_grow dh hBr2)
          replace hC := hC.trans (hBr2.mono hC.size)
          refine hKC.out _ _ (⟨vblk_grow ca hC, vblk_grow cc hC⟩) (fun hHeld2 => ?_)
          clear hKC KC hHeld
          have hHeld := hHeld2
          clear hHeld2
          (try simp only [Act.put, List.setIfInBounds_toArray, List.set_cons_zero, List.set_cons_succ])
          refine wpAnyH_ready (rs := [5, 9]) (by kernel_rfl) (by simp) ?_
          refine AllReadyH.cons (o := op27_5) rfl (fun KC hKC => ?_) (AllReadyH.cons (o := op27_9) rfl (fun KC hKC => ?_) AllReadyH.nil)
          · (try unfold op27_5)
            go_simp
            go_at_call 11
            refine (hkI.out SMK.out hl hN1 hB1x _ _ ot.rd (EN.out.grow (hB.trans (hC.mono hB.size)))).mono ?_
            rintro er wr3 ⟨vh, rfl, oh, hBr3⟩
            obtain ⟨Ah, Nh, Kh, rfl⟩ := oh.slice
            replace oh := oh.wide (lo' := w18.heap.size) hC.size (Nat.le_refl _)
            (try replace ot := ot.grow hBr3)
            (try replace ch := vblk_grow ch hBr3)
            (try replace dh := vblk_grow dh hBr3)
            replace hC := hC.trans (hBr3.mono hC.size)
            refine hKC.out _ _ (⟨vblk_grow ca hC, vblk_grow cc hC⟩) (fun hHeld2 => ?_)
            clear hKC KC hHeld
            have hHeld := hHeld2
            clear hHeld2
            (try simp only [Act.put, List.setIfInBounds_toArray, List.set_cons_zero, List.set_cons_succ])
            refine wpAnyH_take (i := 6) (oi := op27_6) (v := ?_) rfl (by kernel_rfl) (by kernel_rfl) (by kernel_rfl) (fun _ _ _ h => h) (Or.inl ⟨by rfl, ?_⟩) (by assumption) ?_
            rotate_left 1
            · intro w' hSw; (try dsimp only at hSw); (try unfold op27_6); go_simp; (try with_reducible rfl)
            (try unfold op27_6)
            (try simp only [Act.put, List.setIfInBounds_toArray, List.set_cons_zero, List.set_cons_succ])
            refine wpAnyH_take (i := 7) (oi := op27_7) (v := ?_) rfl (by kernel_rfl) (by kernel_rfl) (by kernel_rfl) (fun _ _ _ h => h) (Or.inl ⟨by rfl, ?_⟩) (by assumption) ?_
            rotate_left 1
            · intro w' hSw; (try dsimp only at hSw); (try unfold op27_7); go_simp; (try with_reducible rfl)
            (try unfold op27_7)
            (try simp only [Act.put, List.setIfInBounds_toArray, List.set_cons_zero, List.set_cons_succ])
            refine wpAnyH_take (i := 8) (oi := op27_8) (v := ?_) rfl (by kernel_rfl) (by kernel_rfl) (by kernel_rfl) (fun _ _ _ h => h) (Or.inl ⟨by rfl, ?_⟩) (by assumption) ?_
            rotate_left 1
            · intro w' hSw; (try dsimp only at hSw); (try unfold op27_8); go_simp; (try with_reducible rfl)
            (try unfold op27_8)
            (try simp only [Act.put, List.setIfInBounds_toArray, List.set_cons_zero, List.set_cons_succ])
            refine wpAnyH_ready (rs := [9]) (by kernel_rfl) (by simp) ?_
            refine AllReadyH.cons (o := op27_9) rfl (fun KC hKC => ?_) AllReadyH.nil
            (try unfold op27_9)
            refine step_alloc_v rfl 31 rfl _ zeroBk ?_
            intro bh wr4 hbh hwbh hBr4 ch
            have hlv_ch : w18.heap.size ≤ bh := Nat.le_trans hC.size hbh
            (try have ne_h := Nat.ne_of_lt (Nat.lt_of_lt_of_le dh.lt hbh))
            (try replace ot := ot.grow hBr4)
            (try replace oh := oh.grow hBr4)
            (try replace dh := vblk_grow dh hBr4)
            replace hC := hC.trans (hBr4.mono hC.size)
            refine hKC.out _ _ (⟨vblk_grow ca hC, vblk_grow cc hC⟩) (fun hHeld2 => ?_)
            clear hKC KC hHeld
            have hHeld := hHeld2
            clear hHeld2
            (try simp only [Act.put, List.setIfInBounds_toArray, List.set_cons_zero, List.set_cons_succ])
            exact key wr4 bh eh Ah Nh Kh At Nt Kt hC ch dh oh.top hlv_ch hlv_dh (by first | exact ne_h | exact Ne.symm ne_h) hHeld
          (try unfold op27_9)
          refine step_alloc_v rfl 31 rfl _ zeroBk ?_
          intro bh wr4 hbh hwbh hBr4 ch
          have hlv_ch : w18.heap.size ≤ bh := Nat.le_trans hC.size hbh
          (try have ne_h := Nat.ne_of_lt (Nat.lt_of_lt_of_le dh.lt hbh))
          (try replace ot := ot.grow hBr4)
          (try replace oh := oh.grow hBr4)
          (try replace dh := vblk_grow dh hBr4)
          replace hC := hC.trans (hBr4.mono hC.size)
          refine hKC.out _ _ (⟨vblk_grow ca hC, vblk_grow cc hC⟩) (fun hHeld2 => ?_)
          clear hKC KC hHeld
          have hHeld := hHeld2
          clear hHeld2
          (try simp only [Act.put, List.setIfInBounds_toArray, List.set_cons_zero, List.set_cons_succ])
          refine wpAnyH_ready (rs := [5]) (by kernel_rfl) (by simp) ?_
          refine AllReadyH.cons (o := op27_5) rfl (fun KC hKC => ?_) AllReadyH.nil
          (try unfold op27_5)
          go_simp
          go_at_call 11
          refine (hkI.out SMK.out hl hN1 hB1x _ _ ot.rd (EN.out.grow (hB.trans (hC.mono hB.size)))).mono ?_
          rintro er wr3 ⟨vh, rfl, oh, hBr3⟩
          obtain ⟨Ah, Nh, Kh, rfl⟩ := oh.slice
          replace oh := oh.wide (lo' := w18.heap.size) hC.size (Nat.le_refl _)
          (try replace ot := ot.grow hBr3)
          (try replace ch := vblk_grow ch hBr3)
          (try replace dh := vblk_grow dh hBr3)
          replace hC := hC.trans (hBr3.mono hC.size)
          refine hKC.out _ _ (⟨vblk_grow ca hC, vblk_grow cc hC⟩) (fun hHeld2 => ?_)
          clear hKC KC hHeld
          have hHeld := hHeld2
          clear hHeld2
          (try simp only [Act.put, List.setIfInBounds_toArray, List.set_cons_zero, List.set_cons_succ])
          refine wpAnyH_take (i := 6) (oi := op27_6) (v := ?_) rfl (by kernel_rfl) (by kernel_rfl) (by kernel_rfl) (fun _ _ _ h => h) (Or.inl ⟨by rfl, ?_⟩) (by assumption) ?_
          rotate_left 1
          · intro w' hSw; (try dsimp only at hSw); (try unfold op27_6); go_simp; (try with_reducible rfl)
          (try unfold op27_6)
          (try simp only [Act.put, List.setIfInBounds_toArray, List.set_cons_zero, List.set_cons_succ])
          refine wpAnyH_take (i := 7) (oi := op27_7) (v := ?_) rfl (by kernel_rfl) (by kernel_rfl) (by kernel_rfl) (fun _ _ _ h => h) (Or.inl ⟨by rfl, ?_⟩) (by assumption) ?_
          rotate_left 1
          · intro w' hSw; (try dsimp only at hSw); (try unfold op27_7); go_simp; (try with_reducible rfl)
          (try unfold op27_7)
          (try simp only [Act.put, List.setIfInBounds_toArray, List.set_cons_zero, List.set_cons_succ])
          refine wpAnyH_take (i := 8) (oi := op27_8) (v := ?_) rfl (by kernel_rfl) (by kernel_rfl) (by kernel_rfl) (fun _ _ _ h => h) (Or.inl ⟨by rfl, ?_⟩) (by assumption) ?_
          rotate_left 1
          · intro w' hSw; (try dsimp only at hSw); (try unfold op27_8); go_simp; (try with_reducible rfl)
          (try unfold op27_8)
          (try simp only [Act.put, List.setIfInBounds_toArray, List.set_cons_zero, List.set_cons_succ])
          exact key wr3 bh eh Ah Nh Kh At Nt Kt hC ch dh oh.top hlv_ch hlv_dh (by first | exact ne_h | exact Ne.symm ne_h) hHeld
        (try unfold op27_9)
        refine step_alloc_v rfl 31 rfl _ zeroBk ?_
        intro bh wr4 hbh hwbh hBr4 ch
        have hlv_ch : w18.heap.size ≤ bh := Nat.le_trans hC.size hbh
        (try have ne_h := Nat.ne_of_lt (Nat.lt_of_lt_of_le dh.lt hbh))
        (try replace ot := ot.grow hBr4)
        (try replace oh := oh.grow hBr4)
        (try replace dh := vblk_grow dh hBr4)
        replace hC := hC.trans (hBr4.mono hC.size)
        refine hKC.out _ _ (⟨vblk_grow ca hC, vblk_grow cc hC⟩) (fun hHeld2 => ?_)
        clear hKC KC hHeld
        have hHeld := hHeld2
        clear hHeld2
        (try simp only [Act.put, List.setIfInBounds_toArray, List.set_cons_zero, List.set_cons_succ])
        refine wpAnyH_ready (rs := [3]) (by kernel_rfl) (by simp) ?_
        refine AllReadyH.cons (o := op27_3) rfl (fun KC hKC => ?_) AllReadyH.nil
        (try unfold op27_3)
        go_simp
        go_at_call 10
        refine (htoC.out _).mono ?_
        rintro er wr2 ⟨rfl, hBr2⟩
        (try replace ot := ot.grow hBr2)
        (try replace oh := oh.grow hBr2)
        (try replace ch := vblk_grow ch hBr2)
        (try replace dh := vblk_grow dh hBr2)
        replace hC := hC.trans (hBr2.mono hC.size)
        refine hKC.out _ _ (⟨vblk_grow ca hC, vblk_grow cc hC⟩) (fun hHeld2 => ?_)
        clear hKC KC hHeld
        have hHeld := hHeld2
        clear hHeld2
        (try simp only [Act.put, List.setIfInBounds_toArray, List.set_cons_zero, List.set_cons_succ])
        refine wpAnyH_ready (rs := [5]) (by kernel_rfl) (by simp) ?_
        refine AllReadyH.cons (o := op27_5) rfl (fun KC hKC => ?_) AllReadyH.nil
        (try unfold op27_5)
        go_simp
        go_at_call 11
        refine (hkI.out SMK.out hl hN1 hB1x _ _ ot.rd (EN.out.grow (hB.trans (hC.mono hB.size)))).mono ?_
        rintro er wr3 ⟨vh, rfl, oh, hBr3⟩
        obtain ⟨Ah, Nh, Kh, rfl⟩ := oh.slice
        replace oh := oh.wide (lo' := w18.heap.size) hC.size (Nat.le_refl _)
        (try replace ot := ot.grow hBr3)
        (try replace ch := vblk_grow ch hBr3)
        (try replace dh := vblk_grow dh hBr3)
        replace hC := hC.trans (hBr3.mono hC.size)
        refine hKC.out _ _ (⟨vblk_grow ca hC, vblk_grow cc hC⟩) (fun hHeld2 => ?_)
        clear hKC KC hHeld
        have hHeld := hHeld2
        clear hHeld2
        (try simp only [Act.put, List.setIfInBounds_toArray, List.set_cons_zero, List.set_cons_succ])
        refine wpAnyH_take (i := 6) (oi := op27_6) (v := ?_) rfl (by kernel_rfl) (by kernel_rfl) (by kernel_rfl) (fun _ _ _ h => h) (Or.inl ⟨by rfl, ?_⟩) (by assumption) ?_
        rotate_left 1
        · intro w' hSw; (try dsimp only at hSw); (try unfold op27_6); go_simp; (try with_reducible rfl)
        (try unfold op27_6)
        (try simp only [Act.put, List.setIfInBounds_toArray, List.set_cons_zero, List.set_cons_succ])
        refine wpAnyH_take (i := 7) (oi := op27_7) (v := ?_) rfl (by kernel_rfl) (by kernel_rfl) (by kernel_rfl) (fun _ _ _ h => h) (Or.inl ⟨by rfl, ?_⟩) (by assumption) ?_
        rotate_left 1
        · intro w' hSw; (try dsimp only at hSw); (try unfold op27_7); go_simp; (try with_reducible rfl)
        (try unfold op27_7)
        (try simp only [Act.put, List.setIfInBounds_toArray, List.set_cons_zero, List.set_cons_succ])
        refine wpAnyH_take (i := 8) (oi := op27_8) (v := ?_) rfl (by kernel_rfl) (by kernel_rfl) (by kernel_rfl) (fun _ _ _ h => h) (Or.inl ⟨by rfl, ?_⟩) (by assumption) ?_
        rotate_left 1
        · intro w' hSw; (try dsimp only at hSw); (try unfold op27_8); go_simp; (try with_reducible rfl)
        (try unfold op27_8)
        (try simp only [Act.put, List.setIfInBounds_toArray, List.set_cons_zero, List.set_cons_succ])
        exact key wr3 bh eh Ah Nh Kh At Nt Kt hC ch dh oh.top hlv_ch hlv_dh (by first | exact ne_h | exact Ne.symm ne_h) hHeld
      (try unfold op27_9)
      refine step_alloc_v rfl 31 rfl _ zeroBk ?_
      intro bh wr4 hbh hwbh hBr4 ch
      have hlv_ch : w18.heap.size ≤ bh := Nat.le_trans hC.size hbh
      (try have ne_h := Nat.ne_of_lt (Nat.lt_of_lt_of_le dh.lt hbh))
      (try replace ot := ot.grow hBr4)
      (try replace oh := oh.grow hBr4)
      (try replace dh := vblk_grow dh hBr4)
      replace hC := hC.trans (hBr4.mono hC.size)
      refine hKC.out _ _ (⟨vblk_grow ca hC, vblk_grow cc hC⟩) (fun hHeld2 => ?_)
      clear hKC KC hHeld
      have hHeld := hHeld2
      clear hHeld2
      (try simp only [Act.put, List.setIfInBounds_toArray, List.set_cons_zero, List.set_cons_succ])
      refine wpAnyH_ready (rs := [1]) (by kernel_rfl) (by simp) ?_
      refine AllReadyH.cons (o := op27_1) rfl (fun KC hKC => ?_) AllReadyH.nil
      (try unfold op27_1)
      go_simp
      go_at_call 9
      refine (toBook_any I X _ _ (R.out.grow (hB.trans (hC.mono hB.size))) hl).mono ?_
      rintro er wr1 ⟨vt, rfl, ot, hBr1⟩
      obtain ⟨At, Nt, Kt, rfl⟩ := ot.slice
      (try replace oh := oh.grow hBr1)
      (try replace ch := vblk_grow ch hBr1)
      (try replace dh := vblk_grow dh hBr1)
      replace hC := hC.trans (hBr1.mono hC.size)
      refine hKC.out _ _ (⟨vblk_grow ca hC, vblk_grow cc hC⟩) (fun hHeld2 => ?_)
      clear hKC KC hHeld
      have hHeld := hHeld2
      clear hHeld2
      (try simp only [Act.put, List.setIfInBounds_toArray, List.set_cons_zero, List.set_cons_succ])
      refine wpAnyH_ready (rs := [3]) (by kernel_rfl) (by simp) ?_
      refine AllReadyH.cons (o := op27_3) rfl (fun KC hKC => ?_) AllReadyH.nil
      (try unfold op27_3)
      go_simp
      go_at_call 10
      refine (htoC.out _).mono ?_
      rintro er wr2 ⟨rfl, hBr2⟩
      (try replace ot := ot.grow hBr2)
      (try replace oh := oh.grow hBr2)
      (try replace ch := vblk_grow ch hBr2)
      (try replace dh := vblk_grow dh hBr2)
      replace hC := hC.trans (hBr2.mono hC.size)
      refine hKC.out _ _ (⟨vblk_grow ca hC, vblk_grow cc hC⟩) (fun hHeld2 => ?_)
      clear hKC KC hHeld
      have hHeld := hHeld2
      clear hHeld2
      (try simp only [Act.put, List.setIfInBounds_toArray, List.set_cons_zero, List.set_cons_succ])
      refine wpAnyH_ready (rs := [5]) (by kernel_rfl) (by simp) ?_
      refine AllReadyH.cons (o := op27_5) rfl (fun KC hKC => ?_) AllReadyH.nil
      (try unfold op27_5)
      go_simp
      go_at_call 11
      refine (hkI.out SMK.out hl hN1 hB1x _ _ ot.rd (EN.out.grow (hB.trans (hC.mono hB.size)))).mono ?_
      rintro er wr3 ⟨vh, rfl, oh, hBr3⟩
      obtain ⟨Ah, Nh, Kh, rfl⟩ := oh.slice
      replace oh := oh.wide (lo' := w18.heap.size) hC.size (Nat.le_refl _)
      (try replace ot := ot.grow hBr3)
      (try replace ch := vblk_grow ch hBr3)
      (try replace dh := vblk_grow dh hBr3)
      replace hC := hC.trans (hBr3.mono hC.size)
      refine hKC.out _ _ (⟨vblk_grow ca hC, vblk_grow cc hC⟩) (fun hHeld2 => ?_)
      clear hKC KC hHeld
      have hHeld := hHeld2
      clear hHeld2
      (try simp only [Act.put, List.setIfInBounds_toArray, List.set_cons_zero, List.set_cons_succ])
      refine wpAnyH_take (i := 6) (oi := op27_6) (v := ?_) rfl (by kernel_rfl) (by kernel_rfl) (by kernel_rfl) (fun _ _ _ h => h) (Or.inl ⟨by rfl, ?_⟩) (by assumption) ?_
      rotate_left 1
      · intro w' hSw; (try dsimp only at hSw); (try unfold op27_6); go_simp; (try with_reducible rfl)
      (try unfold op27_6)
      (try simp only [Act.put, List.setIfInBounds_toArray, List.set_cons_zero, List.set_cons_succ])
      refine wpAnyH_take (i := 7) (oi := op27_7) (v := ?_) rfl (by kernel_rfl) (by kernel_rfl) (by kernel_rfl) (fun _ _ _ h => h) (Or.inl ⟨by rfl, ?_⟩) (by assumption) ?_
      rotate_left 1
      · intro w' hSw; (try dsimp only at hSw); (try unfold op27_7); go_simp; (try with_reducible rfl)
      (try unfold op27_7)
      (try simp only [Act.put, List.setIfInBounds_toArray, List.set_cons_zero, List.set_cons_succ])
      refine wpAnyH_take (i := 8) (oi := op27_8) (v := ?_) rfl (by kernel_rfl) (by kernel_rfl) (by kernel_rfl) (fun _ _ _ h => h) (Or.inl ⟨by rfl, ?_⟩) (by assumption) ?_
      rotate_left 1
      · intro w' hSw; (try dsimp only at hSw); (try unfold op27_8); go_simp; (try with_reducible rfl)
      (try unfold op27_8)
      (try simp only [Act.put, List.setIfInBounds_toArray, List.set_cons_zero, List.set_cons_succ])
      exact key wr3 bh eh Ah Nh Kh At Nt Kt hC ch dh oh.top hlv_ch hlv_dh (by first | exact ne_h | exact Ne.symm ne_h) hHeld
    case key =>
      intro wk bh eh Ah Nh Kh At Nt Kt hC ch dh oh hlv_ch hlv_dh ne_h hHeld
      refine wpAnyH_ready (rs := [11]) (by kernel_rfl) (by simp) ?_
      refine AllReadyH.cons (o := op27_11) rfl (fun KC hKC => ?_) AllReadyH.nil
      (try unfold op27_11)
      refine step_store_v rfl 31 _ _ rfl bh [.slice Ah Nh Kh, .int .i64 Y] rfl rfl sizeBk ch rfl (oneBk _ _ _ _) ?_
      intro wr6 hOr6 chx
      (try replace ot := ot.only hOr6 ch (by decide))
      (try replace oh := oh.only hOr6 ch (by decide))
      (try replace dh := vblk_only dh hOr6 (by first | exact ne_h | exact Ne.symm ne_h))
      replace hC := hC.trans (hOr6.2.2 _ hlv_ch)
      replace ch := chx
      refine hKC.out _ _ (⟨vblk_grow ca hC, vblk_grow cc hC⟩) (fun hHeld2 => ?_)
      clear hKC KC hHeld
      have hHeld := hHeld2
      clear hHeld2
      (try simp only [Act.put])
      refine wpAnyH_ready (rs := [12]) (by kernel_rfl) (by simp) ?_
      refine AllReadyH.cons (o := op27_12) rfl (fun KC hKC => ?_) AllReadyH.nil
      (try unfold op27_12)
      refine step_store_v rfl 33 _ _ rfl eh [x1, x2, x3, x4, x5, x6] rfl rfl sizeRp dh rfl hk6.out ?_
      intro wr7 hOr7 dhx
      (try replace ot := ot.only hOr7 dh (by decide))
      (try replace oh := oh.only hOr7 dh (by decide))
      (try replace ch := vblk_only ch hOr7 (by first | exact ne_h | exact Ne.symm ne_h))
      replace hC := hC.trans (hOr7.2.2 _ hlv_dh)
      replace dh := dhx
      refine hKC.out _ _ (⟨vblk_grow ca hC, vblk_grow cc hC⟩) (fun hHeld2 => ?_)
      clear hKC KC hHeld
      have hHeld := hHeld2
      clear hHeld2
      (try simp only [Act.put])
      refine wpAnyH_done (by kernel_rfl) ?_ _
      go_wp2
      go_meet
      case rel => exact ⟨bh, eh, Ah, Nh, Kh, rfl, rfl, hC, vblk_grow ca hC, vblk_grow cc hC, vblk_grow cw hC, vblk_grow dw hC, vblk_grow cx hC, vblk_grow cg hC, vblk_grow dg hC, ow.grow hC, pg.grow hC, ch, dh, oh.top⟩
  case rest =>
  obtain ⟨bh, eh, Ah, Nh, Kh, rfl, rfl, n_hC, n_ca, n_cc, n_cw, n_dw, n_cx, n_cg, n_dg, n_ow, n_pg, n_ch, n_dh, n_oh⟩ := hcut
  rename World => w19
  clear ow
  clear pg
  clear ca
  clear cc
  clear cw
  clear dw
  clear cx
  clear cg
  clear dg
  clear ca0 ca1
  clear cw0 cw1
  clear dw0 dw1 dw2 dw3 dw4 dw5
  clear cx0 cx1
  clear cg0 cg1
  clear dg0 dg1 dg2 dg3 dg4 dg5
  have hC := n_hC
  clear n_hC
  have ca := n_ca
  clear n_ca
  have cc := n_cc
  clear n_cc
  have cw := n_cw
  clear n_cw
  have dw := n_dw
  clear n_dw
  have cx := n_cx
  clear n_cx
  have cg := n_cg
  clear n_cg
  have dg := n_dg
  clear n_dg
  have ow := n_ow
  clear n_ow
  have pg := n_pg
  clear n_pg
  have ch := n_ch
  clear n_ch
  have dh := n_dh
  clear n_dh
  have oh := n_oh
  clear n_oh
  have hz19 : w18.heap.size ≤ w19.heap.size := hC.size
  replace hB := hB.trans (hC.mono (by omega))
  replace hzw := hB.size
  clear hC
  obtain ⟨ca0, ca1⟩ := cells2 ca
  obtain ⟨cw0, cw1⟩ := cells2 cw
  obtain ⟨dw0, dw1, dw2, dw3, dw4, dw5⟩ := cellsRp dw
  obtain ⟨cx0, cx1⟩ := cells2 cx
  obtain ⟨cg0, cg1⟩ := cells2 cg
  obtain ⟨dg0, dg1, dg2, dg3, dg4, dg5⟩ := cellsRp dg
  obtain ⟨ch0, ch1⟩ := cells2 ch
  obtain ⟨dh0, dh1, dh2, dh3, dh4, dh5⟩ := cellsRp dh
  have hl_ch := ch.lt
  have hl_dh := dh.lt
  have mk18 : Hid True := trivial
  have mk19 : Hid True := trivial
  have mk20 : Hid True := trivial
  go_wp2_with (first | (clear mk18; go_at_call 12; refine (eqBook_any J Y _ _ _ oh.rd ow.rd).mono ?_; rintro er w20 ⟨rfl, hB20⟩; have hz20 : w19.heap.size ≤ w20.heap.size := hB20.size; replace ow := ow.grow hB20; replace pg := pg.grow hB20; replace oh := oh.grow hB20; replace ca := vblk_grow ca hB20; replace cc := vblk_grow cc hB20; replace cw := vblk_grow cw hB20; replace dw := vblk_grow dw hB20; replace cx := vblk_grow cx hB20; replace cg := vblk_grow cg hB20; replace dg := vblk_grow dg hB20; replace ch := vblk_grow ch hB20; replace dh := vblk_grow dh hB20; replace hB := hB.trans (hB20.mono (by omega)); replace hzw := hB.size; clear ca0 ca1; obtain ⟨ca0, ca1⟩ := cells2 ca; clear cw0 cw1; obtain ⟨cw0, cw1⟩ := cells2 cw; clear dw0 dw1 dw2 dw3 dw4 dw5; obtain ⟨dw0, dw1, dw2, dw3, dw4, dw5⟩ := cellsRp dw; clear cx0 cx1; obtain ⟨cx0, cx1⟩ := cells2 cx; clear cg0 cg1; obtain ⟨cg0, cg1⟩ := cells2 cg; clear dg0 dg1 dg2 dg3 dg4 dg5; obtain ⟨dg0, dg1, dg2, dg3, dg4, dg5⟩ := cellsRp dg; clear ch0 ch1; obtain ⟨ch0, ch1⟩ := cells2 ch; clear dh0 dh1 dh2 dh3 dh4 dh5; obtain ⟨dh0, dh1, dh2, dh3, dh4, dh5⟩ := cellsRp dh) | (clear mk19; go_at_call 13; refine (hkq.out _).mono ?_; rintro er w21 ⟨rfl, hB21⟩; have hz21 : w20.heap.size ≤ w21.heap.size := hB21.size; replace ow := ow.grow hB21; replace pg := pg.grow hB21; replace oh := oh.grow hB21; replace ca := vblk_grow ca hB21; replace cc := vblk_grow cc hB21; replace cw := vblk_grow cw hB21; replace dw := vblk_grow dw hB21; replace cx := vblk_grow cx hB21; replace cg := vblk_grow cg hB21; replace dg := vblk_grow dg hB21; replace ch := vblk_grow ch hB21; replace dh := vblk_grow dh hB21; replace hB := hB.trans (hB21.mono (by omega)); replace hzw := hB.size; clear ca0 ca1; obtain ⟨ca0, ca1⟩ := cells2 ca; clear cw0 cw1; obtain ⟨cw0, cw1⟩ := cells2 cw; clear dw0 dw1 dw2 dw3 dw4 dw5; obtain ⟨dw0, dw1, dw2, dw3, dw4, dw5⟩ := cellsRp dw; clear cx0 cx1; obtain ⟨cx0, cx1⟩ := cells2 cx; clear cg0 cg1; obtain ⟨cg0, cg1⟩ := cells2 cg; clear dg0 dg1 dg2 dg3 dg4 dg5; obtain ⟨dg0, dg1, dg2, dg3, dg4, dg5⟩ := cellsRp dg; clear ch0 ch1; obtain ⟨ch0, ch1⟩ := cells2 ch; clear dh0 dh1 dh2 dh3 dh4 dh5; obtain ⟨dh0, dh1, dh2, dh3, dh4, dh5⟩ := cellsRp dh) | (clear mk20; go_at_call 15; refine (heldBook_any J.length Y _ 1 (by omega) (by omega) mj hmj.out _ pg.rd).mono ?_; rintro er w22 ⟨rfl, hB22⟩; have hz22 : w21.heap.size ≤ w22.heap.size := hB22.size; replace ow := ow.grow hB22; replace pg := pg.grow hB22; replace oh := oh.grow hB22; replace ca := vblk_grow ca hB22; replace cc := vblk_grow cc hB22; replace cw := vblk_grow cw hB22; replace dw := vblk_grow dw hB22; replace cx := vblk_grow cx hB22; replace cg := vblk_grow cg hB22; replace dg := vblk_grow dg hB22; replace ch := vblk_grow ch hB22; replace dh := vblk_grow dh hB22; replace hB := hB.trans (hB22.mono (by omega)); replace hzw := hB.size; clear ca0 ca1; obtain ⟨ca0, ca1⟩ := cells2 ca; clear cw0 cw1; obtain ⟨cw0, cw1⟩ := cells2 cw; clear dw0 dw1 dw2 dw3 dw4 dw5; obtain ⟨dw0, dw1, dw2, dw3, dw4, dw5⟩ := cellsRp dw; clear cx0 cx1; obtain ⟨cx0, cx1⟩ := cells2 cx; clear cg0 cg1; obtain ⟨cg0, cg1⟩ := cells2 cg; clear dg0 dg1 dg2 dg3 dg4 dg5; obtain ⟨dg0, dg1, dg2, dg3, dg4, dg5⟩ := cellsRp dg; clear ch0 ch1; obtain ⟨ch0, ch1⟩ := cells2 ch; clear dh0 dh1 dh2 dh3 dh4 dh5; obtain ⟨dh0, dh1, dh2, dh3, dh4, dh5⟩ := cellsRp dh) | (fail))
  go_ret
  exact ⟨rfl, hB⟩


/-! ### the row, by the frame -/
set_option maxRecDepth 100000 in
theorem lifted (os : Os) (started : os.Started) (H : Type) (enc : TypeId × Value → H) :
    ReturnsInHanded {} Tryz.checked os 3 .any (fun w args => (Rows.fnExactDidBookSpec.pre enc Tryz.prog Tryz.f3 Rows.fnExactDidBookRow.domain false w args ∧ laidMetH Tryz.prog Rows.fnExactDidBookRow.laid w) ∧ sizedMet enc Tryz.prog Tryz.f3 (OpenSpec.ofChange Rows.fnExactDidBookSpec) false w args)
      (Rows.fnExactDidBookSpec.post enc Tryz.prog Tryz.f3 false true false false) := by
  refine returnsInHanded_of_change_and (C := Tryz.checked) (X := fun w _ => laidMetH Tryz.prog Rows.fnExactDidBookRow.laid w) (fun _ _ _ hh h => h.of_heap hh) own started (by kernel_rfl) Tryz.func3
    (ChangeSpec.witness_shaped (enc := enc) (C := Tryz.checked) (os := os) (X := fun w _ => laidMetH Tryz.prog Rows.fnExactDidBookRow.laid w) false (World.laidAll Tryz.prog os Rows.fnExactDidBookRow.laid) #[.agg #[.slice none 0 0, .int .i64 0], .agg #[.int .i64 0, .string ByteArray.empty, .int .i64 0, .int .i64 0, .string ByteArray.empty, .int .i64 0, .int .i64 0, .bool false], .int .i64 0] 8 (World.laidAll_os _ _ _)
      (World.shaped_of_ZipB (by kernel_rfl) (by kernel_rfl)) (by kernel_rfl) (by kernel_rfl) (by kernel_rfl)
      (by rw [MakeChecks.laidMetH_plain _ _ _ (by kernel_rfl)]; exact laidMet_laidAll _ (by kernel_rfl) (by kernel_rfl))) ?_
  intro W base args ds gs before hval0 hW hcnd _ hL _
  have hval : ∀ (j : Nat) t v, Tryz.f3.params[j]? = some t → args[j]? = some v → Value.okWide Tryz.prog W .any base t v := hval0
  have hW' := hW
  obtain ⟨p, q, hA0, hV, rfl, hfz, hnd⟩ := hW
  have hA : DataW.TrodAll enc Tryz.prog W 0 (fun _ => true) true Tryz.f3.params.toList args.toList ds p := hA0
  rw [Tryz.params3] at hA hval
  obtain ⟨v0, vs0, d0, ds0, p0, q0, hargs, rfl, rfl, h0, r0⟩ := trodAll_cons hA
  obtain ⟨v1, vs1, d1, ds1, p1, q1, rfl, rfl, rfl, h1, r1⟩ := trodAll_cons r0
  obtain ⟨v2, vs2, d2, ds2, p2, q2, rfl, rfl, rfl, h2, r2⟩ := trodAll_cons r1
  obtain ⟨rfl, rfl, rfl⟩ := trodAll_nil r2
  obtain rfl : args = #[v0, v1, v2] := by cases args; simp_all
  obtain ⟨rfl, rfl⟩ := trodVars_none hV
  have k0 := h0
  have lt0 : ∀ x ∈ p0, x.block < W.heap.size := by obtain ⟨m, hm⟩ := k0; exact DataW.trod_lt m _ _ _ hm
  obtain ⟨u0, I0, X0, rfl, hR0, hS0⟩ := open_book (hval 0 24 v0 rfl rfl) h0
  have k1 := h1
  have lt1 : ∀ x ∈ p1, x.block < W.heap.size := by obtain ⟨m, hm⟩ := k1; exact DataW.trod_lt m _ _ _ hm
  obtain ⟨V1, N1, F1, U1, B1, C1, D1, Q1, rfl, sN1, sB1⟩ := openCm (hval 1 26 v1 rfl rfl) h1
  obtain ⟨a2, rfl, rfl, rfl, ws2⟩ := open_int Tryz.underlying2 (hval 2 2 v2 rfl rfl) h2
  clear hA0 hval0
  refine (walk u0 I0 X0 V1 N1 F1 U1 B1 C1 D1 Q1 a2 W (envOf hL) hR0 hS0 sN1 sB1).mono fun e W' ⟨he, bel⟩ => ?_
  subst he
  exact ⟨_, rfl, _, _, _, [], _, [], hW', trodAll_mk1 (shut_bool Tryz.underlying4 _), (trodAll_cons_mk (Below.trod laidOut (by kernel_rfl) (of_decide_eq_true (by kernel_rfl)) k0 bel lt0) (trodAll_cons_mk (Below.trod laidOut (by kernel_rfl) (of_decide_eq_true (by kernel_rfl)) k1 bel lt1) (trodAll_cons_mk (shut_int Tryz.underlying2 ws2) trodAll_mk0))), rfl, bel.frame _, fun h => by cases h⟩

theorem over : Rows.fnExactDidBookRow.holds Tryz.pinned (OpenSpec.ofChange Rows.fnExactDidBookSpec) :=
  OpenClaim.holds_of_wide 3 Tryz.f3 rfl rfl rfl rfl rfl rfl rfl ⟨rfl, rfl, rfl, rfl, rfl⟩ rfl rfl rfl rfl rfl (by kernel_rfl) Tryz.func3 (by kernel_rfl)
    (of_decide_eq_true (by kernel_rfl)) (by unfold Func.isWrapper; first | (rw [if_pos (by decide +kernel)]; kernel_rfl) | (rw [if_neg (by decide +kernel)]; exact ⟨rfl, rfl⟩))
    (fun os started H enc _ => lifted os started H enc)

/-- the card: the row, its listed variables tied to the program's text -/
theorem proved : Rows.FnExactDidBookCardSaid :=
  Claim7.holds_tied_plain_at .later [] [.data, .data, .data, .sentinel, .sentinel] true Rows.fnExactDidBookCard.stood.harness true over (fun _ h => by cases h) (by kernel_rfl) (fun _ h => by cases h) fnExactDidBook_row_tie rfl ⟨rfl, rfl⟩ (by kernel_rfl) rfl
    (fun f fn hf hfn => by
      obtain rfl : f = 3 := Option.some.inj ((show Tryz.prog.funcNamed "loop.example/g00401/laws.FnExactDidBook" = some 3 by kernel_rfl).symm.trans hf) |>.symm
      obtain rfl : fn = Tryz.f3 := (Option.some.inj (Tryz.func3.symm.trans hfn)).symm
      exact ⟨by kernel_rfl, fun j t ht => by
        rw [Tryz.params3] at ht
        have hm : t ∈ [24, 26, 2] := by simpa using Array.mem_of_getElem? ht
        have hall : ([24, 26, 2].all fun u => !Tryz.prog.wantsStandIn u) = true := by kernel_rfl
        exact (show Tryz.prog.wantsStandIn t = false by simpa using List.all_eq_true.1 hall t hm)⟩)
    (by kernel_rfl)
end Go.Proofs.YtjkkjpgebcnhgaaGreatDoor.fnExactDidBook

namespace Go.Proofs.YtjkkjpgebcnhgaaGreatDoor
/-- the statement, under its short name -/
theorem fnExactDidBook_holds : Rows.FnExactDidBookCardSaid := fnExactDidBook.proved
#print axioms fnExactDidBook_holds
end Go.Proofs.YtjkkjpgebcnhgaaGreatDoor
