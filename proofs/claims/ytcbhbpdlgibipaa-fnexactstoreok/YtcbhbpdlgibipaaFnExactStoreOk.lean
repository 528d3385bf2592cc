/- For every book the program's StoreOk answers as the model's StoreOk and writes into nothing that it was given (the law itself lets off what has over 1048576 things and bytes): the law's call returns true and its arguments read as before; no condition. -/
import Derived.Test.YtcbhbpdlgibipaaBh1
namespace Go.Proofs.Ytcbhbpdlgibipaa.fnExactStoreOk
open Go.ChangeShapes Go.WideShapes Go.ChangeAt Go.RowKit
open Go.Proofs.Ytcbhbpdlgibipaa.ce Go.Proofs.Ytcbhbpdlgibipaa.ro Go.Proofs.Ytcbhbpdlgibipaa.rg
open Go.ChangeMaps (open_string shut_string)
set_option linter.unusedVariables false

theorem own : ownKnob Try.prog.godebug = none := by kernel_rfl
theorem laidOut : laidOutB Try.prog = true := by kernel_rfl

/-! ### the walk -/
set_option maxRecDepth 100000 in
set_option maxHeartbeats 4000000 in
theorem walk (v : Value) (I : List It) (X : Int) (w : World) (hv : Rd encLi w v I) (hlo : Lo I) :
    Calls Try.prog 3 #[.agg #[v, .int .i64 X]] w fun e w' => e = .returned (.bool true) ∧ Below w.heap.size w w' := by
  obtain ⟨a, cap, rfl⟩ := hv.form
  have R : Hid (Rd encLi w (.slice a I.length cap) I) := hv
  have HLO : Hid (Lo I) := hlo
  clear hv hlo
  obtain ⟨z, hZ⟩ := hid_ex (storeB ⟨I, X⟩)
  have hzz : (z != z) = false := by simp
  go_enter Try.func3, Try.ntmps3
  have mk1 : Hid True := trivial
  have mk2 : Hid True := trivial
  go_wp2_with (first | (clear mk1; refine wpList_box_v rfl 24 _ rfl [.slice a I.length cap, .int .i64 X] rfl ?_; intro ba w1 hba hwba hB1 ca; have hz1 : w.heap.size ≤ w1.heap.size := hB1.size; have hB := hB1; have hzw := hB.size; obtain ⟨ca0, ca1⟩ := cells2 ca) | (clear mk2; go_at_call 8; refine (szBook_any I X _ 1048576 (by omega) (by omega) _ (R.out.grow hB) HLO.out).mono ?_; rintro er w2 ⟨q, rfl, hB2, hr⟩; have hz2 : w1.heap.size ≤ w2.heap.size := hB2.size; replace ca := vblk_grow ca hB2; replace hB := hB.trans (hB2.mono (by omega)); replace hzw := hB.size; clear ca0 ca1; obtain ⟨ca0, ca1⟩ := cells2 ca; by_cases hneg : q < 0) | (fail))
  · go_ret
    exact ⟨rfl, hB⟩
  obtain ⟨hl, hsm⟩ := hr (by omega)
  clear hr
  have SMK : Hid (SmK I) := hsm
  clear hsm
  have mk3 : Hid True := trivial
  have mk4 : Hid True := trivial
  have mk5 : Hid True := trivial
  have mk6 : Hid True := trivial
  have mk7 : Hid True := trivial
  have mk8 : Hid True := trivial
  go_wp2_with (first | (clear mk3; go_at_call 10; refine (toBook_any I X _ _ (R.out.grow hB) hl).mono ?_; rintro er w3 ⟨vt, rfl, ot, hB3⟩; have hz3 : w2.heap.size ≤ w3.heap.size := hB3.size; replace ca := vblk_grow ca hB3; replace hB := hB.trans (hB3.mono (by omega)); replace hzw := hB.size; clear ca0 ca1; obtain ⟨ca0, ca1⟩ := cells2 ca; obtain ⟨At, Nt, Kt, rfl⟩ := ot.slice) | (clear mk4; go_at_call 9; refine (specStoreOk_any I X _ z hZ _ ot.rd SMK.out).mono ?_; rintro er w4 ⟨rfl, hB4⟩; have hz4 : w3.heap.size ≤ w4.heap.size := hB4.size; replace ca := vblk_grow ca hB4; replace hB := hB.trans (hB4.mono (by omega)); replace hzw := hB.size; clear ca0 ca1; obtain ⟨ca0, ca1⟩ := cells2 ca) | (clear mk5; go_at_call 10; refine (toBook_any I X _ _ (R.out.grow hB) hl).mono ?_; rintro er w5 ⟨vx, rfl, ox, hB5⟩; have hz5 : w4.heap.size ≤ w5.heap.size := hB5.size; replace ca := vblk_grow ca hB5; replace hB := hB.trans (hB5.mono (by omega)); replace hzw := hB.size; clear ca0 ca1; obtain ⟨ca0, ca1⟩ := cells2 ca; obtain ⟨Ax, Nx, Kx, rfl⟩ := ox.slice) | (clear mk6; refine wpList_alloc_v rfl 29 rfl _ zeroBk ?_; intro bx w6 hbx hwbx hB6 cx; have hz6 : w5.heap.size ≤ w6.heap.size := hB6.size; replace ox := ox.grow hB6; replace ca := vblk_grow ca hB6; replace hB := hB.trans (hB6.mono (by omega)); replace hzw := hB.size; clear ca0 ca1; obtain ⟨ca0, ca1⟩ := cells2 ca) | (clear mk7; refine wpList_store_v rfl 29 _ _ rfl bx [.slice Ax Nx Kx, .int .i64 X] rfl rfl sizeBk cx rfl (oneBk _ _ _ _) ?_; intro w7 hO7 cxx; have hz7 : w6.heap.size ≤ w7.heap.size := (Nat.le_of_eq hO7.1.symm); have hy7 : w7.heap.size ≤ w6.heap.size := (Nat.le_of_eq hO7.1); replace ox := ox.only hO7 cx (by decide); replace ca := vblk_only ca hO7 (by omega); replace hB := hB.trans (hO7.2.2 _ (by omega)); replace hzw := hB.size; clear ca0 ca1; obtain ⟨ca0, ca1⟩ := cells2 ca; clear cx; have cx := cxx; clear cxx; obtain ⟨cx0, cx1⟩ := cells2 cx) | (clear mk8; go_at_call 11; refine (implStoreOk_any I X _ z hZ _ ox.rd SMK.out).mono ?_; rintro er w8 ⟨rfl, hB8⟩; have hz8 : w7.heap.size ≤ w8.heap.size := hB8.size; replace ox := ox.grow hB8; replace ca := vblk_grow ca hB8; replace cx := vblk_grow cx hB8; replace hB := hB.trans (hB8.mono (by omega)); replace hzw := hB.size; clear ca0 ca1; obtain ⟨ca0, ca1⟩ := cells2 ca; clear cx0 cx1; obtain ⟨cx0, cx1⟩ := cells2 cx) | (fail))
  have hBd : Below w8.heap.size w8 w8.drew := (Below.refl _ _).drew
  have hzd : w8.drew.heap.size ≤ w8.heap.size := Nat.le_refl _
  have hzd2 : w8.heap.size ≤ w8.drew.heap.size := Nat.le_refl _
  replace ox := ox.grow hBd
  replace ca := vblk_grow ca hBd
  clear ca0 ca1
  obtain ⟨ca0, ca1⟩ := cells2 ca
  replace cx := vblk_grow cx hBd
  clear cx0 cx1
  obtain ⟨cx0, cx1⟩ := cells2 cx
  replace hB := hB.trans (hBd.mono (by omega))
  replace hzw := hB.size
  have S1 : (w8.drew.cell? ⟨bx, 0, none⟩ = some (.slice Ax Nx Kx) ∧ w8.drew.cell? ⟨bx, 1, none⟩ = some (.int .i64 X) ∧ w8.drew.cell? ⟨ba, 0, none⟩ = some (.slice a I.length cap) ∧ w8.drew.cell? ⟨ba, 1, none⟩ = some (.int .i64 X)) := ⟨cx0, cx1, ca0, ca1⟩
  have mk9 : Hid True := trivial
  have mk10 : Hid True := trivial
  go_region_held3 (fun w' => (w'.cell? ⟨bx, 0, none⟩ = some (.slice Ax Nx Kx) ∧ w'.cell? ⟨bx, 1, none⟩ = some (.int .i64 X) ∧ w'.cell? ⟨ba, 0, none⟩ = some (.slice a I.length cap) ∧ w'.cell? ⟨ba, 1, none⟩ = some (.int .i64 X))) (first | with_reducible assumption | with_reducible exact S1 | (fail)) (first | (clear mk9; go_at_call 10; refine (toBook_any I X _ (w8.drew) (R.out.grow hB) hl).mono ?_; rintro er w9 ⟨vy, rfl, oy, hB9⟩; have hz9 : w8.drew.heap.size ≤ w9.heap.size := hB9.size; replace ox := ox.grow hB9; replace ca := vblk_grow ca hB9; replace cx := vblk_grow cx hB9; replace hB := hB.trans (hB9.mono (by omega)); replace hzw := hB.size; clear ca0 ca1; obtain ⟨ca0, ca1⟩ := cells2 ca; clear cx0 cx1; obtain ⟨cx0, cx1⟩ := cells2 cx; obtain ⟨Ay, Ny, Ky, rfl⟩ := oy.slice; have S2 : (w9.cell? ⟨bx, 0, none⟩ = some (.slice Ax Nx Kx) ∧ w9.cell? ⟨bx, 1, none⟩ = some (.int .i64 X) ∧ w9.cell? ⟨ba, 0, none⟩ = some (.slice a I.length cap) ∧ w9.cell? ⟨ba, 1, none⟩ = some (.int .i64 X)) := ⟨cx0, cx1, ca0, ca1⟩) | (clear mk10; go_at_call 12; refine (eqBook_any I X _ _ _ ox.rd oy.rd).mono ?_; rintro er w10 ⟨rfl, hB10⟩; have hz10 : w9.heap.size ≤ w10.heap.size := hB10.size; replace ox := ox.grow hB10; replace ca := vblk_grow ca hB10; replace cx := vblk_grow cx hB10; replace hB := hB.trans (hB10.mono (by omega)); replace hzw := hB.size; clear ca0 ca1; obtain ⟨ca0, ca1⟩ := cells2 ca; clear cx0 cx1; obtain ⟨cx0, cx1⟩ := cells2 cx; have S3 : (w10.cell? ⟨bx, 0, none⟩ = some (.slice Ax Nx Kx) ∧ w10.cell? ⟨bx, 1, none⟩ = some (.int .i64 X) ∧ w10.cell? ⟨ba, 0, none⟩ = some (.slice a I.length cap) ∧ w10.cell? ⟨ba, 1, none⟩ = some (.int .i64 X)) := ⟨cx0, cx1, ca0, ca1⟩) | (fail))
  clear S1 hBd
  clear oy
  go_wp2
  go_ret
  exact ⟨rfl, hB⟩

/-! ### the row, by the frame -/
set_option maxRecDepth 100000 in
theorem lifted (os : Os) (started : os.Started) (H : Type) (enc : TypeId × Value → H) :
    ReturnsInHanded {} Try.checked os 3 .any (Rows.fnExactStoreOkSpec.pre6 enc Try.prog Try.f3 Rows.fnExactStoreOkRow.domain false) (Rows.fnExactStoreOkSpec.post enc Try.prog Try.f3 false true false false) := by
  refine returnsInHanded_of_change (C := Try.checked) own started (by kernel_rfl) Try.func3
    (ChangeSpec.witness6 (enc := enc) (C := Try.checked) false ⟨#[], #[.agg #[.slice none 0 0, .int .i64 0]], []⟩ 8 (by kernel_rfl) (by kernel_rfl) (by kernel_rfl) (by kernel_rfl)) ?_
  intro W base args ds gs before hval0 hW hcnd _
  have hval : ∀ (j : Nat) t v, Try.f3.params[j]? = some t → args[j]? = some v → Value.okWide Try.prog W .any base t v := hval0
  have hW' := hW
  obtain ⟨p, q, hA0, hV, rfl, hfz, hnd⟩ := hW
  have hA : DataW.TrodAll enc Try.prog W 0 (fun _ => true) true Try.f3.params.toList args.toList ds p := hA0
  rw [Try.params3] at hA hval
  obtain ⟨v0, vs0, d0, ds0, p0, q0, hargs, rfl, rfl, h0, r0⟩ := trodAll_cons hA
  obtain ⟨rfl, rfl, rfl⟩ := trodAll_nil r0
  obtain rfl : args = #[v0] := by cases args; simp_all
  obtain ⟨rfl, rfl⟩ := trodVars_none hV
  have k0 := h0
  have lt0 : ∀ x ∈ p0, x.block < W.heap.size := by obtain ⟨m, hm⟩ := k0; exact DataW.trod_lt m _ _ _ hm
  obtain ⟨u0, I0, X0, rfl, hR0, hS0⟩ := open_book (hval 0 24 v0 rfl rfl) h0
  clear hA0 hval0
  refine (walk u0 I0 X0 W hR0 hS0).mono fun e W' ⟨he, bel⟩ => ?_
  subst he
  exact ⟨_, rfl, _, _, _, [], _, [], hW', trodAll_mk1 (shut_bool Try.underlying4 _), (trodAll_cons_mk (Below.trod laidOut (by kernel_rfl) (of_decide_eq_true (by kernel_rfl)) k0 bel lt0) trodAll_mk0), rfl, bel.frame _, fun h => by cases h⟩

theorem over : Rows.fnExactStoreOkRow.holds Try.pinned (OpenSpec.ofChange Rows.fnExactStoreOkSpec) :=
  OpenClaim.holds_of_wide 3 Try.f3 rfl rfl rfl rfl rfl rfl rfl ⟨rfl, rfl, rfl, rfl, rfl⟩ rfl rfl rfl rfl rfl (by kernel_rfl) Try.func3 (by kernel_rfl)
    (of_decide_eq_true (by kernel_rfl)) (by unfold Func.isWrapper; first | (rw [if_pos (by decide +kernel)]; kernel_rfl) | (rw [if_neg (by decide +kernel)]; exact ⟨rfl, rfl⟩))
    (fun os started H enc _ => lifted os started H enc)

/-- the statement -/
theorem proved : Rows.FnExactStoreOkSaid := over
end Go.Proofs.Ytcbhbpdlgibipaa.fnExactStoreOk

namespace Go.Proofs.Ytcbhbpdlgibipaa
/-- the statement, under its short name -/
theorem fnExactStoreOk_holds : Rows.FnExactStoreOkSaid := fnExactStoreOk.proved
#print axioms fnExactStoreOk_holds
end Go.Proofs.Ytcbhbpdlgibipaa
