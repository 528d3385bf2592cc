/- Texts laid together: Bd3 Bx2. -/
import Derived.Test.YtjkkjpgebcnhgaaGreatDoorMg09
import Derived.Test.YtjkkjpgebcnhgaaGreatDoorMg12
import Derived.Test.YtjkkjpgebcnhgaaGreatDoorDd0
import Derived.Test.YtjkkjpgebcnhgaaGreatDoorMg02
import Derived.Lib.SmallJoins
import Derived.Deep.Slices
import Derived.Deep.RegionHeld3
import Derived.BigQuiet
import Derived.Deep.DeepCutAuto
/- What Stamped and DidBook are asked. -/
namespace Go.Proofs.YtjkkjpgebcnhgaaGreatDoor.rg
open Go.ChangeShapes Go.WideShapes Go.ChangeAt Go.RowKit
open Go.Deep Go.Joins
open Go.Proofs.YtjkkjpgebcnhgaaGreatDoor.ce Go.Proofs.YtjkkjpgebcnhgaaGreatDoor.ro Go.Proofs.YtjkkjpgebcnhgaaGreatDoor.draw Go.Proofs.YtjkkjpgebcnhgaaGreatDoor.cm
set_option linter.unusedVariables false

theorem own_g {α : Type} {E : Enc α} {w w' : World} {lo hi p : Nat} {v : Value} {xs : List α} (o : Own E w lo hi v xs) (hp : p < lo) (hg : w.grownBy w' (some p)) : Own E w' lo hi v xs :=
  o.keepT fun g cur h h1 h2 => hg.block g (Array.getElem?_eq_some_iff.1 h).1 (fun e => by cases e; omega)
theorem results_cct {fn : Func} {p u x : Tmp} {ty ty2 : TypeId} (h : fn.results = #[.cell p ty, .cell u ty2, .tmp x]) (tmps : Array Value) (P : Program) (w : World) :
    (results fn tmps).run P w =
      ((asAddr (tmps.getD p undef)).run P w).andThen fun a w₁ => ((loadVar ty a).run P w₁).andThen fun v w₂ => ((asAddr (tmps.getD u undef)).run P w₂).andThen fun a₂ w₃ => ((loadVar ty2 a₂).run P w₃).andThen fun v₂ w₄ => .ok (.tuple #[v, v₂, tmps.getD x undef]) w₄ := by
  simp only [results, h]
  simp [Sem.run_bind, Result.andThen]
theorem row_cct {fn : Func} {p u q : Tmp} {ty ty2 : TypeId} (h : fn.results = #[.cell p ty, .cell u ty2, .tmp q]) {R : Ending → World → Prop} {a : Act} {w : World} {b b2 : Nat} {t t2 : TypeId} {vs vs2 : List Value} {fs fs2 : Array Field} {z : Value}
    (hp : a.tmps.getD p undef = .pointer (some ⟨b, 0, none⟩)) (hx : a.tmps.getD u undef = .pointer (some ⟨b2, 0, none⟩)) (hz : a.tmps.getD q undef = z) (hb : VBlk w b t vs) (hb2 : VBlk w b2 t2 vs2) (hu : Tryz.prog.underlying ty = some (.struct fs)) (hu2 : Tryz.prog.underlying ty2 = some (.struct fs2))
    (hi : (Tryz.prog.info? ty).map (·.size) = some vs.length) (hi2 : (Tryz.prog.info? ty2).map (·.size) = some vs2.length) (hdf : a.defers = []) (hR : R (.returned (.tuple #[.agg vs.toArray, .agg vs2.toArray, z])) w) : bodyPost Tryz.prog fn R .ret a w := by
  have hl := run_loadVar_row (P := Tryz.prog) w b t ty vs.toArray (0, 0) _ hb hu rfl (by rw [hi]; simp)
  have hl2 := run_loadVar_row (P := Tryz.prog) w b2 t2 ty2 vs2.toArray (0, 0) _ hb2 hu2 rfl (by rw [hi2]; simp)
  refine bodyPost_ret ?_ hdf hR
  rw [results_cct h, hp, hx, hz]
  simp [asAddr, hl, hl2]
theorem rd_at {w : World} {g n c : Nat} {q : List It} (r : Rd encIt w (.slice (some ⟨g, 0, none⟩) n c) q) (i : Nat) (hi : i < q.length) : w.rangeAt g (i * 5) (ic q[i]) := by
  obtain ⟨b, off, e, -, h⟩ := rd_item rfl rfl r i hi
  cases e
  rw [Nat.zero_add] at h
  exact h
set_option maxRecDepth 100000 in
set_option maxHeartbeats 4000000 in
theorem drawDidBook_any (w : World) (a0 : Option Addr) (len cap : Nat) (hcode : CodeAt w a0 len) :
    Calls Tryz.prog 17 #[.slice a0 len cap] w fun e w' => ∃ v X q V N F U B C D Q now, e = .returned (.tuple #[.agg #[v, .int .i64 X], .agg #[.int .i64 V, .string N, .int .i64 F, .int .i64 U, .string B, .int .i64 C, .int .i64 D, .bool Q], .int .i64 now]) ∧ GotB w v q w' ∧ 0 ≤ X ∧ X ≤ 1000001 ∧ N.size ≤ 4000 ∧ B.size ≤ 4000 := by
  have HC : Hid (CodeAt w a0 len) := hcode
  clear hcode
  have hzw0 : w.heap.size ≤ w.heap.size := Nat.le_refl _
  go_enter Tryz.func17, Tryz.ntmps17
  have mk1 : Hid True := trivial
  have mk2 : Hid True := trivial
  have mk3 : Hid True := trivial
  have mk4 : Hid True := trivial
  have mk5 : Hid True := trivial
  have mk6 : Hid True := trivial
  have mk7 : Hid True := trivial
  have mk8 : Hid True := trivial
  have mk9 : Hid True := trivial
  go_upto_region 5 with (first | (clear mk1; refine wpList_alloc_v rfl 31 rfl _ zeroBk ?_; intro b2 w1 hb2 hwb2 hB1 c2; have hz1 : w.heap.size ≤ w1.heap.size := hB1.size; have hB := hB1; have hzw := hB.size; obtain ⟨c20, c21⟩ := cells2 c2) | (clear mk2; refine wpList_alloc_v rfl 37 rfl _ zeroCm ?_; intro b3 w2 hb3 hwb3 hB2 c3; have hz2 : w1.heap.size ≤ w2.heap.size := hB2.size; replace c2 := vblk_grow c2 hB2; replace hB := hB.trans (hB2.mono (by omega)); replace hzw := hB.size; clear c20 c21; obtain ⟨c20, c21⟩ := cells2 c2; obtain ⟨c30, c31, c32, c33, c34, c35, c36, c37⟩ := cellsCm c3) | (clear mk3; go_at_call 46; refine (new_cur w2 _ _ _ (codei_below HC.out hB)).mono ?_; rintro er w3 ⟨p, rfl, hp, hcur, hB3⟩; have hpl := hcur.1; have hz3 : w2.heap.size ≤ w3.heap.size := hB3.size; replace c2 := vblk_grow c2 hB3; replace c3 := vblk_grow c3 hB3; replace hB := hB.trans (hB3.mono (by omega)); replace hzw := hB.size; clear c20 c21; obtain ⟨c20, c21⟩ := cells2 c2; clear c30 c31 c32 c33 c34 c35 c36 c37; obtain ⟨c30, c31, c32, c33, c34, c35, c36, c37⟩ := cellsCm c3) | (clear mk4; go_at_call 47; refine (l13Draw_any w3 p a0 len cap hcur).mono ?_; rintro er w4 ⟨v3, X, q, rfl, D3, hl3, hX0, hX1⟩; have hc4 := D3.cur; have hg4 := D3.gb; have sq := D3.s; have o3 := D3.o; clear D3; obtain ⟨A3, n3, k3, rfl⟩ := o3.slice; have hz4 : w3.heap.size ≤ w4.heap.size := hg4.size; replace c2 := gbi_vblk c2 (by omega) hg4; replace c3 := gbi_vblk c3 (by omega) hg4; replace hB := gbi_low hB (by omega) hg4; replace hzw := hB.size; clear c20 c21; obtain ⟨c20, c21⟩ := cells2 c2; clear c30 c31 c32 c33 c34 c35 c36 c37; obtain ⟨c30, c31, c32, c33, c34, c35, c36, c37⟩ := cellsCm c3; replace hcur := hc4) | (clear mk5; refine wpList_alloc_v rfl 31 rfl _ zeroBk ?_; intro b6 w5 hb6 hwb6 hB5 c6; have hz5 : w4.heap.size ≤ w5.heap.size := hB5.size; replace o3 := o3.grow hB5; replace c2 := vblk_grow c2 hB5; replace c3 := vblk_grow c3 hB5; replace hB := hB.trans (hB5.mono (by omega)); replace hzw := hB.size; clear c20 c21; obtain ⟨c20, c21⟩ := cells2 c2; clear c30 c31 c32 c33 c34 c35 c36 c37; obtain ⟨c30, c31, c32, c33, c34, c35, c36, c37⟩ := cellsCm c3; replace hcur := cur_below hcur hB5 hcur.1) | (clear mk6; refine wpList_store_v rfl 31 _ _ rfl b6 [.slice A3 n3 k3, .int .i64 X] rfl rfl sizeBk c6 rfl (oneBk _ _ _ _) ?_; intro w6 hO6 c6x; have hz6 : w5.heap.size ≤ w6.heap.size := (Nat.le_of_eq hO6.1.symm); have hy6 : w6.heap.size ≤ w5.heap.size := (Nat.le_of_eq hO6.1); replace o3 := o3.only hO6 c6 (by decide); replace c2 := vblk_only c2 hO6 (by omega); replace c3 := vblk_only c3 hO6 (by omega); replace hB := hB.trans (hO6.2.2 _ (by omega)); replace hzw := hB.size; clear c20 c21; obtain ⟨c20, c21⟩ := cells2 c2; clear c30 c31 c32 c33 c34 c35 c36 c37; obtain ⟨c30, c31, c32, c33, c34, c35, c36, c37⟩ := cellsCm c3; replace hcur := cur_below hcur (hO6.2.2 (p + 1) (by omega)) (by omega); clear c6; have c6 := c6x; clear c6x; obtain ⟨c60, c61⟩ := cells2 c6) | (clear mk7; go_at_call 48; refine (l11DrawAny_any w6 p a0 len cap hcur).mono ?_; rintro er w7 ⟨V, N, F, U, B, C, D, Q, rfl, G7, sN, sB⟩; have hc7 := G7.cur; have hg7 := G7.gb; clear G7; have hz7 : w6.heap.size ≤ w7.heap.size := hg7.size; replace o3 := own_g o3 (by omega) hg7; replace c2 := gbi_vblk c2 (by omega) hg7; replace c3 := gbi_vblk c3 (by omega) hg7; replace c6 := gbi_vblk c6 (by omega) hg7; replace hB := gbi_low hB (by omega) hg7; replace hzw := hB.size; clear c20 c21; obtain ⟨c20, c21⟩ := cells2 c2; clear c30 c31 c32 c33 c34 c35 c36 c37; obtain ⟨c30, c31, c32, c33, c34, c35, c36, c37⟩ := cellsCm c3; clear c60 c61; obtain ⟨c60, c61⟩ := cells2 c6; replace hcur := hc7) | (clear mk8; refine wpList_alloc_v rfl 37 rfl _ zeroCm ?_; intro b7 w8 hb7 hwb7 hB8 c7; have hz8 : w7.heap.size ≤ w8.heap.size := hB8.size; replace o3 := o3.grow hB8; replace c2 := vblk_grow c2 hB8; replace c3 := vblk_grow c3 hB8; replace c6 := vblk_grow c6 hB8; replace hB := hB.trans (hB8.mono (by omega)); replace hzw := hB.size; clear c20 c21; obtain ⟨c20, c21⟩ := cells2 c2; clear c30 c31 c32 c33 c34 c35 c36 c37; obtain ⟨c30, c31, c32, c33, c34, c35, c36, c37⟩ := cellsCm c3; clear c60 c61; obtain ⟨c60, c61⟩ := cells2 c6; replace hcur := cur_below hcur hB8 hcur.1) | (clear mk9; refine wpList_store_v rfl 37 _ _ rfl b7 [.int .i64 V, .string N, .int .i64 F, .int .i64 U, .string B, .int .i64 C, .int .i64 D, .bool Q] rfl rfl sizeCm c7 rfl (oneCm ⟨V, N, F, U, B, C, D, Q⟩) ?_; intro w9 hO9 c7x; have hz9 : w8.heap.size ≤ w9.heap.size := (Nat.le_of_eq hO9.1.symm); have hy9 : w9.heap.size ≤ w8.heap.size := (Nat.le_of_eq hO9.1); replace o3 := o3.only hO9 c7 (by decide); replace c2 := vblk_only c2 hO9 (by omega); replace c3 := vblk_only c3 hO9 (by omega); replace c6 := vblk_only c6 hO9 (by omega); replace hB := hB.trans (hO9.2.2 _ (by omega)); replace hzw := hB.size; clear c20 c21; obtain ⟨c20, c21⟩ := cells2 c2; clear c30 c31 c32 c33 c34 c35 c36 c37; obtain ⟨c30, c31, c32, c33, c34, c35, c36, c37⟩ := cellsCm c3; clear c60 c61; obtain ⟨c60, c61⟩ := cells2 c6; replace hcur := cur_below hcur (hO9.2.2 (p + 1) (by omega)) (by omega); clear c7; have c7 := c7x; clear c7x; obtain ⟨c70, c71, c72, c73, c74, c75, c76, c77⟩ := cellsCm c7) | (fail))
  clear c20 c21
  clear c30 c31 c32 c33 c34 c35 c36 c37
  clear c60 c61
  clear c70 c71 c72 c73 c74 c75 c76 c77
  obtain ⟨L3, hL3⟩ : ∃ k, k = w3.heap.size := ⟨_, rfl⟩
  rw [← hL3] at o3
  obtain ⟨H3, hH3⟩ : ∃ k, k = w9.heap.size := ⟨_, rfl⟩
  replace o3 := o3.wide (hi' := H3) (Nat.le_refl _) (by omega)
  have HL3 : p < L3 ∧ w.heap.size ≤ L3 := by omega
  have hzW : w9.heap.size ≤ w9.heap.size := Nat.le_refl _
  have hnb : w.heap.size ≤ b2 ∧ b2 < b3 ∧ b3 < p ∧ p < b6 ∧ b6 < b7 ∧ b7 < w9.heap.size := by omega
  have hH3' : Hid (H3 = w9.heap.size) := hH3
  clear hH3 hL3
  obtain ⟨c60, c61⟩ := cells2 c6
  have hn3 : Hid (n3 = q.length) := o3.rd.cap.1
  (try simp only [Act.put])
  (try simp only [List.setIfInBounds_toArray, List.set_cons_zero, List.set_cons_succ])
  go_cut [25] from 20 to 25 (fun s25 wc => ∃ y, s25 = .bool y ∧ Hid (y = true → 0 < q.length) ∧ Below w.heap.size w wc ∧ w9.heap.size ≤ wc.heap.size ∧ Cur wc p a0 len cap ∧ Own encIt wc L3 H3 (.slice A3 n3 k3) q ∧ VBlk wc b2 31 [.slice none 0 0, .int .i64 0] ∧ VBlk wc b3 37 [.int .i64 0, .string ⟨#[]⟩, .int .i64 0, .int .i64 0, .string ⟨#[]⟩, .int .i64 0, .int .i64 0, .bool false] ∧ VBlk wc b6 31 [.slice A3 n3 k3, .int .i64 X] ∧ VBlk wc b7 37 [.int .i64 V, .string N, .int .i64 F, .int .i64 U, .string B, .int .i64 C, .int .i64 D, .bool Q])
  case first =>
    by_cases h0 : 0 < q.length
    · have h0' : (0 : Int) < (n3 : Int) := by have := hn3.out; omega
      go_wp2_with (first | (go_at_call 49; refine (once_from w9 w9 p a0 len cap _ (by omega) hcur (World.grownBy.refl _ _)).mono ?_; rintro e wz ⟨y, rfl, hcz, hgz⟩) | (fail))
      go_meet
      case rel => exact ⟨y, rfl, fun _ => h0, gbi_low hB (by omega) hgz, hgz.size, hcz, own_g o3 HL3.1 hgz, gbi_vblk c2 (by omega) hgz, gbi_vblk c3 (by omega) hgz, gbi_vblk c6 (by omega) hgz, gbi_vblk c7 (by omega) hgz⟩
    · have h0' : ¬ (0 : Int) < (n3 : Int) := by have := hn3.out; omega
      go_wp2
      go_meet
      case rel => exact ⟨false, rfl, (fun e => by cases e), hB, Nat.le_refl _, hcur, o3, c2, c3, c6, c7⟩
  case rest =>
  obtain ⟨y, rfl, hy, n1, n2, n3', n4, n5, n6, n7, n8⟩ := hcut
  clear hB hzW hcur o3 c2 c3 c6 c7 c60 c61
  rename World => wy
  go_upto_if 25 with (fail)
  go_cut [25] from 25 to 48 (fun s25 wc => ∃ N9 C9, s25 = .bool y ∧ N9.size ≤ 4000 ∧ Below w.heap.size w wc ∧ w9.heap.size ≤ wc.heap.size ∧ Cur wc p a0 len cap ∧ Own encIt wc L3 H3 (.slice A3 n3 k3) q ∧ VBlk wc b2 31 [.slice none 0 0, .int .i64 0] ∧ VBlk wc b3 37 [.int .i64 0, .string ⟨#[]⟩, .int .i64 0, .int .i64 0, .string ⟨#[]⟩, .int .i64 0, .int .i64 0, .bool false] ∧ VBlk wc b6 31 [.slice A3 n3 k3, .int .i64 X] ∧ VBlk wc b7 37 [.int .i64 V, .string N9, .int .i64 F, .int .i64 U, .string B, .int .i64 C9, .int .i64 D, .bool Q])
  case first =>
    cases y with
    | false =>
      go_wp2
      go_meet
      case rel => exact ⟨N, C, rfl, sN, n1, n2, n3', n4, n5, n6, n7, n8⟩
    | true =>
      have hq0 : 0 < q.length := hy.out rfl
      obtain ⟨gq, cq, e3, hgl, hgh, hgs⟩ := n4.form hq0
      obtain ⟨rfl, rfl, rfl⟩ : A3 = some ⟨gq, 0, none⟩ ∧ n3 = q.length ∧ k3 = cq := by cases e3; exact ⟨rfl, rfl, rfl⟩
      have hB := n1
      have hzW := n2
      have hcur := n3'
      have o3 := n4
      have c2 := n5
      have c3 := n6
      have c6 := n7
      have c7 := n8
      have hzw := hB.size
      clear n1 n2 n3' n4 n5 n6 n7 n8 hy e3
      have hql : (1 : Int) ≤ (q.length : Int) := by omega
      go_upto_region 6 with (fail)
      have hBd : Below wy.heap.size wy wy.drew := (Below.refl _ _).drew
      have hzd : wy.drew.heap.size ≤ wy.heap.size := Nat.le_refl _
      have hzd2 : wy.heap.size ≤ wy.drew.heap.size := Nat.le_refl _
      replace o3 := o3.grow hBd
      replace c2 := vblk_grow c2 hBd
      replace c3 := vblk_grow c3 hBd
      replace c6 := vblk_grow c6 hBd
      replace c7 := vblk_grow c7 hBd
      replace hB := hB.trans (hBd.mono (by omega))
      replace hzw := hB.size
      replace hcur := cur_below hcur hBd hcur.1
      (try simp only [Act.put])
      (try simp only [List.setIfInBounds_toArray, List.set_cons_zero, List.set_cons_succ])
      refine wp_region_held_drew (S := fun w' => Rd encIt w' (.slice (some ⟨gq, 0, none⟩) q.length k3) q ∧ w'.cell? ⟨b6, 0, none⟩ = some (.slice (some ⟨gq, 0, none⟩) q.length k3)) (by kernel_rfl) (⟨o3.rd, (cells2 c6).1⟩) (fun hHeld => ?_)
      refine wpAnyH_take (i := 0) (oi := { dst := some 26, op := Op.fieldAddr 31 (Operand.tmp 6) 0, type := 0, pos := "l13_store.go:194", after := #[], guard := none }) (v := ?_) rfl (by kernel_rfl) (by kernel_rfl) (by kernel_rfl) (fun _ _ _ h => h) (Or.inl ⟨by rfl, ?_⟩) (by assumption) ?_
      rotate_left 1
      · intro w' hSw; (try dsimp only at hSw); go_simp; (try with_reducible rfl)
      (try simp only [Act.put, List.setIfInBounds_toArray, List.set_cons_zero, List.set_cons_succ])
      refine wpAnyH_take (i := 1) (oi := { dst := some 27, op := Op.load 29 (Operand.tmp 26), type := 29, pos := "l13_store.go:194", after := #[{ on := 0, ground := Ground.data }], guard := none }) (v := ?_) rfl (by kernel_rfl) (by kernel_rfl) (by kernel_rfl) (fun _ _ _ h => h) (Or.inl ⟨by rfl, ?_⟩) (by assumption) ?_
      rotate_left 1
      · intro w' hSw; (try dsimp only at hSw); go_simp; (try with_reducible rfl)
      (try simp only [Act.put, List.setIfInBounds_toArray, List.set_cons_zero, List.set_cons_succ])
      refine wpAnyH_take (i := 2) (oi := { dst := some 28, op := Op.move (Operand.tmp 5), type := 79, pos := "l13_store.go:194", after := #[], guard := none }) (v := ?_) rfl (by kernel_rfl) (by kernel_rfl) (by kernel_rfl) (fun _ _ _ h => h) (Or.inl ⟨by rfl, ?_⟩) (by assumption) ?_
      rotate_left 1
      · intro w' hSw; (try dsimp only at hSw); go_simp; (try with_reducible rfl)
      (try simp only [Act.put, List.setIfInBounds_toArray, List.set_cons_zero, List.set_cons_succ])
      refine wpAnyH_take (i := 3) (oi := { dst := some 29, op := Op.move (Operand.tmp 8), type := 2, pos := "l13_store.go:194", after := #[], guard := none }) (v := ?_) rfl (by kernel_rfl) (by kernel_rfl) (by kernel_rfl) (fun _ _ _ h => h) (Or.inl ⟨by rfl, ?_⟩) (by assumption) ?_
      rotate_left 1
      · intro w' hSw; (try dsimp only at hSw); go_simp; (try with_reducible rfl)
      (try simp only [Act.put, List.setIfInBounds_toArray, List.set_cons_zero, List.set_cons_succ])
      refine wpAnyH_ready (rs := [4, 7]) (by kernel_rfl) (by simp) ?_
      refine AllReadyH.cons (o := { dst := some 30, op := Op.call { callee := Callee.value (Operand.func 50), args := #[Operand.tmp 28, Operand.tmp 29], argTypes := #[79, 2] }, type := 2, pos := "l13_store.go:194", after := #[{ on := 2, ground := Ground.data }, { on := 3, ground := Ground.data }], guard := none }) rfl (fun KC hKC => ?_) (AllReadyH.cons (o := { dst := some 9, op := Op.alloc 56, type := 0, pos := "l13_store.go:194", after := #[], guard := none }) rfl (fun KC hKC => ?_) AllReadyH.nil)
      · go_simp
        go_at_call 50
        refine (below_from wy.drew wy.drew p a0 len cap _ hql hcur (World.grownBy.refl _ _)).mono ?_
        rintro er wr4 ⟨x, rfl, hx0, hx1, hcr4, hgr4⟩
        have hzr4 : wy.drew.heap.size ≤ wr4.heap.size := hgr4.size
        replace o3 := own_g o3 (by omega) hgr4
        replace c2 := gbi_vblk c2 (by omega) hgr4
        replace c3 := gbi_vblk c3 (by omega) hgr4
        replace c6 := gbi_vblk c6 (by omega) hgr4
        replace c7 := gbi_vblk c7 (by omega) hgr4
        (try replace c9 := gbi_vblk c9 (by omega) hgr4)
        replace hB := gbi_low hB (by omega) hgr4
        replace hzw := hB.size
        replace hcur := hcr4
        obtain ⟨xn, hxn⟩ : ∃ k : Nat, x = k := ⟨x.toNat, by omega⟩
        subst hxn
        have hxl : xn < q.length := by omega
        obtain ⟨⟨N1, F1, B1, C1, U1⟩, hI1⟩ := hid_ex (q[xn])
        refine hKC.out _ _ (⟨o3.rd, (cells2 c6).1⟩) (fun hHeld2 => ?_)
        clear hKC KC hHeld
        have hHeld := hHeld2
        clear hHeld2
        (try simp only [Act.put, List.setIfInBounds_toArray, List.set_cons_zero, List.set_cons_succ])
        refine wpAnyH_take (i := 5) (oi := { dst := some 31, op := Op.indexAddr 29 (Operand.tmp 27) (Operand.tmp 30), type := 0, pos := "l13_store.go:194", after := #[{ on := 1, ground := Ground.data }, { on := 4, ground := Ground.data }], guard := none }) (v := ?_) rfl (by kernel_rfl) (by kernel_rfl) (by kernel_rfl) (fun _ _ _ h => h) (Or.inl ⟨by rfl, ?_⟩) (by assumption) ?_
        rotate_left 1
        · intro w' hSw; (try dsimp only at hSw); go_simp; (try with_reducible rfl)
        (try simp only [Act.put, List.setIfInBounds_toArray, List.set_cons_zero, List.set_cons_succ])
        refine wpAnyH_take (i := 6) (oi := { dst := some 32, op := Op.load 56 (Operand.tmp 31), type := 56, pos := "l13_store.go:194", after := #[{ on := 5, ground := Ground.data }], guard := none }) (v := .agg [Value.string N1, .int .i64 F1, .string B1, .int .i64 C1, .int .i64 U1].toArray) rfl (by kernel_rfl) (by kernel_rfl) (by kernel_rfl) (fun _ _ _ h => h) (yieldsIf_load_mid (by rfl) 56 _ rfl gq (xn * 5) rfl [Value.string N1, .int .i64 F1, .string B1, .int .i64 C1, .int .i64 U1] _ (fun w' hw' => by have h := rd_at hw'.1 xn hxl; rw [hI1.out] at h; exact h) Tryz.underlying56 rfl sizeIt) (by assumption) ?_
        (try simp only [Act.put, List.setIfInBounds_toArray, List.set_cons_zero, List.set_cons_succ])
        refine wpAnyH_ready (rs := [7]) (by kernel_rfl) (by simp) ?_
        refine AllReadyH.cons (o := { dst := some 9, op := Op.alloc 56, type := 0, pos := "l13_store.go:194", after := #[], guard := none }) rfl (fun KC hKC => ?_) AllReadyH.nil
        refine step_alloc_v rfl 56 rfl _ zeroIt ?_
        intro b9 wr7 hb9 hwb9 hBr7 c9
        have hW9 : H3 ≤ b9 := by have := hH3'.out; omega
        have hzr7 : wr4.heap.size ≤ wr7.heap.size := hBr7.size
        replace o3 := o3.grow hBr7
        replace c2 := vblk_grow c2 hBr7
        replace c3 := vblk_grow c3 hBr7
        replace c6 := vblk_grow c6 hBr7
        replace c7 := vblk_grow c7 hBr7
        replace hB := hB.trans (hBr7.mono (by omega))
        replace hzw := hB.size
        replace hcur := cur_below hcur hBr7 hcur.1
        refine hKC.out _ _ (⟨o3.rd, (cells2 c6).1⟩) (fun hHeld2 => ?_)
        clear hKC KC hHeld
        have hHeld := hHeld2
        clear hHeld2
        (try simp only [Act.put, List.setIfInBounds_toArray, List.set_cons_zero, List.set_cons_succ])
        refine wpAnyH_ready (rs := [8]) (by kernel_rfl) (by simp) ?_
        refine AllReadyH.cons (o := { dst := none, op := Op.store 56 (Operand.tmp 9) (Operand.tmp 32), type := 0, pos := "l13_store.go:194", after := #[{ on := 7, ground := Ground.data }, { on := 6, ground := Ground.data }, { on := 4, ground := Ground.chain }, { on := 0, ground := Ground.phase }, { on := 1, ground := Ground.phase }, { on := 2, ground := Ground.phase }, { on := 3, ground := Ground.phase }, { on := 4, ground := Ground.phase }, { on := 5, ground := Ground.phase }, { on := 6, ground := Ground.phase }, { on := 7, ground := Ground.phase }], guard := none }) rfl (fun KC hKC => ?_) AllReadyH.nil
        refine step_store_v rfl 56 _ _ rfl b9 [.string N1, .int .i64 F1, .string B1, .int .i64 C1, .int .i64 U1] rfl rfl sizeIt c9 rfl (by simp [Value.oneCell']) ?_
        intro wr8 hOr8 c9x
        have hzr8 : wr7.heap.size ≤ wr8.heap.size := Nat.le_of_eq hOr8.1.symm
        have hyr8 : wr8.heap.size ≤ wr7.heap.size := Nat.le_of_eq hOr8.1
        replace o3 := o3.keep fun g h1 h2 => hOr8.2.1 g (by omega)
        replace c2 := vblk_only c2 hOr8 (by omega)
        replace c3 := vblk_only c3 hOr8 (by omega)
        replace c6 := vblk_only c6 hOr8 (by omega)
        replace c7 := vblk_only c7 hOr8 (by omega)
        clear c9
        have c9 := c9x
        clear c9x
        replace hB := hB.trans (hOr8.2.2 _ (by omega))
        replace hzw := hB.size
        (try replace hcur := cur_below hcur (hOr8.2.2 (p + 1) (by omega)) (by omega))
        refine hKC.out _ _ (⟨o3.rd, (cells2 c6).1⟩) (fun hHeld2 => ?_)
        clear hKC KC hHeld
        have hHeld := hHeld2
        clear hHeld2
        (try simp only [Act.put])
        refine wpAnyH_done (by kernel_rfl) ?_ _
        have hIm : N1.size ≤ 4000 := by
          have : SmI ⟨N1, F1, B1, C1, U1⟩ := by rw [← hI1.out]; exact sq _ (List.getElem_mem hxl)
          exact this.1
        have hzZ : w9.heap.size ≤ wr8.heap.size := by omega
        have hn79 : b7 < b9 := by omega
        clear hBd hzd hzd2
        obtain ⟨d70, d71, d72, d73, d74, d75, d76, d77⟩ := cellsCm c7
        obtain ⟨e90, e91, e92, e93, e94⟩ := cells5 c9
        by_cases v13 : V = 13
        · subst v13
          go_wp2
          go_meet
          case rel => exact ⟨N, C, rfl, sN, hB, hzZ, hcur, o3, c2, c3, c6, c7⟩
        · have e13 : (V != 13) = true := by simpa using v13
          go_upto_region 9 with (first | (refine wpList_store_cell rfl 9 _ _ rfl b7 1 (.string N1) rfl rfl rfl szS1 c7 (by simp) ?_; intro ws hOs c7x; replace hcur := cur_below hcur (hOs.2.2 (p + 1) (by omega)) (by omega); replace o3 := o3.only hOs c7 (by decide); replace c2 := vblk_only c2 hOs (by omega); replace c3 := vblk_only c3 hOs (by omega); replace c6 := vblk_only c6 hOs (by omega); replace c9 := vblk_only c9 hOs (by omega); replace hB := hB.trans (hOs.2.2 _ (by omega)); replace hzZ : w9.heap.size ≤ ws.heap.size := Nat.le_trans hzZ (Nat.le_of_eq hOs.1.symm); replace c7 : VBlk ws b7 37 [.int .i64 V, .string N1, .int .i64 F, .int .i64 U, .string B, .int .i64 C, .int .i64 D, .bool Q] := c7x; clear c7x; clear d70 d71 d72 d73 d74 d75 d76 d77 e90 e91 e92 e93 e94; obtain ⟨d70, d71, d72, d73, d74, d75, d76, d77⟩ := cellsCm c7; obtain ⟨e90, e91, e92, e93, e94⟩ := cells5 c9) | (fail))
          by_cases v8 : V = 8
          · subst v8
            go_wp2_with (first | (go_at_call 49; refine (once_from ws ws p a0 len cap _ (by omega) hcur (World.grownBy.refl _ _)).mono ?_; rintro e wz ⟨yy, rfl, hcz, hgz⟩; replace hcur := hcz; replace o3 := own_g o3 HL3.1 hgz; replace c2 := gbi_vblk c2 (by omega) hgz; replace c3 := gbi_vblk c3 (by omega) hgz; replace c6 := gbi_vblk c6 (by omega) hgz; replace c7 := gbi_vblk c7 (by omega) hgz; replace c9 := gbi_vblk c9 (by omega) hgz; replace hB := gbi_low hB (by omega) hgz; replace hzZ := Nat.le_trans hzZ hgz.size; clear d70 d71 d72 d73 d74 d75 d76 d77 e90 e91 e92 e93 e94; obtain ⟨d70, d71, d72, d73, d74, d75, d76, d77⟩ := cellsCm c7; obtain ⟨e90, e91, e92, e93, e94⟩ := cells5 c9; cases yy) | (refine wpList_store_cell rfl 2 _ _ rfl b7 5 (.int .i64 C1) rfl rfl rfl szI1 c7 (by simp) ?_; intro wt hOt c7x; replace hcur := cur_below hcur (hOt.2.2 (p + 1) (by omega)) (by omega); replace o3 := o3.only hOt c7 (by decide); replace c2 := vblk_only c2 hOt (by omega); replace c3 := vblk_only c3 hOt (by omega); replace c6 := vblk_only c6 hOt (by omega); replace c9 := vblk_only c9 hOt (by omega); replace hB := hB.trans (hOt.2.2 _ (by omega)); replace hzZ : w9.heap.size ≤ wt.heap.size := Nat.le_trans hzZ (Nat.le_of_eq hOt.1.symm)) | (fail))
            · go_meet
              case rel => exact ⟨N1, C, rfl, hIm, hB, hzZ, hcur, o3, c2, c3, c6, c7⟩
            · go_meet
              case rel => exact ⟨N1, C1, rfl, hIm, hB, hzZ, hcur, o3, c2, c3, c6, c7x⟩
          · have e8 : (V == 8) = false := by simpa using v8
            go_wp2
            go_meet
            case rel => exact ⟨N1, C, rfl, hIm, hB, hzZ, hcur, o3, c2, c3, c6, c7⟩
      refine step_alloc_v rfl 56 rfl _ zeroIt ?_
      intro b9 wr7 hb9 hwb9 hBr7 c9
      have hW9 : H3 ≤ b9 := by have := hH3'.out; omega
      have hzr7 : wy.drew.heap.size ≤ wr7.heap.size := hBr7.size
      replace o3 := o3.grow hBr7
      replace c2 := vblk_grow c2 hBr7
      replace c3 := vblk_grow c3 hBr7
      replace c6 := vblk_grow c6 hBr7
      replace c7 := vblk_grow c7 hBr7
      replace hB := hB.trans (hBr7.mono (by omega))
      replace hzw := hB.size
      replace hcur := cur_below hcur hBr7 hcur.1
      refine hKC.out _ _ (⟨o3.rd, (cells2 c6).1⟩) (fun hHeld2 => ?_)
      clear hKC KC hHeld
      have hHeld := hHeld2
      clear hHeld2
      (try simp only [Act.put, List.setIfInBounds_toArray, List.set_cons_zero, List.set_cons_succ])
      refine wpAnyH_ready (rs := [4]) (by kernel_rfl) (by simp) ?_
      refine AllReadyH.cons (o := { dst := some 30, op := Op.call { callee := Callee.value (Operand.func 50), args := #[Operand.tmp 28, Operand.tmp 29], argTypes := #[79, 2] }, type := 2, pos := "l13_store.go:194", after := #[{ on := 2, ground := Ground.data }, { on := 3, ground := Ground.data }], guard := none }) rfl (fun KC hKC => ?_) AllReadyH.nil
      go_simp
      go_at_call 50
      refine (below_from wr7 wr7 p a0 len cap _ hql hcur (World.grownBy.refl _ _)).mono ?_
      rintro er wr4 ⟨x, rfl, hx0, hx1, hcr4, hgr4⟩
      have hzr4 : wr7.heap.size ≤ wr4.heap.size := hgr4.size
      replace o3 := own_g o3 (by omega) hgr4
      replace c2 := gbi_vblk c2 (by omega) hgr4
      replace c3 := gbi_vblk c3 (by omega) hgr4
      replace c6 := gbi_vblk c6 (by omega) hgr4
      replace c7 := gbi_vblk c7 (by omega) hgr4
      (try replace c9 := gbi_vblk c9 (by omega) hgr4)
      replace hB := gbi_low hB (by omega) hgr4
      replace hzw := hB.size
      replace hcur := hcr4
      obtain ⟨xn, hxn⟩ : ∃ k : Nat, x = k := ⟨x.toNat, by omega⟩
      subst hxn
      have hxl : xn < q.length := by omega
      obtain ⟨⟨N1, F1, B1, C1, U1⟩, hI1⟩ := hid_ex (q[xn])
      refine hKC.out _ _ (⟨o3.rd, (cells2 c6).1⟩) (fun hHeld2 => ?_)
      clear hKC KC hHeld
      have hHeld := hHeld2
      clear hHeld2
      (try simp only [Act.put, List.setIfInBounds_toArray, List.set_cons_zero, List.set_cons_succ])
      refine wpAnyH_take (i := 5) (oi := { dst := some 31, op := Op.indexAddr 29 (Operand.tmp 27) (Operand.tmp 30), type := 0, pos := "l13_store.go:194", after := #[{ on := 1, ground := Ground.data }, { on := 4, ground := Ground.data }], guard := none }) (v := ?_) rfl (by kernel_rfl) (by kernel_rfl) (by kernel_rfl) (fun _ _ _ h => h) (Or.inl ⟨by rfl, ?_⟩) (by assumption) ?_
      rotate_left 1
      · intro w' hSw; (try dsimp only at hSw); go_simp; (try with_reducible rfl)
      (try simp only [Act.put, List.setIfInBounds_toArray, List.set_cons_zero, List.set_cons_succ])
      refine wpAnyH_take (i := 6) (oi := { dst := some 32, op := Op.load 56 (Operand.tmp 31), type := 56, pos := "l13_store.go:194", after := #[{ on := 5, ground := Ground.data }], guard := none }) (v := .agg [Value.string N1, .int .i64 F1, .string B1, .int .i64 C1, .int .i64 U1].toArray) rfl (by kernel_rfl) (by kernel_rfl) (by kernel_rfl) (fun _ _ _ h => h) (yieldsIf_load_mid (by rfl) 56 _ rfl gq (xn * 5) rfl [Value.string N1, .int .i64 F1, .string B1, .int .i64 C1, .int .i64 U1] _ (fun w' hw' => by have h := rd_at hw'.1 xn hxl; rw [hI1.out] at h; exact h) Tryz.underlying56 rfl sizeIt) (by assumption) ?_
      (try simp only [Act.put, List.setIfInBounds_toArray, List.set_cons_zero, List.set_cons_succ])
      refine wpAnyH_ready (rs := [8]) (by kernel_rfl) (by simp) ?_
      refine AllReadyH.cons (o := { dst := none, op := Op.store 56 (Operand.tmp 9) (Operand.tmp 32), type := 0, pos := "l13_store.go:194", after := #[{ on := 7, ground := Ground.data }, { on := 6, ground := Ground.data }, { on := 4, ground := Ground.chain }, { on := 0, ground := Ground.phase }, { on := 1, ground := Ground.phase }, { on := 2, ground := Ground.phase }, { on := 3, ground := Ground.phase }, { on := 4, ground := Ground.phase }, { on := 5, ground := Ground.phase }, { on := 6, ground := Ground.phase }, { on := 7, ground := Ground.phase }], guard := none }) rfl (fun KC hKC => ?_) AllReadyH.nil
      refine step_store_v rfl 56 _ _ rfl b9 [.string N1, .int .i64 F1, .string B1, .int .i64 C1, .int .i64 U1] rfl rfl sizeIt c9 rfl (by simp [Value.oneCell']) ?_
      intro wr8 hOr8 c9x
      have hzr8 : wr4.heap.size ≤ wr8.heap.size := Nat.le_of_eq hOr8.1.symm
      have hyr8 : wr8.heap.size ≤ wr4.heap.size := Nat.le_of_eq hOr8.1
      replace o3 := o3.keep fun g h1 h2 => hOr8.2.1 g (by omega)
      replace c2 := vblk_only c2 hOr8 (by omega)
      replace c3 := vblk_only c3 hOr8 (by omega)
      replace c6 := vblk_only c6 hOr8 (by omega)
      replace c7 := vblk_only c7 hOr8 (by omega)
      clear c9
      have c9 := c9x
      clear c9x
      replace hB := hB.trans (hOr8.2.2 _ (by omega))
      replace hzw := hB.size
      (try replace hcur := cur_below hcur (hOr8.2.2 (p + 1) (by omega)) (by omega))
      refine hKC.out _ _ (⟨o3.rd, (cells2 c6).1⟩) (fun hHeld2 => ?_)
      clear hKC KC hHeld
      have hHeld := hHeld2
      clear hHeld2
      (try simp only [Act.put])
      refine wpAnyH_done (by kernel_rfl) ?_ _
      have hIm : N1.size ≤ 4000 := by
        have : SmI ⟨N1, F1, B1, C1, U1⟩ := by rw [← hI1.out]; exact sq _ (List.getElem_mem hxl)
        exact this.1
      have hzZ : w9.heap.size ≤ wr8.heap.size := by omega
      have hn79 : b7 < b9 := by omega
      clear hBd hzd hzd2
      obtain ⟨d70, d71, d72, d73, d74, d75, d76, d77⟩ := cellsCm c7
      obtain ⟨e90, e91, e92, e93, e94⟩ := cells5 c9
      by_cases v13 : V = 13
      · subst v13
        go_wp2
        go_meet
        case rel => exact ⟨N, C, rfl, sN, hB, hzZ, hcur, o3, c2, c3, c6, c7⟩
      · have e13 : (V != 13) = true := by simpa using v13
        go_upto_region 9 with (first | (refine wpList_store_cell rfl 9 _ _ rfl b7 1 (.string N1) rfl rfl rfl szS1 c7 (by simp) ?_; intro ws hOs c7x; replace hcur := cur_below hcur (hOs.2.2 (p + 1) (by omega)) (by omega); replace o3 := o3.only hOs c7 (by decide); replace c2 := vblk_only c2 hOs (by omega); replace c3 := vblk_only c3 hOs (by omega); replace c6 := vblk_only c6 hOs (by omega); replace c9 := vblk_only c9 hOs (by omega); replace hB := hB.trans (hOs.2.2 _ (by omega)); replace hzZ : w9.heap.size ≤ ws.heap.size := Nat.le_trans hzZ (Nat.le_of_eq hOs.1.symm); replace c7 : VBlk ws b7 37 [.int .i64 V, .string N1, .int .i64 F, .int .i64 U, .string B, .int .i64 C, .int .i64 D, .bool Q] := c7x; clear c7x; clear d70 d71 d72 d73 d74 d75 d76 d77 e90 e91 e92 e93 e94; obtain ⟨d70, d71, d72, d73, d74, d75, d76, d77⟩ := cellsCm c7; obtain ⟨e90, e91, e92, e93, e94⟩ := cells5 c9) | (fail))
        by_cases v8 : V = 8
        · subst v8
          go_wp2_with (first | (go_at_call 49; refine (once_from ws ws p a0 len cap _ (by omega) hcur (World.grownBy.refl _ _)).mono ?_; rintro e wz ⟨yy, rfl, hcz, hgz⟩; replace hcur := hcz; replace o3 := own_g o3 HL3.1 hgz; replace c2 := gbi_vblk c2 (by omega) hgz; replace c3 := gbi_vblk c3 (by omega) hgz; replace c6 := gbi_vblk c6 (by omega) hgz; replace c7 := gbi_vblk c7 (by omega) hgz; replace c9 := gbi_vblk c9 (by omega) hgz; replace hB := gbi_low hB (by omega) hgz; replace hzZ := Nat.le_trans hzZ hgz.size; clear d70 d71 d72 d73 d74 d75 d76 d77 e90 e91 e92 e93 e94; obtain ⟨d70, d71, d72, d73, d74, d75, d76, d77⟩ := cellsCm c7; obtain ⟨e90, e91, e92, e93, e94⟩ := cells5 c9; cases yy) | (refine wpList_store_cell rfl 2 _ _ rfl b7 5 (.int .i64 C1) rfl rfl rfl szI1 c7 (by simp) ?_; intro wt hOt c7x; replace hcur := cur_below hcur (hOt.2.2 (p + 1) (by omega)) (by omega); replace o3 := o3.only hOt c7 (by decide); replace c2 := vblk_only c2 hOt (by omega); replace c3 := vblk_only c3 hOt (by omega); replace c6 := vblk_only c6 hOt (by omega); replace c9 := vblk_only c9 hOt (by omega); replace hB := hB.trans (hOt.2.2 _ (by omega)); replace hzZ : w9.heap.size ≤ wt.heap.size := Nat.le_trans hzZ (Nat.le_of_eq hOt.1.symm)) | (fail))
          · go_meet
            case rel => exact ⟨N1, C, rfl, hIm, hB, hzZ, hcur, o3, c2, c3, c6, c7⟩
          · go_meet
            case rel => exact ⟨N1, C1, rfl, hIm, hB, hzZ, hcur, o3, c2, c3, c6, c7x⟩
        · have e8 : (V == 8) = false := by simpa using v8
          go_wp2
          go_meet
          case rel => exact ⟨N1, C, rfl, hIm, hB, hzZ, hcur, o3, c2, c3, c6, c7⟩
  case rest =>
  obtain ⟨N9, C9, rfl, s9, n1, n2, n3', n4, n5, n6, n7, n8⟩ := hcut
  rename World => wx
  have hB := n1
  have hzW := n2
  have hcur := n3'
  have o3 := n4
  have c2 := n5
  have c3 := n6
  have c6 := n7
  have c7 := n8
  have hzw := hB.size
  clear n1 n2 n3' n4 n5 n6 n7 n8
  clear hy
  have mk10 : Hid True := trivial
  have mk11 : Hid True := trivial
  go_upto_if 52 with (first | (clear mk10; go_at_call 50; refine (below_from wx wx p a0 len cap _ (by omega) hcur (World.grownBy.refl _ _)).mono ?_; rintro er w10 ⟨x10, rfl, hx10, hy10, hc10, hg10⟩; have hz10 : wx.heap.size ≤ w10.heap.size := hg10.size; replace o3 := own_g o3 (by omega) hg10; replace c2 := gbi_vblk c2 (by omega) hg10; replace c3 := gbi_vblk c3 (by omega) hg10; replace c6 := gbi_vblk c6 (by omega) hg10; replace c7 := gbi_vblk c7 (by omega) hg10; replace hB := gbi_low hB (by omega) hg10; replace hzw := hB.size; replace hcur := hc10) | (clear mk11; go_at_call 49; refine (once_from w10 w10 p a0 len cap _ (by omega) hcur (World.grownBy.refl _ _)).mono ?_; rintro er w11 ⟨y11, rfl, hc11, hg11⟩; have hz11 : w10.heap.size ≤ w11.heap.size := hg11.size; replace o3 := own_g o3 (by omega) hg11; replace c2 := gbi_vblk c2 (by omega) hg11; replace c3 := gbi_vblk c3 (by omega) hg11; replace c6 := gbi_vblk c6 (by omega) hg11; replace c7 := gbi_vblk c7 (by omega) hg11; replace hB := gbi_low hB (by omega) hg11; replace hzw := hB.size; replace hcur := hc11) | (fail))
  (try simp only [Act.put])
  (try simp only [List.setIfInBounds_toArray, List.set_cons_zero, List.set_cons_succ])
  go_cut [10] from 10 to 57 (fun s10 wc => ∃ now : Int, s10 = .int .i64 now ∧ Below w.heap.size w wc ∧ w9.heap.size ≤ wc.heap.size ∧ Cur wc p a0 len cap ∧ Own encIt wc L3 H3 (.slice A3 n3 k3) q ∧ VBlk wc b2 31 [.slice none 0 0, .int .i64 0] ∧ VBlk wc b3 37 [.int .i64 0, .string ⟨#[]⟩, .int .i64 0, .int .i64 0, .string ⟨#[]⟩, .int .i64 0, .int .i64 0, .bool false] ∧ VBlk wc b6 31 [.slice A3 n3 k3, .int .i64 X] ∧ VBlk wc b7 37 [.int .i64 V, .string N9, .int .i64 F, .int .i64 U, .string B, .int .i64 C9, .int .i64 D, .bool Q])
  case first =>
    cases y11 with
    | false =>
      go_wp2
      go_meet
      case rel => exact ⟨x10, rfl, hB, by omega, hcur, o3, c2, c3, c6, c7⟩
    | true =>
      go_wp2_with (first | (go_at_call 50; refine (below_lit w11 w11 p a0 len cap [-1, 1000000, 1000001] _ 3 (-1) 1000001 rfl (by omega) (by intro x hx; simp at hx; omega) hcur (World.grownBy.refl _ _)).mono ?_; rintro e wv ⟨zv, nv, rfl, hz0, hz1, hcell, hv0, hv1, hcv, hgv⟩; obtain ⟨zn, hzn⟩ : ∃ k : Nat, zv = k := ⟨zv.toNat, by omega⟩; subst hzn; rw [Int.toNat_natCast] at hcell) | (fail))
      go_meet
      case rel => exact ⟨nv, rfl, gbi_low hB (by omega) hgv, Nat.le_trans (show w9.heap.size ≤ w11.heap.size by omega) hgv.size, hcv, own_g o3 HL3.1 hgv, gbi_vblk c2 (by omega) hgv, gbi_vblk c3 (by omega) hgv, gbi_vblk c6 (by omega) hgv, gbi_vblk c7 (by omega) hgv⟩
  case rest =>
  obtain ⟨now, rfl, n1, n2, n3', n4, n5, n6, n7, n8⟩ := hcut
  rename World => wu
  clear hB hzW hcur o3 c2 c3 c6 c7
  have hB := n1
  have hzW := n2
  have hcur := n3'
  have o3 := n4
  have c2 := n5
  have c3 := n6
  have c6 := n7
  have c7 := n8
  have hzw := hB.size
  clear n1 n2 n3' n4 n5 n6 n7 n8
  go_upto_region 14 with (fail)
  have hBd : Below wu.heap.size wu wu.drew := (Below.refl _ _).drew
  have hzd : wu.drew.heap.size ≤ wu.heap.size := Nat.le_refl _
  have hzd2 : wu.heap.size ≤ wu.drew.heap.size := Nat.le_refl _
  replace o3 := o3.grow hBd
  replace c2 := vblk_grow c2 hBd
  replace c3 := vblk_grow c3 hBd
  replace c6 := vblk_grow c6 hBd
  replace c7 := vblk_grow c7 hBd
  replace hB := hB.trans (hBd.mono (by omega))
  replace hzw := hB.size
  replace hcur := cur_below hcur hBd hcur.1
  (try simp only [Act.put])
  (try simp only [List.setIfInBounds_toArray, List.set_cons_zero, List.set_cons_succ])
  refine wp_region_held_drew (S := fun w' => w'.cell? ⟨b6, 0, none⟩ = some (.slice A3 n3 k3) ∧ w'.cell? ⟨b6, 1, none⟩ = some (.int .i64 X) ∧ VBlk w' b7 37 [.int .i64 V, .string N9, .int .i64 F, .int .i64 U, .string B, .int .i64 C9, .int .i64 D, .bool Q]) (by kernel_rfl) (⟨(cells2 c6).1, (cells2 c6).2, c7⟩) (fun hHeld => ?_)
  refine wpAnyH_take (i := 0) (oi := { dst := some 58, op := Op.load 31 (Operand.tmp 6), type := 31, pos := "l13_store.go:206", after := #[], guard := none }) (v := ?_) rfl (by kernel_rfl) (by kernel_rfl) (by kernel_rfl) (fun _ _ _ h => h) (Or.inl ⟨by rfl, ?_⟩) (by assumption) ?_
  rotate_left 1
  · intro w' hSw; (try dsimp only at hSw); go_simp; (try with_reducible rfl)
  (try simp only [Act.put, List.setIfInBounds_toArray, List.set_cons_zero, List.set_cons_succ])
  refine wpAnyH_take (i := 1) (oi := { dst := some 59, op := Op.load 37 (Operand.tmp 7), type := 37, pos := "l13_store.go:206", after := #[{ on := 3, ground := Ground.gcOnly Departure.lateStores }], guard := none }) (v := .agg [Value.int .i64 V, .string N9, .int .i64 F, .int .i64 U, .string B, .int .i64 C9, .int .i64 D, .bool Q].toArray) rfl (by kernel_rfl) (by kernel_rfl) (by kernel_rfl) (fun _ _ _ h => h) (yieldsIf_load_mid (by rfl) 37 _ rfl b7 0 rfl [Value.int .i64 V, .string N9, .int .i64 F, .int .i64 U, .string B, .int .i64 C9, .int .i64 D, .bool Q] _ (fun w' hw' => hw'.2.2.range) Tryz.underlying37 rfl sizeCm) (by assumption) ?_
  (try simp only [Act.put, List.setIfInBounds_toArray, List.set_cons_zero, List.set_cons_succ])
  refine wpAnyH_take (i := 2) (oi := { dst := some 60, op := Op.move (Operand.tmp 10), type := 2, pos := "l13_store.go:206", after := #[{ on := 4, ground := Ground.gcOnly Departure.lateStores }], guard := none }) (v := ?_) rfl (by kernel_rfl) (by kernel_rfl) (by kernel_rfl) (fun _ _ _ h => h) (Or.inl ⟨by rfl, ?_⟩) (by assumption) ?_
  rotate_left 1
  · intro w' hSw; (try dsimp only at hSw); go_simp; (try with_reducible rfl)
  (try simp only [Act.put, List.setIfInBounds_toArray, List.set_cons_zero, List.set_cons_succ])
  refine wpAnyH_ready (rs := [3]) (by kernel_rfl) (by simp) ?_
  refine AllReadyH.cons (o := { dst := none, op := Op.store 31 (Operand.tmp 2) (Operand.tmp 58), type := 0, pos := "l13_store.go:206", after := #[{ on := 0, ground := Ground.data }, { on := 0, ground := Ground.phase }, { on := 1, ground := Ground.textOnly Departure.lateStores }, { on := 2, ground := Ground.textOnly Departure.lateStores }], guard := none }) rfl (fun KC hKC => ?_) AllReadyH.nil
  refine step_store_v rfl 31 _ _ rfl b2 [.slice A3 n3 k3, .int .i64 X] rfl rfl sizeBk c2 rfl (oneBk _ _ _ _) ?_
  intro wr3 hOr3 c2x
  have hzr3 : wu.drew.heap.size ≤ wr3.heap.size := Nat.le_of_eq hOr3.1.symm
  have hyr3 : wr3.heap.size ≤ wu.drew.heap.size := Nat.le_of_eq hOr3.1
  replace o3 := o3.only hOr3 c2 (by decide)
  replace c3 := vblk_only c3 hOr3 (by omega)
  replace c6 := vblk_only c6 hOr3 (by omega)
  replace c7 := vblk_only c7 hOr3 (by omega)
  clear c2
  have c2 := c2x
  clear c2x
  replace hB := hB.trans (hOr3.2.2 _ (by omega))
  replace hzw := hB.size
  (try replace hcur := cur_below hcur (hOr3.2.2 (p + 1) (by omega)) (by omega))
  refine hKC.out _ _ (⟨(cells2 c6).1, (cells2 c6).2, c7⟩) (fun hHeld2 => ?_)
  clear hKC KC hHeld
  have hHeld := hHeld2
  clear hHeld2
  (try simp only [Act.put])
  refine wpAnyH_ready (rs := [4]) (by kernel_rfl) (by simp) ?_
  refine AllReadyH.cons (o := { dst := none, op := Op.store 37 (Operand.tmp 3) (Operand.tmp 59), type := 0, pos := "l13_store.go:206", after := #[{ on := 1, ground := Ground.data }, { on := 3, ground := Ground.chain }, { on := 0, ground := Ground.phase }, { on := 1, ground := Ground.phase }, { on := 2, ground := Ground.textOnly Departure.lateStores }, { on := 3, ground := Ground.phase }], guard := none }) rfl (fun KC hKC => ?_) AllReadyH.nil
  refine step_store_v rfl 37 _ _ rfl b3 [.int .i64 V, .string N9, .int .i64 F, .int .i64 U, .string B, .int .i64 C9, .int .i64 D, .bool Q] rfl rfl sizeCm c3 rfl (oneCm ⟨V, N9, F, U, B, C9, D, Q⟩) ?_
  intro wr4 hOr4 c3x
  have hzr4 : wr3.heap.size ≤ wr4.heap.size := Nat.le_of_eq hOr4.1.symm
  have hyr4 : wr4.heap.size ≤ wr3.heap.size := Nat.le_of_eq hOr4.1
  replace o3 := o3.only hOr4 c3 (by decide)
  replace c2 := vblk_only c2 hOr4 (by omega)
  replace c6 := vblk_only c6 hOr4 (by omega)
  replace c7 := vblk_only c7 hOr4 (by omega)
  clear c3
  have c3 := c3x
  clear c3x
  replace hB := hB.trans (hOr4.2.2 _ (by omega))
  replace hzw := hB.size
  (try replace hcur := cur_below hcur (hOr4.2.2 (p + 1) (by omega)) (by omega))
  refine hKC.out _ _ (⟨(cells2 c6).1, (cells2 c6).2, c7⟩) (fun hHeld2 => ?_)
  clear hKC KC hHeld
  have hHeld := hHeld2
  clear hHeld2
  (try simp only [Act.put])
  refine wpAnyH_take (i := 5) (oi := { dst := some 4, op := Op.assign (Operand.tmp 60), type := 2, pos := "l13_store.go:206", after := #[{ on := 2, ground := Ground.data }, { on := 4, ground := Ground.chain }, { on := 0, ground := Ground.phase }, { on := 1, ground := Ground.phase }, { on := 2, ground := Ground.phase }, { on := 3, ground := Ground.phase }, { on := 4, ground := Ground.phase }], guard := none }) (v := ?_) rfl (by kernel_rfl) (by kernel_rfl) (by kernel_rfl) (fun _ _ _ h => h) (Or.inl ⟨by rfl, ?_⟩) (by assumption) ?_
  rotate_left 1
  · intro w' hSw; (try dsimp only at hSw); go_simp; (try with_reducible rfl)
  (try simp only [Act.put, List.setIfInBounds_toArray, List.set_cons_zero, List.set_cons_succ])
  refine wpAnyH_done (by kernel_rfl) ?_ _
  go_wp2
  exact row_cct rfl rfl rfl rfl c2 c3 Tryz.underlying31 Tryz.underlying37 sizeBk sizeCm rfl ⟨_, X, q, V, N9, F, U, B, C9, D, Q, now, rfl, ⟨(o3.wide (hi' := H3) (by omega) (Nat.le_refl _)).top, sq, hl3, hB⟩, hX0, hX1, s9, sB⟩
end Go.Proofs.YtjkkjpgebcnhgaaGreatDoor.rg
/- Mathematics of books, third part: all that the laws FnBooks and FnCas say. -/
namespace Go.Proofs.YtjkkjpgebcnhgaaGreatDoor.rg
open Go.RowKit
open Go.Proofs.YtjkkjpgebcnhgaaGreatDoor.cm
set_option linter.unusedVariables false

/-- where it stands -/
theorem find_mem {l : List It} (h : Srt l) {x : It} (hx : x ∈ l) : ∃ k : Nat, ∃ hk : k < l.length, findI l x.N = k ∧ l[k] = x := (look_some (look_mem h hx)).2.2
theorem dk_ok {b : Bk} (h : StOk b) {now : Int} (ht : timeB now = true) {c : Cm} (hc : COk c) : diR b c now = doK ⟨ageL b.I now, b.X⟩ c := by
  unfold diR agR
  rw [storeB_iff.2 h, ht, cmdB_iff.2 hc]
  rfl
theorem dk_bad {b : Bk} {c : Cm} {now : Int} (h : (storeB b && timeB now) = false) : diR b c now = (Bk.zero, rp 10) := by
  unfold diR
  rw [h]
  rfl
theorem dk_nocmd {b : Bk} {c : Cm} {now : Int} (h : (storeB b && timeB now) = true) (hc : cmdB c = false) : diR b c now = (b, rp 10) := by
  unfold diR
  rw [h, hc]
  rfl
def zB : ByteArray := ⟨#[122]⟩
/-- all that FnBooks asks of a right book, a right command, at a time -/
theorem books_law {q : List It} {X : Int} {c : Cm} {now : Int} (hs : storeB ⟨q, X⟩ = true) (ht : timeB now = true) (hc : cmdB c = true) {J : List It} {Y : Int} {r : Rp} (e : diR ⟨q, X⟩ c now = (⟨J, Y⟩, r)) :
    StOk ⟨J, Y⟩ ∧ repB r = true ∧ StOk ⟨ageL q now, X⟩ ∧
    (∀ i (hi : i < (ageL q now).length), c.V ≠ 13 → (ageL q now)[i].N ≠ c.N → ∃ k : Nat, ∃ hk : k < J.length, findI J (ageL q now)[i].N = (k : Int) ∧ J[k] = (ageL q now)[i]) ∧
    (r.K = 1 ∨ r.K = 6 → ∃ k : Nat, ∃ hk : k < J.length, findI J c.N = (k : Int) ∧ J[k].C = X) ∧
    (r.K ≠ 1 → r.K ≠ 6 → c.V ≠ 11 → c.V ≠ 12 → c.V ≠ 13 → J = ageL q now ∧ Y = X) := by
  have ok := storeB_iff.1 hs
  have okc := cmdB_iff.1 hc
  have oka : StOk ⟨ageL q now, X⟩ := ⟨age_ok ok.bk now, ok.x0, ok.x1⟩
  have hD := do_did oka okc
  rw [← dk_ok ok ht okc, e] at hD
  refine ⟨hD.ok, repB_iff.2 hD.rk, oka, ?_, ?_, ?_⟩
  · intro i hi h13 hn
    exact find_mem hD.ok.bk.srt (hD.stay h13 _ (List.getElem_mem hi) hn)
  · intro h
    obtain ⟨y, hy, h1, h2⟩ := hD.new h
    obtain ⟨k, hk, e1, e2⟩ := find_mem hD.ok.bk.srt hy
    rw [h1] at e1
    exact ⟨k, hk, e1, by rw [e2]; exact h2⟩
  · intro h1 h6 h11 h12 h13
    rcases hD.same h1 h6 with h | h | h | h
    · exact absurd h h11
    · exact absurd h h12
    · exact absurd h h13
    · cases h
      exact ⟨rfl, rfl⟩
end Go.Proofs.YtjkkjpgebcnhgaaGreatDoor.rg
