/- Texts laid together: Du1 Cx0 Cx1. -/
import Derived.Test.YtmnjmghlkiljhaaMg05
import Derived.Test.YtmnjmghlkiljhaaMg08
import Derived.Test.YtmnjmghlkiljhaaMg00
import Derived.Lib.SmallJoins
import Derived.Deep.Slices
import Derived.Deep.RegionHeld3
import Derived.BigQuiet
import Derived.Deep.DeepCutAuto
/- What FnDue draws: a book with a moment, a book, two things. -/
namespace Go.Proofs.Ytmnjmghlkiljhaa.rg
open Go.ChangeShapes Go.WideShapes Go.ChangeAt Go.RowKit
open Go.Deep Go.Joins
open Go.Proofs.Ytmnjmghlkiljhaa.draw
set_option linter.unusedSimpArgs false
open Go.Proofs.Ytmnjmghlkiljhaa.ce Go.Proofs.Ytmnjmghlkiljhaa.ro Go.Proofs.Ytmnjmghlkiljhaa.rg
set_option linter.unusedVariables false

theorem lit6 (k : Nat) (hk : k < 6) : ∃ v : Int, ∀ W : World, (W.alloc (.cells #[.int .i64 0, .int .i64 10, .int .i64 30, .int .i64 59, .int .i64 60, .int .i64 (-1)] 2)).cell? ⟨W.heap.size, k, none⟩ = some (.int .i64 v) := by
  rcases (by omega : k = 0 ∨ k = 1 ∨ k = 2 ∨ k = 3 ∨ k = 4 ∨ k = 5) with rfl | rfl | rfl | rfl | rfl | rfl
  · exact ⟨0, fun W => by simp⟩
  · exact ⟨10, fun W => by simp⟩
  · exact ⟨30, fun W => by simp⟩
  · exact ⟨59, fun W => by simp⟩
  · exact ⟨60, fun W => by simp⟩
  · exact ⟨-1, fun W => by simp⟩
theorem drawSoonestOf_any (w : World) (a0 : Option Addr) (len cap : Nat) (hcode : CodeAt w a0 len) :
    Calls Try.prog 29 #[.slice a0 len cap] w fun e w' => ∃ v q, e = .returned v ∧ GotB w v q w' := by
  have HC : Hid (CodeAt w a0 len) := hcode
  clear hcode
  go_enter Try.func29, Try.ntmps29
  go_wp2_with (first | (go_at_call 77; refine (drawBookOk_any w _ _ _ HC.out).mono ?_; rintro e w3 ⟨v, q, rfl, G⟩) | (fail))
  go_ret
  exact ⟨_, q, rfl, G⟩
set_option maxRecDepth 100000 in
set_option maxHeartbeats 4000000 in
theorem drawDueBy_any (w : World) (a0 : Option Addr) (len cap : Nat) (hcode : CodeAt w a0 len) :
    Calls Try.prog 27 #[.slice a0 len cap] w fun e w' => ∃ v q, ∃ now : Int, e = .returned (.tuple #[v, .int .i64 now]) ∧ GotB w v q w' := by
  have HC : Hid (CodeAt w a0 len) := hcode
  clear hcode
  go_enter Try.func27, Try.ntmps27
  go_upto_region 3 with (first | (go_at_call 46; refine (new_cur w _ _ _ HC.out).mono ?_; rintro e w2 ⟨p, rfl, hp, hc2, hB2⟩; have hz2 := hB2.size) | (go_at_call 72; refine (l10DrawBook_any w2 p a0 len cap hc2).mono ?_; rintro e w3 ⟨v3, q, rfl, D3, hl⟩; obtain ⟨a3, n3, k3, rfl⟩ := D3.o.slice; have hpl := D3.cur.1) | (fail))
  go_region_law (first | (go_simp; go_at_call 73; refine (below_from _ _ p a0 len cap 6 (by omega) (by first | with_reducible exact cur_d D3.cur | with_reducible exact cur_ad D3.cur) (World.grownBy.refl _ _)).mono ?_; rintro e w7 ⟨x, rfl, hx0, hx1, hc7, hg7⟩; have hg7' : w3.grownBy w7 (some p) := (by first | with_reducible exact gb_d hg7 | with_reducible exact gb_ad hg7); have D7 := D3.went hc7 hg7'; obtain ⟨k, hk⟩ : ∃ k : Nat, x = k := ⟨x.toNat, by omega⟩; subst hk; obtain ⟨now, hv⟩ := lit6 k (by omega); have l1 := hv w7; (try have l2 := gb_lit hg7 hpl (hv w3))) | (fail))
  all_goals
    go_wp2
    go_ret2
    first
      | exact ⟨_, q, _, rfl, ⟨D7.o.wide hz2 (Nat.le_refl _), D7.s, hl, gbi_low hB2 (by omega) D7.gb⟩⟩
      | exact ⟨_, q, _, rfl, ⟨(D7.grow (bA _ _)).o.wide hz2 (Nat.le_refl _), D7.s, hl, gbi_low hB2 (by omega) (D7.grow (bA _ _)).gb⟩⟩
theorem results_cc2 {fn : Func} {p u : Tmp} {ty ty2 : TypeId} (h : fn.results = #[.cell p ty, .cell u ty2]) (tmps : Array Value) (P : Program) (w : World) :
    (results fn tmps).run P w =
      ((asAddr (tmps.getD p undef)).run P w).andThen fun a w₁ => ((loadVar ty a).run P w₁).andThen fun v w₂ => ((asAddr (tmps.getD u undef)).run P w₂).andThen fun a₂ w₃ => ((loadVar ty2 a₂).run P w₃).andThen fun v₂ w₄ => .ok (.tuple #[v, v₂]) w₄ := by
  simp only [results, h]
  simp [Sem.run_bind, Result.andThen]
theorem row_cc2 {fn : Func} {p u : Tmp} {ty ty2 : TypeId} (h : fn.results = #[.cell p ty, .cell u ty2]) {R : Ending → World → Prop} {a : Act} {w : World} {b b2 : Nat} {t t2 : TypeId} {vs vs2 : List Value} {fs fs2 : Array Field}
    (hp : a.tmps.getD p undef = .pointer (some ⟨b, 0, none⟩)) (hx : a.tmps.getD u undef = .pointer (some ⟨b2, 0, none⟩)) (hb : VBlk w b t vs) (hb2 : VBlk w b2 t2 vs2) (hu : Try.prog.underlying ty = some (.struct fs)) (hu2 : Try.prog.underlying ty2 = some (.struct fs2))
    (hi : (Try.prog.info? ty).map (·.size) = some vs.length) (hi2 : (Try.prog.info? ty2).map (·.size) = some vs2.length) (hdf : a.defers = []) (hR : R (.returned (.tuple #[.agg vs.toArray, .agg vs2.toArray])) w) : bodyPost Try.prog fn R .ret a w := by
  have hl := run_loadVar_row (P := Try.prog) w b t ty vs.toArray (0, 0) _ hb hu rfl (by rw [hi]; simp)
  have hl2 := run_loadVar_row (P := Try.prog) w b2 t2 ty2 vs2.toArray (0, 0) _ hb2 hu2 rfl (by rw [hi2]; simp)
  refine bodyPost_ret ?_ hdf hR
  rw [results_cc2 h, hp, hx]
  simp [asAddr, hl, hl2]
set_option maxRecDepth 100000 in
set_option maxHeartbeats 4000000 in
theorem drawOutlives_any (w : World) (a0 : Option Addr) (len cap : Nat) (hcode : CodeAt w a0 len) :
    Calls Try.prog 30 #[.slice a0 len cap] w fun e w' => ∃ (N B : ByteArray) (F C U : Int) (N2 B2 : ByteArray) (F2 C2 U2 : Int), e = .returned (.tuple #[.agg #[.string N, .int .i64 F, .string B, .int .i64 C, .int .i64 U], .agg #[.string N2, .int .i64 F2, .string B2, .int .i64 C2, .int .i64 U2]]) ∧ N.size ≤ 4000 ∧ B.size ≤ 4000 ∧ N2.size ≤ 4000 ∧ B2.size ≤ 4000 ∧ Below w.heap.size w w' := by
  have HC : Hid (CodeAt w a0 len) := hcode
  clear hcode
  have hzw0 : w.heap.size ≤ w.heap.size := Nat.le_refl _
  go_enter Try.func30, Try.ntmps30
  have mk1 : Hid True := trivial
  have mk2 : Hid True := trivial
  have mk3 : Hid True := trivial
  have mk4 : Hid True := trivial
  have mk5 : Hid True := trivial
  have mk6 : Hid True := trivial
  go_upto_region 3 with (first | (clear mk1; refine wpList_alloc_v rfl 53 rfl _ zeroIt ?_; intro b2 w1 hb2 hwb2 hB1 c2; have hz1 : w.heap.size ≤ w1.heap.size := hB1.size; have hB := hB1; have hzw := hB.size; obtain ⟨c20, c21, c22, c23, c24⟩ := cells5 c2) | (clear mk2; refine wpList_alloc_v rfl 53 rfl _ zeroIt ?_; intro b3 w2 hb3 hwb3 hB2 c3; have hz2 : w1.heap.size ≤ w2.heap.size := hB2.size; replace c2 := vblk_grow c2 hB2; replace hB := hB.trans (hB2.mono (by omega)); replace hzw := hB.size; clear c20 c21 c22 c23 c24; obtain ⟨c20, c21, c22, c23, c24⟩ := cells5 c2; obtain ⟨c30, c31, c32, c33, c34⟩ := cells5 c3) | (clear mk3; go_at_call 46; refine (new_cur w2 _ _ _ (codei_below HC.out hB)).mono ?_; rintro er w3 ⟨p, rfl, hp, hcur, hB3⟩; have hpl := hcur.1; have hz3 : w2.heap.size ≤ w3.heap.size := hB3.size; replace c2 := vblk_grow c2 hB3; replace c3 := vblk_grow c3 hB3; replace hB := hB.trans (hB3.mono (by omega)); replace hzw := hB.size; clear c20 c21 c22 c23 c24; obtain ⟨c20, c21, c22, c23, c24⟩ := cells5 c2; clear c30 c31 c32 c33 c34; obtain ⟨c30, c31, c32, c33, c34⟩ := cells5 c3) | (clear mk4; go_at_call 78; refine (l10DrawAny_any w3 p a0 len cap hcur).mono ?_; rintro er w4 ⟨N, B, F, C, U, rfl, G4⟩; have hc4 := G4.cur; have hg4 := G4.gb; have zN := G4.sN; have zB := G4.sB; clear G4; have hz4 : w3.heap.size ≤ w4.heap.size := hg4.size; replace c2 := gbi_vblk c2 (by omega) hg4; replace c3 := gbi_vblk c3 (by omega) hg4; replace hB := gbi_low hB (by omega) hg4; replace hzw := hB.size; clear c20 c21 c22 c23 c24; obtain ⟨c20, c21, c22, c23, c24⟩ := cells5 c2; clear c30 c31 c32 c33 c34; obtain ⟨c30, c31, c32, c33, c34⟩ := cells5 c3; replace hcur := hc4) | (clear mk5; refine wpList_alloc_v rfl 53 rfl _ zeroIt ?_; intro b5 w5 hb5 hwb5 hB5 c5; have hz5 : w4.heap.size ≤ w5.heap.size := hB5.size; replace c2 := vblk_grow c2 hB5; replace c3 := vblk_grow c3 hB5; replace hB := hB.trans (hB5.mono (by omega)); replace hzw := hB.size; clear c20 c21 c22 c23 c24; obtain ⟨c20, c21, c22, c23, c24⟩ := cells5 c2; clear c30 c31 c32 c33 c34; obtain ⟨c30, c31, c32, c33, c34⟩ := cells5 c3; replace hcur := cur_below hcur hB5 hcur.1) | (clear mk6; refine wpList_store_v rfl 53 _ _ rfl b5 [.string N, .int .i64 F, .string B, .int .i64 C, .int .i64 U] rfl rfl sizeIt c5 rfl (by simp [Value.oneCell']) ?_; intro w6 hO6 c5x; have hz6 : w5.heap.size ≤ w6.heap.size := (Nat.le_of_eq hO6.1.symm); have hy6 : w6.heap.size ≤ w5.heap.size := (Nat.le_of_eq hO6.1); replace c2 := vblk_only c2 hO6 (by omega); replace c3 := vblk_only c3 hO6 (by omega); replace hB := hB.trans (hO6.2.2 _ (by omega)); replace hzw := hB.size; clear c20 c21 c22 c23 c24; obtain ⟨c20, c21, c22, c23, c24⟩ := cells5 c2; clear c30 c31 c32 c33 c34; obtain ⟨c30, c31, c32, c33, c34⟩ := cells5 c3; replace hcur := cur_below hcur (hO6.2.2 (p + 1) (by omega)) (by omega); clear c5; have c5 := c5x; clear c5x; obtain ⟨c50, c51, c52, c53, c54⟩ := cells5 c5) | (fail))
  have hBd : Below w6.heap.size w6 w6.drew := (Below.refl _ _).drew
  have hzd : w6.drew.heap.size ≤ w6.heap.size := Nat.le_refl _
  have hzd2 : w6.heap.size ≤ w6.drew.heap.size := Nat.le_refl _
  replace c2 := vblk_grow c2 hBd
  clear c20 c21 c22 c23 c24
  obtain ⟨c20, c21, c22, c23, c24⟩ := cells5 c2
  replace c3 := vblk_grow c3 hBd
  clear c30 c31 c32 c33 c34
  obtain ⟨c30, c31, c32, c33, c34⟩ := cells5 c3
  replace c5 := vblk_grow c5 hBd
  clear c50 c51 c52 c53 c54
  obtain ⟨c50, c51, c52, c53, c54⟩ := cells5 c5
  replace hB := hB.trans (hBd.mono (by omega))
  replace hzw := hB.size
  replace hcur := cur_below hcur hBd hcur.1
  (try simp only [Act.put])
  (try simp only [List.setIfInBounds_toArray, List.set_cons_zero, List.set_cons_succ])
  clear c20 c21 c22 c23 c24
  clear c30 c31 c32 c33 c34
  clear c50 c51 c52 c53 c54
  refine wp_region_held_drew (S := fun w' => w'.cell? ⟨b5, 0, none⟩ = some (.string N) ∧ w'.cell? ⟨b5, 1, none⟩ = some (.int .i64 F) ∧ w'.cell? ⟨b5, 2, none⟩ = some (.string B) ∧ w'.cell? ⟨b5, 3, none⟩ = some (.int .i64 C) ∧ w'.cell? ⟨b5, 4, none⟩ = some (.int .i64 U)) (by kernel_rfl) (cells5 c5) (fun hHeld => ?_)
  refine wpAnyH_take (i := 0) (oi := { dst := some 10, op := Op.load 53 (Operand.tmp 5), type := 53, pos := "l14_age.go:61", after := #[], guard := none }) (v := ?_) rfl (by kernel_rfl) (by kernel_rfl) (by kernel_rfl) (fun _ _ _ h => h) (Or.inl ⟨by rfl, ?_⟩) (by assumption) ?_
  rotate_left 1
  · intro w' hSw; (try dsimp only at hSw); go_simp; (try with_reducible rfl)
  (try simp only [Act.put, List.setIfInBounds_toArray, List.set_cons_zero, List.set_cons_succ])
  refine wpAnyH_take (i := 1) (oi := { dst := some 11, op := Op.move (Operand.tmp 4), type := 69, pos := "l14_age.go:61", after := #[], guard := none }) (v := ?_) rfl (by kernel_rfl) (by kernel_rfl) (by kernel_rfl) (fun _ _ _ h => h) (Or.inl ⟨by rfl, ?_⟩) (by assumption) ?_
  rotate_left 1
  · intro w' hSw; (try dsimp only at hSw); go_simp; (try with_reducible rfl)
  (try simp only [Act.put, List.setIfInBounds_toArray, List.set_cons_zero, List.set_cons_succ])
  refine wpAnyH_ready (rs := [2]) (by kernel_rfl) (by simp) ?_
  refine AllReadyH.cons (o := { dst := some 12, op := Op.call { callee := Callee.value (Operand.func 78), args := #[Operand.tmp 11], argTypes := #[69] }, type := 53, pos := "l14_age.go:61", after := #[{ on := 1, ground := Ground.data }], guard := none }) rfl (fun KC hKC => ?_) AllReadyH.nil
  go_simp
  go_at_call 78
  refine (l10DrawAny_any w6.drew p a0 len cap hcur).mono ?_
  rintro er wr2 ⟨N2, B2, F2, C2, U2, rfl, G⟩
  have hcr2 := G.cur
  have hgr2 := G.gb
  have zN2 := G.sN
  have zB2 := G.sB
  clear G
  have hzr2 : w6.drew.heap.size ≤ wr2.heap.size := hgr2.size
  replace c2 := gbi_vblk c2 (by omega) hgr2
  replace c3 := gbi_vblk c3 (by omega) hgr2
  replace c5 := gbi_vblk c5 (by omega) hgr2
  replace hB := gbi_low hB (by omega) hgr2
  replace hzw := hB.size
  replace hcur := hcr2
  refine hKC.out _ _ (cells5 c5) (fun hHeld2 => ?_)
  clear hKC KC hHeld
  have hHeld := hHeld2
  clear hHeld2
  (try simp only [Act.put, List.setIfInBounds_toArray, List.set_cons_zero, List.set_cons_succ])
  refine wpAnyH_ready (rs := [3]) (by kernel_rfl) (by simp) ?_
  refine AllReadyH.cons (o := { dst := none, op := Op.store 53 (Operand.tmp 2) (Operand.tmp 10), type := 0, pos := "l14_age.go:61", after := #[{ on := 0, ground := Ground.data }, { on := 2, ground := Ground.chain }, { on := 0, ground := Ground.phase }, { on := 1, ground := Ground.textOnly Departure.lateStores }, { on := 2, ground := Ground.textOnly Departure.lateStoresUnsure }], guard := none }) rfl (fun KC hKC => ?_) AllReadyH.nil
  refine step_store_v rfl 53 _ _ rfl b2 [.string N, .int .i64 F, .string B, .int .i64 C, .int .i64 U] rfl rfl sizeIt c2 rfl (by simp [Value.oneCell']) ?_
  intro wr3 hOr3 c2x
  have hzr3 : wr2.heap.size ≤ wr3.heap.size := Nat.le_of_eq hOr3.1.symm
  have hyr3 : wr3.heap.size ≤ wr2.heap.size := Nat.le_of_eq hOr3.1
  replace c3 := vblk_only c3 hOr3 (by omega)
  replace c5 := vblk_only c5 hOr3 (by omega)
  clear c2
  have c2 := c2x
  clear c2x
  replace hB := hB.trans (hOr3.2.2 _ (by omega))
  replace hzw := hB.size
  (try replace hcur := cur_below hcur (hOr3.2.2 (p + 1) (by omega)) (by omega))
  refine hKC.out _ _ (cells5 c5) (fun hHeld2 => ?_)
  clear hKC KC hHeld
  have hHeld := hHeld2
  clear hHeld2
  (try simp only [Act.put])
  refine wpAnyH_ready (rs := [4]) (by kernel_rfl) (by simp) ?_
  refine AllReadyH.cons (o := { dst := none, op := Op.store 53 (Operand.tmp 3) (Operand.tmp 12), type := 0, pos := "l14_age.go:61", after := #[{ on := 2, ground := Ground.data }, { on := 3, ground := Ground.chain }, { on := 0, ground := Ground.phase }, { on := 1, ground := Ground.phase }, { on := 2, ground := Ground.phase }, { on := 3, ground := Ground.phase }], guard := none }) rfl (fun KC hKC => ?_) AllReadyH.nil
  refine step_store_v rfl 53 _ _ rfl b3 [.string N2, .int .i64 F2, .string B2, .int .i64 C2, .int .i64 U2] rfl rfl sizeIt c3 rfl (by simp [Value.oneCell']) ?_
  intro wr4 hOr4 c3x
  have hzr4 : wr3.heap.size ≤ wr4.heap.size := Nat.le_of_eq hOr4.1.symm
  have hyr4 : wr4.heap.size ≤ wr3.heap.size := Nat.le_of_eq hOr4.1
  replace c2 := vblk_only c2 hOr4 (by omega)
  replace c5 := vblk_only c5 hOr4 (by omega)
  clear c3
  have c3 := c3x
  clear c3x
  replace hB := hB.trans (hOr4.2.2 _ (by omega))
  replace hzw := hB.size
  (try replace hcur := cur_below hcur (hOr4.2.2 (p + 1) (by omega)) (by omega))
  refine hKC.out _ _ (cells5 c5) (fun hHeld2 => ?_)
  clear hKC KC hHeld
  have hHeld := hHeld2
  clear hHeld2
  (try simp only [Act.put])
  refine wpAnyH_done (by kernel_rfl) ?_ _
  go_wp2
  exact row_cc2 rfl rfl rfl c2 c3 Try.underlying53 Try.underlying53 sizeIt sizeIt rfl ⟨_, _, _, _, _, _, _, _, _, _, rfl, zN, zB, zN2, zB2, hB⟩
end Go.Proofs.Ytmnjmghlkiljhaa.rg
/- Mathematics of numbers and words in bytes, no Go in sight: numbers are read from what they are shown as, and only from that; words with blanks between them. -/
namespace Go.Proofs.Ytmnjmghlkiljhaa.cm
open Go.RowKit
set_option linter.unusedVariables false

/-- a digit -/
def dg (d : Nat) : UInt8 := UInt8.ofNat (48 + d)
def isD (c : UInt8) : Bool := decide (48 ≤ c.toNat) && decide (c.toNat ≤ 57)
theorem isD_iff {c : UInt8} : isD c = true ↔ 48 ≤ c.toNat ∧ c.toNat ≤ 57 := by simp [isD]
theorem dg_nat {d : Nat} (h : d < 10) : (dg d).toNat = 48 + d := by
  unfold dg
  rw [UInt8.toNat_ofNat']
  omega
theorem dg_isD {d : Nat} (h : d < 10) : isD (dg d) = true := isD_iff.2 (by rw [dg_nat h]; omega)
theorem dg_of {c : UInt8} (h : isD c = true) : dg (c.toNat - 48) = c := by
  have h2 := isD_iff.1 h
  apply UInt8.toNat_inj.1
  rw [dg_nat (by omega)]
  omega
/-- what digits tell -/
def val (a : Nat) (l : List UInt8) : Nat := l.foldl (fun b c => b * 10 + (c.toNat - 48)) a
theorem val_nil (a : Nat) : val a [] = a := by unfold val; rw [List.foldl_nil]
theorem val_cons (a : Nat) (c : UInt8) (r : List UInt8) : val a (c :: r) = val (a * 10 + (c.toNat - 48)) r := by unfold val; rw [List.foldl_cons]
theorem val_snoc (c : UInt8) (a : Nat) (l : List UInt8) : val a (l ++ [c]) = val a l * 10 + (c.toNat - 48) := by
  unfold val
  rw [List.foldl_append, List.foldl_cons, List.foldl_nil]
/-- how a number is shown -/
def digs (n : Nat) : List UInt8 := if n < 10 then [dg n] else digs (n / 10) ++ [dg (n % 10)]
termination_by n
decreasing_by omega
theorem digs_small {n : Nat} (h : n < 10) : digs n = [dg n] := by rw [digs, if_pos h]
theorem digs_big {n : Nat} (h : ¬ n < 10) : digs n = digs (n / 10) ++ [dg (n % 10)] := by rw [digs, if_neg h]
theorem val_digs (n : Nat) : val 0 (digs n) = n := by
  induction n using Nat.strongRecOn with
  | _ n ih =>
    by_cases h : n < 10
    · rw [digs_small h]
      rw [val_cons, val_nil, dg_nat h]
      omega
    · rw [digs_big h, val_snoc, ih (n / 10) (by omega), dg_nat (Nat.mod_lt _ (by omega))]
      omega
theorem digs_all (n : Nat) : ∀ c ∈ digs n, isD c = true := by
  induction n using Nat.strongRecOn with
  | _ n ih =>
    by_cases h : n < 10
    · rw [digs_small h]
      intro c hc
      rw [List.mem_singleton.1 hc]
      exact dg_isD h
    · rw [digs_big h]
      intro c hc
      rcases List.mem_append.1 hc with q | q
      · exact ih (n / 10) (by omega) c q
      · rw [List.mem_singleton.1 q]
        exact dg_isD (Nat.mod_lt _ (by omega))
theorem digs_ne (n : Nat) : digs n ≠ [] := by
  by_cases h : n < 10
  · rw [digs_small h]; simp
  · rw [digs_big h]; simp
theorem digs_len : ∀ (k n : Nat), n < 10 ^ (k + 1) → (digs n).length ≤ k + 1
  | 0, n, h => by rw [digs_small (by simpa using h)]; simp
  | k + 1, n, h => by
    by_cases h2 : n < 10
    · rw [digs_small h2]; simp
    · rw [digs_big h2, List.length_append, List.length_singleton]
      have : n / 10 < 10 ^ (k + 1) := by rw [Nat.div_lt_iff_lt_mul (by omega)]; rw [Nat.pow_succ] at h; omega
      have := digs_len k (n / 10) this
      omega
/-- the first digit is no 0, but of 0 alone -/
theorem digs_head (n : Nat) : (digs n).head? = some 48 → (digs n).length = 1 := by
  induction n using Nat.strongRecOn with
  | _ n ih =>
    by_cases h : n < 10
    · rw [digs_small h]
      intro _
      rfl
    · rw [digs_big h]
      intro hh
      have h1 : (digs (n / 10)).head? = some 48 := by
        cases hd : digs (n / 10) with
        | nil => exact absurd hd (digs_ne _)
        | cons c r => rw [hd] at hh; simpa using hh
      have h2 := ih (n / 10) (by omega) h1
      have h3 : n / 10 < 10 := Classical.byContradiction fun h4 => by
        rw [digs_big h4, List.length_append, List.length_singleton] at h2
        have := List.length_pos_iff.2 (digs_ne (n / 10 / 10))
        omega
      rw [digs_small h3] at h1
      have h5 : dg (n / 10) = 48 := by simpa using h1
      have h6 := congrArg UInt8.toNat h5
      rw [dg_nat h3] at h6
      have h7 : (48 : UInt8).toNat = 48 := rfl
      omega
/-- digits as a number is shown: one to nine of them, no 0 ahead -/
def canon (s : List UInt8) : Bool := s.all isD && decide (1 ≤ s.length) && decide (s.length ≤ 9) && !(s.head? == some 48 && decide (1 < s.length))
theorem canon_iff {s : List UInt8} : canon s = true ↔ (∀ c ∈ s, isD c = true) ∧ 1 ≤ s.length ∧ s.length ≤ 9 ∧ (s.head? = some 48 → s.length = 1) := by
  simp only [canon, Bool.and_eq_true, List.all_eq_true, decide_eq_true_eq, Bool.not_eq_true', Bool.and_eq_false_iff, beq_eq_false_iff_ne, decide_eq_false_iff_not]
  constructor
  · rintro ⟨⟨⟨h1, h2⟩, h3⟩, h4⟩
    refine ⟨h1, h2, h3, fun h => ?_⟩
    rcases h4 with q | q
    · exact absurd h q
    · omega
  · rintro ⟨h1, h2, h3, h4⟩
    refine ⟨⟨⟨h1, h2⟩, h3⟩, ?_⟩
    by_cases h : s.head? = some 48
    · have := h4 h
      exact .inr (by omega)
    · exact .inl h
theorem canon_digs {n : Nat} (h : n ≤ 999999999) : canon (digs n) = true :=
  canon_iff.2 ⟨digs_all n, by have := List.length_pos_iff.2 (digs_ne n); omega, digs_len 8 n (by omega), digs_head n⟩
theorem val_pos {c : UInt8} (hc : isD c = true) (h48 : c ≠ 48) : ∀ (l : List UInt8) (a : Nat), 0 < a → 0 < val a l
  | [], a, h => by rw [val_nil]; exact h
  | d :: r, a, h => by rw [val_cons]; exact val_pos hc h48 r _ (by omega)
theorem digs_val {c : UInt8} (hc : isD c = true) (h48 : c ≠ 48) : ∀ (n : Nat) (l : List UInt8), l.length = n → (∀ d ∈ l, isD d = true) → digs (val 0 (c :: l)) = c :: l
  | 0, l, hl, h => by
    rw [List.eq_nil_of_length_eq_zero hl]
    have h2 := isD_iff.1 hc
    rw [val_cons, val_nil, Nat.zero_mul, Nat.zero_add, digs_small (by omega), dg_of hc]
  | n + 1, l, hl, h => by
    have hne : l ≠ [] := fun e => by rw [e] at hl; simp at hl
    have e : l = l.dropLast ++ [l.getLast hne] := (List.dropLast_concat_getLast hne).symm
    have hd := isD_iff.1 (h (l.getLast hne) (List.getLast_mem hne))
    have ih := digs_val hc h48 n l.dropLast (by rw [List.length_dropLast]; omega) (fun d hd => h d (List.dropLast_subset l hd))
    have hcd := isD_iff.1 hc
    have hc0 : 0 < c.toNat - 48 := by
      have : c.toNat ≠ 48 := fun e => h48 (UInt8.toNat_inj.1 e)
      omega
    have hp : 0 < val 0 (c :: l.dropLast) := by
      rw [val_cons, Nat.zero_mul, Nat.zero_add]
      exact val_pos hc h48 _ _ hc0
    rw [e, ← List.cons_append, val_snoc, digs_big (by omega), show (val 0 (c :: l.dropLast) * 10 + ((l.getLast hne).toNat - 48)) / 10 = val 0 (c :: l.dropLast) by omega, ih, show (val 0 (c :: l.dropLast) * 10 + ((l.getLast hne).toNat - 48)) % 10 = (l.getLast hne).toNat - 48 by omega, dg_of (h (l.getLast hne) (List.getLast_mem hne))]
/-- a number is read only from what it is shown as -/
theorem digs_canon {s : List UInt8} (h : canon s = true) : digs (val 0 s) = s := by
  obtain ⟨h1, h2, h3, h4⟩ := canon_iff.1 h
  cases s with
  | nil => simp at h2
  | cons c r =>
    by_cases h48 : c = 48
    · have hl := h4 (by rw [h48]; rfl)
      have hr : r = [] := List.eq_nil_of_length_eq_zero (by simpa using hl)
      rw [hr, h48]
      have e : val 0 [48] = 0 := by rw [val_cons, val_nil]; rfl
      rw [e, digs_small (by omega)]
      rfl
    · exact digs_val (h1 c (List.mem_cons_self ..)) h48 r.length r rfl (fun d hd => h1 d (List.mem_cons_of_mem _ hd))
theorem val_lt : ∀ (l : List UInt8) (a k : Nat), (∀ c ∈ l, isD c = true) → a < 10 ^ k → val a l < 10 ^ (k + l.length)
  | [], a, k, _, h => by rw [val_nil]; simpa using h
  | c :: r, a, k, hc, h => by
    have h2 := isD_iff.1 (hc c (List.mem_cons_self ..))
    have := val_lt r (a * 10 + (c.toNat - 48)) (k + 1) (fun d hd => hc d (List.mem_cons_of_mem _ hd)) (by rw [Nat.pow_succ]; omega)
    rw [val_cons, List.length_cons, show k + (r.length + 1) = k + 1 + r.length by omega]
    exact this
theorem val_canon {s : List UInt8} (h : canon s = true) : val 0 s ≤ 999999999 := by
  obtain ⟨h1, h2, h3, -⟩ := canon_iff.1 h
  have := val_lt s 0 0 h1 (by decide)
  have h9 : (10 : Nat) ^ (0 + s.length) ≤ 10 ^ 9 := Nat.pow_le_pow_right (by decide) (by omega)
  omega

/-! ### words -/
def splitL (x : UInt8) : List UInt8 → List (List UInt8)
  | [] => [[]]
  | c :: r => if c = x then [] :: splitL x r else match splitL x r with
    | [] => [[c]]
    | w :: ws => (c :: w) :: ws
theorem splitL_ne (x : UInt8) : ∀ s, splitL x s ≠ []
  | [] => by simp [splitL]
  | c :: r => by
    unfold splitL
    split
    · simp
    · split <;> simp
theorem splitL_yes {x c : UInt8} (h : c = x) (r : List UInt8) : splitL x (c :: r) = [] :: splitL x r := by simp [splitL, h]
theorem splitL_no {x c : UInt8} (h : c ≠ x) {r w : List UInt8} {ws : List (List UInt8)} (e : splitL x r = w :: ws) : splitL x (c :: r) = (c :: w) :: ws := by simp [splitL, h, e]
def wordsL : List (List UInt8) → List UInt8
  | [] => []
  | [w] => w
  | w :: v :: ws => w ++ 32 :: wordsL (v :: ws)
theorem wordsL_cons {w : List UInt8} {ws : List (List UInt8)} (h : ws ≠ []) : wordsL (w :: ws) = w ++ 32 :: wordsL ws := by
  cases ws with
  | nil => exact absurd rfl h
  | cons v r => rfl
theorem words_split : ∀ s : List UInt8, wordsL (splitL 32 s) = s
  | [] => rfl
  | c :: r => by
    have ih := words_split r
    by_cases h : c = 32
    · rw [splitL_yes h, wordsL_cons (splitL_ne _ _), ih, h]
      rfl
    · cases e : splitL 32 r with
      | nil => exact absurd e (splitL_ne _ _)
      | cons w ws =>
        rw [splitL_no h e]
        rw [e] at ih
        rw [← ih]
        cases ws with
        | nil => rfl
        | cons v r => rfl
theorem split_nob : ∀ (w : List UInt8), 32 ∉ w → splitL 32 w = [w]
  | [], _ => rfl
  | c :: r, h => by
    simp only [List.mem_cons, not_or] at h
    exact splitL_no (fun e => h.1 e.symm) (split_nob r h.2)
theorem split_app : ∀ (w s : List UInt8), 32 ∉ w → splitL 32 (w ++ 32 :: s) = w :: splitL 32 s
  | [], s, _ => splitL_yes rfl s
  | c :: r, s, h => by
    simp only [List.mem_cons, not_or] at h
    exact splitL_no (fun e => h.1 e.symm) (split_app r s h.2)
theorem split_words : ∀ (ws : List (List UInt8)), ws ≠ [] → (∀ w ∈ ws, 32 ∉ w) → splitL 32 (wordsL ws) = ws
  | [], h, _ => absurd rfl h
  | [w], _, h => split_nob w (h w (by simp))
  | w :: v :: ws, _, h => by
    rw [wordsL_cons (by simp), split_app _ _ (h w (by simp)), split_words (v :: ws) (by simp) (fun x hx => h x (List.mem_cons_of_mem _ hx))]
theorem wordsL_mem {x : UInt8} : ∀ (ws : List (List UInt8)), x ∈ wordsL ws → x = 32 ∨ ∃ w ∈ ws, x ∈ w
  | [], h => by simp [wordsL] at h
  | [w], h => .inr ⟨w, by simp, h⟩
  | w :: v :: ws, h => by
    rw [wordsL_cons (by simp)] at h
    rcases List.mem_append.1 h with q | q
    · exact .inr ⟨w, by simp, q⟩
    · rcases List.mem_cons.1 q with q | q
      · exact .inl q
      · rcases wordsL_mem (v :: ws) q with z | ⟨u, hu, hx⟩
        · exact .inl z
        · exact .inr ⟨u, List.mem_cons_of_mem _ hu, hx⟩
theorem wordsL_len : ∀ (ws : List (List UInt8)) (m : Nat), (∀ w ∈ ws, w.length ≤ m) → (wordsL ws).length ≤ ws.length * (m + 1)
  | [], m, _ => by simp [wordsL]
  | [w], m, h => by have := h w (by simp); simp [wordsL]; omega
  | w :: v :: ws, m, h => by
    have h1 := h w (by simp)
    have h2 := wordsL_len (v :: ws) m (fun x hx => h x (List.mem_cons_of_mem _ hx))
    rw [wordsL_cons (by simp), List.length_append, List.length_cons, List.length_cons, Nat.add_mul]
    omega
end Go.Proofs.Ytmnjmghlkiljhaa.cm
/- Mathematics of commands, no Go in sight: right ones, how they are shown, how a line is read. -/
namespace Go.Proofs.Ytmnjmghlkiljhaa.cm
open Go.RowKit
open Go.Proofs.Ytmnjmghlkiljhaa.rg (nameB nbB nameB_size)
set_option linter.unusedVariables false

/-- a command -/
structure Cm where
  V : Int
  N : ByteArray
  F : Int
  U : Int
  B : ByteArray
  C : Int
  D : Int
  Q : Bool
def emp : ByteArray := ⟨#[]⟩
def Cm.zero : Cm := ⟨0, emp, 0, 0, emp, 0, 0, false⟩
def sized (v : Int) : Bool := decide (3 ≤ v) && decide (v ≤ 8)
def full (v : Int) : Bool := (decide (3 ≤ v) && decide (v ≤ 5)) || decide (v = 8)
def stepV (v : Int) : Bool := decide (v = 9) || decide (v = 10)
/-- a right one -/
structure COk (c : Cm) : Prop where
  v0 : 1 ≤ c.V
  v1 : c.V ≤ 13
  q : c.Q = true → 3 ≤ c.V
  n0 : c.V = 13 → c.N = emp
  nm : c.V ≠ 13 → nameB c.N = true
  f : full c.V = false → c.F = 0
  u : full c.V = false → c.V ≠ 11 → c.U = 0
  b : sized c.V = false → c.B = emp
  c8 : c.V ≠ 8 → c.C = 0
  d : stepV c.V = false → c.D = 0
  c1 : c.V = 8 → 1 ≤ c.C ∧ c.C ≤ 1000000
  f1 : 0 ≤ c.F ∧ c.F ≤ 65535
  u1 : 0 ≤ c.U ∧ c.U ≤ 1000000
  b1 : c.B.size ≤ 64
  d1 : 0 ≤ c.D ∧ c.D ≤ 1000000
open Classical in
noncomputable def cmdB (c : Cm) : Bool := decide (COk c)
open Classical in
theorem cmdB_iff {c : Cm} : cmdB c = true ↔ COk c := by unfold cmdB; exact decide_eq_true_iff

/-! ### how it is shown -/
def verbs : List (List UInt8) := [[103, 101, 116], [103, 101, 116, 115], [115, 101, 116], [97, 100, 100], [114, 101, 112, 108, 97, 99, 101], [116, 97, 105, 108], [104, 101, 97, 100], [99, 97, 115], [117, 112], [100, 111, 119, 110], [116, 111, 117, 99, 104], [99, 117, 116], [99, 108, 101, 97, 114]]
def quiet : List UInt8 := [113, 117, 105, 101, 116]
def vw (v : Int) : List UInt8 := (verbs[(v - 1).toNat]?).getD []
def bs (s : ByteArray) : List UInt8 := s.data.toList
def tx (l : List UInt8) : ByteArray := ⟨l.toArray⟩
theorem bs_tx (l : List UInt8) : bs (tx l) = l := by simp [bs, tx]
theorem tx_bs (s : ByteArray) : tx (bs s) = s := by cases s; simp [bs, tx]
theorem bs_len (s : ByteArray) : (bs s).length = s.size := by cases s; simp [bs, ByteArray.size]
theorem tx_size (l : List UInt8) : (tx l).size = l.length := by simp [tx, ByteArray.size]
theorem bs_emp : bs emp = [] := rfl
theorem tx_nil : tx [] = emp := rfl
/-- the numbers of a command, k bytes behind it -/
def numsK (c : Cm) (k : Nat) : List Nat :=
  (if full c.V then [c.F.toNat, c.U.toNat] else []) ++ (if sized c.V then [k] else if c.V = 11 then [c.U.toNat] else if stepV c.V then [c.D.toNat] else []) ++ (if c.V = 8 then [c.C.toNat] else [])
def wordsK (c : Cm) (k : Nat) : List (List UInt8) :=
  vw c.V :: (if c.V = 13 then [] else [bs c.N]) ++ (numsK c k).map digs ++ (if c.Q then [quiet] else [])
def lineK (c : Cm) (k : Nat) : List UInt8 := wordsL (wordsK c k)
def showL (c : Cm) : List UInt8 := lineK c c.B.size ++ 10 :: (if sized c.V then bs c.B ++ [10] else [])

/-! ### how a line is read -/
def quietB (v : Int) (w : List (List UInt8)) : Bool := decide (1 < w.length) && (w.getLast? == some quiet) && decide (2 < v) && (decide (2 < w.length) || decide (v = 13))
def want (v : Int) : Nat := (if full v then 2 else 0) + (if sized v || decide (v = 11) || stepV v then 1 else 0) + (if v = 8 then 1 else 0)
def nth (n : List Nat) (i : Nat) : Int := ((n[i]?).getD 0 : Nat)
def build (v : Int) (q : Bool) (nm : ByteArray) (n : List Nat) : Cm :=
  if full v then ⟨v, nm, nth n 0, nth n 1, emp, if v = 8 then nth n 3 else 0, 0, q⟩
  else if sized v then ⟨v, nm, 0, 0, emp, 0, 0, q⟩
  else if v = 11 then ⟨v, nm, 0, nth n 0, emp, 0, 0, q⟩
  else if stepV v then ⟨v, nm, 0, 0, emp, 0, nth n 0, q⟩
  else ⟨v, nm, 0, 0, emp, 0, 0, q⟩
def sizeN (v : Int) (n : List Nat) : Nat := if full v then (n[2]?).getD 0 else if sized v then (n[0]?).getD 0 else 0
/-- the words but for the last quiet -/
def plainW (v : Int) (w : List (List UInt8)) : List (List UInt8) := if quietB v w then w.dropLast else w
def nameW (v : Int) (u : List (List UInt8)) : ByteArray := if v = 13 then emp else tx ((u[1]?).getD [])
def restW (v : Int) (u : List (List UInt8)) : List (List UInt8) := u.drop (if v = 13 then 1 else 2)
open Classical in
noncomputable def lineL (v : Int) (w : List (List UInt8)) : Option (Cm × Nat) :=
  if (v ≠ 13 ∧ (plainW v w).length < 2) ∨ ¬ (∀ x ∈ restW v (plainW v w), canon x = true) ∨ (restW v (plainW v w)).length ≠ want v then none
  else if sizeN v ((restW v (plainW v w)).map (val 0)) ≤ 64 ∧ COk (build v (quietB v w) (nameW v (plainW v w)) ((restW v (plainW v w)).map (val 0))) then
    some (build v (quietB v w) (nameW v (plainW v w)) ((restW v (plainW v w)).map (val 0)), sizeN v ((restW v (plainW v w)).map (val 0)))
  else none

theorem verb_cases {v : Int} (h0 : 1 ≤ v) (h1 : v ≤ 13) : v = 1 ∨ v = 2 ∨ v = 3 ∨ v = 4 ∨ v = 5 ∨ v = 6 ∨ v = 7 ∨ v = 8 ∨ v = 9 ∨ v = 10 ∨ v = 11 ∨ v = 12 ∨ v = 13 := by omega
theorem digs_quiet (n : Nat) : digs n ≠ quiet := fun e => by
  have h := digs_all n
  rw [e] at h
  have := h 113 (by simp [quiet])
  exact absurd this (by decide)
theorem map_val (l : List Nat) : (l.map digs).map (val 0) = l := by
  rw [List.map_map]
  have : (val 0 ∘ digs) = id := by funext n; exact val_digs n
  rw [this, List.map_id]
theorem map_digs {l : List (List UInt8)} (h : ∀ x ∈ l, canon x = true) : (l.map (val 0)).map digs = l := by
  rw [List.map_map]
  exact (List.map_congr_left (fun x hx => digs_canon (h x hx))).trans (List.map_id' l)
theorem len_key (a b s : Bool) (p r : Prop) [Decidable p] [Decidable r] (x1 x2 x3 x4 x5 x6 : Nat) :
    ((if a then [x1, x2] else []) ++ (if b then [x3] else if p then [x4] else if s then [x5] else []) ++ (if r then [x6] else [])).length = (if a then 2 else 0) + (if b || decide p || s then 1 else 0) + (if r then 1 else 0) := by
  by_cases hp : p <;> by_cases hr : r <;> cases a <;> cases b <;> cases s <;> simp [hp, hr]
theorem want_len (c : Cm) (k : Nat) : (numsK c k).length = want c.V := by
  unfold numsK want
  exact len_key _ _ _ _ _ _ _ _ _ _ _
theorem nums_small {c : Cm} (h : COk c) {k : Nat} (hk : k ≤ 64) : ∀ n ∈ numsK c k, n ≤ 1000000 := by
  have h1 := h.f1
  have h2 := h.u1
  have h3 := h.d1
  have h4 := h.c1
  intro n hn
  unfold numsK at hn
  rcases List.mem_append.1 hn with hn | hn
  · rcases List.mem_append.1 hn with hn | hn
    · split at hn
      · simp at hn
        omega
      · simp at hn
    · split at hn
      · simp at hn
        omega
      · split at hn
        · simp at hn
          omega
        · split at hn
          · simp at hn
            omega
          · simp at hn
  · split at hn
    · rename_i e
      have := h4 e
      simp at hn
      omega
    · simp at hn
/-- the words without the last quiet -/
def coreK (c : Cm) (k : Nat) : List (List UInt8) := vw c.V :: (if c.V = 13 then [] else [bs c.N]) ++ (numsK c k).map digs
theorem words_core (c : Cm) (k : Nat) : wordsK c k = coreK c k ++ (if c.Q then [quiet] else []) := rfl
theorem core_len (c : Cm) (k : Nat) : (coreK c k).length = 1 + (if c.V = 13 then 0 else 1) + want c.V := by
  unfold coreK
  rw [List.length_append, List.length_map, want_len]
  split <;> simp
theorem want_pos {v : Int} (h : want v = 0) (h0 : 3 ≤ v) (h1 : v ≤ 13) : v = 12 ∨ v = 13 := by
  unfold want sized stepV full at h
  have hc : v = 3 ∨ v = 4 ∨ v = 5 ∨ v = 6 ∨ v = 7 ∨ v = 8 ∨ v = 9 ∨ v = 10 ∨ v = 11 ∨ v = 12 ∨ v = 13 := by omega
  rcases hc with rfl | rfl | rfl | rfl | rfl | rfl | rfl | rfl | rfl | rfl | rfl <;> simp at h ⊢
theorem quiet_show {c : Cm} (h : COk c) (k : Nat) : quietB c.V (wordsK c k) = c.Q := by
  have hv0 := h.v0
  have hv1 := h.v1
  cases hq : c.Q with
  | true =>
    have h3 := h.q hq
    have e : wordsK c k = coreK c k ++ [quiet] := by rw [words_core, hq]; rfl
    have hl := core_len c k
    unfold quietB
    rw [e, List.length_append, List.length_singleton, List.getLast?_append, hl]
    by_cases h13 : c.V = 13
    · simp [h13]
      omega
    · simp [h13]
      omega
  | false =>
    have e : wordsK c k = coreK c k := by rw [words_core, hq]; simp
    have hl := core_len c k
    rw [e]
    by_cases h3 : 3 ≤ c.V
    · by_cases hw : want c.V = 0
      · have := want_pos hw h3 hv1
        unfold quietB
        rw [hl, hw]
        by_cases h13 : c.V = 13
        · simp [h13]
        · simp [h13]
      · have hne : numsK c k ≠ [] := fun e => hw (by rw [← want_len c k, e]; rfl)
        have hlast : (coreK c k).getLast? = some (digs ((numsK c k).getLast hne)) := by
          unfold coreK
          rw [List.getLast?_append, List.getLast?_map, List.getLast?_eq_some_getLast hne]
          rfl
        unfold quietB
        rw [hlast]
        have : (some (digs ((numsK c k).getLast hne)) == some quiet) = false := by
          simp only [beq_eq_false_iff_ne, ne_eq, Option.some.injEq]
          exact digs_quiet _
        rw [this]
        simp
    · unfold quietB
      rw [decide_eq_false (show ¬ 2 < c.V by omega)]
      simp
theorem plain_show {c : Cm} (h : COk c) (k : Nat) : plainW c.V (wordsK c k) = coreK c k := by
  unfold plainW
  rw [quiet_show h, words_core]
  cases c.Q <;> simp
theorem rest_core (c : Cm) (k : Nat) : restW c.V (coreK c k) = (numsK c k).map digs := by
  unfold restW coreK
  by_cases h : c.V = 13 <;> simp [h]
theorem name_core {c : Cm} (h : COk c) (k : Nat) : nameW c.V (coreK c k) = c.N := by
  unfold nameW coreK
  by_cases h13 : c.V = 13
  · rw [if_pos h13, h.n0 h13]
  · simp [h13, tx_bs]
/-- the command without its bytes -/
def bare (c : Cm) : Cm := ⟨c.V, c.N, c.F, c.U, emp, c.C, c.D, c.Q⟩
theorem bare_ok {c : Cm} (h : COk c) : COk (bare c) := ⟨h.v0, h.v1, h.q, h.n0, h.nm, h.f, h.u, fun _ => rfl, h.c8, h.d, h.c1, h.f1, h.u1, by show emp.size ≤ 64; decide, h.d1⟩
theorem build_show {c : Cm} (h : COk c) (k : Nat) : build c.V c.Q c.N (numsK c k) = bare c := by
  have hf := h.f
  have hu := h.u
  have hc8 := h.c8
  have hd := h.d
  have f1 := h.f1
  have u1 := h.u1
  have d1 := h.d1
  have c1 := h.c1
  have e : ∀ x : Int, 0 ≤ x → ((x.toNat : Nat) : Int) = x := fun x hx => by omega
  unfold build bare numsK
  cases hfull : full c.V with
  | true =>
    have hs : sized c.V = true := by
      unfold full at hfull
      unfold sized
      simp at hfull ⊢
      omega
    have hd0 : c.D = 0 := hd (by unfold full at hfull; unfold stepV; simp at hfull ⊢; omega)
    by_cases h8 : c.V = 8
    · have e8 : sized 8 = true := rfl
      simp [e8, h8, nth, e c.F f1.1, e c.U u1.1, e c.C (by have := c1 h8; omega), hd0]
    · simp [hs, h8, nth, e c.F f1.1, e c.U u1.1, hd0, hc8 h8]
  | false =>
    have hF := hf hfull
    have h8 : c.V ≠ 8 := fun e => by rw [e] at hfull; simp [full] at hfull
    cases hs : sized c.V with
    | true =>
      have h11 : c.V ≠ 11 := fun e => by rw [e] at hs; simp [sized] at hs
      have hd0 : c.D = 0 := hd (by unfold sized at hs; unfold stepV; simp at hs ⊢; omega)
      simp [hF, hu hfull h11, hc8 h8, hd0]
    | false =>
      by_cases h11 : c.V = 11
      · have hd0 : c.D = 0 := hd (by rw [h11]; rfl)
        simp [h11, nth, e c.U u1.1, hF, hc8 h8, hd0]
      · cases hst : stepV c.V with
        | true => simp [h11, nth, e c.D d1.1, hF, hc8 h8, hu hfull h11]
        | false => simp [h11, hF, hc8 h8, hu hfull h11, hd hst]
theorem size_show {c : Cm} (h : COk c) (k : Nat) (hk : sized c.V = false → k = 0) : sizeN c.V (numsK c k) = k := by
  unfold sizeN numsK
  cases hfull : full c.V with
  | true =>
    have hs : sized c.V = true := by
      unfold full at hfull
      unfold sized
      simp at hfull ⊢
      omega
    simp [hs]
  | false =>
    cases hs : sized c.V with
    | true => simp
    | false => simp [hk hs]
/-- a line is read from what it is shown as -/
theorem line_show {c : Cm} (h : COk c) : lineL c.V (wordsK c c.B.size) = some (bare c, c.B.size) := by
  have hb := h.b1
  have hk : sized c.V = false → c.B.size = 0 := fun e => by rw [h.b e]; rfl
  have hr : restW c.V (plainW c.V (wordsK c c.B.size)) = (numsK c c.B.size).map digs := by rw [plain_show h, rest_core]
  unfold lineL
  rw [hr, plain_show h, quiet_show h, name_core h, map_val, build_show h, size_show h _ hk, core_len, if_neg, if_pos ⟨hb, bare_ok h⟩]
  rintro (⟨h1, h2⟩ | h1 | h1)
  · rw [if_neg h1] at h2
    omega
  · refine h1 fun x hx => ?_
    obtain ⟨n, hn, rfl⟩ := List.mem_map.1 hx
    exact canon_digs (by have := nums_small h hb n hn; omega)
  · rw [List.length_map, want_len] at h1
    exact h1 rfl
end Go.Proofs.Ytmnjmghlkiljhaa.cm
