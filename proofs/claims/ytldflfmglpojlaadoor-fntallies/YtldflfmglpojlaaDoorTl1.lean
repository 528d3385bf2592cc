/- Contracts of chapter 15: counts as a map, of the program; Counted of the model. -/
import Derived.Test.YtldflfmglpojlaaDoorMg11
import Derived.Test.YtldflfmglpojlaaDoorMg10
import Derived.Test.YtldflfmglpojlaaDoorMg04
import Derived.Test.YtldflfmglpojlaaDoorMg00
import Derived.Lib.MinMax
import Derived.BigQuiet
import Derived.Deep.DeepCutAuto
namespace Go.Proofs.YtldflfmglpojlaaDoor.rg
open Go.ChangeShapes Go.WideShapes Go.ChangeAt Go.RowKit
open Go.Deep Go.Joins
open Go.Proofs.YtldflfmglpojlaaDoor.ce Go.Proofs.YtldflfmglpojlaaDoor.ro Go.Proofs.YtldflfmglpojlaaDoor.cm
set_option linter.unusedVariables false

/-- a tally as a map -/
def ent (t : Tl) : List (Int × Int) := [(0, t.A), (1, t.H), (2, t.S), (3, t.D), (4, t.O)]
def clI (n : Int) : Int := if 1000000000 < (if n < 0 then 0 else n) then 1000000000 else (if n < 0 then 0 else n)
def clT (t : Tl) : Tl := ⟨clI t.A, clI t.H, clI t.S, clI t.D, clI t.O⟩
theorem cl_in {n : Int} : clI n = n ↔ 0 ≤ n ∧ n ≤ 1000000000 := by unfold clI; split <;> split <;> omega
theorem cl_is (n : Int) : clI n = min (max n 0) 1000000000 := by unfold clI; split <;> split <;> omega
theorem clT_iff (t : Tl) : clT t = t ↔ tallyB t = true := by
  rw [tallyB_iff]
  obtain ⟨A, H, S, D, O⟩ := t
  simp only [clT, Tl.mk.injEq, cl_in]
  exact ⟨fun ⟨a, b, c, d, e⟩ => ⟨a, b, c, d, e⟩, fun h => ⟨h.a, h.h, h.s, h.d, h.o⟩⟩
/-- what a right tally is as a map; of one that is not right there is nothing -/
def entR (t : Tl) : List (Int × Int) := if tallyB t = true then ent t else []
theorem und_sums : Tryd.prog.underlying 42 = some (.map 60 2) := Tryd.underlying42
theorem und_head : Tryd.prog.underlying 60 = some (.int .i64) := Tryd.underlying60
theorem zero_i64 (w : World) : (zeroValue 2).run Tryd.prog w = .ok (.int .i64 0) w := Tryd.zeroValue2 w
set_option maxHeartbeats 2000000 in
theorem tally_any (l : List (Int × Int)) (b : Nat) (w : World) (M : MapL w b l) :
    Calls Tryd.prog 20 #[.map (some b)] w fun e w' => e = .returned (.agg #[.int .i64 ((mget l 0).getD 0), .int .i64 ((mget l 1).getD 0), .int .i64 ((mget l 2).getD 0), .int .i64 ((mget l 3).getD 0), .int .i64 ((mget l 4).getD 0)]) ∧ Below w.heap.size w w' := by
  obtain ⟨y0, h0⟩ := hid_ex ((mget l 0).getD 0)
  obtain ⟨y1, h1⟩ := hid_ex ((mget l 1).getD 0)
  obtain ⟨y2, h2⟩ := hid_ex ((mget l 2).getD 0)
  obtain ⟨y3, h3⟩ := hid_ex ((mget l 3).getD 0)
  obtain ⟨y4, h4⟩ := hid_ex ((mget l 4).getD 0)
  rw [h0.out, h1.out, h2.out, h3.out, h4.out]
  have MM : Hid (MapL w b l) := M
  clear M
  have look : ∀ (y c : Int) (hc : Hid ((mget l y).getD 0 = c)) {ops : Array Oper} {rest : List Oper} {o : Oper} {a : Act} {w' : World} {Q : Exit → Act → World → Prop} (hgd : o.guard = none) (m x : Operand) (ho : o.op = .lookup 42 m x false) (hm : a.eval m = .map (some b)) (M' : MapL w' b l) (hx : a.eval x = .int .i64 y), wpList Tryd.prog ops Q rest (a.put o.dst (.int .i64 c)) w' → wpList Tryd.prog ops Q (o :: rest) a w' := by
    intro y c hc ops rest o a w' Q hgd m x ho hm M' hx h
    exact wpList_look_m hgd m x _ false ho und_sums und_head zero_i64 b l hm M' y hx (by simp only [hc.out]; exact h)
  go_enter Tryd.func20, Tryd.ntmps20
  have m0 : Hid True := trivial
  have m1 : Hid True := trivial
  have m2 : Hid True := trivial
  have m3 : Hid True := trivial
  have m4 : Hid True := trivial
  have m5 : Hid True := trivial
  have m6 : Hid True := trivial
  go_wp2_with (first
    | (clear m0; refine wpList_alloc_v rfl 25 rfl _ zeroTl ?_; intro b1 w1 hb1 hw1 hB1 V1; have M1 : Hid (MapL w1 b l) := MM.out.grow hB1)
    | (clear m1; refine look _ _ h0 rfl _ _ rfl rfl M1.out rfl ?_)
    | (clear m2; refine look _ _ h1 rfl _ _ rfl rfl M1.out rfl ?_)
    | (clear m3; refine look _ _ h2 rfl _ _ rfl rfl M1.out rfl ?_)
    | (clear m4; refine look _ _ h3 rfl _ _ rfl rfl M1.out rfl ?_)
    | (clear m5; refine look _ _ h4 rfl _ _ rfl rfl M1.out rfl ?_)
    | (clear m6; refine wpList_store_v rfl 25 _ _ rfl b1 [.int .i64 y0, .int .i64 y1, .int .i64 y2, .int .i64 y3, .int .i64 y4] rfl rfl sizeTl V1 rfl (oneTl ⟨y0, y1, y2, y3, y4⟩) ?_; intro w2 hO2 V2; have hB2 : Below w.heap.size w w2 := hB1.trans (hO2.2.2 _ hb1))
    | (fail))
  exact row_retv rfl rfl V2 Tryd.underlying25 sizeTl rfl ⟨rfl, hB2⟩
set_option maxHeartbeats 2000000 in
theorem bounded_any (t : Tl) (b : Nat) (w : World) (M : MapL w b (ent t)) :
    Calls Tryd.prog 33 #[.map (some b)] w fun e w' => ∃ b', e = .returned (.map (some b')) ∧ MapL w' b' (ent (clT t)) ∧ Below w.heap.size w w' := by
  have MM : Hid (MapL w b (ent t)) := M
  have hbw := M.lt
  clear M
  have m0 : Hid True := trivial
  go_enter Tryd.func33, Tryd.ntmps33
  go_wp2_with (first
    | (clear m0; refine wpList_make_m rfl 42 rfl ?_; intro b1 w1 hb1 hw1 hB1 N1)
    | (fail))
  go_loopw [6] (fun v wr => ∃ i : Nat, i ≤ 5 ∧ v = .int .i64 i ∧ Below w.heap.size w wr ∧ MapL wr b1 ((ent (clT t)).take i)) (fun v _ => 5 - (intOf v).toNat)
  case atStart => exact ⟨0, by omega, rfl, hB1, by simpa using N1⟩
  case round =>
    obtain ⟨i, hi, rfl, hB, NN⟩ := hrel
    have MR : Hid (MapL wr b (ent t)) := MM.out.below hB hbw
    have hlt : (i : Int) < 5 ∨ i = 5 := by omega
    rcases hlt with hlt | rfl
    · obtain ⟨y, hy⟩ := hid_ex ((mget (ent t) i).getD 0)
      have hs : Hid (mset ((ent (clT t)).take i) i (min (max y 0) 1000000000) = (ent (clT t)).take (i + 1)) := by
        have hi5 : i = 0 ∨ i = 1 ∨ i = 2 ∨ i = 3 ∨ i = 4 := by omega
        have e := hy.out
        rcases hi5 with rfl | rfl | rfl | rfl | rfl <;> simp [mget, ent, Option.getD] at e <;> subst e <;> simp [mset, ent, clT, cl_is, Hid]
      have NH : Hid (MapL wr b1 ((ent (clT t)).take i)) := NN
      clear NN
      have m1 : Hid True := trivial
      go_wp2_with (first
        | (clear m1; refine wpList_look_m rfl _ _ _ false rfl und_sums und_head zero_i64 b (ent t) rfl MR.out i rfl ?_; simp only [hy.out, Bool.false_eq_true, if_false])
        | (refine wpList_set_m rfl _ _ _ _ (.inl rfl) und_sums und_head b1 _ rfl NH.out i (min (max y 0) 1000000000) rfl rfl ?_; intro w2 N2 hO2; have hB2 := hB.trans (hO2.2.2 _ hb1))
        | (fail))
      go_roundw
      case rel => exact ⟨i + 1, by omega, by go_num, hB2, by rw [← hs.out]; exact N2⟩
      case measure => simp [intOf]; omega
    · go_wp2
      go_ret
      exact ⟨b1, rfl, by simpa [ent] using NN, hB⟩
set_option maxRecDepth 100000 in
set_option maxHeartbeats 4000000 in
theorem sumsOf_any (t : Tl) (w : World) :
    Calls Tryd.prog 17 #[.agg #[.int .i64 t.A, .int .i64 t.H, .int .i64 t.S, .int .i64 t.D, .int .i64 t.O]] w fun e w' => ∃ b', e = .returned (.map (some b')) ∧ MapL w' b' (entR t) ∧ Below w.heap.size w w' ∧ w.heap.size ≤ b' := by
  have hent : Hid (ent t = [(0, t.A), (1, t.H), (2, t.S), (3, t.D), (4, t.O)]) := rfl
  have hcl : Hid (clT t = t ↔ tallyB t = true) := clT_iff t
  obtain ⟨c0, e0⟩ := hid_ex (clT t).A
  obtain ⟨c1, e1⟩ := hid_ex (clT t).H
  obtain ⟨c2, e2⟩ := hid_ex (clT t).S
  obtain ⟨c3, e3⟩ := hid_ex (clT t).D
  obtain ⟨c4, e4⟩ := hid_ex (clT t).O
  obtain ⟨A, H, S, D, O⟩ := t
  dsimp only
  have k : ∀ j : Nat, Hid True := fun _ => trivial
  have m0 : Hid True := trivial
  have m1 : Hid True := trivial
  have n0 : Hid True := trivial
  have n1 : Hid True := trivial
  have n2 : Hid True := trivial
  have n3 : Hid True := trivial
  have n4 : Hid True := trivial
  go_enter Tryd.func17, Tryd.ntmps17
  go_upto_region 2 with (first
    | (clear m0; refine wpList_box_v rfl 25 _ rfl [.int .i64 A, .int .i64 H, .int .i64 S, .int .i64 D, .int .i64 O] rfl ?_; intro b1 w1 hb1 hw1 hB1 V1)
    | (clear m1; refine wpList_make_m rfl 42 rfl ?_; intro b2 w2 hb2 hw2 hB2 N2; replace V1 := vblk_grow V1 hB2; have hz1 := hB1.size; have hz2 := hB2.size; obtain ⟨x0, x1, x2, x3, x4⟩ := cellsTl V1)
    | (clear n0; refine wpList_set_m rfl _ _ _ _ (.inr rfl) und_sums und_head b2 _ rfl N2 _ A rfl rfl ?_; intro u0 P0 hO0; have W0 := vblk_only V1 hO0 (by omega); clear x0 x1 x2 x3 x4; obtain ⟨x0, x1, x2, x3, x4⟩ := cellsTl W0)
    | (clear n1; refine wpList_set_m rfl _ _ _ _ (.inr rfl) und_sums und_head b2 _ rfl P0 _ H rfl rfl ?_; intro u1 P1 hO1; have W1 := vblk_only W0 hO1 (by omega); clear x0 x1 x2 x3 x4; obtain ⟨x0, x1, x2, x3, x4⟩ := cellsTl W1)
    | (clear n2; refine wpList_set_m rfl _ _ _ _ (.inr rfl) und_sums und_head b2 _ rfl P1 _ S rfl rfl ?_; intro u2 P2 hO2; have W2 := vblk_only W1 hO2 (by omega); clear x0 x1 x2 x3 x4; obtain ⟨x0, x1, x2, x3, x4⟩ := cellsTl W2)
    | (clear n3; refine wpList_set_m rfl _ _ _ _ (.inr rfl) und_sums und_head b2 _ rfl P2 _ D rfl rfl ?_; intro u3 P3 hO3; have W3 := vblk_only W2 hO3 (by omega); clear x0 x1 x2 x3 x4; obtain ⟨x0, x1, x2, x3, x4⟩ := cellsTl W3)
    | (clear n4; refine wpList_set_m rfl _ _ _ _ (.inr rfl) und_sums und_head b2 _ rfl P3 _ O rfl rfl ?_; intro u4 P4 hO4; have W4 := vblk_only W3 hO4 (by omega); clear x0 x1 x2 x3 x4)
    | (fail))
  have hz4 : u4.heap.size = w2.heap.size := by rw [hO4.1, hO3.1, hO2.1, hO1.1, hO0.1]
  have hB : Below w.heap.size w u4 := ((((((hB1.trans (hB2.mono (by omega))).trans (hO0.2.2 _ (by omega))).trans (hO1.2.2 _ (by omega))).trans (hO2.2.2 _ (by omega))).trans (hO3.2.2 _ (by omega))).trans (hO4.2.2 _ (by omega)))
  have PQ : MapL u4 b2 (ent ⟨A, H, S, D, O⟩) := by rw [hent.out]; simpa [mset] using P4
  have PP : Hid (MapL u4 b2 (ent ⟨A, H, S, D, O⟩)) := PQ
  clear P0 P1 P2 P3 P4 W0 W1 W2 W3 V1 N2 hO0 hO1 hO2 hO3 hO4 PQ
  have hlb : b2 < u4.heap.size := by omega
  have WW : Hid (VBlk u4 b1 25 [.int .i64 A, .int .i64 H, .int .i64 S, .int .i64 D, .int .i64 O]) := W4
  clear W4
  have f0 : Hid ((mget (ent (clT ⟨A, H, S, D, O⟩)) 0).getD 0 = c0) := by unfold Hid; rw [← e0.out]; rfl
  have f1 : Hid ((mget (ent (clT ⟨A, H, S, D, O⟩)) 1).getD 0 = c1) := by unfold Hid; rw [← e1.out]; rfl
  have f2 : Hid ((mget (ent (clT ⟨A, H, S, D, O⟩)) 2).getD 0 = c2) := by unfold Hid; rw [← e2.out]; rfl
  have f3 : Hid ((mget (ent (clT ⟨A, H, S, D, O⟩)) 3).getD 0 = c3) := by unfold Hid; rw [← e3.out]; rfl
  have f4 : Hid ((mget (ent (clT ⟨A, H, S, D, O⟩)) 4).getD 0 = c4) := by unfold Hid; rw [← e4.out]; rfl
  have hz : Hid ((c0 == A && c1 == H && c2 == S && c3 == D && c4 == O) = tallyB ⟨A, H, S, D, O⟩) := by
    unfold Hid
    rw [← e0.out, ← e1.out, ← e2.out, ← e3.out, ← e4.out]
    rw [Bool.eq_iff_iff, ← hcl.out]
    simp [clT, and_assoc]
  obtain ⟨z0, q0⟩ := hid_ex (c0 == A)
  obtain ⟨z1, q1⟩ := hid_ex (c1 == H)
  obtain ⟨z2, q2⟩ := hid_ex (c2 == S)
  obtain ⟨z3, q3⟩ := hid_ex (c3 == D)
  obtain ⟨z4, q4⟩ := hid_ex (c4 == O)
  rw [q0.out, q1.out, q2.out, q3.out, q4.out] at hz
  obtain ⟨zn, qn⟩ := hid_ex (!(z0 && z1 && z2 && z3 && z4))
  replace q0 := q0.out
  replace q1 := q1.out
  replace q2 := q2.out
  replace q3 := q3.out
  replace q4 := q4.out

  refine wp_region_held_drew (S := fun w' => w'.cell? ⟨b1, 0, none⟩ = some (.int .i64 A) ∧ w'.cell? ⟨b1, 1, none⟩ = some (.int .i64 H) ∧ w'.cell? ⟨b1, 2, none⟩ = some (.int .i64 S) ∧ w'.cell? ⟨b1, 3, none⟩ = some (.int .i64 D) ∧ w'.cell? ⟨b1, 4, none⟩ = some (.int .i64 O)) (by kernel_rfl) (cellsTl (w := u4.drew) WW.out) (fun hHeld => ?_)
  refine wpAnyH_take (i := 0) (oi := { dst := some 16, op := Op.move (Operand.tmp 3), type := 42, pos := "l15_tally.go:32", after := #[], guard := none }) (v := ?_) rfl (by kernel_rfl) (by kernel_rfl) (by kernel_rfl) (fun _ _ _ h => h) (Or.inl ⟨by rfl, ?_⟩) (by assumption) ?_
  rotate_left 1
  · intro w' hSw; (try dsimp only at hSw); go_simp; (try with_reducible rfl)
  (try simp only [Act.put, List.setIfInBounds_toArray, List.set_cons_zero, List.set_cons_succ])
  refine wpAnyH_take (i := 3) (oi := { dst := some 19, op := Op.load 25 (Operand.tmp 1), type := 25, pos := "l15_tally.go:32", after := #[], guard := none }) (v := ?_) rfl (by kernel_rfl) (by kernel_rfl) (by kernel_rfl) (fun _ _ _ h => h) (Or.inl ⟨by rfl, ?_⟩) (by assumption) ?_
  rotate_left 1
  · intro w' hSw; (try dsimp only at hSw); go_simp; (try with_reducible rfl)
  (try simp only [Act.put, List.setIfInBounds_toArray, List.set_cons_zero, List.set_cons_succ])
  refine wpAnyH_ready (rs := [1]) (by kernel_rfl) (by simp) ?_
  refine AllReadyH.cons (o := { dst := some 17, op := Op.call { callee := Callee.value (Operand.func 33), args := #[Operand.tmp 16], argTypes := #[42] }, type := 42, pos := "l15_tally.go:32", after := #[{ on := 0, ground := Ground.data }], guard := none }) rfl (fun KC hKC => ?_) AllReadyH.nil
  go_simp
  go_at_call 33
  refine (bounded_any ⟨A, H, S, D, O⟩ b2 _ PP.out.drew).mono ?_
  rintro e y1 ⟨b3, rfl, Q1, hC1⟩
  have Y1 := vblk_grow WW.out.drew hC1
  have QQ1 : Hid (MapL y1 b3 (ent (clT ⟨A, H, S, D, O⟩))) := Q1
  clear Q1
  have PP1 : Hid (MapL y1 b2 (ent ⟨A, H, S, D, O⟩)) := PP.out.drew.grow hC1
  have hg1 := hC1.size
  have WW1 : Hid (VBlk y1 b1 25 [.int .i64 A, .int .i64 H, .int .i64 S, .int .i64 D, .int .i64 O]) := Y1
  clear Y1
  replace hB := hB.drew.trans (hC1.mono (show w.heap.size ≤ u4.drew.heap.size from hB.size))
  refine hKC.out _ _ (cellsTl WW1.out) (fun hHeld2 => ?_)
  clear hKC KC hHeld
  have hHeld := hHeld2
  clear hHeld2
  (try simp only [Act.put, List.setIfInBounds_toArray, List.set_cons_zero, List.set_cons_succ])
  refine wpAnyH_ready (rs := [2]) (by kernel_rfl) (by simp) ?_
  refine AllReadyH.cons (o := { dst := some 18, op := Op.call { callee := Callee.value (Operand.func 20), args := #[Operand.tmp 17], argTypes := #[42] }, type := 25, pos := "l15_tally.go:32", after := #[{ on := 1, ground := Ground.data }, { on := 1, ground := Ground.chain }], guard := none }) rfl (fun KC hKC => ?_) AllReadyH.nil
  go_simp
  go_at_call 20
  refine (tally_any _ b3 _ QQ1.out).mono ?_
  rintro e y5 ⟨rfl, hC2⟩
  have PP2 : Hid (MapL y5 b2 (ent ⟨A, H, S, D, O⟩)) := PP1.out.grow hC2
  have hg2 := hC2.size
  have Y2 := vblk_grow WW1.out hC2
  replace hB := hB.trans (hC2.mono hB.size)
  rw [f0.out, f1.out, f2.out, f3.out, f4.out]
  refine hKC.out _ _ (cellsTl Y2) (fun hHeld2 => ?_)
  clear hKC KC hHeld
  have hHeld := hHeld2
  clear hHeld2
  (try simp only [Act.put, List.setIfInBounds_toArray, List.set_cons_zero, List.set_cons_succ])
  refine wpAnyH_take (i := 4) (oi := { dst := some 20, op := Op.binOp BinOp.neq 25 (Operand.tmp 18) (Operand.tmp 19) 25, type := 4, pos := "l15_tally.go:32", after := #[{ on := 2, ground := Ground.data }, { on := 3, ground := Ground.data }], guard := none }) (v := .bool zn) rfl (by kernel_rfl) (by kernel_rfl) (by kernel_rfl) (fun _ _ _ h => h) (Or.inl ⟨by rfl, ?_⟩) (by assumption) ?_
  · intro w' hSw
    (try dsimp only at hSw)
    go_simp
    rw [← qn.out]; cases z0 <;> cases z1 <;> cases z2 <;> cases z3 <;> cases z4 <;> first | rfl | simp
  (try simp only [Act.put, List.setIfInBounds_toArray, List.set_cons_zero, List.set_cons_succ])
  refine wpAnyH_done (by kernel_rfl) ?_ _
  have hzz : Hid (entR ⟨A, H, S, D, O⟩ = if (z0 && z1 && z2 && z3 && z4) = true then ent ⟨A, H, S, D, O⟩ else []) := by unfold Hid entR; rw [← hz.out]
  cases zn with
  | false =>
    have e : (z0 && z1 && z2 && z3 && z4) = true := by simpa using qn.out
    rw [e] at hzz
    clear e
    go_wp2
    go_ret
    exact ⟨b2, rfl, by rw [hzz.out]; exact PP2.out, hB, by omega⟩
  | true =>
    have e : (z0 && z1 && z2 && z3 && z4) = false := by have := qn.out; rwa [Bool.not_eq_true'] at this
    rw [e] at hzz
    clear e
    go_wp2_with (first
      | (refine wpList_clear_m rfl _ 42 rfl und_sums b2 _ rfl PP2.out ?_; intro y6 P6 hO6; have hB6 := hB.trans (hO6.2.2 _ (by omega)))
      | (fail))
    go_ret
    exact ⟨b2, rfl, by rw [hzz.out]; exact P6, hB6, by omega⟩
set_option maxHeartbeats 1000000 in
theorem implTallyOk_any (A H S D O : Int) (y : Bool) (hy : Hid (tallyB ⟨A, H, S, D, O⟩ = y)) (w : World) :
    Calls Tryd.prog 9 #[.agg #[.int .i64 A, .int .i64 H, .int .i64 S, .int .i64 D, .int .i64 O]] w fun e w' => e = .returned (.bool y) ∧ Below w.heap.size w w' := by
  have m0 : Hid True := trivial
  have m1 : Hid True := trivial
  have hl : Hid (decide (0 < (entR ⟨A, H, S, D, O⟩).length) = y) := by
    have := hy.out
    unfold Hid entR
    rw [this]
    cases y <;> simp [ent]
  clear hy
  obtain ⟨n, hn⟩ := hid_ex ((entR ⟨A, H, S, D, O⟩).length)
  rw [hn.out] at hl
  go_enter Tryd.func9, Tryd.ntmps9
  go_wp2_with (first
    | (clear m0; refine wpList_box_v rfl 25 _ rfl [.int .i64 A, .int .i64 H, .int .i64 S, .int .i64 D, .int .i64 O] rfl ?_; intro b1 w1 hb1 hw1 hB1 V1; have hz1 := hB1.size)
    | (clear m1; refine wpList_load_r rfl 25 _ rfl b1 0 [.int .i64 A, .int .i64 H, .int .i64 S, .int .i64 D, .int .i64 O] rfl _ Tryd.underlying25 rfl sizeTl V1.range ?_)
    | (go_at_call 17; refine (sumsOf_any ⟨A, H, S, D, O⟩ _).mono ?_; rintro e w2 ⟨b2, rfl, M2, hB2, -⟩; have hB := hB1.trans (hB2.mono hz1); have MM : Hid (MapL w2 b2 (entR ⟨A, H, S, D, O⟩)) := M2; clear M2)
    | (refine wpList_len_m rfl _ 42 rfl und_sums b2 _ rfl MM.out ?_; rw [hn.out])
    | (fail))
  go_ret
  refine ⟨?_, hB⟩
  rw [← hl.out]
  simp
set_option maxHeartbeats 1000000 in
theorem l15In_any (n : Int) (w : World) : Calls Tryd.prog 23 #[.int .i64 n] w fun e w' => e = .returned (.bool (inT n)) ∧ w' = w := by
  go_enter Tryd.func23, Tryd.ntmps23
  go_wp2_with (first | (go_at_call 35; refine (in_is n 0 1000000000 (inT n) rfl _).mono ?_; rintro e wq ⟨rfl, hq⟩; subst wq) | (fail))
  go_ret
  exact ⟨rfl, rfl⟩
end Go.Proofs.YtldflfmglpojlaaDoor.rg
