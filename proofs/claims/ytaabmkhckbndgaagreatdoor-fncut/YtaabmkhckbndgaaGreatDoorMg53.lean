/- Texts laid together: Lk1 Cg1 LawCu. -/
import Derived.Test.YtaabmkhckbndgaaGreatDoorRcCm
import Derived.Test.YtaabmkhckbndgaaGreatDoorMg13
import Derived.Test.YtaabmkhckbndgaaGreatDoorMg02
import Derived.Test.YtaabmkhckbndgaaGreatDoorMg29
import Derived.Test.YtaabmkhckbndgaaGreatDoorCa1
import Derived.Test.YtaabmkhckbndgaaGreatDoorCt1
import Derived.Test.YtaabmkhckbndgaaGreatDoorMg46
import Derived.Test.YtaabmkhckbndgaaGreatDoorDr6
import Derived.Lib.SmallJoins
import Derived.Deep.Slices
import Derived.Deep.RegionHeld3
import Derived.BigQuiet
import Derived.Deep.DeepCutAuto
import Derived.Deep.CutBlock
import Derived.OwnWalk
/- The laws' likeCmds and likeInts; how long what is read may be. -/
namespace Go.Proofs.YtaabmkhckbndgaaGreatDoor.rg
open Go.ChangeShapes Go.WideShapes Go.ChangeAt Go.RowKit
open Go.Deep Go.Joins
open Go.Proofs.YtaabmkhckbndgaaGreatDoor.ce Go.Proofs.YtaabmkhckbndgaaGreatDoor.ro Go.Proofs.YtaabmkhckbndgaaGreatDoor.draw Go.Proofs.YtaabmkhckbndgaaGreatDoor.cm
set_option linter.unusedVariables false

set_option maxRecDepth 10000 in
set_option maxHeartbeats 1000000 in
theorem likeCm_any (b : List cm.Cm) (v v' : Value) (w : World) (r : Rd encCm w v b) (r' : Rd encCm w v' b) :
    Calls Tryz.prog 22 #[v, v'] w fun e w' => e = .returned (.bool true) ∧ Below w.heap.size w w' := by
  have hl := r.len
  obtain ⟨a, cap, rfl⟩ := r.form
  obtain ⟨a', cap', rfl⟩ := r'.form
  have R : Hid (Rd encCm w (.slice a b.length cap) b) := r
  have R' : Hid (Rd encCm w (.slice a' b.length cap') b) := r'
  clear r r'
  have hne : ((b.length : Int) != (b.length : Int)) = false := by simp
  go_enter Tryz.func22, Tryz.ntmps22
  go_wp2
  go_loopw [5] (fun q wr => ∃ i : Nat, i ≤ b.length ∧ q = .int .i64 i ∧ Below w.heap.size w wr) (fun q _ => b.length - (intOf q).toNat)
  case atStart => exact ⟨0, by omega, rfl, Below.refl _ _⟩
  case round =>
    obtain ⟨i, hi1, rfl, hBr⟩ := hrel
    by_cases hlt : i < b.length
    · have hlt' : (i : Int) < (b.length : Int) := by omega
      obtain ⟨b1, o1, rfl, hb1, rg1⟩ := rdCm_at rfl rfl (R.out.grow hBr) i hlt
      obtain ⟨b2, o2, rfl, hb2, rg2⟩ := rdCm_at rfl rfl (R'.out.grow hBr) i hlt
      obtain ⟨z, hz⟩ := hid_ex (b[i])
      rw [hz.out] at rg1 rg2
      obtain ⟨V, N, F, U, B, C, D, Q⟩ := z
      have eV : (V == V) = true := by simp
      have eF : (F == F) = true := by simp
      have eU : (U == U) = true := by simp
      have eC : (C == C) = true := by simp
      have eD : (D == D) = true := by simp
      have eQ : (Q == Q) = true := by simp
      have eN : (N.toList == N.toList) = true := by simp
      have eB : (B.toList == B.toList) = true := by simp
      obtain ⟨c0, c1, c2, c3, c4, c5, c6, c7⟩ := rngCm rg1
      obtain ⟨d0, d1, d2, d3, d4, d5, d6, d7⟩ := rngCm rg2
      have S1 : wr.drew.cell? ⟨b1, o1 + i * 8, none⟩ = some (.int .i64 V) ∧ wr.drew.cell? ⟨b1, o1 + i * 8 + 1, none⟩ = some (.string N) ∧ wr.drew.cell? ⟨b1, o1 + i * 8 + 2, none⟩ = some (.int .i64 F) ∧ wr.drew.cell? ⟨b1, o1 + i * 8 + 3, none⟩ = some (.int .i64 U) ∧ wr.drew.cell? ⟨b1, o1 + i * 8 + 4, none⟩ = some (.string B) ∧ wr.drew.cell? ⟨b1, o1 + i * 8 + 5, none⟩ = some (.int .i64 C) ∧ wr.drew.cell? ⟨b1, o1 + i * 8 + 6, none⟩ = some (.int .i64 D) ∧ wr.drew.cell? ⟨b1, o1 + i * 8 + 7, none⟩ = some (.bool Q) ∧ wr.drew.cell? ⟨b2, o2 + i * 8, none⟩ = some (.int .i64 V) ∧ wr.drew.cell? ⟨b2, o2 + i * 8 + 1, none⟩ = some (.string N) ∧ wr.drew.cell? ⟨b2, o2 + i * 8 + 2, none⟩ = some (.int .i64 F) ∧ wr.drew.cell? ⟨b2, o2 + i * 8 + 3, none⟩ = some (.int .i64 U) ∧ wr.drew.cell? ⟨b2, o2 + i * 8 + 4, none⟩ = some (.string B) ∧ wr.drew.cell? ⟨b2, o2 + i * 8 + 5, none⟩ = some (.int .i64 C) ∧ wr.drew.cell? ⟨b2, o2 + i * 8 + 6, none⟩ = some (.int .i64 D) ∧ wr.drew.cell? ⟨b2, o2 + i * 8 + 7, none⟩ = some (.bool Q) := ⟨c0, c1, c2, c3, c4, c5, c6, c7, d0, d1, d2, d3, d4, d5, d6, d7⟩
      go_wp2
      go_region_held3 (fun w' => w'.cell? ⟨b1, o1 + i * 8, none⟩ = some (.int .i64 V) ∧ w'.cell? ⟨b1, o1 + i * 8 + 1, none⟩ = some (.string N) ∧ w'.cell? ⟨b1, o1 + i * 8 + 2, none⟩ = some (.int .i64 F) ∧ w'.cell? ⟨b1, o1 + i * 8 + 3, none⟩ = some (.int .i64 U) ∧ w'.cell? ⟨b1, o1 + i * 8 + 4, none⟩ = some (.string B) ∧ w'.cell? ⟨b1, o1 + i * 8 + 5, none⟩ = some (.int .i64 C) ∧ w'.cell? ⟨b1, o1 + i * 8 + 6, none⟩ = some (.int .i64 D) ∧ w'.cell? ⟨b1, o1 + i * 8 + 7, none⟩ = some (.bool Q) ∧ w'.cell? ⟨b2, o2 + i * 8, none⟩ = some (.int .i64 V) ∧ w'.cell? ⟨b2, o2 + i * 8 + 1, none⟩ = some (.string N) ∧ w'.cell? ⟨b2, o2 + i * 8 + 2, none⟩ = some (.int .i64 F) ∧ w'.cell? ⟨b2, o2 + i * 8 + 3, none⟩ = some (.int .i64 U) ∧ w'.cell? ⟨b2, o2 + i * 8 + 4, none⟩ = some (.string B) ∧ w'.cell? ⟨b2, o2 + i * 8 + 5, none⟩ = some (.int .i64 C) ∧ w'.cell? ⟨b2, o2 + i * 8 + 6, none⟩ = some (.int .i64 D) ∧ w'.cell? ⟨b2, o2 + i * 8 + 7, none⟩ = some (.bool Q)) (first | with_reducible assumption | with_reducible exact S1 | (fail)) (fail)
      go_wp2
      go_roundw
      case rel => exact ⟨i + 1, by omega, by go_num, hBr.drew⟩
      case measure => simp [intOf]; omega
    · have hlt' : ¬ (i : Int) < (b.length : Int) := by omega
      go_wp2
      go_ret
      exact ⟨rfl, hBr⟩
set_option maxRecDepth 10000 in
set_option maxHeartbeats 1000000 in
theorem likeN_any (b : List Int) (v v' : Value) (w : World) (r : Rd encN w v b) (r' : Rd encN w v' b) :
    Calls Tryz.prog 23 #[v, v'] w fun e w' => e = .returned (.bool true) ∧ Below w.heap.size w w' := by
  have hl := r.len
  obtain ⟨a, cap, rfl⟩ := r.form
  obtain ⟨a', cap', rfl⟩ := r'.form
  have R : Hid (Rd encN w (.slice a b.length cap) b) := r
  have R' : Hid (Rd encN w (.slice a' b.length cap') b) := r'
  clear r r'
  have hne : ((b.length : Int) != (b.length : Int)) = false := by simp
  go_enter Tryz.func23, Tryz.ntmps23
  go_wp2
  go_loopw [5] (fun q wr => ∃ i : Nat, i ≤ b.length ∧ q = .int .i64 i ∧ Below w.heap.size w wr) (fun q _ => b.length - (intOf q).toNat)
  case atStart => exact ⟨0, by omega, rfl, Below.refl _ _⟩
  case round =>
    obtain ⟨i, hi1, rfl, hBr⟩ := hrel
    by_cases hlt : i < b.length
    · have hlt' : (i : Int) < (b.length : Int) := by omega
      obtain ⟨b1, o1, rfl, hb1, c0⟩ := (R.out.grow hBr).cell i 0 hlt (by decide)
      obtain ⟨b2, o2, rfl, hb2, d0⟩ := (R'.out.grow hBr).cell i 0 hlt (by decide)
      obtain ⟨z, hz⟩ := hid_ex (b[i])
      have c1 : wr.cell? ⟨b1, o1 + i, none⟩ = some (.int .i64 z) := by rw [← hz.out]; simpa [encN] using c0
      have d1 : wr.cell? ⟨b2, o2 + i, none⟩ = some (.int .i64 z) := by rw [← hz.out]; simpa [encN] using d0
      have ez : (z != z) = false := by simp
      clear c0 d0
      have S1 : wr.drew.cell? ⟨b1, o1 + i, none⟩ = some (.int .i64 z) ∧ wr.drew.cell? ⟨b2, o2 + i, none⟩ = some (.int .i64 z) := ⟨c1, d1⟩
      go_wp2
      go_region_held3 (fun w' => w'.cell? ⟨b1, o1 + i, none⟩ = some (.int .i64 z) ∧ w'.cell? ⟨b2, o2 + i, none⟩ = some (.int .i64 z)) (first | with_reducible assumption | with_reducible exact S1 | (fail)) (fail)
      go_wp2
      go_roundw
      case rel => exact ⟨i + 1, by omega, by go_num, hBr.drew⟩
      case measure => simp [intOf]; omega
    · have hlt' : ¬ (i : Int) < (b.length : Int) := by omega
      go_wp2
      go_ret
      exact ⟨rfl, hBr⟩
section
variable {α : Type} {ops : Array Oper} {rest : List Oper} {o : Oper} {a : Act} {w : World} {Q : Exit → Act → World → Prop}
/-- an append that stands behind a guard -/
theorem wpList_want_val (hwt : Region.wanted o (yielded ops a.tmps) = true) {v : Value} {w' : World} (hr : (execOp a.eval o).run Tryz.prog w = .ok (.value v) w') (h : wpList Tryz.prog ops Q rest (a.put o.dst v) w') : wpList Tryz.prog ops Q (o :: rest) a w := by
  refine Go.BigFrame.wpList_want hwt fun K hK => ?_
  unfold Oper.wp
  rw [hr]
  exact hK _ _ h
theorem wpList_append_w {E : Enc α} (I : Info E) (hwt : Region.wanted o (yielded ops a.tmps) = true) (s x : Operand) (t : TypeId) (ho : o.op = .call { callee := .builtin .append, args := #[s, x], argTypes := #[t, t] }) (ht : Tryz.prog.underlying t = some (.slice E.t)) (lo hi : Nat) (v : Value) (xs : List α) (hs : a.eval s = v) (own : Own E w lo hi v xs) (hlo : lo ≤ w.heap.size) (vx : Value) (ys : List α) (hx : a.eval x = vx) (r : Rd E w vx ys) (hlen : xs.length + ys.length ≤ 1073741824)
    (h : ∀ v' w', Own E w' lo w'.heap.size v' (xs ++ ys) → Ty lo E.t w w' → wpList Tryz.prog ops Q rest (a.put o.dst v') w') : wpList Tryz.prog ops Q (o :: rest) a w := by
  obtain ⟨v', w', h1, h2, h3⟩ := run_append_g I w t o.type ht lo hi v xs own hlo vx ys r hlen
  exact wpList_want_val hwt (v := v') (w' := w') (by simp [execOp, ho, resolve, invoke, builtin, hs, hx, h1, Result.andThen]) (h v' w' h2 h3)
theorem wpList_mv (hwt : Region.wanted o (yielded ops a.tmps) = true) (x : Operand) (ho : o.op = .move x) (h : wpList Tryz.prog ops Q rest (a.put o.dst (a.eval x)) w) : wpList Tryz.prog ops Q (o :: rest) a w :=
  wpList_want_val hwt (v := a.eval x) (w' := w) (by simp [execOp, ho]) h
theorem wpList_b0 (hwt : Region.wanted o (yielded ops a.tmps) = true) (t e : TypeId) (ho : o.op = .buildSlice t 0 #[]) (ht : Tryz.prog.underlying t = some (.slice e)) (i : TypeInfo) (hi : Tryz.prog.info? e = some i) (h : ∀ b w', w' = w.alloc (.cells #[] e) → b = w.heap.size → wpList Tryz.prog ops Q rest (a.put o.dst (.slice (some ⟨b, 0, none⟩) 0 0)) w') : wpList Tryz.prog ops Q (o :: rest) a w :=
  wpList_want_val hwt (v := .slice (some ⟨w.heap.size, 0, none⟩) 0 0) (w' := w.alloc (.cells #[] e)) (by
    have hf : Instr.fill (fun j : Nat => some (j * i.size, i.size)) (Array.map (fun _ => (default : Value)) (Array.range 0)) [] = some #[] := by simp [Instr.fill]
    simp [execOp, ho, Instr.buildSlice, run_underlying ht, typeInfo, sizeOf, hi]
    first | rfl | (rw [hf]; simp [newRow]; done) | (rw [hf]; rfl)) (h _ _ rfl rfl)
end
end Go.Proofs.YtaabmkhckbndgaaGreatDoor.rg
/- Contracts: commands one behind the other, both sides. -/
namespace Go.Proofs.YtaabmkhckbndgaaGreatDoor.cm
open Go.ChangeShapes Go.WideShapes Go.ChangeAt Go.RowKit
open Go.Proofs.YtaabmkhckbndgaaGreatDoor.ce Go.Proofs.YtaabmkhckbndgaaGreatDoor.ro Go.Proofs.YtaabmkhckbndgaaGreatDoor.rg
set_option linter.unusedVariables false

theorem cmds_lens (n : Nat) : ∀ t : List UInt8, t.length ≤ n → (cmdsL t).1.length ≤ t.length ∧ (cmdsL t).2.1.length ≤ t.length := by
  induction n with
  | zero =>
    intro t ht
    by_cases hk : (cmdOf t).2.2 = 1
    · rw [cmds_stop hk]; simp
    · have := (cmd_codes (t := t) (c := (cmdOf t).1) (m := (cmdOf t).2.1) (k := (cmdOf t).2.2) rfl).2.2.2 hk
      omega
  | succ n ih =>
    intro t ht
    by_cases hk : (cmdOf t).2.2 = 1
    · rw [cmds_stop hk]; simp
    · have hm := (cmd_codes (t := t) (c := (cmdOf t).1) (m := (cmdOf t).2.1) (k := (cmdOf t).2.2) rfl).2.2.2 hk
      rw [cmds_step hk]
      have h := ih (t.drop (cmdOf t).2.1) (by rw [List.length_drop]; omega)
      rw [List.length_drop] at h
      refine ⟨?_, by show (cmdsL (t.drop (cmdOf t).2.1)).2.1.length + 1 ≤ t.length; omega⟩
      show ((if (cmdOf t).2.2 = 0 then [(cmdOf t).1] else []) ++ (cmdsL (t.drop (cmdOf t).2.1)).1).length ≤ t.length
      rw [List.length_append]
      split <;> simp <;> omega
/-- while commands are read: those so far, their codes, the place -/
structure Cmg (w wr : World) (s : ByteArray) (p : Nat) (vo vc : Value) (G : List Cm) (K : List Int) : Prop where
  oo : Own encCm wr w.heap.size wr.heap.size vo G
  oc : Own encN wr w.heap.size wr.heap.size vc K
  b : Below w.heap.size w wr
  eq : cmdsL (bs s) = (G ++ (cmdsL ((bs s).drop p)).1, K ++ (cmdsL ((bs s).drop p)).2.1, p + (cmdsL ((bs s).drop p)).2.2)
  le : p ≤ s.size
  lg : G.length ≤ p
  lk : K.length ≤ p
theorem Cmg.size {w wr : World} {s : ByteArray} {p : Nat} {vo vc : Value} {G : List Cm} {K : List Int} (h : Cmg w wr s p vo vc G K) : w.heap.size ≤ wr.heap.size := h.b.size
theorem Cmg.grow {w wr w' : World} {s : ByteArray} {p : Nat} {vo vc : Value} {G : List Cm} {K : List Int} (h : Cmg w wr s p vo vc G K) (hb : Below wr.heap.size wr w') : Cmg w w' s p vo vc G K :=
  ⟨(h.oo.grow hb).top, (h.oc.grow hb).top, h.b.trans (hb.mono h.b.size), h.eq, h.le, h.lg, h.lk⟩
theorem Cmg.only {w wr w' : World} {s : ByteArray} {p b : Nat} {vo vc : Value} {G : List Cm} {K : List Int} {wq : World} {vs : List Value} (h : Cmg w wr s p vo vc G K) (hb : Below wr.heap.size wr wq) (hl : wr.heap.size ≤ b) (ho : Only b wq w') : Cmg w w' s p vo vc G K :=
  h.grow (hb.trans (ho.2.2 _ hl))
/-- the rows while one step is done -/
structure Cmr (w wr : World) (vo vc : Value) (G : List Cm) (K : List Int) : Prop where
  oo : Own encCm wr w.heap.size wr.heap.size vo G
  oc : Own encN wr w.heap.size wr.heap.size vc K
  b : Below w.heap.size w wr
theorem Cmr.grow {w wr w' : World} {vo vc : Value} {G : List Cm} {K : List Int} (h : Cmr w wr vo vc G K) (hb : Below wr.heap.size wr w') : Cmr w w' vo vc G K := ⟨(h.oo.grow hb).top, (h.oc.grow hb).top, h.b.trans (hb.mono h.b.size)⟩
theorem Cmr.size {w wr : World} {vo vc : Value} {G : List Cm} {K : List Int} (h : Cmr w wr vo vc G K) : w.heap.size ≤ wr.heap.size := h.b.size
theorem Cmr.appO {w wr w' : World} {vo vc v' : Value} {G G' : List Cm} {K : List Int} (h : Cmr w wr vo vc G K) (hT : Ty w.heap.size encCm.t wr w') (o' : Own encCm w' w.heap.size w'.heap.size v' G') : Cmr w w' v' vc G' K := ⟨o', (hT.own h.oc (by decide)).top, h.b.trans hT.low⟩
theorem Cmr.appC {w wr w' : World} {vo vc v' : Value} {G : List Cm} {K K' : List Int} (h : Cmr w wr vo vc G K) (hT : Ty w.heap.size encN.t wr w') (o' : Own encN w' w.heap.size w'.heap.size v' K') : Cmr w w' vo v' G K' := ⟨(hT.own h.oo (by decide)).top, o', h.b.trans hT.low⟩
/-- one step further -/
theorem cmg_next {w wr w' : World} {s : ByteArray} {p T : Nat} {vo vc vo' vc' : Value} {G : List Cm} {K : List Int} {c : Cm} {k : Int} (h : Cmg w wr s p vo vc G K) (hc : cmdOf ((bs s).drop p) = (c, T, k)) (hk : k ≠ 1) (r : Cmr w w' vo' vc' (G ++ (if k = 0 then [c] else [])) (K ++ [k])) :
    Cmg w w' s (p + T) vo' vc' (G ++ (if k = 0 then [c] else [])) (K ++ [k]) ∧ 1 ≤ T ∧ p + T ≤ s.size := by
  have hm := (cmd_codes hc).2.2.2 hk
  rw [List.length_drop, bs_len] at hm
  refine ⟨⟨r.oo, r.oc, r.b, ?_, by omega, ?_, ?_⟩, hm.1, by omega⟩
  · have e := cmds_step (t := (bs s).drop p) (by rw [hc]; exact hk)
    rw [hc] at e
    rw [h.eq, e, List.drop_drop]
    simp [Nat.add_assoc]
  · have := h.lg
    rw [List.length_append]
    split <;> simp <;> omega
  · have := h.lk
    simp
    omega
/-- what Cmds tells -/
def PostC (s : ByteArray) (w : World) (e : Ending) (w' : World) : Prop := ∃ vo vc, e = .returned (.tuple #[vo, vc, .int .i64 ((cmdsL (bs s)).2.2 : Nat)]) ∧ Own encCm w' w.heap.size w'.heap.size vo (cmdsL (bs s)).1 ∧ Own encN w' w.heap.size w'.heap.size vc (cmdsL (bs s)).2.1 ∧ Below w.heap.size w w'
set_option maxRecDepth 100000 in
set_option maxHeartbeats 2000000 in
theorem specCmds_any (s : ByteArray) (hs : s.size ≤ 1048576) (w : World) :
    Calls Tryz.prog 21 #[.string s] w fun e w' => PostC s w e w' := by
  go_enter Tryz.func21, Tryz.ntmps21
  go_wp2
  go_loopw [5, 6, 7] (fun vo vc vp wr => ∃ (p : Nat) (ao : Option Addr) (no ko : Nat) (ac : Option Addr) (nc kc : Nat) (G : List Cm) (K : List Int), vp = .int .i64 p ∧ vo = .slice ao no ko ∧ vc = .slice ac nc kc ∧ Hid (Cmg w wr s p (.slice ao no ko) (.slice ac nc kc) G K)) (fun _ _ vp _ => s.size - (intOf vp).toNat)
  case atStart => exact ⟨0, _, _, _, _, _, _, [], [], rfl, rfl, rfl, own_zero _ _ _ _ _, own_zero _ _ _ _ _, (by first | exact Below.refl _ _ | exact (bAl _ _).trans ((bAl _ _).mono (by simp))), by simp, Nat.zero_le _, Nat.le_refl _, Nat.le_refl _⟩
  case round =>
    obtain ⟨p, ao, no, ko, ac, nc, kc, G, K, rfl, rfl, rfl, MG⟩ := hrel
    have hp := MG.out.le
    have k1 : Hid True := trivial
    have k2 : Hid True := trivial
    have k3 : Hid True := trivial
    have k4 : Hid True := trivial
    obtain ⟨⟨⟨V, N, F, U, B, C, D, Q⟩, T, k⟩, hC⟩ := hid_ex (cmdOf ((bs s).drop p))
    have hA : Hid (atF s (p : Int) = (⟨V, N, F, U, B, C, D, Q⟩, (p : Int) + (T : Int), k)) := by unfold Hid; rw [atF_nat hp, hC.out]
    have hcd := (cmd_codes hC.out).1
    by_cases h1 : k = 1
    · subst h1
      clear hcd
      go_wp2_with (first | (go_at_call 14; refine (specCmdAt_any s (p : Int) hs _).mono ?_; rintro er u1 ⟨rfl, hB1⟩; rw [hA.out]; dsimp only [csCm]) | (clear k1; refine wpList_alloc_v rfl 25 rfl _ zeroCm ?_; intro b8 u2 hb8 hw8 hB2 V8; have hz2 := hB2.size) | (clear k2; refine wpList_store_v rfl 25 _ _ rfl b8 [.int .i64 V, .string N, .int .i64 F, .int .i64 U, .string B, .int .i64 C, .int .i64 D, .bool Q] rfl rfl sizeCm V8 rfl (oneCs V N F U B C D Q) ?_; intro u3 hO3 V9; have hz1 := hB1.size; have MR : Hid (Cmr w u3 (.slice ao no ko) (.slice ac nc kc) G K) := (⟨MG.out.oo, MG.out.oc, MG.out.b⟩ : Cmr w wr (.slice ao no ko) (.slice ac nc kc) G K).grow ((hB1.trans (hB2.mono hz1)).trans (hO3.2.2 _ (by omega)))) | (fail))
      go_ret3
      have e := MG.out.eq
      rw [cmds_stop (t := (bs s).drop p) (by rw [hC.out])] at e
      simp only [List.append_nil, Nat.add_zero] at e
      refine ⟨.slice ao no ko, .slice ac nc kc, ?_, ?_, ?_, MR.out.b⟩
      · rw [e]; rfl
      · rw [e]; exact MR.out.oo
      · rw [e]; exact MR.out.oc
    · by_cases h0 : k = 0
      · subst h0
        clear hcd h1
        go_wp2_with (first | (go_at_call 14; refine (specCmdAt_any s (p : Int) hs _).mono ?_; rintro er u1 ⟨rfl, hB1⟩; rw [hA.out]; dsimp only [csCm]) | (clear k1; refine wpList_alloc_v rfl 25 rfl _ zeroCm ?_; intro b8 u2 hb8 hw8 hB2 V8; have hz2 := hB2.size) | (clear k2; refine wpList_store_v rfl 25 _ _ rfl b8 [.int .i64 V, .string N, .int .i64 F, .int .i64 U, .string B, .int .i64 C, .int .i64 D, .bool Q] rfl rfl sizeCm V8 rfl (oneCs V N F U B C D Q) ?_; intro u3 hO3 V9; have hz1 := hB1.size; have MR : Hid (Cmr w u3 (.slice ao no ko) (.slice ac nc kc) G K) := (⟨MG.out.oo, MG.out.oc, MG.out.b⟩ : Cmr w wr (.slice ao no ko) (.slice ac nc kc) G K).grow ((hB1.trans (hB2.mono hz1)).trans (hO3.2.2 _ (by omega)))) | (clear k3; refine wpList_load_r rfl 25 _ rfl b8 0 [.int .i64 V, .string N, .int .i64 F, .int .i64 U, .string B, .int .i64 C, .int .i64 D, .bool Q] rfl _ Tryz.underlying25 rfl sizeCm V9.range ?_) | (clear k4; at_builtin; refine wpList_append_g infoCm rfl _ _ 35 rfl Tryz.underlying35 w.heap.size _ _ G rfl (MR.out.grow (bAl _ _)).oo (by have := MR.out.size; simp; omega) _ [⟨V, N, F, U, B, C, D, Q⟩] rfl (rd_new (E := encCm) _ ⟨V, N, F, U, B, C, D, Q⟩ #[.int .i64 V, .string N, .int .i64 F, .int .i64 U, .string B, .int .i64 C, .int .i64 D, .bool Q] rfl) (by have := MG.out.lg; have := MG.out.le; simp; omega) ?_; intro v4 u4 o4 hT4; have MR4 : Hid (Cmr w u4 v4 (.slice ac nc kc) (G ++ [⟨V, N, F, U, B, C, D, Q⟩]) K) := (MR.out.grow (bAl _ _)).appO hT4 o4; obtain ⟨a4, n4, c4, rfl⟩ := o4.slice) | (at_builtin; refine wpList_append_g infoN rfl _ _ 36 rfl Tryz.underlying36 w.heap.size _ _ K rfl (MR4.out.grow (bAl _ _)).oc (by have := MR4.out.size; simp; omega) _ [0] rfl (rd_new (E := encN) _ 0 #[.int .i64 0] rfl) (by have := MG.out.lk; have := MG.out.le; simp; omega) ?_; intro v5 u5 o5 hT5; have MR5 := (MR4.out.grow (bAl _ _)).appC hT5 o5; obtain ⟨a5, n5, c5, rfl⟩ := o5.slice) | (fail))
        obtain ⟨MN, hT1, hT2⟩ := cmg_next MG.out hC.out (by decide) (by simpa using MR5)
        go_roundw
        case rel => exact ⟨p + T, _, _, _, _, _, _, _, _, by push_cast; rfl, rfl, rfl, MN⟩
        case measure => simp [intOf]; omega
      · have e1 : (k == 1) = false := by simpa using h1
        have e0 : (k == 0) = false := by simpa using h0
        have HK : Hid (k ≠ 1 ∧ k ≠ 0) := ⟨h1, h0⟩
        clear hcd h1 h0
        go_wp2_with (first | (go_at_call 14; refine (specCmdAt_any s (p : Int) hs _).mono ?_; rintro er u1 ⟨rfl, hB1⟩; rw [hA.out]; dsimp only [csCm]) | (clear k1; refine wpList_alloc_v rfl 25 rfl _ zeroCm ?_; intro b8 u2 hb8 hw8 hB2 V8; have hz2 := hB2.size) | (clear k2; refine wpList_store_v rfl 25 _ _ rfl b8 [.int .i64 V, .string N, .int .i64 F, .int .i64 U, .string B, .int .i64 C, .int .i64 D, .bool Q] rfl rfl sizeCm V8 rfl (oneCs V N F U B C D Q) ?_; intro u3 hO3 V9; have hz1 := hB1.size; have MR : Hid (Cmr w u3 (.slice ao no ko) (.slice ac nc kc) G K) := (⟨MG.out.oo, MG.out.oc, MG.out.b⟩ : Cmr w wr (.slice ao no ko) (.slice ac nc kc) G K).grow ((hB1.trans (hB2.mono hz1)).trans (hO3.2.2 _ (by omega)))) | (at_builtin; refine wpList_append_g infoN rfl _ _ 36 rfl Tryz.underlying36 w.heap.size _ _ K rfl (MR.out.grow (bAl _ _)).oc (by have := MR.out.size; simp; omega) _ [k] rfl (rd_new (E := encN) _ k #[.int .i64 k] rfl) (by have := MG.out.lk; have := MG.out.le; simp; omega) ?_; intro v5 u5 o5 hT5; have MR5 := (MR.out.grow (bAl _ _)).appC hT5 o5; obtain ⟨a5, n5, c5, rfl⟩ := o5.slice) | (fail))
        obtain ⟨MN, hT1, hT2⟩ := cmg_next MG.out hC.out HK.out.1 (by rw [if_neg HK.out.2, List.append_nil]; exact MR5)
        go_roundw
        case rel => exact ⟨p + T, _, _, _, _, _, _, _, _, by push_cast; rfl, rfl, rfl, MN⟩
        case measure => simp [intOf]; omega
set_option maxRecDepth 100000 in
set_option maxHeartbeats 2000000 in
theorem implCmds_any (s : ByteArray) (hs : s.size ≤ 1048576) (w : World) (en : EnvR w) :
    Calls Tryz.prog 20 #[.string s] w fun e w' => PostC s w e w' := by
  have EN : Hid (EnvR w) := en
  clear en
  go_enter Tryz.func20, Tryz.ntmps20
  go_wp2
  go_loopw [5, 6, 7] (fun vo vc vp wr => ∃ (p : Nat) (ao : Option Addr) (no ko : Nat) (ac : Option Addr) (nc kc : Nat) (G : List Cm) (K : List Int), vp = .int .i64 p ∧ vo = .slice ao no ko ∧ vc = .slice ac nc kc ∧ Hid (Cmg w wr s p (.slice ao no ko) (.slice ac nc kc) G K)) (fun _ _ vp _ => s.size - (intOf vp).toNat)
  case atStart => exact ⟨0, _, _, _, _, _, _, [], [], rfl, rfl, rfl, own_zero _ _ _ _ _, own_zero _ _ _ _ _, (by first | exact Below.refl _ _ | exact (bAl _ _).trans ((bAl _ _).mono (by simp))), by simp, Nat.zero_le _, Nat.le_refl _, Nat.le_refl _⟩
  case round =>
    obtain ⟨p, ao, no, ko, ac, nc, kc, G, K, rfl, rfl, rfl, MG⟩ := hrel
    have hp := MG.out.le
    have k1 : Hid True := trivial
    have k2 : Hid True := trivial
    have k3 : Hid True := trivial
    have k4 : Hid True := trivial
    obtain ⟨⟨⟨V, N, F, U, B, C, D, Q⟩, T, k⟩, hC⟩ := hid_ex (cmdOf ((bs s).drop p))
    have hA : Hid (atF s (p : Int) = (⟨V, N, F, U, B, C, D, Q⟩, (p : Int) + (T : Int), k)) := by unfold Hid; rw [atF_nat hp, hC.out]
    have hcd := (cmd_codes hC.out).1
    by_cases h1 : k = 1
    · subst h1
      clear hcd
      go_wp2_with (first | (go_at_call 13; refine (implCmdAt_any s (p : Int) hs _ (EN.out.grow MG.out.b)).mono ?_; rintro er u1 ⟨rfl, hB1⟩; rw [hA.out]; dsimp only [csCm]) | (clear k1; refine wpList_alloc_v rfl 25 rfl _ zeroCm ?_; intro b8 u2 hb8 hw8 hB2 V8; have hz2 := hB2.size) | (clear k2; refine wpList_store_v rfl 25 _ _ rfl b8 [.int .i64 V, .string N, .int .i64 F, .int .i64 U, .string B, .int .i64 C, .int .i64 D, .bool Q] rfl rfl sizeCm V8 rfl (oneCs V N F U B C D Q) ?_; intro u3 hO3 V9; have hz1 := hB1.size; have MR : Hid (Cmr w u3 (.slice ao no ko) (.slice ac nc kc) G K) := (⟨MG.out.oo, MG.out.oc, MG.out.b⟩ : Cmr w wr (.slice ao no ko) (.slice ac nc kc) G K).grow ((hB1.trans (hB2.mono hz1)).trans (hO3.2.2 _ (by omega)))) | (fail))
      go_ret3
      have e := MG.out.eq
      rw [cmds_stop (t := (bs s).drop p) (by rw [hC.out])] at e
      simp only [List.append_nil, Nat.add_zero] at e
      refine ⟨.slice ao no ko, .slice ac nc kc, ?_, ?_, ?_, MR.out.b⟩
      · rw [e]; rfl
      · rw [e]; exact MR.out.oo
      · rw [e]; exact MR.out.oc
    · by_cases h0 : k = 0
      · subst h0
        clear hcd h1
        go_wp2_with (first | (go_at_call 13; refine (implCmdAt_any s (p : Int) hs _ (EN.out.grow MG.out.b)).mono ?_; rintro er u1 ⟨rfl, hB1⟩; rw [hA.out]; dsimp only [csCm]) | (clear k1; refine wpList_alloc_v rfl 25 rfl _ zeroCm ?_; intro b8 u2 hb8 hw8 hB2 V8; have hz2 := hB2.size) | (clear k2; refine wpList_store_v rfl 25 _ _ rfl b8 [.int .i64 V, .string N, .int .i64 F, .int .i64 U, .string B, .int .i64 C, .int .i64 D, .bool Q] rfl rfl sizeCm V8 rfl (oneCs V N F U B C D Q) ?_; intro u3 hO3 V9; have hz1 := hB1.size; have MR : Hid (Cmr w u3 (.slice ao no ko) (.slice ac nc kc) G K) := (⟨MG.out.oo, MG.out.oc, MG.out.b⟩ : Cmr w wr (.slice ao no ko) (.slice ac nc kc) G K).grow ((hB1.trans (hB2.mono hz1)).trans (hO3.2.2 _ (by omega)))) | (clear k3; refine wpList_load_r rfl 25 _ rfl b8 0 [.int .i64 V, .string N, .int .i64 F, .int .i64 U, .string B, .int .i64 C, .int .i64 D, .bool Q] rfl _ Tryz.underlying25 rfl sizeCm V9.range ?_) | (clear k4; at_builtin; refine wpList_append_g infoCm rfl _ _ 35 rfl Tryz.underlying35 w.heap.size _ _ G rfl (MR.out.grow (bAl _ _)).oo (by have := MR.out.size; simp; omega) _ [⟨V, N, F, U, B, C, D, Q⟩] rfl (rd_new (E := encCm) _ ⟨V, N, F, U, B, C, D, Q⟩ #[.int .i64 V, .string N, .int .i64 F, .int .i64 U, .string B, .int .i64 C, .int .i64 D, .bool Q] rfl) (by have := MG.out.lg; have := MG.out.le; simp; omega) ?_; intro v4 u4 o4 hT4; have MR4 : Hid (Cmr w u4 v4 (.slice ac nc kc) (G ++ [⟨V, N, F, U, B, C, D, Q⟩]) K) := (MR.out.grow (bAl _ _)).appO hT4 o4; obtain ⟨a4, n4, c4, rfl⟩ := o4.slice) | (at_builtin; refine wpList_append_g infoN rfl _ _ 36 rfl Tryz.underlying36 w.heap.size _ _ K rfl (MR4.out.grow (bAl _ _)).oc (by have := MR4.out.size; simp; omega) _ [0] rfl (rd_new (E := encN) _ 0 #[.int .i64 0] rfl) (by have := MG.out.lk; have := MG.out.le; simp; omega) ?_; intro v5 u5 o5 hT5; have MR5 := (MR4.out.grow (bAl _ _)).appC hT5 o5; obtain ⟨a5, n5, c5, rfl⟩ := o5.slice) | (fail))
        obtain ⟨MN, hT1, hT2⟩ := cmg_next MG.out hC.out (by decide) (by simpa using MR5)
        go_roundw
        case rel => exact ⟨p + T, _, _, _, _, _, _, _, _, by push_cast; rfl, rfl, rfl, MN⟩
        case measure => simp [intOf]; omega
      · have e1 : (k == 1) = false := by simpa using h1
        have e0 : (k == 0) = false := by simpa using h0
        have HK : Hid (k ≠ 1 ∧ k ≠ 0) := ⟨h1, h0⟩
        clear hcd h1 h0
        go_wp2_with (first | (go_at_call 13; refine (implCmdAt_any s (p : Int) hs _ (EN.out.grow MG.out.b)).mono ?_; rintro er u1 ⟨rfl, hB1⟩; rw [hA.out]; dsimp only [csCm]) | (clear k1; refine wpList_alloc_v rfl 25 rfl _ zeroCm ?_; intro b8 u2 hb8 hw8 hB2 V8; have hz2 := hB2.size) | (clear k2; refine wpList_store_v rfl 25 _ _ rfl b8 [.int .i64 V, .string N, .int .i64 F, .int .i64 U, .string B, .int .i64 C, .int .i64 D, .bool Q] rfl rfl sizeCm V8 rfl (oneCs V N F U B C D Q) ?_; intro u3 hO3 V9; have hz1 := hB1.size; have MR : Hid (Cmr w u3 (.slice ao no ko) (.slice ac nc kc) G K) := (⟨MG.out.oo, MG.out.oc, MG.out.b⟩ : Cmr w wr (.slice ao no ko) (.slice ac nc kc) G K).grow ((hB1.trans (hB2.mono hz1)).trans (hO3.2.2 _ (by omega)))) | (at_builtin; refine wpList_append_g infoN rfl _ _ 36 rfl Tryz.underlying36 w.heap.size _ _ K rfl (MR.out.grow (bAl _ _)).oc (by have := MR.out.size; simp; omega) _ [k] rfl (rd_new (E := encN) _ k #[.int .i64 k] rfl) (by have := MG.out.lk; have := MG.out.le; simp; omega) ?_; intro v5 u5 o5 hT5; have MR5 := (MR.out.grow (bAl _ _)).appC hT5 o5; obtain ⟨a5, n5, c5, rfl⟩ := o5.slice) | (fail))
        obtain ⟨MN, hT1, hT2⟩ := cmg_next MG.out hC.out HK.out.1 (by rw [if_neg HK.out.2, List.append_nil]; exact MR5)
        go_roundw
        case rel => exact ⟨p + T, _, _, _, _, _, _, _, _, by push_cast; rfl, rfl, rfl, MN⟩
        case measure => simp [intOf]; omega
end Go.Proofs.YtaabmkhckbndgaaGreatDoor.cm
/- FnCut's walk. -/
namespace Go.Proofs.YtaabmkhckbndgaaGreatDoor.lawCu
open Go.ChangeShapes Go.WideShapes Go.ChangeAt Go.RowKit
open Go.Deep Go.Joins
open Go.Proofs.YtaabmkhckbndgaaGreatDoor.ce Go.Proofs.YtaabmkhckbndgaaGreatDoor.ro Go.Proofs.YtaabmkhckbndgaaGreatDoor.rg Go.Proofs.YtaabmkhckbndgaaGreatDoor.draw Go.Proofs.YtaabmkhckbndgaaGreatDoor.cm
set_option linter.unusedVariables false

set_option maxRecDepth 100000 in
set_option maxHeartbeats 16000000 in
theorem walk (a0 : Option Addr) (len cap : Nat) (w : World) (en : EnvR w) (hlen : len ≤ 4096) (hcode0 : CodeAt w a0 len) :
    Calls Tryz.prog 4 #[.slice a0 len cap] w fun e w' => e = .returned (.bool true) ∧ Below w.heap.size w w' := by
  have HC : Hid (CodeAt w a0 len) := hcode0
  clear hcode0
  have EN : Hid (EnvR w) := en
  clear en
  have hl' : ¬ (4096 : Int) < (len : Int) := by omega
  have hB : Below w.heap.size w w := Below.refl _ _
  have hzw := hB.size
  go_enter Tryz.func4, Tryz.ntmps4
  
  have mk1 : Hid True := trivial
  have mk2 : Hid True := trivial
  have mk3 : Hid True := trivial
  have mk4 : Hid True := trivial
  have mk5 : Hid True := trivial
  have mk6 : Hid True := trivial
  have mk7 : Hid True := trivial
  have mk8 : Hid True := trivial
  have mk9 : Hid True := trivial
  go_upto_block 1 with (first | (clear mk1; go_at_call 9; go_in) | (clear mk2; go_at_call 19; refine (drawCmds_any _ _ _ _ HC.out).mono ?_; rintro er w1 ⟨s, rfl, hB1, hs⟩; have hz1 : w.heap.size ≤ w1.heap.size := hB1.size; replace hB := hB.trans (hB1.mono (by omega)); replace hzw := hB.size; obtain ⟨⟨L, K, n⟩, hL⟩ := hid_ex (cmdsL (bs s)); have hln := cmds_lens (bs s).length (bs s) (Nat.le_refl _); have hgd := cmds_good (bs s).length (bs s) (Nat.le_refl _); have hnl := cmds_take (bs s); rw [hL.out, bs_len] at hln hnl; rw [hL.out] at hgd; dsimp only at hln hgd hnl; obtain ⟨hl1, hl2⟩ := hln) | (clear mk3; go_at_call 20; refine (implCmds_any s (by omega) _ (EN.out.grow hB)).mono ?_; rintro er w2 ⟨ua, va, rfl, oa, na, hB2⟩; have hz2 : w1.heap.size ≤ w2.heap.size := hB2.size; replace hB := hB.trans (hB2.mono (by omega)); replace hzw := hB.size; rw [hL.out] at oa na; (try rw [hL.out]); dsimp only at oa na ⊢; obtain ⟨Aa, Na, Ka, rfl⟩ := oa.slice; obtain ⟨Ba, Ma, Ja, rfl⟩ := na.slice) | (clear mk4; go_at_call 21; refine (specCmds_any s (by omega) _).mono ?_; rintro er w3 ⟨ub, vb, rfl, ob, nb, hB3⟩; have hz3 : w2.heap.size ≤ w3.heap.size := hB3.size; replace oa := oa.grow hB3; replace na := na.grow hB3; replace hB := hB.trans (hB3.mono (by omega)); replace hzw := hB.size; rw [hL.out] at ob nb; (try rw [hL.out]); dsimp only at ob nb ⊢; obtain ⟨Ab, Nb, Kb, rfl⟩ := ob.slice; obtain ⟨Bb, Mb, Jb, rfl⟩ := nb.slice) | (clear mk5; go_at_call 22; refine (likeCm_any L _ _ _ oa.rd ob.rd).mono ?_; rintro er w4 ⟨rfl, hB4⟩; have hz4 : w3.heap.size ≤ w4.heap.size := hB4.size; replace oa := oa.grow hB4; replace na := na.grow hB4; replace ob := ob.grow hB4; replace nb := nb.grow hB4; replace hB := hB.trans (hB4.mono (by omega)); replace hzw := hB.size) | (clear mk6; go_at_call 23; refine (likeN_any K _ _ _ na.rd nb.rd).mono ?_; rintro er w5 ⟨rfl, hB5⟩; have hz5 : w4.heap.size ≤ w5.heap.size := hB5.size; replace oa := oa.grow hB5; replace na := na.grow hB5; replace ob := ob.grow hB5; replace nb := nb.grow hB5; replace hB := hB.trans (hB5.mono (by omega)); replace hzw := hB.size) | (clear mk7; go_at_call 18; refine (pick_any _ _ _ _ (by omega) _ (codei_below HC.out hB) hlen).mono ?_; rintro er wq ⟨r, rfl, hr0, hr1, hq⟩; subst wq; obtain ⟨k, hk⟩ : ∃ k : Nat, r = k := ⟨r.toNat, by omega⟩; subst hk; have hks : k ≤ s.size := (by omega); have hki : (k : Int) ≤ (s.size : Int) := (by omega); have hct := cmds_cut' (bs s) (k := k) (by rw [bs_len]; exact hks); obtain ⟨P, hP⟩ := hid_ex (s.extract 0 k); have eP : s.extract 0 k = P := hP.out; have hPb : (bs s).take k = bs P := (by rw [← hP.out, bs_extract, List.drop_zero, Nat.sub_zero]); have hPs : P.size ≤ 1048576 := (by rw [← hP.out, ByteArray.size_extract]; omega); rw [hPb, hL.out] at hct; have hlc := cmds_lens (bs P).length (bs P) (Nat.le_refl _); have huc := cmds_take (bs P); obtain ⟨⟨L1, K1, n1⟩, hL1⟩ := hid_ex (cmdsL (bs P)); rw [hL1.out] at hct hlc huc; dsimp only at hct hlc huc; have hPl : (bs P).length ≤ k := (by rw [← hPb, List.length_take]; omega); have hn1 : n1 ≤ s.size := (by omega); have hn1i : (n1 : Int) ≤ (s.size : Int) := (by omega); obtain ⟨R, hR⟩ := hid_ex (s.extract n1 s.size); have eR : s.extract n1 s.size = R := hR.out; have hRb : (bs s).drop n1 = bs R := (by rw [← hR.out, bs_extract, List.take_of_length_le (by rw [List.length_drop, bs_len]; exact Nat.le_refl _)]); have hRs : R.size ≤ 1048576 := (by rw [← hR.out, ByteArray.size_extract]; omega); rw [hRb] at hct; have hlr := cmds_lens (bs R).length (bs R) (Nat.le_refl _); have hRl : (bs R).length ≤ 1300 := (by rw [← hRb, List.length_drop, bs_len]; omega); obtain ⟨⟨L2, K2, n2⟩, hL2⟩ := hid_ex (cmdsL (bs R)); rw [hL2.out] at hct hlr; dsimp only at hct hlr; obtain ⟨ht1, ht2, ht3⟩ := hct) | (clear mk8; go_at_call 20; refine (implCmds_any P hPs _ (EN.out.grow hB)).mono ?_; rintro er w6 ⟨uc, vc, rfl, oc, nc, hB6⟩; have hz6 : w5.heap.size ≤ w6.heap.size := hB6.size; replace oa := oa.grow hB6; replace na := na.grow hB6; replace ob := ob.grow hB6; replace nb := nb.grow hB6; replace hB := hB.trans (hB6.mono (by omega)); replace hzw := hB.size; rw [hL1.out] at oc nc; (try rw [hL1.out]); dsimp only at oc nc ⊢; obtain ⟨Ac, Nc, Kc, rfl⟩ := oc.slice; obtain ⟨Bc, Mc, Jc, rfl⟩ := nc.slice) | (clear mk9; go_at_call 20; refine (implCmds_any R hRs _ (EN.out.grow hB)).mono ?_; rintro er w7 ⟨ud, vd, rfl, od, nd, hB7⟩; have hz7 : w6.heap.size ≤ w7.heap.size := hB7.size; replace oa := oa.grow hB7; replace na := na.grow hB7; replace ob := ob.grow hB7; replace nb := nb.grow hB7; replace oc := oc.grow hB7; replace nc := nc.grow hB7; replace hB := hB.trans (hB7.mono (by omega)); replace hzw := hB.size; rw [hL2.out] at od nd; (try rw [hL2.out]); dsimp only at od nd ⊢; obtain ⟨Ad, Nd, Kd, rfl⟩ := od.slice; obtain ⟨Bd, Md, Jd, rfl⟩ := nd.slice) | (fail))
  have hMa : Hid (Ma = K.length) := na.rd.cap.1
  have hNa : Hid (Na = L.length) := oa.rd.cap.1
  have hMa2 : Ma ≤ 1300 := by have := hMa.out; omega
  have hK0 : Hid (K.count 0 = L.length) := hgd
  have NA : Hid (Rd encN w7 (.slice Ba Ma Ja) K) := na.rd
  go_loop [17, 18] (fun s17 s18 => ∃ gd i : Nat, s17 = .int .i64 gd ∧ s18 = .int .i64 i ∧ i ≤ Ma ∧ gd ≤ i ∧ Hid (gd = (K.take i).count 0)) (fun _ s18 => Ma - (intOf s18).toNat)
  case atStart => exact ⟨0, 0, rfl, rfl, by omega, by omega, by unfold Hid; simp⟩
  case round =>
    obtain ⟨gd, i, rfl, rfl, hi, hgi, hcn⟩ := hrel
    by_cases hlt : i < Ma
    · have hlt' : (i : Int) < (Ma : Int) := by omega
      have hiK : i < K.length := by have := hMa.out; omega
      obtain ⟨bk, off, eA, hbk, d0⟩ := NA.out.cell i 0 hiK (by decide)
      have ec : (K.take (i + 1)).count 0 = (K.take i).count 0 + (if K[i] = 0 then 1 else 0) := by
        rw [List.take_succ_eq_append_getElem hiK, List.count_append, List.count_cons, List.count_nil]
        by_cases h : K[i] = 0 <;> simp [h]
      obtain ⟨c, hc⟩ := hid_ex (K[i])
      have d1 : w7.cell? ⟨bk, off + i, none⟩ = some (.int .i64 c) := by rw [← hc.out]; simpa [encN] using d0
      rw [hc.out] at ec
      subst eA
      have EC : Hid ((K.take (i + 1)).count 0 = (K.take i).count 0 + (if c = 0 then 1 else 0)) := ec
      clear d0 ec
      by_cases hc0 : c = 0
      · subst hc0
        go_wp2
        go_round
        case measure => simp [intOf]; omega
        case rel => exact ⟨gd + 1, i + 1, by go_num, by go_num, by omega, by omega, by unfold Hid; rw [EC.out, if_pos rfl, ← hcn.out]⟩
      · have hcf : (c == 0) = false := by simpa using hc0
        go_wp2
        go_round
        case measure => simp [intOf]; omega
        case rel => exact ⟨gd, i + 1, rfl, by go_num, by omega, by omega, by unfold Hid; rw [EC.out, if_neg hc0, ← hcn.out, Nat.add_zero]⟩
    · have hlt' : ¬ (i : Int) < (Ma : Int) := by omega
      have hgN : Hid (gd = Na) := by
        unfold Hid
        have h1 := hcn.out
        rw [List.take_of_length_le (by have := hMa.out; omega)] at h1
        rw [h1, hK0.out, hNa.out]
      have egd : ((gd : Int) == (Na : Int)) = true := by rw [hgN.out]; simp
      have ew : IntKind.i64.wrap ((n1 : Int) + (n2 : Int)) = (n : Int) := by rw [IntKind.wrap_i64]; omega
      have enn : ((n : Int) == (n : Int)) = true := by simp
      have hll : L1.length ≤ 2000 ∧ L2.length ≤ 2000 ∧ K1.length ≤ 2000 ∧ K2.length ≤ 2000 := by
        have h1 := hlc.1; have h2 := hlc.2; have h3 := hlr.1; have h4 := hlr.2
        omega
      have HT1 : Hid (L1 ++ L2 = L) := ht1
      have HT2 : Hid (K1 ++ K2 = K) := ht2
      have m1 : Hid True := trivial
      have m2 : Hid True := trivial
      have m3 : Hid True := trivial
      have m4 : Hid True := trivial
      clear ht1 ht2 hgd
      go_wp2_with (first | (clear m1; at_builtin; refine wpList_append_g infoCm rfl _ _ 35 rfl Tryz.underlying35 w7.heap.size _ _ [] rfl (own_zero _ _ _ 0 _) (by simp) _ L1 rfl (oc.rd.grow ((Below.refl _ _).alloc (Nat.le_refl _) _)) (by simp only [List.length_nil]; omega) ?_; intro v1 x1 p1 hT1; rw [List.nil_append] at p1; have hC1 : Below w7.heap.size w7 x1 := ((Below.refl _ _).alloc (Nat.le_refl _) _).trans hT1.low; obtain ⟨A1, N1, k1, rfl⟩ := p1.slice) | (clear m2; at_builtin; refine wpList_append_g infoCm rfl _ _ 35 rfl Tryz.underlying35 w7.heap.size _ _ L1 rfl p1 hC1.size _ L2 rfl (od.rd.grow hC1) (by omega) ?_; intro v2 x2 p2 hT2; rw [HT1.out] at p2; have hC2 := hC1.trans hT2.low; obtain ⟨A2, N2, k2, rfl⟩ := p2.slice) | (go_at_call 22; refine (likeCm_any L _ _ _ p2.rd (oa.rd.grow hC2)).mono ?_; rintro er x3 ⟨rfl, hX3⟩; have hC3 := hC2.trans (hX3.mono hC2.size); obtain ⟨iN, hiN⟩ : ∃ i, Tryz.prog.info? 2 = some i := (by obtain ⟨i, z, h, -⟩ := infoN.ex; exact ⟨i, h⟩); clear m3; dsimp only; apply_assumption; refine wpList_mv (by rfl) _ rfl ?_; refine wpList_b0 (by rfl) 36 2 rfl Tryz.underlying36 iN hiN ?_; intro bz x0 hx0 hbz; refine wpList_mv (by rfl) _ rfl ?_; have hC35 : Below w7.heap.size w7 x0 := (by rw [hx0]; exact hC3.alloc hC3.size _); have hz3 : x3.heap.size ≤ x0.heap.size := (by rw [hx0]; exact ((Below.refl x3.heap.size x3).alloc (Nat.le_refl _) _).size); refine wpList_append_w infoN (by rfl) _ _ 36 rfl Tryz.underlying36 x3.heap.size 0 _ [] rfl (own_zero encN _ _ 0 (some ⟨bz, 0, none⟩)) hz3 _ K1 rfl (nc.rd.grow hC35) (by show 0 + K1.length ≤ _; omega) ?_; intro v4 x4 p4 hT4; rw [List.nil_append] at p4; have hC4 : Below w7.heap.size w7 x4 := hC35.trans (hT4.low.mono hC3.size); have hz4 : x3.heap.size ≤ x4.heap.size := Nat.le_trans hz3 hT4.low.size; obtain ⟨A4, N4, k4, rfl⟩ := p4.slice; refine wpList_mv (by rfl) _ rfl ?_; refine wpList_append_w infoN (by rfl) _ _ 36 rfl Tryz.underlying36 x3.heap.size _ _ K1 rfl p4 hz4 _ K2 rfl (nd.rd.grow hC4) (by omega) ?_; intro v5 x5 p5 hT5; rw [HT2.out] at p5; have hC5 := hC4.trans (hT5.low.mono hC3.size); obtain ⟨A5, N5, k5, rfl⟩ := p5.slice; simp only [Act.put, List.setIfInBounds_toArray, List.set_cons_zero, List.set_cons_succ]) | (go_at_call 23; refine (likeN_any K _ _ _ p5.rd (na.rd.grow hC5)).mono ?_; rintro er x6 ⟨rfl, hX6⟩; have hC6 := hC5.trans (hX6.mono hC5.size)) | (fail))
      go_ret
      exact ⟨rfl, hB.trans (hC6.mono hzw)⟩
end Go.Proofs.YtaabmkhckbndgaaGreatDoor.lawCu
