/- The program's waitingBy: those that are over, as a heap. -/
import Derived.Test.YtmnjmghlkiljhaaWh7
namespace Go.Proofs.Ytmnjmghlkiljhaa.rg
open Go.ChangeShapes Go.WideShapes Go.ChangeAt Go.RowKit
open Go.Deep Go.Joins
open Go.Proofs.Ytmnjmghlkiljhaa.ce Go.Proofs.Ytmnjmghlkiljhaa.ro
set_option linter.unusedVariables false
set_option linter.unusedSimpArgs false

/-- those that wait -/
def waitL (b : List It) (now : Int) : List It := if bookB b = true then b.filter (fun i => overB i now) else []
theorem zeroWt (w : World) : (zeroValue 102).run Try.prog w = .ok (.slice none 0 0) w := Try.zeroValue102 w
theorem wpList_alloc_q {ops : Array Oper} {rest : List Oper} {o : Oper} {a : Act} {w : World} {Q : Exit → Act → World → Prop} (hgd : o.guard = none) (ho : o.op = .alloc 102)
    (h : ∀ (b : Nat) (w' : World), w.heap.size ≤ b → b < w'.heap.size → Below w.heap.size w w' → VBlk w' b 102 [.slice none 0 0] → wpList Try.prog ops Q rest (a.put o.dst (.pointer (some ⟨b, 0, none⟩))) w') : wpList Try.prog ops Q (o :: rest) a w := by
  refine wpList_val hgd (v := .pointer (some ⟨w.heap.size, 0, none⟩)) (w' := w.alloc (.cells #[.slice none 0 0] 102)) ?_ (h _ _ (Nat.le_refl _) (by simp) ((Below.refl _ _).alloc (Nat.le_refl _) _) (heap_alloc_new _ _))
  unfold execOp
  simp only [ho, Instr.alloc, Sem.run_bind, zeroWt, Result.andThen_ok]
  rfl
/-- while the heap is made -/
structure Mq (w : World) (b : Nat) (v : Value) (xs : List It) (wr : World) : Prop where
  hb : w.heap.size ≤ b
  V : VBlk wr b 102 [v]
  o : Own encIt wr w.heap.size wr.heap.size v xs
  h : Hp xs.length xs
  t : Tq w.heap.size w wr
theorem Mq.of_hq {w wr : World} {b g cap : Nat} {xs : List It} (Q : Hq wr b g cap xs) (hb : w.heap.size ≤ b) (hg : w.heap.size ≤ g) (h : Hp xs.length xs) (t : Tq w.heap.size w wr) : Mq w b (.slice (some ⟨g, 0, none⟩) xs.length cap) xs wr :=
  ⟨hb, Q.V, Q.r.own hg Q.r.lt rfl, h, t⟩
theorem Mq.grow {w wr w' : World} {b : Nat} {v : Value} {xs : List It} (M : Mq w b v xs wr) (hB : Below wr.heap.size wr w') : Mq w b v xs w' :=
  ⟨M.hb, vblk_grow M.V hB, (M.o.grow hB).wide (Nat.le_refl _) hB.size, M.h, M.t.trans (Tq.of_below hB M.t.low.size)⟩
theorem filter_snoc {b : List It} {i : Nat} (hi : i < b.length) (f : It → Bool) : ((b.take (i + 1)).filter f) = (b.take i).filter f ++ (if f b[i] = true then [b[i]] else []) := by
  rw [← List.take_append_getElem hi, List.filter_append]
  by_cases h : f b[i] = true
  · simp [h]
  · simp [h]
set_option maxRecDepth 100000 in
set_option maxHeartbeats 4000000 in
theorem waitingBy_any (b : List It) (now : Int) (v : Value) (w : World) (r : Rd encIt w v b) (hs : SmK b) :
    Calls Try.prog 74 #[v, .int .i64 now] w fun e w' => ∃ v' ys, e = .returned v' ∧ ys.Perm (waitL b now) ∧ Hp ys.length ys ∧ Own encIt w' w.heap.size w'.heap.size v' ys ∧ Below w.heap.size w w' := by
  obtain ⟨a, cap, rfl⟩ := r.form
  have hlr := r.len
  have R : Hid (Rd encIt w (.slice a b.length cap) b) := r
  have HS : Hid (SmK b) := hs
  clear r hs
  unfold waitL
  cases hbk : bookB b with
  | false =>
    simp only [Bool.false_eq_true, if_false]
    go_enter Try.func74, Try.ntmps74
    go_wp2_with (first | (go_at_call 119; refine (implBookOk_any b _ w R.out HS.out).mono ?_; rintro e w1 ⟨rfl, hB1⟩; rw [hbk]) | (fail))
    go_ret
    exact ⟨_, [], rfl, List.Perm.refl _, hp_zero _ _ (by simp), own_zero _ _ _ _ _, hB1⟩
  | true =>
    simp only [if_true]
    have hbl : b.length ≤ 20 := (bookB_iff.1 hbk).2.2
    go_enter Try.func74, Try.ntmps74
    go_wp2_with (first | (go_at_call 119; refine (implBookOk_any b _ w R.out HS.out).mono ?_; rintro e w1 ⟨rfl, hB1⟩; rw [hbk]) | (refine wpList_alloc_q rfl rfl ?_; intro b5 w2 hb5 hw5 hB2 V5) | (fail))
    have hB12 := hB1.trans (hB2.mono hB1.size)
    have M0 : Hid (Mq w b5 (.slice none 0 0) [] w2) := ⟨Nat.le_trans hB1.size hb5, V5, own_zero _ _ _ _ _, hp_zero _ _ (by simp), Tq.of_below hB12 (Nat.le_refl _)⟩
    clear hB1 hB2 hB12 V5 hb5 hw5
    have hcc : ∀ (args : Array Value) (w : World), (callFunc 120 args).run Try.prog w = .ok (.enter 120 args) w := fun args w => by kernel_rfl
    go_loopw [13] (fun iv wr => ∃ (i : Nat) (u : Value) (ys : List It), iv = .int .i64 i ∧ i ≤ b.length ∧ Hid (ys.Perm ((b.take i).filter (fun x => overB x now))) ∧ Hid (Mq w b5 u ys wr)) (fun iv _ => b.length - (intOf iv).toNat)
    case atStart => exact ⟨0, _, [], rfl, by omega, List.Perm.refl _, M0⟩
    case round =>
      clear M0
      obtain ⟨i, u, ys, rfl, hi, HP, M⟩ := hrel
      by_cases hlt : i < b.length
      · have hlt' : (i : Int) < (b.length : Int) := by omega
        obtain ⟨bk, off, rfl, hbk2, hrng⟩ := rd_item (E := encIt) rfl rfl (R.out) i hlt
        obtain ⟨⟨N, F, B, C, U⟩, hx⟩ := hid_ex (b[i])
        rw [hx.out] at hrng
        obtain ⟨p0, p1, p2, p3, p4⟩ := rng5 hrng
        have K := M.out.t.low
        have q0 : wr.cell? ⟨bk, off + i * 5, none⟩ = some (.string N) := by rw [K.cell (by exact hbk2)]; exact p0
        have q1 : wr.cell? ⟨bk, off + i * 5 + 1, none⟩ = some (.int .i64 F) := by rw [K.cell (by exact hbk2)]; exact p1
        have q2 : wr.cell? ⟨bk, off + i * 5 + 2, none⟩ = some (.string B) := by rw [K.cell (by exact hbk2)]; exact p2
        have q3 : wr.cell? ⟨bk, off + i * 5 + 3, none⟩ = some (.int .i64 C) := by rw [K.cell (by exact hbk2)]; exact p3
        have q4 : wr.cell? ⟨bk, off + i * 5 + 4, none⟩ = some (.int .i64 U) := by rw [K.cell (by exact hbk2)]; exact p4
        clear p0 p1 p2 p3 p4 hrng
        obtain ⟨y, hy⟩ := hid_ex (overB ⟨N, F, B, C, U⟩ now)
        have hf := filter_snoc hlt (fun x => overB x now)
        rw [hx.out, hy.out] at hf
        have HF : Hid _ := hf
        clear hf
        have hyl : ys.length ≤ 20 := by have := HP.out.length_eq; have h2 := List.length_filter_le (fun x => overB x now) (b.take i); rw [List.length_take] at h2; omega
        go_wp2_with (first | (refine wpList_alloc_v rfl 53 rfl _ zeroIt ?_; intro b7 w3 hb7 hw7 hB3 V7) | (refine wpList_store_v rfl 53 _ _ rfl b7 [.string N, .int .i64 F, .string B, .int .i64 C, .int .i64 U] rfl rfl sizeIt V7 rfl (by simp [Value.oneCell']) ?_; intro w4 hO4 V74; have hB4 : Below wr.heap.size wr w4 := hB3.trans (hO4.2.2 _ hb7); have M4 : Hid (Mq w b5 u ys w4) := M.out.grow hB4; obtain ⟨d0, d1, d2, d3, d4⟩ := cells5 V74) | (go_at_call 80; refine (implOverAt_any N B F C U now y hy _).mono ?_; rintro e w5 ⟨rfl, hB5⟩; have M5 : Hid (Mq w b5 u ys w5) := M4.out.grow hB5; have V75 := vblk_grow V74 hB5; clear d0 d1 d2 d3 d4; obtain ⟨d0, d1, d2, d3, d4⟩ := cells5 V75; cases y) | (go_at_call 120; refine (push_any b5 w.heap.size ys u N B F C U (by omega) M5.out.h w5 M5.out.V M5.out.o M5.out.t.low.size M5.out.hb).mono ?_; rintro e w6 ⟨⟨u6, rfl⟩, ⟨zs, g6, cap6, hp6, hh6, Q6, hg6⟩, T6⟩) | (fail))
        · go_roundw
          case rel => exact ⟨i + 1, u, ys, by go_num, by omega, by unfold Hid; rw [HF.out]; simpa using HP.out, M5⟩
          case measure => simp [intOf]; omega
        · go_roundw
          case rel => exact ⟨i + 1, _, zs, by go_num, by omega, by unfold Hid; rw [HF.out]; simp only [if_true, eq_self]; exact hp6.trans ((HP.out.cons _).trans (List.perm_append_comm (l₁ := [_]))), Mq.of_hq Q6 M5.out.hb hg6 hh6 (M5.out.t.trans T6)⟩
          case measure => simp [intOf]; omega
      · have hlt' : ¬ (i : Int) < (b.length : Int) := by omega
        have c5 := M.out.V.cell 0 (by simp)
        simp only [List.getElem_cons_zero] at c5
        go_wp2
        go_ret
        refine ⟨_, rfl, ys, ?_, M.out.h, M.out.o, M.out.t.low⟩
        have := HP.out
        rw [List.take_of_length_le (by omega)] at this
        exact this
end Go.Proofs.Ytmnjmghlkiljhaa.rg
