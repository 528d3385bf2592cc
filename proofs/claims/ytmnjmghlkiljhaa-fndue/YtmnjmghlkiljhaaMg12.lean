/- Texts laid together: Wh8 Wh9 Wi1. -/
import Derived.Test.YtmnjmghlkiljhaaMg11
import Derived.Test.YtmnjmghlkiljhaaMg10
import Derived.Test.YtmnjmghlkiljhaaMg03
import Derived.Lib.SmallJoins
import Derived.Deep.Slices
import Derived.BigQuiet
import Derived.Deep.DeepCutAuto
/- The program's waitingBy: those that are over, as a heap. -/
namespace Go.Proofs.Ytmnjmghlkiljhaa.rg
open Go.ChangeShapes Go.WideShapes Go.ChangeAt Go.RowKit
open Go.Deep Go.Joins
open Go.Proofs.Ytmnjmghlkiljhaa.ce Go.Proofs.Ytmnjmghlkiljhaa.ro
set_option linter.unusedVariables false
set_option linter.unusedSimpArgs false

/-- those that wait -/
def waitL (b : List It) (now : Int) : List It := if bookB b = true then b.filter (fun i => overB i now) else []
theorem zeroWt (w : World) : (zeroValue 102).run Try.prog w = .ok (.slice none 0 0) w := Try.zeroValue102 w
theorem wpList_alloc_q {ops : Array Oper} {rest : List Oper} {o : Oper} {a : Act} {w : World} {Q : Exit → Act → World → Prop} (hgd : o.guard = none) (ho : o.op = .alloc 102)
    (h : ∀ (b : Nat) (w' : World), w.heap.size ≤ b → b < w'.heap.size → Below w.heap.size w w' → VBlk w' b 102 [.slice none 0 0] → wpList Try.prog ops Q rest (a.put o.dst (.pointer (some ⟨b, 0, none⟩))) w') : wpList Try.prog ops Q (o :: rest) a w := by
  refine wpList_val hgd (v := .pointer (some ⟨w.heap.size, 0, none⟩)) (w' := w.alloc (.cells #[.slice none 0 0] 102)) ?_ (h _ _ (Nat.le_refl _) (by simp) ((Below.refl _ _).alloc (Nat.le_refl _) _) (heap_alloc_new _ _))
  unfold execOp
  simp only [ho, Instr.alloc, Sem.run_bind, zeroWt, Result.andThen_ok]
  rfl
/-- while the heap is made -/
structure Mq (w : World) (b : Nat) (v : Value) (xs : List It) (wr : World) : Prop where
  hb : w.heap.size ≤ b
  V : VBlk wr b 102 [v]
  o : Own encIt wr w.heap.size wr.heap.size v xs
  h : Hp xs.length xs
  t : Tq w.heap.size w wr
theorem Mq.of_hq {w wr : World} {b g cap : Nat} {xs : List It} (Q : Hq wr b g cap xs) (hb : w.heap.size ≤ b) (hg : w.heap.size ≤ g) (h : Hp xs.length xs) (t : Tq w.heap.size w wr) : Mq w b (.slice (some ⟨g, 0, none⟩) xs.length cap) xs wr :=
  ⟨hb, Q.V, Q.r.own hg Q.r.lt rfl, h, t⟩
theorem Mq.grow {w wr w' : World} {b : Nat} {v : Value} {xs : List It} (M : Mq w b v xs wr) (hB : Below wr.heap.size wr w') : Mq w b v xs w' :=
  ⟨M.hb, vblk_grow M.V hB, (M.o.grow hB).wide (Nat.le_refl _) hB.size, M.h, M.t.trans (Tq.of_below hB M.t.low.size)⟩
theorem filter_snoc {b : List It} {i : Nat} (hi : i < b.length) (f : It → Bool) : ((b.take (i + 1)).filter f) = (b.take i).filter f ++ (if f b[i] = true then [b[i]] else []) := by
  rw [← List.take_append_getElem hi, List.filter_append]
  by_cases h : f b[i] = true
  · simp [h]
  · simp [h]
set_option maxRecDepth 100000 in
set_option maxHeartbeats 4000000 in
theorem waitingBy_any (b : List It) (now : Int) (v : Value) (w : World) (r : Rd encIt w v b) (hs : SmK b) :
    Calls Try.prog 74 #[v, .int .i64 now] w fun e w' => ∃ v' ys, e = .returned v' ∧ ys.Perm (waitL b now) ∧ Hp ys.length ys ∧ Own encIt w' w.heap.size w'.heap.size v' ys ∧ Below w.heap.size w w' := by
  obtain ⟨a, cap, rfl⟩ := r.form
  have hlr := r.len
  have R : Hid (Rd encIt w (.slice a b.length cap) b) := r
  have HS : Hid (SmK b) := hs
  clear r hs
  unfold waitL
  cases hbk : bookB b with
  | false =>
    simp only [Bool.false_eq_true, if_false]
    go_enter Try.func74, Try.ntmps74
    go_wp2_with (first | (go_at_call 119; refine (implBookOk_any b _ w R.out HS.out).mono ?_; rintro e w1 ⟨rfl, hB1⟩; rw [hbk]) | (fail))
    go_ret
    exact ⟨_, [], rfl, List.Perm.refl _, hp_zero _ _ (by simp), own_zero _ _ _ _ _, hB1⟩
  | true =>
    simp only [if_true]
    have hbl : b.length ≤ 20 := (bookB_iff.1 hbk).2.2
    go_enter Try.func74, Try.ntmps74
    go_wp2_with (first | (go_at_call 119; refine (implBookOk_any b _ w R.out HS.out).mono ?_; rintro e w1 ⟨rfl, hB1⟩; rw [hbk]) | (refine wpList_alloc_q rfl rfl ?_; intro b5 w2 hb5 hw5 hB2 V5) | (fail))
    have hB12 := hB1.trans (hB2.mono hB1.size)
    have M0 : Hid (Mq w b5 (.slice none 0 0) [] w2) := ⟨Nat.le_trans hB1.size hb5, V5, own_zero _ _ _ _ _, hp_zero _ _ (by simp), Tq.of_below hB12 (Nat.le_refl _)⟩
    clear hB1 hB2 hB12 V5 hb5 hw5
    have hcc : ∀ (args : Array Value) (w : World), (callFunc 120 args).run Try.prog w = .ok (.enter 120 args) w := fun args w => by kernel_rfl
    go_loopw [13] (fun iv wr => ∃ (i : Nat) (u : Value) (ys : List It), iv = .int .i64 i ∧ i ≤ b.length ∧ Hid (ys.Perm ((b.take i).filter (fun x => overB x now))) ∧ Hid (Mq w b5 u ys wr)) (fun iv _ => b.length - (intOf iv).toNat)
    case atStart => exact ⟨0, _, [], rfl, by omega, List.Perm.refl _, M0⟩
    case round =>
      clear M0
      obtain ⟨i, u, ys, rfl, hi, HP, M⟩ := hrel
      by_cases hlt : i < b.length
      · have hlt' : (i : Int) < (b.length : Int) := by omega
        obtain ⟨bk, off, rfl, hbk2, hrng⟩ := rd_item (E := encIt) rfl rfl (R.out) i hlt
        obtain ⟨⟨N, F, B, C, U⟩, hx⟩ := hid_ex (b[i])
        rw [hx.out] at hrng
        obtain ⟨p0, p1, p2, p3, p4⟩ := rng5 hrng
        have K := M.out.t.low
        have q0 : wr.cell? ⟨bk, off + i * 5, none⟩ = some (.string N) := by rw [K.cell (by exact hbk2)]; exact p0
        have q1 : wr.cell? ⟨bk, off + i * 5 + 1, none⟩ = some (.int .i64 F) := by rw [K.cell (by exact hbk2)]; exact p1
        have q2 : wr.cell? ⟨bk, off + i * 5 + 2, none⟩ = some (.string B) := by rw [K.cell (by exact hbk2)]; exact p2
        have q3 : wr.cell? ⟨bk, off + i * 5 + 3, none⟩ = some (.int .i64 C) := by rw [K.cell (by exact hbk2)]; exact p3
        have q4 : wr.cell? ⟨bk, off + i * 5 + 4, none⟩ = some (.int .i64 U) := by rw [K.cell (by exact hbk2)]; exact p4
        clear p0 p1 p2 p3 p4 hrng
        obtain ⟨y, hy⟩ := hid_ex (overB ⟨N, F, B, C, U⟩ now)
        have hf := filter_snoc hlt (fun x => overB x now)
        rw [hx.out, hy.out] at hf
        have HF : Hid _ := hf
        clear hf
        have hyl : ys.length ≤ 20 := by have := HP.out.length_eq; have h2 := List.length_filter_le (fun x => overB x now) (b.take i); rw [List.length_take] at h2; omega
        go_wp2_with (first | (refine wpList_alloc_v rfl 53 rfl _ zeroIt ?_; intro b7 w3 hb7 hw7 hB3 V7) | (refine wpList_store_v rfl 53 _ _ rfl b7 [.string N, .int .i64 F, .string B, .int .i64 C, .int .i64 U] rfl rfl sizeIt V7 rfl (by simp [Value.oneCell']) ?_; intro w4 hO4 V74; have hB4 : Below wr.heap.size wr w4 := hB3.trans (hO4.2.2 _ hb7); have M4 : Hid (Mq w b5 u ys w4) := M.out.grow hB4; obtain ⟨d0, d1, d2, d3, d4⟩ := cells5 V74) | (go_at_call 80; refine (implOverAt_any N B F C U now y hy _).mono ?_; rintro e w5 ⟨rfl, hB5⟩; have M5 : Hid (Mq w b5 u ys w5) := M4.out.grow hB5; have V75 := vblk_grow V74 hB5; clear d0 d1 d2 d3 d4; obtain ⟨d0, d1, d2, d3, d4⟩ := cells5 V75; cases y) | (go_at_call 120; refine (push_any b5 w.heap.size ys u N B F C U (by omega) M5.out.h w5 M5.out.V M5.out.o M5.out.t.low.size M5.out.hb).mono ?_; rintro e w6 ⟨⟨u6, rfl⟩, ⟨zs, g6, cap6, hp6, hh6, Q6, hg6⟩, T6⟩) | (fail))
        · go_roundw
          case rel => exact ⟨i + 1, u, ys, by go_num, by omega, by unfold Hid; rw [HF.out]; simpa using HP.out, M5⟩
          case measure => simp [intOf]; omega
        · go_roundw
          case rel => exact ⟨i + 1, _, zs, by go_num, by omega, by unfold Hid; rw [HF.out]; simp only [if_true, eq_self]; exact hp6.trans ((HP.out.cons _).trans (List.perm_append_comm (l₁ := [_]))), Mq.of_hq Q6 M5.out.hb hg6 hh6 (M5.out.t.trans T6)⟩
          case measure => simp [intOf]; omega
      · have hlt' : ¬ (i : Int) < (b.length : Int) := by omega
        have c5 := M.out.V.cell 0 (by simp)
        simp only [List.getElem_cons_zero] at c5
        go_wp2
        go_ret
        refine ⟨_, rfl, ys, ?_, M.out.h, M.out.o, M.out.t.low⟩
        have := HP.out
        rw [List.take_of_length_le (by omega)] at this
        exact this
end Go.Proofs.Ytmnjmghlkiljhaa.rg
/- The program's DueBy and SoonestOf. -/
namespace Go.Proofs.Ytmnjmghlkiljhaa.rg
open Go.ChangeShapes Go.WideShapes Go.ChangeAt Go.RowKit
open Go.Deep Go.Joins
open Go.Proofs.Ytmnjmghlkiljhaa.ce Go.Proofs.Ytmnjmghlkiljhaa.ro
set_option linter.unusedVariables false
set_option linter.unusedSimpArgs false

theorem wait_due (b : List It) (now : Int) : Srt (waitL b now) ∧ (waitL b now).length ≤ 20 ∧ ∃ D : List It, D.Perm (waitL b now) ∧ D.Pairwise Ear ∧ D.map (·.N) = duR b now := by
  unfold waitL duR
  cases h : bookB b with
  | false => exact ⟨by simp [Srt], by simp, [], by simp, by simp, by simp⟩
  | true =>
    have hb := bookB_iff.1 h
    refine ⟨?_, ?_, dueL b now, ?_, due_ear hb.srt now, by simp⟩
    · rw [if_pos rfl]; exact List.Pairwise.filter _ hb.srt
    · rw [if_pos rfl]; exact Nat.le_trans (List.length_filter_le _ _) hb.2.2
    · rw [if_pos rfl]; exact due_perm b now
theorem first_nl {q r : List It} (h : Hp q.length q) (hq : 0 < q.length) (hp : (q[0] :: r).Perm q) : ∀ y ∈ r, Nl q[0] y := fun y hy => by
  have hm : y ∈ q := hp.subset (List.mem_cons_of_mem _ hy)
  obtain ⟨k, hk, rfl⟩ := List.getElem_of_mem hm
  exact hp_first h (Nat.le_refl _) k hk hk
/-- while those that are due are told -/
structure Lq (w : World) (W : List It) (b : Nat) (u nv : Value) (P q : List It) (wr : World) : Prop where
  hb : w.heap.size ≤ b
  V : VBlk wr b 102 [u]
  o : Own encIt wr w.heap.size wr.heap.size u q
  h : Hp q.length q
  low : Below w.heap.size w wr
  n : Own encS wr w.heap.size wr.heap.size nv (P.map (·.N))
  tk : Tk W P q
  len : P.length + q.length ≤ 20
theorem Lq.hq {w wr : World} {W P q : List It} {b : Nat} {u nv : Value} (L : Lq w W b u nv P q wr) (h : 0 < q.length) : ∃ g cap, u = .slice (some ⟨g, 0, none⟩) q.length cap ∧ w.heap.size ≤ g ∧ Hq wr b g cap q := by
  obtain ⟨g, cap, e, h1, h2, h3⟩ := L.o.form h
  have o := L.o
  have V := L.V
  rw [e] at o V
  obtain ⟨r, -, -⟩ := o.at (by intro x; rw [x] at h; simp at h)
  exact ⟨g, cap, e, h1, V, r, by have := L.len; omega⟩
theorem Lq.said {w wr w' : World} {W P q : List It} {b l : Nat} {u nv nv' : Value} (L : Lq w W b u nv P q wr) {P' : List It} (hT : Ty w.heap.size 9 wr w') (n : Own encS w' w.heap.size l nv' (P'.map (·.N))) (tk : True) : VBlk w' b 102 [u] ∧ Own encIt w' w.heap.size w'.heap.size u q ∧ Below w.heap.size w w' ∧ Own encS w' w.heap.size w'.heap.size nv' (P'.map (·.N)) :=
  ⟨hT.vblk L.V (by decide), (hT.own L.o (by decide)).top, L.low.trans hT.low, n.top⟩
theorem row_ty {lo : Nat} {w w' : World} {g cap : Nat} {q : List It} (hT : Ty lo 9 w w') (r : RowAt encIt w g cap q) : RowAt encIt w' g cap q := by
  obtain ⟨cur, hc, h⟩ := r.blk
  exact ⟨⟨cur, by rw [hT.keep g cur _ _ hc (by decide)]; exact hc, h⟩, r.le, r.cap⟩
theorem wait_ok {b : List It} (h : bookB b = true) : ∀ x ∈ b, x.U ≠ 0 → x ∈ waitL b 1000000 := fun x hx hu => by
  have hi := itemB_iff.1 ((bookB_iff.1 h).1 x hx)
  unfold waitL overB
  rw [if_pos h, List.mem_filter]
  refine ⟨hx, ?_⟩
  have := hi.u1
  simp [hu, this]
theorem soo_none {b : List It} (h : (waitL b 1000000).Perm []) : sooI b = 0 := by
  have e : waitL b 1000000 = [] := List.perm_nil.1 h
  unfold sooI
  cases hb : bookB b with
  | false => rfl
  | true =>
    rw [if_pos rfl]
    have hu : ∀ i ∈ b, 0 ≤ i.U := fun i hi => (itemB_iff.1 ((bookB_iff.1 hb).1 i hi)).u0
    obtain ⟨-, -, -, a4⟩ := sooF_is b 0 hu (Int.le_refl _)
    refine Classical.byContradiction fun hne => ?_
    rcases a4 hne with q | ⟨j, hj, q⟩
    · exact hne q
    · have := wait_ok hb j hj (by rw [← q]; exact hne)
      rw [e] at this
      cases this
theorem soo_first {b ys : List It} (hp : ys.Perm (waitL b 1000000)) (hh : Hp ys.length ys) (h0 : 0 < ys.length) : sooI b = ys[0].U := by
  cases hb : bookB b with
  | false =>
    unfold waitL at hp
    rw [hb, if_neg (by decide)] at hp
    have := hp.length_eq
    rw [List.length_nil] at this
    omega
  | true =>
    unfold sooI
    rw [if_pos hb]
    have hu : ∀ i ∈ b, 0 ≤ i.U := fun i hi => (itemB_iff.1 ((bookB_iff.1 hb).1 i hi)).u0
    obtain ⟨-, -, a3, a4⟩ := sooF_is b 0 hu (Int.le_refl _)
    have hm : ys[0] ∈ waitL b 1000000 := hp.subset (List.getElem_mem _)
    have hm2 := hm
    unfold waitL at hm2
    rw [if_pos hb, List.mem_filter] at hm2
    obtain ⟨u1, u2⟩ := over_u hm2.2
    obtain ⟨s1, s2⟩ := a3 _ hm2.1 u1
    rcases a4 s1 with q | ⟨j, hj, q⟩
    · exact absurd q s1
    · have hjw := wait_ok hb j hj (by rw [← q]; exact s1)
      obtain ⟨k, hk, e⟩ := List.getElem_of_mem (hp.symm.subset hjw)
      have hn := hp_first hh (Nat.le_refl _) k hk hk
      rw [e] at hn
      have : ¬ j.U < ys[0].U := fun z => hn (.inl z)
      omega
set_option maxRecDepth 100000 in
set_option maxHeartbeats 4000000 in
theorem implDueBy_any (b : List It) (now : Int) (v : Value) (w : World) (r : Rd encIt w v b) (hs : SmK b) :
    Calls Try.prog 28 #[v, .int .i64 now] w fun e w' => ∃ v', e = .returned v' ∧ Own encS w' w.heap.size w'.heap.size v' (duR b now) ∧ Below w.heap.size w w' := by
  obtain ⟨a, cap, rfl⟩ := r.form
  have R : Hid (Rd encIt w (.slice a b.length cap) b) := r
  have HS : Hid (SmK b) := hs
  clear r hs
  obtain ⟨hsrt, hlen, D, hD1, hD2, hD3⟩ := wait_due b now
  obtain ⟨W, hW⟩ := hid_ex (waitL b now)
  rw [hW.out] at hsrt hlen hD1
  have HSr : Hid (Srt W) := hsrt
  have HD : Hid (D.Perm W ∧ D.Pairwise Ear ∧ D.map (·.N) = duR b now) := ⟨hD1, hD2, hD3⟩
  clear hsrt hD1 hD2 hD3
  have hcc : ∀ (args : Array Value) (w : World), (callFunc 76 args).run Try.prog w = .ok (.enter 76 args) w := fun args w => by kernel_rfl
  go_enter Try.func28, Try.ntmps28
  go_wp2_with (first | (go_at_call 74; refine (waitingBy_any b now _ w R.out HS.out).mono ?_; rintro e w1 ⟨v1, ys, rfl, hp, hh, o1, hB1⟩; rw [hW.out] at hp; obtain ⟨a1, n1, k1, rfl⟩ := o1.slice; have hz1 := hB1.size) | (refine wpList_alloc_q rfl rfl ?_; intro b5 w2 hb5 hw5 hB2 V5; have hB12 := hB1.trans (hB2.mono hz1); have o2 := o1.grow hB2) | (refine wpList_store_q rfl 102 _ _ rfl b5 0 (.slice a1 n1 k1) rfl rfl rfl szWt V5 (by simp) ?_; intro w3 hO3 V3) | (fail))
  have L0 : Hid (Lq w W b5 (.slice a1 n1 k1) (.slice none 0 0) [] ys w3) := by
    have e3 := hO3.1
    have h2 := hB2.size
    exact ⟨by omega, V3, ((o2.wide (Nat.le_refl _) h2).only hO3 V5 (by decide)).wide (Nat.le_refl _) (by omega), hh, hB12.trans (hO3.2.2 _ (by omega)), own_zero _ _ _ _ _, tk_start hp, by have := hp.length_eq; simp; omega⟩
  clear o1 o2 V5 V3 hO3 hB12 hB1 hB2 hp hh hb5 hw5 hz1
  go_loopw [6] (fun nv wr => ∃ (u : Value) (P q : List It) (an : Option Addr) (nn kn : Nat), nv = .slice an nn kn ∧ Hid (Lq w W b5 u (.slice an nn kn) P q wr) ∧ q.length ≤ 20) (fun nv _ => 20 - (match nv with | .slice _ n _ => n | _ => 0))
  case atStart => exact ⟨_, [], ys, _, _, _, rfl, L0, by have := L0.out.len; omega⟩
  case round =>
    clear L0
    obtain ⟨u, P, q, an, nn, kn, rfl, L, hq20⟩ := hrel
    have hnn : Hid (nn = P.length) := by have := L.out.n.rd.cap.1; rw [List.length_map] at this; exact this
    by_cases h0 : 0 < q.length
    · obtain ⟨g, cap', rfl, hg, HQ0⟩ := L.out.hq h0
      have HQ : Hid (Hq wr b5 g cap' q) := HQ0
      obtain ⟨x0, x1, x2, x3, x4⟩ := row_cells HQ0.r 0 h0
      have htk := fun (r : List It) (hp : (q[0] :: r).Perm q) => tk_next HSr.out L.out.tk hp (first_nl L.out.h h0 hp)
      have hpop := fun (w9 : World) (m : Nat) (hm : q.length = m + 1) (Q9 : Hq w9 b5 g cap' q) (hlo : w.heap.size ≤ w9.heap.size) => pop_any m b5 g cap' w.heap.size q hm (hm ▸ L.out.h) w9 Q9 hg L.out.hb hlo
      obtain ⟨x, hx⟩ := hid_ex (q[0])
      rw [hx.out] at x0 x1 x2 x3 x4
      have hpop2 : ∀ (w9 : World) (m : Nat), q.length = m + 1 → Hq w9 b5 g cap' q → w.heap.size ≤ w9.heap.size → Calls Try.prog 76 #[.iface 106 (.pointer (some ⟨b5, 0, none⟩))] w9 fun e w' => (∃ u, e = .returned u) ∧ (∃ ys, (x :: ys).Perm q ∧ Hp ys.length ys ∧ Hq w' b5 g cap' ys) ∧ Tq w.heap.size w9 w' := fun w9 m hm Q9 hlo => by
        have := hpop w9 m hm Q9 hlo
        rw [hx.out] at this
        exact this
      have htk2 : ∀ r : List It, (x :: r).Perm q → Tk W (P ++ [x]) r := fun r hr => by have := htk r; rw [hx.out] at this; exact this hr
      have HTK : Hid _ := htk2
      have HPOP : Hid _ := hpop2
      clear htk hpop hpop2 htk2 x1 x2 x3 x4 hx
      obtain ⟨N, F, B, C, U⟩ := x
      dsimp only at x0
      simp only [Nat.zero_mul] at x0
      obtain ⟨L', hL'⟩ := hid_ex q.length
      have c5 := HQ0.V.cell 0 (by simp)
      simp only [List.getElem_cons_zero] at c5
      rw [hL'.out] at c5
      have hLn : 0 < L' := by have := hL'.out; omega
      have h0' : (0 : Int) < (L' : Int) := by omega
      have hpl : P.length ≤ 20 := by have := L.out.len; omega
      clear HQ0 h0
      go_wp2_with (first | (go_at_call 75; refine (len_any _ L' cap' wr).mono ?_; rintro e wq ⟨rfl, hq⟩; subst wq) | (at_builtin; refine wpList_append_g infoS rfl _ _ 24 rfl Try.underlying24 w.heap.size _ _ (P.map (·.N)) rfl (L.out.n.grow (bAq wr _)) (by have := L.out.low.size; simp; omega) _ [N] rfl (rd_new (E := encS) wr N #[.string N] rfl) (by simp; omega) ?_; intro v7 w7 o7 hT7; have hB7 := bAq wr (.cells #[.string N] 9); have V7 := hT7.vblk (vblk_grow HQ.out.V hB7) (by decide); have Q7 : Hid (Hq w7 b5 g cap' q) := ⟨V7, row_ty hT7 (HQ.out.r.grow hB7), HQ.out.l⟩; have hlow7 := (L.out.low.trans (hB7.mono L.out.low.size)).trans hT7.low; obtain ⟨a7, n7, k7, rfl⟩ := o7.slice) | (go_at_call 76; refine (HPOP.out w7 (L' - 1) (by have := hL'.out; omega) Q7.out hlow7.size).mono ?_; rintro e w8 ⟨⟨u8, rfl⟩, ⟨zs, hp8, hh8, Q8⟩, T8⟩) | (fail))
      have hlz : zs.length + 1 = q.length := by simpa using hp8.length_eq
      have hsum := L.out.len
      have hn7 : n7 = P.length + 1 := by have := o7.rd.cap.1; simp at this; exact this
      have hz8 := T8.low.size
      refine ⟨⟨_, P ++ [⟨N, F, B, C, U⟩], zs, a7, n7, k7, rfl, ⟨L.out.hb, Q8.V, Q8.r.own hg Q8.r.lt rfl, hh8, hlow7.trans T8.low, ?_, HTK.out zs hp8, by simp; omega⟩, by omega⟩, ?_⟩
      · have := (T8.own o7 (by decide) (by decide)).top
        simpa using this
      · show 20 - n7 < 20 - nn
        have := hnn.out
        omega
    · have hq0 : q = [] := List.eq_nil_of_length_eq_zero (by omega)
      subst hq0
      obtain ⟨au, nu, ku, rfl⟩ := L.out.o.slice
      have hnu : nu = 0 := by simpa using L.out.o.rd.cap.1
      subst hnu
      have c5 := L.out.V.cell 0 (by simp)
      simp only [List.getElem_cons_zero] at c5
      go_wp2_with (first | (go_at_call 75; refine (len_any _ 0 ku wr).mono ?_; rintro e wq ⟨rfl, hq⟩; subst wq) | (fail))
      go_ret
      have hPD := tk_end L.out.tk HD.out.1 HD.out.2.1
      have hn := L.out.n
      rw [hPD, HD.out.2.2] at hn
      exact ⟨_, rfl, hn, L.out.low⟩
set_option maxRecDepth 100000 in
set_option maxHeartbeats 4000000 in
theorem implSoonestOf_any (b : List It) (v : Value) (w : World) (r : Rd encIt w v b) (hs : SmK b) :
    Calls Try.prog 32 #[v] w fun e w' => e = .returned (.int .i64 (sooI b)) ∧ Below w.heap.size w w' := by
  obtain ⟨a, cap, rfl⟩ := r.form
  have R : Hid (Rd encIt w (.slice a b.length cap) b) := r
  have HS : Hid (SmK b) := hs
  clear r hs
  obtain ⟨z, hz⟩ := hid_ex (sooI b)
  rw [hz.out]
  go_enter Try.func32, Try.ntmps32
  go_upto_region 2 with (first | (go_at_call 74; refine (waitingBy_any b 1000000 _ w R.out HS.out).mono ?_; rintro e w1 ⟨v1, ys, rfl, hp, hh, o1, hB1⟩; obtain ⟨a1, n1, k1, rfl⟩ := o1.slice) | (fail))
  have hn1 : Hid (n1 = ys.length) := o1.rd.cap.1
  by_cases h0 : n1 = 0
  · subst h0
    have hys : ys = [] := List.eq_nil_of_length_eq_zero hn1.out.symm
    have hso : Hid (z = 0) := by unfold Hid; rw [← hz.out]; exact soo_none (by rw [hys] at hp; exact hp.symm)
    go_wp2_with (first | (go_at_call 75; refine (len_any _ 0 k1 w1).mono ?_; rintro e wq ⟨rfl, hq⟩; subst wq) | (fail))
    go_ret
    exact ⟨by rw [hso.out]; rfl, hB1⟩
  · have hql : 0 < ys.length := by have := hn1.out; omega
    have hf : ((n1 : Int) == 0) = false := by simpa using h0
    have h0' : (0 : Int) < (n1 : Int) := by omega
    obtain ⟨g, cg, e, hg1, hg2, hg3⟩ := o1.form hql
    obtain ⟨c0, off, hg, -, x4, -⟩ : ∃ g, ∃ _ : Nat, a1 = some ⟨g, 0, none⟩ ∧ True ∧ w1.cell? ⟨g, 4, none⟩ = some (.int .i64 ys[0].U) ∧ True := by
      obtain ⟨g, e, -, h, -⟩ := o1.cell 0 4 hql (by decide)
      exact ⟨g, 0, e, trivial, h, trivial⟩
    subst hg
    have hso : Hid (sooI b = ys[0].U) := soo_first hp hh hql
    rw [hz.out] at hso
    rw [← hso.out] at x4
    clear e
    go_wp2_with (first | (go_at_call 75; refine (len_any _ n1 k1 w1).mono ?_; rintro e wq ⟨rfl, hq⟩; subst wq) | (fail))
    go_ret
    exact ⟨rfl, hB1⟩
end Go.Proofs.Ytmnjmghlkiljhaa.rg
/- The model's SoonestOf. -/
namespace Go.Proofs.Ytmnjmghlkiljhaa.rg
open Go.ChangeShapes Go.WideShapes Go.ChangeAt Go.RowKit
open Go.Deep Go.Joins
open Go.Proofs.Ytmnjmghlkiljhaa.ce Go.Proofs.Ytmnjmghlkiljhaa.ro
set_option linter.unusedVariables false
set_option linter.unusedSimpArgs false

theorem sooF_take {b : List It} {i : Nat} (hi : i < b.length) : sooF 0 (b.take (i + 1)) = if b[i].U ≠ 0 ∧ (sooF 0 (b.take i) = 0 ∨ b[i].U < sooF 0 (b.take i)) then b[i].U else sooF 0 (b.take i) := by
  rw [← List.take_append_getElem hi, sooF_snoc]
set_option maxRecDepth 100000 in
set_option maxHeartbeats 4000000 in
theorem specSoonestOf_any (b : List It) (v : Value) (w : World) (r : Rd encIt w v b) (hs : SmK b) :
    Calls Try.prog 33 #[v] w fun e w' => e = .returned (.int .i64 (sooI b)) ∧ Below w.heap.size w w' := by
  obtain ⟨a, cap, rfl⟩ := r.form
  have R : Hid (Rd encIt w (.slice a b.length cap) b) := r
  have HS : Hid (SmK b) := hs
  have hlb := r.len
  clear r hs
  obtain ⟨z, hz⟩ := hid_ex (sooI b)
  rw [hz.out]
  cases hbk : bookB b with
  | false =>
    have hz0 : Hid (z = 0) := by unfold Hid; rw [← hz.out]; unfold sooI; rw [hbk]; rfl
    go_enter Try.func33, Try.ntmps33
    go_wp2_with (first | (go_at_call 36; refine (specBookOk_any b _ w R.out HS.out).mono ?_; rintro e w1 ⟨rfl, hB1⟩; rw [hbk]) | (fail))
    go_ret
    exact ⟨by rw [hz0.out]; rfl, hB1⟩
  | true =>
    have hz0 : Hid (z = sooF 0 b) := by unfold Hid; rw [← hz.out]; unfold sooI; rw [if_pos hbk]
    go_enter Try.func33, Try.ntmps33
    go_wp2_with (first | (go_at_call 36; refine (specBookOk_any b _ w R.out HS.out).mono ?_; rintro e w1 ⟨rfl, hB1⟩; rw [hbk]) | (fail))
    go_loop [3, 4] (fun nv iv => ∃ (i : Nat) (s : Int), nv = .int .i64 s ∧ iv = .int .i64 i ∧ i ≤ b.length ∧ Hid (sooF 0 (b.take i) = s)) (fun _ iv => b.length - (intOf iv).toNat)
    case atStart => exact ⟨0, 0, rfl, rfl, by omega, rfl⟩
    case round =>
      obtain ⟨i, s, rfl, rfl, hi, HF⟩ := hrel
      by_cases hlt : i < b.length
      · have hlt' : (i : Int) < (b.length : Int) := by omega
        obtain ⟨bk, off, rfl, hbk2, hrng⟩ := rd_item (E := encIt) rfl rfl (R.out.grow hB1) i hlt
        obtain ⟨⟨N, F, B, C, U⟩, hx⟩ := hid_ex (b[i])
        rw [hx.out] at hrng
        obtain ⟨-, -, -, -, p4⟩ := rng5 hrng
        have hf := sooF_take hlt
        rw [hx.out, HF.out] at hf
        have HF2 : Hid _ := hf
        clear hf hrng
        by_cases h0 : U = 0
        · have f0 : (U != 0) = false := by simpa using h0
          have K : Hid (U = 0) := h0
          clear h0
          go_wp2
          go_roundw
          case rel => exact ⟨i + 1, s, rfl, by go_num, by omega, HF2.out.trans (if_neg fun q => q.1 K.out)⟩
          case measure => simp [intOf]; omega
        · have f0 : (U != 0) = true := by simpa using h0
          have K : Hid (U ≠ 0) := h0
          clear h0
          by_cases h1 : s = 0
          · have f1 : (s == 0) = true := by simpa using h1
            have K1 : Hid (s = 0) := h1
            clear h1
            go_wp2
            go_roundw
            case rel => exact ⟨i + 1, U, rfl, by go_num, by omega, HF2.out.trans (if_pos ⟨K.out, .inl K1.out⟩)⟩
            case measure => simp [intOf]; omega
          · have f1 : (s == 0) = false := by simpa using h1
            have K1 : Hid (s ≠ 0) := h1
            clear h1
            by_cases h2 : U < s
            · have K2 : Hid (U < s) := h2
              go_wp2
              go_roundw
              case rel => exact ⟨i + 1, U, rfl, by go_num, by omega, HF2.out.trans (if_pos ⟨K.out, .inr K2.out⟩)⟩
              case measure => simp [intOf]; omega
            · have K2 : Hid (¬ U < s) := h2
              go_wp2
              go_roundw
              case rel => exact ⟨i + 1, s, rfl, by go_num, by omega, HF2.out.trans (if_neg fun q => q.2.elim K1.out K2.out)⟩
              case measure => simp [intOf]; omega
      · have hlt' : ¬ (i : Int) < (b.length : Int) := by omega
        go_wp2
        go_ret
        refine ⟨?_, hB1⟩
        have := HF.out
        rw [List.take_of_length_le (by omega)] at this
        rw [hz0.out, this]
        rfl
end Go.Proofs.Ytmnjmghlkiljhaa.rg
