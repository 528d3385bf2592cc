/- A heap of things in memory: the program's Push, the library's Push and Pop. -/
import Derived.Test.YtmnjmghlkiljhaaWh5
namespace Go.Proofs.Ytmnjmghlkiljhaa.rg
open Go.ChangeShapes Go.WideShapes Go.ChangeAt Go.RowKit
open Go.Deep Go.Joins
open Go.Proofs.Ytmnjmghlkiljhaa.ce Go.Proofs.Ytmnjmghlkiljhaa.ro
set_option linter.unusedVariables false
set_option linter.unusedSimpArgs false

theorem bAq (W : World) (o : Obj) : Below W.heap.size W (W.alloc o) := (Below.refl _ _).alloc (Nat.le_refl _) _
theorem push_end {w w8 : World} {b lo l8 k8 : Nat} {a8 : Option Addr} {xs : List It} {x : It} {v : Value} (V8 : VBlk w8 b 102 [v]) (o8 : Own encIt w8 lo w8.heap.size (.slice a8 l8 k8) (xs ++ [x])) (hb : lo ≤ b) (hlo : lo ≤ w.heap.size) (hlen : xs.length ≤ 999999) (T : Tq lo w w8) :
    (∃ g cap, Hq (w8.setCell ⟨b, 0, none⟩ (.slice a8 l8 k8)) b g cap (xs ++ [x]) ∧ lo ≤ g) ∧ Tq lo w (w8.setCell ⟨b, 0, none⟩ (.slice a8 l8 k8)) := by
  have hl8 : lo ≤ w8.heap.size := Nat.le_trans hlo T.low.size
  have hO : Only b w8 (w8.setCell ⟨b, 0, none⟩ (.slice a8 l8 k8)) := only_set _ _ _ _
  obtain ⟨g, cap, e, hg1, hg2, hg3⟩ := o8.form (by simp)
  rw [e] at o8
  obtain ⟨r, -, -⟩ := o8.at (by simp)
  have hne : g ≠ b := by
    intro q
    subst q
    obtain ⟨cur, hc, -⟩ := r.blk
    have := V8.symm.trans hc
    simp at this
    exact absurd this.2 (by decide)
  have V9 := V8.set 0 (.slice a8 l8 k8)
  refine ⟨⟨g, cap, ⟨?_, r.of (hO.2.1 g hne), by simp; omega⟩, hg1⟩, T.trans (Tq.of_var (Ob.of_only hO) V8 hb hl8)⟩
  rw [e] at V9 ⊢
  exact V9
set_option maxRecDepth 100000 in
set_option maxHeartbeats 4000000 in
theorem push1_any (b lo : Nat) (xs : List It) (v : Value) (N B : ByteArray) (F C U : Int) (hlen : xs.length ≤ 999999) (w : World) (V : VBlk w b 102 [v]) (o : Own encIt w lo w.heap.size v xs) (hlo : lo ≤ w.heap.size) (hb : lo ≤ b) :
    Calls Try.prog 166 #[.pointer (some ⟨b, 0, none⟩), .iface 53 (.agg #[.string N, .int .i64 F, .string B, .int .i64 C, .int .i64 U])] w fun e w' => (∃ u, e = .returned u) ∧ (∃ g cap, Hq w' b g cap (xs ++ [⟨N, F, B, C, U⟩]) ∧ lo ≤ g) ∧ Tq lo w w' := by
  obtain ⟨a, n, k, rfl⟩ := o.slice
  have HO : Hid (Own encIt w lo w.heap.size (.slice a n k) xs) := o
  have hbl := V.lt
  clear o
  have hta : ∀ w : World, (Instr.typeAssert (.iface 53 (.agg #[.string N, .int .i64 F, .string B, .int .i64 C, .int .i64 U])) 20 53 true).run Try.prog w = .ok (.tuple #[.agg #[.string N, .int .i64 F, .string B, .int .i64 C, .int .i64 U], .bool true]) w := fun w => by kernel_rfl
  go_enter Try.func166, Try.ntmps166
  go_upto_region 2 with (first | (refine wpList_alloc_v rfl 53 rfl _ zeroIt ?_; intro b4 w1 hb4 hw4 hB1 V4) | (refine wpList_store_v rfl 53 _ _ rfl b4 [.string N, .int .i64 F, .string B, .int .i64 C, .int .i64 U] rfl rfl sizeIt V4 rfl (by simp [Value.oneCell']) ?_; intro w2 hO2 V42; have hB12 : Below w.heap.size w w2 := hB1.trans (hO2.2.2 _ hb4); have V2 := vblk_grow V hB12; have cV2 := V2.cell 0 (by simp); simp only [List.getElem_cons_zero] at cV2; obtain ⟨d0, d1, d2, d3, d4⟩ := cells5 V42; have hz2 := hB12.size; have O2 := HO.out.grow hB12) | (fail))
  have cA : (w2.alloc (.cells #[.string N, .int .i64 F, .string B, .int .i64 C, .int .i64 U] 53)).cell? ⟨b, 0, none⟩ = some (.slice a n k) := (vblk_grow V2 (bAq w2 _)).cell 0 (by simp)
  have fV2 := V2.frozen 0
  go_region_law (first | (refine step_append_g infoIt rfl _ _ 102 rfl Try.underlying102 lo _ _ xs rfl (O2.grow (bAq w2 _).drew) (by simp; omega) _ [⟨N, F, B, C, U⟩] rfl (rd_new (E := encIt) w2 ⟨N, F, B, C, U⟩ #[.string N, .int .i64 F, .string B, .int .i64 C, .int .i64 U] rfl).drew (by simp; omega) ?_; intro v8 w8 o8 hT8; have V8 := hT8.vblk (vblk_grow V2 (bAq w2 _).drew) (by decide); have c8 := V8.cell 0 (by simp); simp only [List.getElem_cons_zero] at c8; have f8 := V8.frozen 0; obtain ⟨a8, l8, k8, rfl⟩ := o8.slice) | (fail))
  all_goals
    first | go_end0 | ((try simp only [Exit.inBlock, Exit.then]); refine bodyPost_ret (results_none rfl _ _ _) rfl ?_) | skip
    exact ⟨⟨_, rfl⟩, push_end V8 o8 hb hlo hlen (((Tq.of_below hB12 hlo).trans (Tq.of_below (bAq w2 _).drew (by omega))).trans (Tq.of_ty hT8))⟩
set_option maxRecDepth 100000 in
set_option maxHeartbeats 4000000 in
/-- one is put on the heap -/
theorem push_any (b lo : Nat) (xs : List It) (v : Value) (N B : ByteArray) (F C U : Int) (hlen : xs.length ≤ 999999) (hh : Hp xs.length xs) (w : World) (V : VBlk w b 102 [v]) (o : Own encIt w lo w.heap.size v xs) (hlo : lo ≤ w.heap.size) (hb : lo ≤ b) :
    Calls Try.prog 120 #[.iface 106 (.pointer (some ⟨b, 0, none⟩)), .iface 53 (.agg #[.string N, .int .i64 F, .string B, .int .i64 C, .int .i64 U])] w fun e w' => (∃ u, e = .returned u) ∧ (∃ ys g cap, ys.Perm (⟨N, F, B, C, U⟩ :: xs) ∧ Hp ys.length ys ∧ Hq w' b g cap ys ∧ lo ≤ g) ∧ Tq lo w w' := by
  have hcp : ∀ (args : Array Value) (w : World), (callFunc 166 args).run Try.prog w = .ok (.enter 166 args) w := fun args w => by kernel_rfl
  have hcl : ∀ (args : Array Value) (w : World), (callFunc 75 args).run Try.prog w = .ok (.enter 75 args) w := fun args w => by kernel_rfl
  have hP := push_of b w
  have HU : Hid (Up (xs.length + 1) xs.length (xs ++ [⟨N, F, B, C, U⟩])) := hp_up hh rfl _
  obtain ⟨x, hx⟩ := hid_ex (⟨N, F, B, C, U⟩ : It)
  have kP := fun (_ : Unit) => push1_any b lo xs v N B F C U hlen w V o hlo hb
  rw [hx.out] at kP HU ⊢
  have KP : Hid _ := kP
  clear kP hh
  obtain ⟨m, hm⟩ := hid_ex xs.length
  rw [hm.out] at HU
  go_enter Try.func120, Try.ntmps120
  go_wp2_with (first | (go_at_call 166; refine (KP.out ()).mono ?_; rintro e w1 ⟨⟨u1, rfl⟩, ⟨g, cap, Q1, hg⟩, T1⟩; have hl1 : (xs ++ [x]).length = m + 1 := (by rw [List.length_append, hm.out]; rfl); have V1 := Q1.V; rw [hl1] at V1; obtain ⟨L, hL⟩ := hid_ex (m + 1); rw [hL.out] at V1; have hLen := lenq_of b g L cap w1 V1; have hw : wrap64 ((L : Int) - 1) = (m : Int) := (by have := hL.out; have := Q1.l; rw [hl1] at this; rw [IntWalk.wrap64_in _ ⟨by omega, by omega⟩]; omega); have hw3 : wrap64 (m : Int) = (m : Int) := (by have := hL.out; have := Q1.l; rw [hl1] at this; exact IntWalk.wrap64_in _ ⟨by omega, by omega⟩)) | (go_at_call 75; refine (len_any _ L cap w1).mono ?_; rintro e wq ⟨rfl, hq⟩; subst wq) | (go_at_call 141; (try rw [hw]); (try rw [hw3]); refine (up_any (m + 1) b g cap (xs ++ [x]) hl1 m (by omega) HU.out w1 Q1).mono ?_; rintro e w2 ⟨⟨u2, rfl⟩, ys, hp, hh, Q2, O2⟩) | (fail))
  first | go_end0 | ((try simp only [Exit.inBlock, Exit.then]); refine bodyPost_ret (results_none rfl _ _ _) rfl ?_)
  have hyl : ys.length = m + 1 := hp.length_eq.trans hl1
  exact ⟨⟨_, rfl⟩, ⟨ys, g, cap, hp.trans (List.perm_append_comm.trans (List.Perm.refl _)), by rw [hyl]; exact hh, Q2, hg⟩, T1.trans (Tq.of_row O2 Q1.r hg (Nat.le_trans hlo T1.low.size))⟩
end Go.Proofs.Ytmnjmghlkiljhaa.rg
