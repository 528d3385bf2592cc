/- A thing is put into a list that a call made. -/
import Derived.Test.YtekladbkhplchaaDe3
import Derived.Test.YtekladbkhplchaaBx0
import Derived.Lib.SmallJoins
import Derived.Deep.Slices
namespace Go.Proofs.Ytekladbkhplchaa.rg
open Go.ChangeShapes Go.WideShapes Go.ChangeAt Go.RowKit
open Go.Deep Go.Joins
open Go.Proofs.Ytekladbkhplchaa.ce Go.Proofs.Ytekladbkhplchaa.ro Go.Proofs.Ytekladbkhplchaa.draw
set_option linter.unusedVariables false

theorem put_is {b : List It} {k : Nat} {i : It} (hk : k ≤ b.length) (h1 : ∀ x ∈ b.take k, ltS x.N i.N = true) (h2 : ∀ h : k < b.length, ltS b[k].N i.N = false) : b.take k ++ i :: bhd i.N (b.drop k) = putL b i := by
  have ht : (b.drop k).takeWhile (fun x => ltS x.N i.N) = [] ∧ (b.drop k).dropWhile (fun x => ltS x.N i.N) = b.drop k := by
    by_cases hlt : k < b.length
    · rw [List.drop_eq_getElem_cons hlt, List.takeWhile_cons, List.dropWhile_cons, h2 hlt]
      simp
    · rw [List.drop_eq_nil_of_le (by omega)]
      simp
  have hb : ∀ l, bhd i.N l = behind i l := fun l => by cases l <;> rfl
  have e1 : b.takeWhile (fun x => ltS x.N i.N) = b.take k := by
    conv => lhs; rw [← List.take_append_drop k b]
    rw [List.takeWhile_append_of_pos h1, ht.1, List.append_nil]
  have e2 : b.dropWhile (fun x => ltS x.N i.N) = b.drop k := by
    conv => lhs; rw [← List.take_append_drop k b]
    rw [List.dropWhile_append_of_pos h1, ht.2]
  unfold putL
  rw [e1, e2, hb]
set_option maxRecDepth 100000 in
set_option maxHeartbeats 4000000 in
theorem l10Put_zero (a : Option Addr) (N B : ByteArray) (F C U : Int) (w : World) :
    Calls Try.prog 61 #[.slice a 0 0, .agg #[.string N, .int .i64 F, .string B, .int .i64 C, .int .i64 U]] w fun e w' => ∃ v', e = .returned v' ∧ Own encIt w' w.heap.size w'.heap.size v' [⟨N, F, B, C, U⟩] ∧ Below w.heap.size w w' := by
  go_enter Try.func61, Try.ntmps61
  go_wp2_with (first | (refine wpList_box_v rfl 35 _ rfl [.string N, .int .i64 F, .string B, .int .i64 C, .int .i64 U] rfl ?_; intro b1 w1 hb1 hw1 hB1 V1; have hz1 := hB1.size) | (fail))
  have VV : Hid (VBlk w1 b1 35 [.string N, .int .i64 F, .string B, .int .i64 C, .int .i64 U]) := V1
  clear V1
  go_loopw [5] (fun p wr => p = .int .i64 0 ∧ Hid (Below w1.heap.size w1 wr)) (fun p _ => 0)
  case atStart => exact ⟨rfl, Below.refl _ _⟩
  case round =>
    obtain ⟨rfl, hBr⟩ := hrel
    have hBw : Below w.heap.size w wr := hB1.trans (hBr.out.mono hz1)
    have hzr := hBr.out.size
    have c0 := (cells5 (vblk_grow VV.out hBr.out)).1
    have hdr : ([] : List It) = [] := rfl
    go_wp2
    go_quiet (fail)
    generalize hwq : wr.drewN nq = wq
    have hBq : Below wr.heap.size wr wq := hwq ▸ ce.below_drewN _ _
    have hzq := hBq.size
    have hBwq : Below w.heap.size w wq := hBw.trans (hBq.mono hBw.size)
    have Vq : Hid (VBlk wq b1 35 [.string N, .int .i64 F, .string B, .int .i64 C, .int .i64 U]) := vblk_grow (vblk_grow VV.out hBr.out) hBq
    have RT : Hid (Rd encIt wq (.slice a 0 0) (([] : List It))) := rd_zero encIt _ _ _ (Nat.zero_le _)
    skip
    have hdl : ([] : List It).length ≤ 1000000 := by simp
    have htl : (([] : List It)).length ≤ 1000000 := by simp
    clear hwq c0 hBr
    have m4 : Hid True := trivial
    go_wp2_with (first | (clear m4; at_builtin; refine wpList_append_g infoIt rfl _ _ 29 rfl Try.underlying29 wq.heap.size _ _ [] rfl (own_zero _ _ _ 0 _) (by simp) _ [] rfl (rd_zero encIt _ _ _ (by unfold maxLen; omega)) (by simp) ?_; intro v4 w4 o4 hT4; rw [List.nil_append] at o4; have hB4 : Below wq.heap.size wq w4 := ((Below.refl _ _).alloc (Nat.le_refl _) _).trans hT4.low) | (fail))
    have hz4 := hB4.size
    have V4 : Hid (VBlk w4 b1 35 [.string N, .int .i64 F, .string B, .int .i64 C, .int .i64 U]) := vblk_grow Vq.out hB4
    have c0 := (cells5 V4.out).1
    obtain ⟨A4, n4, k4, rfl⟩ := o4.slice
    obtain rfl : n4 = 0 := o4.rd.cap.1
    have O4 : Hid (Own encIt w4 wq.heap.size w4.heap.size (.slice A4 0 k4) []) := o4
    clear o4
    go_wp2
    go_quiet (fail)
    generalize hwv : w4.drewN nq = w5
    have hB5 : Below w4.heap.size w4 w5 := hwv ▸ ce.below_drewN _ _
    have hz5 := hB5.size
    have V5 : Hid (VBlk w5 b1 35 [.string N, .int .i64 F, .string B, .int .i64 C, .int .i64 U]) := vblk_grow V4.out hB5
    have RT5 : Hid (Rd encIt w5 (.slice a 0 0) (([] : List It))) := (RT.out.grow hB4).grow hB5
    have hBw5 : Below w.heap.size w w5 := (hBwq.trans (hB4.mono hBwq.size)).trans (hB5.mono (Nat.le_trans hBwq.size hz4))
    clear hwv
    have hxl : ([] : List It).length ≤ 1000000 := by first | (rw [← hdr]; exact hdl) | (rw [hdr] at hdl; simp at hdl ⊢; omega) | simp
    have RR4 := O4.out.rd.grow hB5
    clear O4
    have R5 : Hid (Rd encIt w5 _ ([] : List It)) := RR4
    clear RR4
    go_wp2
    have hS0 : Below w5.heap.size w5 w5.drew ∧ w5.drew.cell? ⟨b1, 0, none⟩ = some (.string N) ∧ w5.drew.cell? ⟨b1, 1, none⟩ = some (.int .i64 F) ∧ w5.drew.cell? ⟨b1, 2, none⟩ = some (.string B) ∧ w5.drew.cell? ⟨b1, 3, none⟩ = some (.int .i64 C) ∧ w5.drew.cell? ⟨b1, 4, none⟩ = some (.int .i64 U) := ⟨(Below.refl _ _).drew, cells5 (w := w5.drew) V5.out⟩
    have m7 : Hid True := trivial
    have m8 : Hid True := trivial
    go_region_held3 (fun w' => Below w5.heap.size w5 w' ∧ w'.cell? ⟨b1, 0, none⟩ = some (.string N) ∧ w'.cell? ⟨b1, 1, none⟩ = some (.int .i64 F) ∧ w'.cell? ⟨b1, 2, none⟩ = some (.string B) ∧ w'.cell? ⟨b1, 3, none⟩ = some (.int .i64 C) ∧ w'.cell? ⟨b1, 4, none⟩ = some (.int .i64 U)) (first | with_reducible assumption | with_reducible exact hS0 | with_reducible exact sp_alloc V5.out (by with_reducible assumption) | with_reducible exact sp_alloc_drew V5.out (by with_reducible assumption) | (fail)) (first | (clear m7; refine step_append_g infoIt rfl _ _ 29 rfl Try.underlying29 _ 0 _ [] rfl (own_zero _ _ _ _ _) (Nat.le_refl _) _ (([] : List It)) rfl (RT5.out.grow (sp_b (by with_reducible assumption))) (by first | (simp; done) | (simp; omega) | (unfold maxLen; simp)) ?_; intro v6 w6 o6 hT6; rw [List.nil_append] at o6; have hzc := sp_size hT6 (by with_reducible assumption); have hS6 := sp_trans V5.out (by with_reducible assumption) hT6.low hzc) | (clear m8; refine step_append_g infoIt rfl _ _ 29 rfl Try.underlying29 _ _ _ (([] : List It)) rfl (o6.grow ((Below.refl _ _).alloc (Nat.le_refl _) _)) (Nat.le_trans hT6.low.size (by simp)) (.slice (some ⟨w6.heap.size, 0, none⟩) 1 1) [⟨N, F, B, C, U⟩] rfl (rd_new (E := encIt) w6 ⟨N, F, B, C, U⟩ #[.string N, .int .i64 F, .string B, .int .i64 C, .int .i64 U] rfl) (by first | (simp; done) | (simp; omega) | (unfold maxLen; simp)) ?_; intro v7 w7 o7 hT7; have hS7 := sp_trans V5.out (by with_reducible assumption) hT7.low hzc; have hzz := Nat.le_trans (Nat.le_trans hT6.low.size (show _ ≤ _ by first | exact Nat.le_refl _ | simp)) hT7.low.size) | (clear m8; refine step_append_g infoIt rfl _ _ 29 rfl Try.underlying29 _ _ _ (([] : List It)) rfl o6 (Nat.le_trans hT6.low.size (by simp)) (.slice (some ⟨w5.heap.size + 1, 0, none⟩) 1 1) [⟨N, F, B, C, U⟩] rfl (by have := (rd_new (E := encIt) (w5.alloc (Obj.cells #[] 35)) ⟨N, F, B, C, U⟩ #[.string N, .int .i64 F, .string B, .int .i64 C, .int .i64 U] rfl).drew.grow hT6.low; simpa using this) (by first | (simp; done) | (simp; omega) | (unfold maxLen; simp)) ?_; intro v7 w7 o7 hT7; have hS7 := sp_trans V5.out (by with_reducible assumption) hT7.low hzc; have hzz := Nat.le_trans (Nat.le_trans hT6.low.size (show _ ≤ _ by first | exact Nat.le_refl _ | simp)) hT7.low.size) | (clear m8; refine step_append_g infoIt rfl _ _ 29 rfl Try.underlying29 _ _ _ (([] : List It)) rfl o6 (Nat.le_trans hT6.low.size (by simp)) (.slice (some ⟨w5.heap.size, 0, none⟩) 1 1) [⟨N, F, B, C, U⟩] rfl (((rd_new (E := encIt) w5 ⟨N, F, B, C, U⟩ #[.string N, .int .i64 F, .string B, .int .i64 C, .int .i64 U] rfl).grow ((Below.refl _ _).alloc (Nat.le_refl _) (Obj.cells #[] 35))).drew.grow hT6.low) (by first | (simp; done) | (simp; omega) | (unfold maxLen; simp)) ?_; intro v7 w7 o7 hT7; have hS7 := sp_trans V5.out (by with_reducible assumption) hT7.low hzc; have hzz := Nat.le_trans (Nat.le_trans hT6.low.size (show _ ≤ _ by first | exact Nat.le_refl _ | simp)) hT7.low.size) | (refine step_append_g infoIt rfl _ _ 29 rfl Try.underlying29 _ _ _ (([] : List It) ++ [⟨N, F, B, C, U⟩]) rfl o7 (Nat.le_trans hzz (Nat.le_refl _)) _ ([] : List It) rfl (R5.out.grow hS7.1) (by first | (simp; done) | (simp; omega) | (unfold maxLen; simp)) ?_; intro v8 w8 o8 hT8; have hS8 := sp_trans V5.out hS7 hT8.low hzc) | (fail))
    all_goals
      go_wp2
      go_ret
      refine ⟨_, rfl, ?_, hBw5.trans (hS8.1.mono hBw5.size)⟩
      have := o8.wide (lo' := w.heap.size) (Nat.le_trans hBw5.size hzc) (Nat.le_refl _)
      simpa using this
theorem l10Put_own (I : List It) (v : Value) (lo hi : Nat) (N B : ByteArray) (F C U : Int) (w : World) (o : Own encIt w lo hi v I) (hl : I.length ≤ 1000000) :
    Calls Try.prog 61 #[v, .agg #[.string N, .int .i64 F, .string B, .int .i64 C, .int .i64 U]] w fun e w' => ∃ v', e = .returned v' ∧ Own encIt w' w.heap.size w'.heap.size v' (putL I ⟨N, F, B, C, U⟩) ∧ Below w.heap.size w w' := by
  have r := o.rd
  rcases o.row with ⟨rfl, a, rfl⟩ | ⟨g, cap, cur, rfl, -⟩
  · exact l10Put_zero a N B F C U w
  · refine (l10Put_any I g 0 I.length cap N B F C U w r hl).mono ?_
    rintro e w' ⟨v', k, rfl, o', hB, hk, h1, h2⟩
    rw [put_is (i := ⟨N, F, B, C, U⟩) hk h1 h2] at o'
    exact ⟨v', rfl, o', hB⟩
end Go.Proofs.Ytekladbkhplchaa.rg
