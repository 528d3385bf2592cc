/- What the laws of chapter 9 draw: queues, with a name, with numbers. -/
import Derived.Test.YtlakpibiojdgeaaRe1
import Derived.Test.YtlakpibiojdgeaaQo1
import Derived.Deep.DeepCutAuto
namespace Go.Proofs.Ytlakpibiojdgeaa.rg
open Go.ChangeShapes Go.WideShapes Go.ChangeAt Go.RowKit
open Go.Proofs.Ytlakpibiojdgeaa.ce Go.Proofs.Ytlakpibiojdgeaa.ro Go.Proofs.Ytlakpibiojdgeaa.draw
set_option linter.unusedVariables false

/-- while a queue is drawn: the cursor in p -/
structure Dq (w : World) (p : Nat) (a0 : Option Addr) (len cap : Nat) (v : Value) (q : List ByteArray) (wr : World) : Prop where
  hp : p < w.heap.size
  cur : Cur wr p a0 len cap
  gb : w.grownBy wr (some p)
  o : Own encS wr w.heap.size wr.heap.size v q
  s : ∀ x ∈ q, x.size ≤ 2000
section
variable {w : World} {p : Nat} {a0 : Option Addr} {len cap : Nat} {v : Value} {q : List ByteArray} {wr w' : World}
theorem Dq.size (D : Dq w p a0 len cap v q wr) : w.heap.size ≤ wr.heap.size := D.gb.size
/-- the cursor has gone on -/
theorem Dq.went (D : Dq w p a0 len cap v q wr) (hc : Cur w' p a0 len cap) (hg : wr.grownBy w' (some p)) : Dq w p a0 len cap v q w' := by
  have hp := D.hp
  exact ⟨D.hp, hc, gb_trans D.gb hg, (D.o.keep fun g h1 h2 => hg.block g h2 (fun e => by cases e; omega)).top, D.s⟩
/-- the queue has been changed -/
theorem Dq.step (D : Dq w p a0 len cap v q wr) {lo : Nat} {v' : Value} {q' : List ByteArray} (hB : Below w.heap.size wr w') (o : Own encS w' w.heap.size lo v' q') (s : ∀ x ∈ q', x.size ≤ 2000) : Dq w p a0 len cap v' q' w' :=
  ⟨D.hp, cur_below D.cur hB D.hp, gb_below D.gb hB (Nat.le_refl _), o.top, s⟩
theorem Dq.grow (D : Dq w p a0 len cap v q wr) (hB : Below wr.heap.size wr w') : Dq w p a0 len cap v q w' := D.step (hB.mono D.size) (D.o.grow hB) D.s
theorem dq_new (hc : Cur w p a0 len cap) (hB : Below w.heap.size w w') (a : Option Addr) : Dq w p a0 len cap (.slice a 0 0) [] w' :=
  ⟨hc.1, cur_below hc hB hc.1, gb_below (World.grownBy.refl _ _) hB (Nat.le_refl _), own_zero _ _ _ _ _, fun x hx => by simp at hx⟩
end
theorem sq_app {N : List ByteArray} {s : ByteArray} (h : ∀ x ∈ N, x.size ≤ 2000) (hs : s.size ≤ 2000) : ∀ x ∈ N ++ [s], x.size ≤ 2000 := fun x hx => by
  rcases List.mem_append.1 hx with q | q
  · exact h x q
  · rw [List.mem_singleton.1 q]; exact hs
theorem tqR_sm {q : List ByteArray} {s : ByteArray} (h : ∀ x ∈ q, x.size ≤ 2000) (hs : s.size ≤ 2000) : (∀ x ∈ tqR q s, x.size ≤ 2000) ∧ (tqR q s).length ≤ q.length + 1 := by
  unfold tqR
  split
  · refine ⟨sq_app (fun x hx => ?_) hs, by simp; omega⟩
    rcases List.mem_append.1 hx with z | z
    · exact h x (List.mem_of_mem_take z)
    · exact h x (List.mem_of_mem_drop z)
  · split
    · exact ⟨sq_app h hs, by simp⟩
    · exact ⟨h, by omega⟩
def odd3q : List ByteArray := [⟨#[]⟩, ⟨#[97]⟩, ⟨#[65]⟩]
theorem odd3q_small : ∀ s ∈ odd3q, s.size ≤ 1 := by
  intro s hs
  simp only [odd3q, List.mem_cons, List.not_mem_nil, or_false] at hs
  rcases hs with rfl | rfl | rfl <;> decide

set_option maxRecDepth 100000 in
set_option maxHeartbeats 2000000 in
theorem l9Draw_any (w : World) (p : Nat) (a0 : Option Addr) (len cap : Nat) (hc : Cur w p a0 len cap) :
    Calls Try.prog 40 #[.pointer (some ⟨p, 0, none⟩)] w fun e w' => ∃ v q, e = .returned v ∧ Dq w p a0 len cap v q w' ∧ q.length ≤ 30 := by
  have D0 : Hid (Dq w p a0 len cap (.slice (some ⟨w.heap.size, 0, none⟩) 0 0) [] (w.alloc (.cells #[] 9))) := dq_new hc ((Below.refl _ _).alloc (Nat.le_refl _) _) _
  clear hc
  go_enter Try.func40, Try.ntmps40
  go_wp2_with (first | (go_at_call 42; refine (below_from _ _ p a0 len cap 8 (by omega) D0.out.cur (World.grownBy.refl _ _)).mono ?_; rintro e w4 ⟨x, rfl, hx0, hx1, hc4, hg4⟩; have D1 := D0.out.went hc4 hg4; obtain ⟨k0, hk0⟩ : ∃ k : Nat, x = k := ⟨x.toNat, by omega⟩; subst hk0) | (fail))
  have D2 : Hid (Dq w p a0 len cap (.slice (some ⟨w.heap.size, 0, none⟩) 0 0) [] w4) := D1
  clear D0 D1 hc4 hg4
  go_loopw [3, 4] (fun u v wr => ∃ (k : Nat) (A : Option Addr) (n c : Nat) (q : List ByteArray), u = .slice A n c ∧ v = .int .i64 k ∧ k ≤ 7 ∧ Hid (Dq w p a0 len cap (.slice A n c) q wr) ∧ q.length + k ≤ 8) (fun _ v _ => (intOf v).toNat)
  case atStart => exact ⟨k0, _, _, _, [], rfl, rfl, by omega, D2, by simp; omega⟩
  case round =>
    obtain ⟨k, A, n, c, q, rfl, rfl, hk, D, hl⟩ := hrel
    by_cases hk0 : 0 < k
    · have hk0' : (0 : Int) < (k : Int) := by omega
      go_wp2_with (first | (go_at_call 50; refine (name_from wr wr p a0 len cap D.out.cur (World.grownBy.refl _ _)).mono ?_; rintro e w5 ⟨s, rfl, hs, hc5, hg5⟩; have D5 := D.out.went hc5 hg5) | (go_at_call 31; refine (l9Touch_any q s (by omega) _ w.heap.size _ _ D5.o D5.size (by omega)).mono ?_; rintro e w6 ⟨v6, rfl, o6, hT6⟩; have hj := tqR_sm D5.s (s := s) (by omega); obtain ⟨A6, n6, c6, rfl⟩ := o6.slice; have D6 : Hid (Dq w p a0 len cap (.slice A6 n6 c6) (tqR q s) w6) := D5.step hT6.low o6 hj.1) | (fail))
      go_roundw
      case rel => exact ⟨k - 1, A6, n6, c6, tqR q s, rfl, by simp; omega, by omega, D6, by omega⟩
      case measure => simp [intOf]; omega
    · have hk0' : ¬ (0 : Int) < (k : Int) := by omega
      have ma : Hid True := trivial
      go_wp2_with (first | (go_at_call 43; refine (once_from wr wr p a0 len cap 12 (by omega) D.out.cur (World.grownBy.refl _ _)).mono ?_; rintro e w5 ⟨x, rfl, hc5, hg5⟩; have D5 : Hid (Dq w p a0 len cap (.slice A n c) q w5) := D.out.went hc5 hg5; cases x) | (go_at_call 42; refine (below_names w5 w5 p a0 len cap odd3q _ 3 1 rfl (by omega) odd3q_small D5.out.cur (World.grownBy.refl _ _)).mono ?_; rintro e w6 ⟨x, s, rfl, hx0, hx1, hcell, hs, hc6, hg6⟩; obtain ⟨j, hj⟩ : ∃ j : Nat, x = j := ⟨x.toNat, by omega⟩; subst hj; rw [Int.toNat_natCast] at hcell; have D6 := D5.out.went hc6 hg6; have hz6 := D6.size) | (clear ma; at_builtin; refine wpList_append_g infoS rfl _ _ 22 rfl Try.underlying22 w.heap.size _ _ q rfl (D6.o.grow ((Below.refl _ _).alloc (Nat.le_refl _) _)) (by simp; omega) _ [s] rfl (rd_new (E := encS) w6 s #[.string s] rfl) (by simp; omega) ?_; intro v7 w7 o7 hT7) | (fail))
      · go_ret
        exact ⟨_, q, rfl, D5.out, by omega⟩
      · go_ret
        exact ⟨_, q ++ [s], rfl, (D6.grow ((Below.refl _ _).alloc (Nat.le_refl _) _)).step hT7.low o7 (sq_app D6.s (by omega)), by simp; omega⟩

/-- what a law has drawn -/
structure GotQ (w : World) (v : Value) (q : List ByteArray) (w' : World) : Prop where
  o : Own encS w' w.heap.size w'.heap.size v q
  s : ∀ x ∈ q, x.size ≤ 2000
  l : q.length ≤ 30
  low : Below w.heap.size w w'
theorem gbq_low {w w2 w3 : World} {p : Nat} (hB : Below w.heap.size w w2) (hp : w.heap.size ≤ p) (hg : w2.grownBy w3 (some p)) : Below w.heap.size w w3 := hB.grown hg hB.size (fun k hk => by cases hk; exact hp)

theorem drawTouched_any (w : World) (a0 : Option Addr) (len cap : Nat) (hcode : CodeAt w a0 len) :
    Calls Try.prog 23 #[.slice a0 len cap] w fun e w' => ∃ v q s, e = .returned (.tuple #[v, .string s]) ∧ s.size ≤ 13 ∧ GotQ w v q w' := by
  have HC : Hid (CodeAt w a0 len) := hcode
  clear hcode
  go_enter Try.func23, Try.ntmps23
  go_wp2_with (first | (go_at_call 39; refine (new_cur w _ _ _ HC.out).mono ?_; rintro e w2 ⟨p, rfl, hp, hc2, hB2⟩; have hz2 := hB2.size) | (go_at_call 40; refine (l9Draw_any w2 p a0 len cap hc2).mono ?_; rintro e w3 ⟨v3, q, rfl, D3, hl⟩; have hB3 := gbq_low hB2 (by omega) D3.gb) | (go_at_call 41; refine (l8DrawName_any w3 w3 p a0 len cap D3.cur (World.grownBy.refl _ _)).mono ?_; rintro e w4 ⟨s, rfl, hs, hc4, hg4⟩; have D4 := D3.went hc4 hg4; have hB4 := gbq_low hB2 (by omega) D4.gb) | (fail))
  go_ret2
  exact ⟨_, q, s, rfl, hs, ⟨D4.o.wide hz2 (Nat.le_refl _), D4.s, hl, hB4⟩⟩

theorem drawWithout_any (w : World) (a0 : Option Addr) (len cap : Nat) (hcode : CodeAt w a0 len) :
    Calls Try.prog 24 #[.slice a0 len cap] w fun e w' => ∃ v q s, e = .returned (.tuple #[v, .string s]) ∧ s.size ≤ 13 ∧ GotQ w v q w' := by
  have HC : Hid (CodeAt w a0 len) := hcode
  clear hcode
  go_enter Try.func24, Try.ntmps24
  go_wp2_with (first | (go_at_call 23; refine (drawTouched_any w _ _ _ HC.out).mono ?_; rintro e w3 ⟨v, q, s, rfl, hs, G⟩) | (fail))
  go_ret2
  exact ⟨_, q, s, rfl, hs, G⟩

theorem drawSampled_any (w : World) (a0 : Option Addr) (len cap : Nat) (hcode : CodeAt w a0 len) :
    Calls Try.prog 27 #[.slice a0 len cap] w fun e w' => ∃ v q, ∃ (x y : Int), e = .returned (.tuple #[v, .int .i64 x, .int .i64 y]) ∧ (-1 ≤ x ∧ x ≤ 1000001) ∧ (0 ≤ y ∧ y ≤ 21) ∧ GotQ w v q w' := by
  have HC : Hid (CodeAt w a0 len) := hcode
  clear hcode
  have m1 : Hid True := trivial
  go_enter Try.func27, Try.ntmps27
  go_upto_if 15 with (first | (go_at_call 39; refine (new_cur w _ _ _ HC.out).mono ?_; rintro e w2 ⟨p, rfl, hp, hc2, hB2⟩; have hz2 := hB2.size) | (go_at_call 40; refine (l9Draw_any w2 p a0 len cap hc2).mono ?_; rintro e w3 ⟨v3, q, rfl, D3, hl⟩; obtain ⟨A3, n3, c3, rfl⟩ := D3.o.slice) | (clear m1; go_at_call 42; refine (below_from w3 w3 p a0 len cap 1000 (by omega) D3.cur (World.grownBy.refl _ _)).mono ?_; rintro e w4 ⟨x, rfl, hx0, hx1, hc4, hg4⟩; have D4 := D3.went hc4 hg4) | (go_at_call 43; refine (once_from w4 w4 p a0 len cap 10 (by omega) D4.cur (World.grownBy.refl _ _)).mono ?_; rintro e w5 ⟨y, rfl, hc5, hg5⟩; have D5 := D4.went hc5 hg5) | (fail))
  have DD : Hid (Dq w2 p a0 len cap (.slice A3 n3 c3) q w5) := D5
  clear D3 D4 D5 hc4 hg4 hc5 hg5 hc2
  go_cut [7] from 15 to 20 (fun u wc => ∃ x : Int, u = .int .i64 x ∧ (-1 ≤ x ∧ x ≤ 1000001) ∧ Hid (Dq w2 p a0 len cap (.slice A3 n3 c3) q wc))
  case first =>
    cases y with
    | false =>
      go_wp2
      go_meet
      case rel => exact ⟨x, rfl, by omega, DD⟩
    | true =>
      go_wp2_with (first | (go_at_call 42; refine (below_lit w5 w5 p a0 len cap [-1, 1000000, 1000001] _ 3 (-1) 1000001 rfl (by omega) (by intro x hx; simp at hx; omega) DD.out.cur (World.grownBy.refl _ _)).mono ?_; rintro e w6 ⟨z, x2, rfl, hz0, hz1, hcell, hlo, hhi, hc6, hg6⟩; obtain ⟨j, hj⟩ : ∃ j : Nat, z = j := ⟨z.toNat, by omega⟩; subst hj; rw [Int.toNat_natCast] at hcell; have D6 := DD.out.went hc6 hg6) | (fail))
      go_meet
      case rel => exact ⟨x2, rfl, by omega, D6⟩
  case rest =>
    obtain ⟨x2, rfl, hx2, D6⟩ := hcut
    go_wp2_with (first | (go_at_call 44; refine (from_from wc wc p a0 len cap 0 21 (by omega) (by omega) (by omega) D6.out.cur (World.grownBy.refl _ _)).mono ?_; rintro e w7 ⟨z, rfl, hz0, hz1, hc7, hg7⟩; have D7 := D6.out.went hc7 hg7) | (fail))
    go_ret3
    exact ⟨_, q, x2, z, rfl, hx2, ⟨hz0, hz1⟩, ⟨D7.o.wide hz2 (Nat.le_refl _), D7.s, hl, gbq_low hB2 (by omega) D7.gb⟩⟩
end Go.Proofs.Ytlakpibiojdgeaa.rg
