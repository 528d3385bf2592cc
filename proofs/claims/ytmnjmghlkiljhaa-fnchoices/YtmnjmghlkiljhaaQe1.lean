/- What the laws of chapter 9 draw: queues, with a name, with numbers. -/
import Derived.Test.YtmnjmghlkiljhaaMg14
import Derived.Test.YtmnjmghlkiljhaaMg02
import Derived.Deep.DeepCutAuto
namespace Go.Proofs.Ytmnjmghlkiljhaa.rg
open Go.ChangeShapes Go.WideShapes Go.ChangeAt Go.RowKit
open Go.Proofs.Ytmnjmghlkiljhaa.ce Go.Proofs.Ytmnjmghlkiljhaa.ro Go.Proofs.Ytmnjmghlkiljhaa.draw
set_option linter.unusedVariables false

/-- while a queue is drawn: the cursor in p -/
structure Dq (w : World) (p : Nat) (a0 : Option Addr) (len cap : Nat) (v : Value) (q : List ByteArray) (wr : World) : Prop where
  hp : p < w.heap.size
  cur : Cur wr p a0 len cap
  gb : w.grownBy wr (some p)
  o : Own encS wr w.heap.size wr.heap.size v q
  s : ∀ x ∈ q, x.size ≤ 2000
section
variable {w : World} {p : Nat} {a0 : Option Addr} {len cap : Nat} {v : Value} {q : List ByteArray} {wr w' : World}
theorem Dq.size (D : Dq w p a0 len cap v q wr) : w.heap.size ≤ wr.heap.size := D.gb.size
/-- the cursor has gone on -/
theorem Dq.went (D : Dq w p a0 len cap v q wr) (hc : Cur w' p a0 len cap) (hg : wr.grownBy w' (some p)) : Dq w p a0 len cap v q w' := by
  have hp := D.hp
  exact ⟨D.hp, hc, gb_trans D.gb hg, (D.o.keep fun g h1 h2 => hg.block g h2 (fun e => by cases e; omega)).top, D.s⟩
/-- the queue has been changed -/
theorem Dq.step (D : Dq w p a0 len cap v q wr) {lo : Nat} {v' : Value} {q' : List ByteArray} (hB : Below w.heap.size wr w') (o : Own encS w' w.heap.size lo v' q') (s : ∀ x ∈ q', x.size ≤ 2000) : Dq w p a0 len cap v' q' w' :=
  ⟨D.hp, cur_below D.cur hB D.hp, gb_below D.gb hB (Nat.le_refl _), o.top, s⟩
theorem Dq.grow (D : Dq w p a0 len cap v q wr) (hB : Below wr.heap.size wr w') : Dq w p a0 len cap v q w' := D.step (hB.mono D.size) (D.o.grow hB) D.s
theorem dq_new (hc : Cur w p a0 len cap) (hB : Below w.heap.size w w') (a : Option Addr) : Dq w p a0 len cap (.slice a 0 0) [] w' :=
  ⟨hc.1, cur_below hc hB hc.1, gb_below (World.grownBy.refl _ _) hB (Nat.le_refl _), own_zero _ _ _ _ _, fun x hx => by simp at hx⟩
end
theorem sq_app {N : List ByteArray} {s : ByteArray} (h : ∀ x ∈ N, x.size ≤ 2000) (hs : s.size ≤ 2000) : ∀ x ∈ N ++ [s], x.size ≤ 2000 := fun x hx => by
  rcases List.mem_append.1 hx with q | q
  · exact h x q
  · rw [List.mem_singleton.1 q]; exact hs
theorem tqR_sm {q : List ByteArray} {s : ByteArray} (h : ∀ x ∈ q, x.size ≤ 2000) (hs : s.size ≤ 2000) : (∀ x ∈ tqR q s, x.size ≤ 2000) ∧ (tqR q s).length ≤ q.length + 1 := by
  unfold tqR
  split
  · refine ⟨sq_app (fun x hx => ?_) hs, by simp; omega⟩
    rcases List.mem_append.1 hx with z | z
    · exact h x (List.mem_of_mem_take z)
    · exact h x (List.mem_of_mem_drop z)
  · split
    · exact ⟨sq_app h hs, by simp⟩
    · exact ⟨h, by omega⟩
def odd3q : List ByteArray := [⟨#[]⟩, ⟨#[97]⟩, ⟨#[65]⟩]
theorem odd3q_small : ∀ s ∈ odd3q, s.size ≤ 1 := by
  intro s hs
  simp only [odd3q, List.mem_cons, List.not_mem_nil, or_false] at hs
  rcases hs with rfl | rfl | rfl <;> decide

set_option maxRecDepth 100000 in
set_option maxHeartbeats 2000000 in
theorem l9Draw_any (w : World) (p : Nat) (a0 : Option Addr) (len cap : Nat) (hc : Cur w p a0 len cap) :
    Calls Try.prog 89 #[.pointer (some ⟨p, 0, none⟩)] w fun e w' => ∃ v q, e = .returned v ∧ Dq w p a0 len cap v q w' ∧ q.length ≤ 30 := by
  have D0 : Hid (Dq w p a0 len cap (.slice (some ⟨w.heap.size, 0, none⟩) 0 0) [] (w.alloc (.cells #[] 9))) := dq_new hc ((Below.refl _ _).alloc (Nat.le_refl _) _) _
  clear hc
  go_enter Try.func89, Try.ntmps89
  go_wp2_with (first | (go_at_call 73; refine (below_from _ _ p a0 len cap 8 (by omega) D0.out.cur (World.grownBy.refl _ _)).mono ?_; rintro e w4 ⟨x, rfl, hx0, hx1, hc4, hg4⟩; have D1 := D0.out.went hc4 hg4; obtain ⟨k0, hk0⟩ : ∃ k : Nat, x = k := ⟨x.toNat, by omega⟩; subst hk0) | (fail))
  have D2 : Hid (Dq w p a0 len cap (.slice (some ⟨w.heap.size, 0, none⟩) 0 0) [] w4) := D1
  clear D0 D1 hc4 hg4
  go_loopw [3, 4] (fun u v wr => ∃ (k : Nat) (A : Option Addr) (n c : Nat) (q : List ByteArray), u = .slice A n c ∧ v = .int .i64 k ∧ k ≤ 7 ∧ Hid (Dq w p a0 len cap (.slice A n c) q wr) ∧ q.length + k ≤ 8) (fun _ v _ => (intOf v).toNat)
  case atStart => exact ⟨k0, _, _, _, [], rfl, rfl, by omega, D2, by simp; omega⟩
  case round =>
    obtain ⟨k, A, n, c, q, rfl, rfl, hk, D, hl⟩ := hrel
    by_cases hk0 : 0 < k
    · have hk0' : (0 : Int) < (k : Int) := by omega
      go_wp2_with (first | (go_at_call 86; refine (name_from wr wr p a0 len cap D.out.cur (World.grownBy.refl _ _)).mono ?_; rintro e w5 ⟨s, rfl, hs, hc5, hg5⟩; have D5 := D.out.went hc5 hg5) | (go_at_call 109; refine (l9Touch_any q s (by omega) _ w.heap.size _ _ D5.o D5.size (by omega)).mono ?_; rintro e w6 ⟨v6, rfl, o6, hT6⟩; have hj := tqR_sm D5.s (s := s) (by omega); obtain ⟨A6, n6, c6, rfl⟩ := o6.slice; have D6 : Hid (Dq w p a0 len cap (.slice A6 n6 c6) (tqR q s) w6) := D5.step hT6.low o6 hj.1) | (fail))
      go_roundw
      case rel => exact ⟨k - 1, A6, n6, c6, tqR q s, rfl, by simp; omega, by omega, D6, by omega⟩
      case measure => simp [intOf]; omega
    · have hk0' : ¬ (0 : Int) < (k : Int) := by omega
      have ma : Hid True := trivial
      go_wp2_with (first | (go_at_call 87; refine (once_from wr wr p a0 len cap 12 (by omega) D.out.cur (World.grownBy.refl _ _)).mono ?_; rintro e w5 ⟨x, rfl, hc5, hg5⟩; have D5 : Hid (Dq w p a0 len cap (.slice A n c) q w5) := D.out.went hc5 hg5; cases x) | (go_at_call 73; refine (below_names w5 w5 p a0 len cap odd3q _ 3 1 rfl (by omega) odd3q_small D5.out.cur (World.grownBy.refl _ _)).mono ?_; rintro e w6 ⟨x, s, rfl, hx0, hx1, hcell, hs, hc6, hg6⟩; obtain ⟨j, hj⟩ : ∃ j : Nat, x = j := ⟨x.toNat, by omega⟩; subst hj; rw [Int.toNat_natCast] at hcell; have D6 := D5.out.went hc6 hg6; have hz6 := D6.size) | (clear ma; at_builtin; refine wpList_append_g infoS rfl _ _ 24 rfl Try.underlying24 w.heap.size _ _ q rfl (D6.o.grow ((Below.refl _ _).alloc (Nat.le_refl _) _)) (by simp; omega) _ [s] rfl (rd_new (E := encS) w6 s #[.string s] rfl) (by simp; omega) ?_; intro v7 w7 o7 hT7) | (fail))
      · go_ret
        exact ⟨_, q, rfl, D5.out, by omega⟩
      · go_ret
        exact ⟨_, q ++ [s], rfl, (D6.grow ((Below.refl _ _).alloc (Nat.le_refl _) _)).step hT7.low o7 (sq_app D6.s (by omega)), by simp; omega⟩

/-- what a law has drawn -/
structure GotQ (w : World) (v : Value) (q : List ByteArray) (w' : World) : Prop where
  o : Own encS w' w.heap.size w'.heap.size v q
  s : ∀ x ∈ q, x.size ≤ 2000
  l : q.length ≤ 30
  low : Below w.heap.size w w'
theorem gbq_low {w w2 w3 : World} {p : Nat} (hB : Below w.heap.size w w2) (hp : w.heap.size ≤ p) (hg : w2.grownBy w3 (some p)) : Below w.heap.size w w3 := hB.grown hg hB.size (fun k hk => by cases hk; exact hp)

end Go.Proofs.Ytmnjmghlkiljhaa.rg
