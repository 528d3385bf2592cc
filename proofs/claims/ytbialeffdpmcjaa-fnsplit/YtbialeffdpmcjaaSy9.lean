/- Contracts: the iterator over the doors that are opened with one; the program's opened. -/
import Derived.Test.YtbialeffdpmcjaaSy8
import Derived.Test.YtbialeffdpmcjaaIt1
import Derived.RangeFuncBox
namespace Go.Proofs.Ytbialeffdpmcjaa.sx
open Go.RowKit Go.Shelf Go.Proofs.Ytbialeffdpmcjaa.ce Go.Proofs.Ytbialeffdpmcjaa.it
set_option linter.unusedVariables false
attribute [local go_sem] Oper.semAt_some

abbrev TI : TypeId := 2
def encD (x : Int) : Array Value := #[.int .i64 x]

theorem openedWith_any (b : Int) (w : World) : Calls Try.prog 85 #[.int .i64 b] w fun e w' => e = .returned (.func (.func 92) #[] #[.pointer (some ⟨w.heap.size, 0, none⟩)]) ∧ w' = w.alloc (.cells #[.int .i64 b] TI) := by
  have hmf : ∀ (fn : Fn) (first cap : Array Value) (w : World), (Instr.makeFunc fn first cap).run Try.prog w = .ok (.func fn first cap) w := fun _ _ _ _ => rfl
  go_enter Try.func85, Try.ntmps85
  go_wp2
  go_ret
  exact ⟨rfl, rfl⟩

set_option maxRecDepth 100000 in
set_option maxHeartbeats 2000000 in
theorem opened1_seq (b : Int) (h0 : 0 ≤ b) (h1 : b ≤ 32767) (n₀ Bn : Nat) (w : World) (hB : Boxed w Bn TI (.int .i64 b)) (n : Nat) :
    Seq n Try.prog 92 #[.pointer (some ⟨Bn, 0, none⟩)] encD TI TI n₀ (doorsL (b.toNat + 1) b) w := by
  intro l J Jx W hW hJ hJx hY hj0
  have hBW : Boxed W Bn TI (.int .i64 b) := (hW.block Bn hB.lt).trans hB
  have hbc := hBW.cell
  clear hB
  refine callsIn_of_wp Try.func92 rfl trivial ?_ rfl
  simp only [Try.ntmps92, List.size_toArray, List.length_cons, List.length_nil, Nat.reduceAdd, Nat.reduceSub, Array.replicate_succ, Array.replicate_zero, List.push_toArray, List.append_toArray, List.nil_append, List.cons_append]
  gi_wp2
  gi_loopw [3] (fun p wr => ∃ (A : List Int) (f : Nat) (q : Int), p = .int .i64 q ∧ Hid (doorsL (b.toNat + 1) b = A ++ doorsL f q) ∧ -1 ≤ q ∧ q ≤ 32767 ∧ q + 1 ≤ f ∧ Hid (J A wr))
    (fun p wr => (intOf p + 1).toNat)
  case atStart => exact ⟨[], b.toNat + 1, b, rfl, (rfl : doorsL (b.toNat + 1) b = [] ++ doorsL (b.toNat + 1) b), by omega, h1, by omega, hj0⟩
  case round =>
    obtain ⟨A, f, q, rfl, hc, hq0, hq1, hqf, hj⟩ := hrel
    by_cases hq : q = -1
    · subst hq
      have e : Hid (doorsL (b.toNat + 1) b = A) := by unfold Hid; rw [hc.out, doorsL_neg (by omega), List.append_nil]
      gi_wp2
      go_end0
      exact ⟨⟨_, rfl⟩, .inl (by rw [e.out]; exact hj.out)⟩
    · have hne : (q != -1) = true := by simpa using hq
      obtain ⟨f', rfl⟩ : ∃ f', f = f' + 1 := ⟨f - 1, by omega⟩
      have hd : Hid (doorsL (b.toNat + 1) b = A ++ q :: doorsL f' (parent q)) := by unfold Hid; rw [hc.out, doorsL_cons (by omega)]
      obtain ⟨fn, tmps, assign, body, hy, hR⟩ := hY A q (doorsL f' (parent q)) wr hd.out hj.out
      dsimp only [encD] at hy
      have hpb : -1 ≤ parent q ∧ parent q < q := by
        by_cases hz : q = 0
        · subst hz; rw [parent_zero]; omega
        · have := parent_lt (b := q) (by omega) hq1; omega
      gi_wp2
      refine ⟨fun h => (by cases h), hR.mono ?_⟩
      rintro e W3 (⟨rfl, hj3, hk3, -⟩ | ⟨rfl, hx3, -⟩)
      · have HJ : Hid (J (A ++ [q]) W3) := hj3
        have hd2 : Hid (doorsL (b.toNat + 1) b = (A ++ [q]) ++ doorsL f' (parent q)) := by unfold Hid; rw [hd.out]; simp
        gi_wp2_with (first | (refine ⟨trivial, fun h => (by cases h), ?_⟩; gi_at_call 93; refine (callsIn_wide.2 (implParentOf_any _ _)).mono ?_; rintro er wq ⟨rfl, hq⟩; subst wq) | (fail))
        go_roundw
        case rel => exact ⟨A ++ [q], f', parent q, rfl, hd2, by omega, by omega, by omega, HJ⟩
        case measure => simp [intOf]; omega
      · gi_wp2
        refine bodyPost_ret (results_none rfl _ _ _) rfl ?_
        exact ⟨⟨_, rfl⟩, .inr ⟨_, doorsL f' (parent q), by rw [hd.out]; simp, hx3⟩⟩
end Go.Proofs.Ytbialeffdpmcjaa.sx
