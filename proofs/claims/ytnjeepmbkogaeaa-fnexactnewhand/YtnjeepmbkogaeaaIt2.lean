/- The chain's iterator: what it yields, one by one. -/
import Derived.Test.YtnjeepmbkogaeaaIt1
import Derived.Test.YtnjeepmbkogaeaaCeChain
namespace Go.Proofs.Ytnjeepmbkogaeaa.it
open Go.RowKit Go.Shelf Go.Proofs.Ytnjeepmbkogaeaa.ce
set_option linter.unusedVariables false

abbrev T1 : TypeId := 58
abbrev T2 : TypeId := 70
def links (H : List C) (L : List Int) : List (Int × C) := L.map fun p => (p, nth H p)
def encL (x : Int × C) : Array Value := #[.int .i64 x.1, .agg #[.int .i64 x.2.key, .int .i64 x.2.value, .int .i64 x.2.next, .bool x.2.gone]]

theorem chained_any (v : Value) (a : Option Addr) (n cap : Nat) (hv : v = .slice a n cap) (w : World) :
    Calls Try.prog 78 #[v] w fun e w' => e = .returned (.func (.func 86) #[] #[.pointer (some ⟨w.heap.size, 0, none⟩)]) ∧ w' = w.alloc (.cells #[v] T1) := by
  subst hv
  go_enter Try.func78, Try.ntmps78
  go_wp2
  go_ret
  exact ⟨rfl, rfl⟩

theorem links_snoc (H : List C) (A : List Int) (p : Int) : links H (A ++ [p]) = links H A ++ [(p, nth H p)] := by simp [links]

set_option maxRecDepth 100000 in
set_option maxHeartbeats 2000000 in
theorem chained1_seq (H : List C) (u : Up H) (hlen : H.length ≤ 1048576) (v : Value) (hi n₀ Bn : Nat) (w : World) (hn₀ : n₀ ≤ w.heap.size) (hh : hi ≤ n₀) (hB : Boxed w Bn T1 v) (r : Rd w hi v H) (n : Nat) :
    Seq n Try.prog 86 #[.pointer (some ⟨Bn, 0, none⟩)] encL T1 T2 n₀ (links H (chain H)) w := by
  intro l J Jx W hW hJ hJx hY h0
  have hBW : Boxed W Bn T1 v := (hW.block Bn hB.lt).trans hB
  have rW : Rd W hi v H := r.below hW (by omega)
  obtain ⟨a, cap, rfl⟩ := r.form
  clear r hB
  refine callsIn_of_wp Try.func86 rfl trivial ?_ rfl
  simp only [Try.ntmps86, List.size_toArray, List.length_cons, List.length_nil, Nat.reduceAdd, Nat.reduceSub, Array.replicate_succ, Array.replicate_zero, List.push_toArray, List.append_toArray, List.nil_append, List.cons_append]
  gi_wp2
  gi_loopw [3] (fun p wr => ∃ (A L : List Int) (q : Int), p = .int .i64 q ∧ chain H = A ++ L ∧ Ch H q L ∧ (q = -1 ∨ ce.has H q) ∧ Boxed wr Bn T1 (.slice a H.length cap) ∧ Rd wr hi (.slice a H.length cap) H ∧ J (links H A) wr)
    (fun p wr => left H (intOf p))
  case atStart =>
    exact ⟨[], chain H, 0, rfl, rfl, chain_ch u, .inr (has_zero u), hBW, rW, h0⟩
  case round =>
    obtain ⟨A, L, q, rfl, hc, hch, hq, hb, hr, hj⟩ := hrel
    cases L with
    | nil =>
      have hq0 : q < 0 := hch
      obtain rfl : q = -1 := by rcases hq with e | e; (· exact e); (· have := e.1; omega)
      gi_wp2
      go_end0
      exact ⟨⟨_, rfl⟩, .inl (by first | exact hj | (rw [hc, List.append_nil]; exact hj))⟩
    | cons y L =>
      obtain ⟨rfl, hq0, hch'⟩ := hch
      have hh1 : ce.has H q := by rcases hq with e | e; (· omega); (· exact e)
      obtain ⟨i, rfl⟩ : ∃ i : Nat, q = i := ⟨q.toNat, by omega⟩
      have hi1 : i < H.length := by have := hh1.2; omega
      have hi1' : (i : Int) < H.length := by omega
      have en := nth_nat H i hi1
      have hne : (((i : Int) == -1) = false) := by simp
      obtain ⟨b, off, rfl, hbh, c0, c1, c2, c3⟩ := hr.cell i hi1
      have hbc := hb.cell
      obtain ⟨fn, tmps, assign, body, hy, hR⟩ := hY (links H A) ((i : Int), nth H i) (links H L) wr (by rw [hc]; simp [links]) hj
      rw [en] at hy
      dsimp only [encL] at hy
      gi_wp2
      refine ⟨fun h => (by cases h), hR.mono ?_⟩
      rintro e W3 (⟨rfl, hj3, hk3, -⟩ | ⟨rfl, hx3, -⟩)
      · have hb3 := hk3.box Bn T1 _ (.inl rfl) hb
        have hr3 := hr.below hk3.below hh
        have hbc3 := hb3.cell
        have c23 : W3.cell? ⟨b, off + i * 4 + 2, none⟩ = some (.int .i64 (H[i]).next) := (hk3.below.cell (p := ⟨b, off + i * 4 + 2, none⟩) (Nat.lt_of_lt_of_le hbh hh)).trans c2
        clear hbc c0 c1 c2 c3
        gi_wp2
        go_roundw
        case rel =>
          refine ⟨A ++ [(i : Int)], L, (H[i]).next, rfl, by simp [hc], by rw [← en]; exact hch', ?_, hb3, hr3, by rw [links_snoc]; exact hj3⟩
          rw [← en]
          rcases u.next _ hh1 with e | e
          · exact .inl e
          · exact .inr e.1
        case measure =>
          show left H (H[i]).next < left H (i : Int)
          rw [← en]
          exact left_lt u hh1
      · gi_wp2
        refine bodyPost_ret (results_none rfl _ _ _) rfl ?_
        exact ⟨⟨_, rfl⟩, .inr ⟨_, links H L, by rw [hc]; simp [links], hx3⟩⟩
end Go.Proofs.Ytnjeepmbkogaeaa.it
