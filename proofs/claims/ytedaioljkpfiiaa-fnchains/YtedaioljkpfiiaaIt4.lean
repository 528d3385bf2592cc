/- The iterator of those that live: what it yields, one by one. -/
import Derived.Test.YtedaioljkpfiiaaIt3
namespace Go.Proofs.Ytedaioljkpfiiaa.it
open Go.RowKit Go.Shelf Go.Proofs.Ytedaioljkpfiiaa.ce
set_option linter.unusedVariables false
attribute [local go_sem] Oper.semAt_some

def livesOf (pre : List (Int × C)) : List C := (pre.filter fun x => x.1 != 0 && !x.2.gone).map Prod.snd
def lives (H : List C) : List C := livesOf (links H (chain H))
theorem livesOf_append (A B : List (Int × C)) : livesOf (A ++ B) = livesOf A ++ livesOf B := by simp [livesOf, List.filter_append]
theorem livesOf_miss (A : List (Int × C)) (x : Int × C) (h : (x.1 != 0 && !x.2.gone) = false) : livesOf (A ++ [x]) = livesOf A := by simp [livesOf, h]
theorem livesOf_hit (A : List (Int × C)) (x : Int × C) (h : (x.1 != 0 && !x.2.gone) = true) : livesOf (A ++ [x]) = livesOf A ++ [x.2] := by simp only [livesOf_append]; simp [livesOf, h]
theorem livesOf_cons (x : Int × C) (B : List (Int × C)) (h : (x.1 != 0 && !x.2.gone) = true) : livesOf (x :: B) = x.2 :: livesOf B := by simp [livesOf, h]
def encC (x : C) : Array Value := #[.agg #[.int .i64 x.key, .int .i64 x.value, .int .i64 x.next, .bool x.gone]]

theorem roundIn_any {m m' : Nat} {P : Program} {l l' : Nat} {f : FuncId} {tmps : Array Value} {assign body : Code} {w : World} {R : Ending → World → Prop} (h : RoundIn Fence.wide m P l f tmps assign body w R) : RoundIn (Fence.wide.inRound l') m' P l f tmps assign body w R :=
  ⟨trivial, fun c cs _ => h.2 c cs (room_wide _)⟩

theorem living_any (v : Value) (a : Option Addr) (n cap : Nat) (hv : v = .slice a n cap) (w : World) :
    Calls Try.prog 36 #[v] w fun e w' => e = .returned (.func (.func 45) #[] #[.pointer (some ⟨w.heap.size, 0, none⟩)]) ∧ w' = w.alloc (.cells #[v] T1) := by
  subst hv
  go_enter Try.func36, Try.ntmps36
  go_wp2
  go_ret
  exact ⟨rfl, rfl⟩

set_option maxRecDepth 100000 in
set_option maxHeartbeats 2000000 in
theorem living1_seq (H : List C) (u : Up H) (hlen : H.length ≤ 1048576) (v : Value) (hi n₀ Bn : Nat) (w : World) (hn₀ : n₀ ≤ w.heap.size) (hh : hi ≤ n₀) (hB : Boxed w Bn T1 v) (r : Rd w hi v H) (n : Nat) (hn : 1 ≤ n) :
    Seq n Try.prog 45 #[.pointer (some ⟨Bn, 0, none⟩)] encC T1 T2 n₀ (lives H) w := by
  intro l J Jx W hW hJ hJx hY h0
  have hBW : Boxed W Bn T1 v := (hW.block Bn hB.lt).trans hB
  have rW : Hid (Rd W hi v H) := r.below hW (by omega)
  obtain ⟨a, cap, rfl⟩ := r.form
  have hWs := hW.size
  have hBc := (hBW.alloc (.cells #[.func (.yield l) #[] #[]] T2)).cell
  clear r hB
  refine callsIn_of_wp_marks Try.func45 rfl trivial ?_ rfl
  simp only [Try.ntmps45, List.size_toArray, List.length_cons, List.length_nil, Nat.reduceAdd, Nat.reduceSub, Array.replicate_succ, Array.replicate_zero, List.push_toArray, List.append_toArray, List.nil_append, List.cons_append]
  gi_wp2_with (first | (refine ⟨trivial, ?_⟩; gi_at_call 33; refine (callsIn_wide.2 (chained_any _ _ _ _ rfl _)).mono ?_; rintro e w2 ⟨rfl, rfl⟩) | (fail))
  have bY := (Boxed.new W T2 (.func (.yield l) #[] #[])).alloc (.cells #[.slice a H.length cap] T1)
  have bH := Boxed.new (W.alloc (.cells #[.func (.yield l) #[] #[]] T2)) T1 (.slice a H.length cap)
  rw [World.size_alloc] at bH
  have hB2 : Below W.heap.size W ((W.alloc (.cells #[.func (.yield l) #[] #[]] T2)).alloc (.cells #[.slice a H.length cap] T1)) := ((Below.refl _ W).alloc (Nat.le_refl _) _).alloc (by simp) _
  have hJ2 : J [] ((W.alloc (.cells #[.func (.yield l) #[] #[]] T2)).alloc (.cells #[.slice a H.length cap] T1)) := hJ.alloc _ (hJ.alloc _ h0)
  obtain ⟨W0, hW0⟩ : ∃ W0, (W.alloc (.cells #[.func (.yield l) #[] #[]] T2)).alloc (.cells #[.slice a H.length cap] T1) = W0 := ⟨_, rfl⟩
  have hsz : W0.heap.size = W.heap.size + 2 := by rw [← hW0]; simp
  rw [hW0] at bY bH hB2 hJ2 ⊢
  refine range_law n (w := W0) (gf := 44) (lb := #[.pointer (some ⟨W.heap.size + 1, 0, none⟩)]) rfl (enters_of Try.func44 (by kernel_rfl) rfl)
    (chained1_seq H u hlen _ hi n₀ (W.heap.size + 1) W0 (by omega) hh bH (rW.out.below hB2 (by omega)) (n - 1)) (by omega) (Below.refl _ _) (fun _ => rfl)
    (fun pre W' => J (livesOf pre) W' ∧ Boxed W' W.heap.size T2 (.func (.yield l) #[] #[]))
    (fun pre W' => Jx (livesOf pre) W')
    (OwnFrom.and (ownFrom_mono (fun s => hJ (livesOf s)) (by omega)) (Own.from (boxed_own _ _ (fun _ : List (Int × C) => Value.func (.yield l) #[] #[])) _))
    (ownFrom_mono (fun s => hJx (livesOf s)) (by omega))
    ⟨hJ2, bY⟩ ?round ?done ?stop
  case round =>
    rintro l' pre x rest W1 hx hlt -
    have hlv : Hid (lives H = livesOf pre ++ livesOf (x :: rest)) := by unfold Hid lives; rw [hx, livesOf_append]
    obtain ⟨p, k, z, m, g⟩ := x
    dsimp only [encL]
    gi_wp2
    refine ⟨World.grownBy_alloc W1 _ none, ?_⟩
    rintro Wb - hsame ⟨hj, hy0⟩
    have hV : VBlk Wb W1.heap.size 45 [.int .i64 k, .int .i64 z, .int .i64 m, .bool g] := (hsame _ (by omega)).trans (heap_alloc_new _ _)
    have c0 := hV.cell 0 (by simp)
    have c1 := hV.cell 1 (by simp)
    have c2 := hV.cell 2 (by simp)
    have c3 := hV.cell 3 (by simp)
    simp only [List.getElem_cons_zero, List.getElem_cons_succ] at c0 c1 c2 c3
    have hyc := hy0.cell
    clear hsame
    by_cases hp : p = 0
    · subst hp
      have e : Hid (livesOf (pre ++ [((0 : Int), (⟨k, z, m, g⟩ : C))]) = livesOf pre) := livesOf_miss _ _ (by simp)
      gi_wp2
      refine ⟨fun _ h => (by cases h), ?_⟩
      gi_wp2
      exact ⟨KeepsFrom.refl _ _, Kp.refl _, by rw [e.out]; exact hj, hy0⟩
    · have hp' : (p != 0) = true := by simpa using hp
      cases g with
      | true =>
        have e : Hid (livesOf (pre ++ [(p, (⟨k, z, m, true⟩ : C))]) = livesOf pre) := livesOf_miss _ _ (by simp)
        gi_wp2
        refine ⟨fun _ h => (by cases h), ?_⟩
        gi_wp2
        exact ⟨KeepsFrom.refl _ _, Kp.refl _, by rw [e.out]; exact hj, hy0⟩
      | false =>
        have e : Hid (livesOf (pre ++ [(p, (⟨k, z, m, false⟩ : C))]) = livesOf pre ++ [⟨k, z, m, false⟩]) := livesOf_hit _ _ (by simpa using hp)
        have e2 : Hid (livesOf ((p, (⟨k, z, m, false⟩ : C)) :: rest) = ⟨k, z, m, false⟩ :: livesOf rest) := livesOf_cons _ _ (by simpa using hp)
        obtain ⟨fn, tmps, assign, body, hy, hR⟩ := hY (livesOf pre) ⟨k, z, m, false⟩ (livesOf rest) Wb (by rw [hlv.out, e2.out]) hj
        dsimp only [encC] at hy
        gi_wp2
        refine ⟨fun h => (by cases h), (roundIn_any hR).mono ?_⟩
        rintro e' W3 (⟨rfl, hj3, hk3, hf3⟩ | ⟨rfl, hx3, hf3⟩)
        · gi_wp2
          exact ⟨keepsFrom_mono hf3 (by omega), hk3, by rw [e.out]; exact hj3, hk3.box _ _ _ (.inr rfl) hy0⟩
        · gi_wp2
          exact ⟨keepsFrom_mono hf3 (by omega), by show Jx (livesOf _) W3; rw [e.out]; exact hx3⟩
  case done =>
    rintro D W3 hD ⟨hj, -⟩ hK
    gi_wp2
    refine ⟨by simp, .inl ⟨_, _, rfl, run_takeDeferred hK, ?_⟩⟩
    exact ⟨_, results_none rfl _ _ _, ⟨_, rfl⟩, .inl (hJ.putObj _ hj (by omega) hK rfl)⟩
  case stop =>
    rintro D pre rest W3 hx hD hj hK
    gi_wp2
    refine ⟨by simp, .inl ⟨_, _, rfl, run_takeDeferred hK, ?_⟩⟩
    refine ⟨_, results_none rfl _ _ _, ⟨_, rfl⟩, .inr ⟨livesOf pre, livesOf rest, ?_, hJx.putObj _ hj (by omega) hK rfl⟩⟩
    unfold lives
    rw [hx, livesOf_append]
end Go.Proofs.Ytedaioljkpfiiaa.it
