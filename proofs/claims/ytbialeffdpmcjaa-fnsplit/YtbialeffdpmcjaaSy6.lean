/- Contracts: what the program calls of Go's library: a key is looked for by halves; slices are joined. -/
import Derived.Test.YtbialeffdpmcjaaSy4
import Derived.Lib.AppendZerosOnto
import Derived.Deep.LoopGhost
namespace Go.Proofs.Ytbialeffdpmcjaa.sx
open Go.ChangeShapes Go.WideShapes Go.ChangeAt Go.RowKit
open Go.Proofs.Ytbialeffdpmcjaa.ce
set_option linter.unusedVariables false

theorem less_any (x y : Int) (w : World) : Calls Try.prog 94 #[.int .i64 x, .int .i64 y] w fun e w' => e = .returned (.bool (decide (x < y))) ∧ w' = w := by
  go_enter Try.func94, Try.ntmps94
  go_wp2_with go_in
  go_ret
  exact ⟨rfl, rfl⟩
theorem search_end {ks : List Int} {key : Int} (hs : ks.Pairwise (· < ·)) {p : Nat} (hp : p ≤ ks.length) (h1 : ∀ t (h : t < ks.length), t < p → ks[t] < key) (h2 : ∀ t (h : t < ks.length), p ≤ t → key ≤ ks[t]) : pos key ks = p :=
  pos_unique key ks p hp h1 (fun h => h2 p h (Nat.le_refl _))

set_option maxRecDepth 100000 in
set_option maxHeartbeats 4000000 in
theorem search_any (ks : List Int) (key : Int) (hs : ks.Pairwise (· < ·)) (hlen : ks.length ≤ 1000000) (v : Value) (hi : Nat) (w : World) (r : RdS w hi v ks) :
    Calls Try.prog 87 #[v, .int .i64 key] w fun e w' => e = .returned (.tuple #[.int .i64 (pos key ks : Nat), .bool (isAt ks key)]) ∧ w' = w := by
  obtain ⟨b, off, cap, rfl, hc1, hc2, hbh⟩ := r.form
  have R : Hid (RdS w hi (.slice (some ⟨b, off, none⟩) ks.length cap) ks) := r
  have S : Hid (∀ i j (_ : i < ks.length) (_ : j < ks.length), i < j → ks[i] < ks[j]) := List.pairwise_iff_getElem.1 hs
  have HS : Hid (ks.Pairwise (· < ·)) := hs
  clear r hs
  obtain ⟨P, hP⟩ := hid_ex (pos key ks)
  obtain ⟨z, hz⟩ := hid_ex (isAt ks key)
  rw [hP.out, hz.out]
  go_enter Try.func87, Try.ntmps87
  go_wp2
  go_loopg [7, 8] ks.length (fun g s7 s8 wr => ∃ lo hi : Nat, s7 = .int .i64 lo ∧ s8 = .int .i64 hi ∧ lo ≤ hi ∧ hi ≤ ks.length ∧ hi - lo ≤ g ∧ wr = w ∧ Hid (∀ t (h : t < ks.length), t < lo → ks[t] < key) ∧ Hid (∀ t (h : t < ks.length), hi ≤ t → key ≤ ks[t]))
  case atStart => exact ⟨0, ks.length, rfl, rfl, Nat.zero_le _, Nat.le_refl _, by omega, rfl, fun t h ht => absurd ht (Nat.not_lt_zero _), fun t h h1 => absurd h (by omega)⟩
  case round =>
    obtain ⟨lo, hi', rfl, rfl, hlh, hin, hg, rfl, h1, h2⟩ := hrel
    by_cases hlt : lo < hi'
    · have hm : (lo + hi') / 2 < ks.length := by omega
      have cm := R.out.cell ((lo + hi') / 2) hm
      obtain ⟨y, hy⟩ := hid_ex (ks[(lo + hi') / 2])
      rw [hy.out] at cm
      by_cases hyx : y < key
      · have n1 : Hid (∀ t (h : t < ks.length), t < (lo + hi') / 2 + 1 → ks[t] < key) := fun t h ht => by
          by_cases e : t = (lo + hi') / 2
          · subst e; rw [hy.out]; exact hyx
          · have := S.out t ((lo + hi') / 2) h hm (by omega)
            rw [hy.out] at this
            omega
        go_wp2_with (first | (go_at_call 94; refine (less_any _ _ _).mono ?_; rintro e wq ⟨rfl, hq⟩; subst wq) | (fail))
        go_roundg (hi' - ((lo + hi') / 2 + 1))
        case measure => omega
        case rel => exact ⟨(lo + hi') / 2 + 1, hi', by rw [show ((lo : Int) + (hi' : Int)) / 2 + 1 = (((lo + hi') / 2 + 1 : Nat) : Int) by omega], rfl, by omega, hin, Nat.le_refl _, rfl, n1, h2⟩
      · have n2 : Hid (∀ t (h : t < ks.length), (lo + hi') / 2 ≤ t → key ≤ ks[t]) := fun t h ht => by
          by_cases e : t = (lo + hi') / 2
          · subst e; rw [hy.out]; omega
          · have := S.out ((lo + hi') / 2) t hm h (by omega)
            rw [hy.out] at this
            omega
        go_wp2_with (first | (go_at_call 94; refine (less_any _ _ _).mono ?_; rintro e wq ⟨rfl, hq⟩; subst wq) | (fail))
        go_roundg ((lo + hi') / 2 - lo)
        case measure => omega
        case rel => exact ⟨lo, (lo + hi') / 2, rfl, by rw [show ((lo : Int) + (hi' : Int)) / 2 = (((lo + hi') / 2 : Nat) : Int) by omega], by omega, by omega, Nat.le_refl _, rfl, h1, n2⟩
    · obtain rfl : hi' = lo := by omega
      have eP := search_end HS.out hin h1.out h2.out
      have eP2 : P = hi' := by rw [← hP.out, eP]
      subst eP2
      by_cases hn : P < ks.length
      · have hn' : (P : Int) < (ks.length : Int) := by omega
        have cl := R.out.cell P hn
        have ez : (ks[P] == key) = z := by rw [← hz.out]; exact (isAt_in eP.symm hn).symm
        obtain ⟨y, hy⟩ := hid_ex (ks[P])
        rw [hy.out] at cl ez
        cases z with
        | true =>
          go_wp2_with go_in
          go_ret2
          exact ⟨rfl, rfl⟩
        | false =>
          go_wp2_with go_in
          go_ret2
          exact ⟨rfl, rfl⟩
      · have ez : z = false := by rw [← hz.out]; exact isAt_end (by omega)
        subst ez
        go_wp2
        go_ret2
        exact ⟨rfl, rfl⟩

/-! ### slices are joined -/
theorem grow_any (m : Nat) (hm : 1 ≤ m) (hm2 : m ≤ 1048576) (w : World) :
    Calls Try.prog 96 #[.slice none 0 0, .int .i64 m] w fun e w' => ∃ v', e = .returned v' ∧ OwnI w' w.heap.size w'.heap.size v' [] ∧ Below w.heap.size w w' := by
  obtain ⟨i0, hi0, hz0, hz1, hz2⟩ := infoI
  have hold : (Builtin.firstCells i0.size 0 (.slice none 0 0)).run Try.prog w.drew = .ok #[] w.drew := run_firstCells_none w.drew i0.size 0 0 0
  have hrz : ∀ ty, (Builtin.append_ #[22, 3] ty #[.slice none 0 0, .int .i64 (m : Int)]).run Try.prog w =
      .ok (.slice (some ⟨w.heap.size, 0, none⟩) m (grownCap w m 0 2)) (w.drew.alloc (.cells ((#[] : Array Value) ++ Builtin.zeroCells (Value.int .i64 0).cells m ++ Builtin.zeroCells (Value.int .i64 0).cells (grownCap w m 0 2 - m)) 2)) := fun ty => by
    have h := Lib.run_append_grow_zeros w 22 3 ty 2 i0 (.int .i64 0) .i64 .i64 Try.underlying22 Try.underlying3 hi0 hz0 none 0 0 [] hold m (by omega) (by omega) (by omega) (by omega) (by rw [hz2]; omega)
      (by rw [hz2]; exact growslice_fits (by omega) (by omega))
    simpa using h
  have hG1 : m ≤ grownCap w m 0 2 := grownCap_ge w _ _ _
  have hG2 := grownCap_le_maxLen w m 0 2 (by unfold maxLen; omega)
  obtain ⟨G, hG⟩ : ∃ G, grownCap w m 0 2 = G := ⟨_, rfl⟩
  obtain ⟨Z, hZ⟩ : ∃ Z, (#[] : Array Value) ++ Builtin.zeroCells (Value.int .i64 0).cells m ++ Builtin.zeroCells (Value.int .i64 0).cells (G - m) = Z := ⟨_, rfl⟩
  have hZs : Z.size = G := by rw [← hZ]; simp [size_zeroCells, Value.cells]; omega
  rw [hG] at hrz hG1 hG2
  rw [hZ] at hrz
  have hG3 : G ≤ 9223372036854775807 := by unfold maxLen at hG2; exact hG2
  have hB : Below w.heap.size w (w.drew.alloc (.cells Z 2)) := (Below.refl _ _).drew.alloc (Nat.le_refl _) _
  have hm0 : ¬ ((m : Int) < 0) := by omega
  have hm1 : (0 : Int) < (m : Int) := by omega
  have hGm : (m : Int) ≤ (G : Int) := by omega
  clear hold hG hZ
  have ho : OwnI (w.drew.alloc (.cells Z 2)) w.heap.size (w.drew.alloc (.cells Z 2)).heap.size (.slice (some ⟨w.heap.size, 0, none⟩) 0 G) [] :=
    ⟨⟨rfl, .inr ⟨w.heap.size, G, Z, rfl, Nat.le_refl _, heap_alloc_new w.drew _, Nat.zero_le _, hG2, by rw [hZs]; omega, rfl⟩⟩, fun g hg => by cases hg; simp⟩
  have HO : Hid (OwnI (w.drew.alloc (.cells Z 2)) w.heap.size (w.drew.alloc (.cells Z 2)).heap.size (.slice (some ⟨w.heap.size, 0, none⟩) 0 G) []) := ho
  clear ho
  go_enter Try.func96, Try.ntmps96
  go_wp2_with (first | (at_builtin; refine Lib.wpList_append_run _ rfl _ _ _ _ rfl _ _ rfl rfl _ _ (hrz _) ?_) | (fail))
  all_goals
    go_ret
    exact ⟨_, rfl, HO.out, hB⟩
end Go.Proofs.Ytbialeffdpmcjaa.sx
