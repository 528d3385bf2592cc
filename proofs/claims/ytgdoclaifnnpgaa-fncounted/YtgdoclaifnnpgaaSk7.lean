/- Slices of rows that grow by append, and the model's functions that make them: l1Copy, NewSketch, l2Copy. -/
import Derived.Test.YtgdoclaifnnpgaaSk6
import Derived.OwnWalk
import Derived.Deep.RegionLaw
namespace Go.Proofs.Ytgdoclaifnnpgaa.sk
open Go.ChangeShapes Go.WideShapes Go.ChangeAt Go.RowKit
set_option linter.unusedVariables false

/-- rows of integers in blocks of their own -/
def InnerAt (w : World) (lo hi : Nat) (B : Nat → Nat) (R : List (List Int)) : Prop :=
  (∀ i j, i < R.length → j < R.length → i ≠ j → B i ≠ B j) ∧
  ∀ i (h : i < R.length), (R[i]).length ≤ maxLen ∧ lo ≤ B i ∧ B i < hi ∧ (∃ cur, w.heap[B i]? = some (.cells cur 2 (0, 0))) ∧ Row w (B i) R[i]
def outs (B C : Nat → Nat) (R : List (List Int)) : List Value := R.mapIdx fun j xs => .slice (some ⟨B j, 0, none⟩) xs.length (C j)
theorem outs_len (B C : Nat → Nat) (R : List (List Int)) : (outs B C R).length = R.length := by simp [outs]
theorem inner_nil (w : World) (lo hi : Nat) (B : Nat → Nat) : InnerAt w lo hi B [] := ⟨fun i j h => by simp at h, fun i h => by simp at h⟩
theorem InnerAt.keep {w w' : World} {lo hi : Nat} {B : Nat → Nat} {R : List (List Int)} (h : InnerAt w lo hi B R) (s : ∀ i, i < R.length → w'.heap[B i]? = w.heap[B i]?) : InnerAt w' lo hi B R := by
  refine ⟨h.1, fun i hi => ?_⟩
  obtain ⟨c1, c2, c3, ⟨cur, c4⟩, c5⟩ := h.2 i hi
  exact ⟨c1, c2, c3, ⟨cur, by rw [s i hi]; exact c4⟩, c5.of' (s i hi)⟩
theorem outs_snoc (B C : Nat → Nat) (R : List (List Int)) (g c : Nat) (xs : List Int) :
    outs (fun j => if j = R.length then g else B j) (fun j => if j = R.length then c else C j) (R ++ [xs]) = outs B C R ++ [.slice (some ⟨g, 0, none⟩) xs.length c] := by
  apply List.ext_getElem
  · simp [outs]
  · intro i h1 h2
    by_cases e : i = R.length
    · subst e; simp [outs]
    · have hi : i < R.length := by simp [outs] at h1; omega
      simp [outs, e, List.getElem_append_left, hi]
theorem InnerAt.snoc {w : World} {lo hi hi' : Nat} {B : Nat → Nat} {R : List (List Int)} (h : InnerAt w lo hi B R) (g : Nat) (xs : List Int) (h1 : hi ≤ g) (h0 : lo ≤ g) (h2 : g < hi') (h3 : hi ≤ hi') (hl : xs.length ≤ maxLen)
    (hc : ∃ cur, w.heap[g]? = some (.cells cur 2 (0, 0))) (hr : Row w g xs) : InnerAt w lo hi' (fun j => if j = R.length then g else B j) (R ++ [xs]) := by
  refine ⟨fun i j hi hj hij => ?_, fun i hi => ?_⟩
  · simp only [List.length_append, List.length_cons, List.length_nil] at hi hj
    by_cases e1 : i = R.length
    · have e2 : j ≠ R.length := fun q => hij (by omega)
      have hB := (h.2 j (by omega)).2.2.1
      simp only [e1, e2, if_true, if_false]; omega
    · by_cases e2 : j = R.length
      · have hB := (h.2 i (by omega)).2.2.1
        simp only [e1, e2, if_true, if_false]; omega
      · simp only [e1, e2, if_false]; exact h.1 i j (by omega) (by omega) hij
  · by_cases e1 : i = R.length
    · subst e1
      simp only [if_true, List.getElem_concat_length]
      exact ⟨hl, h0, h2, hc, hr⟩
    · have hi' : i < R.length := by simp at hi; omega
      obtain ⟨c1, c2, c3, c4, c5⟩ := h.2 i hi'
      simp only [e1, if_false, List.getElem_append_left hi']
      exact ⟨c1, c2, by omega, c4, c5⟩
/-- rows and the outer row that names them -/
theorem InnerAt.own {w : World} {lo hi n : Nat} {B C : Nat → Nat} {R : List (List Int)} {v : Value} (h : InnerAt w lo hi B R) (hh : hi ≤ w.heap.size) (hn : n = R.length) (ho : w.ownsRow lo 46 1 v n (outs B C R)) (hl : R.length ≤ maxLen) : Own w lo w.heap.size v R := by
  subst hn
  rcases ho.2 with ⟨rfl, h0⟩ | ⟨g, cap, cur, rfl, hg, hb, hc1, hc2, hc3, htk⟩
  · obtain rfl : R = [] := List.eq_nil_of_length_eq_zero h0
    exact own_nil w lo w.heap.size (Nat.le_refl _)
  · have hlt : g < w.heap.size := (Array.getElem?_eq_some_iff.1 hb).1
    refine ⟨hl, _, _, g, B, C, rfl, fun _ => rfl, fun _ => ⟨hg, hlt⟩, Nat.le_refl _, h.1, fun i hi => ?_⟩
    obtain ⟨c1, c2, c3, ⟨cur', c4⟩, c5⟩ := h.2 i hi
    refine ⟨?_, c1, c2, by omega, fun e => ?_, c5⟩
    · rw [cell_of_row _ _ _ _ _ _ hb]
      have : (cur.toList.take (R.length * 1))[i]? = (outs B C R)[i]? := by rw [htk]
      rw [List.getElem?_take, if_pos (by omega)] at this
      simpa [outs, hi] using this
    · rw [e, hb] at c4
      simp at c4
theorem own_row {w : World} {lo g n c : Nat} {xs : List Int} (ho : w.ownsRow lo 2 1 (.slice (some ⟨g, 0, none⟩) n c) n (ints xs)) : Row w g xs ∧ lo ≤ g ∧ (∃ cur, w.heap[g]? = some (.cells cur 2 (0, 0))) ∧ n = xs.length := by
  have hn : n = xs.length := by have := ho.1; rw [ints_len] at this; omega
  rcases ho.2 with ⟨e, -⟩ | ⟨g', cap, cur, e, hg, hb, hc1, hc2, hc3, htk⟩
  · cases e
  · cases e
    have hget : ∀ j (v : Value), (ints xs)[j]? = some v → cur[j]? = some v := fun j v hv => by
      rw [← htk, List.getElem?_take] at hv
      split at hv
      · simpa using hv
      · cases hv
    refine ⟨⟨(Array.getElem?_eq_some_iff.1 hb).1, fun j v hv => ?_, fun j hj => ?_⟩, hg, ⟨cur, hb⟩, hn⟩
    · rw [cell_of_row _ _ _ _ _ _ hb]; simp only [Nat.zero_add]; exact hget j v hv
    · refine ⟨?_, frozen_of_row _ _ _ _ _ hb⟩
      rw [cell_of_row _ _ _ _ _ _ hb]
      simp only [Nat.zero_add]
      rw [hget j (.int .i64 xs[j]) (by simp [ints, hj])]; rfl

theorem infoI : ∃ i : TypeInfo, Try.prog.info? 2 = some i ∧ i.zero = some (.int .i64 0) ∧ i.size = 1 ∧ i.bytes = 8 := by
  obtain ⟨i, hi, hz⟩ := Option.map_eq_some_iff.1 info2
  simp only [Prod.mk.injEq] at hz
  exact ⟨i, hi, hz.1, hz.2.1, hz.2.2⟩
theorem infoS : ∃ i : TypeInfo, Try.prog.info? 46 = some i ∧ i.zero = some (.slice none 0 0) ∧ i.size = 1 ∧ i.bytes = 24 := by
  obtain ⟨i, hi, hz⟩ := Option.map_eq_some_iff.1 info46
  simp only [Prod.mk.injEq] at hz
  exact ⟨i, hi, hz.1, hz.2.1, hz.2.2⟩

theorem l1Copy_any (xs : List Int) (w : World) (b off c : Nat) (hx : xs.length ≤ 1048576) (hr : w.rangeAt b off (ints xs)) (hb : b < w.heap.size) :
    Calls Try.prog 57 #[.slice (some ⟨b, off, none⟩) xs.length c] w fun e w' => ∃ g cap, e = .returned (.slice (some ⟨g, 0, none⟩) xs.length cap) ∧ w.heap.size ≤ g ∧ g < w'.heap.size ∧ (∃ cur, w'.heap[g]? = some (.cells cur 2 (0, 0))) ∧ Row w' g xs ∧ Below w.heap.size w w' := by
  obtain ⟨i0, hi, hz0, hz1, hz2⟩ := infoI
  have hown : (w.alloc (.cells #[] 2)).ownsRow w.heap.size 2 1 (.slice (some ⟨w.heap.size, 0, none⟩) 0 0) 0 [] :=
    ⟨rfl, .inr ⟨w.heap.size, 0, #[], rfl, Nat.le_refl _, heap_alloc_new _ _, Nat.le_refl _, by unfold maxLen; omega, rfl, rfl⟩⟩
  have hnews : ∀ j u, (ints xs)[j]? = some u → (w.alloc (.cells #[] 2)).cell? ((⟨b, off, none⟩ : Addr).add j) = some u := fun j u hj => by
    rw [Addr.add_mid, World.cell?_of_block (w := w) (Below.heap_alloc _ _ _ hb)]
    exact hr j u hj
  have HN : Hid _ := hnews
  clear hnews hr
  go_enter Try.func57, Try.ntmps57
  go_wp2_with (first | (at_builtin; refine wpList_append_own _ rfl _ _ 46 rfl w.heap.size 2 i0 (.int .i64 0) 1 8 Try.underlying46 hi hz0 hz1 hz2 rfl (by decide) _ 0 [] rfl hown ⟨b, off, none⟩ xs.length c (ints xs) rfl (by rw [ints_len]; omega) HN.out (ints_one xs) (by unfold maxLen; omega) (by omega) (by simp) ?_; intro v' w' h2 h3 h4))
  rw [Nat.zero_add, List.nil_append] at h2
  have hB : Below w.heap.size w w' := Below.grown ((Below.refl _ w).alloc (Nat.le_refl _) _) h3 (by simp) (fun k hk => by
    have e : (some w.heap.size : Option Nat) = some k := hk
    cases e; exact Nat.le_refl _)
  rcases h2.2 with ⟨e, -⟩ | ⟨g, cap, cur, rfl, hg⟩
  · have := (h4.1 e).1
    cases this
  · obtain ⟨r1, r2, r3, r4⟩ := own_row h2
    go_ret
    exact ⟨g, cap, rfl, r2, r1.1, r3, r1, hB⟩

theorem step_append_own {P : Program} {ops : Array Oper} {o : Oper} {a : Act} (w : World) {K : Act → World → Prop} {Q : Exit → Act → World → Prop} {E : Prop} (hgd : o.guard = none) (s x : Operand) (t : TypeId)
    (ho : o.op = .call { callee := .builtin .append, args := #[s, x], argTypes := #[t, t] })
    (base : Nat) (e : TypeId) (i : TypeInfo) (z : Value) (size bytes : Nat) (ht : P.underlying t = some (.slice e)) (hi : P.info? e = some i) (hz : i.zero = some z)
    (hsize : i.size = size) (hby : i.bytes = bytes) (hzs : z.cells.size = size) (hsz : 0 < size)
    (v : Value) (n : Nat) (xs : List Value) (hs : a.eval s = v) (hown : w.ownsRow base e size v n xs)
    (ad : Addr) (m c : Nat) (news : List Value) (hx : a.eval x = .slice (some ad) m c) (hl : news.length = m * size) (hnews : ∀ j u, news[j]? = some u → w.cell? (ad.add j) = some u) (h1 : ∀ u ∈ news, u.oneCell' = true)
    (h63 : n + m ≤ maxLen) (hbytes : (n + m) * bytes ≤ 140737488355328) (hbase : base ≤ w.heap.size)
    (h : ∀ v' w', w'.ownsRow base e size v' (n + m) (xs ++ news) → w.grownBy w' v.ownBlock → (v' = .slice none 0 0 ↔ v = .slice none 0 0 ∧ m = 0) → K (a.put o.dst v') w') :
    if Region.wanted o (yielded ops a.tmps) = true then Oper.wp P o a w K Q else E := by
  have hw : Region.wanted o (yielded ops a.tmps) = true := by simp [Region.wanted, hgd]
  rw [if_pos hw]
  exact wp_append_own w s x t ho base e i z size bytes ht hi hz hsize hby hzs hsz v n xs hs hown ad m c news hx hl hnews h1 h63 hbytes hbase h

theorem VBlk.grown {w w' : World} {b : Nat} {t : TypeId} {vs : List Value} {row : Option Nat} (h : VBlk w b t vs) (g : w.grownBy w' row) (hne : some b ≠ row) : VBlk w' b t vs := h.of (g.block b h.lt hne)
theorem own_block_ne {w : World} {lo b : Nat} {e : TypeId} {v : Value} {n : Nat} {xs : List Value} (h : w.ownsRow lo e 1 v n xs) (hb : b < lo) : some b ≠ v.ownBlock := fun e => by
  have := (h.lt b e.symm).1; omega
theorem own_block_type {w : World} {lo b : Nat} {v : Value} {n : Nat} {xs : List Value} {cur : Array Value} (h : w.ownsRow lo 46 1 v n xs) (hb : w.heap[b]? = some (.cells cur 2 (0, 0))) : some b ≠ v.ownBlock := fun e => by
  rcases h.2 with ⟨rfl, -⟩ | ⟨g, cap, cur', rfl, hg, hb', -⟩
  · cases e
  · have e' : b = g := by injection e
    subst e'
    rw [hb'] at hb
    simp at hb

/-- a row is appended to the outer row -/
theorem push {w2 w' : World} {lo H n : Nat} {vo v' : Value} {B C : Nat → Nat} {R : List (List Int)} {xs : List Int} {g c : Nat} {o : Obj} (hown : w2.ownsRow lo 46 1 vo n (outs B C R)) (hin : InnerAt w2 lo H B R) (hn : n = R.length)
    (hH : H ≤ w2.heap.size) (hg0 : H ≤ g) (hlo : lo ≤ g) (hg : g < w2.heap.size) (hc : ∃ cur, w2.heap[g]? = some (.cells cur 2 (0, 0))) (hr : Row w2 g xs) (hl : xs.length ≤ maxLen)
    (g2 : w'.ownsRow lo 46 1 v' (n + 1) (outs B C R ++ [.slice (some ⟨g, 0, none⟩) xs.length c])) (g3 : (w2.alloc o).grownBy w' vo.ownBlock) :
    ∃ B' C', w'.ownsRow lo 46 1 v' (n + 1) (outs B' C' (R ++ [xs])) ∧ InnerAt w' lo w'.heap.size B' (R ++ [xs]) ∧ (∃ a n' c', v' = .slice a n' c') ∧ Below lo w2 w' := by
  have hs : w2.heap.size ≤ w'.heap.size := by have := g3.size; simp at this; omega
  have hk : ∀ b, b < w2.heap.size → some b ≠ vo.ownBlock → w'.heap[b]? = w2.heap[b]? := fun b hb hne => by
    rw [g3.block b (by simp; omega) hne, Below.heap_alloc _ _ _ hb]
  obtain ⟨cur, hcur⟩ := hc
  have hkg : w'.heap[g]? = w2.heap[g]? := hk g hg (own_block_type hown hcur)
  have hin' : InnerAt w' lo H B R := hin.keep (fun i hi => by
    obtain ⟨c1, c2, c3, ⟨cur', c4⟩, c5⟩ := hin.2 i hi
    exact hk _ c5.1 (own_block_type hown c4))
  refine ⟨_, _, by rw [hn, outs_snoc B C R g c xs, ← hn]; exact g2, hin'.snoc g xs hg0 hlo (by omega) (by omega) hl ⟨cur, by rw [hkg]; exact hcur⟩ (hr.of' hkg), ?_, ⟨g3.os, g3.tape, g3.output, hs, fun b hb => hk b (by omega) (own_block_ne hown hb)⟩⟩
  rcases g2.2 with ⟨-, h0⟩ | ⟨g', cap, cur', rfl, -⟩
  · omega
  · exact ⟨_, _, _, rfl⟩

def z16 : List Int := List.replicate 16 0
theorem z16_len : z16.length = 16 := by decide
theorem zeros_get (i : Nat) (h : i < zeros.length) : zeros[i] = z16 := by simp only [zeros, List.getElem_replicate]; rfl
theorem make16 (w : World) : (Instr.makeSlice 46 (.int .i64 16) (.int .i64 16)).run Try.prog w = .ok (.slice (some ⟨w.heap.size, 0, none⟩) 16 16) (w.alloc (.cells (ints z16).toArray 2)) := by
  have h := run_make_row' (P := Try.prog) 46 2 (.int .i64 0) 8 Try.underlying46 info2 rfl .i64 .i64 16 (by omega) (by omega) w
  rw [made_replicate] at h
  have e : ints z16 = List.replicate 16 (.int .i64 0) := rfl
  rw [e]
  exact h

set_option maxHeartbeats 1000000 in
theorem specNewSketch_any (w : World) :
    Calls Try.prog 15 #[] w fun e w' => ∃ v, e = .returned (skv v 0) ∧ Own w' w.heap.size w'.heap.size v zeros ∧ Below w.heap.size w w' := by
  obtain ⟨i0, hi, hz0, hz1, hz2⟩ := infoS
  have hmk := make16
  have hzr : Hid (∀ i (h : i < zeros.length), zeros[i] = z16) := zeros_get
  have hzl : Hid (zeros.length = 4) := rfl
  have m0 : Hid True := trivial
  go_enter Try.func15, Try.ntmps15
  go_wp2_with (first | (clear m0; refine wpList_alloc_v rfl 27 rfl _ zero27 ?_; intro b0 w1 hb0 hw1 hB1 hV0) | (refine wpList_alloc_v rfl 27 rfl _ zero27 ?_; intro b1 w2 hb1 hw2 hB2 hV1; replace hV0 := hV0.below hB2 hw1) | (refine wpList_store_v rfl 27 _ _ rfl b1 [.slice none 0 0, .int .i64 0] rfl rfl size27 hV1 rfl (by simp [Value.oneCell']) ?_; intro w3 hO3 hV3; replace hV0 := hV0.of (hO3.2.1 _ (by omega))))
  have h1 := hB1.size
  have h2 := hB2.size
  have h3 := hO3.1
  have hB : Below w.heap.size w w3 := (hB1.trans (hB2.mono h1)).trans (hO3.2.2 _ (by omega))
  obtain ⟨lo, hlo⟩ : ∃ lo, Hid (lo = w3.heap.size) := ⟨_, rfl⟩
  have l0 : b0 < lo := by rw [hlo.out]; omega
  have l1 : b1 < lo := by rw [hlo.out]; omega
  have lw : w.heap.size ≤ lo := by rw [hlo.out]; omega
  have n01 : b0 ≠ b1 := by omega
  go_loopw [2] (fun v' wr => ∃ i : Nat, i ≤ 4 ∧ v' = .int .i64 i ∧ VBlk wr b0 27 [.slice none 0 0, .int .i64 0] ∧ (∃ vo B C, VBlk wr b1 27 [vo, .int .i64 0] ∧ vo.oneCell' = true ∧ wr.ownsRow lo 46 1 vo i (outs B C (zeros.take i)) ∧ InnerAt wr lo wr.heap.size B (zeros.take i)) ∧ lo ≤ wr.heap.size ∧ Below w.heap.size w wr) (fun v' _ => 4 - (intOf v').toNat)
  case atStart => exact ⟨0, by omega, rfl, hV0, ⟨_, fun _ => 0, fun _ => 0, hV3, rfl, ⟨rfl, .inl ⟨rfl, rfl⟩⟩, inner_nil _ _ _ _⟩, by rw [hlo.out]; exact Nat.le_refl _, hB⟩
  case round =>
    obtain ⟨i, hi4, rfl, hv0, ⟨vo, B, C, hv1, h1c, hown, hin⟩, hlos, hBr⟩ := hrel
    by_cases hlt : i < 4
    · have hcv := hv1.cell 0 (by simp)
      have hfv := hv1.frozen 0
      simp only [List.getElem_cons_zero] at hcv
      have hOwn : Hid (wr.ownsRow lo 46 1 vo i (outs B C (zeros.take i))) := hown
      have hIn : Hid (InnerAt wr lo wr.heap.size B (zeros.take i)) := hin
      clear hown hin
      have hiz : i < zeros.length := by rw [hzl.out]; exact hlt
      go_wp2
      have hs1 : (wr.drew.alloc (.cells (ints z16).toArray 2)).heap.size = wr.heap.size + 1 := by simp
      have hin1 : Hid (InnerAt (wr.drew.alloc (.cells (ints z16).toArray 2)) lo wr.heap.size B (zeros.take i)) := hIn.out.keep (fun j hj => by
        have := (hIn.out.2 j hj).2.2.1
        exact Below.heap_alloc wr.drew _ _ this)
      have hnew : Hid (Blk (wr.drew.alloc (.cells (ints z16).toArray 2)) wr.heap.size 2 z16) := Blk.new wr.drew _ z16
      have htl : Hid (i = (zeros.take i).length) := by unfold Hid; rw [List.length_take, hzl.out]; omega
      have hnews : Hid (∀ j u, [Value.slice (some ⟨wr.heap.size, 0, none⟩) 16 16][j]? = some u → ((wr.drew.alloc (.cells (ints z16).toArray 2)).alloc (.cells #[.slice (some ⟨wr.heap.size, 0, none⟩) 16 16] 46)).cell? ((⟨wr.heap.size + 1, 0, none⟩ : Addr).add j) = some u) := by
        intro j u hj
        have hh := heap_alloc_new (wr.drew.alloc (.cells (ints z16).toArray 2)) (.cells #[.slice (some ⟨wr.heap.size, 0, none⟩) 16 16] 46)
        rw [hs1] at hh
        rw [Addr.add_mid, cell_of_row _ _ _ _ _ _ hh]
        simpa using hj
      have hs1' : Hid _ := hs1
      clear hs1
      have lb1' : b1 < wr.heap.size := by omega
      have hca : ∀ o, (wr.drew.alloc o).cell? ⟨b1, 0, none⟩ = some vo := fun o => by rw [World.cell?_of_block (w := wr.drew) (Below.heap_alloc wr.drew o b1 lb1')]; exact hcv
      have hcb : ∀ o o', ((wr.drew.alloc o).alloc o').cell? ⟨b1, 0, none⟩ = some vo := fun o o' => by rw [World.cell?_of_block (w := wr.drew.alloc o) (Below.heap_alloc (wr.drew.alloc o) o' b1 (by simp; omega))]; exact hca o
      go_region_law (first | (refine step_append_own _ rfl _ _ 22 rfl lo 46 i0 (.slice none 0 0) 1 24 Try.underlying22 hi hz0 hz1 hz2 rfl (by decide) vo i _ rfl ((hOwn.out.drew.alloc _).alloc _) ⟨wr.heap.size + 1, 0, none⟩ 1 1 [.slice (some ⟨wr.heap.size, 0, none⟩) 16 16] rfl rfl hnews.out (by simp [Value.oneCell']) (by unfold maxLen; omega) (by omega) (by simp; omega) ?_; intro v' w' g2 g3 g4; obtain ⟨B', C', p1, p2, ⟨va, vn, vc, rfl⟩, p4⟩ := push (hOwn.out.drew.alloc _) hin1.out htl.out (by rw [hs1'.out]; omega) (Nat.le_refl _) (by omega) (by rw [hs1'.out]; omega) ⟨_, hnew.out⟩ hnew.out.row (by unfold maxLen; rw [z16_len]; omega) g2 g3; have P1 : Hid _ := p1; have P2 : Hid _ := p2; have P4 : Hid _ := p4; clear p1 p2 p4 g2 g3 g4; have lb1 : b1 < wr.heap.size := (by omega); have lb0 : b0 < wr.heap.size := (by omega); have hv1w : VBlk w' b1 27 [vo, .int .i64 0] := hv1.of (by rw [P4.out.block b1 l1, Below.heap_alloc _ _ _ (by exact lb1)]; rfl); have hcw := hv1w.cell 0 (by simp); have hfw := hv1w.frozen 0; simp only [List.getElem_cons_zero] at hcw) | (fail))
      all_goals
        go_wp2
        go_roundw
        case rel =>
          have e1 : zeros.take (i + 1) = zeros.take i ++ [z16] := by rw [take_snoc zeros i hiz, hzr.out i hiz]
          have hlo' : b1 < lo := l1
          refine ⟨i + 1, by omega, by go_num, ?_, ⟨_, B', C', hv1w.set 0 _, rfl, ?_, ?_⟩, ?_, ?_⟩
          · exact (hv0.of (by rw [P4.out.block b0 l0, Below.heap_alloc _ _ _ (by exact lb0)]; rfl)).of (heap_setCell_other _ _ _ _ n01)
          · rw [e1]; exact ownsRow_setCell_below P1.out hlo' _
          · rw [e1, World.size_setCell]
            refine InnerAt.keep P2.out (fun j hj => heap_setCell_other _ _ _ _ ?_)
            have := (P2.out.2 j hj).2.1
            show B' j ≠ b1
            omega
          · have p5 := P4.out.size; rw [hs1'.out] at p5; simp; omega
          · refine Below.setCell (Below.trans (b := wr.drew) hBr.drew ?_) (by show w.heap.size ≤ b1; omega) _
            exact ((Below.refl _ wr.drew).alloc hBr.size _).trans (P4.out.mono lw)
        case measure => simp [intOf]; omega
    · obtain rfl : i = 4 := by omega
      rw [List.take_of_length_le (by rw [hzl.out]; omega)] at hown hin
      obtain ⟨va, vn, vc, rfl⟩ := (hin.own (Nat.le_refl _) hzl.out.symm hown (by rw [hzl.out]; unfold maxLen; omega)).form
      have hcv := hv1.cell 0 (by simp)
      have hcv1 := hv1.cell 1 (by simp)
      simp only [List.getElem_cons_zero, List.getElem_cons_succ] at hcv hcv1
      have hO := hin.own (Nat.le_refl _) hzl.out.symm hown (by rw [hzl.out]; unfold maxLen; omega)
      clear hown hin
      go_wp2_with (first | (refine wpList_store_v rfl 27 _ _ rfl b0 [.slice va vn vc, .int .i64 0] rfl rfl size27 hv0 rfl (by simp [Value.oneCell']) ?_; intro w9 hO9 hV9))
      refine row_retv rfl rfl hV9 Try.underlying27 size27 rfl ⟨_, rfl, ?_, hBr.trans (hO9.2.2 _ (by omega))⟩
      exact (hO.keep (fun k h2 h3 => hO9.2.1 k (by omega)) (by rw [hO9.1]; exact Nat.le_refl _)).wide lw (by rw [hO9.1]; exact Nat.le_refl _) (Nat.le_refl _)

set_option maxHeartbeats 2000000 in
theorem l2Copy_any (R : List (List Int)) (hR4 : Four R) (adds : Int) (v : Value) (w : World) (hi0 : Nat) (hh : hi0 ≤ w.heap.size) (hv : Rd w 0 hi0 v R) :
    Calls Try.prog 41 #[skv v adds] w fun e w' => ∃ v', e = .returned (skv v' adds) ∧ Own w' w.heap.size w'.heap.size v' R ∧ Below w.heap.size w w' := by
  obtain ⟨i0, hi, hz0, hz1, hz2⟩ := infoS
  obtain ⟨hRl, a, cap, rfl, hrows⟩ := hv
  have h4' : Hid (R.length = 4) := hR4.1
  have h4i : ((R.length : Int) = 4) := by have := hR4.1; omega
  rcases hrows with hnil | ⟨b, off, rfl, -, hbhi, hcells⟩
  · subst hnil; simp [Hid] at h4'
  have hCells : Hid (∀ i (h : i < R.length), ∃ a' c', w.cell? ⟨b, off + i, none⟩ = some (.slice a' (R[i]).length c') ∧ RowR w 0 hi0 a' R[i]) := hcells
  clear hcells
  have m0 : Hid True := trivial
  go_enter Try.func41, Try.ntmps41
  go_wp2_with (first | (refine wpList_box_v rfl 27 _ rfl [.slice (some ⟨b, off, none⟩) R.length cap, .int .i64 adds] rfl ?_; intro b1 w1 hb1 hw1 hB1 hV1) | (clear m0; refine wpList_alloc_v rfl 27 rfl _ zero27 ?_; intro b2 w2 hb2 hw2 hB2 hV2; replace hV1 := hV1.below hB2 hw1; have hc1 := hV1.cell 1 (by simp); simp only [List.getElem_cons_zero, List.getElem_cons_succ] at hc1) | (refine wpList_alloc_v rfl 27 rfl _ zero27 ?_; intro b3 w3 hb3 hw3 hB3 hV3; replace hV1 := hV1.below hB3 (by have := hB2.size; omega); replace hV2 := hV2.below hB3 hw2) | (refine wpList_store_v rfl 27 _ _ rfl b3 [.slice none 0 0, .int .i64 adds] rfl rfl size27 hV3 rfl (by simp [Value.oneCell']) ?_; intro w4 hO4 hV4; replace hV1 := hV1.of (hO4.2.1 _ (by have := hB2.size; omega)); replace hV2 := hV2.of (hO4.2.1 _ (by omega))))
  have h1 := hB1.size
  have h2 := hB2.size
  have h3 := hB3.size
  have h4 := hO4.1
  have hB : Below w.heap.size w w4 := ((hB1.trans (hB2.mono h1)).trans (hB3.mono (by omega))).trans (hO4.2.2 _ (by omega))
  obtain ⟨lo, hlo⟩ : ∃ lo, Hid (lo = w4.heap.size) := ⟨_, rfl⟩
  have l1 : b1 < lo := by rw [hlo.out]; omega
  have l2 : b2 < lo := by rw [hlo.out]; omega
  have l3 : b3 < lo := by rw [hlo.out]; omega
  have lw : w.heap.size ≤ lo := by rw [hlo.out]; omega
  have n13 : b1 ≠ b3 := by omega
  have n23 : b2 ≠ b3 := by omega
  go_loopw [4] (fun v' wr => ∃ i : Nat, i ≤ 4 ∧ v' = .int .i64 i ∧ VBlk wr b1 27 [.slice (some ⟨b, off, none⟩) R.length cap, .int .i64 adds] ∧ VBlk wr b2 27 [.slice none 0 0, .int .i64 0] ∧ (∃ vo B C, VBlk wr b3 27 [vo, .int .i64 adds] ∧ vo.oneCell' = true ∧ wr.ownsRow lo 46 1 vo i (outs B C (R.take i)) ∧ InnerAt wr lo wr.heap.size B (R.take i)) ∧ lo ≤ wr.heap.size ∧ Below w.heap.size w wr) (fun v' _ => 4 - (intOf v').toNat)
  case atStart => exact ⟨0, by omega, rfl, hV1, hV2, ⟨_, fun _ => 0, fun _ => 0, hV4, rfl, ⟨rfl, .inl ⟨rfl, rfl⟩⟩, inner_nil _ _ _ _⟩, by rw [hlo.out]; exact Nat.le_refl _, hB⟩
  case round =>
    obtain ⟨i, hi4, rfl, hv1, hv2, ⟨vo, B, C, hv3, h1c, hown, hin⟩, hlos, hBr⟩ := hrel
    have hcs := hv1.cell 0 (by simp)
    simp only [List.getElem_cons_zero] at hcs
    by_cases hlt : i < 4
    · have hiR : i < R.length := by rw [hR4.1]; exact hlt
      have hilt : (i : Int) < R.length := by omega
      obtain ⟨a', c', hcell0, hrow0⟩ := hCells.out i hiR
      obtain ⟨xs, hxs⟩ : ∃ xs, R[i] = xs := ⟨_, rfl⟩
      rw [hxs] at hcell0 hrow0
      have hx16 : Hid (xs.length = 16) := by unfold Hid; rw [← hxs]; exact hR4.2 _ (List.getElem_mem hiR)
      have HX : Hid (R[i] = xs) := hxs
      clear hxs
      obtain ⟨fb, foff, rfl, -, hfb, hrange0⟩ := rd_row hrow0 (by rw [hx16.out]; omega)
      have hcell : wr.cell? ⟨b, off + i, none⟩ = some (.slice (some ⟨fb, foff, none⟩) xs.length c') := by rw [hBr.cell (by show b < _; omega)]; exact hcell0
      have hrange : Hid (wr.drew.rangeAt fb foff (ints xs)) := range_of hrange0 (hBr.drew.block fb (by omega))
      clear hcell0 hrow0 hrange0
      have hcv := hv3.cell 0 (by simp)
      have hfv := hv3.frozen 0
      simp only [List.getElem_cons_zero] at hcv
      have hOwn : Hid (wr.ownsRow lo 46 1 vo i (outs B C (R.take i))) := hown
      have hIn : Hid (InnerAt wr lo wr.heap.size B (R.take i)) := hin
      clear hown hin
      have hbr := hBr.size
      have htl : Hid (i = (R.take i).length) := by unfold Hid; rw [List.length_take, hR4.1]; omega
      go_wp2
      go_region_law (first | (go_simp; go_at_call 57; refine (l1Copy_any xs wr.drew fb foff c' (by rw [hx16.out]; omega) hrange.out (by show fb < wr.heap.size; omega)).mono ?_; rintro e w5 ⟨g, gc, rfl, hg1, hg2, hg3, hg4, hB5⟩; have hd5 : wr.drew.heap.size = wr.heap.size := rfl; have hs5 := hB5.size; have hcs5 : w5.cell? ⟨b1, 0, none⟩ = some (.slice (some ⟨b, off, none⟩) R.length cap) := (by rw [hB5.cell (by show b1 < wr.heap.size; omega)]; exact hcs); have hcell5 : w5.cell? ⟨b, off + i, none⟩ = some (.slice (some ⟨fb, foff, none⟩) xs.length c') := (by rw [hB5.cell (by show b < wr.heap.size; omega)]; exact hcell); have hcv5 : w5.cell? ⟨b3, 0, none⟩ = some vo := (by rw [hB5.cell (by show b3 < wr.heap.size; omega)]; exact hcv); have hcs6 : ∀ o, (w5.alloc o).cell? ⟨b1, 0, none⟩ = some (.slice (some ⟨b, off, none⟩) R.length cap) := (fun o => by rw [World.cell?_of_block (w := w5) (Below.heap_alloc w5 o b1 (by omega))]; exact hcs5); have hcell6 : ∀ o, (w5.alloc o).cell? ⟨b, off + i, none⟩ = some (.slice (some ⟨fb, foff, none⟩) xs.length c') := (fun o => by rw [World.cell?_of_block (w := w5) (Below.heap_alloc w5 o b (by omega))]; exact hcell5); have hcv6 : ∀ o, (w5.alloc o).cell? ⟨b3, 0, none⟩ = some vo := (fun o => by rw [World.cell?_of_block (w := w5) (Below.heap_alloc w5 o b3 (by omega))]; exact hcv5); dsimp only) | (refine step_append_own _ rfl _ _ 22 rfl lo 46 i0 (.slice none 0 0) 1 24 Try.underlying22 hi hz0 hz1 hz2 rfl (by decide) vo i (outs B C (R.take i)) rfl (World.ownsRow.alloc (World.ownsRow.kept (w := wr.drew) hOwn.out ⟨hB5.os, hB5.tape, hB5.output, hB5.size, fun k hk _ => hB5.block k hk⟩ (row := none) (by cases hq : vo.ownBlock <;> simp)) _) ⟨w5.heap.size, 0, none⟩ 1 1 [.slice (some ⟨g, 0, none⟩) xs.length gc] rfl rfl (fun j u hj => by rw [Addr.add_mid, cell_of_row _ _ _ _ _ _ (heap_alloc_new w5 _)]; simpa using hj) (by simp [Value.oneCell']) (by unfold maxLen; omega) (by omega) (by simp; omega) ?_; intro v' w' g2 g3 g4; obtain ⟨B', C', p1, p2, ⟨va, vn, vc, rfl⟩, p4⟩ := push (H := wr.heap.size) (World.ownsRow.kept (w := wr.drew) hOwn.out ⟨hB5.os, hB5.tape, hB5.output, hB5.size, fun k hk _ => hB5.block k hk⟩ (row := none) (by cases hq : vo.ownBlock <;> simp)) (hIn.out.keep (fun j hj => hB5.block _ (hIn.out.2 j hj).2.2.1)) htl.out (by omega) (by omega) (by omega) hg2 hg3 hg4 (by rw [hx16.out]; unfold maxLen; omega) g2 g3; have P1 : Hid _ := p1; have P2 : Hid _ := p2; have P4 : Hid _ := p4; clear p1 p2 p4 g2 g3 g4; have hv3w : VBlk w' b3 27 [vo, .int .i64 adds] := (VBlk.below (w := wr.drew) hv3 hB5 (by omega)).of (P4.out.block b3 l3); have hcw := hv3w.cell 0 (by simp); have hfw := hv3w.frozen 0; simp only [List.getElem_cons_zero] at hcw; have hb7 : b < lo := (by omega); have hcs7 : w'.cell? ⟨b1, 0, none⟩ = some (.slice (some ⟨b, off, none⟩) R.length cap) := (by rw [P4.out.cell l1]; exact hcs5); have hcell7 : w'.cell? ⟨b, off + i, none⟩ = some (.slice (some ⟨fb, foff, none⟩) xs.length c') := (by rw [P4.out.cell hb7]; exact hcell5); have hcs8 : ∀ u, (w'.setCell ⟨b3, 0, none⟩ u).cell? ⟨b1, 0, none⟩ = some (.slice (some ⟨b, off, none⟩) R.length cap) := (fun u => by rw [World.cell?_of_block (w := w') (heap_setCell_other _ _ _ _ n13)]; exact hcs7); have hcell8 : ∀ u, (w'.setCell ⟨b3, 0, none⟩ u).cell? ⟨b, off + i, none⟩ = some (.slice (some ⟨fb, foff, none⟩) xs.length c') := (fun u => by rw [World.cell?_of_block (w := w') (heap_setCell_other _ _ _ _ (by show b ≠ b3; omega))]; exact hcell7)) | (fail))
      all_goals
        go_wp2
        go_roundw
        case rel =>
          have e1 : R.take (i + 1) = R.take i ++ [xs] := by rw [take_snoc R i hiR, HX.out]
          refine ⟨i + 1, by omega, by go_num, ?_, ?_, ⟨_, B', C', hv3w.set 0 _, rfl, ?_, ?_⟩, ?_, ?_⟩
          · exact ((VBlk.below (w := wr.drew) hv1 hB5 (by omega)).of (P4.out.block b1 l1)).of (heap_setCell_other _ _ _ _ n13)
          · exact ((VBlk.below (w := wr.drew) hv2 hB5 (by omega)).of (P4.out.block b2 l2)).of (heap_setCell_other _ _ _ _ n23)
          · rw [e1]; exact ownsRow_setCell_below P1.out l3 _
          · rw [e1, World.size_setCell]
            refine InnerAt.keep P2.out (fun j hj => heap_setCell_other _ _ _ _ ?_)
            have := (P2.out.2 j hj).2.1
            show B' j ≠ b3
            omega
          · have p5 := P4.out.size; simp; omega
          · refine Below.setCell (Below.trans (b := wr.drew) hBr.drew ?_) (by show w.heap.size ≤ b3; omega) _
            exact (hB5.mono hbr).trans (P4.out.mono lw)
        case measure => simp [intOf]; omega
    · obtain rfl : i = 4 := by omega
      rw [List.take_of_length_le (by rw [hR4.1]; omega)] at hown hin
      have hO := hin.own (Nat.le_refl _) hR4.1.symm hown hRl
      obtain ⟨va, vn, vc, rfl⟩ := hO.form
      have hcv := hv3.cell 0 (by simp)
      have hcv1 := hv3.cell 1 (by simp)
      simp only [List.getElem_cons_zero, List.getElem_cons_succ] at hcv hcv1
      clear hown hin
      go_wp2_with (first | (refine wpList_store_v rfl 27 _ _ rfl b2 [.slice va vn vc, .int .i64 adds] rfl rfl size27 hv2 rfl (by simp [Value.oneCell']) ?_; intro w9 hO9 hV9))
      refine row_retv rfl rfl hV9 Try.underlying27 size27 rfl ⟨_, rfl, ?_, hBr.trans (hO9.2.2 _ (by omega))⟩
      exact (hO.keep (fun k h2 h3 => hO9.2.1 k (by omega)) (by rw [hO9.1]; exact Nat.le_refl _)).wide lw (by rw [hO9.1]; exact Nat.le_refl _) (Nat.le_refl _)

end Go.Proofs.Ytgdoclaifnnpgaa.sk
