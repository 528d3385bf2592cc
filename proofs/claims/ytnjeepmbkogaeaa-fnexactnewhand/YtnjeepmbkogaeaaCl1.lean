/- Contracts of the laws' helpers on cells: sizes, copies, comparisons, marks. -/
import Derived.Test.YtnjeepmbkogaeaaCe7
namespace Go.Proofs.Ytnjeepmbkogaeaa.ce
open Go.ChangeShapes Go.WideShapes Go.ChangeAt Go.RowKit
set_option linter.unusedVariables false

theorem szCells (a : Option Addr) (n c : Nat) (hn : n ≤ 9223372036854775807) (w : World) :
    Calls Try.prog 9 #[.slice a n c, .int .i64 1048576] w fun e w' => ∃ r : Int, e = .returned (.int .i64 r) ∧ w' = w ∧ (0 ≤ r → n ≤ 1048576) := by
  by_cases h : (n : Int) ≤ 1048576
  · have e : Hid (wrap64 (1048576 - (n : Int)) = 1048576 - n) := IntWalk.wrap64_in _ ⟨by omega, by omega⟩
    go_enter Try.func9, Try.ntmps9
    go_wp2
    go_ret
    exact ⟨_, rfl, rfl, fun _ => by omega⟩
  · go_enter Try.func9, Try.ntmps9
    go_wp2
    go_ret
    exact ⟨-1, rfl, rfl, fun _ => by omega⟩

theorem sizeLC : (Try.prog.info? 56).map (·.size) = some 4 := by kernel_rfl

theorem toCell_any (c : C) (w : World) :
    Calls Try.prog 36 #[.agg (cv c).toArray] w fun e w' => e = .returned (.agg (cv c).toArray) ∧ Below w.heap.size w w' := by
  obtain ⟨k, x, n, g⟩ := c
  show Calls Try.prog 36 #[.agg #[.int .i64 k, .int .i64 x, .int .i64 n, .bool g]] w _
  go_enter Try.func36, Try.ntmps36
  go_wp2
  have h1 : VBlk ((w.alloc (.cells #[.int .i64 k, .int .i64 x, .int .i64 n, .bool g] 56)).alloc (.cells #[.int .i64 k, .int .i64 x, .int .i64 n, .bool g] 54)) (w.heap.size + 1) 54 [.int .i64 k, .int .i64 x, .int .i64 n, .bool g] := by
    have := heap_alloc_new (w.alloc (.cells #[.int .i64 k, .int .i64 x, .int .i64 n, .bool g] 56)) (.cells #[.int .i64 k, .int .i64 x, .int .i64 n, .bool g] 54)
    simpa [VBlk] using this
  refine row_retv rfl rfl (h1.of (Below.heap_alloc _ _ _ h1.lt)) Try.underlying54 sizeC rfl ⟨rfl, ?_⟩
  exact (((Below.refl _ w).alloc (Nat.le_refl _) _).alloc (by simp) _).alloc (by simp <;> omega) _

theorem eqCell_any (c : C) (w : World) :
    Calls Try.prog 44 #[.agg (cv c).toArray, .agg (cv c).toArray] w fun e w' => e = .returned (.bool true) ∧ Below w.heap.size w w' := by
  obtain ⟨k, x, n, g⟩ := c
  show Calls Try.prog 44 #[.agg #[.int .i64 k, .int .i64 x, .int .i64 n, .bool g], .agg #[.int .i64 k, .int .i64 x, .int .i64 n, .bool g]] w _
  go_enter Try.func44, Try.ntmps44
  go_wp2
  go_ret
  exact ⟨rfl, ((Below.refl _ w).alloc (Nat.le_refl _) _).alloc (by simp) _⟩

/-- a row that is filled from its head on -/
structure Part (w : World) (lo g n cap : Nat) (G : List C) : Prop where
  own : ∃ X, w.ownsRow lo 54 4 (.slice (some ⟨g, 0, none⟩) n cap) n X ∧ X.take (G.length * 4) = cvs G
theorem Raw.part {w : World} {lo g n cap : Nat} (r : Raw w lo (.slice (some ⟨g, 0, none⟩) n cap) n) : Part w lo g n cap [] := by
  obtain ⟨X, hX⟩ := r.own
  exact ⟨X, hX, by simp [cvs]⟩
theorem Part.keep {w w' : World} {lo g n cap : Nat} {G : List C} (p : Part w lo g n cap G) (e : w'.heap[g]? = w.heap[g]?) : Part w' lo g n cap G := by
  obtain ⟨X, hX, ht⟩ := p.own
  refine ⟨X, ⟨hX.1, ?_⟩, ht⟩
  rcases hX.2 with h | ⟨g', cap', cur, e', hg, hb, h⟩
  · exact .inl h
  · cases e'
    exact .inr ⟨g, cap, cur, rfl, hg, by rw [e]; exact hb, h⟩
theorem Part.full {w : World} {lo g n cap : Nat} {G : List C} (p : Part w lo g n cap G) (hn : G.length = n) : Own w lo (g + 1) (.slice (some ⟨g, 0, none⟩) n cap) G := by
  subst hn
  obtain ⟨X, hX, ht⟩ := p.own
  rw [List.take_of_length_le (by rw [hX.1]; exact Nat.le_refl _)] at ht
  subst ht
  exact ⟨hX, fun k hk => by cases hk; exact Nat.lt_succ_self _⟩
theorem Part.lt {w : World} {lo g n cap : Nat} {G : List C} (p : Part w lo g n cap G) : lo ≤ g ∧ g < w.heap.size := by
  obtain ⟨X, hX, ht⟩ := p.own
  exact hX.lt g rfl
theorem wpList_store_part {o : Oper} {a : Act} {w : World} {ops : Array Oper} {rest : List Oper} {Q : Exit → Act → World → Prop} (hgd : o.guard = none) (x y : Operand) (ho : o.op = .store 54 x y) (lo g n cap i : Nat) (G : List C) (c : C) (hx : a.eval x = .pointer (some ⟨g, i * 4, none⟩)) (hy : a.eval y = .agg (cv c).toArray)
    (hp : Part w lo g n cap G) (hi : G.length = i) (hlt : i < n) (h : ∀ w', Only g w w' → Part w' lo g n cap (G ++ [c]) → wpList Try.prog ops Q rest (a.put o.dst undef) w') : wpList Try.prog ops Q (o :: rest) a w := by
  subst hi
  obtain ⟨X, hX, ht⟩ := hp.own
  rcases hX.2 with ⟨h', _⟩ | ⟨g', cap', cur, h', hg, hb, hc1, hc2, hc3, htk⟩
  · simp at h'
  · cases h'
    refine wpList_store_mid hgd 54 x y ho g (G.length * 4) (cv c).toArray hx hy (fun j hj => ⟨?_, frozen_of_row _ _ _ _ _ hb⟩) sizeC (all_oneCell_toArray (cvs_one1 c)) (h _ (only_setCells _ _ _ _) ⟨(cur.toList.take (G.length * 4) ++ cv c ++ cur.toList.drop (G.length * 4 + 4)).take (n * 4), ⟨?_, .inr ⟨g, cap, _, rfl, hg, heap_setCells g 54 (cv c) (G.length * 4) w cur.toList (by simpa using hb) ?_, hc1, hc2, ?_, rfl⟩⟩, ?_⟩)
    · rw [cell_of_row _ _ _ _ _ _ hb]
      have hj' : j < 4 := hj
      simp; omega
    · have h4 : (cv c).length = 4 := rfl
      simp only [List.length_take, List.length_append, List.length_drop, Array.length_toList, h4]; omega
    · have h4 : (cv c).length = 4 := rfl
      have hcs : cur.toList.length = cur.size := Array.length_toList
      rw [h4]; omega
    · have h4 : (cv c).length = 4 := rfl
      simp only [List.size_toArray, List.length_take, List.length_append, List.length_drop, Array.length_toList, h4]; omega
    · have h4 : (cv c).length = 4 := rfl
      rw [cvs_append, ← ht, ← htk, List.take_take, List.take_take, List.length_append, List.length_singleton, show min ((G.length + 1) * 4) (n * 4) = G.length * 4 + 4 by omega, show min (G.length * 4) (n * 4) = G.length * 4 by omega, List.append_assoc, List.take_append, List.take_append]
      have hl : (cur.toList.take (G.length * 4)).length = G.length * 4 := by simp; omega
      rw [hl, h4, show G.length * 4 + 4 - G.length * 4 = 4 by omega, List.take_of_length_le (l := cur.toList.take (G.length * 4)) (by omega), List.take_of_length_le (l := cv c) (by omega)]
      simp [cvs]

theorem toCells_any (H : List C) (v : Value) (hi : Nat) (w : World) (hh : hi ≤ w.heap.size) (r : Rd w hi v H) (h2 : H.length ≤ 1048576) :
    Calls Try.prog 11 #[v] w fun e w' => ∃ v', e = .returned v' ∧ Own w' w.heap.size w'.heap.size v' H ∧ Below w.heap.size w w' := by
  obtain ⟨a, cap, rfl, hlc, hcm, hA0⟩ := r.fits
  have hA : Hid (H ≠ [] → ∃ b off, a = some ⟨b, off, none⟩ ∧ b < hi ∧ w.rangeAt b off (cvs H)) := hA0
  clear r hA0
  go_enter Try.func11, Try.ntmps11
  go_wp2_with (first | (refine wpList_make_c rfl _ _ 27 rfl Try.underlying27 H.length h2 rfl rfl ?_; intro g w1 hg1 hg2 hB1 hR1) | (fail))
  go_loopw [4] (fun v wr => ∃ i : Nat, i ≤ H.length ∧ v = .int .i64 i ∧ Part wr w.heap.size g H.length H.length (H.take i) ∧ Below w.heap.size w wr) (fun v _ => H.length - (intOf v).toNat)
  case atStart => exact ⟨0, by omega, rfl, hR1.part, hB1⟩
  case round =>
    obtain ⟨i, hi1, rfl, hp, hBr⟩ := hrel
    by_cases hlt : i < H.length
    · obtain ⟨b, off, rfl, hb, hrg⟩ := hA.out (by intro e; rw [e] at hlt; simp at hlt)
      obtain ⟨c, hc⟩ := hid_ex (H[i])
      have rg : Hid (wr.rangeAt b (off + i * 4) (cv c)) := by
        have h1 := cv_range (range_of hrg (hBr.block b (by omega))) i hlt
        rw [hc.out] at h1
        exact h1
      clear hrg
      have hlt' : (i : Int) < H.length := by omega
      have hbr := hBr.size
      have hil : Hid ((H.take i).length = i) := by unfold Hid; simp; omega
      have hpl := hp.lt
      go_wp2_with (first | (refine wpList_load_r rfl 56 _ rfl b (off + i * 4) (cv c) rfl _ Try.underlying56 rfl sizeLC rg.out ?_) | (go_at_call 36; refine (toCell_any c _).mono ?_; rintro e w3 ⟨rfl, hB3⟩; have hp3 := hp.keep (hB3.block g hpl.2)) | (refine wpList_store_part rfl _ _ rfl w.heap.size g H.length H.length i (H.take i) c rfl rfl hp3 hil.out hlt ?_; intro w4 hO4 hp4) | (fail))
      go_roundw
      case rel =>
        refine ⟨i + 1, by omega, by go_num, ?_, (hBr.trans (hB3.mono hbr)).trans (hO4.2.2 _ (by omega))⟩
        rw [List.take_succ_eq_append_getElem hlt, hc.out]
        exact hp4
      case measure => simp [intOf]; omega
    · have ei : i = H.length := by omega
      have hp' : Part wr w.heap.size g H.length H.length H := by
        have := hp
        rw [ei, List.take_length] at this
        exact this
      clear hp
      go_wp2
      go_ret
      exact ⟨_, rfl, (hp'.full rfl).wide (Nat.le_refl _) hp'.lt.2, hBr⟩

theorem eqCells_any (H : List C) (v v' : Value) (hi hi' : Nat) (w : World) (hh : hi ≤ w.heap.size) (hh' : hi' ≤ w.heap.size) (r : Rd w hi v H) (r' : Rd w hi' v' H) :
    Calls Try.prog 14 #[v, v'] w fun e w' => e = .returned (.bool true) ∧ Below w.heap.size w w' := by
  have hl := r.len
  obtain ⟨a, cap, rfl⟩ := r.form
  obtain ⟨a', cap', rfl⟩ := r'.form
  have R : Hid (Rd w hi (.slice a H.length cap) H) := r
  have R' : Hid (Rd w hi' (.slice a' H.length cap') H) := r'
  clear r r'
  go_enter Try.func14, Try.ntmps14
  go_wp2
  go_loopw [5] (fun v' wr => ∃ i : Nat, i ≤ H.length ∧ v' = .int .i64 i ∧ Below w.heap.size w wr) (fun v' _ => H.length - (intOf v').toNat)
  case atStart => exact ⟨0, by omega, rfl, Below.refl _ _⟩
  case round =>
    obtain ⟨i, hi1, rfl, hBr⟩ := hrel
    by_cases hlt : i < H.length
    · obtain ⟨b, off, rfl, hb, d0, d1, d2, d3⟩ := (R.out.below hBr hh).cell i hlt
      obtain ⟨b', off', rfl, hb', e0, e1, e2, e3⟩ := (R'.out.below hBr hh').cell i hlt
      obtain ⟨c, hc⟩ := hid_ex (H[i])
      rw [hc.out] at d0 d1 d2 d3 e0 e1 e2 e3
      obtain ⟨k, x, n, g⟩ := c
      have hlt' : (i : Int) < H.length := by omega
      have hbr := hBr.size
      have S0 : wr.cell? ⟨b, off + i * 4, none⟩ = some (.int .i64 k) ∧ wr.cell? ⟨b, off + i * 4 + 1, none⟩ = some (.int .i64 x) ∧ wr.cell? ⟨b, off + i * 4 + 2, none⟩ = some (.int .i64 n) ∧ wr.cell? ⟨b, off + i * 4 + 3, none⟩ = some (.bool g) ∧
        wr.cell? ⟨b', off' + i * 4, none⟩ = some (.int .i64 k) ∧ wr.cell? ⟨b', off' + i * 4 + 1, none⟩ = some (.int .i64 x) ∧ wr.cell? ⟨b', off' + i * 4 + 2, none⟩ = some (.int .i64 n) ∧ wr.cell? ⟨b', off' + i * 4 + 3, none⟩ = some (.bool g) := ⟨d0, d1, d2, d3, e0, e1, e2, e3⟩
      go_wp2
      go_region_held3 (fun w' => w'.cell? ⟨b, off + i * 4, none⟩ = some (.int .i64 k) ∧ w'.cell? ⟨b, off + i * 4 + 1, none⟩ = some (.int .i64 x) ∧ w'.cell? ⟨b, off + i * 4 + 2, none⟩ = some (.int .i64 n) ∧ w'.cell? ⟨b, off + i * 4 + 3, none⟩ = some (.bool g) ∧
        w'.cell? ⟨b', off' + i * 4, none⟩ = some (.int .i64 k) ∧ w'.cell? ⟨b', off' + i * 4 + 1, none⟩ = some (.int .i64 x) ∧ w'.cell? ⟨b', off' + i * 4 + 2, none⟩ = some (.int .i64 n) ∧ w'.cell? ⟨b', off' + i * 4 + 3, none⟩ = some (.bool g)) (first | assumption | exact S0) (first | (go_at_call 44; refine (eqCell_any ⟨k, x, n, g⟩ _).mono ?_; rintro e w5 ⟨rfl, hB5⟩; have q1 : ∀ o u, wr.cell? ⟨b, o, none⟩ = some u → w5.cell? ⟨b, o, none⟩ = some u := (fun o u h => by rw [hB5.cell (by show b < wr.heap.size; omega)]; exact h); have q2 : ∀ o u, wr.cell? ⟨b', o, none⟩ = some u → w5.cell? ⟨b', o, none⟩ = some u := (fun o u h => by rw [hB5.cell (by show b' < wr.heap.size; omega)]; exact h); have S5 := And.intro (q1 _ _ d0) (And.intro (q1 _ _ d1) (And.intro (q1 _ _ d2) (And.intro (q1 _ _ d3) (And.intro (q2 _ _ e0) (And.intro (q2 _ _ e1) (And.intro (q2 _ _ e2) (q2 _ _ e3))))))); clear q1 q2) | (fail))
      go_wp2
      go_roundw
      case rel => exact ⟨i + 1, by omega, by go_num, hBr.drew.trans (hB5.mono hbr)⟩
      case measure => simp [intOf]; omega
    · go_wp2
      go_ret
      exact ⟨rfl, hBr⟩

def mark (k : Int) : C := ⟨k, k + 1, k + 1 + 1, (k + 1 + 1 + 1) % 3 == 0⟩
def marks (k : Int) (n : Nat) : List C := (List.range n).map fun j : Nat => mark (k + 4 * (j : Int))
theorem marks_len (k : Int) (n : Nat) : (marks k n).length = n := by simp [marks]
theorem marks_succ (k : Int) (n : Nat) : marks k (n + 1) = marks k n ++ [mark (k + 4 * (n : Int))] := by simp [marks, List.range_succ]
theorem marks_get (k : Int) (n i : Nat) (h : i < (marks k n).length) : (marks k n)[i] = mark (k + 4 * (i : Int)) := by simp [marks]
theorem Own.len {w : World} {lo hi n cap : Nat} {a : Option Addr} {X : List C} (o : Own w lo hi (.slice a n cap) X) : n = X.length := by
  rcases o.row.2 with ⟨e, h0⟩ | ⟨g, cap', cur, e, -⟩
  · cases e; omega
  · cases e; rfl
theorem Own.frozen' {w : World} {lo hi g n cap : Nat} {X : List C} (o : Own w lo hi (.slice (some ⟨g, 0, none⟩) n cap) X) (j : Nat) : w.frozen? ⟨g, j, none⟩ = false := by
  have e := o.len
  subst e
  exact o.frozen j
theorem Own.mark4 {w : World} {lo hi g n cap : Nat} {X : List C} (o : Own w lo hi (.slice (some ⟨g, 0, none⟩) n cap) X) (i : Nat) (hi' : i < X.length) (c : C) :
    Own ((((w.setCell ⟨g, i * 4, none⟩ (.int .i64 c.key)).setCell ⟨g, i * 4 + 1, none⟩ (.int .i64 c.value)).setCell ⟨g, i * 4 + 2, none⟩ (.int .i64 c.next)).setCell ⟨g, i * 4 + 3, none⟩ (.bool c.gone)) lo hi (.slice (some ⟨g, 0, none⟩) n cap) (X.set i c) := by
  have e := o.len
  subst e
  have e1 := o.set i hi' 0 (by omega) (.int .i64 c.key) { X[i] with key := c.key } rfl
  have e2 := Own.set (H := X.set i { X[i] with key := c.key }) (by rw [List.length_set]; exact e1) i (by simpa using hi') 1 (by omega) (.int .i64 c.value) { X[i] with key := c.key, value := c.value } (by simp [cv])
  rw [List.set_set] at e2
  have e3 := Own.set (H := X.set i { X[i] with key := c.key, value := c.value }) (by simpa using e2) i (by simpa using hi') 2 (by omega) (.int .i64 c.next) { X[i] with key := c.key, value := c.value, next := c.next } (by simp [cv])
  rw [List.set_set] at e3
  have e4 := Own.set (H := X.set i { X[i] with key := c.key, value := c.value, next := c.next }) (by simpa using e3) i (by simpa using hi') 3 (by omega) (.bool c.gone) c (by simp [cv])
  rw [List.set_set] at e4
  simpa using e4

theorem markCells_any (H : List C) (v : Value) (lo hi : Nat) (w : World) (own : Own w lo hi v H) (h2 : H.length ≤ 1048576) :
    Calls Try.prog 20 #[v, .int .i64 1] w fun e w' => e = .returned (.int .i64 (1 + 4 * (H.length : Int))) ∧ Own w' lo hi v (marks 1 H.length) ∧ Within lo hi w w' := by
  obtain ⟨a, cap, rfl⟩ := own.rd.form
  have hA : Hid (1 ≤ H.length → ∃ g, a = some ⟨g, 0, none⟩ ∧ lo ≤ g ∧ g < hi) := fun h => by
    obtain ⟨g, cap', e, h1, h2, -⟩ := own.form h
    cases e
    exact ⟨g, rfl, h1, h2⟩
  have O : Hid (Own w lo hi (.slice a H.length cap) H) := own
  clear own
  go_enter Try.func20, Try.ntmps20
  go_wp2
  go_loopw [1, 5] (fun q v' wr => ∃ i : Nat, i ≤ H.length ∧ v' = .int .i64 i ∧ q = .int .i64 (1 + 4 * (i : Int)) ∧ Hid (Own wr lo hi (.slice a H.length cap) (marks 1 i ++ H.drop i)) ∧ Within lo hi w wr) (fun _ v' _ => H.length - (intOf v').toNat)
  case atStart => exact ⟨0, by omega, rfl, by simp, by simpa [marks] using O, Within.refl _ _ _⟩
  case round =>
    obtain ⟨i, hi1, rfl, rfl, ho, hW⟩ := hrel
    by_cases hlt : i < H.length
    · obtain ⟨g, rfl, hg1, hg2⟩ := hA.out (by omega)
      have hil : Hid (i < (marks 1 i ++ H.drop i).length) := by unfold Hid; simp [marks_len]; omega
      obtain ⟨d0, d1, d2, d3⟩ := ho.out.cell i hil.out
      have f0 := ho.out.frozen' (i * 4)
      have f1 := ho.out.frozen' (i * 4 + 1)
      have f2 := ho.out.frozen' (i * 4 + 2)
      have f3 := ho.out.frozen' (i * 4 + 3)
      have hlt' : (i : Int) < H.length := by omega
      go_wp2
      go_roundw
      case rel =>
        have h1 := ho.out.mark4 i hil.out (mark (1 + 4 * (i : Int)))
        have e : (marks 1 i ++ H.drop i).set i (mark (1 + 4 * (i : Int))) = marks 1 (i + 1) ++ H.drop (i + 1) := by
          rw [List.set_append_right _ _ (by rw [marks_len]; omega), marks_len, Nat.sub_self, List.drop_eq_getElem_cons hlt, List.set_cons_zero, marks_succ]
          simp
        rw [e] at h1
        exact ⟨i + 1, by omega, by go_num, by go_num, h1, (((hW.setCell hg1 hg2 _).setCell hg1 hg2 _).setCell hg1 hg2 _).setCell hg1 hg2 _⟩
      case measure => simp [intOf]; omega
    · have ei : i = H.length := by omega
      have ho' : Own wr lo hi (.slice a H.length cap) (marks 1 H.length) := by
        have := ho.out
        rw [ei, List.drop_length, List.append_nil] at this
        exact this
      clear ho
      go_wp2
      go_ret
      exact ⟨by first | rfl | (rw [ei]; rfl), ho', hW⟩

theorem heldCells_any (n : Nat) (v : Value) (hi : Nat) (w : World) (r : Rd w hi v (marks 1 n)) (h2 : n ≤ 1048576) :
    Calls Try.prog 21 #[v, .int .i64 1] w fun e w' => e = .returned (.int .i64 (1 + 4 * (n : Int))) ∧ w' = w := by
  obtain ⟨a, cap, rfl⟩ := r.form
  rw [marks_len] at r ⊢
  have R : Hid (Rd w hi (.slice a n cap) (marks 1 n)) := r
  clear r
  go_enter Try.func21, Try.ntmps21
  go_wp2
  go_loop [1, 5] (fun q v' => ∃ i : Nat, i ≤ n ∧ v' = .int .i64 i ∧ q = .int .i64 (1 + 4 * (i : Int))) (fun _ v' => n - (intOf v').toNat)
  case atStart => exact ⟨0, by omega, rfl, by simp⟩
  case round =>
    obtain ⟨i, hi', rfl, rfl⟩ := hrel
    by_cases hlt : i < n
    · have hil : i < (marks 1 n).length := by rw [marks_len]; exact hlt
      obtain ⟨b, off, rfl, -, d0, d1, d2, d3⟩ := R.out.cell i hil
      rw [marks_get] at d0 d1 d2 d3
      simp only [mark] at d0 d1 d2 d3
      clear hil
      have hlt' : (i : Int) < n := by omega
      go_wp2
      go_round
      case rel => exact ⟨i + 1, by omega, by go_num, by go_num⟩
      case measure => simp [intOf]; omega
    · have e : i = n := by omega
      go_wp2
      go_ret
      exact ⟨by first | rfl | (rw [e]; rfl), rfl⟩

end Go.Proofs.Ytnjeepmbkogaeaa.ce
