/- Texts laid together: Bb1 Ro9 Is1 Ro10 Is2 Rs1 Rs2 Mk0 MkIt Bh1 Sn5 Sn1 Sn2 Sn6 Sn3. -/
import Derived.Test.YtjkkjpgebcnhgaaGreatDoorMg00
import Derived.Test.YtjkkjpgebcnhgaaGreatDoorMg01
import Derived.Test.YtjkkjpgebcnhgaaGreatDoorMg02
import Derived.Deep.RegionHeld3
import Derived.BigQuiet
import Derived.Deep.Slices
import Derived.Lib.SmallJoins
import Derived.ShutString
import Derived.ChangeOld
import Derived.Lib.Bytealg
/- Books in memory: right ones, new ones, both sides; the model's copy. -/
namespace Go.Proofs.YtjkkjpgebcnhgaaGreatDoor.rg
open Go.ChangeShapes Go.WideShapes Go.ChangeAt Go.RowKit
open Go.Proofs.YtjkkjpgebcnhgaaGreatDoor.ce Go.Proofs.YtjkkjpgebcnhgaaGreatDoor.ro
set_option linter.unusedVariables false

theorem sizeBk : (Tryz.prog.info? 31).map (·.size) = some 2 := by kernel_rfl
theorem sizeLBk : (Tryz.prog.info? 24).map (·.size) = some 2 := by kernel_rfl
theorem zeroBk (w : World) : (zeroValue 31).run Tryz.prog w = .ok (.agg [Value.slice none 0 0, .int .i64 0].toArray) w := Tryz.zeroValue31 w
theorem oneBk (a : Option Addr) (n k : Nat) (X : Int) : ∀ v ∈ [Value.slice a n k, .int .i64 X], v.oneCell' = true := by
  intro v hv
  simp only [List.mem_cons, List.not_mem_nil, or_false] at hv
  rcases hv with rfl | rfl <;> rfl
theorem bAl (w : World) (o : Obj) : Below w.heap.size w (w.alloc o) := (Below.refl _ _).alloc (Nat.le_refl _) _
theorem specStoreOk_any (I : List It) (X : Int) (v : Value) (y : Bool) (hy : Hid (storeB ⟨I, X⟩ = y)) (w : World) (r : Rd encIt w v I) (hs : SmK I) :
    Calls Tryz.prog 20 #[.agg #[v, .int .i64 X]] w fun e w' => e = .returned (.bool y) ∧ Below w.heap.size w w' := by
  obtain ⟨a, cap, rfl⟩ := r.form
  have R : Hid (Rd encIt w (.slice a I.length cap) I) := r
  have HS : Hid (SmK I) := hs
  clear r hs
  cases hb : bookB I with
  | false =>
    have ey : y = false := by rw [← hy.out]; unfold storeB; rw [hb]; rfl
    subst ey
    go_enter Tryz.func20, Tryz.ntmps20
    go_wp2_with (first | (refine wpList_box_v rfl 31 _ rfl [.slice a I.length cap, .int .i64 X] rfl ?_; intro b1 w1 hb1 hw1 hB1 V1; obtain ⟨c0, c1⟩ := cells2 V1; have hz1 := hB1.size) | (go_at_call 53; refine (specBookOk_any I _ _ (R.out.grow hB1) HS.out).mono ?_; rintro e w2 ⟨rfl, hB2⟩; rw [hb]) | (fail))
    go_ret
    exact ⟨rfl, hB1.trans (hB2.mono hz1)⟩
  | true =>
    have ey : Hid ((decide (1 ≤ X) && decide (X ≤ 1000000)) = y) := by unfold Hid; rw [← hy.out]; unfold storeB; rw [hb]; rfl
    clear hy
    go_enter Tryz.func20, Tryz.ntmps20
    go_wp2_with (first | (refine wpList_box_v rfl 31 _ rfl [.slice a I.length cap, .int .i64 X] rfl ?_; intro b1 w1 hb1 hw1 hB1 V1; obtain ⟨c0, c1⟩ := cells2 V1; have hz1 := hB1.size) | (go_at_call 53; refine (specBookOk_any I _ _ (R.out.grow hB1) HS.out).mono ?_; rintro e w2 ⟨rfl, hB2⟩; rw [hb]; obtain ⟨d0, d1⟩ := cells2 (vblk_grow V1 hB2)) | (go_at_call 54; refine (in_is _ _ _ y ey.out _).mono ?_; rintro e wq ⟨rfl, hq⟩; subst wq) | (fail))
    go_ret
    exact ⟨rfl, hB1.trans (hB2.mono hz1)⟩
theorem implStoreOk_any (I : List It) (X : Int) (v : Value) (y : Bool) (hy : Hid (storeB ⟨I, X⟩ = y)) (w : World) (r : Rd encIt w v I) (hs : SmK I) :
    Calls Tryz.prog 19 #[.agg #[v, .int .i64 X]] w fun e w' => e = .returned (.bool y) ∧ Below w.heap.size w w' := by
  obtain ⟨a, cap, rfl⟩ := r.form
  have R : Hid (Rd encIt w (.slice a I.length cap) I) := r
  have HS : Hid (SmK I) := hs
  clear r hs
  cases hb : bookB I with
  | false =>
    have ey : y = false := by rw [← hy.out]; unfold storeB; rw [hb]; rfl
    subst ey
    go_enter Tryz.func19, Tryz.ntmps19
    go_wp2_with (first | (refine wpList_box_v rfl 31 _ rfl [.slice a I.length cap, .int .i64 X] rfl ?_; intro b1 w1 hb1 hw1 hB1 V1; obtain ⟨c0, c1⟩ := cells2 V1; have hz1 := hB1.size) | (go_at_call 52; refine (implBookOk_any I _ _ (R.out.grow hB1) HS.out).mono ?_; rintro e w2 ⟨rfl, hB2⟩; rw [hb]) | (fail))
    go_ret
    exact ⟨rfl, hB1.trans (hB2.mono hz1)⟩
  | true =>
    have ey : Hid ((decide (1 ≤ X) && decide (X ≤ 1000000)) = y) := by unfold Hid; rw [← hy.out]; unfold storeB; rw [hb]; rfl
    clear hy
    go_enter Tryz.func19, Tryz.ntmps19
    go_wp2_with (first | (refine wpList_box_v rfl 31 _ rfl [.slice a I.length cap, .int .i64 X] rfl ?_; intro b1 w1 hb1 hw1 hB1 V1; obtain ⟨c0, c1⟩ := cells2 V1; have hz1 := hB1.size) | (go_at_call 52; refine (implBookOk_any I _ _ (R.out.grow hB1) HS.out).mono ?_; rintro e w2 ⟨rfl, hB2⟩; rw [hb]; obtain ⟨d0, d1⟩ := cells2 (vblk_grow V1 hB2)) | (go_at_call 37; refine (within_is _ _ _ y ey.out _).mono ?_; rintro e wq ⟨rfl, hq⟩; subst wq) | (fail))
    go_ret
    exact ⟨rfl, hB1.trans (hB2.mono hz1)⟩
/-- while a book is copied: the one in b1 is read, the new one lies in b2 -/
structure Cpb (w : World) (b1 b2 : Nat) (vs : List Value) (w' : World) : Prop where
  low : Below w.heap.size w w'
  src : VBlk w' b1 31 vs
  var : ∃ x y, VBlk w' b2 31 [x, y]
theorem cb_of {w w' : World} {b1 b2 : Nat} {u v : Value} (h : Cpb w b1 b2 [u, v] w') : w'.cell? ⟨b1, 0, none⟩ = some u ∧ w'.cell? ⟨b1, 1, none⟩ = some v ∧ Cpb w b1 b2 [u, v] w' := ⟨(cells2 h.src).1, (cells2 h.src).2, h⟩
theorem cb_alloc {w w' : World} {b1 b2 : Nat} {u v : Value} {o : Obj} (h : w'.cell? ⟨b1, 0, none⟩ = some u ∧ w'.cell? ⟨b1, 1, none⟩ = some v ∧ Cpb w b1 b2 [u, v] w') :
    (w'.alloc o).cell? ⟨b1, 0, none⟩ = some u ∧ (w'.alloc o).cell? ⟨b1, 1, none⟩ = some v ∧ Cpb w b1 b2 [u, v] (w'.alloc o) := by
  obtain ⟨-, -, h1, h2, x, y, h3⟩ := h
  exact cb_of ⟨h1.alloc h1.size _, vblk_grow h2 (bAl _ _), x, y, vblk_grow h3 (bAl _ _)⟩
theorem cb_alloc_drew {w w' : World} {b1 b2 : Nat} {u v : Value} {o : Obj} (h : w'.drew.cell? ⟨b1, 0, none⟩ = some u ∧ w'.drew.cell? ⟨b1, 1, none⟩ = some v ∧ Cpb w b1 b2 [u, v] w'.drew) :
    (w'.alloc o).drew.cell? ⟨b1, 0, none⟩ = some u ∧ (w'.alloc o).drew.cell? ⟨b1, 1, none⟩ = some v ∧ Cpb w b1 b2 [u, v] (w'.alloc o).drew := cb_alloc (w' := w'.drew) (o := o) h
theorem cb_ty {w w' w'' : World} {b1 b2 lo : Nat} {t : TypeId} {u v : Value} (hT : Ty lo t w' w'') (hlo : w.heap.size ≤ lo) (ht : 31 ≠ t) (h : w'.cell? ⟨b1, 0, none⟩ = some u ∧ w'.cell? ⟨b1, 1, none⟩ = some v ∧ Cpb w b1 b2 [u, v] w') :
    w''.cell? ⟨b1, 0, none⟩ = some u ∧ w''.cell? ⟨b1, 1, none⟩ = some v ∧ Cpb w b1 b2 [u, v] w'' := by
  obtain ⟨-, -, h1, h2, x, y, h3⟩ := h
  exact cb_of ⟨h1.trans (hT.low.mono hlo), hT.vblk h2 ht, x, y, hT.vblk h3 ht⟩
theorem cb_low {w w' : World} {b1 b2 : Nat} {u v : Value} (h : w'.cell? ⟨b1, 0, none⟩ = some u ∧ w'.cell? ⟨b1, 1, none⟩ = some v ∧ Cpb w b1 b2 [u, v] w') : Below w.heap.size w w' := h.2.2.low
theorem cb_size {w w' : World} {b1 b2 : Nat} {u v : Value} (h : w'.cell? ⟨b1, 0, none⟩ = some u ∧ w'.cell? ⟨b1, 1, none⟩ = some v ∧ Cpb w b1 b2 [u, v] w') : w.heap.size ≤ w'.heap.size := h.2.2.low.size
theorem cb_store {w w' : World} {b1 b2 : Nat} {u v y0 y1 : Value} (hn : b1 ≠ b2) (hlo : w.heap.size ≤ b2) (h : w'.cell? ⟨b1, 0, none⟩ = some u ∧ w'.cell? ⟨b1, 1, none⟩ = some v ∧ Cpb w b1 b2 [u, v] w') :
    ((w'.setCell ⟨b2, 0, none⟩ y0).setCell ⟨b2, 1, none⟩ y1).cell? ⟨b1, 0, none⟩ = some u ∧ ((w'.setCell ⟨b2, 0, none⟩ y0).setCell ⟨b2, 1, none⟩ y1).cell? ⟨b1, 1, none⟩ = some v ∧ Cpb w b1 b2 [u, v] ((w'.setCell ⟨b2, 0, none⟩ y0).setCell ⟨b2, 1, none⟩ y1) := by
  obtain ⟨-, -, h1, h2, x, y, h3⟩ := h
  have o1 := only_set w' b2 0 y0
  have o2 := only_set (w'.setCell ⟨b2, 0, none⟩ y0) b2 1 y1
  refine cb_of ⟨(h1.trans (o1.2.2 _ hlo)).trans (o2.2.2 _ hlo), vblk_only (vblk_only h2 o1 hn) o2 hn, y0, y1, ?_⟩
  have := (h3.set 0 y0).set 1 y1
  simpa using this
theorem own_store2 {α : Type} {E : Enc α} {w' : World} {b2 lo hi : Nat} {y0 y1 v : Value} {t : TypeId} {vs : List Value} {xs : List α} (o : Own E w' lo hi v xs) (hv : VBlk w' b2 t vs) (ht : E.t ≠ t) : Own E ((w'.setCell ⟨b2, 0, none⟩ y0).setCell ⟨b2, 1, none⟩ y1) lo hi v xs :=
  (o.only (only_set _ _ _ _) hv ht).only (only_set _ _ _ _) (hv.set 0 y0) ht
theorem copy2_end {w' : World} {b2 : Nat} {t : TypeId} {q0 q1 y0 y1 : Value} (hv : VBlk w' b2 t [q0, q1]) : VBlk ((w'.setCell ⟨b2, 0, none⟩ y0).setCell ⟨b2, 1, none⟩ y1) b2 t [y0, y1] := by simpa using (hv.set 0 y0).set 1 y1
set_option maxRecDepth 100000 in
set_option maxHeartbeats 2000000 in
theorem l13Copy_any (I : List It) (X : Int) (v : Value) (w : World) (r : Rd encIt w v I) (hl : I.length ≤ 1048576) :
    Calls Tryz.prog 33 #[.agg #[v, .int .i64 X]] w fun e w' => ∃ v', e = .returned (.agg #[v', .int .i64 X]) ∧ Own encIt w' w.heap.size w'.heap.size v' I ∧ Below w.heap.size w w' := by
  obtain ⟨a, cap, rfl⟩ := r.form
  have R : Hid (Rd encIt w (.slice a I.length cap) I) := r
  clear r
  have m1 : Hid True := trivial
  go_enter Tryz.func33, Tryz.ntmps33
  go_wp2_with (first | (clear m1; refine wpList_box_v rfl 31 _ rfl [.slice a I.length cap, .int .i64 X] rfl ?_; intro b1 w1 hb1 hw1 hB1 hV1; have hz1 := hB1.size) | (refine wpList_alloc_v rfl 31 rfl _ zeroBk ?_; intro b2 w2 hb2 hw2 hB2 hV2; have hz2 := hB2.size; have hB12 : Below w.heap.size w w2 := hB1.trans (hB2.mono hz1)) | (fail))
  have S1 := cb_of (w := w) (b1 := b1) (b2 := b2) (w' := w2.drew) ⟨hB12.drew, hV1.of (hB2.block b1 hw1), _, _, hV2⟩
  have hne : b1 ≠ b2 := by omega
  have hlo : w.heap.size ≤ b2 := by omega
  go_region_held3 (fun w' => w'.cell? ⟨b1, 0, none⟩ = some (.slice a I.length cap) ∧ w'.cell? ⟨b1, 1, none⟩ = some (.int .i64 X) ∧ Cpb w b1 b2 [.slice a I.length cap, .int .i64 X] w') (first | with_reducible assumption | with_reducible exact cb_store hne hlo (by assumption) | with_reducible exact cb_alloc (by assumption) | with_reducible exact cb_alloc_drew (by assumption) | (fail)) (first | (refine step_append_g infoIt rfl _ _ 29 rfl Tryz.underlying29 w.heap.size 0 _ [] rfl (own_zero _ _ _ _ _) (cb_size (by with_reducible assumption)) _ I rfl (R.out.grow (cb_low (by with_reducible assumption))) (by simp; omega) ?_; intro v5 W5 o5 hT5; rw [List.nil_append] at o5; have hS5 := cb_ty hT5 (Nat.le_refl _) (by decide) (by with_reducible assumption); obtain ⟨q0, q1, hv⟩ := hS5.2.2.var; obtain ⟨g0, g1⟩ := cells2 hv; have f0 := hv.frozen 0; have f1 := hv.frozen 1; obtain ⟨a5, n5, k5, rfl⟩ := o5.slice) | (fail))
  all_goals
    go_wp2
    exact row_retv rfl rfl (copy2_end hv) Tryz.underlying31 sizeBk rfl ⟨_, rfl, (own_store2 o5 hv (by decide)).top, cb_low (by with_reducible assumption)⟩
end Go.Proofs.YtjkkjpgebcnhgaaGreatDoor.rg
/- A row that is filled from its head on, of whatever things: made, stored into, full. -/
namespace Go.Proofs.YtjkkjpgebcnhgaaGreatDoor.ro
open Go.ChangeShapes Go.WideShapes Go.ChangeAt Go.RowKit
open Go.Proofs.YtjkkjpgebcnhgaaGreatDoor.ce
set_option linter.unusedVariables false
variable {α : Type}

structure Part (E : Enc α) (w : World) (lo g n cap : Nat) (G : List α) : Prop where
  own : ∃ X, w.ownsRow lo E.t E.k (.slice (some ⟨g, 0, none⟩) n cap) n X ∧ X.take (G.length * E.k) = E.row G
theorem Part.keep {E : Enc α} {w w' : World} {lo g n cap : Nat} {G : List α} (p : Part E w lo g n cap G) (e : w'.heap[g]? = w.heap[g]?) : Part E w' lo g n cap G := by
  obtain ⟨X, hX, ht⟩ := p.own
  refine ⟨X, ⟨hX.1, ?_⟩, ht⟩
  rcases hX.2 with h | ⟨g', cap', cur, e', hg, hb, h⟩
  · exact .inl h
  · cases e'
    exact .inr ⟨g, cap, cur, rfl, hg, by rw [e]; exact hb, h⟩
theorem Part.lt {E : Enc α} {w : World} {lo g n cap : Nat} {G : List α} (p : Part E w lo g n cap G) : lo ≤ g ∧ g < w.heap.size := by
  obtain ⟨X, hX, ht⟩ := p.own
  exact hX.lt g rfl
theorem Part.full {E : Enc α} {w : World} {lo g n cap : Nat} {G : List α} (p : Part E w lo g n cap G) (hn : G.length = n) : Own E w lo w.heap.size (.slice (some ⟨g, 0, none⟩) n cap) G := by
  subst hn
  obtain ⟨X, hX, ht⟩ := p.own
  rw [List.take_of_length_le (by rw [hX.1]; exact Nat.le_refl _)] at ht
  subst ht
  exact own_of hX
section
variable {ops : Array Oper} {rest : List Oper} {o : Oper} {a : Act} {w : World} {Q : Exit → Act → World → Prop}
theorem wpList_make_p {E : Enc α} (I : Info E) (hgd : o.guard = none) (l c : Operand) (t : TypeId) (ho : o.op = .makeSlice t l c) (ht : Tryz.prog.underlying t = some (.slice E.t)) (n : Nat) (hn : n ≤ 1048576) (hl : a.eval l = .int .i64 n) (hc : a.eval c = .int .i64 n)
    (h : ∀ b w', w.heap.size ≤ b → b < w'.heap.size → Below w.heap.size w w' → Part E w' w.heap.size b n n [] → wpList Tryz.prog ops Q rest (a.put o.dst (.slice (some ⟨b, 0, none⟩) n n)) w') : wpList Tryz.prog ops Q (o :: rest) a w := by
  obtain ⟨i0, z, hi0, hz0, hz1, hz2, hz3⟩ := I.ex
  refine wpList_make_full _ hgd l c t ho w.heap.size E.t i0 z E.k ht hi0 hz0 hz1 .i64 .i64 n n n hl hc rfl rfl (by have := Nat.mul_le_mul hz2 hn; omega) (by unfold maxLen; omega) (Nat.le_refl _) ?_
  intro w1 h1 h2
  have hb : Below w.heap.size w w1 := below_grown h2 (Nat.le_refl _) (fun k hk => by cases hk)
  exact h _ w1 (Nat.le_refl _) (h1.lt _ rfl).2 hb ⟨_, h1, by simp [Enc.row]⟩
theorem wpList_store_p {E : Enc α} (hsz : (Tryz.prog.info? E.t).map (·.size) = some E.k) (hgd : o.guard = none) (x y : Operand) (ho : o.op = .store E.t x y) (lo g n cap i j0 : Nat) (G : List α) (c : α) (hx : a.eval x = .pointer (some ⟨g, j0, none⟩)) (hj0 : j0 = i * E.k) (hy : a.eval y = .agg (E.put c).toArray)
    (hp : Part E w lo g n cap G) (hi : G.length = i) (hlt : i < n) (h : ∀ w', Only g w w' → Part E w' lo g n cap (G ++ [c]) → wpList Tryz.prog ops Q rest (a.put o.dst undef) w') : wpList Tryz.prog ops Q (o :: rest) a w := by
  subst hi
  subst hj0
  obtain ⟨X, hX, ht⟩ := hp.own
  have h4 : (E.put c).length = E.k := E.len c
  have hm : (G.length + 1) * E.k = G.length * E.k + E.k := by rw [Nat.add_mul]; omega
  have hm2 : (G.length + 1) * E.k ≤ n * E.k := Nat.mul_le_mul_right _ (by omega)
  rcases hX.2 with ⟨h', _⟩ | ⟨g', cap', cur, h', hg, hb, hc1, hc2, hc3, htk⟩
  · simp at h'
  · cases h'
    have hm3 : n * E.k ≤ cap * E.k := Nat.mul_le_mul_right _ hc1
    have hcs : cur.toList.length = cur.size := Array.length_toList
    refine wpList_store_mid hgd E.t x y ho g (G.length * E.k) (E.put c).toArray hx hy (fun j hj => ⟨?_, frozen_of_row _ _ _ _ _ hb⟩) (by rw [hsz, List.size_toArray, h4]) (all_oneCell_toArray (E.one c)) (h _ (only_setCells _ _ _ _) ⟨(cur.toList.take (G.length * E.k) ++ E.put c ++ cur.toList.drop (G.length * E.k + E.k)).take (n * E.k), ⟨?_, .inr ⟨g, cap, (cur.toList.take (G.length * E.k) ++ E.put c ++ cur.toList.drop (G.length * E.k + E.k)).toArray, rfl, hg, ?_, hc1, hc2, ?_, rfl⟩⟩, ?_⟩)
    · rw [cell_of_row _ _ _ _ _ _ hb]
      have hj' : j < E.k := by rw [List.size_toArray, h4] at hj; exact hj
      simp; omega
    · simp only [List.length_take, List.length_append, List.length_drop, h4]; omega
    · have := heap_setCells g E.t (E.put c) (G.length * E.k) w cur.toList (by simpa using hb) (by omega)
      rw [h4] at this
      exact this
    · simp only [List.size_toArray, List.length_take, List.length_append, List.length_drop, h4]; omega
    · rw [E.row_append, ← ht, ← htk, List.take_take, List.take_take, List.length_append, List.length_singleton, show min ((G.length + 1) * E.k) (n * E.k) = G.length * E.k + E.k by omega, show min (G.length * E.k) (n * E.k) = G.length * E.k by omega, List.append_assoc, List.take_append, List.take_append]
      have hl : (cur.toList.take (G.length * E.k)).length = G.length * E.k := by simp; omega
      rw [hl, h4, show G.length * E.k + E.k - G.length * E.k = E.k by omega, List.take_of_length_le (l := cur.toList.take (G.length * E.k)) (by omega), List.take_of_length_le (l := E.put c) (by omega), E.row_one']
      simp
end
end Go.Proofs.YtjkkjpgebcnhgaaGreatDoor.ro
/- Contracts of the laws' helpers on things and books: sizes, copies, comparisons. -/
namespace Go.Proofs.YtjkkjpgebcnhgaaGreatDoor.rg
open Go.ChangeShapes Go.WideShapes Go.ChangeAt Go.RowKit
open Go.Proofs.YtjkkjpgebcnhgaaGreatDoor.ce Go.Proofs.YtjkkjpgebcnhgaaGreatDoor.ro
set_option linter.unusedVariables false

theorem szItem_any (N B : ByteArray) (F C U : Int) (hN : N.size ≤ 9223372036854775807) (hB : B.size ≤ 9223372036854775807) (L : Int) (hL : L ≤ 1048576) (hL0 : 0 ≤ L) (w : World) :
    Calls Tryz.prog 64 #[.agg #[.string N, .int .i64 F, .string B, .int .i64 C, .int .i64 U], .int .i64 L] w fun e w' => ∃ q : Int, e = .returned (.int .i64 q) ∧ Below w.heap.size w w' ∧ q ≤ 1048576 ∧ (0 ≤ q → N.size ≤ 1048576 ∧ B.size ≤ 1048576) := by
  have e1 : IntKind.i64.wrap (L - (N.size : Int)) = L - N.size := by rw [IntKind.wrap_i64]; omega
  by_cases h1 : L - (N.size : Int) < 0
  · go_enter Tryz.func64, Tryz.ntmps64
    go_wp2_with (first | (refine wpList_box_v rfl 98 _ rfl [.string N, .int .i64 F, .string B, .int .i64 C, .int .i64 U] rfl ?_; intro b1 w1 hb1 hw1 hB1 V1; obtain ⟨c0, c1, c2, c3, c4⟩ := cells5 V1) | (fail))
    go_ret
    exact ⟨-1, rfl, hB1, by omega, fun _ => by omega⟩
  · have e2 : IntKind.i64.wrap (L - (N.size : Int) - (B.size : Int)) = L - N.size - B.size := by rw [IntKind.wrap_i64]; omega
    by_cases h2 : L - (N.size : Int) - (B.size : Int) < 0
    · go_enter Tryz.func64, Tryz.ntmps64
      go_wp2_with (first | (refine wpList_box_v rfl 98 _ rfl [.string N, .int .i64 F, .string B, .int .i64 C, .int .i64 U] rfl ?_; intro b1 w1 hb1 hw1 hB1 V1; obtain ⟨c0, c1, c2, c3, c4⟩ := cells5 V1) | (fail))
      go_ret
      exact ⟨-1, rfl, hB1, by omega, fun _ => by omega⟩
    · go_enter Tryz.func64, Tryz.ntmps64
      go_wp2_with (first | (refine wpList_box_v rfl 98 _ rfl [.string N, .int .i64 F, .string B, .int .i64 C, .int .i64 U] rfl ?_; intro b1 w1 hb1 hw1 hB1 V1; obtain ⟨c0, c1, c2, c3, c4⟩ := cells5 V1) | (fail))
      go_ret
      exact ⟨_, rfl, hB1, by omega, fun _ => by omega⟩

set_option maxHeartbeats 1000000 in
theorem toItem_any (N B : ByteArray) (F C U : Int) (w : World) :
    Calls Tryz.prog 70 #[.agg #[.string N, .int .i64 F, .string B, .int .i64 C, .int .i64 U]] w fun e w' => e = .returned (.agg #[.string N, .int .i64 F, .string B, .int .i64 C, .int .i64 U]) ∧ Below w.heap.size w w' := by
  go_enter Tryz.func70, Tryz.ntmps70
  go_wp2
  have h1 : VBlk ((w.alloc (.cells #[.string N, .int .i64 F, .string B, .int .i64 C, .int .i64 U] 98)).alloc (.cells #[.string N, .int .i64 F, .string B, .int .i64 C, .int .i64 U] 56)) (w.heap.size + 1) 56 [.string N, .int .i64 F, .string B, .int .i64 C, .int .i64 U] := by
    have := heap_alloc_new (w.alloc (.cells #[.string N, .int .i64 F, .string B, .int .i64 C, .int .i64 U] 98)) (.cells #[.string N, .int .i64 F, .string B, .int .i64 C, .int .i64 U] 56)
    simpa [VBlk] using this
  refine row_retv rfl rfl (h1.of (Below.heap_alloc _ _ _ h1.lt)) Tryz.underlying56 sizeIt rfl ⟨rfl, ?_⟩
  exact (((Below.refl _ w).alloc (Nat.le_refl _) _).alloc (by simp) _).alloc (by simp <;> omega) _

theorem eqItem_any (N B : ByteArray) (F C U : Int) (w : World) :
    Calls Tryz.prog 89 #[.agg #[.string N, .int .i64 F, .string B, .int .i64 C, .int .i64 U], .agg #[.string N, .int .i64 F, .string B, .int .i64 C, .int .i64 U]] w fun e w' => e = .returned (.bool true) ∧ Below w.heap.size w w' := by
  have hN : (N.toList == N.toList) = true := by simp
  have hB : (B.toList == B.toList) = true := by simp
  have h1 : (F != F) = false := by simp
  have h2 : (C != C) = false := by simp
  have h3 : (U != U) = false := by simp
  have m1 : Hid True := trivial
  go_enter Tryz.func89, Tryz.ntmps89
  go_wp2_with (first | (clear m1; refine wpList_box_v rfl 56 _ rfl [.string N, .int .i64 F, .string B, .int .i64 C, .int .i64 U] rfl ?_; intro b1 w1 hb1 hw1 hB1 V1; have hz1 := hB1.size) | (refine wpList_box_v rfl 56 _ rfl [.string N, .int .i64 F, .string B, .int .i64 C, .int .i64 U] rfl ?_; intro b2 w2 hb2 hw2 hB2 V2; obtain ⟨c0, c1, c2, c3, c4⟩ := cells5 (vblk_grow V1 hB2); obtain ⟨d0, d1, d2, d3, d4⟩ := cells5 V2) | (fail))
  go_ret
  exact ⟨rfl, hB1.trans (hB2.mono hz1)⟩
end Go.Proofs.YtjkkjpgebcnhgaaGreatDoor.rg
/- A row of whatever things that came in as an argument, read as a list. -/
namespace Go.Proofs.YtjkkjpgebcnhgaaGreatDoor.ro
open Go.ChangeShapes Go.WideShapes Go.ChangeAt Go.RowKit
open Go.Deep Go.Joins
open Go.Proofs.YtjkkjpgebcnhgaaGreatDoor.ce
set_option linter.unusedVariables false

theorem add_noneK {a : Addr} (h : a.spot = none) (j : Nat) : a.add j = ⟨a.block, a.off + j, none⟩ := by
  obtain ⟨b, o, s⟩ := a
  simp at h
  subst h
  simp [Addr.add]
/-- a row of whatever things, among the arguments -/
theorem rd_of_trodK {α : Type} [Inhabited α] (E : Enc α) (p : α → Prop) {H : Type} {enc : TypeId × Value → H} {w : World} {n : Nat} {v : Value} {T : TypeId} {x : DataW H × List MemPlace} (hT : Tryz.prog.underlying T = some (.slice E.t)) (hc : Tryz.prog.cellsOf E.t = E.k)
    (dec : ∀ m cs y, DataW.trod enc Tryz.prog w 0 (fun _ => true) true m E.t cs = some y → ∃ z, cs = E.put z ∧ p z)
    (h : DataW.trod enc Tryz.prog w 0 (fun _ => true) true n T [v] = some x) : ∃ L, Rd E w v L ∧ ∀ z ∈ L, p z := by
  have hkp := E.pos
  rcases open_slice hT h with ⟨hcs, -⟩ | ⟨a, len, cap, m, n', D, Pl, hcs, -, hl, hm, hmm, -, hrow⟩
  · obtain rfl : v = .slice none 0 0 := by simpa using hcs
    exact ⟨[], rd_zero E w none 0 (Nat.zero_le _), fun k hk => by simp at hk⟩
  · obtain rfl : v = .slice (some a) len cap := by simpa using hcs
    rw [hc] at hrow
    have hlm : len ≤ m := by rw [hmm]; simp; exact hl
    have hex : ∀ i, i < len → ∃ z : α, w.cells? 0 (a.add (i * E.k)) E.k = some (E.put z) ∧ p z := fun i hi => by
      obtain ⟨cs', h1, h2⟩ := hrow i (by omega)
      obtain ⟨z, e0, hz⟩ := dec _ _ _ h2
      rw [e0] at h1
      exact ⟨z, h1, hz⟩
    obtain ⟨F, hF⟩ := choose_lt hex
    refine ⟨(List.range len).map F, ⟨some a, cap, by simp, by simpa using hl, hm, fun hn => ?_⟩, fun k hk => ?_⟩
    rotate_left
    · obtain ⟨i, hi, rfl⟩ := List.mem_map.1 hk
      exact (hF i (by simpa using hi)).2
    have h0 : 0 < len := by
      rcases Nat.eq_zero_or_pos len with e | e
      · subst e; exact absurd rfl hn
      · exact e
    have hcell : ∀ i, i < len → ∀ j, j < E.k → w.cell? ((a.add (i * E.k)).add j) = (E.put (F i))[j]? := fun i hi j hj => by
      obtain ⟨h1, h2, h3⟩ := World.cells?_some (hF i hi).1
      exact h3 j hj
    have hsome : ∀ i, i < len → ∀ j, j < E.k → ∃ u, w.cell? ((a.add (i * E.k)).add j) = some u := fun i hi j hj => by
      rw [hcell i hi j hj, List.getElem?_eq_getElem (by rw [E.len]; exact hj)]
      exact ⟨_, rfl⟩
    have hspot : a.spot = none := by
      obtain ⟨u, hu⟩ := hsome 0 h0 0 hkp
      have h5 : ((a.add (0 * E.k)).add 0).spot = none := World.cell?_spot hu
      obtain ⟨b, o, s⟩ := a
      cases s with
      | none => rfl
      | some s => simp [Addr.add] at h5
    have hlt : a.block < w.heap.size := by
      obtain ⟨u, hu⟩ := hsome 0 h0 0 hkp
      rw [add_noneK hspot, Addr.add_mid] at hu
      exact World.block_lt_of_cell? w ⟨a.block, a.off + 0 * E.k + 0, none⟩ hu
    refine ⟨a.block, a.off, by obtain ⟨b, o, s⟩ := a; simp at hspot; subst hspot; rfl, hlt, fun k u hku => ?_⟩
    have hkl : k < len * E.k := by
      have := (List.getElem?_eq_some_iff.1 hku).1
      rw [Enc.row_len] at this
      simpa using this
    obtain ⟨i, j, rfl, hj⟩ : ∃ i j, k = i * E.k + j ∧ j < E.k := ⟨k / E.k, k % E.k, by rw [Nat.mul_comm]; exact (Nat.div_add_mod k E.k).symm, Nat.mod_lt _ hkp⟩
    have hi : i < len := by
      rcases Nat.lt_or_ge i len with q | q
      · exact q
      · have := Nat.mul_le_mul_right E.k q; omega
    have hg := E.row_get ((List.range len).map F) i j (by simpa using hi) hj
    rw [hg] at hku
    have e : ((List.range len).map F)[i]'(by simpa using hi) = F i := by simp
    have := hcell i hi j hj
    rw [add_noneK hspot, Addr.add_mid, Nat.add_assoc] at this
    rw [e, ← this] at hku
    exact hku
end Go.Proofs.YtjkkjpgebcnhgaaGreatDoor.ro
/- Contracts of the laws' helpers on books: sizes, copies, comparisons; a thing and a book among the arguments. -/
namespace Go.Proofs.YtjkkjpgebcnhgaaGreatDoor.rg
open Go.ChangeShapes Go.WideShapes Go.ChangeAt Go.RowKit
open Go.Deep Go.Joins
open Go.Proofs.YtjkkjpgebcnhgaaGreatDoor.ce Go.Proofs.YtjkkjpgebcnhgaaGreatDoor.ro
set_option linter.unusedVariables false

/-- no text is longer than what a machine holds -/
def Lo (b : List It) : Prop := ∀ i ∈ b, i.N.size ≤ 9223372036854775807 ∧ i.B.size ≤ 9223372036854775807

set_option maxHeartbeats 1000000 in
theorem szItems_le (b : List It) (v : Value) (L : Int) (hL : L ≤ 1048576) (hL0 : 0 ≤ L) (w : World) (r : Rd encLi w v b) (hs : Lo b) :
    Calls Tryz.prog 31 #[v, .int .i64 L] w fun e w' => ∃ q : Int, e = .returned (.int .i64 q) ∧ Below w.heap.size w w' ∧ (0 ≤ q → b.length ≤ 1048576 ∧ SmK b) ∧ q ≤ 1048576 := by
  have hl := r.len
  obtain ⟨a, cap, rfl⟩ := r.form
  have R : Hid (Rd encLi w (.slice a b.length cap) b) := r
  have HS : Hid (Lo b) := hs
  clear r hs
  have e : IntKind.i64.wrap (L - (b.length : Int)) = L - b.length := by rw [IntKind.wrap_i64]; omega
  by_cases h : L - (b.length : Int) < 0
  · go_enter Tryz.func31, Tryz.ntmps31
    go_wp2
    go_ret
    exact ⟨-1, rfl, Below.refl _ _, fun _ => by omega, by omega⟩
  · go_enter Tryz.func31, Tryz.ntmps31
    go_wp2
    go_loopw [1, 5] (fun q p wr => ∃ (l : Int) (i : Nat), i ≤ b.length ∧ p = .int .i64 i ∧ q = .int .i64 l ∧ 0 ≤ l ∧ l ≤ 1048576 ∧ Hid (SmK (b.take i)) ∧ Below w.heap.size w wr) (fun _ p _ => b.length - (intOf p).toNat)
    case atStart => exact ⟨L - b.length, 0, by omega, rfl, rfl, by omega, by omega, (fun z hz => by simp at hz), Below.refl _ _⟩
    case round =>
      obtain ⟨l, i, hi1, rfl, rfl, hl0, hl1, hS, hBr⟩ := hrel
      by_cases hlt : i < b.length
      · obtain ⟨bk, off, rfl, hb, rg0⟩ := rd_item rfl rfl (R.out.grow hBr) i hlt
        have hlt' : (i : Int) < (b.length : Int) := by omega
        have hsz := HS.out b[i] (List.getElem_mem hlt)
        have hsr := hBr.size
        have hS2 : (b[i].N.size ≤ 1048576 ∧ b[i].B.size ≤ 1048576) → SmK (b.take (i + 1)) := fun q => by
          rw [List.take_succ_eq_append_getElem hlt]
          intro z hz
          rcases List.mem_append.1 hz with h' | h'
          · exact hS.out z h'
          · rw [List.mem_singleton.1 h']; exact q
        obtain ⟨z, hz⟩ := hid_ex (b[i])
        rw [hz.out] at rg0 hsz hS2
        obtain ⟨N, F, B, C, U⟩ := z
        obtain ⟨hN, hB⟩ := hsz
        dsimp only at hN hB hS2
        have HS2 : Hid ((N.size ≤ 1048576 ∧ B.size ≤ 1048576) → SmK (b.take (i + 1))) := hS2
        have rg : Hid (wr.rangeAt bk (off + i * 5) [.string N, .int .i64 F, .string B, .int .i64 C, .int .i64 U]) := rg0
        clear rg0 hS2
        go_wp2_with (first | (refine wpList_load_r rfl 98 _ rfl bk (off + i * 5) [.string N, .int .i64 F, .string B, .int .i64 C, .int .i64 U] rfl _ Tryz.underlying98 rfl sizeLi rg.out ?_) | (go_at_call 64; refine (szItem_any N B F C U hN hB l hl1 hl0 _).mono ?_; rintro e w2 ⟨q, rfl, hB2, hq1, hq2⟩; by_cases hneg : q < 0) | (fail))
        · go_ret
          exact ⟨-1, rfl, hBr.trans (hB2.mono hsr), fun _ => by omega, by omega⟩
        · go_roundw
          case rel => exact ⟨q, i + 1, by omega, by go_num, rfl, by omega, hq1, HS2.out (hq2 (by omega)), hBr.trans (hB2.mono hsr)⟩
          case measure => simp [intOf]; omega
      · have hlt' : ¬ (i : Int) < (b.length : Int) := by omega
        have hS3 : Hid (SmK b) := by
          have := hS.out
          rw [List.take_of_length_le (by omega)] at this
          exact this
        clear hS
        go_wp2
        go_ret
        exact ⟨_, rfl, hBr, fun _ => ⟨by omega, hS3.out⟩, hl1⟩

set_option maxHeartbeats 1000000 in
theorem toItems_any (b : List It) (v : Value) (w : World) (r : Rd encLi w v b) (hlen : b.length ≤ 1048576) :
    Calls Tryz.prog 36 #[v] w fun e w' => ∃ v', e = .returned v' ∧ Own encIt w' w.heap.size w'.heap.size v' b ∧ Below w.heap.size w w' := by
  obtain ⟨a, cap, rfl⟩ := r.form
  have R : Hid (Rd encLi w (.slice a b.length cap) b) := r
  clear r
  go_enter Tryz.func36, Tryz.ntmps36
  go_wp2_with (first | (refine wpList_make_p infoIt rfl _ _ 29 rfl Tryz.underlying29 b.length hlen rfl rfl ?_; intro g w1 hg hw1 hB1 p1) | (fail))
  go_loopw [4] (fun p wr => ∃ i : Nat, i ≤ b.length ∧ p = .int .i64 i ∧ Hid (Part encIt wr w.heap.size g b.length b.length (b.take i)) ∧ Below w.heap.size w wr) (fun p _ => b.length - (intOf p).toNat)
  case atStart => exact ⟨0, by omega, rfl, p1, hB1⟩
  case round =>
    obtain ⟨i, hi1, rfl, P, hBr⟩ := hrel
    have hpl := P.out.lt
    by_cases hlt : i < b.length
    · obtain ⟨bk, off, rfl, hb, rg0⟩ := rd_item rfl rfl (R.out.grow hBr) i hlt
      have hlt' : (i : Int) < (b.length : Int) := by omega
      have hsr := hBr.size
      have htk : Hid (b.take (i + 1) = b.take i ++ [b[i]]) := List.take_succ_eq_append_getElem hlt
      have hil : Hid ((b.take i).length = i) := by unfold Hid; simp; omega
      obtain ⟨z, hz⟩ := hid_ex (b[i])
      rw [hz.out] at rg0 htk
      obtain ⟨N, F, B, C, U⟩ := z
      have rg : Hid (wr.rangeAt bk (off + i * 5) [.string N, .int .i64 F, .string B, .int .i64 C, .int .i64 U]) := rg0
      clear rg0
      go_wp2_with (first | (refine wpList_load_r rfl 98 _ rfl bk (off + i * 5) [.string N, .int .i64 F, .string B, .int .i64 C, .int .i64 U] rfl _ Tryz.underlying98 rfl sizeLi rg.out ?_) | (go_at_call 70; refine (toItem_any N B F C U _).mono ?_; rintro e w3 ⟨rfl, hB3⟩; have p3 := P.out.keep (hB3.block g hpl.2)) | (refine wpList_store_p (E := encIt) sizeIt rfl _ _ rfl w.heap.size g b.length b.length i (i * 5) (b.take i) ⟨N, F, B, C, U⟩ rfl rfl rfl p3 hil.out hlt ?_; intro w4 hO4 p4) | (fail))
      go_roundw
      case rel =>
        refine ⟨i + 1, by omega, by go_num, ?_, (hBr.trans (hB3.mono hsr)).trans (hO4.2.2 _ (by omega))⟩
        unfold Hid
        rw [htk.out]
        exact p4
      case measure => simp [intOf]; omega
    · have hlt' : ¬ (i : Int) < (b.length : Int) := by omega
      have p2 := P.out
      rw [List.take_of_length_le (by omega)] at p2
      clear P
      go_wp2
      go_ret
      exact ⟨_, rfl, p2.full rfl, hBr⟩

set_option maxHeartbeats 1000000 in
theorem eqItems_any (b : List It) (v v' : Value) (w : World) (r : Rd encIt w v b) (r' : Rd encIt w v' b) :
    Calls Tryz.prog 43 #[v, v'] w fun e w' => e = .returned (.bool true) ∧ Below w.heap.size w w' := by
  have hl := r.len
  obtain ⟨a, cap, rfl⟩ := r.form
  obtain ⟨a', cap', rfl⟩ := r'.form
  have R : Hid (Rd encIt w (.slice a b.length cap) b) := r
  have R' : Hid (Rd encIt w (.slice a' b.length cap') b) := r'
  clear r r'
  have hnn : ((b.length : Int) != (b.length : Int)) = false := by simp
  go_enter Tryz.func43, Tryz.ntmps43
  go_wp2
  go_loopw [5] (fun v' wr => ∃ i : Nat, i ≤ b.length ∧ v' = .int .i64 i ∧ Below w.heap.size w wr) (fun v' _ => b.length - (intOf v').toNat)
  case atStart => exact ⟨0, by omega, rfl, Below.refl _ _⟩
  case round =>
    obtain ⟨i, hi1, rfl, hBr⟩ := hrel
    by_cases hlt : i < b.length
    · obtain ⟨bk, off, rfl, hb, rg0⟩ := rd_item rfl rfl (R.out.grow hBr) i hlt
      obtain ⟨bk', off', rfl, hb', rg1⟩ := rd_item rfl rfl (R'.out.grow hBr) i hlt
      obtain ⟨z, hz⟩ := hid_ex (b[i])
      rw [hz.out] at rg0 rg1
      obtain ⟨N, F, B, C, U⟩ := z
      have hlt' : (i : Int) < b.length := by omega
      have hsr := hBr.size
      have rg : Hid (wr.rangeAt bk (off + i * 5) [.string N, .int .i64 F, .string B, .int .i64 C, .int .i64 U]) := rg0
      have rg' : Hid (wr.rangeAt bk' (off' + i * 5) [.string N, .int .i64 F, .string B, .int .i64 C, .int .i64 U]) := rg1
      clear rg0 rg1
      go_upto_region 6 with (fail)
      have hS0 : (wr.drew.cell? ⟨bk, off + i * 5, none⟩ = some (.string N) ∧ wr.drew.cell? ⟨bk, off + i * 5 + 1, none⟩ = some (.int .i64 F) ∧ wr.drew.cell? ⟨bk, off + i * 5 + 2, none⟩ = some (.string B) ∧ wr.drew.cell? ⟨bk, off + i * 5 + 3, none⟩ = some (.int .i64 C) ∧ wr.drew.cell? ⟨bk, off + i * 5 + 4, none⟩ = some (.int .i64 U)) ∧ (wr.drew.cell? ⟨bk', off' + i * 5, none⟩ = some (.string N) ∧ wr.drew.cell? ⟨bk', off' + i * 5 + 1, none⟩ = some (.int .i64 F) ∧ wr.drew.cell? ⟨bk', off' + i * 5 + 2, none⟩ = some (.string B) ∧ wr.drew.cell? ⟨bk', off' + i * 5 + 3, none⟩ = some (.int .i64 C) ∧ wr.drew.cell? ⟨bk', off' + i * 5 + 4, none⟩ = some (.int .i64 U)) := ⟨rng5 (w := wr.drew) rg.out, rng5 (w := wr.drew) rg'.out⟩
      go_region_held3 (fun w' => (w'.cell? ⟨bk, off + i * 5, none⟩ = some (.string N) ∧ w'.cell? ⟨bk, off + i * 5 + 1, none⟩ = some (.int .i64 F) ∧ w'.cell? ⟨bk, off + i * 5 + 2, none⟩ = some (.string B) ∧ w'.cell? ⟨bk, off + i * 5 + 3, none⟩ = some (.int .i64 C) ∧ w'.cell? ⟨bk, off + i * 5 + 4, none⟩ = some (.int .i64 U)) ∧ (w'.cell? ⟨bk', off' + i * 5, none⟩ = some (.string N) ∧ w'.cell? ⟨bk', off' + i * 5 + 1, none⟩ = some (.int .i64 F) ∧ w'.cell? ⟨bk', off' + i * 5 + 2, none⟩ = some (.string B) ∧ w'.cell? ⟨bk', off' + i * 5 + 3, none⟩ = some (.int .i64 C) ∧ w'.cell? ⟨bk', off' + i * 5 + 4, none⟩ = some (.int .i64 U))) (first | assumption | exact hS0) (first | (go_at_call 89; refine (eqItem_any N B F C U _).mono ?_; rintro e w5 ⟨rfl, hB5⟩; have hS5 := And.intro (rng5 (range_of rg.out (hB5.block bk hb))) (rng5 (range_of rg'.out (hB5.block bk' hb')))) | (fail))
      go_wp2
      go_roundw
      case rel => exact ⟨i + 1, by omega, by go_num, hBr.drew.trans (hB5.mono hsr)⟩
      case measure => simp [intOf]; omega
    · go_wp2
      go_ret
      exact ⟨rfl, hBr⟩

theorem cellsStrK : Tryz.prog.cellsOf 9 = 1 := by kernel_rfl
theorem cellsIntK : Tryz.prog.cellsOf 2 = 1 := by kernel_rfl
theorem cellsLi : Tryz.prog.cellsOf 98 = 5 := by kernel_rfl
set_option maxRecDepth 100000 in
theorem ic_of_trod {H : Type} {enc : TypeId × Value → H} {w : World} {n : Nat} {cs : List Value} {x : DataW H × List MemPlace} (h : DataW.trod enc Tryz.prog w 0 (fun _ => true) true n 98 cs = some x) : ∃ i : It, cs = ic i ∧ i.N.size ≤ 9223372036854775807 ∧ i.B.size ≤ 9223372036854775807 := by
  obtain ⟨xs, m, -, -, hl, hxs, hf⟩ := DataW.trod_struct Tryz.underlying98 h
  rw [cellsLi] at hl
  match cs, hl with
  | [v0, v1, v2, v3, v4], _ =>
    match xs, hxs with
    | [y0, y1, y2, y3, y4], _ =>
      have h0 := hf 0 _ rfl
      have h1 := hf 1 _ rfl
      have h2 := hf 2 _ rfl
      have h3 := hf 3 _ rfl
      have h4 := hf 4 _ rfl
      simp [cellsIntK, cellsStrK] at h0 h1 h2 h3 h4
      obtain ⟨s, e0, -, s0⟩ := DataW.trod_string Tryz.underlying9 h0
      obtain ⟨f, e1, -, -⟩ := DataW.trod_int Tryz.underlying2 h1
      obtain ⟨b, e2, -, s2⟩ := DataW.trod_string Tryz.underlying9 h2
      obtain ⟨c, e3, -, -⟩ := DataW.trod_int Tryz.underlying2 h3
      obtain ⟨u, e4, -, -⟩ := DataW.trod_int Tryz.underlying2 h4
      simp at e0 e1 e2 e3 e4
      subst e0 e1 e2 e3 e4
      exact ⟨⟨s, f, b, c, u⟩, rfl, s0, s2⟩
end Go.Proofs.YtjkkjpgebcnhgaaGreatDoor.rg
/- Contracts of the laws' helpers on rows of texts and of truths: sizes, copies, comparisons, marks. -/
namespace Go.Proofs.YtjkkjpgebcnhgaaGreatDoor.rg
open Go.ChangeShapes Go.WideShapes Go.ChangeAt Go.RowKit
open Go.Proofs.YtjkkjpgebcnhgaaGreatDoor.ce Go.Proofs.YtjkkjpgebcnhgaaGreatDoor.ro
set_option linter.unusedVariables false

end Go.Proofs.YtjkkjpgebcnhgaaGreatDoor.rg
/- Contracts of the laws' marks on rows of texts and of truths. -/
namespace Go.Proofs.YtjkkjpgebcnhgaaGreatDoor.rg
open Go.ChangeShapes Go.WideShapes Go.ChangeAt Go.RowKit
open Go.Proofs.YtjkkjpgebcnhgaaGreatDoor.ce Go.Proofs.YtjkkjpgebcnhgaaGreatDoor.ro
set_option linter.unusedVariables false

theorem own_ty {α : Type} {E : Enc α} {w : World} {lo hi g n cap : Nat} {xs : List α} (o : Own E w lo hi (.slice (some ⟨g, 0, none⟩) n cap) xs) (h : 1 ≤ xs.length) (j : Nat) (x : Value) : Ty lo E.t w (w.setCell ⟨g, j, none⟩ x) := by
  rcases o.row with ⟨rfl, -⟩ | ⟨g2, cap2, cur, e2, hg, hb, -⟩
  · simp at h
  · cases e2
    exact ⟨(only_set w g j x).2.2 _ hg.1, fun k cur' t' f hk hn => (only_set w g j x).2.1 k fun e => by
      rw [e, hb] at hk
      simp at hk
      exact hn hk.2.1.symm⟩
def dig (d : Nat) : ByteArray := ⟨#[UInt8.ofNat (48 + d)]⟩
/-- what markText tells -/
def mgo : Nat → Nat → ByteArray → ByteArray
  | 0, _, out => ⟨#[109]⟩ ++ out
  | f + 1, k, out => if k = 0 then ⟨#[109]⟩ ++ out else mgo f (k / 10) (dig (k % 10) ++ out)
theorem mgo_zero (f : Nat) (out : ByteArray) : mgo f 0 out = ⟨#[109]⟩ ++ out := by cases f <;> simp [mgo]
theorem mgo_step {f k : Nat} (h : 0 < k) (out : ByteArray) : mgo (f + 1) k out = mgo f (k / 10) (dig (k % 10) ++ out) := by
  simp only [mgo]
  rw [if_neg (by omega)]
def mtx (k : Nat) : ByteArray := mgo k k ⟨#[]⟩
theorem dig_conv (d : Nat) (h1 : d ≤ 9) (w : World) : (convert 43 9 (Value.slice (some { block := w.heap.size, off := 0 }) 1 1)).run Tryz.prog (w.alloc (Obj.cells #[Value.int IntKind.u8 (48 + (d : Int))] 5)) = .ok (.string (dig d)) (w.alloc (Obj.cells #[Value.int IntKind.u8 (48 + (d : Int))] 5)) :=
  run_convert_bytes_back (P := Tryz.prog) (w.alloc (Obj.cells #[Value.int IntKind.u8 (48 + (d : Int))] 5)) 43 9 5 ⟨w.heap.size, 0, none⟩ 1 [UInt8.ofNat (48 + d)] Tryz.underlying43 Tryz.underlying5 Tryz.underlying9 (fun j hj => by
    have hj0 : j = 0 := by simpa using hj
    subst hj0
    have e : (((UInt8.ofNat (48 + d)).toNat : Nat) : Int) = 48 + d := by
      rw [UInt8.toNat_ofNat']; omega
    simp only [List.getElem_cons_zero, e]
    show (w.alloc _).cell? ⟨w.heap.size, 0, none⟩ = _
    rw [cell_of_row _ _ 0 _ _ _ (heap_alloc_new w _)]; rfl)

theorem markText_any (k : Nat) (h0 : 1 ≤ k) (h1 : k ≤ 16777216) (w : World) :
    Calls Tryz.prog 90 #[.int .i64 k] w fun e w' => e = .returned (.string (mtx k)) ∧ Below w.heap.size w w' := by
  obtain ⟨C, hC⟩ := hid_ex (mtx k)
  rw [hC.out]
  have hk0 : ¬ (k : Int) ≤ 0 := by omega
  go_enter Tryz.func90, Tryz.ntmps90
  go_wp2
  go_loopw [0, 3] (fun v s wr => ∃ (q f : Nat) (out : ByteArray), v = .int .i64 q ∧ s = .string out ∧ q ≤ 16777216 ∧ Hid (q ≤ f) ∧ Hid (mgo f q out = C) ∧ out.size + q ≤ 16777216 ∧ Below w.heap.size w wr) (fun v _ _ => (intOf v).toNat)
  case atStart => exact ⟨k, k, ⟨#[]⟩, rfl, rfl, h1, Nat.le_refl _, hC, by show 0 + k ≤ 16777216; omega, Below.refl _ _⟩
  case round =>
    obtain ⟨q, f, out, rfl, rfl, hq1, hqf, hM, hsz, hB⟩ := hrel
    by_cases hq : 0 < q
    · have hq' : (0 : Int) < (q : Int) := by omega
      obtain ⟨f', rfl⟩ : ∃ f', f = f' + 1 := ⟨f - 1, by have := hqf.out; omega⟩
      have hM2 : Hid (mgo f' (q / 10) (dig (q % 10) ++ out) = C) := by unfold Hid; rw [← hM.out, mgo_step hq]
      have hqf2 : Hid (q / 10 ≤ f') := by have := hqf.out; unfold Hid; omega
      obtain ⟨d, hd⟩ := hid_ex (q % 10)
      have hd9 : d ≤ 9 := by have := hd.out; omega
      rw [hd.out] at hM2
      have hcv := dig_conv d hd9 wr
      have hds : (dig d).size = 1 := rfl
      have hmod : (q : Int) % 10 = (d : Int) := by have := hd.out; omega
      obtain ⟨q2, hq2⟩ := hid_ex (q / 10)
      rw [hq2.out] at hM2 hqf2
      have hq3 : q2 < q := by have := hq2.out; omega
      have hdiv : (q : Int) / 10 = (q2 : Int) := by have := hq2.out; omega
      have hout : (dig d ++ out).size = 1 + out.size := by rw [ByteArray.size_append]; rfl
      go_wp2
      go_roundw
      case rel => exact ⟨q2, f', dig d ++ out, rfl, rfl, by omega, hqf2, hM2, by omega, hB.alloc hB.size _⟩
      case measure => simp [intOf]; omega
    · have hq' : ¬ (0 : Int) < (q : Int) := by omega
      have eq0 : q = 0 := by omega
      have hM3 := hM.out
      rw [eq0, mgo_zero] at hM3
      subst hM3
      go_wp2
      go_ret
      exact ⟨rfl, hB⟩

end Go.Proofs.YtjkkjpgebcnhgaaGreatDoor.rg
/- One cell is stored into a row that the call owns, whatever things lie in it. -/
namespace Go.Proofs.YtjkkjpgebcnhgaaGreatDoor.rg
open Go.ChangeShapes Go.WideShapes Go.ChangeAt Go.RowKit
open Go.Deep Go.Joins
open Go.Proofs.YtjkkjpgebcnhgaaGreatDoor.ce Go.Proofs.YtjkkjpgebcnhgaaGreatDoor.ro
set_option linter.unusedVariables false

section
variable {α : Type} {ops : Array Oper} {rest : List Oper} {o : Oper} {a : Act} {w : World} {Q : Exit → Act → World → Prop}
theorem cells_one {v : Value} (h : v.oneCell' = true) : v.cells = #[v] := by cases v <;> first | rfl | cases h
theorem wpList_store_c (hgd : o.guard = none) (t : TypeId) (x y : Operand) (ho : o.op = .store t x y) (g j : Nat) (u : Value) (hx : a.eval x = .pointer (some ⟨g, j, none⟩)) (hy : a.eval y = u) (h1 : u.oneCell' = true) (hi : (Tryz.prog.info? t).map (·.size) = some 1)
    (old : Value) (hc : w.cell? ⟨g, j, none⟩ = some old) (hf : w.frozen? ⟨g, j, none⟩ = false) (h : wpList Tryz.prog ops Q rest (a.put o.dst undef) (w.setCell ⟨g, j, none⟩ u)) : wpList Tryz.prog ops Q (o :: rest) a w :=
  wpList_plain hgd fun _ hK => by
    unfold Oper.wp execOp
    obtain ⟨i, hi1, hi2⟩ := Option.map_eq_some_iff.1 hi
    simp [ho, hx, hy, Instr.storeAt, Instr.sureAddr, storeVar, sizeOf, typeInfo, hi1, hi2, cells_one h1, storeCells, run_store _ _ _ _ _ h1, hc, hf, Addr.add]
    exact hK _ _ h
/-- a row while it is marked: what lies in it, what was written -/
structure Mkd (E : Enc α) (w0 w : World) (lo hi : Nat) (v : Value) (L : List α) : Prop where
  o : Own E w lo hi v L
  wi : Within lo hi w0 w
  ty : Ty lo E.t w0 w
  lo : lo ≤ w.heap.size
theorem Mkd.grow {E : Enc α} {w0 w w' : World} {lo hi : Nat} {v : Value} {L : List α} (h : Mkd E w0 w lo hi v L) (hb : Below w.heap.size w w') : Mkd E w0 w' lo hi v L :=
  ⟨h.o.grow hb, h.wi.trans (Within.of_below hb (Nat.le_refl _)), h.ty.trans (Ty.of_below hb h.lo), Nat.le_trans h.lo hb.size⟩
theorem wpList_store_f {E : Enc α} (hgd : o.guard = none) (t : TypeId) (x y : Operand) (ho : o.op = .store t x y) {w0 : World} {lo hi g n cap : Nat} {A B : List α} {z : α} (m : Mkd E w0 w lo hi (.slice (some ⟨g, 0, none⟩) n cap) (A ++ z :: B)) (i j : Nat) (hA : A.length = i) (hj : j < E.k) (u : Value) (z' : α) (hz : E.put z' = (E.put z).set j u) (h1 : u.oneCell' = true) (hsz : (Tryz.prog.info? t).map (·.size) = some 1)
    (hx : a.eval x = .pointer (some ⟨g, i * E.k + j, none⟩)) (hy : a.eval y = u) (h : ∀ w', Mkd E w0 w' lo hi (.slice (some ⟨g, 0, none⟩) n cap) (A ++ z' :: B) → wpList Tryz.prog ops Q rest (a.put o.dst undef) w') : wpList Tryz.prog ops Q (o :: rest) a w := by
  subst hA
  have hl : A.length < (A ++ z :: B).length := by simp
  obtain ⟨g', e, hg, hc, hf⟩ := m.o.cell A.length j hl hj
  cases e
  refine wpList_store_c hgd t x y ho g _ u hx hy h1 hsz _ hc hf (h _ ⟨?_, ?_, ?_, ?_⟩)
  · have := m.o.set A.length j hl hj u z' (by rw [hz]; simp)
    simpa using this
  · exact m.wi.setCell (p := ⟨g, _, none⟩) hg.1 hg.2 _
  · exact m.ty.trans (own_ty m.o (by simp; omega) _ _)
  · simpa using m.lo
end
end Go.Proofs.YtjkkjpgebcnhgaaGreatDoor.rg
/- The laws' marks on lists of Item. -/
namespace Go.Proofs.YtjkkjpgebcnhgaaGreatDoor.rg
open Go.ChangeShapes Go.WideShapes Go.ChangeAt Go.RowKit
open Go.Deep Go.Joins
open Go.Proofs.YtjkkjpgebcnhgaaGreatDoor.ce Go.Proofs.YtjkkjpgebcnhgaaGreatDoor.ro
set_option linter.unusedVariables false

/-- what is marked from m on -/
def mkIt (m : Nat) : It := ⟨mtx (m), (((m + 1 : Nat)) : Int), mtx (m + 2), (((m + 3 : Nat)) : Int), (((m + 4 : Nat)) : Int)⟩
def mksIt (k n : Nat) : List It := (List.range n).map fun i => mkIt (k + 5 * i)
theorem mksIt_len (k n : Nat) : (mksIt k n).length = n := by simp [mksIt]
theorem mksIt_succ (k n : Nat) : mksIt k (n + 1) = mksIt k n ++ [mkIt (k + 5 * n)] := by simp [mksIt, List.range_succ]
theorem mksIt_get (k n i : Nat) (h : i < (mksIt k n).length) : (mksIt k n)[i] = mkIt (k + 5 * i) := by simp [mksIt]
theorem sizeIt_s : (Tryz.prog.info? 9).map (·.size) = some 1 := by kernel_rfl
theorem sizeIt_i : (Tryz.prog.info? 2).map (·.size) = some 1 := by kernel_rfl
theorem rdIt_of {α : Type} {E : Enc α} {w : World} {n cap : Nat} {a : Option Addr} {xs : List α} (r : Rd E w (.slice a n cap) xs) (i : Nat) (hi : i < xs.length) :
    ∃ b off, a = some ⟨b, off, none⟩ ∧ b < w.heap.size ∧ ∀ j v, (E.put xs[i])[j]? = some v → w.cell? ⟨b, off + i * E.k + j, none⟩ = some v := by
  obtain ⟨b, off, e, h1, h2⟩ := r.start (by omega)
  refine ⟨b, off, e, h1, fun j v hv => ?_⟩
  have hj : j < E.k := by have := (List.getElem?_eq_some_iff.1 hv).1; rw [E.len] at this; exact this
  have := E.row_get xs i j hi hj
  rw [hv] at this
  have := h2 _ _ this
  rw [Nat.add_assoc]
  exact this
theorem heldIt_grow {w w' : World} {b off i : Nat} {c0 c1 c2 c3 c4 : Value} (hB : Below w.heap.size w w') (hb : b < w.heap.size) (h : w.cell? ⟨b, off + i * 5, none⟩ = some c0 ∧ w.cell? ⟨b, off + i * 5 + 1, none⟩ = some c1 ∧ w.cell? ⟨b, off + i * 5 + 2, none⟩ = some c2 ∧ w.cell? ⟨b, off + i * 5 + 3, none⟩ = some c3 ∧ w.cell? ⟨b, off + i * 5 + 4, none⟩ = some c4) : w'.cell? ⟨b, off + i * 5, none⟩ = some c0 ∧ w'.cell? ⟨b, off + i * 5 + 1, none⟩ = some c1 ∧ w'.cell? ⟨b, off + i * 5 + 2, none⟩ = some c2 ∧ w'.cell? ⟨b, off + i * 5 + 3, none⟩ = some c3 ∧ w'.cell? ⟨b, off + i * 5 + 4, none⟩ = some c4 := by
  have g : ∀ p v, w.cell? ⟨b, p, none⟩ = some v → w'.cell? ⟨b, p, none⟩ = some v := fun p v hv => (World.cell?_of_block (w := w) (w' := w') (a := ⟨b, p, none⟩) (hB.block b hb)).trans hv
  obtain ⟨h0, h1, h2, h3, h4⟩ := h
  exact ⟨g _ _ h0, g _ _ h1, g _ _ h2, g _ _ h3, g _ _ h4⟩
set_option maxRecDepth 10000 in
set_option maxHeartbeats 4000000 in
theorem markIts_any (xs : List It) (v : Value) (lo hi : Nat) (k : Nat) (hk : 1 ≤ k) (hk2 : k + 5 * xs.length ≤ 16000000) (mm : Nat) (hmm : mm = k + 5 * xs.length) (w : World) (own : Own encIt w lo hi v xs) (hlo : lo ≤ w.heap.size) :
    Calls Tryz.prog 44 #[v, .int .i64 k] w fun e w' => e = .returned (.int .i64 mm) ∧ Own encIt w' lo hi v (mksIt k xs.length) ∧ Within lo hi w w' ∧ Ty lo encIt.t w w' := by
  obtain ⟨a, cap, rfl⟩ := own.rd.form
  have O0 : Hid (Mkd encIt w w lo hi (.slice a xs.length cap) xs) := ⟨own, Within.refl _ _ _, Ty.refl _ _ _, hlo⟩
  have HMM : Hid (mm = k + 5 * xs.length) := hmm
  clear own hmm
  go_enter Tryz.func44, Tryz.ntmps44
  go_wp2
  go_loopw [1, 5] (fun q v' wr => ∃ i m : Nat, i ≤ xs.length ∧ v' = .int .i64 i ∧ q = .int .i64 m ∧ Hid (m = k + 5 * i) ∧ Hid (Mkd encIt w wr lo hi (.slice a xs.length cap) (mksIt k i ++ xs.drop i))) (fun _ v' _ => xs.length - (intOf v').toNat)
  case atStart => exact ⟨0, k, by omega, rfl, rfl, rfl, by unfold Hid; simpa [mksIt] using O0.out⟩
  case round =>
    obtain ⟨i, m, hi1, rfl, rfl, hm, O⟩ := hrel
    by_cases hlt : i < xs.length
    · have hlt' : (i : Int) < (xs.length : Int) := by omega
      have hm1 : 1 ≤ m ∧ m ≤ 16000000 := by have := hm.out; omega
      have hAl : (mksIt k i).length = i := mksIt_len k i
      have MM := O.out
      rw [List.drop_eq_getElem_cons hlt] at MM
      obtain ⟨g, c2, e1, -, -⟩ := MM.o.form (by rw [List.length_append, List.length_cons]; omega)
      have hag : a = some ⟨g, 0, none⟩ := by injection e1
      subst hag
      obtain ⟨x, hx⟩ := hid_ex xs[i]
      rw [hx.out] at MM
      obtain ⟨x0, x1, x2, x3, x4⟩ := x
      clear O e1 hx
      obtain ⟨m1, hm1⟩ := hid_ex (m + 1)
      have e1 : IntKind.i64.wrap ((m : Int) + 1) = (m1 : Int) := by have := hm1.out; rw [IntKind.wrap_i64]; omega
      have g1 : 1 ≤ m1 ∧ m1 ≤ 16000100 := by have := hm1.out; omega
      obtain ⟨z0, hz0⟩ := hid_ex (mtx m)
      obtain ⟨m2, hm2⟩ := hid_ex (m + 2)
      have e2 : IntKind.i64.wrap ((m1 : Int) + 1) = (m2 : Int) := by have := hm2.out; have := hm1.out; rw [IntKind.wrap_i64]; omega
      have g2 : 1 ≤ m2 ∧ m2 ≤ 16000100 := by have := hm2.out; omega
      obtain ⟨m3, hm3⟩ := hid_ex (m + 3)
      have e3 : IntKind.i64.wrap ((m2 : Int) + 1) = (m3 : Int) := by have := hm3.out; have := hm2.out; rw [IntKind.wrap_i64]; omega
      have g3 : 1 ≤ m3 ∧ m3 ≤ 16000100 := by have := hm3.out; omega
      obtain ⟨z2, hz2⟩ := hid_ex (mtx m2)
      obtain ⟨m4, hm4⟩ := hid_ex (m + 4)
      have e4 : IntKind.i64.wrap ((m3 : Int) + 1) = (m4 : Int) := by have := hm4.out; have := hm3.out; rw [IntKind.wrap_i64]; omega
      have g4 : 1 ≤ m4 ∧ m4 ≤ 16000100 := by have := hm4.out; omega
      have e5 : IntKind.i64.wrap ((m4 : Int) + 1) = ((m + 5 : Nat) : Int) := by have := hm4.out; rw [IntKind.wrap_i64]; omega
      have HMK : Hid (((⟨z0, (m1 : Int), z2, (m3 : Int), (m4 : Int)⟩) : It) = mkIt m) := by
        unfold Hid mkIt
        have q1 := hm1.out; have q2 := hm2.out; have q3 := hm3.out; have q4 := hm4.out; have p0 := hz0.out; have p2 := hz2.out
        subst q1 q2 q3 q4
        subst p0 p2
        rfl
      replace MM : Hid (Mkd encIt w wr lo hi (.slice (some ⟨g, 0, none⟩) xs.length cap) (mksIt k i ++ ⟨x0, x1, x2, x3, x4⟩ :: xs.drop (i + 1))) := MM
      have HMI : Hid (m = k + 5 * i) := hm
      have tk0 : Hid True := trivial
      have sk0 : Hid True := trivial
      have sk1 : Hid True := trivial
      have tk2 : Hid True := trivial
      have sk2 : Hid True := trivial
      have sk3 : Hid True := trivial
      have sk4 : Hid True := trivial
      replace MM := MM.out
      go_wp2_with (first | (clear tk0; go_at_call 90; refine (markText_any m (by omega) (by omega) _).mono ?_; rintro e u0 ⟨rfl, hBu0⟩; rw [hz0.out]; replace MM := MM.grow hBu0; clear hBu0) | (clear sk0; refine wpList_store_f (E := encIt) (A := mksIt k i) (B := xs.drop (i + 1)) (z := ⟨x0, x1, x2, x3, x4⟩) rfl 9 _ _ rfl MM i 0 hAl (show 0 < 5 by decide) (.string z0) ⟨z0, x1, x2, x3, x4⟩ rfl rfl sizeIt_s rfl rfl ?_; clear MM; intro w0 MM) | (clear sk1; refine wpList_store_f (E := encIt) (A := mksIt k i) (B := xs.drop (i + 1)) (z := ⟨z0, x1, x2, x3, x4⟩) rfl 2 _ _ rfl MM i 1 hAl (show 1 < 5 by decide) (.int .i64 (m1 : Int)) ⟨z0, (m1 : Int), x2, x3, x4⟩ rfl rfl sizeIt_i rfl rfl ?_; clear MM; intro w1 MM) | (clear tk2; go_at_call 90; refine (markText_any m2 (by omega) (by omega) _).mono ?_; rintro e u2 ⟨rfl, hBu2⟩; rw [hz2.out]; replace MM := MM.grow hBu2; clear hBu2) | (clear sk2; refine wpList_store_f (E := encIt) (A := mksIt k i) (B := xs.drop (i + 1)) (z := ⟨z0, (m1 : Int), x2, x3, x4⟩) rfl 9 _ _ rfl MM i 2 hAl (show 2 < 5 by decide) (.string z2) ⟨z0, (m1 : Int), z2, x3, x4⟩ rfl rfl sizeIt_s rfl rfl ?_; clear MM; intro w2 MM) | (clear sk3; refine wpList_store_f (E := encIt) (A := mksIt k i) (B := xs.drop (i + 1)) (z := ⟨z0, (m1 : Int), z2, x3, x4⟩) rfl 2 _ _ rfl MM i 3 hAl (show 3 < 5 by decide) (.int .i64 (m3 : Int)) ⟨z0, (m1 : Int), z2, (m3 : Int), x4⟩ rfl rfl sizeIt_i rfl rfl ?_; clear MM; intro w3 MM) | (clear sk4; refine wpList_store_f (E := encIt) (A := mksIt k i) (B := xs.drop (i + 1)) (z := ⟨z0, (m1 : Int), z2, (m3 : Int), x4⟩) rfl 2 _ _ rfl MM i 4 hAl (show 4 < 5 by decide) (.int .i64 (m4 : Int)) ⟨z0, (m1 : Int), z2, (m3 : Int), (m4 : Int)⟩ rfl rfl sizeIt_i rfl rfl ?_; clear MM; intro w4 MM) | (fail))
      go_roundw
      case rel =>
        rw [HMK.out, HMI.out] at MM
        refine ⟨i + 1, m + 5, by omega, by go_num, by go_num, by have := HMI.out; unfold Hid; omega, ?_⟩
        unfold Hid
        rw [mksIt_succ, List.append_assoc]
        exact MM
      case measure => simp [intOf]; omega
    · have hlt' : ¬ (i : Int) < (xs.length : Int) := by omega
      have o2 := O.out
      rw [show i = xs.length by omega, List.drop_length, List.append_nil] at o2
      have hm3 : m = mm := by have h1 := hm.out; have h2 := HMM.out; have hix : i = xs.length := (by omega); rw [hix] at h1; omega
      subst hm3
      clear O
      go_wp2
      go_ret
      exact ⟨rfl, o2.o, o2.wi, o2.ty⟩

set_option maxRecDepth 10000 in
set_option maxHeartbeats 4000000 in
theorem heldIts_any (n : Nat) (v : Value) (k : Nat) (hk : 1 ≤ k) (hk2 : k + 5 * n ≤ 16000000) (mm : Nat) (hmm : mm = k + 5 * n) (w : World) (r : Rd encIt w v (mksIt k n)) :
    Calls Tryz.prog 45 #[v, .int .i64 k] w fun e w' => e = .returned (.int .i64 mm) ∧ Below w.heap.size w w' := by
  obtain ⟨a, cap, rfl⟩ := r.form
  rw [mksIt_len] at r ⊢
  have R : Hid (Rd encIt w (.slice a n cap) (mksIt k n)) := r
  have HMM : Hid (mm = k + 5 * n) := hmm
  clear r hmm
  go_enter Tryz.func45, Tryz.ntmps45
  go_wp2
  go_loopw [1, 5] (fun q v' wr => ∃ i m : Nat, i ≤ n ∧ v' = .int .i64 i ∧ q = .int .i64 m ∧ Hid (m = k + 5 * i) ∧ Below w.heap.size w wr) (fun _ v' _ => n - (intOf v').toNat)
  case atStart => exact ⟨0, k, by omega, rfl, rfl, rfl, Below.refl _ _⟩
  case round =>
    obtain ⟨i, m, hi1, rfl, rfl, hm, hB⟩ := hrel
    by_cases hlt : i < n
    · have hil : i < (mksIt k n).length := by rw [mksIt_len]; exact hlt
      have hlt' : (i : Int) < (n : Int) := by omega
      have hm1 : 1 ≤ m ∧ m ≤ 16000000 := by have := hm.out; omega
      obtain ⟨b, off, e1, hb, hr⟩ := rdIt_of (R.out.grow hB) i hil
      subst e1
      rw [mksIt_get, ← hm.out] at hr
      obtain ⟨m1, hm1⟩ := hid_ex (m + 1)
      have e1 : IntKind.i64.wrap ((m : Int) + 1) = (m1 : Int) := by have := hm1.out; rw [IntKind.wrap_i64]; omega
      have g1 : 1 ≤ m1 ∧ m1 ≤ 16000100 := by have := hm1.out; omega
      obtain ⟨z0, hz0⟩ := hid_ex (mtx m)
      obtain ⟨m2, hm2⟩ := hid_ex (m + 2)
      have e2 : IntKind.i64.wrap ((m1 : Int) + 1) = (m2 : Int) := by have := hm2.out; have := hm1.out; rw [IntKind.wrap_i64]; omega
      have g2 : 1 ≤ m2 ∧ m2 ≤ 16000100 := by have := hm2.out; omega
      obtain ⟨m3, hm3⟩ := hid_ex (m + 3)
      have e3 : IntKind.i64.wrap ((m2 : Int) + 1) = (m3 : Int) := by have := hm3.out; have := hm2.out; rw [IntKind.wrap_i64]; omega
      have g3 : 1 ≤ m3 ∧ m3 ≤ 16000100 := by have := hm3.out; omega
      obtain ⟨z2, hz2⟩ := hid_ex (mtx m2)
      obtain ⟨m4, hm4⟩ := hid_ex (m + 4)
      have e4 : IntKind.i64.wrap ((m3 : Int) + 1) = (m4 : Int) := by have := hm4.out; have := hm3.out; rw [IntKind.wrap_i64]; omega
      have g4 : 1 ≤ m4 ∧ m4 ≤ 16000100 := by have := hm4.out; omega
      have e5 : IntKind.i64.wrap ((m4 : Int) + 1) = ((m + 5 : Nat) : Int) := by have := hm4.out; rw [IntKind.wrap_i64]; omega
      have HMK : Hid (((⟨z0, (m1 : Int), z2, (m3 : Int), (m4 : Int)⟩) : It) = mkIt m) := by
        unfold Hid mkIt
        have q1 := hm1.out; have q2 := hm2.out; have q3 := hm3.out; have q4 := hm4.out; have p0 := hz0.out; have p2 := hz2.out
        subst q1 q2 q3 q4
        subst p0 p2
        rfl
      rw [← HMK.out] at hr
      have SS : Hid (wr.cell? ⟨b, off + i * 5, none⟩ = some (.string z0) ∧ wr.cell? ⟨b, off + i * 5 + 1, none⟩ = some (.int .i64 (m1 : Int)) ∧ wr.cell? ⟨b, off + i * 5 + 2, none⟩ = some (.string z2) ∧ wr.cell? ⟨b, off + i * 5 + 3, none⟩ = some (.int .i64 (m3 : Int)) ∧ wr.cell? ⟨b, off + i * 5 + 4, none⟩ = some (.int .i64 (m4 : Int))) := ⟨hr 0 _ rfl, hr 1 _ rfl, hr 2 _ rfl, hr 3 _ rfl, hr 4 _ rfl⟩
      clear hr HMK
      obtain ⟨d0, d1, d2, d3, d4⟩ := SS.out
      have hze0 : (z0.toList == z0.toList) = true := by simp
      have hze2 : (z2.toList == z2.toList) = true := by simp
      have S1 : wr.drew.cell? ⟨b, off + i * 5, none⟩ = some (.string z0) ∧ wr.drew.cell? ⟨b, off + i * 5 + 1, none⟩ = some (.int .i64 (m1 : Int)) ∧ wr.drew.cell? ⟨b, off + i * 5 + 2, none⟩ = some (.string z2) ∧ wr.drew.cell? ⟨b, off + i * 5 + 3, none⟩ = some (.int .i64 (m3 : Int)) ∧ wr.drew.cell? ⟨b, off + i * 5 + 4, none⟩ = some (.int .i64 (m4 : Int)) := SS.out
      go_wp2
      go_region_held3 (fun w' => w'.cell? ⟨b, off + i * 5, none⟩ = some (.string z0) ∧ w'.cell? ⟨b, off + i * 5 + 1, none⟩ = some (.int .i64 (m1 : Int)) ∧ w'.cell? ⟨b, off + i * 5 + 2, none⟩ = some (.string z2) ∧ w'.cell? ⟨b, off + i * 5 + 3, none⟩ = some (.int .i64 (m3 : Int)) ∧ w'.cell? ⟨b, off + i * 5 + 4, none⟩ = some (.int .i64 (m4 : Int))) (first | with_reducible assumption | with_reducible exact S1 | (fail)) (first | (go_at_call 90; refine (markText_any m (by omega) (by omega) wr.drew).mono ?_; rintro e w1 ⟨rfl, hB1⟩; rw [hz0.out]; have T1 : w1.cell? ⟨b, off + i * 5, none⟩ = some (.string z0) ∧ w1.cell? ⟨b, off + i * 5 + 1, none⟩ = some (.int .i64 (m1 : Int)) ∧ w1.cell? ⟨b, off + i * 5 + 2, none⟩ = some (.string z2) ∧ w1.cell? ⟨b, off + i * 5 + 3, none⟩ = some (.int .i64 (m3 : Int)) ∧ w1.cell? ⟨b, off + i * 5 + 4, none⟩ = some (.int .i64 (m4 : Int)) := heldIt_grow hB1 hb S1) | (fail))
      replace hB := hB.drew.trans (hB1.mono hB.size)
      replace hb := Nat.lt_of_lt_of_le hb hB1.size
      clear SS
      have SS : Hid (w1.cell? ⟨b, off + i * 5, none⟩ = some (.string z0) ∧ w1.cell? ⟨b, off + i * 5 + 1, none⟩ = some (.int .i64 (m1 : Int)) ∧ w1.cell? ⟨b, off + i * 5 + 2, none⟩ = some (.string z2) ∧ w1.cell? ⟨b, off + i * 5 + 3, none⟩ = some (.int .i64 (m3 : Int)) ∧ w1.cell? ⟨b, off + i * 5 + 4, none⟩ = some (.int .i64 (m4 : Int))) := T1
      clear S1 T1 hB1 d0 d1 d2 d3 d4
      obtain ⟨d0, d1, d2, d3, d4⟩ := SS.out
      have S2 : w1.drew.cell? ⟨b, off + i * 5, none⟩ = some (.string z0) ∧ w1.drew.cell? ⟨b, off + i * 5 + 1, none⟩ = some (.int .i64 (m1 : Int)) ∧ w1.drew.cell? ⟨b, off + i * 5 + 2, none⟩ = some (.string z2) ∧ w1.drew.cell? ⟨b, off + i * 5 + 3, none⟩ = some (.int .i64 (m3 : Int)) ∧ w1.drew.cell? ⟨b, off + i * 5 + 4, none⟩ = some (.int .i64 (m4 : Int)) := SS.out
      go_wp2
      go_region_held3 (fun w' => w'.cell? ⟨b, off + i * 5, none⟩ = some (.string z0) ∧ w'.cell? ⟨b, off + i * 5 + 1, none⟩ = some (.int .i64 (m1 : Int)) ∧ w'.cell? ⟨b, off + i * 5 + 2, none⟩ = some (.string z2) ∧ w'.cell? ⟨b, off + i * 5 + 3, none⟩ = some (.int .i64 (m3 : Int)) ∧ w'.cell? ⟨b, off + i * 5 + 4, none⟩ = some (.int .i64 (m4 : Int))) (first | with_reducible assumption | with_reducible exact S2 | (fail)) (first | (go_at_call 90; refine (markText_any m2 (by omega) (by omega) w1.drew).mono ?_; rintro e w2 ⟨rfl, hB2⟩; rw [hz2.out]; have T2 : w2.cell? ⟨b, off + i * 5, none⟩ = some (.string z0) ∧ w2.cell? ⟨b, off + i * 5 + 1, none⟩ = some (.int .i64 (m1 : Int)) ∧ w2.cell? ⟨b, off + i * 5 + 2, none⟩ = some (.string z2) ∧ w2.cell? ⟨b, off + i * 5 + 3, none⟩ = some (.int .i64 (m3 : Int)) ∧ w2.cell? ⟨b, off + i * 5 + 4, none⟩ = some (.int .i64 (m4 : Int)) := heldIt_grow hB2 hb S2) | (fail))
      replace hB := hB.drew.trans (hB2.mono hB.size)
      replace hb := Nat.lt_of_lt_of_le hb hB2.size
      clear SS
      have SS : Hid (w2.cell? ⟨b, off + i * 5, none⟩ = some (.string z0) ∧ w2.cell? ⟨b, off + i * 5 + 1, none⟩ = some (.int .i64 (m1 : Int)) ∧ w2.cell? ⟨b, off + i * 5 + 2, none⟩ = some (.string z2) ∧ w2.cell? ⟨b, off + i * 5 + 3, none⟩ = some (.int .i64 (m3 : Int)) ∧ w2.cell? ⟨b, off + i * 5 + 4, none⟩ = some (.int .i64 (m4 : Int))) := T2
      clear S2 T2 hB2 d0 d1 d2 d3 d4
      obtain ⟨d0, d1, d2, d3, d4⟩ := SS.out
      go_wp2
      go_roundw
      case rel => exact ⟨i + 1, m + 5, by omega, by go_num, by go_num, by have := hm.out; unfold Hid; omega, hB⟩
      case measure => simp [intOf]; omega
    · have hlt' : ¬ (i : Int) < (n : Int) := by omega
      have hm3 : m = mm := by have h1 := hm.out; have h2 := HMM.out; have hix : i = n := (by omega); rw [hix] at h1; omega
      subst hm3
      go_wp2
      go_ret
      exact ⟨rfl, hB⟩
end Go.Proofs.YtjkkjpgebcnhgaaGreatDoor.rg
/- The laws' helpers on a book; a book among the arguments. -/
namespace Go.Proofs.YtjkkjpgebcnhgaaGreatDoor.rg
open Go.ChangeShapes Go.WideShapes Go.ChangeAt Go.RowKit
open Go.Deep Go.Joins
open Go.Proofs.YtjkkjpgebcnhgaaGreatDoor.ce Go.Proofs.YtjkkjpgebcnhgaaGreatDoor.ro
set_option linter.unusedVariables false

theorem szI1 : (Tryz.prog.info? 2).map (·.size) = some 1 := by kernel_rfl
theorem szL1 : (Tryz.prog.info? 29).map (·.size) = some 1 := by kernel_rfl
theorem wpList_store_cell {ops : Array Oper} {rest : List Oper} {o : Oper} {a : Act} {w : World} {Q : Exit → Act → World → Prop} (hgd : o.guard = none) (t : TypeId) (x y : Operand) (ho : o.op = .store t x y) (b j : Nat) (u : Value) (hx : a.eval x = .pointer (some ⟨b, j, none⟩)) (hy : a.eval y = u) (h1 : u.oneCell' = true) (hi : (Tryz.prog.info? t).map (·.size) = some 1)
    {T : TypeId} {vs : List Value} (V : VBlk w b T vs) (hj : j < vs.length) (h : ∀ w', Only b w w' → VBlk w' b T (vs.set j u) → wpList Tryz.prog ops Q rest (a.put o.dst undef) w') : wpList Tryz.prog ops Q (o :: rest) a w :=
  wpList_store_c hgd t x y ho b j u hx hy h1 hi _ (V.cell j hj) (V.frozen j) (h _ (only_set _ _ _ _) (V.set j u))
theorem szBook_le (I : List It) (X : Int) (v : Value) (L : Int) (hL : L ≤ 1048576) (hL0 : 0 ≤ L) (w : World) (r : Rd encLi w v I) (hs : Lo I) :
    Calls Tryz.prog 6 #[.agg #[v, .int .i64 X], .int .i64 L] w fun e w' => ∃ q : Int, e = .returned (.int .i64 q) ∧ Below w.heap.size w w' ∧ (0 ≤ q → I.length ≤ 1048576 ∧ SmK I) ∧ q ≤ 1048576 := by
  obtain ⟨a, cap, rfl⟩ := r.form
  have R : Hid (Rd encLi w (.slice a I.length cap) I) := r
  have HS : Hid (Lo I) := hs
  clear r hs
  go_enter Tryz.func6, Tryz.ntmps6
  go_wp2_with (first | (refine wpList_box_v rfl 24 _ rfl [.slice a I.length cap, .int .i64 X] rfl ?_; intro b1 w1 hb1 hw1 hB1 V1; obtain ⟨c0, c1⟩ := cells2 V1; have hz1 := hB1.size) | (go_at_call 31; refine (szItems_le I _ L hL hL0 _ (R.out.grow hB1) HS.out).mono ?_; rintro e w2 ⟨q, rfl, hB2, hq, hq1⟩; have HQ : Hid (0 ≤ q → I.length ≤ 1048576 ∧ SmK I) := hq; clear hq; by_cases hneg : q < 0) | (fail))
  · go_ret
    exact ⟨-1, rfl, hB1.trans (hB2.mono hz1), fun h => by omega, by omega⟩
  · go_ret
    exact ⟨q, rfl, hB1.trans (hB2.mono hz1), HQ.out, hq1⟩
set_option maxHeartbeats 1000000 in
theorem toBook_any (I : List It) (X : Int) (v : Value) (w : World) (r : Rd encLi w v I) (hl : I.length ≤ 1048576) :
    Calls Tryz.prog 9 #[.agg #[v, .int .i64 X]] w fun e w' => ∃ v', e = .returned (.agg #[v', .int .i64 X]) ∧ Own encIt w' w.heap.size w'.heap.size v' I ∧ Below w.heap.size w w' := by
  obtain ⟨a, cap, rfl⟩ := r.form
  have R : Hid (Rd encLi w (.slice a I.length cap) I) := r
  clear r
  have k1 : Hid True := trivial
  have k2 : Hid True := trivial
  have k3 : Hid True := trivial
  go_enter Tryz.func9, Tryz.ntmps9
  go_wp2_with (first | (refine wpList_box_v rfl 24 _ rfl [.slice a I.length cap, .int .i64 X] rfl ?_; intro b1 w1 hb1 hw1 hB1 V1; have hz1 := hB1.size) | (clear k1; refine wpList_alloc_v rfl 31 rfl _ zeroBk ?_; intro b2 w2 hb2 hw2 hB2 V2; have hz2 := hB2.size; have V1b := vblk_grow V1 hB2) | (clear k2; refine wpList_alloc_v rfl 31 rfl _ zeroBk ?_; intro b3 w3 hb3 hw3 hB3 V3; have hz3 := hB3.size; have V1c := vblk_grow V1b hB3; have V2c := vblk_grow V2 hB3; have hB13 : Below w.heap.size w w3 := (hB1.trans (hB2.mono hz1)).trans (hB3.mono (by omega)); obtain ⟨c0, c1⟩ := cells2 V1c) | (go_at_call 36; refine (toItems_any I _ _ (R.out.grow hB13) hl).mono ?_; rintro e w4 ⟨v4, rfl, o4, hB4⟩; obtain ⟨a4, n4, c4, rfl⟩ := o4.slice; have V1d := vblk_grow V1c hB4; have V2d := vblk_grow V2c hB4; have V3d := vblk_grow V3 hB4; have hz4 := hB4.size) | (clear k3; refine wpList_store_cell rfl 29 _ _ rfl b3 0 (.slice a4 n4 c4) rfl rfl rfl szL1 V3d (by simp) ?_; intro w5 hO5 V5; have V1e := vblk_only V1d hO5 (by have := V1b.lt; omega); have V2e := vblk_only V2d hO5 (by have := V2.lt; omega); have o5 := o4.only hO5 V3d (by decide); obtain ⟨d0, d1⟩ := cells2 V1e) | (refine wpList_store_cell rfl 2 _ _ rfl b3 1 (.int .i64 X) rfl rfl rfl szI1 V5 (by simp) ?_; intro w6 hO6 V6; have V2f := vblk_only V2e hO6 (by have := V2.lt; omega); have o6 := o5.only hO6 V5 (by decide)) | (refine wpList_load_r rfl 31 _ rfl b3 0 [.slice a4 n4 c4, .int .i64 X] rfl _ Tryz.underlying31 rfl sizeBk V6.range ?_) | (refine wpList_store_v rfl 31 _ _ rfl b2 [.slice a4 n4 c4, .int .i64 X] rfl rfl sizeBk V2f rfl (oneBk _ _ _ _) ?_; intro w7 hO7 V7) | (fail))
  exact row_retv rfl rfl V7 Tryz.underlying31 sizeBk rfl ⟨_, rfl, ((o6.only hO7 V2f (by decide)).wide (by have := hB13.size; omega) (Nat.le_refl _)).top, (((hB13.trans (hB4.mono hB13.size)).trans (hO5.2.2 _ (by omega))).trans (hO6.2.2 _ (by omega))).trans (hO7.2.2 _ (by omega))⟩
theorem eqBook_any (I : List It) (X : Int) (v v' : Value) (w : World) (r : Rd encIt w v I) (r' : Rd encIt w v' I) :
    Calls Tryz.prog 12 #[.agg #[v, .int .i64 X], .agg #[v', .int .i64 X]] w fun e w' => e = .returned (.bool true) ∧ Below w.heap.size w w' := by
  obtain ⟨a, cap, rfl⟩ := r.form
  obtain ⟨a', cap', rfl⟩ := r'.form
  have R : Hid (Rd encIt w (.slice a I.length cap) I) := r
  have R' : Hid (Rd encIt w (.slice a' I.length cap') I) := r'
  clear r r'
  have hxx : (X != X) = false := by simp
  have k1 : Hid True := trivial
  go_enter Tryz.func12, Tryz.ntmps12
  go_wp2_with (first | (clear k1; refine wpList_box_v rfl 31 _ rfl [.slice a I.length cap, .int .i64 X] rfl ?_; intro b1 w1 hb1 hw1 hB1 V1; have hz1 := hB1.size) | (refine wpList_box_v rfl 31 _ rfl [.slice a' I.length cap', .int .i64 X] rfl ?_; intro b2 w2 hb2 hw2 hB2 V2; have hz2 := hB2.size; have V1b := vblk_grow V1 hB2; obtain ⟨c0, c1⟩ := cells2 V1b; obtain ⟨d0, d1⟩ := cells2 V2; have hB12 : Below w.heap.size w w2 := hB1.trans (hB2.mono hz1)) | (go_at_call 43; refine (eqItems_any I _ _ _ (R.out.grow hB12) (R'.out.grow hB12)).mono ?_; rintro e w3 ⟨rfl, hB3⟩; obtain ⟨f0, f1⟩ := cells2 (vblk_grow V1b hB3); obtain ⟨g0, g1⟩ := cells2 (vblk_grow V2 hB3)) | (fail))
  go_ret
  exact ⟨rfl, hB12.trans (hB3.mono hB12.size)⟩
theorem markBook_any (I : List It) (X : Int) (v : Value) (lo hi : Nat) (k : Nat) (hk : 1 ≤ k) (hk2 : k + 5 * I.length ≤ 16000000) (mm : Nat) (hmm : mm = k + 5 * I.length) (w : World) (own : Own encIt w lo hi v I) (hlo : lo ≤ w.heap.size) :
    Calls Tryz.prog 14 #[.agg #[v, .int .i64 X], .int .i64 k] w fun e w' => e = .returned (.int .i64 mm) ∧ Own encIt w' lo hi v (mksIt k I.length) ∧ Within lo hi w w' ∧ Ty lo encIt.t w w' := by
  obtain ⟨a, n, cap, rfl⟩ := own.slice
  have O : Hid (Own encIt w lo hi (.slice a n cap) I) := own
  have HM : Hid (mm = k + 5 * I.length) := hmm
  clear own hmm
  go_enter Tryz.func14, Tryz.ntmps14
  go_wp2_with (first | (refine wpList_box_v rfl 31 _ rfl [.slice a n cap, .int .i64 X] rfl ?_; intro b1 w1 hb1 hw1 hB1 V1; obtain ⟨c0, c1⟩ := cells2 V1; have hz1 := hB1.size) | (go_at_call 44; refine (markIts_any I _ lo hi k hk hk2 mm HM.out _ (O.out.grow hB1) (by omega)).mono ?_; rintro e w2 ⟨rfl, o2, hW2, hT2⟩) | (fail))
  go_ret
  exact ⟨rfl, o2, (Within.of_below hB1 (Nat.le_refl _)).trans hW2, (Ty.of_below hB1 hlo).trans hT2⟩
theorem heldBook_any (n : Nat) (X : Int) (v : Value) (k : Nat) (hk : 1 ≤ k) (hk2 : k + 5 * n ≤ 16000000) (mm : Nat) (hmm : mm = k + 5 * n) (w : World) (r : Rd encIt w v (mksIt k n)) :
    Calls Tryz.prog 15 #[.agg #[v, .int .i64 X], .int .i64 k] w fun e w' => e = .returned (.int .i64 mm) ∧ Below w.heap.size w w' := by
  obtain ⟨a, cap, rfl⟩ := r.form
  have R : Hid (Rd encIt w (.slice a (mksIt k n).length cap) (mksIt k n)) := r
  have HM : Hid (mm = k + 5 * n) := hmm
  have hm0 : ¬ (mm : Int) < 0 := by omega
  clear r hmm
  obtain ⟨ln, hln⟩ := hid_ex (mksIt k n).length
  rw [hln.out] at R ⊢
  go_enter Tryz.func15, Tryz.ntmps15
  go_wp2_with (first | (refine wpList_box_v rfl 31 _ rfl [.slice a ln cap, .int .i64 X] rfl ?_; intro b1 w1 hb1 hw1 hB1 V1; obtain ⟨c0, c1⟩ := cells2 V1; have hz1 := hB1.size) | (go_at_call 45; refine (heldIts_any n _ k hk hk2 mm HM.out _ (R.out.grow hB1)).mono ?_; rintro e w2 ⟨rfl, hB2⟩) | (fail))
  go_ret
  exact ⟨rfl, hB1.trans (hB2.mono hz1)⟩
theorem cellsLBk : Tryz.prog.cellsOf 24 = 2 := by kernel_rfl
theorem cellsLis : Tryz.prog.cellsOf 22 = 1 := by kernel_rfl
set_option maxRecDepth 100000 in
theorem open_book {H : Type} {enc : TypeId × Value → H} {W : World} {r : Reach} {b0 : Nat} {v : Value} {d : DataW H} {p : List MemPlace} (hw : Value.okWide Tryz.prog W r b0 24 v) (h : DataW.Trod enc Tryz.prog W 0 (fun _ => true) true 24 v d p) :
    ∃ u I X, v = .agg #[u, .int .i64 X] ∧ Rd encLi W u I ∧ Lo I := by
  obtain ⟨cs, rfl, hsz⟩ := okWide_struct Tryz.underlying24 hw
  obtain ⟨m, hm⟩ := h
  have hm' : DataW.trod enc Tryz.prog W 0 (fun _ => true) true m 24 cs.toList = some (d, p) := by simpa [Value.cells] using hm
  obtain ⟨xs, m', -, -, hl, hxs, hf⟩ := DataW.trod_struct Tryz.underlying24 hm'
  rw [cellsLBk] at hl
  have e : ∃ v0 v1, cs.toList = [v0, v1] := by
    match cs.toList, hl with
    | [v0, v1], _ => exact ⟨v0, v1, rfl⟩
  obtain ⟨v0, v1, e⟩ := e
  rw [e] at hf
  match xs, hxs with
  | [y0, y1], _ =>
    have h0 := hf 0 _ rfl
    have h1 := hf 1 _ rfl
    simp [cellsIntK, cellsLis] at h0 h1
    have : Inhabited It := ⟨It.zero⟩
    obtain ⟨L, rL, sL⟩ := rd_of_trodK encLi (fun i => i.N.size ≤ 9223372036854775807 ∧ i.B.size ≤ 9223372036854775807) Tryz.underlying22 cellsLi (fun m cs y hy => ic_of_trod hy) h0
    obtain ⟨n, e0, -, -⟩ := DataW.trod_int Tryz.underlying2 h1
    simp at e0
    subst e0
    refine ⟨v0, L, n, ?_, rL, sL⟩
    have e2 : cs = #[v0, .int .i64 n] := by rw [← Array.toArray_toList (xs := cs), e]
    rw [e2]
end Go.Proofs.YtjkkjpgebcnhgaaGreatDoor.rg
/- Rows that a call made, of whatever things: written at a place, cut short, copied into. -/
namespace Go.Proofs.YtjkkjpgebcnhgaaGreatDoor.ro
open Go.ChangeShapes Go.WideShapes Go.ChangeAt Go.RowKit
open Go.Proofs.YtjkkjpgebcnhgaaGreatDoor.ce
set_option linter.unusedVariables false
variable {α : Type}

theorem write_list {β : Type} (L : List β) (k n i m : Nat) (R : List β) (hR : R.length = m * k) (hin : i ≤ n) (hL : n * k ≤ L.length) (hc : (i + m) * k ≤ L.length) :
    (L.take (i * k) ++ R ++ L.drop (i * k + R.length)).take ((if i + m ≤ n then n else i + m) * k) = (L.take (n * k)).take (i * k) ++ R ++ (L.take (n * k)).drop ((i + m) * k) := by
  have e1 : (i + m) * k = i * k + m * k := Nat.add_mul _ _ _
  have h1 : i * k ≤ n * k := Nat.mul_le_mul_right _ hin
  have h2 : (L.take (i * k)).length = i * k := by rw [List.length_take]; omega
  rw [List.take_take, Nat.min_eq_left h1]
  have h3 : (L.take (i * k) ++ R).length = (i + m) * k := by rw [List.length_append, h2, hR, e1]
  rw [hR, ← e1]
  split
  · next h =>
    have h4 : (i + m) * k ≤ n * k := Nat.mul_le_mul_right _ h
    rw [List.take_append, h3, List.take_of_length_le (by rw [h3]; exact h4), List.drop_take]
  · next h =>
    have h4 : n * k ≤ (i + m) * k := Nat.mul_le_mul_right _ (by omega)
    rw [List.take_append_of_le_length (by rw [h3]; exact Nat.le_refl _), List.take_of_length_le (by rw [h3]; exact Nat.le_refl _), List.drop_of_length_le (by rw [List.length_take]; omega), List.append_nil]
/-- the block g has room for cap things; the first of them are xs -/
structure RowAt (E : Enc α) (w : World) (g cap : Nat) (xs : List α) : Prop where
  blk : ∃ cur : Array Value, w.heap[g]? = some (.cells cur E.t (0, 0)) ∧ cur.size = cap * E.k ∧ cur.toList.take (xs.length * E.k) = E.row xs
  le : xs.length ≤ cap
  cap : cap ≤ maxLen
theorem Own.at {E : Enc α} {w : World} {lo hi g n cap : Nat} {xs : List α} (o : Own E w lo hi (.slice (some ⟨g, 0, none⟩) n cap) xs) (hne : xs ≠ []) : RowAt E w g cap xs ∧ lo ≤ g ∧ g < hi := by
  rcases o.row with ⟨e, -⟩ | ⟨g', cap', cur, e, hg, hb, hc1, hc2, hc3, htk⟩
  · exact absurd e hne
  cases e
  exact ⟨⟨⟨cur, hb, hc3, htk⟩, hc1, hc2⟩, hg⟩
theorem RowAt.own {E : Enc α} {w : World} {g cap : Nat} {xs : List α} (r : RowAt E w g cap xs) {lo hi n : Nat} (h1 : lo ≤ g) (h2 : g < hi) (hn : n = xs.length) : Own E w lo hi (.slice (some ⟨g, 0, none⟩) n cap) xs := by
  subst hn
  obtain ⟨cur, hb, hs, ht⟩ := r.blk
  exact ⟨.inr ⟨g, cap, cur, rfl, ⟨h1, h2⟩, hb, r.le, r.cap, hs, ht⟩⟩
theorem RowAt.lt {E : Enc α} {w : World} {g cap : Nat} {xs : List α} (r : RowAt E w g cap xs) : g < w.heap.size := by
  obtain ⟨cur, hb, -, -⟩ := r.blk
  exact (Array.getElem?_eq_some_iff.1 hb).1
theorem RowAt.of {E : Enc α} {w w' : World} {g cap : Nat} {xs : List α} (r : RowAt E w g cap xs) (e : w'.heap[g]? = w.heap[g]?) : RowAt E w' g cap xs := by
  obtain ⟨cur, hb, hs, ht⟩ := r.blk
  exact ⟨⟨cur, by rw [e]; exact hb, hs, ht⟩, r.le, r.cap⟩
theorem RowAt.grow {E : Enc α} {w w' : World} {g cap : Nat} {xs : List α} (r : RowAt E w g cap xs) (hb : Below w.heap.size w w') : RowAt E w' g cap xs := r.of (hb.block g r.lt)
/-- things are written at the place i, maybe over the end -/
theorem RowAt.write {E : Enc α} {w : World} {g cap : Nat} {xs : List α} (r : RowAt E w g cap xs) (i : Nat) (hi' : i ≤ xs.length) (ys : List α) (hc : i + ys.length ≤ cap) : RowAt E (w.setCells g (i * E.k) (E.row ys)) g cap (xs.take i ++ ys ++ xs.drop (i + ys.length)) := by
  obtain ⟨cur, hb, hc3, htk⟩ := r.blk
  have hc1 := r.le
  have hL : cur.toList.length = cap * E.k := by rw [Array.length_toList, hc3]
  have hk : (i + ys.length) * E.k ≤ cap * E.k := Nat.mul_le_mul_right _ hc
  have hk1 : xs.length * E.k ≤ cap * E.k := Nat.mul_le_mul_right _ hc1
  have hRl := E.row_len ys
  have e1 : (i + ys.length) * E.k = i * E.k + ys.length * E.k := Nat.add_mul _ _ _
  have hlen : (xs.take i ++ ys ++ xs.drop (i + ys.length)).length = if i + ys.length ≤ xs.length then xs.length else i + ys.length := by
    simp only [List.length_append, List.length_take, List.length_drop]
    split <;> omega
  have hw := write_list cur.toList E.k xs.length i ys.length (E.row ys) hRl hi' (by rw [hL]; exact hk1) (by rw [hL]; exact hk)
  refine ⟨⟨(cur.toList.take (i * E.k) ++ E.row ys ++ cur.toList.drop (i * E.k + (E.row ys).length)).toArray, ?_, ?_, ?_⟩, ?_, r.cap⟩
  · exact heap_setCells g E.t (E.row ys) (i * E.k) w cur.toList (by simpa using hb) (by rw [hL, hRl]; omega)
  · simp only [List.size_toArray, List.length_append, List.length_take, List.length_drop, hL, hRl]; omega
  · rw [hlen]
    show (cur.toList.take (i * E.k) ++ E.row ys ++ cur.toList.drop (i * E.k + (E.row ys).length)).take _ = _
    rw [hw, htk, E.row_take, E.row_append, E.row_append]
    congr 1
    by_cases h : i + ys.length ≤ xs.length
    · exact E.row_drop xs _ h
    · have e3 : xs.drop (i + ys.length) = [] := List.drop_of_length_le (by omega)
      rw [e3, List.drop_of_length_le (by rw [E.row_len]; exact Nat.mul_le_mul_right _ (by omega))]; rfl
  · rw [hlen]; split <;> omega
theorem RowAt.cut {E : Enc α} {w : World} {g cap : Nat} {xs : List α} (r : RowAt E w g cap xs) (m : Nat) : RowAt E w g cap (xs.take m) := by
  obtain ⟨cur, hb, hs, ht⟩ := r.blk
  have hl := r.le
  have h2 : (xs.take m).length = min m xs.length := List.length_take
  refine ⟨⟨cur, hb, hs, ?_⟩, by omega, r.cap⟩
  rw [h2, ← E.row_take, ← ht, List.take_take, ← Nat.mul_min_mul_right]
/-- the cells of a row are there -/
theorem RowAt.there {E : Enc α} {w : World} {g cap : Nat} {xs : List α} (r : RowAt E w g cap xs) : (∀ j, j < cap * E.k → (w.cell? ⟨g, j, none⟩).isSome = true) ∧ (∀ j, w.frozen? ⟨g, j, none⟩ = false) ∧ w.shape? g = some (E.t, cap * E.k) := by
  obtain ⟨cur, hb, hs, ht⟩ := r.blk
  refine ⟨fun j hj => ?_, fun j => frozen_of_row _ _ _ _ _ hb, ?_⟩
  · rw [cell_of_row _ _ _ _ _ _ hb]
    simp; omega
  · simp [World.shape?, hb, hs]
theorem RowAt.ty {E : Enc α} {w w' : World} {g cap lo : Nat} {xs : List α} (r : RowAt E w g cap xs) (hg : lo ≤ g) (h : Only g w w') : Ty lo E.t w w' := by
  obtain ⟨cur, hb, hs, htk⟩ := r.blk
  refine ⟨h.2.2 _ hg, fun k cu t' f hk ht => h.2.1 k fun e => ?_⟩
  subst e
  rw [hk] at hb
  simp at hb
  exact ht hb.2.1
/-- the things from the place i on are read -/
theorem RowAt.range {E : Enc α} {w : World} {g cap : Nat} {xs : List α} (r : RowAt E w g cap xs) (i : Nat) (hi' : i ≤ xs.length) : w.rangeAt g (i * E.k) (E.row (xs.drop i)) := fun j v hv => by
  obtain ⟨cur, hb, hs, ht⟩ := r.blk
  rw [cell_of_row _ _ _ _ _ _ hb]
  rw [← E.row_drop xs i hi', ← ht, List.getElem?_drop, List.getElem?_take] at hv
  split at hv
  · simpa using hv
  · cases hv
theorem RowAt.head {E : Enc α} {w : World} {g cap : Nat} {xs : List α} (r : RowAt E w g cap xs) (i : Nat) : w.rangeAt g 0 (E.row (xs.take i)) := by
  have := (r.cut i).range 0 (Nat.zero_le _)
  simpa using this
/-- the elements are read at a, all of them or as many as there is room for -/
theorem run_copy_e {P : Program} {E : Enc α} (w : World) (dT sT ty : TypeId) (hu : P.underlying dT = some (.slice E.t)) (hs : (P.info? E.t).map (·.size) = some E.k) (g j dLen dCap b off sLen sCap : Nat) (ys : List α) (hn : ys.length = Nat.min sLen dLen)
    (hr : w.rangeAt b off (E.row ys)) (hc : ∀ q, q < ys.length * E.k → (w.cell? ⟨g, j + q, none⟩).isSome = true) (hf : ∀ q, w.frozen? ⟨g, q, none⟩ = false) :
    (Builtin.copy_ #[dT, sT] ty #[.slice (some ⟨g, j, none⟩) dLen dCap, .slice (some ⟨b, off, none⟩) sLen sCap]).run P w = .ok (goInt ys.length) (w.setCells g j (E.row ys)) := by
  have hl := run_loadCells_list (P := P) w ⟨b, off, none⟩ (E.row ys) (fun q v hv => by rw [Addr.add_mid]; exact hr q v hv)
  have hst := run_storeCells_cells (P := P) g j (E.row ys) 0 w (by rw [E.row_len]; simpa using hc) (by intro q hq; exact hf _) (E.row_cells ys)
  have hrl := E.row_len ys
  cases hq : P.info? E.t with
  | none => simp [hq] at hs
  | some i =>
    have hi : i.size = E.k := by simpa [hq] using hs
    have hm : min sLen dLen = ys.length := hn.symm
    simp [Builtin.copy_, run_underlying hu, Builtin.lenOf, Builtin.firstCells, sizeOf, typeInfo, hq, hi, hm, ← hrl, hl, hst]
section
variable {ops : Array Oper} {rest : List Oper} {o : Oper} {a : Act} {w : World} {Q : Exit → Act → World → Prop} {K : Act → World → Prop} {X : Prop}
theorem wpList_cp (hgd : o.guard = none) (d s : Operand) (dT sT : TypeId) (ho : o.op = .call { callee := .builtin .copy, args := #[d, s], argTypes := #[dT, sT] }) (v u : Value) (hd : a.eval d = v) (hs : a.eval s = u) {v' : Value} {w' : World} (hr : (Builtin.copy_ #[dT, sT] o.type #[v, u]).run Tryz.prog w = .ok v' w')
    (h : wpList Tryz.prog ops Q rest (a.put o.dst v') w') : wpList Tryz.prog ops Q (o :: rest) a w :=
  wpList_val hgd (v := v') (w' := w') (by simp [execOp, ho, resolve, invoke, builtin, hd, hs, hr, Result.andThen]) h
theorem step_cp (hgd : o.guard = none) (d s : Operand) (dT sT : TypeId) (ho : o.op = .call { callee := .builtin .copy, args := #[d, s], argTypes := #[dT, sT] }) (v u : Value) (hd : a.eval d = v) (hs : a.eval s = u) {v' : Value} {w' : World} (hr : (Builtin.copy_ #[dT, sT] o.type #[v, u]).run Tryz.prog w = .ok v' w')
    (h : K (a.put o.dst v') w') : if Region.wanted o (yielded ops a.tmps) = true then Oper.wp Tryz.prog o a w K Q else X :=
  step_val hgd (v := v') (w' := w') (by simp [execOp, ho, resolve, invoke, builtin, hd, hs, hr, Result.andThen]) h
/-- a thing is stored at a place of a row that the call made -/
theorem wpList_store_e {E : Enc α} (hsz : (Tryz.prog.info? E.t).map (·.size) = some E.k) (hgd : o.guard = none) (x y : Operand) (ho : o.op = .store E.t x y) (lo hi g n cap i j0 : Nat) (xs : List α) (c : α) (hx : a.eval x = .pointer (some ⟨g, j0, none⟩)) (hj0 : j0 = i * E.k) (hy : a.eval y = .agg (E.put c).toArray)
    (own : Own E w lo hi (.slice (some ⟨g, 0, none⟩) n cap) xs) (hlt : i < xs.length) (h : ∀ w', Only g w w' → Own E w' lo hi (.slice (some ⟨g, 0, none⟩) n cap) (xs.set i c) → wpList Tryz.prog ops Q rest (a.put o.dst undef) w') : wpList Tryz.prog ops Q (o :: rest) a w := by
  subst hj0
  have hne : xs ≠ [] := fun e => by rw [e] at hlt; simp at hlt
  obtain ⟨r, hg1, hg2⟩ := own.at hne
  obtain ⟨h1, h2, -⟩ := r.there
  obtain ⟨hn, hc, -⟩ := own.rd.cap
  have es : xs.take i ++ [c] ++ xs.drop (i + [c].length) = xs.set i c := by
    rw [List.set_eq_take_append_cons_drop, if_pos hlt]; simp
  have hw := r.write i (by omega) [c] (by simp; omega)
  rw [E.row_one', es] at hw
  refine wpList_store_mid hgd E.t x y ho g (i * E.k) (E.put c).toArray hx hy (fun j hj => ⟨h1 _ ?_, h2 _⟩) (by rw [hsz, List.size_toArray, E.len]) (all_oneCell_toArray (E.one c)) (h _ (only_setCells _ _ _ _) (hw.own hg1 hg2 (by simp; omega)))
  rw [List.size_toArray, E.len] at hj
  have : (i + 1) * E.k ≤ cap * E.k := Nat.mul_le_mul_right _ (by omega)
  rw [Nat.add_mul] at this
  omega
end
end Go.Proofs.YtjkkjpgebcnhgaaGreatDoor.ro
/- The program's casBehind, Clone of things, copyBook. -/
namespace Go.Proofs.YtjkkjpgebcnhgaaGreatDoor.rg
open Go.ChangeShapes Go.WideShapes Go.ChangeAt Go.RowKit
open Go.Deep Go.Joins
open Go.Proofs.YtjkkjpgebcnhgaaGreatDoor.ce Go.Proofs.YtjkkjpgebcnhgaaGreatDoor.ro
set_option linter.unusedVariables false

theorem casBehind_is (X : Int) (h0 : 1 ≤ X) (h1 : X ≤ 1000000) (w : World) : Calls Tryz.prog 62 #[.int .i64 X] w fun e w' => e = .returned (.int .i64 (nextX X)) ∧ w' = w := by
  have e3 : Hid (X % 1000000 + 1 = nextX X) := by unfold Hid nextX; split <;> omega
  go_enter Tryz.func62, Tryz.ntmps62
  go_wp2
  go_ret
  exact ⟨congrArg (fun z => Ending.returned (.int .i64 z)) e3.out, rfl⟩
set_option maxRecDepth 100000 in
theorem clone_any (I : List It) (v : Value) (w : World) (r : Rd encIt w v I) (hl : I.length ≤ 1048576) :
    Calls Tryz.prog 73 #[v] w fun e w' => ∃ v', e = .returned v' ∧ Own encIt w' w.heap.size w'.heap.size v' I ∧ Below w.heap.size w w' := by
  obtain ⟨a, cap, rfl⟩ := r.form
  have R : Hid (Rd encIt w (.slice a I.length cap) I) := r
  cases a with
  | none =>
    have hI : I = [] := by
      cases I with
      | nil => rfl
      | cons x q => obtain ⟨b, off, e, -⟩ := rd_item rfl rfl r 0 (by simp); cases e
    subst hI
    clear r
    have hnil : ∀ W, (binOp .eql 29 (.slice none 0 cap) (.slice none 0 0)).run Tryz.prog W = .ok (.bool true) W := fun W => by rw [Lib.run_eql_slice_nil W _ _ _ _ _ _ _ Tryz.underlying29]; rfl
    go_enter Tryz.func73, Tryz.ntmps73
    go_wp2
    go_ret
    exact ⟨_, rfl, own_zero _ _ _ _ _, Below.refl _ _⟩
  | some ad =>
    clear r
    have hnil : ∀ W, (binOp .eql 29 (.slice (some ad) I.length cap) (.slice none 0 0)).run Tryz.prog W = .ok (.bool false) W := fun W => by rw [Lib.run_eql_slice_nil W _ _ _ _ _ _ _ Tryz.underlying29]; rfl
    go_enter Tryz.func73, Tryz.ntmps73
    go_wp2_with (first | (at_builtin; refine wpList_append_g infoIt rfl _ _ 29 rfl Tryz.underlying29 w.heap.size _ _ [] rfl (own_zero _ _ _ 0 _) (by simp) _ I rfl (R.out.grow ((Below.refl _ _).alloc (Nat.le_refl _) _)) (by simp; omega) ?_; intro v4 w4 o4 hT4; rw [List.nil_append] at o4; have hB4 : Below w.heap.size w w4 := ((Below.refl _ _).alloc (Nat.le_refl _) _).trans hT4.low) | (fail))
    go_ret
    exact ⟨_, rfl, o4, hB4⟩
theorem cb_grow {w w' w'' : World} {b1 b2 : Nat} {u v : Value} (hB : Below w'.heap.size w' w'') (h : w'.cell? ⟨b1, 0, none⟩ = some u ∧ w'.cell? ⟨b1, 1, none⟩ = some v ∧ Cpb w b1 b2 [u, v] w') : w''.cell? ⟨b1, 0, none⟩ = some u ∧ w''.cell? ⟨b1, 1, none⟩ = some v ∧ Cpb w b1 b2 [u, v] w'' := by
  obtain ⟨q0, q1, hv⟩ := h.2.2.var
  exact cb_of ⟨h.2.2.low.trans (hB.mono h.2.2.low.size), vblk_grow h.2.2.src hB, q0, q1, vblk_grow hv hB⟩
set_option maxRecDepth 100000 in
set_option maxHeartbeats 2000000 in
theorem copyBook_any (I : List It) (X : Int) (v : Value) (w : World) (r : Rd encIt w v I) (hl : I.length ≤ 1048576) :
    Calls Tryz.prog 39 #[.agg #[v, .int .i64 X]] w fun e w' => ∃ v', e = .returned (.agg #[v', .int .i64 X]) ∧ Own encIt w' w.heap.size w'.heap.size v' I ∧ Below w.heap.size w w' := by
  obtain ⟨a, cap, rfl⟩ := r.form
  have R : Hid (Rd encIt w (.slice a I.length cap) I) := r
  clear r
  have m1 : Hid True := trivial
  go_enter Tryz.func39, Tryz.ntmps39
  go_wp2_with (first | (clear m1; refine wpList_box_v rfl 31 _ rfl [.slice a I.length cap, .int .i64 X] rfl ?_; intro b1 w1 hb1 hw1 hB1 hV1; have hz1 := hB1.size) | (refine wpList_alloc_v rfl 31 rfl _ zeroBk ?_; intro b2 w2 hb2 hw2 hB2 hV2; have hz2 := hB2.size; have hB12 : Below w.heap.size w w2 := hB1.trans (hB2.mono hz1)) | (fail))
  have S1 := cb_of (w := w) (b1 := b1) (b2 := b2) (w' := w2.drew) ⟨hB12.drew, hV1.of (hB2.block b1 hw1), _, _, hV2⟩
  have hne : b1 ≠ b2 := by omega
  have hlo : w.heap.size ≤ b2 := by omega
  go_region_held3 (fun w' => w'.cell? ⟨b1, 0, none⟩ = some (.slice a I.length cap) ∧ w'.cell? ⟨b1, 1, none⟩ = some (.int .i64 X) ∧ Cpb w b1 b2 [.slice a I.length cap, .int .i64 X] w') (first | with_reducible assumption | with_reducible exact cb_store hne hlo (by assumption) | with_reducible exact cb_alloc (by assumption) | with_reducible exact cb_alloc_drew (by assumption) | (fail)) (first | (go_at_call 73; refine (clone_any I _ _ (R.out.grow (cb_low (by with_reducible assumption))) hl).mono ?_; rintro e W5 ⟨v5, rfl, o5, hB5⟩; replace o5 := o5.wide (lo' := w.heap.size) (cb_size (by with_reducible assumption)) (Nat.le_refl _); have hS5 := cb_grow hB5 (by with_reducible assumption); obtain ⟨q0, q1, hv⟩ := hS5.2.2.var; obtain ⟨g0, g1⟩ := cells2 hv; have f0 := hv.frozen 0; have f1 := hv.frozen 1; obtain ⟨a5, n5, k5, rfl⟩ := o5.slice) | (fail))
  all_goals
    go_wp2
    exact row_retv rfl rfl (copy2_end hv) Tryz.underlying31 sizeBk rfl ⟨_, rfl, (own_store2 o5 hv (by decide)).top, cb_low (by with_reducible assumption)⟩
end Go.Proofs.YtjkkjpgebcnhgaaGreatDoor.rg
/- The closure that withoutItem hands on; IndexFunc with it. -/
namespace Go.Proofs.YtjkkjpgebcnhgaaGreatDoor.rg
open Go.ChangeShapes Go.WideShapes Go.ChangeAt Go.RowKit
open Go.Deep Go.Joins
open Go.Proofs.YtjkkjpgebcnhgaaGreatDoor.ce Go.Proofs.YtjkkjpgebcnhgaaGreatDoor.ro
set_option linter.unusedVariables false

set_option maxRecDepth 100000 in
theorem wo1_any (N B s : ByteArray) (F C U : Int) (bs : Nat) (y : Bool) (hy : Hid ((N.toList == s.toList) = y)) (w : World) (V : VBlk w bs 9 [.string s]) :
    Calls Tryz.prog 120 #[.agg #[.string N, .int .i64 F, .string B, .int .i64 C, .int .i64 U], .pointer (some ⟨bs, 0, none⟩)] w fun e w' => e = .returned (.bool y) ∧ Below w.heap.size w w' := by
  have hfd := field_thing N B F C U
  go_enter Tryz.func120, Tryz.ntmps120
  go_upto_region 1 with (first | (refine wpList_box_v rfl 56 _ rfl [.string N, .int .i64 F, .string B, .int .i64 C, .int .i64 U] rfl ?_; intro b2 w1 hb2 hw2 hB1 V1; have hz1 := hB1.size) | (fail))
  have Vs := vblk_grow V hB1
  clear V
  have S1 : w1.drew.cell? ⟨bs, 0, none⟩ = some (.string s) ∧ w1.drew.cell? ⟨b2, 0, none⟩ = some (.string N) ∧ w1.drew.cell? ⟨b2, 1, none⟩ = some (.int .i64 F) ∧ w1.drew.cell? ⟨b2, 2, none⟩ = some (.string B) ∧ w1.drew.cell? ⟨b2, 3, none⟩ = some (.int .i64 C) ∧ w1.drew.cell? ⟨b2, 4, none⟩ = some (.int .i64 U) := ⟨Vs.cell 0 (by simp), cells5 (w := w1.drew) V1⟩
  go_region_held3 (fun w' => w'.cell? ⟨bs, 0, none⟩ = some (.string s) ∧ w'.cell? ⟨b2, 0, none⟩ = some (.string N) ∧ w'.cell? ⟨b2, 1, none⟩ = some (.int .i64 F) ∧ w'.cell? ⟨b2, 2, none⟩ = some (.string B) ∧ w'.cell? ⟨b2, 3, none⟩ = some (.int .i64 C) ∧ w'.cell? ⟨b2, 4, none⟩ = some (.int .i64 U)) (first | with_reducible assumption | with_reducible exact S1 | (fail)) (first | (go_at_call 97; refine (thingOf_any N B F C U _).mono ?_; rintro e w3 ⟨rfl, hB3⟩; have S3 : w3.cell? ⟨bs, 0, none⟩ = some (.string s) ∧ w3.cell? ⟨b2, 0, none⟩ = some (.string N) ∧ w3.cell? ⟨b2, 1, none⟩ = some (.int .i64 F) ∧ w3.cell? ⟨b2, 2, none⟩ = some (.string B) ∧ w3.cell? ⟨b2, 3, none⟩ = some (.int .i64 C) ∧ w3.cell? ⟨b2, 4, none⟩ = some (.int .i64 U) := ⟨(vblk_grow Vs ((Below.refl _ _).drew.trans hB3)).cell 0 (by simp), cells5 (vblk_grow V1 ((Below.refl _ _).drew.trans hB3))⟩) | (go_at_call 109; refine (goesBy_any N s y hy.out _).mono ?_; rintro e wq ⟨rfl, hq⟩; subst wq) | (fail))
  go_wp2
  go_ret
  exact ⟨rfl, hB1.trans (((Below.refl _ _).drew.trans hB3).mono hz1)⟩
/-- the first place that goes by the name -/
def idx (s : ByteArray) : List It → Nat
  | [] => 0
  | x :: r => if x.N = s then 0 else idx s r + 1
theorem idx_at {s : ByteArray} {l : List It} {i : Nat} (hi : i < l.length) (h : ∀ j (h : j < l.length), j < i → l[j].N ≠ s) (he : l[i].N = s) : idx s l = i := by
  induction l generalizing i with
  | nil => simp at hi
  | cons x r ih =>
    cases i with
    | zero => unfold idx; rw [if_pos (by simpa using he)]
    | succ k =>
      have h0 := h 0 (by simp) (by omega)
      unfold idx
      rw [if_neg (by simpa using h0), ih (by simpa using hi) (fun j hj hk => h (j + 1) (by simp; omega) (by omega)) (by simpa using he)]
theorem idx_no {s : ByteArray} {l : List It} (h : ∀ j (h : j < l.length), l[j].N ≠ s) : idx s l = l.length := by
  induction l with
  | nil => rfl
  | cons x r ih =>
    have h0 := h 0 (by simp)
    unfold idx
    rw [if_neg (by simpa using h0), ih (fun j hj => h (j + 1) (by simp; omega)), List.length_cons]
set_option maxRecDepth 100000 in
set_option maxHeartbeats 2000000 in
theorem index_any (I : List It) (s : ByteArray) (bs : Nat) (v : Value) (w : World) (r : Rd encIt w v I) (V : VBlk w bs 9 [.string s]) (hl : I.length ≤ 1048576) :
    Calls Tryz.prog 127 #[v, .func (.func 120) #[] #[.pointer (some ⟨bs, 0, none⟩)]] w fun e w' => e = .returned (.int .i64 (if idx s I < I.length then (idx s I : Int) else -1)) ∧ Below w.heap.size w w' := by
  obtain ⟨a, cap, rfl⟩ := r.form
  have R : Hid (Rd encIt w (.slice a I.length cap) I) := r
  have VV : Hid (VBlk w bs 9 [.string s]) := V
  clear r V
  obtain ⟨z, hz⟩ := hid_ex (if idx s I < I.length then (idx s I : Int) else -1)
  rw [hz.out]
  have hcf : ∀ args w, (callFunc 120 args).run Tryz.prog w = .ok (.enter 120 args) w := by intro args w; kernel_rfl
  go_enter Tryz.func127, Tryz.ntmps127
  go_wp2
  go_loopw [8, 5] (fun p u wr => ∃ i : Nat, i ≤ I.length ∧ p = .int .i64 i ∧ Hid (∀ j (h : j < I.length), j < i → I[j].N ≠ s) ∧ Hid (Below w.heap.size w wr)) (fun p _ _ => I.length - (intOf p).toNat)
  case atStart => exact ⟨0, by omega, rfl, (fun j h hj => by omega), Below.refl _ _⟩
  case round =>
    obtain ⟨i, hi1, rfl, hno, hBr⟩ := hrel
    by_cases hlt : i < I.length
    · obtain ⟨b, off, eA, hbk, rg⟩ := rd_item rfl rfl (R.out.grow hBr.out) i hlt
      subst eA
      have hlt' : (i : Int) < (I.length : Int) := by omega
      have Vr := vblk_grow VV.out hBr.out
      by_cases he : I[i].N = s
      · have ez : z = (i : Int) := by rw [← hz.out, idx_at hlt hno.out he, if_pos hlt]
        subst ez
        obtain ⟨x, hx⟩ := hid_ex (I[i])
        rw [hx.out] at rg he
        obtain ⟨N, F, B, C, U⟩ := x
        have hY : Hid ((N.toList == s.toList) = true) := by unfold Hid; dsimp only at he; rw [he]; simp
        clear he
        go_wp2_with (first | (refine wpList_load_r rfl 56 _ rfl b (off + i * 5) [.string N, .int .i64 F, .string B, .int .i64 C, .int .i64 U] rfl _ Tryz.underlying56 rfl sizeIt rg ?_) | (go_at_call 120; refine (wo1_any N B s F C U bs true hY _ Vr).mono ?_; rintro e w3 ⟨rfl, hB3⟩) | (fail))
        go_ret
        exact ⟨rfl, hBr.out.trans (hB3.mono hBr.out.size)⟩
      · have hno2 : Hid (∀ j (h : j < I.length), j < i + 1 → I[j].N ≠ s) := fun j h hj => by
          by_cases q : j = i
          · subst q; exact he
          · exact hno.out j h (by omega)
        obtain ⟨x, hx⟩ := hid_ex (I[i])
        rw [hx.out] at rg he
        obtain ⟨N, F, B, C, U⟩ := x
        have hY : Hid ((N.toList == s.toList) = false) := by unfold Hid; dsimp only at he; simpa using fun e => he (str_eq e)
        clear he
        go_wp2_with (first | (refine wpList_load_r rfl 56 _ rfl b (off + i * 5) [.string N, .int .i64 F, .string B, .int .i64 C, .int .i64 U] rfl _ Tryz.underlying56 rfl sizeIt rg ?_) | (go_at_call 120; refine (wo1_any N B s F C U bs false hY _ Vr).mono ?_; rintro e w3 ⟨rfl, hB3⟩) | (fail))
        go_roundw
        case rel => exact ⟨i + 1, by omega, by go_num, hno2, hBr.out.trans (hB3.mono hBr.out.size)⟩
        case measure => simp [intOf]; omega
    · have hlt' : ¬ (i : Int) < (I.length : Int) := by omega
      have ez : z = -1 := by rw [← hz.out, idx_no (fun j h => hno.out j h (by omega)), if_neg (Nat.lt_irrefl _)]
      subst ez
      go_wp2
      go_ret
      exact ⟨rfl, hBr.out⟩
end Go.Proofs.YtjkkjpgebcnhgaaGreatDoor.rg
/- slices.DeleteFunc with the closure of withoutItem; withoutItem. -/
namespace Go.Proofs.YtjkkjpgebcnhgaaGreatDoor.rg
open Go.ChangeShapes Go.WideShapes Go.ChangeAt Go.RowKit
open Go.Deep Go.Joins
open Go.Proofs.YtjkkjpgebcnhgaaGreatDoor.ce Go.Proofs.YtjkkjpgebcnhgaaGreatDoor.ro
set_option linter.unusedVariables false

theorem idx_in {s : ByteArray} {l : List It} (h : idx s l < l.length) : l[idx s l].N = s := by
  induction l with
  | nil => simp at h
  | cons x r ih =>
    by_cases e : x.N = s
    · have e0 : idx s (x :: r) = 0 := by unfold idx; rw [if_pos e]
      simp [e0, e]
    · have e0 : idx s (x :: r) = idx s r + 1 := by conv => lhs; unfold idx; rw [if_neg e]
      rw [e0] at h
      simp only [e0, List.getElem_cons_succ]
      exact ih (by simpa using h)
theorem idx_none {s : ByteArray} {l : List It} (h : ¬ idx s l < l.length) : ∀ x ∈ l, x.N ≠ s := fun x hx => by
  induction l with
  | nil => simp at hx
  | cons y r ih =>
    have hy : y.N ≠ s := fun e => h (by unfold idx; rw [if_pos e]; simp)
    have e0 : idx s (y :: r) = idx s r + 1 := by conv => lhs; unfold idx; rw [if_neg hy]
    rcases List.mem_cons.1 hx with rfl | hx
    · exact hy
    · exact ih (by rw [e0] at h; simpa using h) hx
/-- one is gone, the others as far as they have been moved -/
def mvd (I : List It) (k p : Nat) : List It := (I.take k ++ I.drop (k + 1)).take p ++ I.drop p
theorem mvd_start (I : List It) {k : Nat} (hk : k < I.length) : mvd I k k = I := by
  unfold mvd
  rw [List.take_append_of_le_length (by rw [List.length_take]; omega), List.take_take, Nat.min_self, List.take_append_drop]
theorem mvd_len (I : List It) {k p : Nat} (hk : k < I.length) (hp : p < I.length) : (mvd I k p).length = I.length := by
  unfold mvd
  simp only [List.length_append, List.length_take, List.length_drop]
  omega
theorem mvd_at (I : List It) {k p j : Nat} (hk : k < I.length) (hp : p < j) (hj : j < I.length) (h : j < (mvd I k p).length) : (mvd I k p)[j] = I[j] := by
  have hl : ((I.take k ++ I.drop (k + 1)).take p).length = p := by simp only [List.length_append, List.length_take, List.length_drop]; omega
  apply Option.some.inj
  rw [← List.getElem?_eq_getElem h, ← List.getElem?_eq_getElem hj]
  unfold mvd
  rw [List.getElem?_append_right (by omega), hl, List.getElem?_drop]
  congr 1
  omega
theorem mvd_step (I : List It) {k p : Nat} (hk : k < I.length) (hkp : k ≤ p) (hp : p + 1 < I.length) : (mvd I k p).set p I[p + 1] = mvd I k (p + 1) := by
  have hl : ((I.take k ++ I.drop (k + 1)).take p).length = p := by simp only [List.length_append, List.length_take, List.length_drop]; omega
  have hD : p < (I.take k ++ I.drop (k + 1)).length := by simp only [List.length_append, List.length_take, List.length_drop]; omega
  have e1 : (I.take k ++ I.drop (k + 1))[p] = I[p + 1] := by
    have ht : (I.take k).length = k := by rw [List.length_take]; omega
    rw [List.getElem_append_right (by omega)]
    simp only [ht, List.getElem_drop]
    congr 1
    omega
  unfold mvd
  rw [List.set_append_right _ _ (by omega), hl, Nat.sub_self, List.drop_eq_getElem_cons (show p < I.length by omega), List.set_cons_zero, List.take_succ_eq_append_getElem hD, e1, List.append_assoc]
  rfl
theorem mvd_end (I : List It) {k p : Nat} (hk : k < I.length) (hp : p + 1 = I.length) : (mvd I k p).take p = I.take k ++ I.drop (k + 1) := by
  have hl : (I.take k ++ I.drop (k + 1)).length = p := by simp only [List.length_append, List.length_take, List.length_drop]; omega
  unfold mvd
  rw [List.take_append_of_le_length (by rw [List.length_take, hl]; omega), List.take_take, Nat.min_self, List.take_of_length_le (by omega)]
/-- the cells of a thing are cleared -/
theorem run_clear_it (w : World) (ty : TypeId) (b o c : Nat) (hc : ∀ j, j < 5 → (w.cell? ⟨b, o + j, none⟩).isSome = true) (hf : ∀ j, w.frozen? ⟨b, j, none⟩ = false) :
    (Builtin.clear_ #[29] ty #[.slice (some ⟨b, o, none⟩) 1 c]).run Tryz.prog w = .ok (.tuple #[]) (w.setCells b o (encIt.row [⟨⟨#[]⟩, 0, ⟨#[]⟩, 0, 0⟩])) := by
  have hzc : (Builtin.zeroCells (Value.agg #[.string ⟨#[]⟩, .int .i64 0, .string ⟨#[]⟩, .int .i64 0, .int .i64 0]).cells 1).toList = [.string ⟨#[]⟩, .int .i64 0, .string ⟨#[]⟩, .int .i64 0, .int .i64 0] := by
    simp [Builtin.zeroCells, Value.cells, List.range_succ]
  have hst := run_storeCells_cells (P := Tryz.prog) b o [.string ⟨#[]⟩, .int .i64 0, .string ⟨#[]⟩, .int .i64 0, .int .i64 0] 0 w (by simpa using hc) (by intro j hj; exact hf _) (by intro v hv; simp at hv; rcases hv with rfl | rfl | rfl | rfl | rfl <;> rfl)
  simp only [Nat.add_zero] at hst
  simp [Builtin.clear_, run_underlying Tryz.underlying29, hzc, hst]
  rfl
theorem own_apart {w w' : World} {lo hi b : Nat} {v : Value} {xs : List It} (o : Own encIt w lo hi v xs) (h : Only b w w') (hb : hi ≤ b) : Own encIt w' lo hi v xs := o.below (h.2.2 b (Nat.le_refl _)) hb
set_option maxRecDepth 100000 in
set_option maxHeartbeats 4000000 in
theorem delete_any (I : List It) (s : ByteArray) (bs lo : Nat) (v : Value) (w : World) (o : Own encIt w lo w.heap.size v I) (V : VBlk w bs 9 [.string s]) (hlo : lo ≤ w.heap.size) (hS : Srt I) (hl : I.length ≤ 1048576) :
    Calls Tryz.prog 119 #[v, .func (.func 120) #[] #[.pointer (some ⟨bs, 0, none⟩)]] w fun e w' => ∃ v', e = .returned v' ∧ Own encIt w' lo w'.heap.size v' (dropL I s) ∧ Ty lo 56 w w' := by
  have HS : Hid (Srt I) := hS
  have VV : Hid (VBlk w bs 9 [.string s]) := V
  have O : Hid (Own encIt w lo w.heap.size v I) := o
  clear hS V
  have hcf : ∀ args w, (callFunc 120 args).run Tryz.prog w = .ok (.enter 120 args) w := by intro args w; kernel_rfl
  by_cases hk : idx s I < I.length
  · have hdr : dropL I s = I.take (idx s I) ++ I.drop (idx s I + 1) := by
      have := drop_at HS.out hk
      rw [idx_in hk] at this
      exact this
    have hns : Hid (∀ j (h : j < I.length), idx s I < j → I[j].N ≠ s) := fun j h hj e => by
      have h1 := idx_in hk
      exact ltS_ne (List.pairwise_iff_getElem.1 HS.out _ _ hk h hj) (h1.trans e.symm)
    obtain ⟨k, hkk⟩ := hid_ex (idx s I)
    rw [hkk.out] at hdr hns hk
    obtain ⟨g, cap, rfl, hg1, hg2, -⟩ := o.form (by omega)
    obtain ⟨hnc, hcap, hmx⟩ := o.rd.cap
    obtain ⟨n, hn⟩ := hid_ex I.length
    have O2 : Hid (Own encIt w lo w.heap.size (.slice (some ⟨g, 0, none⟩) n cap) I) := by rw [← hn.out]; exact O.out
    rw [hn.out]
    rw [hn.out] at hk hcap hl
    rw [hdr]
    clear o O hnc
    have hne : ((k : Int) == -1) = false := by first | (simp; done) | (simp; omega)
    have ew : IntKind.i64.wrap ((k : Int) + 1) = ((k + 1 : Nat) : Int) := by rw [IntKind.wrap_i64]; omega
    go_enter Tryz.func119, Tryz.ntmps119
    go_wp2_with (first | (go_at_call 127; refine (index_any I s bs _ w O2.out.rd VV.out (by rw [hn.out]; exact hl)).mono ?_; rintro e w1 ⟨rfl, hB1⟩; rw [hkk.out, hn.out, if_pos hk]; have hz1 := hB1.size) | (fail))
    have O3 : Hid (Own encIt w1 lo w.heap.size (.slice (some ⟨g, 0, none⟩) n cap) I) := O2.out.grow hB1
    have V3 : Hid (VBlk w1 bs 9 [.string s]) := vblk_grow VV.out hB1
    have T3 : Hid (Ty lo 56 w w1) := Ty.of_below hB1 (by omega)
    clear hB1
    go_loopw [5, 6] (fun s5 s6 wr => ∃ p j : Nat, s5 = .int .i64 p ∧ s6 = .int .i64 j ∧ Hid (j = p + 1) ∧ k ≤ p ∧ p < n ∧ j ≤ n ∧ Hid (Own encIt wr lo w.heap.size (.slice (some ⟨g, 0, none⟩) n cap) (mvd I k p)) ∧ Hid (Ty lo 56 w wr) ∧ w.heap.size ≤ wr.heap.size) (fun _ s6 _ => n - (intOf s6).toNat)
    case atStart => exact ⟨k, k + 1, rfl, rfl, rfl, Nat.le_refl _, hk, hk, by rw [mvd_start I (by rw [hn.out]; exact hk)]; exact O3.out, T3, hz1⟩
    case round =>
      obtain ⟨p, j, rfl, rfl, hj, hkp, hpn, hjn, hO, hT, hz⟩ := hrel
      by_cases hlt : j < n
      · have hjp := hj.out
        have hml : Hid ((mvd I k p).length = n) := by unfold Hid; rw [mvd_len I (by rw [hn.out]; omega) (by rw [hn.out]; omega)]; exact hn.out
        have hjl : j < (mvd I k p).length := by rw [hml.out]; exact hlt
        obtain ⟨b, off, eA, hbk, rg⟩ := rd_item rfl rfl hO.out.rd j hjl
        obtain ⟨rfl, rfl⟩ : b = g ∧ off = 0 := by cases eA; exact ⟨rfl, rfl⟩
        have hlt' : (j : Int) < (n : Int) := by omega
        have hpn' : (p : Int) < (n : Int) := by omega
        rw [mvd_at I (by rw [hn.out]; omega) (by omega) (by rw [hn.out]; exact hlt)] at rg
        have hN := hns.out j (by rw [hn.out]; exact hlt) (by omega)
        have hst : Hid ((mvd I k p).set p (I[j]'(by rw [hn.out]; exact hlt)) = mvd I k (p + 1)) := by
          have := mvd_step I (k := k) (p := p) (by rw [hn.out]; omega) hkp (by rw [hn.out]; omega)
          subst hjp
          exact this
        obtain ⟨x, hx⟩ := hid_ex (I[j]'(by rw [hn.out]; exact hlt))
        rw [hx.out] at rg hN hst
        obtain ⟨N, F, B, C, U⟩ := x
        have hY : Hid ((N.toList == s.toList) = false) := by unfold Hid; simpa using fun e => hN (str_eq e)
        have Vr := hT.out.vblk VV.out (by decide)
        have ep : IntKind.i64.wrap ((p : Int) + 1) = (j : Int) := by rw [IntKind.wrap_i64]; omega
        have RG : Hid (wr.rangeAt b (0 + j * 5) [.string N, .int .i64 F, .string B, .int .i64 C, .int .i64 U]) := rg
        have m1 : Hid True := trivial
        have m2 : Hid True := trivial
        have m3 : Hid True := trivial
        clear hjp hN eA rg hx
        rw [Nat.zero_add] at RG
        go_wp2_with (first
          | (clear m1; refine wpList_load_r rfl 56 _ rfl b (j * 5) [.string N, .int .i64 F, .string B, .int .i64 C, .int .i64 U] rfl _ Tryz.underlying56 rfl sizeIt RG.out ?_)
          | (refine wpList_alloc_v rfl 56 rfl _ zeroIt ?_; intro b7 w2 hb7 hw7 hB2 V7; have O4 := hO.out.grow hB2; have Vr2 := vblk_grow Vr hB2; have hz2 := hB2.size)
          | (clear m2; refine wpList_store_v rfl 56 _ _ rfl b7 [.string N, .int .i64 F, .string B, .int .i64 C, .int .i64 U] rfl rfl sizeIt V7 rfl (ic_one ⟨N, F, B, C, U⟩) ?_; intro w3 hO3 V73; have O5 := own_apart O4 hO3 (by omega); have Vr3 := vblk_only Vr2 hO3 (by have := Vr.lt; omega); have hz3 := Nat.le_of_eq hO3.1.symm; have hy3 := Nat.le_of_eq hO3.1)
          | (clear m3; refine wpList_load_r rfl 56 _ rfl b7 0 [.string N, .int .i64 F, .string B, .int .i64 C, .int .i64 U] rfl _ Tryz.underlying56 rfl sizeIt V73.range ?_)
          | (go_at_call 120; refine (wo1_any N B s F C U bs false hY _ Vr3).mono ?_; rintro e w4 ⟨rfl, hB4⟩; have O6 := O5.grow hB4; have V74 := vblk_grow V73 hB4; have hz4 := hB4.size)
          | (refine wpList_load_r rfl 56 _ rfl b7 0 [.string N, .int .i64 F, .string B, .int .i64 C, .int .i64 U] rfl _ Tryz.underlying56 rfl sizeIt V74.range ?_)
          | (refine wpList_store_e (E := encIt) sizeIt rfl _ _ rfl lo w.heap.size b n cap p (p * 5) _ ⟨N, F, B, C, U⟩ rfl rfl rfl O6 (by rw [hml.out]; exact hpn) ?_; intro w5 hO5 O7; rw [hst.out] at O7)
          | (fail))
        go_roundw
        case measure => simp [intOf]; omega
        case rel =>
          have hE : (mvd I k p) ≠ [] := fun e => by have := hml.out; rw [e] at this; simp at this; omega
          have T5 : Ty lo 56 wr w5 := ((Ty.of_below (hB2.trans ((hO3.2.2 _ (by omega)).trans (hB4.mono (by omega)))) (by omega)).trans ((O6.at hE).1.ty (O6.at hE).2.1 hO5))
          have hjo := hj.out
          rw [← hjo] at O7
          exact ⟨j, j + 1, by first | rfl | go_num, by go_num, rfl, by omega, hlt, by omega, O7, hT.out.trans T5, by have := hO5.1; omega⟩
      · have hlt' : ¬ (j : Int) < (n : Int) := by omega
        have hpe : Hid (p + 1 = n) := by unfold Hid; have := hj.out; omega
        have hml : Hid ((mvd I k p).length = n) := by unfold Hid; rw [mvd_len I (by rw [hn.out]; omega) (by rw [hn.out]; omega)]; exact hn.out
        have hE : Hid (mvd I k p ≠ []) := fun e => by have := hml.out; rw [e] at this; simp at this; omega
        obtain ⟨r0, hg3, hg4⟩ := hO.out.at hE.out
        obtain ⟨h1, h2, -⟩ := r0.there
        have hpc : p < cap := by omega
        have h3 : ∀ q, q < 5 → (wr.cell? ⟨g, p * 5 + q, none⟩).isSome = true := fun q hq => h1 _ (by show _ < cap * 5; omega)
        obtain ⟨W2, hW2⟩ : ∃ W2, Hid (wr.setCells g (p * 5) (encIt.row [⟨⟨#[]⟩, 0, ⟨#[]⟩, 0, 0⟩]) = W2) := ⟨_, rfl⟩
        have hclr : ∀ ty, (Builtin.clear_ #[29] ty #[.slice (some ⟨g, p * 5, none⟩) 1 (cap - p)]).run Tryz.prog wr = .ok (.tuple #[]) W2 := fun ty => by
          rw [← hW2.out]
          exact run_clear_it wr ty g (p * 5) (cap - p) h3 h2
        have O8 := r0.write p (by rw [hml.out]; omega) [⟨⟨#[]⟩, 0, ⟨#[]⟩, 0, 0⟩] (by simp; omega)
        have T8 := r0.ty hg3 (only_setCells wr g (encIt.row [⟨⟨#[]⟩, 0, ⟨#[]⟩, 0, 0⟩]) (p * 5))
        have O9 := O8.cut p
        rw [List.append_assoc, List.take_append_of_le_length (by rw [List.length_take, hml.out]; omega), List.take_take, Nat.min_self, mvd_end I (by rw [hn.out]; omega) (by rw [hn.out]; exact hpe.out)] at O9
        have hlD : p = (I.take k ++ I.drop (k + 1)).length := by simp only [List.length_append, List.length_take, List.length_drop]; rw [hn.out]; have := hpe.out; omega
        have O10 : Hid (Own encIt W2 lo w.heap.size (.slice (some ⟨g, 0, none⟩) p cap) (I.take k ++ I.drop (k + 1))) := by rw [← hW2.out]; exact O9.own hg3 hg4 hlD
        have T10 : Hid (Ty lo 56 wr W2) := by rw [← hW2.out]; exact T8
        have hz10 : W2.heap.size = wr.heap.size := by rw [← hW2.out]; exact (only_setCells wr g _ _).1
        have e1 : ¬ cap = p := by omega
        have e2 : n - p = 1 := by have := hpe.out; omega
        have e3 : (p : Int) ≤ (n : Int) := by omega
        have e4 : (p : Int) ≤ (cap : Int) := by omega
        have HZ : Hid (W2.heap.size = wr.heap.size) := hz10
        clear h1 h2 h3 O8 T8 O9 hz10 r0 hlD
        go_wp2
        go_ret
        exact ⟨_, rfl, O10.out.wide (Nat.le_refl _) (by rw [HZ.out]; exact hz), hT.out.trans T10.out⟩
  · have hdr : dropL I s = I := drop_no (idx_none hk)
    rw [hdr]
    obtain ⟨a, cap, rfl⟩ := o.rd.form
    clear o hdr
    go_enter Tryz.func119, Tryz.ntmps119
    go_wp2_with (first | (go_at_call 127; refine (index_any I s bs _ w O.out.rd VV.out hl).mono ?_; rintro e w1 ⟨rfl, hB1⟩; rw [if_neg hk]) | (fail))
    go_ret
    exact ⟨_, rfl, (O.out.grow hB1).top, Ty.of_below hB1 hlo⟩
end Go.Proofs.YtjkkjpgebcnhgaaGreatDoor.rg
/- strings.Compare; the closure that withItem hands on. -/
namespace Go.Proofs.YtjkkjpgebcnhgaaGreatDoor.rg
open Go.ChangeShapes Go.WideShapes Go.ChangeAt Go.RowKit
open Go.Deep Go.Joins
open Go.Proofs.YtjkkjpgebcnhgaaGreatDoor.ce Go.Proofs.YtjkkjpgebcnhgaaGreatDoor.ro
set_option linter.unusedVariables false

def cmpS (a b : ByteArray) : Int := Lib.compareBytes a.data.toList b.data.toList
set_option maxRecDepth 100000 in
theorem cmpString_any (a b : ByteArray) (w : World) : Calls Tryz.prog 121 #[.string a, .string b] w fun e w' => e = .returned (.int .i64 (cmpS a b)) ∧ w' = w := by
  unfold cmpS
  go_enter Tryz.func121, Tryz.ntmps121
  go_wp2
  rw [run_callFunc_extern Tryz.func128 (by kernel_rfl) (by kernel_rfl) (by kernel_rfl) (e := Extern.BytealgCompare.compare) (by kernel_rfl), Lib.run_compareString]
  simp only [Result.andThen]
  rw [Oper.upon_value]
  go_wp2
  go_ret
  exact ⟨rfl, rfl⟩
theorem compare_any (a b : ByteArray) (w : World) : Calls Tryz.prog 105 #[.string a, .string b] w fun e w' => e = .returned (.int .i64 (cmpS a b)) ∧ w' = w := by
  go_enter Tryz.func105, Tryz.ntmps105
  go_wp2_with (first | (go_at_call 121; refine (cmpString_any _ _ _).mono ?_; rintro e wq ⟨rfl, hq⟩; subst wq) | (fail))
  go_ret
  exact ⟨rfl, rfl⟩
theorem wi1_any (N B s : ByteArray) (F C U : Int) (w : World) : Calls Tryz.prog 104 #[.agg #[.string N, .int .i64 F, .string B, .int .i64 C, .int .i64 U], .string s] w fun e w' => e = .returned (.int .i64 (cmpS N s)) ∧ Below w.heap.size w w' := by
  go_enter Tryz.func104, Tryz.ntmps104
  go_wp2_with (first | (refine wpList_box_v rfl 56 _ rfl [.string N, .int .i64 F, .string B, .int .i64 C, .int .i64 U] rfl ?_; intro b2 w1 hb2 hw2 hB1 V1; obtain ⟨c0, c1, c2, c3, c4⟩ := cells5 V1) | (go_at_call 105; refine (compare_any _ _ _).mono ?_; rintro e wq ⟨rfl, hq⟩; subst wq) | (fail))
  go_ret
  exact ⟨rfl, hB1⟩
theorem cmp_less : ∀ l m : List UInt8, Lib.compareBytes l m < 0 ↔ Op.bytesLess l m = true
  | [], [] => by simp [Lib.compareBytes, Op.bytesLess]
  | [], _ :: _ => by simp [Lib.compareBytes, Op.bytesLess]
  | _ :: _, [] => by simp [Lib.compareBytes, Op.bytesLess]
  | a :: l, b :: m => by
    have ih := cmp_less l m
    unfold Lib.compareBytes Op.bytesLess
    by_cases h1 : a < b
    · simp [h1]
    · by_cases h2 : b < a
      · simp [h1, h2]
        try (intro e; exact absurd (e ▸ h2) (by simp))
      · have e : a = b := by
          have h1' := UInt8.not_lt.1 h1
          have h2' := UInt8.not_lt.1 h2
          exact UInt8.le_antisymm h2' h1'
        subst e
        simpa using ih
end Go.Proofs.YtjkkjpgebcnhgaaGreatDoor.rg
