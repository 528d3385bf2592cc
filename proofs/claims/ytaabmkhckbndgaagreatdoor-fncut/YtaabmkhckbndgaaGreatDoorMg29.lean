/- Texts laid together: Gd1 Ix0 Io1 Io2. -/
import Derived.Test.YtaabmkhckbndgaaGreatDoorMg00
import Derived.Test.YtaabmkhckbndgaaGreatDoorMg28
import Derived.BigQuiet
/- While a record is drawn: the cursor, the answer's variable and the record's own, whatever the record is. -/
namespace Go.Proofs.YtaabmkhckbndgaaGreatDoor.rg
open Go.ChangeShapes Go.WideShapes Go.ChangeAt Go.RowKit
open Go.Proofs.YtaabmkhckbndgaaGreatDoor.ce Go.Proofs.YtaabmkhckbndgaaGreatDoor.ro Go.Proofs.YtaabmkhckbndgaaGreatDoor.draw
set_option linter.unusedVariables false

/-- the cursor alone -/
structure Gt (w : World) (p : Nat) (a0 : Option Addr) (len cap : Nat) (wr : World) : Prop where
  hp : p < w.heap.size
  cur : Cur wr p a0 len cap
  gb : w.grownBy wr (some p)
/-- the cursor in p, the answer's variable in b -/
structure D0 (T : TypeId) (zs : List Value) (w : World) (p : Nat) (a0 : Option Addr) (len cap b : Nat) (wr : World) : Prop where
  t : Gt w p a0 len cap wr
  lob : w.heap.size ≤ b
  vb : VBlk wr b T zs
/-- the record in g besides -/
structure Dv (T : TypeId) (zs : List Value) (w : World) (p : Nat) (a0 : Option Addr) (len cap b g : Nat) (vs : List Value) (wr : World) : Prop where
  o : D0 T zs w p a0 len cap b wr
  lt : b < g
  vg : VBlk wr g T vs
section
variable {T : TypeId} {zs vs vs' : List Value} {w : World} {p : Nat} {a0 : Option Addr} {len cap b g : Nat} {wr w' : World}
theorem gt_new (hc : Cur w p a0 len cap) : Gt w p a0 len cap w := ⟨hc.1, hc, World.grownBy.refl _ _⟩
theorem Gt.went (D : Gt w p a0 len cap wr) (hc : Cur w' p a0 len cap) (hg : wr.grownBy w' (some p)) : Gt w p a0 len cap w' := ⟨D.hp, hc, gb_trans D.gb hg⟩
theorem Gt.then (D : Gt w p a0 len cap wr) (h : Gt wr p a0 len cap w') : Gt w p a0 len cap w' := D.went h.cur h.gb
theorem Gt.grow (D : Gt w p a0 len cap wr) (hB : Below wr.heap.size wr w') : Gt w p a0 len cap w' := ⟨D.hp, cur_below D.cur hB D.cur.1, gb_below D.gb hB D.gb.size⟩
/-- what is turned is new since w -/
theorem Gt.base (D : Gt w p a0 len cap wr) (hB : Below w.heap.size wr w') : Gt w p a0 len cap w' := ⟨D.hp, cur_below D.cur hB D.hp, gb_below D.gb hB (Nat.le_refl _)⟩
theorem Gt.size (D : Gt w p a0 len cap wr) : w.heap.size ≤ wr.heap.size := D.gb.size
theorem Gt.drew (D : Gt w p a0 len cap wr) : Gt w p a0 len cap wr.drew := D.grow (Below.refl _ _).drew
theorem d0_new (hc : Cur w p a0 len cap) (hB : Below w.heap.size w w') (hl : w.heap.size ≤ b) (hv : VBlk w' b T zs) : D0 T zs w p a0 len cap b w' := ⟨(gt_new hc).grow hB, hl, hv⟩
theorem D0.went (D : D0 T zs w p a0 len cap b wr) (hc : Cur w' p a0 len cap) (hg : wr.grownBy w' (some p)) : D0 T zs w p a0 len cap b w' := by
  have hp := D.t.hp
  have h1 := D.lob
  exact ⟨D.t.went hc hg, D.lob, D.vb.of (hg.block b D.vb.lt (fun e => by cases e; omega))⟩
theorem D0.then (D : D0 T zs w p a0 len cap b wr) (h : Gt wr p a0 len cap w') : D0 T zs w p a0 len cap b w' := D.went h.cur h.gb
theorem D0.grow (D : D0 T zs w p a0 len cap b wr) (hB : Below wr.heap.size wr w') : D0 T zs w p a0 len cap b w' := ⟨D.t.grow hB, D.lob, vblk_grow D.vb hB⟩
theorem D0.dv (D : D0 T zs w p a0 len cap b wr) (hg : wr.heap.size ≤ g) (hO : Only g wr w') (vg : VBlk w' g T vs) : Dv T zs w p a0 len cap b g vs w' := by
  have := D.vb.lt
  exact ⟨⟨D.t.grow (hO.2.2 _ hg), D.lob, D.vb.of (hO.2.1 b (by omega))⟩, by omega, vg⟩
/-- the record's variable is laid, and then filled -/
theorem D0.dv2 {w1 : World} (D : D0 T zs w p a0 len cap b wr) (hg : wr.heap.size ≤ g) (hB : Below wr.heap.size wr w1) (hO : Only g w1 w') (vg : VBlk w' g T vs) : Dv T zs w p a0 len cap b g vs w' := by
  have h1 := D.vb.lt
  have D1 := D.grow hB
  exact ⟨⟨D1.t.base (hO.2.2 _ (Nat.le_trans D.t.size hg)), D.lob, D1.vb.of (hO.2.1 b (by omega))⟩, by omega, vg⟩
theorem D0.got (D : D0 T zs w p a0 len cap b wr) (hO : Only b wr w') : Gt w p a0 len cap w' := D.t.base (hO.2.2 w.heap.size D.lob)
theorem Dv.went (D : Dv T zs w p a0 len cap b g vs wr) (hc : Cur w' p a0 len cap) (hg : wr.grownBy w' (some p)) : Dv T zs w p a0 len cap b g vs w' := by
  have hp := D.o.t.hp
  have h1 := D.o.lob
  have h2 := D.lt
  exact ⟨D.o.went hc hg, D.lt, D.vg.of (hg.block g D.vg.lt (fun e => by cases e; omega))⟩
theorem Dv.then (D : Dv T zs w p a0 len cap b g vs wr) (h : Gt wr p a0 len cap w') : Dv T zs w p a0 len cap b g vs w' := D.went h.cur h.gb
theorem Dv.grow (D : Dv T zs w p a0 len cap b g vs wr) (hB : Below wr.heap.size wr w') : Dv T zs w p a0 len cap b g vs w' := ⟨D.o.grow hB, D.lt, vblk_grow D.vg hB⟩
/-- the record is written -/
theorem Dv.put (D : Dv T zs w p a0 len cap b g vs wr) (hO : Only g wr w') (vg : VBlk w' g T vs') : Dv T zs w p a0 len cap b g vs' w' := by
  have h1 := D.o.lob
  have h2 := D.lt
  exact ⟨⟨D.o.t.base (hO.2.2 _ (by omega)), D.o.lob, D.o.vb.of (hO.2.1 b (by omega))⟩, D.lt, vg⟩
theorem Dv.set (D : Dv T zs w p a0 len cap b g vs wr) (j : Nat) (u : Value) (h : vs.set j u = vs') : Dv T zs w p a0 len cap b g vs' (wr.setCell ⟨g, j, none⟩ u) := D.put (only_set wr g j u) (h ▸ D.vg.set j u)
theorem Dv.got (D : Dv T zs w p a0 len cap b g vs wr) (hO : Only b wr w') : Gt w p a0 len cap w' := D.o.got hO
theorem Dv.gt (D : Dv T zs w p a0 len cap b g vs wr) : Gt w p a0 len cap wr := D.o.t
end
end Go.Proofs.YtaabmkhckbndgaaGreatDoor.rg
/- Mathematics of things and books of things, no Go in sight. -/
namespace Go.Proofs.YtaabmkhckbndgaaGreatDoor.rg
open Go.RowKit
set_option linter.unusedVariables false

/-! ### texts in their order -/
theorem less_irrefl : ∀ x : List UInt8, Op.bytesLess x x = false
  | [] => rfl
  | a :: x => by
    have := less_irrefl x
    simp [Op.bytesLess, this]
theorem less_trans : ∀ x y z : List UInt8, Op.bytesLess x y = true → Op.bytesLess y z = true → Op.bytesLess x z = true
  | [], [], z, h, _ => by simp [Op.bytesLess] at h
  | a :: x, [], z, h, _ => by simp [Op.bytesLess] at h
  | x, b :: y, [], _, h => by simp [Op.bytesLess] at h
  | [], b :: y, c :: z, _, _ => by simp [Op.bytesLess]
  | a :: x, b :: y, c :: z, h1, h2 => by
    simp only [Op.bytesLess, Bool.or_eq_true, Bool.and_eq_true, decide_eq_true_eq, beq_iff_eq] at h1 h2 ⊢
    rcases h1 with h1 | ⟨rfl, h1⟩
    · rcases h2 with h2 | ⟨rfl, h2⟩
      · exact .inl (UInt8.lt_trans h1 h2)
      · exact .inl h1
    · rcases h2 with h2 | ⟨rfl, h2⟩
      · exact .inl h2
      · exact .inr ⟨rfl, less_trans x y z h1 h2⟩
/-- one text stands ahead of another -/
def ltS (a b : ByteArray) : Bool := Op.bytesLess a.toList b.toList
theorem ltS_irrefl (a : ByteArray) : ltS a a = false := less_irrefl _
theorem ltS_trans {a b c : ByteArray} (h : ltS a b = true) (k : ltS b c = true) : ltS a c = true := less_trans _ _ _ h k
theorem ltS_ne {a b : ByteArray} (h : ltS a b = true) : a ≠ b := fun e => by rw [e, ltS_irrefl] at h; cases h

/-- a thing -/
structure It where
  N : ByteArray
  F : Int
  B : ByteArray
  C : Int
  U : Int
def It.zero : It := ⟨⟨#[]⟩, 0, ⟨#[]⟩, 0, 0⟩
def itemB (i : It) : Bool := nameB i.N && (decide (0 ≤ i.F) && decide (i.F ≤ 65535)) && decide ((i.B.size : Int) ≤ 64) && (decide (1 ≤ i.C) && decide (i.C ≤ 1000000)) && (decide (0 ≤ i.U) && decide (i.U ≤ 1000000))
structure IOk (i : It) : Prop where
  nm : nameB i.N = true
  f0 : 0 ≤ i.F
  f1 : i.F ≤ 65535
  b1 : i.B.size ≤ 64
  c0 : 1 ≤ i.C
  c1 : i.C ≤ 1000000
  u0 : 0 ≤ i.U
  u1 : i.U ≤ 1000000
theorem itemB_iff {i : It} : itemB i = true ↔ IOk i := by
  simp only [itemB, Bool.and_eq_true, decide_eq_true_eq]
  exact ⟨fun ⟨⟨⟨⟨h1, h2, h3⟩, h4⟩, h5, h6⟩, h7, h8⟩ => ⟨h1, h2, h3, by omega, h5, h6, h7, h8⟩, fun ⟨h1, h2, h3, h4, h5, h6, h7, h8⟩ => ⟨⟨⟨⟨h1, h2, h3⟩, by omega⟩, h5, h6⟩, h7, h8⟩⟩
def wt (i : It) : Nat := i.N.size + i.B.size + 8
theorem wt_le {i : It} (h : IOk i) : wt i ≤ 84 := by have := (nameB_size h.nm).2; have := h.b1; unfold wt; omega
def wtI (i : It) : Int := if itemB i = true then (wt i : Int) else -1
def overB (i : It) (now : Int) : Bool := !(i.U == 0) && decide (i.U ≤ now)

/-- things in the order of their names, at most twenty -/
def BOk (b : List It) : Prop := (∀ i ∈ b, itemB i = true) ∧ (b.map (·.N)).Pairwise (fun x y => ltS x y = true) ∧ b.length ≤ 20
instance (b : List It) : Decidable (BOk b) := by unfold BOk; exact inferInstance
def bookB (b : List It) : Bool := decide (BOk b)
theorem bookB_iff {b : List It} : bookB b = true ↔ BOk b := by unfold bookB; exact decide_eq_true_iff
theorem BOk.nodup {b : List It} (h : BOk b) : (b.map (·.N)).Nodup := h.2.1.imp fun q => ltS_ne q
/-- the first k of them are right things in their order -/
def PreB (b : List It) (k : Nat) : Prop := (∀ i ∈ b.take k, itemB i = true) ∧ ((b.take k).map (·.N)).Pairwise (fun x y => ltS x y = true)
theorem preB_zero (b : List It) : PreB b 0 := ⟨by simp, by simp⟩
theorem preB_succ {b : List It} {k : Nat} (h : PreB b k) (hk : k < b.length) (h1 : itemB b[k] = true) (h2 : ∀ h0 : 0 < k, ltS (b[k - 1]'(by omega)).N b[k].N = true) : PreB b (k + 1) := by
  unfold PreB
  rw [List.take_succ_eq_append_getElem hk]
  refine ⟨fun i hi => ?_, ?_⟩
  · rcases List.mem_append.1 hi with q | q
    · exact h.1 i q
    · rw [List.mem_singleton.1 q]; exact h1
  · rw [List.map_append, List.pairwise_append]
    refine ⟨h.2, by simp, fun x hx y hy => ?_⟩
    simp only [List.map_cons, List.map_nil, List.mem_singleton] at hy
    rw [hy]
    have h0 : 0 < k := by
      cases k with
      | zero => simp at hx
      | succ k => omega
    have hl := h2 h0
    obtain ⟨j, hj, e⟩ := List.mem_iff_getElem.1 hx
    simp only [List.length_map, List.length_take, List.getElem_map, List.getElem_take] at hj e
    by_cases hjk : j = k - 1
    · subst hjk
      rw [← e]
      exact hl
    · refine ltS_trans ?_ hl
      have := List.pairwise_iff_getElem.1 h.2 j (k - 1) (by simp; omega) (by simp; omega) (by omega)
      simp only [List.getElem_map, List.getElem_take] at this
      rw [← e]
      exact this
theorem preB_not1 {b : List It} {k : Nat} (hk : k < b.length) (h : itemB b[k] = false) : bookB b = false := by
  unfold bookB
  refine decide_eq_false fun q => ?_
  have := q.1 b[k] (List.getElem_mem hk)
  rw [h] at this
  cases this
theorem preB_not2 {b : List It} {k : Nat} (hk : k < b.length) (h0 : 0 < k) (h : ltS (b[k - 1]'(by omega)).N b[k].N = false) : bookB b = false := by
  unfold bookB
  refine decide_eq_false fun q => ?_
  have := List.pairwise_iff_getElem.1 q.2.1 (k - 1) k (by simp; omega) (by simp; omega) (by omega)
  simp only [List.getElem_map] at this
  rw [h] at this
  cases this
theorem preB_all {b : List It} (h : PreB b b.length) : bookB b = decide ((b.length : Int) ≤ 20) := by
  unfold PreB at h
  rw [List.take_length] at h
  unfold bookB
  by_cases q : b.length ≤ 20
  · rw [decide_eq_true (show BOk b from ⟨h.1, h.2, q⟩), decide_eq_true (by omega)]
  · rw [decide_eq_false (show ¬ BOk b from fun z => q z.2.2), decide_eq_false (by omega)]
theorem book_long {b : List It} (h : 20 < b.length) : bookB b = false := decide_eq_false fun z => by have := z.2.2; omega
/-- the place of a name in a book -/
def findI (b : List It) (s : ByteArray) : Int := posS s (b.map (·.N))
theorem findI_self {b : List It} (h : BOk b) {k : Nat} (hk : k < b.length) : findI b b[k].N = k := by
  unfold findI
  have hk' : k < (b.map (·.N)).length := by rw [List.length_map]; exact hk
  have e : (b.map (·.N))[k] = b[k].N := by rw [List.getElem_map]
  refine posS_at hk' e fun hm => ?_
  obtain ⟨j, hj, e2⟩ := List.mem_iff_getElem.1 hm
  simp at hj e2
  have := List.pairwise_iff_getElem.1 h.nodup j k (by simp; omega) hk' (by omega)
  simp only [List.getElem_map] at this
  exact this e2
theorem findI_at {b : List It} {s : ByteArray} (h : 0 ≤ findI b s) : ∃ k : Nat, ∃ hk : k < b.length, findI b s = k ∧ b[k].N = s := by
  unfold findI at h ⊢
  rcases posS_cases s (b.map (·.N)) with ⟨-, e⟩ | ⟨k, hk, e, -, e2⟩
  · omega
  · rw [List.length_map] at hk
    rw [List.getElem_map] at e
    exact ⟨k, hk, e2, e⟩
/-- how heavy -/
def sumW (b : List It) : Nat := (b.map wt).sum
def heavyI (b : List It) : Int := if bookB b = true then (sumW b : Int) else -1
theorem sumW_next {b : List It} {k : Nat} (hk : k < b.length) : sumW (b.take (k + 1)) = sumW (b.take k) + wt b[k] := by
  unfold sumW
  rw [List.take_succ_eq_append_getElem hk, List.map_append, List.sum_append]
  rfl
theorem sumW_le {b : List It} (h : ∀ i ∈ b, itemB i = true) : sumW b ≤ b.length * 84 := by
  induction b with
  | nil => simp [sumW]
  | cons i r ih =>
    have h1 := wt_le (itemB_iff.1 (h i (List.mem_cons_self ..)))
    have h2 := ih fun j hj => h j (List.mem_cons_of_mem _ hj)
    unfold sumW at h2 ⊢
    simp only [List.map_cons, List.sum_cons, List.length_cons, Nat.add_mul]
    omega
theorem sumW_small {b : List It} (h : BOk b) (k : Nat) : sumW (b.take k) ≤ 1680 := by
  have h1 := sumW_le (b := b.take k) fun i hi => h.1 i (List.mem_of_mem_take hi)
  rw [List.length_take] at h1
  have := h.2.2
  have : min k b.length * 84 ≤ 20 * 84 := Nat.mul_le_mul_right _ (by omega)
  omega
theorem wtI_yes {i : It} (h : itemB i = true) : wtI i = wt i := if_pos h
end Go.Proofs.YtaabmkhckbndgaaGreatDoor.rg
/- Things in memory, one or a row of them; contracts of the model's answers on one thing. -/
namespace Go.Proofs.YtaabmkhckbndgaaGreatDoor.rg
open Go.ChangeShapes Go.WideShapes Go.ChangeAt Go.RowKit
open Go.Proofs.YtaabmkhckbndgaaGreatDoor.ce Go.Proofs.YtaabmkhckbndgaaGreatDoor.ro
set_option linter.unusedVariables false

/-- the cells of a thing -/
def ic (i : It) : List Value := [.string i.N, .int .i64 i.F, .string i.B, .int .i64 i.C, .int .i64 i.U]
theorem ic_one (i : It) : ∀ v ∈ ic i, v.oneCell' = true := by
  intro v hv
  simp only [ic, List.mem_cons, List.not_mem_nil, or_false] at hv
  rcases hv with rfl | rfl | rfl | rfl | rfl <;> rfl
def encIt : Enc It := ⟨ic, 5, 74, fun _ => rfl, ic_one, by decide⟩
def encLi : Enc It := ⟨ic, 5, 168, fun _ => rfl, ic_one, by decide⟩
theorem infoIt : Info encIt := by
  have h : (Tryz.prog.info? 74).map (fun i => (i.zero, i.size, i.bytes)) = some (some (.agg #[.string ⟨#[]⟩, .int .i64 0, .string ⟨#[]⟩, .int .i64 0, .int .i64 0]), 5, 56) := by kernel_rfl
  obtain ⟨i, hi, hz⟩ := Option.map_eq_some_iff.1 h
  simp only [Prod.mk.injEq] at hz
  exact ⟨i, _, hi, hz.1, hz.2.1, by omega, rfl⟩
theorem sizeIt : (Tryz.prog.info? 74).map (·.size) = some 5 := by kernel_rfl
theorem sizeLi : (Tryz.prog.info? 168).map (·.size) = some 5 := by kernel_rfl
theorem zeroIt (w : World) : (zeroValue 74).run Tryz.prog w = .ok (.agg [Value.string ⟨#[]⟩, .int .i64 0, .string ⟨#[]⟩, .int .i64 0, .int .i64 0].toArray) w := Tryz.zeroValue74 w

/-- a thing lies in a block of its own: its five cells -/
theorem cells5 {w : World} {b : Nat} {t : TypeId} {v0 v1 v2 v3 v4 : Value} (h : VBlk w b t [v0, v1, v2, v3, v4]) :
    w.cell? ⟨b, 0, none⟩ = some v0 ∧ w.cell? ⟨b, 1, none⟩ = some v1 ∧ w.cell? ⟨b, 2, none⟩ = some v2 ∧ w.cell? ⟨b, 3, none⟩ = some v3 ∧ w.cell? ⟨b, 4, none⟩ = some v4 :=
  ⟨h.cell 0 (by simp), h.cell 1 (by simp), h.cell 2 (by simp), h.cell 3 (by simp), h.cell 4 (by simp)⟩
theorem froz5 {w : World} {b : Nat} {t : TypeId} {vs : List Value} (h : VBlk w b t vs) :
    w.frozen? ⟨b, 0, none⟩ = false ∧ w.frozen? ⟨b, 1, none⟩ = false ∧ w.frozen? ⟨b, 2, none⟩ = false ∧ w.frozen? ⟨b, 3, none⟩ = false ∧ w.frozen? ⟨b, 4, none⟩ = false :=
  ⟨h.frozen _, h.frozen _, h.frozen _, h.frozen _, h.frozen _⟩
/-- the thing at the place i of a row -/
theorem rd_item {E : Enc It} (hp : E.put = ic) (hk : E.k = 5) {w : World} {n cap : Nat} {a : Option Addr} {xs : List It} (r : Rd E w (.slice a n cap) xs) (i : Nat) (hi : i < xs.length) :
    ∃ b off, a = some ⟨b, off, none⟩ ∧ b < w.heap.size ∧ w.rangeAt b (off + i * 5) (ic xs[i]) := by
  obtain ⟨b, off, e, h1, h2⟩ := r.start (by omega)
  refine ⟨b, off, e, h1, fun j v hv => ?_⟩
  have hj : j < 5 := (List.getElem?_eq_some_iff.1 hv).1
  have := E.row_get xs i j hi (by rw [hk]; exact hj)
  rw [hk, hp, hv] at this
  have := h2 _ _ this
  rw [Nat.add_assoc]
  exact this
theorem rng5 {w : World} {b k : Nat} {v0 v1 v2 v3 v4 : Value} (h : w.rangeAt b k [v0, v1, v2, v3, v4]) :
    w.cell? ⟨b, k, none⟩ = some v0 ∧ w.cell? ⟨b, k + 1, none⟩ = some v1 ∧ w.cell? ⟨b, k + 2, none⟩ = some v2 ∧ w.cell? ⟨b, k + 3, none⟩ = some v3 ∧ w.cell? ⟨b, k + 4, none⟩ = some v4 :=
  ⟨h 0 _ rfl, h 1 _ rfl, h 2 _ rfl, h 3 _ rfl, h 4 _ rfl⟩

set_option maxHeartbeats 4000000 in
theorem specItemOk_any (N B : ByteArray) (F C U : Int) (y : Bool) (hy : Hid (itemB ⟨N, F, B, C, U⟩ = y)) (hN : N.size ≤ 9223372036854775807) (hB : B.size ≤ 9223372036854775807) (w : World) :
    Calls Tryz.prog 161 #[.agg #[.string N, .int .i64 F, .string B, .int .i64 C, .int .i64 U]] w fun e w' => e = .returned (.bool y) ∧ Below w.heap.size w w' := by
  obtain ⟨x1, h1⟩ := hid_ex (nameB N)
  obtain ⟨x2, h2⟩ := hid_ex (decide (0 ≤ F) && decide (F ≤ 65535))
  obtain ⟨x4, h4⟩ := hid_ex (decide (1 ≤ C) && decide (C ≤ 1000000))
  obtain ⟨x5, h5⟩ := hid_ex (decide (0 ≤ U) && decide (U ≤ 1000000))
  have hy2 : (x1 && x2 && decide ((B.size : Int) ≤ 64) && x4 && x5) = y := by rw [← h1.out, ← h2.out, ← h4.out, ← h5.out]; exact hy.out
  clear hy
  by_cases h3 : (B.size : Int) ≤ 64
  · rw [decide_eq_true h3] at hy2
    cases x1 <;> cases x2 <;> cases x4 <;> cases x5
    all_goals
      subst hy2
      go_enter Tryz.func161, Tryz.ntmps161
      have m1 : Hid True := trivial
      have m2 : Hid True := trivial
      have m3 : Hid True := trivial
      go_wp2_with (first | (refine wpList_box_v rfl 74 _ rfl [.string N, .int .i64 F, .string B, .int .i64 C, .int .i64 U] rfl ?_; intro b1 w1 hb1 hw1 hB1 V1; obtain ⟨c0, c1, c2, c3, c4⟩ := cells5 V1) | (go_at_call 73; refine (specNameOk_any _ hN _).mono ?_; rintro e wq ⟨rfl, hq⟩; subst wq; rw [h1.out]) | (clear m1; go_at_call 72; refine (in_is F 0 65535 _ h2.out _).mono ?_; rintro e wq ⟨rfl, hq⟩; subst wq) | (clear m2; go_at_call 72; refine (in_is C 1 1000000 _ h4.out _).mono ?_; rintro e wq ⟨rfl, hq⟩; subst wq) | (clear m3; go_at_call 72; refine (in_is U 0 1000000 _ h5.out _).mono ?_; rintro e wq ⟨rfl, hq⟩; subst wq) | (fail))
      go_ret
      exact ⟨rfl, hB1⟩
  · rw [decide_eq_false h3, Bool.and_false, Bool.false_and, Bool.false_and] at hy2
    cases x1 <;> cases x2
    all_goals
      subst hy2
      go_enter Tryz.func161, Tryz.ntmps161
      go_wp2_with (first | (refine wpList_box_v rfl 74 _ rfl [.string N, .int .i64 F, .string B, .int .i64 C, .int .i64 U] rfl ?_; intro b1 w1 hb1 hw1 hB1 V1; obtain ⟨c0, c1, c2, c3, c4⟩ := cells5 V1) | (go_at_call 73; refine (specNameOk_any _ hN _).mono ?_; rintro e wq ⟨rfl, hq⟩; subst wq; rw [h1.out]) | (go_at_call 72; refine (in_is F 0 65535 _ h2.out _).mono ?_; rintro e wq ⟨rfl, hq⟩; subst wq) | (fail))
      go_ret
      exact ⟨rfl, hB1⟩

theorem specOverAt_any (N B : ByteArray) (F C U now : Int) (y : Bool) (hy : Hid (overB ⟨N, F, B, C, U⟩ now = y)) (w : World) :
    Calls Tryz.prog 53 #[.agg #[.string N, .int .i64 F, .string B, .int .i64 C, .int .i64 U], .int .i64 now] w fun e w' => e = .returned (.bool y) ∧ Below w.heap.size w w' := by
  have h := hy.out
  clear hy
  unfold overB at h
  by_cases hu : U = 0
  · have hb : (U == 0) = true := by simpa using hu
    have hb' : (U != 0) = false := by simp [hu]
    rw [hb] at h
    clear hu
    subst h
    go_enter Tryz.func53, Tryz.ntmps53
    go_wp2_with (first | (refine wpList_box_v rfl 74 _ rfl [.string N, .int .i64 F, .string B, .int .i64 C, .int .i64 U] rfl ?_; intro b1 w1 hb1 hw1 hB1 V1; obtain ⟨c0, c1, c2, c3, c4⟩ := cells5 V1) | (fail))
    go_ret
    exact ⟨rfl, hB1⟩
  · have hb : (U == 0) = false := by simpa using hu
    have hb' : (U != 0) = true := by simp [hu]
    rw [hb] at h
    clear hu
    subst h
    go_enter Tryz.func53, Tryz.ntmps53
    go_wp2_with (first | (refine wpList_box_v rfl 74 _ rfl [.string N, .int .i64 F, .string B, .int .i64 C, .int .i64 U] rfl ?_; intro b1 w1 hb1 hw1 hB1 V1; obtain ⟨c0, c1, c2, c3, c4⟩ := cells5 V1) | (fail))
    go_ret
    exact ⟨by simp, hB1⟩
end Go.Proofs.YtaabmkhckbndgaaGreatDoor.rg
/- Contracts: the program's answers on one thing; a thing around its name. -/
namespace Go.Proofs.YtaabmkhckbndgaaGreatDoor.rg
open Go.ChangeShapes Go.WideShapes Go.ChangeAt Go.RowKit
open Go.Proofs.YtaabmkhckbndgaaGreatDoor.ce Go.Proofs.YtaabmkhckbndgaaGreatDoor.ro
set_option linter.unusedVariables false

theorem sizeTh : (Tryz.prog.info? 181).map (·.size) = some 5 := by kernel_rfl
theorem zeroTh (w : World) : (zeroValue 181).run Tryz.prog w = .ok (.agg [Value.string ⟨#[]⟩, .int .i64 0, .string ⟨#[]⟩, .int .i64 0, .int .i64 0].toArray) w := Tryz.zeroValue181 w

theorem field_thing (N B : ByteArray) (F C U : Int) : ∀ w : World, (Instr.field 181 (.agg #[.string N, .int .i64 F, .string B, .int .i64 C, .int .i64 U]) 0).run Tryz.prog w = .ok (.string N) w := fun _ => by kernel_rfl

theorem within_is (x lo hi : Int) (y : Bool) (h : (decide (lo ≤ x) && decide (x ≤ hi)) = y) (w : World) : Calls Tryz.prog 63 #[.int .i64 x, .int .i64 lo, .int .i64 hi] w fun e w' => e = .returned (.bool y) ∧ w' = w := by
  by_cases h1 : lo ≤ x
  · by_cases h3 : x ≤ hi
    · rw [decide_eq_true h1, decide_eq_true h3] at h
      subst h
      go_enter Tryz.func63, Tryz.ntmps63
      go_wp2
      go_ret
      exact ⟨rfl, rfl⟩
    · rw [decide_eq_true h1, decide_eq_false h3] at h
      subst h
      go_enter Tryz.func63, Tryz.ntmps63
      go_wp2
      go_ret
      exact ⟨rfl, rfl⟩
  · rw [decide_eq_false h1] at h
    subst h
    go_enter Tryz.func63, Tryz.ntmps63
    go_wp2
    go_ret
    exact ⟨rfl, rfl⟩

theorem nameRight_any (s : ByteArray) (y : Bool) (hy : Hid (nameB s = y)) (hs : s.size ≤ 9223372036854775807) (w : World) : Calls Tryz.prog 206 #[.string s] w fun e w' => e = .returned (.bool y) ∧ w' = w := by
  go_enter Tryz.func206, Tryz.ntmps206
  go_wp2_with (first | (go_at_call 123; refine (implNameOk_any _ hs _).mono ?_; rintro e wq ⟨rfl, hq⟩; subst wq; rw [hy.out]) | (fail))
  go_ret
  exact ⟨rfl, rfl⟩
theorem goesBy_any (s n : ByteArray) (y : Bool) (hy : (s.toList == n.toList) = y) (w : World) : Calls Tryz.prog 181 #[.string s, .string n] w fun e w' => e = .returned (.bool y) ∧ w' = w := by
  go_enter Tryz.func181, Tryz.ntmps181
  go_wp2
  go_ret
  exact ⟨by rw [← hy]; rfl, rfl⟩
theorem standsAhead_any (s n : ByteArray) (y : Bool) (hy : ltS s n = y) (w : World) : Calls Tryz.prog 160 #[.string s, .string n] w fun e w' => e = .returned (.bool y) ∧ w' = w := by
  go_enter Tryz.func160, Tryz.ntmps160
  go_wp2
  go_ret
  exact ⟨by rw [← hy]; rfl, rfl⟩
theorem thingOf_any (N B : ByteArray) (F C U : Int) (w : World) :
    Calls Tryz.prog 159 #[.agg #[.string N, .int .i64 F, .string B, .int .i64 C, .int .i64 U]] w fun e w' => e = .returned (.agg #[.string N, .int .i64 F, .string B, .int .i64 C, .int .i64 U]) ∧ Below w.heap.size w w' := by
  go_enter Tryz.func159, Tryz.ntmps159
  go_wp2_with (first | (refine wpList_box_v rfl 74 _ rfl [.string N, .int .i64 F, .string B, .int .i64 C, .int .i64 U] rfl ?_; intro b1 w1 hb1 hw1 hB1 V1; have hz1 := hB1.size) | (refine wpList_alloc_v rfl 181 rfl _ zeroTh ?_; intro b2 w2 hb2 hw2 hB2 V2; have hz2 := hB2.size; replace V1 := vblk_grow V1 hB2; obtain ⟨c0, c1, c2, c3, c4⟩ := cells5 V1) | (refine wpList_store_v rfl 181 _ _ rfl b2 [.string N, .int .i64 F, .string B, .int .i64 C, .int .i64 U] rfl rfl sizeTh V2 rfl (ic_one ⟨N, F, B, C, U⟩) ?_; intro w3 hO3 V3) | (fail))
  refine row_retv rfl rfl V3 Tryz.underlying181 sizeTh rfl ⟨rfl, ?_⟩
  exact (hB1.trans (hB2.mono hz1)).trans (hO3.2.2 _ (by omega))

set_option maxHeartbeats 4000000 in
theorem right_any (N B : ByteArray) (F C U : Int) (y : Bool) (hy : Hid (itemB ⟨N, F, B, C, U⟩ = y)) (hN : N.size ≤ 9223372036854775807) (hB : B.size ≤ 9223372036854775807) (w : World) :
    Calls Tryz.prog 187 #[.agg #[.string N, .int .i64 F, .string B, .int .i64 C, .int .i64 U]] w fun e w' => e = .returned (.bool y) ∧ Below w.heap.size w w' := by
  obtain ⟨x1, h1⟩ := hid_ex (nameB N)
  obtain ⟨x2, h2⟩ := hid_ex (decide (0 ≤ F) && decide (F ≤ 65535))
  obtain ⟨x4, h4⟩ := hid_ex (decide (1 ≤ C) && decide (C ≤ 1000000))
  obtain ⟨x5, h5⟩ := hid_ex (decide (0 ≤ U) && decide (U ≤ 1000000))
  have hy2 : (x1 && x2 && decide ((B.size : Int) ≤ 64) && x4 && x5) = y := by rw [← h1.out, ← h2.out, ← h4.out, ← h5.out]; exact hy.out
  clear hy
  by_cases h3 : (B.size : Int) ≤ 64
  · rw [decide_eq_true h3] at hy2
    cases x1 <;> cases x2 <;> cases x4 <;> cases x5
    all_goals
      subst hy2
      go_enter Tryz.func187, Tryz.ntmps187
      have m1 : Hid True := trivial
      have m2 : Hid True := trivial
      have m3 : Hid True := trivial
      go_wp2_with (first | (refine wpList_box_v rfl 181 _ rfl [.string N, .int .i64 F, .string B, .int .i64 C, .int .i64 U] rfl ?_; intro b1 w1 hb1 hw1 hB1 V1; obtain ⟨c0, c1, c2, c3, c4⟩ := cells5 V1) | (go_at_call 206; refine (nameRight_any _ _ h1 hN _).mono ?_; rintro e wq ⟨rfl, hq⟩; subst wq) | (clear m1; go_at_call 63; refine (within_is F 0 65535 _ h2.out _).mono ?_; rintro e wq ⟨rfl, hq⟩; subst wq) | (clear m2; go_at_call 63; refine (within_is C 1 1000000 _ h4.out _).mono ?_; rintro e wq ⟨rfl, hq⟩; subst wq) | (clear m3; go_at_call 63; refine (within_is U 0 1000000 _ h5.out _).mono ?_; rintro e wq ⟨rfl, hq⟩; subst wq) | (fail))
      go_ret
      exact ⟨rfl, hB1⟩
  · rw [decide_eq_false h3, Bool.and_false, Bool.false_and, Bool.false_and] at hy2
    cases x1 <;> cases x2
    all_goals
      subst hy2
      go_enter Tryz.func187, Tryz.ntmps187
      go_wp2_with (first | (refine wpList_box_v rfl 181 _ rfl [.string N, .int .i64 F, .string B, .int .i64 C, .int .i64 U] rfl ?_; intro b1 w1 hb1 hw1 hB1 V1; obtain ⟨c0, c1, c2, c3, c4⟩ := cells5 V1) | (go_at_call 206; refine (nameRight_any _ _ h1 hN _).mono ?_; rintro e wq ⟨rfl, hq⟩; subst wq) | (go_at_call 63; refine (within_is F 0 65535 _ h2.out _).mono ?_; rintro e wq ⟨rfl, hq⟩; subst wq) | (fail))
      go_ret
      exact ⟨rfl, hB1⟩

theorem implItemOk_any (N B : ByteArray) (F C U : Int) (y : Bool) (hy : Hid (itemB ⟨N, F, B, C, U⟩ = y)) (hN : N.size ≤ 9223372036854775807) (hB : B.size ≤ 9223372036854775807) (w : World) :
    Calls Tryz.prog 158 #[.agg #[.string N, .int .i64 F, .string B, .int .i64 C, .int .i64 U]] w fun e w' => e = .returned (.bool y) ∧ Below w.heap.size w w' := by
  go_enter Tryz.func158, Tryz.ntmps158
  go_wp2_with (first | (refine wpList_box_v rfl 74 _ rfl [.string N, .int .i64 F, .string B, .int .i64 C, .int .i64 U] rfl ?_; intro b1 w1 hb1 hw1 hB1 V1; have hz1 := hB1.size) | (refine wpList_load_r rfl 74 _ rfl b1 0 [.string N, .int .i64 F, .string B, .int .i64 C, .int .i64 U] rfl _ Tryz.underlying74 rfl sizeIt V1.range ?_) | (go_at_call 159; refine (thingOf_any N B F C U _).mono ?_; rintro e w2 ⟨rfl, hB2⟩; have hz2 := hB2.size) | (go_at_call 187; refine (right_any N B F C U _ hy hN hB _).mono ?_; rintro e w3 ⟨rfl, hB3⟩) | (fail))
  go_ret
  exact ⟨rfl, (hB1.trans (hB2.mono hz1)).trans (hB3.mono (by omega))⟩

theorem implOverAt_any (N B : ByteArray) (F C U now : Int) (y : Bool) (hy : Hid (overB ⟨N, F, B, C, U⟩ now = y)) (w : World) :
    Calls Tryz.prog 139 #[.agg #[.string N, .int .i64 F, .string B, .int .i64 C, .int .i64 U], .int .i64 now] w fun e w' => e = .returned (.bool y) ∧ Below w.heap.size w w' := by
  have h := hy.out
  clear hy
  unfold overB at h
  by_cases hu : U = 0
  · have hb : (U == 0) = true := by simpa using hu
    have hb' : (U != 0) = false := by simp [hu]
    rw [hb] at h
    clear hu
    subst h
    go_enter Tryz.func139, Tryz.ntmps139
    go_wp2_with (first | (refine wpList_box_v rfl 74 _ rfl [.string N, .int .i64 F, .string B, .int .i64 C, .int .i64 U] rfl ?_; intro b1 w1 hb1 hw1 hB1 V1; obtain ⟨c0, c1, c2, c3, c4⟩ := cells5 V1) | (fail))
    go_ret
    exact ⟨rfl, hB1⟩
  · have hb : (U == 0) = false := by simpa using hu
    have hb' : (U != 0) = true := by simp [hu]
    rw [hb] at h
    clear hu
    subst h
    go_enter Tryz.func139, Tryz.ntmps139
    go_wp2_with (first | (refine wpList_box_v rfl 74 _ rfl [.string N, .int .i64 F, .string B, .int .i64 C, .int .i64 U] rfl ?_; intro b1 w1 hb1 hw1 hB1 V1; obtain ⟨c0, c1, c2, c3, c4⟩ := cells5 V1) | (fail))
    go_ret
    exact ⟨by simp, hB1⟩
end Go.Proofs.YtaabmkhckbndgaaGreatDoor.rg
