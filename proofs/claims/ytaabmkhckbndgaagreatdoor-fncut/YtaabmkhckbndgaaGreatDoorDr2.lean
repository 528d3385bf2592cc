/- What bends a text: some bytes are put in the place of others. -/
import Derived.Test.YtaabmkhckbndgaaGreatDoorMg29
import Derived.Test.YtaabmkhckbndgaaGreatDoorMg32
import Derived.Test.YtaabmkhckbndgaaGreatDoorMg31
import Derived.Lib.SmallJoins
import Derived.Deep.Slices
import Derived.Deep.RegionHeld3
import Derived.BigQuiet
import Derived.Deep.DeepCutAuto
import Derived.Deep.CutBlock
import Derived.Lib.AtoiErrMem
namespace Go.Proofs.YtaabmkhckbndgaaGreatDoor.rg
open Go.ChangeShapes Go.WideShapes Go.ChangeAt Go.RowKit
open Go.Deep Go.Joins
open Go.Proofs.YtaabmkhckbndgaaGreatDoor.ce Go.Proofs.YtaabmkhckbndgaaGreatDoor.ro Go.Proofs.YtaabmkhckbndgaaGreatDoor.draw Go.Proofs.YtaabmkhckbndgaaGreatDoor.cm
set_option linter.unusedVariables false

theorem infoU' : (Tryz.prog.info? 5).map (fun i => (i.zero, i.size, i.bytes)) = some (some (.int .u8 0), 1, 1) := by kernel_rfl
def encU : Enc UInt8 := ⟨fun c => [.int .u8 c.toNat], 1, 5, fun _ => rfl, (fun c v hv => by simp at hv; subst hv; rfl), by decide⟩
theorem infoU : Info encU := by
  obtain ⟨i, hi, hz⟩ := Option.map_eq_some_iff.1 infoU'
  simp only [Prod.mk.injEq] at hz
  exact ⟨i, _, hi, hz.1, hz.2.1, by omega, rfl⟩
theorem own_went {α : Type} {E : Enc α} {w w' : World} {lo hi p : Nat} {v : Value} {xs : List α} (o : Own E w lo hi v xs) (hp : p < lo) (hg : w.grownBy w' (some p)) : Own E w' lo hi v xs := o.keepT fun g cur h h1 _ => hg.block g (Array.getElem?_eq_some_iff.1 h).1 fun e => by cases e; omega
theorem rd_at {α : Type} {E : Enc α} {w w' : World} {g n cap : Nat} {xs : List α} (r : Rd E w (.slice (some ⟨g, 0, none⟩) n cap) xs) (h : g < w.heap.size → w'.heap[g]? = w.heap[g]?) (hz : w.heap.size ≤ w'.heap.size) : Rd E w' (.slice (some ⟨g, 0, none⟩) n cap) xs := by
  obtain ⟨a, c, e, h1, h2, h3⟩ := r.fits
  cases e
  refine ⟨_, _, rfl, h1, h2, fun hn => ?_⟩
  obtain ⟨b, off, e, h4, h5⟩ := h3 hn
  cases e
  exact ⟨g, 0, rfl, by omega, range_of h5 (h h4)⟩
/-- the bytes that are bent, in g; what is new lies from B0 on -/
structure Be (w : World) (p : Nat) (a0 : Option Addr) (len cap B0 g n c : Nat) (l : List UInt8) (wr : World) : Prop where
  d : Gt w p a0 len cap wr
  r : Rd encU wr (.slice (some ⟨g, 0, none⟩) n c) l
  g0 : w.heap.size ≤ g
  g1 : g < B0
  b0 : B0 ≤ wr.heap.size
  wB : w.heap.size ≤ B0
section
variable {w : World} {p : Nat} {a0 : Option Addr} {len cap B0 g n c : Nat} {l : List UInt8} {wr w' : World}
theorem Be.pB (b : Be w p a0 len cap B0 g n c l wr) : p < B0 := Nat.lt_of_lt_of_le b.d.hp b.wB
theorem Be.went (b : Be w p a0 len cap B0 g n c l wr) (hc : Cur w' p a0 len cap) (hg : wr.grownBy w' (some p)) : Be w p a0 len cap B0 g n c l w' := by
  have h1 := b.d.hp
  have h2 := b.g0
  exact ⟨b.d.went hc hg, rd_at b.r (fun h => hg.block g h (fun e => by cases e; omega)) hg.size, b.g0, b.g1, Nat.le_trans b.b0 hg.size, b.wB⟩
theorem Be.low (b : Be w p a0 len cap B0 g n c l wr) (hB : Below B0 wr w') : Be w p a0 len cap B0 g n c l w' :=
  ⟨b.d.base (hB.mono b.wB), rd_at b.r (fun h => hB.block g b.g1) hB.size, b.g0, b.g1, Nat.le_trans b.b0 hB.size, b.wB⟩
end
/-- bytes that may be written -/
structure Bt (w : World) (p : Nat) (a0 : Option Addr) (len cap : Nat) (v : Value) (l : List UInt8) (wr : World) : Prop where
  d : Gt w p a0 len cap wr
  r : Rd encU wr v l
  at_ : l ≠ [] → ∃ g c, v = .slice (some ⟨g, 0, none⟩) l.length c ∧ w.heap.size ≤ g ∧ g < wr.heap.size ∧ ∀ j, j < l.length → wr.frozen? ⟨g, j, none⟩ = false
theorem bt_own {w : World} {p : Nat} {a0 : Option Addr} {len cap lo hi : Nat} {v : Value} {l : List UInt8} {wr : World} (d : Gt w p a0 len cap wr) (o : Own encU wr lo hi v l) (hlo : w.heap.size ≤ lo) : Bt w p a0 len cap v l wr := by
  refine ⟨d, o.rd, fun hn => ?_⟩
  obtain ⟨g, c, rfl, h1, h2, h3⟩ := o.form (by cases l with | nil => exact absurd rfl hn | cons x r => simp)
  exact ⟨g, c, rfl, by omega, h3, fun j _ => ((o.at hn).1.there).2.1 j⟩
theorem Bt.went {w : World} {p : Nat} {a0 : Option Addr} {len cap : Nat} {v : Value} {l : List UInt8} {wr w' : World} (b : Bt w p a0 len cap v l wr) (hc : Cur w' p a0 len cap) (hg : wr.grownBy w' (some p)) : Bt w p a0 len cap v l w' := by
  have hp := b.d.hp
  by_cases hn : l = []
  · subst hn
    obtain ⟨a, c, rfl⟩ := b.r.form
    exact ⟨b.d.went hc hg, rd_zero encU _ _ _ (by have := b.r.cap; unfold maxLen; omega), fun h => absurd rfl h⟩
  · obtain ⟨g, c, rfl, h1, h2, h3⟩ := b.at_ hn
    have hb := hg.block g h2 (fun e => by cases e; omega)
    exact ⟨b.d.went hc hg, rd_at b.r (fun h => hb) hg.size, fun _ => ⟨g, c, rfl, h1, Nat.lt_of_lt_of_le h2 hg.size, fun j hj => by rw [World.frozen?_of_block hb]; exact h3 j hj⟩⟩
theorem bt_set {w : World} {p : Nat} {a0 : Option Addr} {len cap g c : Nat} {l : List UInt8} {wr : World} (b : Bt w p a0 len cap (.slice (some ⟨g, 0, none⟩) l.length c) l wr) (k : Nat) (hk : k < l.length) (u : UInt8) : Bt w p a0 len cap (.slice (some ⟨g, 0, none⟩) (l.set k u).length c) (l.set k u) (wr.setCell ⟨g, k, none⟩ (.int .u8 u.toNat)) := by
  have hn : l ≠ [] := fun e => by rw [e] at hk; simp at hk
  obtain ⟨g', c', e, h1, h2, h3⟩ := b.at_ hn
  cases e
  obtain ⟨a, cc, e, q1, q2, q3⟩ := b.r.fits
  cases e
  obtain ⟨b', off, e, q4, q5⟩ := q3 hn
  cases e
  have hO := only_set wr g k (.int .u8 u.toNat)
  have hlen : (l.set k u).length = l.length := List.length_set
  refine ⟨b.d.base (hO.2.2 _ h1), ⟨_, _, rfl, by omega, q2, fun _ => ⟨g, 0, rfl, by rw [hO.1]; exact q4, ?_⟩⟩, fun _ => ⟨g, c, rfl, h1, by rw [hO.1]; exact h2, fun j hj => ?_⟩⟩
  · intro j v hv
    have hrow : (encU.row l).set (k * 1 + 0) (.int .u8 u.toNat) = encU.row (l.set k u) := encU.row_set l k 0 hk (by decide) _ u rfl
    rw [← hrow] at hv
    simp only [Nat.mul_one, Nat.add_zero, Nat.zero_add] at hv ⊢
    by_cases e : k = j
    · subst e
      have h0 := q5 k (.int .u8 (l[k].toNat)) (by have := encU.row_get l k 0 hk (by decide); simpa [encU] using this)
      rw [Nat.zero_add] at h0
      rw [World.cell?_setCell_same _ _ _ h0]
      rw [List.getElem?_set_self (by rw [encU.row_len]; simpa [encU] using hk)] at hv
      exact hv
    · rw [World.cell?_setCell_other _ _ _ _ (by first | (simp; done) | (simp; omega))]
      rw [List.getElem?_set_ne e] at hv
      have := q5 j v hv
      rwa [Nat.zero_add] at this
  · rw [World.frozen?_setCell]
    exact h3 j (by rw [← hlen]; exact hj)
theorem Bt.be {w : World} {p : Nat} {a0 : Option Addr} {len cap g c : Nat} {l : List UInt8} {wr : World} (b : Bt w p a0 len cap (.slice (some ⟨g, 0, none⟩) l.length c) l wr) (hn : l ≠ []) : Be w p a0 len cap wr.heap.size g l.length c l wr := by
  obtain ⟨g', c', e, h1, h2, h3⟩ := b.at_ hn
  cases e
  exact ⟨b.d, b.r, h1, h2, Nat.le_refl _, b.d.size⟩
theorem Bt.head {w : World} {p : Nat} {a0 : Option Addr} {len cap g c : Nat} {l : List UInt8} {wr : World} (b : Bt w p a0 len cap (.slice (some ⟨g, 0, none⟩) l.length c) l wr) (k : Nat) (hk : k ≤ l.length) : Bt w p a0 len cap (.slice (some ⟨g, 0, none⟩) k c) (l.take k) wr := by
  have hl : (l.take k).length = k := by rw [List.length_take]; omega
  refine ⟨b.d, b.r.take k hk, fun hn => ?_⟩
  have hn2 : l ≠ [] := fun e => hn (by rw [e]; simp)
  obtain ⟨g', c', e, h1, h2, h3⟩ := b.at_ hn2
  cases e
  exact ⟨g, c, by rw [hl], h1, h2, fun j hj => h3 j (by rw [hl] at hj; omega)⟩
theorem bt_conv {w : World} {p : Nat} {a0 : Option Addr} {len cap n c : Nat} {a : Option Addr} {l : List UInt8} {wr : World} (b : Bt w p a0 len cap (.slice a n c) l wr) : (convert 22 9 (.slice a n c)).run Tryz.prog wr = .ok (.string ⟨l.toArray⟩) wr := by
  obtain ⟨hn, -, -⟩ := b.r.cap
  subst hn
  cases a with
  | none =>
    have hl : l = [] := by
      cases l with
      | nil => rfl
      | cons x r => obtain ⟨g, c', e, -⟩ := b.at_ (by simp); cases e
    subst hl
    show (convert 22 9 (.slice none 0 c)).run Tryz.prog wr = _
    rw [run_convert_bytes_string wr 22 9 5 none 0 c Tryz.underlying22 Tryz.underlying5 Tryz.underlying9]
    rfl
  | some ad =>
    refine run_convert_bytes_back (P := Tryz.prog) wr 22 9 5 ad c l Tryz.underlying22 Tryz.underlying5 Tryz.underlying9 (fun j hj => ?_)
    obtain ⟨b', off, e, -, hc⟩ := b.r.cell j 0 hj (by decide)
    cases e
    rw [Addr.add_mid]
    simpa [encU] using hc
theorem bt_start {w : World} {p : Nat} {a0 : Option Addr} {len cap : Nat} (hc : Cur w p a0 len cap) (s : ByteArray) (hs : s.size ≤ 1048576) : ∃ l : List UInt8, l.length = s.size ∧ Bt w p a0 len cap (.slice (some ⟨w.heap.size, 0, none⟩) s.size (grownCap w s.size 0 5)) l (Lib.bytesWorld w 5 s) := by
  have hB := Lib.bytesWorld_below w 5 s
  have hl : s.data.toList.length = s.size := Array.length_toList
  refine ⟨s.data.toList, hl, (gt_new hc).grow hB, ⟨_, _, by rw [hl], by rw [hl]; exact grownCap_ge w _ _ _, grownCap_le_maxLen w _ _ _ (by unfold maxLen; omega), fun _ => ⟨w.heap.size, 0, rfl, by rw [Lib.bytesWorld_size]; omega, fun j v hv => ?_⟩⟩, fun _ => ⟨w.heap.size, _, by rw [hl], Nat.le_refl _, by rw [Lib.bytesWorld_size]; omega, fun j hj => ?_⟩⟩
  · have hj : j < s.size := by
      have := (List.getElem?_eq_some_iff.1 hv).1
      rw [encU.row_len, hl] at this
      simpa [encU] using this
    rw [Nat.zero_add, Lib.bytesWorld_cell w 5 s j hj]
    have := encU.row_get s.data.toList j 0 (by rw [hl]; exact hj) (by decide)
    simp only [encU, Nat.mul_one, Nat.add_zero] at this
    rw [show encU.row s.data.toList = Enc.row ⟨fun c => [.int .u8 c.toNat], 1, 5, fun _ => rfl, (fun c v hv => by simp at hv; subst hv; rfl), by decide⟩ s.data.toList from rfl, this] at hv
    simp only [List.getElem?_cons_zero, Option.some.injEq] at hv
    rw [← hv, List.getD_eq_getElem?_getD, List.getElem?_eq_getElem (by rw [hl]; exact hj)]
    rfl
  · have hb := Lib.bytesWorld_at_new w 5 s
    have hz : s.size ≤ (Lib.bytesCells w 5 s).size := by
      have h0 : s.data.size = s.size := rfl
      simp only [Lib.bytesCells, Array.size_append, Array.size_map, Array.size_replicate]
      omega
    simp only [World.frozen?, hb, decide_eq_false_iff_not, Bool.and_eq_false_iff]
    left
    omega
theorem bt_cell {w : World} {p : Nat} {a0 : Option Addr} {len cap g n c : Nat} {l : List UInt8} {wr : World} (b : Bt w p a0 len cap (.slice (some ⟨g, 0, none⟩) n c) l wr) (k : Nat) (hk : k < l.length) : ∃ v0, wr.cell? ⟨g, k, none⟩ = some v0 ∧ wr.frozen? ⟨g, k, none⟩ = false := by
  obtain ⟨g', c', e, h1, h2, h3⟩ := b.at_ (fun e => by rw [e] at hk; simp at hk)
  cases e
  obtain ⟨b', off, e, -, hc⟩ := b.r.cell k 0 hk (by decide)
  cases e
  exact ⟨_, by simpa [encU] using hc, h3 k hk⟩
theorem bt_setn {w : World} {p : Nat} {a0 : Option Addr} {len cap g n c : Nat} {l : List UInt8} {wr : World} (b : Bt w p a0 len cap (.slice (some ⟨g, 0, none⟩) n c) l wr) (hn : l.length = n) (k : Nat) (hk : k < n) (u : UInt8) : Bt w p a0 len cap (.slice (some ⟨g, 0, none⟩) n c) (l.set k u) (wr.setCell ⟨g, k, none⟩ (.int .u8 u.toNat)) := by
  subst hn
  have := bt_set b k hk u
  rwa [List.length_set] at this
theorem bt_headn {w : World} {p : Nat} {a0 : Option Addr} {len cap g n c : Nat} {l : List UInt8} {wr : World} (b : Bt w p a0 len cap (.slice (some ⟨g, 0, none⟩) n c) l wr) (hn : l.length = n) (k : Nat) (hk : k ≤ n) : Bt w p a0 len cap (.slice (some ⟨g, 0, none⟩) k c) (l.take k) wr := by
  subst hn
  exact Bt.head b k hk
theorem bt_ben {w : World} {p : Nat} {a0 : Option Addr} {len cap g n c : Nat} {l : List UInt8} {wr : World} (b : Bt w p a0 len cap (.slice (some ⟨g, 0, none⟩) n c) l wr) (hn : l.length = n) (hne : l ≠ []) : Be w p a0 len cap wr.heap.size g n c l wr := by
  subst hn
  exact Bt.be b hne
set_option maxRecDepth 100000 in
set_option maxHeartbeats 8000000 in
theorem l1Bend_any (w : World) (p : Nat) (a0 : Option Addr) (len cap : Nat) (hc : Cur w p a0 len cap) (s signs : ByteArray) (hs : s.size ≤ 1000000) (h1 : 1 ≤ signs.size) (h2 : signs.size ≤ 200) :
    Calls Tryz.prog 80 #[.pointer (some ⟨p, 0, none⟩), .string s, .string signs] w fun e w' => ∃ t : ByteArray, e = .returned (.string t) ∧ t.size ≤ s.size + 2 ∧ Gt w p a0 len cap w' := by
  have hconv := Lib.run_convert_string_bytes (P := Tryz.prog) w 9 22 5 s Tryz.underlying9 Tryz.underlying22 Tryz.underlying5
  obtain ⟨l0, hl0, B1⟩ := bt_start hc s (by omega)
  obtain ⟨cc, hcc⟩ := hid_ex (grownCap w s.size 0 5)
  obtain ⟨w1, hw1⟩ := hid_ex (Lib.bytesWorld w 5 s)
  rw [hcc.out, hw1.out] at hconv B1
  have HL : Hid (l0.length = s.size) := hl0
  clear hl0
  go_enter Tryz.func80, Tryz.ntmps80
  go_wp2_with (first | (go_at_call 78; refine (below_from w1 w1 p a0 len cap _ (by omega) B1.d.cur (World.grownBy.refl _ _)).mono ?_; rintro e w2 ⟨x2, rfl, hx2, hy2, hc2, hg2⟩) | (fail))
  have B2 : Hid (Bt w p a0 len cap (.slice (some ⟨w.heap.size, 0, none⟩) s.size cc) l0 w2) := B1.went hc2 hg2
  clear B1 hc2 hg2 hconv
  obtain ⟨k2, hk2⟩ : ∃ k : Nat, x2 = k := ⟨x2.toNat, by omega⟩
  subst hk2
  go_loopw [7, 8] (fun s7 s8 wr => ∃ (a : Option Addr) (n c k : Nat) (l : List UInt8), s7 = .slice a n c ∧ s8 = .int .i64 k ∧ k ≤ 2 ∧ n + k ≤ s.size + 2 ∧ Hid (l.length = n) ∧ Hid (Bt w p a0 len cap (.slice a n c) l wr)) (fun _ s8 _ => (intOf s8).toNat)
  case atStart => exact ⟨_, s.size, cc, k2, l0, rfl, rfl, by omega, by omega, HL, B2⟩
  case round =>
    obtain ⟨a, n, c, k, l, rfl, rfl, hk, hnk, hln, hB⟩ := hrel
    clear B2
    by_cases hkp : 0 < k
    · by_cases hnp : 0 < n
      · have hne : l ≠ [] := fun e => by have := hln.out; rw [e] at this; simp at this; omega
        obtain ⟨g, cap', eA, hg0, hg1, hfz⟩ := hB.out.at_ hne
        have ea : a = some ⟨g, 0, none⟩ := by cases eA; rfl
        subst ea
        clear eA hg0 hg1 hfz
        have hncap : n ≤ c ∧ c ≤ 9223372036854775807 := hB.out.r.cap.2
        have hnp' : (0 : Int) < (n : Int) := by omega
        have m1 : Hid True := trivial
        have m2 : Hid True := trivial
        go_wp2_with (first
          | (clear m1; go_at_call 78; refine (below_from wr wr p a0 len cap _ (by omega) hB.out.d.cur (World.grownBy.refl _ _)).mono ?_; rintro e w3 ⟨x3, rfl, hx3, hy3, hc3, hg3⟩; obtain ⟨kk, hkk⟩ : ∃ k : Nat, x3 = k := ⟨x3.toNat, by omega⟩; subst hkk; have B3 : Hid (Bt w p a0 len cap (.slice (some ⟨g, 0, none⟩) n c) l w3) := hB.out.went hc3 hg3; clear hc3 hg3)
          | (clear m2; go_at_call 78; refine (below_from w3 w3 p a0 len cap _ (by omega) B3.out.d.cur (World.grownBy.refl _ _)).mono ?_; rintro e w4 ⟨z, rfl, hx4, hy4, hc4, hg4⟩; have B4 : Hid (Bt w p a0 len cap (.slice (some ⟨g, 0, none⟩) n c) l w4) := B3.out.went hc4 hg4; clear hc4 hg4; have hz4 : z = 0 ∨ z = 1 ∨ z = 2 ∨ z = 3 := (by omega); have hkc : (kk : Int) ≤ (c : Int) := (by omega); rcases hz4 with z0 | z1 | z2 | z3)
          | (clear z0; go_at_call 78; refine (below_from w4 w4 p a0 len cap _ (by omega) B4.out.d.cur (World.grownBy.refl _ _)).mono ?_; rintro e w5 ⟨x5, rfl, hx5, hy5, hc5, hg5⟩; obtain ⟨xn, hxn⟩ : ∃ k : Nat, x5 = k := ⟨x5.toNat, by omega⟩; subst hxn; have hxl : xn < signs.size := (by omega); have B5 : Hid (Bt w p a0 len cap (.slice (some ⟨g, 0, none⟩) n c) l w5) := B4.out.went hc5 hg5; clear hc5 hg5; obtain ⟨u, hcx⟩ : ∃ u, signs[xn]'hxl = u := ⟨_, rfl⟩; obtain ⟨v0, q0, q1⟩ := bt_cell B5.out kk (by have := hln.out; omega))
          | (fail))
        · go_roundw
          case measure => simp [intOf]; omega
          case rel => exact ⟨some ⟨g, 0, none⟩, n, c, k - 1, l.set kk u, rfl, by rw [Int.natCast_sub (by omega)]; rfl, by omega, by omega, by unfold Hid; rw [List.length_set]; exact hln.out, bt_setn B5.out hln.out kk (by omega) u⟩
        · go_roundw
          case measure => simp [intOf]; omega
          case rel => exact ⟨some ⟨g, 0, none⟩, kk, c, k - 1, l.take kk, rfl, by rw [Int.natCast_sub (by omega)]; rfl, by omega, by omega, by unfold Hid; rw [List.length_take]; have := hln.out; omega, bt_headn B4.out hln.out kk (by omega)⟩
        · have Q0 := bt_ben B4.out hln.out hne
          obtain ⟨B0, hB0⟩ := hid_ex w4.heap.size
          rw [hB0.out] at Q0
          obtain ⟨k1, hk1⟩ : ∃ k1, Hid (k1 = kk + 1) := ⟨_, rfl⟩
          have hk1' := hk1.out
          have hkl : kk ≤ l.length := by have := hln.out; omega
          have hw1 : IntKind.i64.wrap ((kk : Int) + 1) = (k1 : Int) := by rw [IntKind.wrap_i64]; omega
          have hk1n : (k1 : Int) ≤ (n : Int) := by omega
          have hnc : (n : Int) ≤ (c : Int) := by omega
          have hln2 := hln.out
          have Q := Q0.low (w' := w4.drew) ((Below.refl _ _).drew.mono (Nat.le_of_eq hB0.out.symm))
          clear Q0
          have HX : Hid (k1 = kk + 1) := hk1'
          have hkl1 : k1 ≤ l.length := by omega
          have hlk : Hid ((l.take kk).length = kk) := by unfold Hid; rw [List.length_take]; omega
          have hld : Hid ((l.drop k1).length = n - k1) := by unfold Hid; rw [List.length_drop]; omega
          have hsm : n ≤ 1000010 := by omega
          by_cases hck : c = k1
          · subst hck
            have hd : l.drop c = [] := List.drop_of_length_le (by omega)
            have e0 : n - c = 0 := by omega
            clear hk1' hln2
            refine wp_region_held_drew (S := fun w' => True) (by kernel_rfl) (trivial) (fun hHeld => ?_)
            obtain ⟨wx, hwx⟩ := hid_ex w4.drew
            rw [hwx.out] at Q ⊢
            refine wpAnyH_take (i := 1) (oi := { dst := some 48, op := Op.move (Operand.tmp 7), type := 22, pos := "l01_draw.go:115", after := #[], guard := none }) (v := ?_) rfl (by kernel_rfl) (by kernel_rfl) (by kernel_rfl) (fun _ _ _ h => h) (Or.inl ⟨by rfl, ?_⟩) (by assumption) ?_
            rotate_left 1
            · intro w' hSw
              (try dsimp only at hSw)
              go_simp
              (try with_reducible rfl)
            (try simp only [Act.put, List.setIfInBounds_toArray, List.set_cons_zero, List.set_cons_succ])
            refine wpAnyH_take (i := 2) (oi := { dst := some 49, op := Op.move (Operand.tmp 9), type := 2, pos := "l01_draw.go:115", after := #[], guard := none }) (v := ?_) rfl (by kernel_rfl) (by kernel_rfl) (by kernel_rfl) (fun _ _ _ h => h) (Or.inl ⟨by rfl, ?_⟩) (by assumption) ?_
            rotate_left 1
            · intro w' hSw
              (try dsimp only at hSw)
              go_simp
              (try with_reducible rfl)
            (try simp only [Act.put, List.setIfInBounds_toArray, List.set_cons_zero, List.set_cons_succ])
            refine wpAnyH_take (i := 3) (oi := { dst := some 50, op := Op.slice 22 (Operand.tmp 48) none (some (Operand.tmp 49)) none, type := 22, pos := "l01_draw.go:115", after := #[{ on := 1, ground := Ground.data }, { on := 2, ground := Ground.data }], guard := none }) (v := ?_) rfl (by kernel_rfl) (by kernel_rfl) (by kernel_rfl) (fun _ _ _ h => h) (Or.inl ⟨by rfl, ?_⟩) (by assumption) ?_
            rotate_left 1
            · intro w' hSw
              (try dsimp only at hSw)
              go_simp
              (try with_reducible rfl)
            (try simp only [Act.put, List.setIfInBounds_toArray, List.set_cons_zero, List.set_cons_succ])
            refine wpAnyH_take (i := 5) (oi := { dst := some 52, op := Op.move (Operand.tmp 7), type := 22, pos := "l01_draw.go:115", after := #[], guard := none }) (v := ?_) rfl (by kernel_rfl) (by kernel_rfl) (by kernel_rfl) (fun _ _ _ h => h) (Or.inl ⟨by rfl, ?_⟩) (by assumption) ?_
            rotate_left 1
            · intro w' hSw
              (try dsimp only at hSw)
              go_simp
              (try with_reducible rfl)
            (try simp only [Act.put, List.setIfInBounds_toArray, List.set_cons_zero, List.set_cons_succ])
            refine wpAnyH_take (i := 6) (oi := { dst := some 53, op := Op.move (Operand.tmp 9), type := 2, pos := "l01_draw.go:115", after := #[], guard := none }) (v := ?_) rfl (by kernel_rfl) (by kernel_rfl) (by kernel_rfl) (fun _ _ _ h => h) (Or.inl ⟨by rfl, ?_⟩) (by assumption) ?_
            rotate_left 1
            · intro w' hSw
              (try dsimp only at hSw)
              go_simp
              (try with_reducible rfl)
            (try simp only [Act.put, List.setIfInBounds_toArray, List.set_cons_zero, List.set_cons_succ])
            refine wpAnyH_take (i := 7) (oi := { dst := some 54, op := Op.binOp BinOp.add 2 (Operand.tmp 53) (Operand.const (Value.int IntKind.i64 1)) 2, type := 2, pos := "l01_draw.go:115", after := #[{ on := 6, ground := Ground.data }], guard := none }) (v := ?_) rfl (by kernel_rfl) (by kernel_rfl) (by kernel_rfl) (fun _ _ _ h => h) (Or.inl ⟨by rfl, ?_⟩) (by assumption) ?_
            rotate_left 1
            · intro w' hSw
              (try dsimp only at hSw)
              go_simp
              (try with_reducible rfl)
            (try simp only [Act.put, List.setIfInBounds_toArray, List.set_cons_zero, List.set_cons_succ])
            refine wpAnyH_take (i := 8) (oi := { dst := some 55, op := Op.slice 22 (Operand.tmp 52) (some (Operand.tmp 54)) none none, type := 22, pos := "l01_draw.go:115", after := #[{ on := 5, ground := Ground.data }, { on := 7, ground := Ground.data }], guard := none }) (v := ?_) rfl (by kernel_rfl) (by kernel_rfl) (by kernel_rfl) (fun _ _ _ h => h) (Or.inl ⟨by rfl, ?_⟩) (by assumption) ?_
            rotate_left 1
            · intro w' hSw
              (try dsimp only at hSw)
              go_simp
              (try with_reducible rfl)
            (try simp only [Act.put, List.setIfInBounds_toArray, List.set_cons_zero, List.set_cons_succ])
            refine wpAnyH_ready (rs := [0]) (by kernel_rfl) (by simp) ?_
            refine AllReadyH.cons (o := { dst := some 47, op := Op.buildSlice 22 0 #[], type := 22, pos := "l01_draw.go:115", after := #[], guard := none }) rfl (fun KC hKC => ?_) AllReadyH.nil
            go_simp
            obtain ⟨wb1, hwb1⟩ := hid_ex (wx.alloc (.cells #[] 5))
            have hBwb1 := bAl wx (.cells #[] 5)
            rw [hwb1.out] at hBwb1 ⊢
            replace Q := Q.low (hBwb1.mono Q.b0)
            (try replace o := o.grow hBwb1)
            refine hKC.out _ _ (trivial) (fun hHeld2 => ?_)
            clear hKC KC hHeld
            have hHeld := hHeld2
            clear hHeld2
            (try simp only [Act.put, List.setIfInBounds_toArray, List.set_cons_zero, List.set_cons_succ])
            refine wpAnyH_ready (rs := [4]) (by kernel_rfl) (by simp) ?_
            refine AllReadyH.cons (o := { dst := some 51, op := Op.call { callee := Callee.builtin Builtin.append, args := #[Operand.tmp 47, Operand.tmp 50], argTypes := #[22, 22] }, type := 22, pos := "l01_draw.go:115", after := #[{ on := 0, ground := Ground.data }, { on := 3, ground := Ground.data }], guard := none }) rfl (fun KC hKC => ?_) AllReadyH.nil
            refine step_append_g infoU rfl _ _ 22 rfl Tryz.underlying22 B0 _ _ [] rfl ((own_zero encU _ B0 0 _)) Q.b0 _ (l.take kk) rfl (Q.r.take kk hkl) (by have := hlk.out; simp only [List.length_nil]; omega) ?_
            intro v4 wa41 o4 hTwa41
            replace Q := Q.low hTwa41.low
            obtain ⟨A4, n4, c4, rfl⟩ := o4.slice
            rw [List.nil_append] at o4
            refine hKC.out _ _ (trivial) (fun hHeld2 => ?_)
            clear hKC KC hHeld
            have hHeld := hHeld2
            clear hHeld2
            (try simp only [Act.put, List.setIfInBounds_toArray, List.set_cons_zero, List.set_cons_succ])
            refine wpAnyH_ready (rs := [9]) (by kernel_rfl) (by simp) ?_
            refine AllReadyH.cons (o := { dst := some 56, op := Op.call { callee := Callee.builtin Builtin.append, args := #[Operand.tmp 51, Operand.tmp 55], argTypes := #[22, 22] }, type := 22, pos := "l01_draw.go:115", after := #[{ on := 4, ground := Ground.data }, { on := 8, ground := Ground.data }, { on := 4, ground := Ground.chain }], guard := none }) rfl (fun KC hKC => ?_) AllReadyH.nil
            refine step_append_g infoU rfl _ _ 22 rfl Tryz.underlying22 B0 _ _ (l.take kk) rfl (o4) Q.b0 _ (l.drop c) rfl (by rw [hd]; first | exact rd_zero encU _ _ _ (by unfold maxLen; omega) | (rw [e0]; exact rd_zero encU _ _ _ (by unfold maxLen; omega))) (by have := hlk.out; have := hld.out; omega) ?_
            intro v5 wa51 o5 hTwa51
            replace Q := Q.low hTwa51.low
            obtain ⟨A5, n5, c5, rfl⟩ := o5.slice
            refine hKC.out _ _ (trivial) (fun hHeld2 => ?_)
            clear hKC KC hHeld
            have hHeld := hHeld2
            clear hHeld2
            (try simp only [Act.put, List.setIfInBounds_toArray, List.set_cons_zero, List.set_cons_succ])
            refine wpAnyH_take (i := 10) (oi := { dst := some 7, op := Op.assign (Operand.tmp 56), type := 22, pos := "l01_draw.go:115", after := #[{ on := 9, ground := Ground.data }, { on := 9, ground := Ground.chain }, { on := 0, ground := Ground.phase }, { on := 1, ground := Ground.phase }, { on := 2, ground := Ground.phase }, { on := 3, ground := Ground.phase }, { on := 4, ground := Ground.phase }, { on := 5, ground := Ground.phase }, { on := 6, ground := Ground.phase }, { on := 7, ground := Ground.phase }, { on := 8, ground := Ground.phase }, { on := 9, ground := Ground.phase }], guard := none }) (v := ?_) rfl (by kernel_rfl) (by kernel_rfl) (by kernel_rfl) (fun _ _ _ h => h) (Or.inl ⟨by rfl, ?_⟩) (by assumption) ?_
            rotate_left 1
            · intro w' hSw
              (try dsimp only at hSw)
              go_simp
              (try with_reducible rfl)
            (try simp only [Act.put, List.setIfInBounds_toArray, List.set_cons_zero, List.set_cons_succ])
            refine wpAnyH_done (by kernel_rfl) ?_ _
            go_wp2
            go_roundw
            case measure => simp [intOf]; omega
            case rel => exact ⟨A5, n5, c5, k - 1, _, rfl, by rw [Int.natCast_sub (by omega)]; rfl, by omega, by have := o5.rd.cap.1; rw [List.length_append] at this; have := hlk.out; have := hld.out; have := HX.out; omega, o5.rd.cap.1.symm, bt_own Q.d o5 Q.wB⟩
          · clear hk1' hln2
            refine wp_region_held_drew (S := fun w' => True) (by kernel_rfl) (trivial) (fun hHeld => ?_)
            obtain ⟨wx, hwx⟩ := hid_ex w4.drew
            rw [hwx.out] at Q ⊢
            refine wpAnyH_take (i := 1) (oi := { dst := some 48, op := Op.move (Operand.tmp 7), type := 22, pos := "l01_draw.go:115", after := #[], guard := none }) (v := ?_) rfl (by kernel_rfl) (by kernel_rfl) (by kernel_rfl) (fun _ _ _ h => h) (Or.inl ⟨by rfl, ?_⟩) (by assumption) ?_
            rotate_left 1
            · intro w' hSw
              (try dsimp only at hSw)
              go_simp
              (try with_reducible rfl)
            (try simp only [Act.put, List.setIfInBounds_toArray, List.set_cons_zero, List.set_cons_succ])
            refine wpAnyH_take (i := 2) (oi := { dst := some 49, op := Op.move (Operand.tmp 9), type := 2, pos := "l01_draw.go:115", after := #[], guard := none }) (v := ?_) rfl (by kernel_rfl) (by kernel_rfl) (by kernel_rfl) (fun _ _ _ h => h) (Or.inl ⟨by rfl, ?_⟩) (by assumption) ?_
            rotate_left 1
            · intro w' hSw
              (try dsimp only at hSw)
              go_simp
              (try with_reducible rfl)
            (try simp only [Act.put, List.setIfInBounds_toArray, List.set_cons_zero, List.set_cons_succ])
            refine wpAnyH_take (i := 3) (oi := { dst := some 50, op := Op.slice 22 (Operand.tmp 48) none (some (Operand.tmp 49)) none, type := 22, pos := "l01_draw.go:115", after := #[{ on := 1, ground := Ground.data }, { on := 2, ground := Ground.data }], guard := none }) (v := ?_) rfl (by kernel_rfl) (by kernel_rfl) (by kernel_rfl) (fun _ _ _ h => h) (Or.inl ⟨by rfl, ?_⟩) (by assumption) ?_
            rotate_left 1
            · intro w' hSw
              (try dsimp only at hSw)
              go_simp
              (try with_reducible rfl)
            (try simp only [Act.put, List.setIfInBounds_toArray, List.set_cons_zero, List.set_cons_succ])
            refine wpAnyH_take (i := 5) (oi := { dst := some 52, op := Op.move (Operand.tmp 7), type := 22, pos := "l01_draw.go:115", after := #[], guard := none }) (v := ?_) rfl (by kernel_rfl) (by kernel_rfl) (by kernel_rfl) (fun _ _ _ h => h) (Or.inl ⟨by rfl, ?_⟩) (by assumption) ?_
            rotate_left 1
            · intro w' hSw
              (try dsimp only at hSw)
              go_simp
              (try with_reducible rfl)
            (try simp only [Act.put, List.setIfInBounds_toArray, List.set_cons_zero, List.set_cons_succ])
            refine wpAnyH_take (i := 6) (oi := { dst := some 53, op := Op.move (Operand.tmp 9), type := 2, pos := "l01_draw.go:115", after := #[], guard := none }) (v := ?_) rfl (by kernel_rfl) (by kernel_rfl) (by kernel_rfl) (fun _ _ _ h => h) (Or.inl ⟨by rfl, ?_⟩) (by assumption) ?_
            rotate_left 1
            · intro w' hSw
              (try dsimp only at hSw)
              go_simp
              (try with_reducible rfl)
            (try simp only [Act.put, List.setIfInBounds_toArray, List.set_cons_zero, List.set_cons_succ])
            refine wpAnyH_take (i := 7) (oi := { dst := some 54, op := Op.binOp BinOp.add 2 (Operand.tmp 53) (Operand.const (Value.int IntKind.i64 1)) 2, type := 2, pos := "l01_draw.go:115", after := #[{ on := 6, ground := Ground.data }], guard := none }) (v := ?_) rfl (by kernel_rfl) (by kernel_rfl) (by kernel_rfl) (fun _ _ _ h => h) (Or.inl ⟨by rfl, ?_⟩) (by assumption) ?_
            rotate_left 1
            · intro w' hSw
              (try dsimp only at hSw)
              go_simp
              (try with_reducible rfl)
            (try simp only [Act.put, List.setIfInBounds_toArray, List.set_cons_zero, List.set_cons_succ])
            refine wpAnyH_take (i := 8) (oi := { dst := some 55, op := Op.slice 22 (Operand.tmp 52) (some (Operand.tmp 54)) none none, type := 22, pos := "l01_draw.go:115", after := #[{ on := 5, ground := Ground.data }, { on := 7, ground := Ground.data }], guard := none }) (v := ?_) rfl (by kernel_rfl) (by kernel_rfl) (by kernel_rfl) (fun _ _ _ h => h) (Or.inl ⟨by rfl, ?_⟩) (by assumption) ?_
            rotate_left 1
            · intro w' hSw
              (try dsimp only at hSw)
              go_simp
              (try with_reducible rfl)
            (try simp only [Act.put, List.setIfInBounds_toArray, List.set_cons_zero, List.set_cons_succ])
            refine wpAnyH_ready (rs := [0]) (by kernel_rfl) (by simp) ?_
            refine AllReadyH.cons (o := { dst := some 47, op := Op.buildSlice 22 0 #[], type := 22, pos := "l01_draw.go:115", after := #[], guard := none }) rfl (fun KC hKC => ?_) AllReadyH.nil
            go_simp
            obtain ⟨wb2, hwb2⟩ := hid_ex (wx.alloc (.cells #[] 5))
            have hBwb2 := bAl wx (.cells #[] 5)
            rw [hwb2.out] at hBwb2 ⊢
            replace Q := Q.low (hBwb2.mono Q.b0)
            (try replace o := o.grow hBwb2)
            refine hKC.out _ _ (trivial) (fun hHeld2 => ?_)
            clear hKC KC hHeld
            have hHeld := hHeld2
            clear hHeld2
            (try simp only [Act.put, List.setIfInBounds_toArray, List.set_cons_zero, List.set_cons_succ])
            refine wpAnyH_ready (rs := [4]) (by kernel_rfl) (by simp) ?_
            refine AllReadyH.cons (o := { dst := some 51, op := Op.call { callee := Callee.builtin Builtin.append, args := #[Operand.tmp 47, Operand.tmp 50], argTypes := #[22, 22] }, type := 22, pos := "l01_draw.go:115", after := #[{ on := 0, ground := Ground.data }, { on := 3, ground := Ground.data }], guard := none }) rfl (fun KC hKC => ?_) AllReadyH.nil
            refine step_append_g infoU rfl _ _ 22 rfl Tryz.underlying22 B0 _ _ [] rfl ((own_zero encU _ B0 0 _)) Q.b0 _ (l.take kk) rfl (Q.r.take kk hkl) (by have := hlk.out; simp only [List.length_nil]; omega) ?_
            intro v4 wa41 o4 hTwa41
            replace Q := Q.low hTwa41.low
            obtain ⟨A4, n4, c4, rfl⟩ := o4.slice
            rw [List.nil_append] at o4
            refine hKC.out _ _ (trivial) (fun hHeld2 => ?_)
            clear hKC KC hHeld
            have hHeld := hHeld2
            clear hHeld2
            (try simp only [Act.put, List.setIfInBounds_toArray, List.set_cons_zero, List.set_cons_succ])
            refine wpAnyH_ready (rs := [9]) (by kernel_rfl) (by simp) ?_
            refine AllReadyH.cons (o := { dst := some 56, op := Op.call { callee := Callee.builtin Builtin.append, args := #[Operand.tmp 51, Operand.tmp 55], argTypes := #[22, 22] }, type := 22, pos := "l01_draw.go:115", after := #[{ on := 4, ground := Ground.data }, { on := 8, ground := Ground.data }, { on := 4, ground := Ground.chain }], guard := none }) rfl (fun KC hKC => ?_) AllReadyH.nil
            have RK : Rd encU wa41 (.slice (some ⟨g, k1, none⟩) (n - k1) (c - k1)) (l.drop k1) := by have := Q.r.drop k1 hkl1; simpa [encU] using this
            refine step_append_g infoU rfl _ _ 22 rfl Tryz.underlying22 B0 _ _ (l.take kk) rfl (o4) Q.b0 _ (l.drop k1) rfl (RK) (by have := hlk.out; have := hld.out; omega) ?_
            intro v5 wa51 o5 hTwa51
            replace Q := Q.low hTwa51.low
            obtain ⟨A5, n5, c5, rfl⟩ := o5.slice
            refine hKC.out _ _ (trivial) (fun hHeld2 => ?_)
            clear hKC KC hHeld
            have hHeld := hHeld2
            clear hHeld2
            (try simp only [Act.put, List.setIfInBounds_toArray, List.set_cons_zero, List.set_cons_succ])
            refine wpAnyH_take (i := 10) (oi := { dst := some 7, op := Op.assign (Operand.tmp 56), type := 22, pos := "l01_draw.go:115", after := #[{ on := 9, ground := Ground.data }, { on := 9, ground := Ground.chain }, { on := 0, ground := Ground.phase }, { on := 1, ground := Ground.phase }, { on := 2, ground := Ground.phase }, { on := 3, ground := Ground.phase }, { on := 4, ground := Ground.phase }, { on := 5, ground := Ground.phase }, { on := 6, ground := Ground.phase }, { on := 7, ground := Ground.phase }, { on := 8, ground := Ground.phase }, { on := 9, ground := Ground.phase }], guard := none }) (v := ?_) rfl (by kernel_rfl) (by kernel_rfl) (by kernel_rfl) (fun _ _ _ h => h) (Or.inl ⟨by rfl, ?_⟩) (by assumption) ?_
            rotate_left 1
            · intro w' hSw
              (try dsimp only at hSw)
              go_simp
              (try with_reducible rfl)
            (try simp only [Act.put, List.setIfInBounds_toArray, List.set_cons_zero, List.set_cons_succ])
            refine wpAnyH_done (by kernel_rfl) ?_ _
            go_wp2
            go_roundw
            case measure => simp [intOf]; omega
            case rel => exact ⟨A5, n5, c5, k - 1, _, rfl, by rw [Int.natCast_sub (by omega)]; rfl, by omega, by have := o5.rd.cap.1; rw [List.length_append] at this; have := hlk.out; have := hld.out; have := HX.out; omega, o5.rd.cap.1.symm, bt_own Q.d o5 Q.wB⟩
        · have Q0 := bt_ben B4.out hln.out hne
          obtain ⟨B0, hB0⟩ := hid_ex w4.heap.size
          rw [hB0.out] at Q0
          have hkl : kk ≤ l.length := by have := hln.out; omega
          have hnc : (n : Int) ≤ (c : Int) := by omega
          have hkn : (kk : Int) ≤ (n : Int) := by omega
          have hck2 : ¬ c = kk := by omega
          have hlk : Hid ((l.take kk).length = kk) := by unfold Hid; rw [List.length_take]; omega
          have hld : Hid ((l.drop kk).length = n - kk) := by unfold Hid; rw [List.length_drop]; have := hln.out; omega
          have hsm : n ≤ 1000010 := by omega
          have Q := Q0.low (w' := w4.drew) ((Below.refl _ _).drew.mono (Nat.le_of_eq hB0.out.symm))
          clear Q0
          refine wp_region_held_drew (S := fun w' => True) (by kernel_rfl) (trivial) (fun hHeld => ?_)
          obtain ⟨wx, hwx⟩ := hid_ex w4.drew
          rw [hwx.out] at Q ⊢
          refine wpAnyH_take (i := 1) (oi := { dst := some 60, op := Op.move (Operand.tmp 7), type := 22, pos := "l01_draw.go:117", after := #[], guard := none }) (v := ?_) rfl (by kernel_rfl) (by kernel_rfl) (by kernel_rfl) (fun _ _ _ h => h) (Or.inl ⟨by rfl, ?_⟩) (by assumption) ?_
          rotate_left 1
          · intro w' hSw
            (try dsimp only at hSw)
            go_simp
            (try with_reducible rfl)
          (try simp only [Act.put, List.setIfInBounds_toArray, List.set_cons_zero, List.set_cons_succ])
          refine wpAnyH_take (i := 2) (oi := { dst := some 61, op := Op.move (Operand.tmp 9), type := 2, pos := "l01_draw.go:117", after := #[], guard := none }) (v := ?_) rfl (by kernel_rfl) (by kernel_rfl) (by kernel_rfl) (fun _ _ _ h => h) (Or.inl ⟨by rfl, ?_⟩) (by assumption) ?_
          rotate_left 1
          · intro w' hSw
            (try dsimp only at hSw)
            go_simp
            (try with_reducible rfl)
          (try simp only [Act.put, List.setIfInBounds_toArray, List.set_cons_zero, List.set_cons_succ])
          refine wpAnyH_take (i := 3) (oi := { dst := some 62, op := Op.slice 22 (Operand.tmp 60) none (some (Operand.tmp 61)) none, type := 22, pos := "l01_draw.go:117", after := #[{ on := 1, ground := Ground.data }, { on := 2, ground := Ground.data }], guard := none }) (v := ?_) rfl (by kernel_rfl) (by kernel_rfl) (by kernel_rfl) (fun _ _ _ h => h) (Or.inl ⟨by rfl, ?_⟩) (by assumption) ?_
          rotate_left 1
          · intro w' hSw
            (try dsimp only at hSw)
            go_simp
            (try with_reducible rfl)
          (try simp only [Act.put, List.setIfInBounds_toArray, List.set_cons_zero, List.set_cons_succ])
          refine wpAnyH_take (i := 5) (oi := { dst := some 64, op := Op.move (Operand.tmp 2), type := 9, pos := "l01_draw.go:117", after := #[], guard := none }) (v := ?_) rfl (by kernel_rfl) (by kernel_rfl) (by kernel_rfl) (fun _ _ _ h => h) (Or.inl ⟨by rfl, ?_⟩) (by assumption) ?_
          rotate_left 1
          · intro w' hSw
            (try dsimp only at hSw)
            go_simp
            (try with_reducible rfl)
          (try simp only [Act.put, List.setIfInBounds_toArray, List.set_cons_zero, List.set_cons_succ])
          refine wpAnyH_take (i := 6) (oi := { dst := some 65, op := Op.move (Operand.tmp 0), type := 87, pos := "l01_draw.go:117", after := #[], guard := none }) (v := ?_) rfl (by kernel_rfl) (by kernel_rfl) (by kernel_rfl) (fun _ _ _ h => h) (Or.inl ⟨by rfl, ?_⟩) (by assumption) ?_
          rotate_left 1
          · intro w' hSw
            (try dsimp only at hSw)
            go_simp
            (try with_reducible rfl)
          (try simp only [Act.put, List.setIfInBounds_toArray, List.set_cons_zero, List.set_cons_succ])
          refine wpAnyH_take (i := 7) (oi := { dst := some 66, op := Op.move (Operand.tmp 2), type := 9, pos := "l01_draw.go:117", after := #[], guard := none }) (v := ?_) rfl (by kernel_rfl) (by kernel_rfl) (by kernel_rfl) (fun _ _ _ h => h) (Or.inl ⟨by rfl, ?_⟩) (by assumption) ?_
          rotate_left 1
          · intro w' hSw
            (try dsimp only at hSw)
            go_simp
            (try with_reducible rfl)
          (try simp only [Act.put, List.setIfInBounds_toArray, List.set_cons_zero, List.set_cons_succ])
          refine wpAnyH_take (i := 8) (oi := { dst := some 67, op := Op.call { callee := Callee.builtin Builtin.len, args := #[Operand.tmp 66], argTypes := #[9] }, type := 3, pos := "l01_draw.go:117", after := #[{ on := 7, ground := Ground.data }], guard := none }) (v := ?_) rfl (by kernel_rfl) (by kernel_rfl) (by kernel_rfl) (fun _ _ _ h => h) (Or.inl ⟨by rfl, ?_⟩) (by assumption) ?_
          rotate_left 1
          · intro w' hSw
            (try dsimp only at hSw)
            go_simp
            (try with_reducible rfl)
          (try simp only [Act.put, List.setIfInBounds_toArray, List.set_cons_zero, List.set_cons_succ])
          refine wpAnyH_take (i := 13) (oi := { dst := some 72, op := Op.move (Operand.tmp 7), type := 22, pos := "l01_draw.go:117", after := #[], guard := none }) (v := ?_) rfl (by kernel_rfl) (by kernel_rfl) (by kernel_rfl) (fun _ _ _ h => h) (Or.inl ⟨by rfl, ?_⟩) (by assumption) ?_
          rotate_left 1
          · intro w' hSw
            (try dsimp only at hSw)
            go_simp
            (try with_reducible rfl)
          (try simp only [Act.put, List.setIfInBounds_toArray, List.set_cons_zero, List.set_cons_succ])
          refine wpAnyH_take (i := 14) (oi := { dst := some 73, op := Op.move (Operand.tmp 9), type := 2, pos := "l01_draw.go:117", after := #[], guard := none }) (v := ?_) rfl (by kernel_rfl) (by kernel_rfl) (by kernel_rfl) (fun _ _ _ h => h) (Or.inl ⟨by rfl, ?_⟩) (by assumption) ?_
          rotate_left 1
          · intro w' hSw
            (try dsimp only at hSw)
            go_simp
            (try with_reducible rfl)
          (try simp only [Act.put, List.setIfInBounds_toArray, List.set_cons_zero, List.set_cons_succ])
          refine wpAnyH_take (i := 15) (oi := { dst := some 74, op := Op.slice 22 (Operand.tmp 72) (some (Operand.tmp 73)) none none, type := 22, pos := "l01_draw.go:117", after := #[{ on := 13, ground := Ground.data }, { on := 14, ground := Ground.data }], guard := none }) (v := ?_) rfl (by kernel_rfl) (by kernel_rfl) (by kernel_rfl) (fun _ _ _ h => h) (Or.inl ⟨by rfl, ?_⟩) (by assumption) ?_
          rotate_left 1
          · intro w' hSw
            (try dsimp only at hSw)
            go_simp
            (try with_reducible rfl)
          (try simp only [Act.put, List.setIfInBounds_toArray, List.set_cons_zero, List.set_cons_succ])
          refine wpAnyH_ready (rs := [0]) (by kernel_rfl) (by simp) ?_
          refine AllReadyH.cons (o := { dst := some 59, op := Op.buildSlice 22 0 #[], type := 22, pos := "l01_draw.go:117", after := #[], guard := none }) rfl (fun KC hKC => ?_) AllReadyH.nil
          go_simp
          obtain ⟨wb3, hwb3⟩ := hid_ex (wx.alloc (.cells #[] 5))
          have hBwb3 := bAl wx (.cells #[] 5)
          rw [hwb3.out] at hBwb3 ⊢
          replace Q := Q.low (hBwb3.mono Q.b0)
          (try replace o := o.grow hBwb3)
          refine hKC.out _ _ (trivial) (fun hHeld2 => ?_)
          clear hKC KC hHeld
          have hHeld := hHeld2
          clear hHeld2
          (try simp only [Act.put, List.setIfInBounds_toArray, List.set_cons_zero, List.set_cons_succ])
          refine wpAnyH_ready (rs := [4]) (by kernel_rfl) (by simp) ?_
          refine AllReadyH.cons (o := { dst := some 63, op := Op.call { callee := Callee.builtin Builtin.append, args := #[Operand.tmp 59, Operand.tmp 62], argTypes := #[22, 22] }, type := 22, pos := "l01_draw.go:117", after := #[{ on := 0, ground := Ground.data }, { on := 3, ground := Ground.data }], guard := none }) rfl (fun KC hKC => ?_) AllReadyH.nil
          refine step_append_g infoU rfl _ _ 22 rfl Tryz.underlying22 B0 _ _ [] rfl ((own_zero encU _ B0 0 _)) Q.b0 _ (l.take kk) rfl (Q.r.take kk hkl) (by have := hlk.out; simp only [List.length_nil]; omega) ?_
          intro v4 wa41 o4 hTwa41
          replace Q := Q.low hTwa41.low
          obtain ⟨A4, n4, c4, rfl⟩ := o4.slice
          rw [List.nil_append] at o4
          refine hKC.out _ _ (trivial) (fun hHeld2 => ?_)
          clear hKC KC hHeld
          have hHeld := hHeld2
          clear hHeld2
          (try simp only [Act.put, List.setIfInBounds_toArray, List.set_cons_zero, List.set_cons_succ])
          refine wpAnyH_ready (rs := [9]) (by kernel_rfl) (by simp) ?_
          refine AllReadyH.cons (o := { dst := some 68, op := Op.call { callee := Callee.value (Operand.func 78), args := #[Operand.tmp 65, Operand.tmp 67], argTypes := #[87, 2] }, type := 2, pos := "l01_draw.go:117", after := #[{ on := 6, ground := Ground.data }, { on := 8, ground := Ground.data }, { on := 4, ground := Ground.chain }], guard := none }) rfl (fun KC hKC => ?_) AllReadyH.nil
          go_simp
          go_at_call 78
          refine (below_from _ _ p a0 len cap _ (by omega) Q.d.cur (World.grownBy.refl _ _)).mono ?_
          rintro e wd1 ⟨x, rfl, hx0, hx1, hcwd1, hgwd1⟩
          obtain ⟨xn, hxn⟩ : ∃ k : Nat, x = k := ⟨x.toNat, by omega⟩
          subst hxn
          have hxl : xn < signs.size := by omega
          (try replace o4 := own_went o4 Q.pB hgwd1)
          replace Q := Q.went hcwd1 hgwd1
          obtain ⟨u, hcx⟩ : ∃ u, signs[xn]'hxl = u := ⟨_, rfl⟩
          refine hKC.out _ _ (trivial) (fun hHeld2 => ?_)
          clear hKC KC hHeld
          have hHeld := hHeld2
          clear hHeld2
          (try simp only [Act.put, List.setIfInBounds_toArray, List.set_cons_zero, List.set_cons_succ])
          refine wpAnyH_take (i := 10) (oi := { dst := some 69, op := Op.index 9 (Operand.tmp 64) (Operand.tmp 68), type := 5, pos := "l01_draw.go:117", after := #[{ on := 5, ground := Ground.data }, { on := 9, ground := Ground.data }], guard := none }) (v := ?_) rfl (by kernel_rfl) (by kernel_rfl) (by kernel_rfl) (fun _ _ _ h => h) (Or.inl ⟨by rfl, ?_⟩) (by assumption) ?_
          rotate_left 1
          · intro w' hSw
            (try dsimp only at hSw)
            go_simp
            (try with_reducible rfl)
          (try simp only [Act.put, List.setIfInBounds_toArray, List.set_cons_zero, List.set_cons_succ])
          refine wpAnyH_ready (rs := [11]) (by kernel_rfl) (by simp) ?_
          refine AllReadyH.cons (o := { dst := some 70, op := Op.buildSlice 22 1 #[(0, Operand.tmp 69)], type := 22, pos := "l01_draw.go:117", after := #[{ on := 10, ground := Ground.data }], guard := none }) rfl (fun KC hKC => ?_) AllReadyH.nil
          go_simp
          obtain ⟨h1, hh1⟩ := hid_ex wd1.heap.size
          have R1 := rd_new (E := encU) wd1 u #[.int .u8 u.toNat] rfl
          obtain ⟨wc1, hwc1⟩ := hid_ex (wd1.alloc (.cells #[.int .u8 u.toNat] 5))
          have hBwc1 := bAl wd1 (.cells #[.int .u8 u.toNat] 5)
          replace R1 : Rd encU wc1 (.slice (some ⟨h1, 0, none⟩) 1 1) [u] := by rw [← hwc1.out, ← hh1.out]; exact R1
          rw [hwc1.out] at hBwc1 ⊢
          rw [hh1.out]
          replace Q := Q.low (hBwc1.mono Q.b0)
          (try replace o4 := o4.grow hBwc1)
          refine hKC.out _ _ (trivial) (fun hHeld2 => ?_)
          clear hKC KC hHeld
          have hHeld := hHeld2
          clear hHeld2
          (try simp only [Act.put, List.setIfInBounds_toArray, List.set_cons_zero, List.set_cons_succ])
          refine wpAnyH_ready (rs := [12]) (by kernel_rfl) (by simp) ?_
          refine AllReadyH.cons (o := { dst := some 71, op := Op.call { callee := Callee.builtin Builtin.append, args := #[Operand.tmp 63, Operand.tmp 70], argTypes := #[22, 22] }, type := 22, pos := "l01_draw.go:117", after := #[{ on := 4, ground := Ground.data }, { on := 11, ground := Ground.data }, { on := 9, ground := Ground.chain }], guard := none }) rfl (fun KC hKC => ?_) AllReadyH.nil
          refine step_append_g infoU rfl _ _ 22 rfl Tryz.underlying22 B0 _ _ (l.take kk) rfl (o4) Q.b0 _ [u] rfl (R1) (by have := hlk.out; simp only [List.length_singleton]; omega) ?_
          intro v6 wa61 o6 hTwa61
          replace Q := Q.low hTwa61.low
          obtain ⟨A6, n6, c6, rfl⟩ := o6.slice
          refine hKC.out _ _ (trivial) (fun hHeld2 => ?_)
          clear hKC KC hHeld
          have hHeld := hHeld2
          clear hHeld2
          (try simp only [Act.put, List.setIfInBounds_toArray, List.set_cons_zero, List.set_cons_succ])
          refine wpAnyH_ready (rs := [16]) (by kernel_rfl) (by simp) ?_
          refine AllReadyH.cons (o := { dst := some 75, op := Op.call { callee := Callee.builtin Builtin.append, args := #[Operand.tmp 71, Operand.tmp 74], argTypes := #[22, 22] }, type := 22, pos := "l01_draw.go:117", after := #[{ on := 12, ground := Ground.data }, { on := 15, ground := Ground.data }, { on := 12, ground := Ground.chain }], guard := none }) rfl (fun KC hKC => ?_) AllReadyH.nil
          have RK : Rd encU wa61 (.slice (some ⟨g, kk, none⟩) (n - kk) (c - kk)) (l.drop kk) := by have := Q.r.drop kk hkl; simpa [encU] using this
          refine step_append_g infoU rfl _ _ 22 rfl Tryz.underlying22 B0 _ _ (l.take kk ++ [u]) rfl (o6) Q.b0 _ (l.drop kk) rfl (RK) (by have := hlk.out; have := hld.out; simp only [List.length_append, List.length_singleton]; omega) ?_
          intro v5 wa51 o5 hTwa51
          replace Q := Q.low hTwa51.low
          obtain ⟨A5, n5, c5, rfl⟩ := o5.slice
          refine hKC.out _ _ (trivial) (fun hHeld2 => ?_)
          clear hKC KC hHeld
          have hHeld := hHeld2
          clear hHeld2
          (try simp only [Act.put, List.setIfInBounds_toArray, List.set_cons_zero, List.set_cons_succ])
          refine wpAnyH_take (i := 17) (oi := { dst := some 7, op := Op.assign (Operand.tmp 75), type := 22, pos := "l01_draw.go:117", after := #[{ on := 16, ground := Ground.data }, { on := 16, ground := Ground.chain }, { on := 0, ground := Ground.phase }, { on := 1, ground := Ground.phase }, { on := 2, ground := Ground.phase }, { on := 3, ground := Ground.phase }, { on := 4, ground := Ground.phase }, { on := 5, ground := Ground.phase }, { on := 6, ground := Ground.phase }, { on := 7, ground := Ground.phase }, { on := 8, ground := Ground.phase }, { on := 9, ground := Ground.phase }, { on := 10, ground := Ground.phase }, { on := 11, ground := Ground.phase }, { on := 12, ground := Ground.phase }, { on := 13, ground := Ground.phase }, { on := 14, ground := Ground.phase }, { on := 15, ground := Ground.phase }, { on := 16, ground := Ground.phase }], guard := none }) (v := ?_) rfl (by kernel_rfl) (by kernel_rfl) (by kernel_rfl) (fun _ _ _ h => h) (Or.inl ⟨by rfl, ?_⟩) (by assumption) ?_
          rotate_left 1
          · intro w' hSw
            (try dsimp only at hSw)
            go_simp
            (try with_reducible rfl)
          (try simp only [Act.put, List.setIfInBounds_toArray, List.set_cons_zero, List.set_cons_succ])
          refine wpAnyH_done (by kernel_rfl) ?_ _
          go_wp2
          go_roundw
          case measure => simp [intOf]; omega
          case rel => exact ⟨A5, n5, c5, k - 1, _, rfl, by rw [Int.natCast_sub (by omega)]; rfl, by omega, by have := o5.rd.cap.1; simp only [List.length_append, List.length_singleton] at this; have := hlk.out; have := hld.out; omega, o5.rd.cap.1.symm, bt_own Q.d o5 Q.wB⟩
      · have hnp' : ¬ (0 : Int) < (n : Int) := by omega
        have hcv := bt_conv hB.out
        go_wp2
        go_ret
        exact ⟨_, rfl, by show l.toArray.size ≤ _; simp; have := hln.out; omega, hB.out.d⟩
    · have hkp' : ¬ (0 : Int) < (k : Int) := by omega
      have hcv := bt_conv hB.out
      go_wp2
      go_ret
      exact ⟨_, rfl, by show l.toArray.size ≤ _; simp; have := hln.out; omega, hB.out.d⟩
end Go.Proofs.YtaabmkhckbndgaaGreatDoor.rg
