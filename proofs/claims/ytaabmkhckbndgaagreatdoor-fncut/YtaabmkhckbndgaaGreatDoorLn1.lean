/- Contracts: a line's words are read, the model's. -/
import Derived.Test.YtaabmkhckbndgaaGreatDoorCu3
import Derived.Test.YtaabmkhckbndgaaGreatDoorMg20
import Derived.Test.YtaabmkhckbndgaaGreatDoorMg13
import Derived.Test.YtaabmkhckbndgaaGreatDoorMg15
import Derived.Deep.DeepCutAuto
import Derived.Deep.RegionHeld3
import Derived.BigQuiet
import Derived.Deep.CutBlock
namespace Go.Proofs.YtaabmkhckbndgaaGreatDoor.cm
open Go.ChangeShapes Go.WideShapes Go.ChangeAt Go.RowKit
open Go.Deep Go.Joins
open Go.Proofs.YtaabmkhckbndgaaGreatDoor.ce Go.Proofs.YtaabmkhckbndgaaGreatDoor.ro Go.Proofs.YtaabmkhckbndgaaGreatDoor.rg
set_option linter.unusedVariables false

/-- while a line is read: the answer's variable, the command's -/
structure Ln (w wr : World) (b4 b7 : Nat) (cs : List Value) : Prop where
  V4 : VBlk wr b4 25 [.int .i64 0, .string ⟨#[]⟩, .int .i64 0, .int .i64 0, .string ⟨#[]⟩, .int .i64 0, .int .i64 0, .bool false]
  V7 : VBlk wr b7 25 cs
  b : Below w.heap.size w wr
  l4 : w.heap.size ≤ b4
  l7 : w.heap.size ≤ b7
  ne : b4 ≠ b7
theorem Ln.grow {w wr w' : World} {b4 b7 : Nat} {cs : List Value} (h : Ln w wr b4 b7 cs) (hb : Below wr.heap.size wr w') : Ln w w' b4 b7 cs := ⟨vblk_grow h.V4 hb, vblk_grow h.V7 hb, h.b.trans (hb.mono h.b.size), h.l4, h.l7, h.ne⟩
theorem Ln.ty {w wr w' : World} {b4 b7 : Nat} {cs : List Value} {t : TypeId} (h : Ln w wr b4 b7 cs) (hT : Ty w.heap.size t wr w') (ht : 25 ≠ t) : Ln w w' b4 b7 cs := ⟨hT.vblk h.V4 ht, hT.vblk h.V7 ht, h.b.trans hT.low, h.l4, h.l7, h.ne⟩
theorem Ln.set {w wr : World} {b4 b7 : Nat} {cs : List Value} (h : Ln w wr b4 b7 cs) (j : Nat) (x : Value) : Ln w (wr.setCell ⟨b7, j, none⟩ x) b4 b7 (cs.set j x) := ⟨vblk_only h.V4 (only_set wr b7 j x) h.ne, h.V7.set j x, h.b.trans ((only_set wr b7 j x).2.2 _ h.l7), h.l4, h.l7, h.ne⟩
/-- what is told of a line -/
def LR (v : Int) (W : List (List UInt8)) (c : Cm) (sz : Int) (b : Bool) : Prop := (b = true ∧ 0 ≤ sz ∧ lineL v W = some (c, sz.toNat)) ∨ (b = false ∧ lineL v W = none)
def PostL (v : Int) (W : List (List UInt8)) (w : World) (e : Ending) (w' : World) : Prop := ∃ (c : Cm) (sz : Int) (b : Bool), e = .returned (.tuple #[.agg (csCm c).toArray, .int .i64 sz, .bool b]) ∧ LR v W c sz b ∧ Below w.heap.size w w'
theorem quietB_is {v : Int} {L : List ByteArray} (hl : 1 ≤ L.length) : quietB v (L.map bs) = (decide (1 < L.length) && (bs (L[L.length - 1]'(by omega)) == quiet) && decide (2 < v) && (decide (2 < L.length) || decide (v = 13))) := by
  unfold quietB
  have e : (L.map bs).getLast? = some (bs (L[L.length - 1]'(by omega))) := by
    rw [List.getLast?_map, List.getLast?_eq_getElem?, List.getElem?_eq_getElem (by omega)]
    rfl
  rw [e, List.length_map]
  rfl
theorem quiet_text {x : ByteArray} : (x.toList == [113, 117, 105, 101, 116]) = (bs x == quiet) := by rw [bs_toList]; rfl

/-- a struct of eight cells stored cell by cell -/
theorem st8 {w : World} {b : Nat} {t : TypeId} {y0 y1 y2 y3 y4 y5 y6 y7 : Value} (V : VBlk w b t [y0, y1, y2, y3, y4, y5, y6, y7]) (x0 x1 x2 x3 x4 x5 x6 x7 : Value) : VBlk ((((((((w.setCell ⟨b, 0, none⟩ x0).setCell ⟨b, 1, none⟩ x1).setCell ⟨b, 2, none⟩ x2).setCell ⟨b, 3, none⟩ x3).setCell ⟨b, 4, none⟩ x4).setCell ⟨b, 5, none⟩ x5).setCell ⟨b, 6, none⟩ x6).setCell ⟨b, 7, none⟩ x7) b t [x0, x1, x2, x3, x4, x5, x6, x7] :=
  (((((((V.set 0 x0).set 1 x1).set 2 x2).set 3 x3).set 4 x4).set 5 x5).set 6 x6).set 7 x7
theorem onlyT {b : Nat} {x y z : World} (h : Only b x y) (k : Only b y z) : Only b x z := ⟨k.1.trans h.1, fun j hj => (k.2.1 j hj).trans (h.2.1 j hj), fun B hB => (h.2.2 B hB).trans (k.2.2 B hB)⟩
theorem st8o (w : World) (b : Nat) (x0 x1 x2 x3 x4 x5 x6 x7 : Value) : Only b w ((((((((w.setCell ⟨b, 0, none⟩ x0).setCell ⟨b, 1, none⟩ x1).setCell ⟨b, 2, none⟩ x2).setCell ⟨b, 3, none⟩ x3).setCell ⟨b, 4, none⟩ x4).setCell ⟨b, 5, none⟩ x5).setCell ⟨b, 6, none⟩ x6).setCell ⟨b, 7, none⟩ x7) :=
  onlyT (onlyT (onlyT (onlyT (onlyT (onlyT (onlyT (only_set w b 0 x0) (only_set _ b 1 x1)) (only_set _ b 2 x2)) (only_set _ b 3 x3)) (only_set _ b 4 x4)) (only_set _ b 5 x5)) (only_set _ b 6 x6)) (only_set _ b 7 x7)
theorem nat_cell {w : World} {lo hi g n k : Nat} {xs : List Int} (o : Own encN w lo hi (.slice (some ⟨g, 0, none⟩) n k) xs) (i : Nat) (h : i < xs.length) : w.cell? ⟨g, i, none⟩ = some (.int .i64 xs[i]) := by
  obtain ⟨b, off, e, -, h2⟩ := rdI_cell o.rd i h
  cases e
  simpa using h2
theorem line_short {v : Int} {W : List (List UInt8)} (h : v ≠ 13) (h2 : (plainW v W).length < 2) : lineL v W = none := by
  unfold lineL
  rw [if_pos (.inl ⟨h, h2⟩)]
theorem line_bad {v : Int} {W : List (List UInt8)} {x : List UInt8} (h : x ∈ restW v (plainW v W)) (hc : canon x = false) : lineL v W = none := by
  unfold lineL
  rw [if_pos (.inr (.inl fun q => by rw [q x h] at hc; cases hc))]
theorem line_len {v : Int} {W : List (List UInt8)} (h : (restW v (plainW v W)).length ≠ want v) : lineL v W = none := by
  unfold lineL
  rw [if_pos (.inr (.inr h))]
theorem line_end {v : Int} {W : List (List UInt8)} {ns : List Nat} {nm : ByteArray} {q : Bool} (h1 : ¬ (v ≠ 13 ∧ (plainW v W).length < 2)) (h2 : ∀ x ∈ restW v (plainW v W), canon x = true) (h3 : (restW v (plainW v W)).length = want v) (hn : ns = (restW v (plainW v W)).map (val 0)) (hm : nm = nameW v (plainW v W)) (hq : quietB v W = q) :
    (sizeN v ns ≤ 64 ∧ cmdB (build v q nm ns) = true → lineL v W = some (build v q nm ns, sizeN v ns)) ∧ (¬ (sizeN v ns ≤ 64 ∧ cmdB (build v q nm ns) = true) → lineL v W = none) := by
  subst hn hm hq
  unfold lineL
  rw [if_neg (by rintro (a | a | a); exact h1 a; exact a h2; exact a h3), cmdB_iff]
  exact ⟨fun h => if_pos h, fun h => if_neg h⟩
set_option maxRecDepth 100000 in
set_option maxHeartbeats 2000000 in
theorem l11Line_any (v : Int) (v0 : 1 ≤ v) (v1 : v ≤ 13) (L : List ByteArray) (vs : Value) (w : World) (r : Rd encS w vs L) (hl : 1 ≤ L.length) (hlen : L.length ≤ 1048577) (hs : ∀ x ∈ L, x.size ≤ 1048576) :
    Calls Tryz.prog 68 #[.int .i64 v, vs] w fun e w' => PostL v (L.map bs) w e w' := by
  obtain ⟨A, cap, rfl⟩ := r.form
  have RR : Hid (Rd encS w (.slice A L.length cap) L) := r
  have HS : Hid (∀ x ∈ L, x.size ≤ 1048576) := hs
  obtain ⟨q, hq⟩ := hid_ex (quietB v (L.map bs))
  have m1 : Hid True := trivial
  have m2 : Hid True := trivial
  clear r hs
  go_enter Tryz.func68, Tryz.ntmps68
  go_upto_region 3 with (first | (clear m1; refine wpList_alloc_v rfl 25 rfl _ zeroCm ?_; intro b4 w1 hb4 hw4 hB1 V4; have hz1 := hB1.size) | (clear m2; refine wpList_alloc_v rfl 25 rfl _ zeroCm ?_; intro b7 w2 hb7 hw7 hB2 V7; have hz2 := hB2.size; have V4b := vblk_grow V4 hB2) | (refine wpList_store_v rfl 25 _ _ rfl b7 [.int .i64 v, .string emp, .int .i64 0, .int .i64 0, .string emp, .int .i64 0, .int .i64 0, .bool false] rfl rfl sizeCm V7 rfl (oneCs _ _ _ _ _ _ _ _) ?_; intro w3 hO3 V7b; have SL : Ln w w3 b4 b7 [.int .i64 v, .string emp, .int .i64 0, .int .i64 0, .string emp, .int .i64 0, .int .i64 0, .bool false] := ⟨vblk_only V4b hO3 (by have := V4.lt; omega), V7b, (hB1.trans (hB2.mono hz1)).trans (hO3.2.2 _ (by omega)), hb4, by omega, by have := V4.lt; omega⟩; clear V7 V7b V4 V4b) | (fail))
  have S0 : Hid (Ln w w3 b4 b7 [.int .i64 v, .string emp, .int .i64 0, .int .i64 0, .string emp, .int .i64 0, .int .i64 0, .bool false]) := SL
  clear SL hO3 hB1 hB2
  have hl1 : L.length - 1 < L.length := by omega
  obtain ⟨g, off, rfl, hg, dd⟩ := rdS_cell (RR.out.grow S0.out.b) (L.length - 1) hl1
  obtain ⟨x, hx⟩ := hid_ex (L[L.length - 1])
  rw [hx.out] at dd
  have ew : IntKind.i64.wrap ((L.length : Int) - 1) = ((L.length - 1 : Nat) : Int) := by rw [IntKind.wrap_i64]; omega
  have hlt : ((L.length - 1 : Nat) : Int) < (L.length : Int) := by omega
  obtain ⟨p1, hp1⟩ := hid_ex (bs x == quiet)
  have hqt : (x.toList == [113, 117, 105, 101, 116]) = p1 := quiet_text.trans hp1.out
  have hqv : Hid (q = (decide (1 < L.length) && p1 && decide (2 < v) && (decide (2 < L.length) || decide (v = 13)))) := by
    unfold Hid
    rw [← hq.out, quietB_is hl, hx.out, hp1.out]
  go_cut [41] from 20 to 41 (fun u wc => u = .bool q ∧ w3 = wc)
  case first =>
    by_cases h1 : 1 < L.length
    · have h1' : (1 : Int) < (L.length : Int) := by omega
      cases p1 with
      | false =>
        have eq : q = false := by rw [hqv.out]; simp
        subst eq
        go_wp2
        go_meet
        case rel => exact ⟨rfl, rfl⟩
      | true =>
        by_cases h2 : 2 < v
        · by_cases h3 : 2 < L.length
          · have h3' : (2 : Int) < (L.length : Int) := by omega
            have eq : q = true := by rw [hqv.out, decide_eq_true h1, decide_eq_true h2, decide_eq_true h3]; rfl
            subst eq
            go_wp2
            go_meet
            case rel => exact ⟨rfl, rfl⟩
          · have h3' : ¬ (2 : Int) < (L.length : Int) := by omega
            have eq : q = (v == 13) := by rw [hqv.out, decide_eq_true h1, decide_eq_true h2, decide_eq_false h3]; rfl
            subst eq
            go_wp2
            go_meet
            case rel => exact ⟨rfl, rfl⟩
        · have eq : q = false := by rw [hqv.out, decide_eq_false h2]; simp
          subst eq
          go_wp2
          go_meet
          case rel => exact ⟨rfl, rfl⟩
    · have h1' : ¬ (1 : Int) < (L.length : Int) := by omega
      have eq : q = false := by rw [hqv.out, decide_eq_false h1]; simp
      subst eq
      go_wp2
      go_meet
      case rel => exact ⟨rfl, rfl⟩
  case rest =>
  obtain ⟨rfl, rfl⟩ := hcut
  have hcv : Hid (q = true → 1 < L.length) := fun h => by
    have := hqv.out
    rw [h] at this
    simp at this
    omega
  have hcp := RR.out.cap
  clear hqv hqt hp1 dd hx
  go_upto_if 41 with (fail)
  go_cut [1] from 41 to 46 (fun s1 wc => ∃ (n k : Nat) (L2 : List ByteArray), s1 = .slice (some ⟨g, off, none⟩) n k ∧ Hid (Rd encS w (.slice (some ⟨g, off, none⟩) n k) L2) ∧ n = L2.length ∧ Hid (L2.map bs = plainW v (L.map bs)) ∧ Hid (∀ x ∈ L2, x.size ≤ 1048576) ∧ 1 ≤ L2.length ∧ L2.length ≤ 1048577 ∧ Hid (Ln w wc b4 b7 [.int .i64 v, .string emp, .int .i64 0, .int .i64 0, .string emp, .int .i64 0, .int .i64 0, .bool q]))
  case first =>
    cases q with
    | false =>
      go_wp2
      go_meet
      case rel => exact ⟨L.length, cap, L, rfl, RR, rfl, by unfold Hid plainW; rw [hq.out]; rfl, HS, hl, hlen, S0⟩
    | true =>
      have h1 := hcv.out rfl
      have hle : ((L.length - 1 : Nat) : Int) ≤ (cap : Int) := by omega
      have f7 := S0.out.V7.frozen 7
      have c7 := S0.out.V7.cell 7 (by simp)
      go_wp2
      go_meet
      case rel =>
        refine ⟨L.length - 1, cap, L.take (L.length - 1), ?_, RR.out.take (L.length - 1) (by omega), by rw [List.length_take]; omega, ?_, fun x hx => HS.out x (List.mem_of_mem_take hx), by rw [List.length_take]; omega, by rw [List.length_take]; omega, S0.out.set 7 (.bool true)⟩
        · simp
        · unfold Hid plainW
          rw [hq.out, if_pos rfl, List.dropLast_eq_take, List.length_map, List.map_take]
  case rest =>
  obtain ⟨n2, k2, L2, rfl, R2, hn2, hP2, HS2, hl2, hm2, S2⟩ := hcut
  clear HS RR S0 hcv hcp ew hlt hl1
  subst hn2
  obtain ⟨kk, hkk⟩ := hid_ex (if v = 13 then 1 else 2)
  go_upto_if 48 with (fail)
  go_cut [9] from 48 to 56 (fun s9 wc => ∃ (nm : ByteArray), s9 = .int .i64 kk ∧ kk ≤ L2.length ∧ 1 ≤ kk ∧ kk ≤ 2 ∧ nm.size ≤ 1048576 ∧ Hid (nm = nameW v (L2.map bs)) ∧ Hid (¬ (v ≠ 13 ∧ L2.length < 2)) ∧ Hid (Ln w wc b4 b7 [.int .i64 v, .string nm, .int .i64 0, .int .i64 0, .string emp, .int .i64 0, .int .i64 0, .bool q]))
  case first =>
    by_cases h13 : v = 13
    · have e13 : (v != 13) = false := by simp [h13]
      have ek : kk = 1 := by rw [← hkk.out, if_pos h13]
      subst ek
      go_wp2
      go_meet
      case rel => exact ⟨emp, rfl, by omega, by omega, by omega, by decide, by unfold Hid nameW; rw [if_pos h13], fun h => h.1 h13, S2⟩
    · have e13 : (v != 13) = true := by simp [h13]
      have ek : kk = 2 := by rw [← hkk.out, if_neg h13]
      subst ek
      by_cases h2 : (L2.length : Int) < 2
      · have hnone : Hid (lineL v (L.map bs) = none) := by
          refine line_short h13 ?_
          rw [← hP2.out, List.length_map]
          omega
        clear h13
        go_wp2_with (first | (refine wpList_load_r rfl 25 _ rfl b7 0 [.int .i64 v, .string emp, .int .i64 0, .int .i64 0, .string emp, .int .i64 0, .int .i64 0, .bool q] rfl _ Tryz.underlying25 rfl sizeCm S2.out.V7.range ?_) | (refine wpList_store_v rfl 25 _ _ rfl b4 [.int .i64 v, .string emp, .int .i64 0, .int .i64 0, .string emp, .int .i64 0, .int .i64 0, .bool q] rfl rfl sizeCm S2.out.V4 rfl (oneCs _ _ _ _ _ _ _ _) ?_; intro w9 hO9 V9) | (fail))
        exact row_ctt rfl rfl rfl rfl V9 Tryz.underlying25 sizeCm rfl ⟨⟨v, _, 0, 0, emp, 0, 0, _⟩, 0, false, rfl, .inr ⟨rfl, hnone.out⟩, S2.out.b.trans (hO9.2.2 _ S2.out.l4)⟩
      · obtain ⟨g2, o2, e2, hg2, d2⟩ := rdS_cell (R2.out.grow S2.out.b) 1 (by omega)
        cases e2
        obtain ⟨x, hx⟩ := hid_ex (L2[1]'(by omega))
        rw [hx.out] at d2
        have hnx : Hid (x = nameW v (L2.map bs)) := by
          unfold Hid nameW
          rw [if_neg h13, List.getElem?_map, List.getElem?_eq_getElem (by omega : 1 < L2.length), hx.out]
          exact (tx_bs x).symm
        have hxs : x.size ≤ 1048576 := by rw [← hx.out]; exact HS2.out _ (List.getElem_mem _)
        have h1' : (1 : Int) < (L2.length : Int) := by omega
        have f7 := S2.out.V7.frozen 1
        have c7 := S2.out.V7.cell 1 (by simp)
        have hnn : Hid (¬ (v ≠ 13 ∧ L2.length < 2)) := fun h => by have := h.2; omega
        clear h13
        go_wp2
        go_meet
        case rel => exact ⟨x, rfl, by omega, by omega, by omega, hxs, hnx, hnn, S2.out.set 1 (.string x)⟩
  case rest =>
  obtain ⟨nm, rfl, hk2, hk0, hk1, hns, hnm, hnn, S3⟩ := hcut
  clear S2
  have hrest : Hid (restW v (plainW v (L.map bs)) = (L2.map bs).drop kk) := by unfold Hid restW; rw [hP2.out, hkk.out]
  go_wp2
  go_loopw [10, 11] (fun o p wr => ∃ (i : Nat) (A : Option Addr) (n k : Nat) (ns : List Nat), p = .int .i64 i ∧ o = .slice A n k ∧ kk ≤ i ∧ i ≤ L2.length ∧ Hid (Own encN wr w.heap.size wr.heap.size (.slice A n k) (ns.map Int.ofNat)) ∧ ns.length ≤ i ∧ Hid (ns = (((L2.map bs).drop kk).take (i - kk)).map (val 0)) ∧ Hid (∀ x ∈ ((L2.map bs).drop kk).take (i - kk), canon x = true) ∧ Hid (Ln w wr b4 b7 [.int .i64 v, .string nm, .int .i64 0, .int .i64 0, .string emp, .int .i64 0, .int .i64 0, .bool q])) (fun _ p _ => L2.length - (intOf p).toNat)
  case atStart => exact ⟨kk, _, _, _, [], rfl, rfl, Nat.le_refl _, hk2, own_zero _ _ _ _ _, by simp, by unfold Hid; simp, fun x hx => by simp at hx, S3.out.grow (bAl _ _)⟩
  case round =>
    obtain ⟨i, A3, n3, k3, ns, rfl, rfl, hi0, hi1, O3, hn3, hN3, hC3, S4⟩ := hrel
    have hz4 := S4.out.b.size
    by_cases hlt : i < L2.length
    · have hlt' : (i : Int) < (L2.length : Int) := by omega
      obtain ⟨g3, o3, e3, hg3, d3⟩ := rdS_cell (R2.out.grow S4.out.b) i hlt
      cases e3
      have hsz := HS2.out L2[i] (List.getElem_mem hlt)
      have htk : ((L2.map bs).drop kk).take (i + 1 - kk) = ((L2.map bs).drop kk).take (i - kk) ++ [bs L2[i]] := by
        have hj : i - kk < ((L2.map bs).drop kk).length := by rw [List.length_drop, List.length_map]; omega
        rw [show i + 1 - kk = (i - kk) + 1 by omega, List.take_succ_eq_append_getElem hj]
        simp [show kk + (i - kk) = i by omega]
      have hmem : bs L2[i] ∈ restW v (plainW v (L.map bs)) := by
        rw [hrest.out]
        have hj : i - kk < ((L2.map bs).drop kk).length := by rw [List.length_drop, List.length_map]; omega
        have := List.getElem_mem hj
        simpa [show kk + (i - kk) = i by omega] using this
      obtain ⟨x, hx⟩ := hid_ex (L2[i])
      rw [hx.out] at d3 hsz htk hmem
      have HT : Hid (((L2.map bs).drop kk).take (i + 1 - kk) = ((L2.map bs).drop kk).take (i - kk) ++ [bs x]) := htk
      have HM : Hid (bs x ∈ restW v (plainW v (L.map bs))) := hmem
      clear htk hmem
      obtain ⟨a, ha⟩ := hid_ex (rdF (bs x)).1
      obtain ⟨b, hb⟩ := hid_ex (rdF (bs x)).2
      have hab : Hid (rdF (bs x) = (a, b)) := by unfold Hid; rw [← ha.out, ← hb.out]
      cases b with
      | false =>
        have hnone : Hid (lineL v (L.map bs) = none) := line_bad HM.out (rdF_no hb.out).2
        clear HT hN3 hC3 O3
        go_wp2_with (first | (go_at_call 85; refine (l1Read_is x hsz _ a _ hab).mono ?_; rintro e wq ⟨rfl, hq⟩; subst wq) | (refine wpList_load_r rfl 25 _ rfl b7 0 [.int .i64 v, .string nm, .int .i64 0, .int .i64 0, .string emp, .int .i64 0, .int .i64 0, .bool q] rfl _ Tryz.underlying25 rfl sizeCm S4.out.V7.range ?_) | (refine wpList_store_v rfl 25 _ _ rfl b4 [.int .i64 v, .string nm, .int .i64 0, .int .i64 0, .string emp, .int .i64 0, .int .i64 0, .bool q] rfl rfl sizeCm S4.out.V4 rfl (oneCs _ _ _ _ _ _ _ _) ?_; intro w9 hO9 V9) | (fail))
        exact row_ctt rfl rfl rfl rfl V9 Tryz.underlying25 sizeCm rfl ⟨⟨v, _, 0, 0, emp, 0, 0, _⟩, 0, false, rfl, .inr ⟨rfl, hnone.out⟩, S4.out.b.trans (hO9.2.2 _ S4.out.l4)⟩
      | true =>
        by_cases hneg : a < 0
        · have hnone : Hid (lineL v (L.map bs) = none) := by
            refine line_bad HM.out ?_
            cases hc : canon (bs x) with
            | false => rfl
            | true =>
              have := ha.out
              rw [rdF_yes hc] at this
              simp at this
              omega
          clear HT hN3 hC3 O3
          go_wp2_with (first | (go_at_call 85; refine (l1Read_is x hsz _ a _ hab).mono ?_; rintro e wq ⟨rfl, hq⟩; subst wq) | (refine wpList_load_r rfl 25 _ rfl b7 0 [.int .i64 v, .string nm, .int .i64 0, .int .i64 0, .string emp, .int .i64 0, .int .i64 0, .bool q] rfl _ Tryz.underlying25 rfl sizeCm S4.out.V7.range ?_) | (refine wpList_store_v rfl 25 _ _ rfl b4 [.int .i64 v, .string nm, .int .i64 0, .int .i64 0, .string emp, .int .i64 0, .int .i64 0, .bool q] rfl rfl sizeCm S4.out.V4 rfl (oneCs _ _ _ _ _ _ _ _) ?_; intro w9 hO9 V9) | (fail))
          exact row_ctt rfl rfl rfl rfl V9 Tryz.underlying25 sizeCm rfl ⟨⟨v, _, 0, 0, emp, 0, 0, _⟩, 0, false, rfl, .inr ⟨rfl, hnone.out⟩, S4.out.b.trans (hO9.2.2 _ S4.out.l4)⟩
        · have hcan : canon (bs x) = true := rdF_nat hb.out (by rw [ha.out]; omega)
          obtain ⟨y, rfl⟩ : ∃ y : Nat, a = y := ⟨a.toNat, by omega⟩
          have hy : Hid (val 0 (bs x) = y) := by
            have := ha.out
            rw [rdF_yes hcan] at this
            unfold Hid
            simp at this
            omega
          have hN4 : Hid (ns ++ [y] = (((L2.map bs).drop kk).take (i + 1 - kk)).map (val 0)) := by
            unfold Hid
            rw [HT.out, List.map_append, ← hN3.out, List.map_cons, hy.out]
            rfl
          have hC4 : Hid (∀ z ∈ ((L2.map bs).drop kk).take (i + 1 - kk), canon z = true) := by
            intro z hz
            rw [HT.out] at hz
            rcases List.mem_append.1 hz with q | q
            · exact hC3.out z q
            · rw [List.mem_singleton.1 q]; exact hcan
          have O4 : Hid (Own encN wr w.heap.size wr.heap.size (.slice A3 n3 k3) (ns.map Int.ofNat)) := O3
          clear HT hN3 hC3 O3 hcan
          go_wp2_with (first | (go_at_call 85; refine (l1Read_is x hsz _ _ _ hab).mono ?_; rintro e wq ⟨rfl, hq⟩; subst wq) | (at_builtin; refine wpList_append_g infoN rfl _ _ 36 rfl Tryz.underlying36 w.heap.size _ _ (ns.map Int.ofNat) rfl (O4.out.grow (bAl wr _)) (by simp; omega) _ [(y : Int)] rfl (rd_new (E := encN) wr (y : Int) #[.int .i64 y] rfl) (by simp; omega) ?_; intro v7 w7 o7 hT7; obtain ⟨A7, n7, c7, rfl⟩ := o7.slice) | (fail))
          go_roundw
          case rel => exact ⟨i + 1, A7, n7, c7, ns ++ [y], by go_num, rfl, by omega, by omega, by unfold Hid; rw [List.map_append]; exact o7, by simp; omega, hN4, hC4, (S4.out.grow (bAl wr _)).ty hT7 (by decide)⟩
          case measure => simp [intOf]; omega
    · have hlt' : ¬ (i : Int) < (L2.length : Int) := by omega
      have hR : Hid (ns = (restW v (plainW v (L.map bs))).map (val 0)) := by
        unfold Hid
        rw [hrest.out, hN3.out, List.take_of_length_le (by rw [List.length_drop, List.length_map]; omega)]
      have hC : Hid (∀ z ∈ restW v (plainW v (L.map bs)), canon z = true) := by
        intro z hz
        refine hC3.out z ?_
        rw [hrest.out] at hz
        rw [List.take_of_length_le (by rw [List.length_drop, List.length_map]; omega)]
        exact hz
      clear hN3 hC3
      obtain ⟨fv, hfv⟩ := hid_ex (full v)
      obtain ⟨sv, hsv⟩ := hid_ex (sized v)
      have hn3 : n3 = ns.length := by have := O3.out.rd.cap.1; simpa using this
      subst hn3
      obtain ⟨w1n, hw1⟩ := hid_ex (if fv then 2 else 0)
      obtain ⟨z2, hz2⟩ := hid_ex (sv || decide (v = 11) || stepV v)
      obtain ⟨w2n, hw2⟩ := hid_ex (w1n + if z2 then 1 else 0)
      obtain ⟨w3n, hw3⟩ := hid_ex (w2n + if v = 8 then 1 else 0)
      have hwant : Hid (w3n = want v) := by
        unfold Hid want
        rw [← hw3.out, ← hw2.out, ← hw1.out, hfv.out, hsv.out, hz2.out]
      have hw1b : w1n ≤ 2 := by rw [← hw1.out]; split <;> omega
      have hw2b : w2n ≤ 3 := by rw [← hw2.out]; split <;> omega
      go_upto_if 85 with (first | (go_at_call 74; refine (l11Full_is v _ hfv.out _).mono ?_; rintro e wq ⟨rfl, hq⟩; subst wq) | (fail))
      go_cut [14] from 85 to 85 (fun u wc => u = .int .i64 (w1n : Int) ∧ wr = wc)
      case first =>
        cases fv with
        | true =>
          have e : w1n = 2 := hw1.out.symm
          subst e
          go_wp2
          go_meet
          case rel => exact ⟨rfl, rfl⟩
        | false =>
          have e : w1n = 0 := hw1.out.symm
          subst e
          go_wp2
          go_meet
          case rel => exact ⟨rfl, rfl⟩
      case rest =>
      obtain ⟨rfl, rfl⟩ := hcut
      go_upto_region 23 with (fail)
      go_cut [99] from 86 to 99 (fun u wc => u = .bool z2 ∧ wr = wc)
      case first =>
        cases sv with
        | true =>
          have e : z2 = true := by rw [← hz2.out]; rfl
          subst e
          go_wp2_with (first | (go_at_call 69; refine (l11Sized_is v _ hsv.out _).mono ?_; rintro e wq ⟨rfl, hq⟩; subst wq) | (fail))
          go_meet
          case rel => exact ⟨rfl, rfl⟩
        | false =>
          by_cases h11 : v = 11
          · have e11 : (v == 11) = true := by simp [h11]
            have e : z2 = true := by rw [← hz2.out, decide_eq_true h11]; rfl
            subst e
            clear h11
            go_wp2_with (first | (go_at_call 69; refine (l11Sized_is v _ hsv.out _).mono ?_; rintro e wq ⟨rfl, hq⟩; subst wq) | (fail))
            go_meet
            case rel => exact ⟨rfl, rfl⟩
          · have e11 : (v == 11) = false := by simp [h11]
            by_cases h9 : v = 9
            · have e9 : (v == 9) = true := by simp [h9]
              have e : z2 = true := by rw [← hz2.out, h9]; rfl
              subst e
              clear h9 h11
              go_wp2_with (first | (go_at_call 69; refine (l11Sized_is v _ hsv.out _).mono ?_; rintro e wq ⟨rfl, hq⟩; subst wq) | (fail))
              go_meet
              case rel => exact ⟨rfl, rfl⟩
            · have e9 : (v == 9) = false := by simp [h9]
              have e : Hid (z2 = (v == 10)) := by
                unfold Hid
                rw [← hz2.out, decide_eq_false h11]
                unfold stepV
                rw [decide_eq_false h9]
                rfl
              clear h9 h11
              go_wp2_with (first | (go_at_call 69; refine (l11Sized_is v _ hsv.out _).mono ?_; rintro e wq ⟨rfl, hq⟩; subst wq) | (fail))
              go_meet
              case rel => exact ⟨congrArg Value.bool e.out.symm, rfl⟩
      case rest =>
      obtain ⟨rfl, rfl⟩ := hcut
      go_upto_if 99 with (fail)
      go_cut [14] from 99 to 101 (fun u wc => u = .int .i64 (w2n : Int) ∧ wr = wc)
      case first =>
        cases z2 with
        | true =>
          have e : Hid (w2n = w1n + 1) := hw2.out.symm
          have ew : IntKind.i64.wrap ((w1n : Int) + 1) = (w2n : Int) := by rw [IntKind.wrap_i64]; have := e.out; omega
          go_wp2
          go_meet
          case rel => exact ⟨rfl, rfl⟩
        | false =>
          have e : Hid (w2n = w1n) := hw2.out.symm
          go_wp2
          go_meet
          case rel => exact ⟨by rw [e.out], rfl⟩
      case rest =>
      obtain ⟨rfl, rfl⟩ := hcut
      go_upto_if 103 with (fail)
      go_cut [14] from 103 to 105 (fun u wc => u = .int .i64 (w3n : Int) ∧ wr = wc)
      case first =>
        by_cases h8 : v = 8
        · have e8 : (v == 8) = true := by simp [h8]
          have e : Hid (w3n = w2n + 1) := by unfold Hid; rw [← hw3.out, if_pos h8]
          have ew : IntKind.i64.wrap ((w2n : Int) + 1) = (w3n : Int) := by rw [IntKind.wrap_i64]; have := e.out; omega
          clear h8
          go_wp2
          go_meet
          case rel => exact ⟨rfl, rfl⟩
        · have e8 : (v == 8) = false := by simp [h8]
          have e : Hid (w3n = w2n) := by unfold Hid; rw [← hw3.out, if_neg h8]; rfl
          clear h8
          go_wp2
          go_meet
          case rel => exact ⟨by rw [e.out], rfl⟩
      case rest =>
      obtain ⟨rfl, rfl⟩ := hcut
      by_cases hlw : ns.length = w3n
      · have hlb : ((ns.length : Int) != (w3n : Int)) = false := by simp; omega
        have hlv : Hid (ns.length = want v) := hlw.trans hwant.out
        have HW3 : Hid (w3n = want v) := hwant
        have hL : Hid ((restW v (plainW v (L.map bs))).length = want v) := by
          have := hlv.out
          rw [hR.out, List.length_map] at this
          exact this
        clear hlw
        go_upto_block 2 with (fail)
        go_cut [15] from 111 to 150 (fun u9 wc => ∃ (F U C D : Int) (sz : Nat), u9 = .int .i64 (sz : Int) ∧ Hid (Ln w wc b4 b7 [.int .i64 v, .string nm, .int .i64 F, .int .i64 U, .string emp, .int .i64 C, .int .i64 D, .bool q]) ∧ Hid ((⟨v, nm, F, U, emp, C, D, q⟩ : Cm) = build v q nm ns) ∧ Hid (sz = sizeN v ns))
        case first =>
          have full_arm : True := trivial
          cases fv with
          | true =>
            by_cases h8 : v = 8
            · have e8 : (v == 8) = true := by simp [h8]
              obtain ⟨a, b, c, d, rfl⟩ : ∃ a b c d, ns = [a, b, c, d] := by
                have := hlv.out
                rw [h8] at this
                match ns, this with
                | [a, b, c, d], _ => exact ⟨a, b, c, d, rfl⟩
              have hbd : Hid ((⟨v, nm, a, b, emp, d, 0, q⟩ : Cm) = build v q nm [a, b, c, d]) := by unfold Hid build nth; rw [hfv.out]; simp [h8]
              have hsn : Hid (c = sizeN v [a, b, c, d]) := by unfold Hid sizeN; rw [hfv.out]; rfl
              clear h8 hR
              have OA : Own encN wr w.heap.size wr.heap.size (.slice A3 4 k3) [Int.ofNat a, Int.ofNat b, Int.ofNat c, Int.ofNat d] := O3.out
              obtain ⟨gn, en, -, n0, -⟩ := OA.cell 0 0 (by simp) (show 0 < 1 by decide)
              subst en
              have n0 : wr.cell? ⟨gn, 0, none⟩ = some (.int .i64 (a : Int)) := n0
              have hln : ([a, b, c, d] : List Nat).length = 4 := rfl
              have S5 : Ln w (wr.setCell ⟨b7, 2, none⟩ (.int .i64 (a : Int))) b4 b7 [.int .i64 v, .string nm, .int .i64 (a : Int), .int .i64 0, .string emp, .int .i64 0, .int .i64 0, .bool q] := S4.out.set 2 _
              have S6 : Ln w ((wr.setCell ⟨b7, 2, none⟩ (.int .i64 (a : Int))).setCell ⟨b7, 3, none⟩ (.int .i64 (b : Int))) b4 b7 [.int .i64 v, .string nm, .int .i64 (a : Int), .int .i64 (b : Int), .string emp, .int .i64 0, .int .i64 0, .bool q] := S5.set 3 _
              have S7 : Ln w (((wr.setCell ⟨b7, 2, none⟩ (.int .i64 (a : Int))).setCell ⟨b7, 3, none⟩ (.int .i64 (b : Int))).setCell ⟨b7, 5, none⟩ (.int .i64 (d : Int))) b4 b7 [.int .i64 v, .string nm, .int .i64 (a : Int), .int .i64 (b : Int), .string emp, .int .i64 (d : Int), .int .i64 0, .bool q] := S6.set 5 _
              have O5 := OA.only (only_set wr b7 2 (.int .i64 (a : Int))) S4.out.V7 (by decide)
              have O6 := O5.only (only_set (wr.setCell ⟨b7, 2, none⟩ (.int .i64 (a : Int))) b7 3 (.int .i64 (b : Int))) S5.V7 (by decide)
              have n1 := nat_cell O5 1 (by simp)
              have n2 := nat_cell O6 2 (by simp)
              have n3 := nat_cell O6 3 (by simp)
              simp only [List.getElem_cons_zero, List.getElem_cons_succ] at n1 n2 n3
              have f2 := S4.out.V7.frozen 2
              have f3 := S5.V7.frozen 3
              have f5 := S6.V7.frozen 5
              have q2 := S4.out.V7.cell 2 (by simp)
              have q3 := S5.V7.cell 3 (by simp)
              have q5 := S6.V7.cell 5 (by simp)
              go_wp2_with (first | (go_at_call 74; refine (l11Full_is v _ hfv.out _).mono ?_; rintro e wq ⟨rfl, hq⟩; subst wq) | (fail))
              go_meet
              case rel => exact ⟨a, b, d, 0, c, rfl, S7, hbd, hsn⟩
            · have e8 : (v == 8) = false := by simp [h8]
              obtain ⟨a, b, c, rfl⟩ : ∃ a b c, ns = [a, b, c] := by
                have := hlv.out
                unfold want at this
                rw [hfv.out, sz_of_full hfv.out, if_neg h8] at this
                match ns, this with
                | [a, b, c], _ => exact ⟨a, b, c, rfl⟩
              have hbd : Hid ((⟨v, nm, a, b, emp, 0, 0, q⟩ : Cm) = build v q nm [a, b, c]) := by unfold Hid build nth; rw [hfv.out]; simp [h8]
              have hsn : Hid (c = sizeN v [a, b, c]) := by unfold Hid sizeN; rw [hfv.out]; rfl
              clear h8 hR
              have OA : Own encN wr w.heap.size wr.heap.size (.slice A3 3 k3) [Int.ofNat a, Int.ofNat b, Int.ofNat c] := O3.out
              obtain ⟨gn, en, -, n0, -⟩ := OA.cell 0 0 (by simp) (show 0 < 1 by decide)
              subst en
              have n0 : wr.cell? ⟨gn, 0, none⟩ = some (.int .i64 (a : Int)) := n0
              have hln : ([a, b, c] : List Nat).length = 3 := rfl
              have S5 : Ln w (wr.setCell ⟨b7, 2, none⟩ (.int .i64 (a : Int))) b4 b7 [.int .i64 v, .string nm, .int .i64 (a : Int), .int .i64 0, .string emp, .int .i64 0, .int .i64 0, .bool q] := S4.out.set 2 _
              have S6 : Ln w ((wr.setCell ⟨b7, 2, none⟩ (.int .i64 (a : Int))).setCell ⟨b7, 3, none⟩ (.int .i64 (b : Int))) b4 b7 [.int .i64 v, .string nm, .int .i64 (a : Int), .int .i64 (b : Int), .string emp, .int .i64 0, .int .i64 0, .bool q] := S5.set 3 _
              have O5 := OA.only (only_set wr b7 2 (.int .i64 (a : Int))) S4.out.V7 (by decide)
              have O6 := O5.only (only_set (wr.setCell ⟨b7, 2, none⟩ (.int .i64 (a : Int))) b7 3 (.int .i64 (b : Int))) S5.V7 (by decide)
              have n1 := nat_cell O5 1 (by simp)
              have n2 := nat_cell O6 2 (by simp)
              simp only [List.getElem_cons_zero, List.getElem_cons_succ] at n1 n2
              have f2 := S4.out.V7.frozen 2
              have f3 := S5.V7.frozen 3
              have q2 := S4.out.V7.cell 2 (by simp)
              have q3 := S5.V7.cell 3 (by simp)
              go_wp2_with (first | (go_at_call 74; refine (l11Full_is v _ hfv.out _).mono ?_; rintro e wq ⟨rfl, hq⟩; subst wq) | (fail))
              go_meet
              case rel => exact ⟨a, b, 0, 0, c, rfl, S6, hbd, hsn⟩
          | false =>
            have h8 : v ≠ 8 := fun h => by have := hfv.out; rw [h] at this; simp [full] at this
            cases sv with
            | true =>
              obtain ⟨a, rfl⟩ : ∃ a, ns = [a] := by
                have := hlv.out
                unfold want at this
                rw [hfv.out, hsv.out, if_neg h8] at this
                match ns, this with
                | [a], _ => exact ⟨a, rfl⟩
              have hbd : Hid ((⟨v, nm, 0, 0, emp, 0, 0, q⟩ : Cm) = build v q nm [a]) := by unfold Hid build; rw [hfv.out, hsv.out]; rfl
              have hsn : Hid (a = sizeN v [a]) := by unfold Hid sizeN; rw [hfv.out, hsv.out]; rfl
              clear h8 hR
              have OA : Own encN wr w.heap.size wr.heap.size (.slice A3 1 k3) [Int.ofNat a] := O3.out
              obtain ⟨gn, en, -, n0, -⟩ := OA.cell 0 0 (by simp) (show 0 < 1 by decide)
              subst en
              have n0 : wr.cell? ⟨gn, 0, none⟩ = some (.int .i64 (a : Int)) := n0
              have hln : ([a] : List Nat).length = 1 := rfl
              go_wp2_with (first | (go_at_call 74; refine (l11Full_is v _ hfv.out _).mono ?_; rintro e wq ⟨rfl, hq⟩; subst wq) | (go_at_call 69; refine (l11Sized_is v _ hsv.out _).mono ?_; rintro e wq ⟨rfl, hq⟩; subst wq) | (fail))
              go_meet
              case rel => exact ⟨0, 0, 0, 0, a, rfl, S4, hbd, hsn⟩
            | false =>
              by_cases h11 : v = 11
              · have e11 : (v == 11) = true := by simp [h11]
                obtain ⟨a, rfl⟩ : ∃ a, ns = [a] := by
                  have := hlv.out
                  rw [h11] at this
                  match ns, this with
                  | [a], _ => exact ⟨a, rfl⟩
                have hbd : Hid ((⟨v, nm, 0, a, emp, 0, 0, q⟩ : Cm) = build v q nm [a]) := by unfold Hid build nth; rw [hfv.out, hsv.out]; simp [h11]
                have hsn : Hid (0 = sizeN v [a]) := by unfold Hid sizeN; rw [hfv.out, hsv.out]; rfl
                clear h8 h11 hR
                have OA : Own encN wr w.heap.size wr.heap.size (.slice A3 1 k3) [Int.ofNat a] := O3.out
                obtain ⟨gn, en, -, n0, -⟩ := OA.cell 0 0 (by simp) (show 0 < 1 by decide)
                subst en
                have n0 : wr.cell? ⟨gn, 0, none⟩ = some (.int .i64 (a : Int)) := n0
                have hln : ([a] : List Nat).length = 1 := rfl
                have S5 : Ln w (wr.setCell ⟨b7, 3, none⟩ (.int .i64 (a : Int))) b4 b7 [.int .i64 v, .string nm, .int .i64 0, .int .i64 (a : Int), .string emp, .int .i64 0, .int .i64 0, .bool q] := S4.out.set 3 _
                have f3 := S4.out.V7.frozen 3
                have q3 := S4.out.V7.cell 3 (by simp)
                go_wp2_with (first | (go_at_call 74; refine (l11Full_is v _ hfv.out _).mono ?_; rintro e wq ⟨rfl, hq⟩; subst wq) | (go_at_call 69; refine (l11Sized_is v _ hsv.out _).mono ?_; rintro e wq ⟨rfl, hq⟩; subst wq) | (fail))
                go_meet
                case rel => exact ⟨0, a, 0, 0, 0, rfl, S5, hbd, hsn⟩
              · have e11 : (v == 11) = false := by simp [h11]
                cases hst : stepV v with
                | true =>
                  have hw : w3n = 1 := by
                    rw [HW3.out]
                    unfold want
                    rw [hfv.out, hsv.out, hst, if_neg h8, decide_eq_false h11]
                    rfl
                  have ewn : ((w3n : Int) == 1) = true := by rw [hw]; rfl
                  obtain ⟨a, rfl⟩ : ∃ a, ns = [a] := by
                    have := hlv.out
                    rw [← HW3.out, hw] at this
                    match ns, this with
                    | [a], _ => exact ⟨a, rfl⟩
                  have hbd : Hid ((⟨v, nm, 0, 0, emp, 0, a, q⟩ : Cm) = build v q nm [a]) := by unfold Hid build nth; rw [hfv.out, hsv.out, hst]; simp [h11]
                  have hsn : Hid (0 = sizeN v [a]) := by unfold Hid sizeN; rw [hfv.out, hsv.out]; rfl
                  clear h8 h11 hst hw hR
                  have OA : Own encN wr w.heap.size wr.heap.size (.slice A3 1 k3) [Int.ofNat a] := O3.out
                  obtain ⟨gn, en, -, n0, -⟩ := OA.cell 0 0 (by simp) (show 0 < 1 by decide)
                  subst en
                  have n0 : wr.cell? ⟨gn, 0, none⟩ = some (.int .i64 (a : Int)) := n0
                  have hln : ([a] : List Nat).length = 1 := rfl
                  have S5 : Ln w (wr.setCell ⟨b7, 6, none⟩ (.int .i64 (a : Int))) b4 b7 [.int .i64 v, .string nm, .int .i64 0, .int .i64 0, .string emp, .int .i64 0, .int .i64 (a : Int), .bool q] := S4.out.set 6 _
                  have f6 := S4.out.V7.frozen 6
                  have q6 := S4.out.V7.cell 6 (by simp)
                  go_wp2_with (first | (go_at_call 74; refine (l11Full_is v _ hfv.out _).mono ?_; rintro e wq ⟨rfl, hq⟩; subst wq) | (go_at_call 69; refine (l11Sized_is v _ hsv.out _).mono ?_; rintro e wq ⟨rfl, hq⟩; subst wq) | (fail))
                  go_meet
                  case rel => exact ⟨0, 0, 0, a, 0, rfl, S5, hbd, hsn⟩
                | false =>
                  have hw : w3n = 0 := by
                    rw [HW3.out]
                    unfold want
                    rw [hfv.out, hsv.out, hst, if_neg h8, decide_eq_false h11]
                    rfl
                  have ewn : ((w3n : Int) == 1) = false := by rw [hw]; rfl
                  have hbd : Hid ((⟨v, nm, 0, 0, emp, 0, 0, q⟩ : Cm) = build v q nm ns) := by unfold Hid build; rw [hfv.out, hsv.out, hst]; simp [h11]
                  have hsn : Hid (0 = sizeN v ns) := by unfold Hid sizeN; rw [hfv.out, hsv.out]; rfl
                  clear h8 h11 hst hw
                  go_wp2_with (first | (go_at_call 74; refine (l11Full_is v _ hfv.out _).mono ?_; rintro e wq ⟨rfl, hq⟩; subst wq) | (go_at_call 69; refine (l11Sized_is v _ hsv.out _).mono ?_; rintro e wq ⟨rfl, hq⟩; subst wq) | (fail))
                  go_meet
                  case rel => exact ⟨0, 0, 0, 0, 0, rfl, S4, hbd, hsn⟩
        case rest =>
        obtain ⟨F, U, C, D, sz, rfl, S5, hbd, hsn⟩ := hcut
        have hend := line_end (W := L.map bs) (ns := ns) (nm := nm) (q := q) (by rw [← hP2.out, List.length_map]; exact hnn.out) hC.out hL.out hR.out (by rw [← hP2.out]; exact hnm.out) hq.out
        rw [← hbd.out, ← hsn.out] at hend
        have HE : Hid ((sz ≤ 64 ∧ cmdB ⟨v, nm, F, U, emp, C, D, q⟩ = true → lineL v (L.map bs) = some (⟨v, nm, F, U, emp, C, D, q⟩, sz)) ∧ (¬ (sz ≤ 64 ∧ cmdB ⟨v, nm, F, U, emp, C, D, q⟩ = true) → lineL v (L.map bs) = none)) := hend
        clear hend
        go_upto_region 42 with (fail)
        obtain ⟨y, hy⟩ := hid_ex (cmdB ⟨v, nm, F, U, emp, C, D, q⟩)
        have S5d : Ln w wc.drew b4 b7 [.int .i64 v, .string nm, .int .i64 F, .int .i64 U, .string emp, .int .i64 C, .int .i64 D, .bool q] := S5.out.grow (Below.refl _ _).drew
        have H0 : wc.drew.cell? ⟨b7, 0, none⟩ = some (.int .i64 v) ∧ wc.drew.cell? ⟨b7, 1, none⟩ = some (.string nm) ∧ wc.drew.cell? ⟨b7, 2, none⟩ = some (.int .i64 F) ∧ wc.drew.cell? ⟨b7, 3, none⟩ = some (.int .i64 U) ∧ wc.drew.cell? ⟨b7, 4, none⟩ = some (.string emp) ∧ wc.drew.cell? ⟨b7, 5, none⟩ = some (.int .i64 C) ∧ wc.drew.cell? ⟨b7, 6, none⟩ = some (.int .i64 D) ∧ wc.drew.cell? ⟨b7, 7, none⟩ = some (.bool q) := cellsCm S5d.V7
        have hem : emp.size ≤ 9223372036854775807 := by decide
        by_cases h64 : sz ≤ 64
        · have h64' : (sz : Int) ≤ 64 := by omega
          go_region_held3 (fun w' => w'.cell? ⟨b7, 0, none⟩ = some (.int .i64 v) ∧ w'.cell? ⟨b7, 1, none⟩ = some (.string nm) ∧ w'.cell? ⟨b7, 2, none⟩ = some (.int .i64 F) ∧ w'.cell? ⟨b7, 3, none⟩ = some (.int .i64 U) ∧ w'.cell? ⟨b7, 4, none⟩ = some (.string emp) ∧ w'.cell? ⟨b7, 5, none⟩ = some (.int .i64 C) ∧ w'.cell? ⟨b7, 6, none⟩ = some (.int .i64 D) ∧ w'.cell? ⟨b7, 7, none⟩ = some (.bool q)) (first | with_reducible assumption | with_reducible exact H0 | (fail)) (first | (go_at_call 17; refine (specCmdOk_any v nm emp F U C D q y hy (by omega) hem _).mono ?_; rintro e w6 ⟨rfl, hB6⟩; have S6 := S5d.grow hB6; have H6 : w6.cell? ⟨b7, 0, none⟩ = some (.int .i64 v) ∧ w6.cell? ⟨b7, 1, none⟩ = some (.string nm) ∧ w6.cell? ⟨b7, 2, none⟩ = some (.int .i64 F) ∧ w6.cell? ⟨b7, 3, none⟩ = some (.int .i64 U) ∧ w6.cell? ⟨b7, 4, none⟩ = some (.string emp) ∧ w6.cell? ⟨b7, 5, none⟩ = some (.int .i64 C) ∧ w6.cell? ⟨b7, 6, none⟩ = some (.int .i64 D) ∧ w6.cell? ⟨b7, 7, none⟩ = some (.bool q) := cellsCm S6.V7; obtain ⟨z0, z1, z2', z3, z4, z5, z6, z7⟩ := cellsCm S6.V4; obtain ⟨y0, y1, y2, y3, y4, y5, y6, y7⟩ := frozCm S6.V4; have H9 : ((((((((w6.setCell ⟨b4, 0, none⟩ (.int .i64 v)).setCell ⟨b4, 1, none⟩ (.string nm)).setCell ⟨b4, 2, none⟩ (.int .i64 F)).setCell ⟨b4, 3, none⟩ (.int .i64 U)).setCell ⟨b4, 4, none⟩ (.string emp)).setCell ⟨b4, 5, none⟩ (.int .i64 C)).setCell ⟨b4, 6, none⟩ (.int .i64 D)).setCell ⟨b4, 7, none⟩ (.bool q)).cell? ⟨b7, 0, none⟩ = some (.int .i64 v) ∧ ((((((((w6.setCell ⟨b4, 0, none⟩ (.int .i64 v)).setCell ⟨b4, 1, none⟩ (.string nm)).setCell ⟨b4, 2, none⟩ (.int .i64 F)).setCell ⟨b4, 3, none⟩ (.int .i64 U)).setCell ⟨b4, 4, none⟩ (.string emp)).setCell ⟨b4, 5, none⟩ (.int .i64 C)).setCell ⟨b4, 6, none⟩ (.int .i64 D)).setCell ⟨b4, 7, none⟩ (.bool q)).cell? ⟨b7, 1, none⟩ = some (.string nm) ∧ ((((((((w6.setCell ⟨b4, 0, none⟩ (.int .i64 v)).setCell ⟨b4, 1, none⟩ (.string nm)).setCell ⟨b4, 2, none⟩ (.int .i64 F)).setCell ⟨b4, 3, none⟩ (.int .i64 U)).setCell ⟨b4, 4, none⟩ (.string emp)).setCell ⟨b4, 5, none⟩ (.int .i64 C)).setCell ⟨b4, 6, none⟩ (.int .i64 D)).setCell ⟨b4, 7, none⟩ (.bool q)).cell? ⟨b7, 2, none⟩ = some (.int .i64 F) ∧ ((((((((w6.setCell ⟨b4, 0, none⟩ (.int .i64 v)).setCell ⟨b4, 1, none⟩ (.string nm)).setCell ⟨b4, 2, none⟩ (.int .i64 F)).setCell ⟨b4, 3, none⟩ (.int .i64 U)).setCell ⟨b4, 4, none⟩ (.string emp)).setCell ⟨b4, 5, none⟩ (.int .i64 C)).setCell ⟨b4, 6, none⟩ (.int .i64 D)).setCell ⟨b4, 7, none⟩ (.bool q)).cell? ⟨b7, 3, none⟩ = some (.int .i64 U) ∧ ((((((((w6.setCell ⟨b4, 0, none⟩ (.int .i64 v)).setCell ⟨b4, 1, none⟩ (.string nm)).setCell ⟨b4, 2, none⟩ (.int .i64 F)).setCell ⟨b4, 3, none⟩ (.int .i64 U)).setCell ⟨b4, 4, none⟩ (.string emp)).setCell ⟨b4, 5, none⟩ (.int .i64 C)).setCell ⟨b4, 6, none⟩ (.int .i64 D)).setCell ⟨b4, 7, none⟩ (.bool q)).cell? ⟨b7, 4, none⟩ = some (.string emp) ∧ ((((((((w6.setCell ⟨b4, 0, none⟩ (.int .i64 v)).setCell ⟨b4, 1, none⟩ (.string nm)).setCell ⟨b4, 2, none⟩ (.int .i64 F)).setCell ⟨b4, 3, none⟩ (.int .i64 U)).setCell ⟨b4, 4, none⟩ (.string emp)).setCell ⟨b4, 5, none⟩ (.int .i64 C)).setCell ⟨b4, 6, none⟩ (.int .i64 D)).setCell ⟨b4, 7, none⟩ (.bool q)).cell? ⟨b7, 5, none⟩ = some (.int .i64 C) ∧ ((((((((w6.setCell ⟨b4, 0, none⟩ (.int .i64 v)).setCell ⟨b4, 1, none⟩ (.string nm)).setCell ⟨b4, 2, none⟩ (.int .i64 F)).setCell ⟨b4, 3, none⟩ (.int .i64 U)).setCell ⟨b4, 4, none⟩ (.string emp)).setCell ⟨b4, 5, none⟩ (.int .i64 C)).setCell ⟨b4, 6, none⟩ (.int .i64 D)).setCell ⟨b4, 7, none⟩ (.bool q)).cell? ⟨b7, 6, none⟩ = some (.int .i64 D) ∧ ((((((((w6.setCell ⟨b4, 0, none⟩ (.int .i64 v)).setCell ⟨b4, 1, none⟩ (.string nm)).setCell ⟨b4, 2, none⟩ (.int .i64 F)).setCell ⟨b4, 3, none⟩ (.int .i64 U)).setCell ⟨b4, 4, none⟩ (.string emp)).setCell ⟨b4, 5, none⟩ (.int .i64 C)).setCell ⟨b4, 6, none⟩ (.int .i64 D)).setCell ⟨b4, 7, none⟩ (.bool q)).cell? ⟨b7, 7, none⟩ = some (.bool q) := cellsCm (vblk_only S6.V7 (st8o w6 b4 (.int .i64 v) (.string nm) (.int .i64 F) (.int .i64 U) (.string emp) (.int .i64 C) (.int .i64 D) (.bool q)) (fun e => S6.ne e.symm))) | (fail))
          go_wp2
          refine row_ctt rfl rfl rfl rfl (st8 S6.V4 (.int .i64 v) (.string nm) (.int .i64 F) (.int .i64 U) (.string emp) (.int .i64 C) (.int .i64 D) (.bool q)) Tryz.underlying25 sizeCm rfl ⟨⟨v, nm, F, U, emp, C, D, q⟩, sz, y, rfl, ?_, S6.b.trans ((st8o w6 b4 (.int .i64 v) (.string nm) (.int .i64 F) (.int .i64 U) (.string emp) (.int .i64 C) (.int .i64 D) (.bool q)).2.2 _ S6.l4)⟩
          cases y with
          | true => exact .inl ⟨rfl, by omega, by rw [HE.out.1 ⟨h64, hy.out⟩]; rfl⟩
          | false => exact .inr ⟨rfl, HE.out.2 fun h => by rw [hy.out] at h; cases h.2⟩
        · have h64' : ¬ (sz : Int) ≤ 64 := by omega
          obtain ⟨z0, z1, z2', z3, z4, z5, z6, z7⟩ := cellsCm S5.out.V4
          obtain ⟨y0, y1, y2, y3, y4, y5, y6, y7⟩ := frozCm S5.out.V4
          obtain ⟨r0, r1, r2, r3, r4, r5, r6, r7⟩ := cellsCm S5.out.V7
          clear H0
          go_region_with (fail)
          all_goals
            go_wp2
            exact row_ctt rfl rfl rfl rfl (st8 S5.out.V4 (.int .i64 v) (.string nm) (.int .i64 F) (.int .i64 U) (.string emp) (.int .i64 C) (.int .i64 D) (.bool q)).drew Tryz.underlying25 sizeCm rfl ⟨⟨v, nm, F, U, emp, C, D, q⟩, sz, false, rfl, .inr ⟨rfl, HE.out.2 fun h => h64 h.1⟩, (S5.out.b.trans ((st8o wc b4 (.int .i64 v) (.string nm) (.int .i64 F) (.int .i64 U) (.string emp) (.int .i64 C) (.int .i64 D) (.bool q)).2.2 _ S5.out.l4)).drew⟩
      · have hlb : ((ns.length : Int) != (w3n : Int)) = true := by simp; omega
        have hnone : Hid (lineL v (L.map bs) = none) := by
          refine line_len ?_
          intro h
          apply hlw
          rw [hwant.out, ← h, hR.out, List.length_map]
        clear hlw
        go_wp2_with (first | (refine wpList_load_r rfl 25 _ rfl b7 0 [.int .i64 v, .string nm, .int .i64 0, .int .i64 0, .string emp, .int .i64 0, .int .i64 0, .bool q] rfl _ Tryz.underlying25 rfl sizeCm S4.out.V7.range ?_) | (refine wpList_store_v rfl 25 _ _ rfl b4 [.int .i64 v, .string nm, .int .i64 0, .int .i64 0, .string emp, .int .i64 0, .int .i64 0, .bool q] rfl rfl sizeCm S4.out.V4 rfl (oneCs _ _ _ _ _ _ _ _) ?_; intro w9 hO9 V9) | (fail))
        exact row_ctt rfl rfl rfl rfl V9 Tryz.underlying25 sizeCm rfl ⟨⟨v, _, 0, 0, emp, 0, 0, _⟩, 0, false, rfl, .inr ⟨rfl, hnone.out⟩, S4.out.b.trans (hO9.2.2 _ S4.out.l4)⟩
end Go.Proofs.YtaabmkhckbndgaaGreatDoor.cm
