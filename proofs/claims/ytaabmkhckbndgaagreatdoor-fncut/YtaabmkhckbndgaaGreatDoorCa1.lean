/- Contracts: what stands at a place, the model's. -/
import Derived.Test.YtaabmkhckbndgaaGreatDoorLn1
import Derived.Deep.DeepCutAuto
import Derived.Deep.RegionHeld3
import Derived.BigQuiet
import Derived.Laws.DeepStrings4
namespace Go.Proofs.YtaabmkhckbndgaaGreatDoor.cm
open Go.ChangeShapes Go.WideShapes Go.ChangeAt Go.RowKit
open Go.Deep Go.Joins
open Go.Proofs.YtaabmkhckbndgaaGreatDoor.ce Go.Proofs.YtaabmkhckbndgaaGreatDoor.ro Go.Proofs.YtaabmkhckbndgaaGreatDoor.rg
set_option linter.unusedVariables false

/-- what stands at a place -/
noncomputable def atF (s : ByteArray) (p : Int) : Cm × Int × Int := if 0 ≤ p ∧ p ≤ s.size then ((cmdOf ((bs s).drop p.toNat)).1, p + ((cmdOf ((bs s).drop p.toNat)).2.1 : Int), (cmdOf ((bs s).drop p.toNat)).2.2) else (Cm.zero, -1, -1)
theorem atF_nat {s : ByteArray} {p : Nat} (h : p ≤ s.size) : atF s p = ((cmdOf ((bs s).drop p)).1, p + ((cmdOf ((bs s).drop p)).2.1 : Int), (cmdOf ((bs s).drop p)).2.2) := by
  unfold atF
  rw [if_pos ⟨by omega, by omega⟩, Int.toNat_natCast]
theorem atF_out {s : ByteArray} {p : Int} (h : ¬ (0 ≤ p ∧ p ≤ s.size)) : atF s p = (Cm.zero, -1, -1) := if_neg h
theorem vtx_nodup : vtx.Nodup := by
  unfold vtx
  rw [List.nodup_iff_pairwise_ne] <;> skip
  exact List.Pairwise.map tx (fun a b h e => h (by rw [← bs_tx a, ← bs_tx b, e])) (by decide : List.Pairwise (· ≠ ·) verbs)
theorem verb_pos (x : ByteArray) : posS x vtx + 1 = verbOf (bs x) := by
  by_cases h : x ∈ vtx
  · obtain ⟨i, hi, e⟩ := List.mem_iff_getElem.1 h
    have hi' : i < verbs.length := by simpa [vtx] using hi
    have e2 : verbs[i] = bs x := by rw [← e]; simp [vtx, bs_tx]
    have hv : verbOf (bs x) = (i : Int) + 1 := by
      have h13 : i < 13 := hi'
      have := verbOf_vw (v := (i : Int) + 1) (by omega) (by omega)
      rw [show vw ((i : Int) + 1) = bs x by
        unfold vw
        rw [show ((i : Int) + 1 - 1).toNat = i by omega, List.getElem?_eq_getElem hi', e2]
        rfl] at this
      exact this
    rw [hv, posS_at hi e (by
      intro hm
      obtain ⟨j, hj, ej⟩ := List.mem_iff_getElem.1 hm
      have hj2 : j < i := by rw [List.length_take] at hj; omega
      rw [List.getElem_take] at ej
      exact (List.pairwise_iff_getElem.1 vtx_nodup) j i (by omega) hi hj2 (ej.trans e.symm))]
  · rw [posS_no h]
    unfold verbOf
    have : verbs.findIdx? (· == bs x) = none := by
      rw [List.findIdx?_eq_none_iff]
      intro y hy
      cases hb : (y == bs x) with
      | false => rfl
      | true =>
        exfalso
        apply h
        have e : y = bs x := by simpa using hb
        unfold vtx
        exact List.mem_map.2 ⟨y, hy, by rw [e, tx_bs]⟩
    rw [this]
    rfl
theorem no10_step {s : ByteArray} {p e : Nat} (h : 10 ∉ ((bs s).drop p).take (e - p)) (hp : p ≤ e) (he : e < s.size) (hc : s[e] ≠ 10) : 10 ∉ ((bs s).drop p).take (e + 1 - p) := by
  have hj : e - p < ((bs s).drop p).length := by rw [List.length_drop, bs_len]; omega
  rw [show e + 1 - p = (e - p) + 1 by omega, List.take_succ_eq_append_getElem hj, List.mem_append, List.mem_singleton]
  rintro (q | q)
  · exact h q
  · rw [List.getElem_drop] at q
    apply hc
    rw [q]
    show s[e] = (bs s)[p + (e - p)]'_
    simp only [show p + (e - p) = e by omega]
    rfl
theorem line_long {t : List UInt8} (h : 10 ∉ t.take 101) (hl : 101 ≤ t.length) : cmdOf t = (Cm.zero, 101, 3) := by
  refine cmd_long ?_
  unfold lineOf
  have e : t = t.take 101 ++ t.drop 101 := (List.take_append_drop _ _).symm
  rw [e, List.takeWhile_append_of_pos (fun c hc => by simp; intro q; rw [q] at hc; exact h hc), List.length_append, List.length_take]
  omega
theorem line_more {t : List UInt8} (h : 10 ∉ t) (hl : t.length ≤ 100) : cmdOf t = (Cm.zero, 0, 1) := by
  have e := lineOf_all h
  exact cmd_more (by rw [e]; omega) (by rw [e])
theorem line_cut {s : ByteArray} {p e : Nat} (h : 10 ∉ ((bs s).drop p).take (e - p)) (hp : p ≤ e) (he : e < s.size) (hc : s[e] = 10) (hl : e - p ≤ 100) : cmdOf ((bs s).drop p) = cmdLine (bs (s.extract p e)) ((bs s).drop (e + 1)) := by
  have hj : e < (bs s).length := by rw [bs_len]; exact he
  have e1 : bs (s.extract p e) = ((bs s).drop p).take (e - p) := bs_extract s p e
  have e2 : (bs s).drop p = bs (s.extract p e) ++ 10 :: (bs s).drop (e + 1) := by
    rw [e1]
    conv => lhs; rw [← List.take_append_drop (e - p) ((bs s).drop p)]
    rw [List.drop_drop, show p + (e - p) = e by omega, List.drop_eq_getElem_cons hj]
    have : (bs s)[e] = 10 := hc
    rw [this]
  rw [e2]
  refine cmd_line (by rw [e1]; exact h) (by rw [bs_len, ByteArray.size_extract]; omega)
/-- while a place is read: the answer's variable, the empty command's -/
structure Cp (w wr : World) (b4 b7 : Nat) : Prop where
  V4 : VBlk wr b4 25 [.int .i64 0, .string ⟨#[]⟩, .int .i64 0, .int .i64 0, .string ⟨#[]⟩, .int .i64 0, .int .i64 0, .bool false]
  V7 : VBlk wr b7 25 [.int .i64 0, .string ⟨#[]⟩, .int .i64 0, .int .i64 0, .string ⟨#[]⟩, .int .i64 0, .int .i64 0, .bool false]
  b : Below w.heap.size w wr
  l4 : w.heap.size ≤ b4
  l7 : w.heap.size ≤ b7
theorem Cp.grow {w wr w' : World} {b4 b7 : Nat} (h : Cp w wr b4 b7) (hb : Below wr.heap.size wr w') : Cp w w' b4 b7 := ⟨vblk_grow h.V4 hb, vblk_grow h.V7 hb, h.b.trans (hb.mono h.b.size), h.l4, h.l7⟩
def PostA (x : Cm × Int × Int) (w : World) (e : Ending) (w' : World) : Prop := e = .returned (.tuple #[.agg (csCm x.1).toArray, .int .i64 x.2.1, .int .i64 x.2.2]) ∧ Below w.heap.size w w'
theorem split_len (x : UInt8) : ∀ l : List UInt8, (splitL x l).length ≤ l.length + 1
  | [] => by simp [splitL]
  | c :: r => by
    have ih := split_len x r
    by_cases h : c = x
    · rw [splitL_yes h]; simp; omega
    · cases e : splitL x r with
      | nil => exact absurd e (splitL_ne _ _)
      | cons w ws => rw [splitL_no h e]; rw [e] at ih; simp at ih ⊢; omega
theorem split_mem (x : UInt8) : ∀ (l : List UInt8), ∀ w ∈ splitL x l, w.length ≤ l.length
  | [], w, h => by simp [splitL] at h; rw [h]; simp
  | c :: r, w, h => by
    have ih := split_mem x r
    by_cases hc : c = x
    · rw [splitL_yes hc] at h
      rcases List.mem_cons.1 h with h | h
      · rw [h]; simp
      · have := ih w h; simp; omega
    · cases e : splitL x r with
      | nil => exact absurd e (splitL_ne _ _)
      | cons y ws =>
        rw [splitL_no hc e] at h
        rw [e] at ih
        rcases List.mem_cons.1 h with h | h
        · rw [h]; have := ih y (by simp); simp; omega
        · have := ih w (List.mem_cons_of_mem _ h); simp; omega
theorem l1Split_32 (s : ByteArray) (w : World) (hs : s.size ≤ 1048576) :
    Calls Tryz.prog 65 #[.string s, .int .u8 32] w fun e w' => ∃ v, e = .returned v ∧ ∃ L, L.map bs = splitL 32 (bs s) ∧ Own encS w' w.heap.size w'.heap.size v L ∧ Below w.heap.size w w' := by
  have := l1Split_any s 32 w hs
  rw [show (((32 : UInt8).toNat : Nat) : Int) = 32 from rfl] at this
  exact this
theorem l1At_is (N : List ByteArray) (s : ByteArray) (v : Value) (w : World) (r : Rd encS w v N) (y : Int) (hy : posS s N = y) : Calls Tryz.prog 66 #[v, .string s] w fun e w' => e = .returned (.int .i64 y) ∧ w' = w := by
  subst hy
  exact l1At_any N s v w r
theorem cl_err {l u h : List UInt8} (hh : (splitL 32 l).headD [] = h) (h0 : verbOf h = 0) : cmdLine l u = (Cm.zero, l.length + 1, 2) := by
  unfold cmdLine
  rw [hh, if_pos h0]
theorem cl_bad {l u h : List UInt8} (hh : (splitL 32 l).headD [] = h) (h0 : verbOf h ≠ 0) (hn : lineL (verbOf h) (splitL 32 l) = none) : cmdLine l u = (Cm.zero, l.length + 1, 3) := by
  unfold cmdLine
  rw [hh, if_neg h0, hn]
theorem cl_some {l u h : List UInt8} {c : Cm} {k : Nat} (hh : (splitL 32 l).headD [] = h) (h0 : verbOf h ≠ 0) (hn : lineL (verbOf h) (splitL 32 l) = some (c, k)) :
    cmdLine l u = if sized c.V = false then (c, l.length + 1, 0) else if u.length ≤ k then (Cm.zero, 0, 1) else if u[k]? ≠ some 10 then (Cm.zero, l.length + 1, 3) else (⟨c.V, c.N, c.F, c.U, tx (u.take k), c.C, c.D, c.Q⟩, l.length + 1 + k + 1, 0) := by
  unfold cmdLine
  rw [hh, if_neg h0, hn]
theorem cell_grow' {w w' : World} {b i : Nat} {v : Value} (hb : Below w.heap.size w w') (hB : b < w.heap.size) (h : w.cell? ⟨b, i, none⟩ = some v) : w'.cell? ⟨b, i, none⟩ = some v := by
  rw [World.cell?_of_block (w := w) (w' := w') (a := ⟨b, i, none⟩) (hb.block b hB)]
  exact h

set_option maxRecDepth 100000 in
set_option maxHeartbeats 2000000 in
theorem specCmdAt_any (s : ByteArray) (p : Int) (hs : s.size ≤ 1048576) (w : World) :
    Calls Tryz.prog 14 #[.string s, .int .i64 p] w fun e w' => PostA (atF s p) w e w' := by
  have m1 : Hid True := trivial
  have m2 : Hid True := trivial
  obtain ⟨X, hX⟩ := hid_ex (atF s p)
  rw [hX.out]
  go_enter Tryz.func14, Tryz.ntmps14
  go_upto_region 3 with (first | (clear m1; refine wpList_alloc_v rfl 25 rfl _ zeroCm ?_; intro b4 w1 hb4 hw4 hB1 V4; have hz1 := hB1.size) | (clear m2; refine wpList_alloc_v rfl 25 rfl _ zeroCm ?_; intro b7 w2 hb7 hw7 hB2 V7; have hz2 := hB2.size; have V4b := vblk_grow V4 hB2) | (refine wpList_store_v rfl 25 _ _ rfl b7 [.int .i64 0, .string ⟨#[]⟩, .int .i64 0, .int .i64 0, .string ⟨#[]⟩, .int .i64 0, .int .i64 0, .bool false] rfl rfl sizeCm V7 rfl (oneCs 0 ⟨#[]⟩ 0 0 ⟨#[]⟩ 0 0 false) ?_; intro w3 hO3 V7b; have SL : Cp w w3 b4 b7 := ⟨vblk_only V4b hO3 (by have := V4.lt; omega), V7b, (hB1.trans (hB2.mono hz1)).trans (hO3.2.2 _ (by omega)), hb4, by omega⟩; clear V7 V7b V4 V4b) | (fail))
  have S0 : Hid (Cp w w3 b4 b7) := SL
  clear SL hO3 hB1 hB2
  by_cases hneg : p < 0
  · have hout : Hid (X = (Cm.zero, -1, -1)) := hX.out.symm.trans (atF_out (by omega))
    as_aux_lemma =>
      go_wp2_with (first | (refine wpList_load_r rfl 25 _ rfl b7 0 [.int .i64 0, .string ⟨#[]⟩, .int .i64 0, .int .i64 0, .string ⟨#[]⟩, .int .i64 0, .int .i64 0, .bool false] rfl _ Tryz.underlying25 rfl sizeCm S0.out.V7.range ?_) | (refine wpList_store_v rfl 25 _ _ rfl b4 [.int .i64 0, .string ⟨#[]⟩, .int .i64 0, .int .i64 0, .string ⟨#[]⟩, .int .i64 0, .int .i64 0, .bool false] rfl rfl sizeCm S0.out.V4 rfl (oneCs 0 ⟨#[]⟩ 0 0 ⟨#[]⟩ 0 0 false) ?_; intro w9 hO9 V9) | (fail))
      exact row_ctt rfl rfl rfl rfl V9 Tryz.underlying25 sizeCm rfl ⟨by rw [hout.out]; rfl, S0.out.b.trans (hO9.2.2 _ S0.out.l4)⟩
  by_cases hbig : (s.size : Int) < p
  · have hout : Hid (X = (Cm.zero, -1, -1)) := hX.out.symm.trans (atF_out (by omega))
    as_aux_lemma =>
      go_wp2_with (first | (refine wpList_load_r rfl 25 _ rfl b7 0 [.int .i64 0, .string ⟨#[]⟩, .int .i64 0, .int .i64 0, .string ⟨#[]⟩, .int .i64 0, .int .i64 0, .bool false] rfl _ Tryz.underlying25 rfl sizeCm S0.out.V7.range ?_) | (refine wpList_store_v rfl 25 _ _ rfl b4 [.int .i64 0, .string ⟨#[]⟩, .int .i64 0, .int .i64 0, .string ⟨#[]⟩, .int .i64 0, .int .i64 0, .bool false] rfl rfl sizeCm S0.out.V4 rfl (oneCs 0 ⟨#[]⟩ 0 0 ⟨#[]⟩ 0 0 false) ?_; intro w9 hO9 V9) | (fail))
      exact row_ctt rfl rfl rfl rfl V9 Tryz.underlying25 sizeCm rfl ⟨by rw [hout.out]; rfl, S0.out.b.trans (hO9.2.2 _ S0.out.l4)⟩
  obtain ⟨p, rfl⟩ : ∃ n : Nat, p = n := ⟨p.toNat, by omega⟩
  have hp : p ≤ s.size := by omega
  have HA : Hid (X = _) := hX.out.symm.trans (atF_nat hp)
  clear hX
  go_wp2
  go_loop [9] (fun u => ∃ e : Nat, u = .int .i64 e ∧ p ≤ e ∧ e ≤ s.size ∧ e ≤ p + 101 ∧ Hid (10 ∉ ((bs s).drop p).take (e - p))) (fun u => s.size - (intOf u).toNat)
  case atStart => exact ⟨p, rfl, Nat.le_refl _, hp, by omega, by unfold Hid; simp⟩
  case round =>
    obtain ⟨e, rfl, he0, he1, he2, hno⟩ := hrel
    have esub : IntKind.i64.wrap ((e : Int) - (p : Int)) = ((e - p : Nat) : Int) := by rw [IntKind.wrap_i64]; omega
    have e100 : IntKind.i64.wrap ((p : Int) + 100) = (p : Int) + 100 := by rw [IntKind.wrap_i64]; omega
    have e101' : IntKind.i64.wrap ((p : Int) + 100 + 1) = (p : Int) + 101 := by rw [IntKind.wrap_i64]; omega
    have long : 100 < e - p → Hid (X = (Cm.zero, (p : Int) + 101, 3)) := fun h => by
      have hc : cmdOf ((bs s).drop p) = (Cm.zero, 101, 3) := line_long (by have := hno.out; rw [show e - p = 101 by omega] at this; exact this) (by rw [List.length_drop, bs_len]; omega)
      unfold Hid
      rw [HA.out, hc]
      simp
    by_cases hlt : e < s.size
    · have hlt' : (e : Int) < (s.size : Int) := by omega
      by_cases h10 : s[e] = 10
      · have h10b : ((s[e].toNat : Int) != 10) = false := by rw [h10]; rfl
        by_cases hL : 100 < e - p
        · have hL' : (100 : Int) < ((e - p : Nat) : Int) := by omega
          have hout := long hL
          as_aux_lemma =>
            go_wp2_with (first | (refine wpList_load_r rfl 25 _ rfl b7 0 [.int .i64 0, .string ⟨#[]⟩, .int .i64 0, .int .i64 0, .string ⟨#[]⟩, .int .i64 0, .int .i64 0, .bool false] rfl _ Tryz.underlying25 rfl sizeCm S0.out.V7.range ?_) | (refine wpList_store_v rfl 25 _ _ rfl b4 [.int .i64 0, .string ⟨#[]⟩, .int .i64 0, .int .i64 0, .string ⟨#[]⟩, .int .i64 0, .int .i64 0, .bool false] rfl rfl sizeCm S0.out.V4 rfl (oneCs 0 ⟨#[]⟩ 0 0 ⟨#[]⟩ 0 0 false) ?_; intro w9 hO9 V9) | (fail))
            exact row_ctt rfl rfl rfl rfl V9 Tryz.underlying25 sizeCm rfl ⟨by rw [hout.out]; rfl, S0.out.b.trans (hO9.2.2 _ S0.out.l4)⟩
        · have hL' : ¬ (100 : Int) < ((e - p : Nat) : Int) := by omega
          have hcl : Hid (cmdOf ((bs s).drop p) = cmdLine (bs (s.extract p e)) ((bs s).drop (e + 1))) := line_cut hno.out he0 hlt h10 (by omega)
          have hen : ((e : Int) == (s.size : Int)) = false := by simp; omega
          clear long h10 hno
          obtain ⟨l, hle⟩ := hid_ex (s.extract p e)
          have hls : l.size = e - p := by rw [← hle.out, ByteArray.size_extract]; omega
          rw [hle.out] at hcl
          have HX : Hid (X = ((cmdLine (bs l) ((bs s).drop (e + 1))).1, (p : Int) + ((cmdLine (bs l) ((bs s).drop (e + 1))).2.1 : Int), (cmdLine (bs l) ((bs s).drop (e + 1))).2.2)) := by
            unfold Hid
            rw [HA.out, hcl.out]
          have hext : s.extract p e = l := hle.out
          have hpe : (p : Int) ≤ (e : Int) := by omega
          have e1w : IntKind.i64.wrap ((e : Int) + 1) = (e : Int) + 1 := by rw [IntKind.wrap_i64]; omega
          clear hcl HA hle
          go_upto_region 13 with (first | (go_at_call 65; refine (l1Split_32 l _ (by omega)).mono ?_; rintro er w5 ⟨v5, rfl, L, hL, O5, hB5⟩; have S5 := S0.out.grow hB5; have hz5 := hB5.size; obtain ⟨A5, n5, k5, rfl⟩ := O5.slice; have HL : Hid (L.map bs = splitL 32 (bs l)) := hL; clear hL) | (fail))
          have hL1 : 1 ≤ L.length := by
            have := splitL_ne 32 (bs l)
            rw [← HL.out] at this
            cases L with
            | nil => simp at this
            | cons a r => simp
          have hLn : L.length ≤ 102 := by
            have := split_len 32 (bs l)
            rw [← HL.out, List.length_map, bs_len] at this
            omega
          have hLs : Hid (∀ y ∈ L, y.size ≤ 1048576) := fun y hy => by
            have := split_mem 32 (bs l) (bs y) (by rw [← HL.out]; exact List.mem_map_of_mem hy)
            rw [bs_len, bs_len] at this
            omega
          have OO : Hid (Own encS w5 w3.heap.size w5.heap.size (.slice A5 n5 k5) L) := O5
          have SS : Hid (Cp w w5 b4 b7) := S5
          have hn5 : n5 = L.length := O5.rd.cap.1
          subst hn5
          obtain ⟨y0, hy0⟩ := hid_ex (L[0]'(by omega))
          obtain ⟨vb, hvb⟩ := hid_ex (verbOf (bs y0))
          have hpos : Hid (posS y0 vtx = vb - 1) := by
            have := verb_pos y0
            rw [hvb.out] at this
            unfold Hid
            omega
          have hvb0 : 0 ≤ vb ∧ vb ≤ 13 := by
            by_cases h : vb = 0
            · omega
            · have := verbOf_pos (w := bs y0) (by rw [hvb.out]; exact h)
              rw [hvb.out] at this
              omega
          obtain ⟨vb1, hvb1⟩ := hid_ex (vb - 1)
          rw [hvb1.out] at hpos
          have ewv : IntKind.i64.wrap (vb1 + 1) = vb := by rw [IntKind.wrap_i64]; have := hvb1.out; omega
          have hone : (0 : Int) < (L.length : Int) := by omega
          clear O5 S5
          go_cut [11] from 63 to 68 (fun uu wc => uu = .int .i64 vb ∧ Hid (Cp w wc b4 b7) ∧ Hid (Rd encS wc (.slice A5 L.length k5) L))
          case first =>
            obtain ⟨g5, o5, rfl, hg5, dd⟩ := rdS_cell OO.out.rd 0 (by omega)
            rw [hy0.out] at dd
            have dd0 : w5.cell? ⟨g5, o5, none⟩ = some (.string y0) := by simpa using dd
            go_region_with (first | (go_at_call 67; refine (l11Words_any _).mono ?_; rintro er w6 ⟨x6, rfl, R6, hB6⟩; have dd6 : w6.cell? ⟨g5, o5, none⟩ = some (.string y0) := cell_grow' hB6 hg5 dd0; have S6 := SS.out.grow ((Below.refl _ w5).drew.trans hB6); have O6 := OO.out.rd.grow ((Below.refl _ w5).drew.trans hB6)) | (go_at_call 66; refine (l1At_is vtx y0 x6 _ R6 vb1 hpos.out).mono ?_; rintro er wq ⟨rfl, hq⟩; subst wq) | (fail))
            all_goals
              go_wp2
              (try simp only [Act.put])
              go_meet
              case rel => exact ⟨rfl, S6, O6⟩
          case rest =>
          obtain ⟨rfl, S7, R7⟩ := hcut
          clear SS OO
          have hhd : Hid ((splitL 32 (bs l)).headD [] = bs y0) := by
            unfold Hid
            rw [← HL.out]
            cases L with
            | nil => simp at hL1
            | cons a r => have := hy0.out; simp at this; simp [this]
          obtain ⟨u, hu⟩ := hid_ex ((bs s).drop (e + 1))
          have hul : Hid (u.length = s.size - (e + 1)) := by unfold Hid; rw [← hu.out, List.length_drop, bs_len]
          have hlen : (bs l).length = e - p := by rw [bs_len]; exact hls
          rw [hu.out] at HX
          by_cases hv0 : vb = 0
          · have hvb' : (vb == 0) = true := by simp [hv0]
            have hout : Hid (X = (Cm.zero, (e : Int) + 1, 2)) := by
              unfold Hid
              rw [HX.out, cl_err hhd.out (by rw [hvb.out]; exact hv0), hlen]
              refine Prod.ext rfl (Prod.ext ?_ rfl)
              simp
              omega
            clear hv0
            as_aux_lemma =>
              go_wp2_with (first | (refine wpList_load_r rfl 25 _ rfl b7 0 [.int .i64 0, .string ⟨#[]⟩, .int .i64 0, .int .i64 0, .string ⟨#[]⟩, .int .i64 0, .int .i64 0, .bool false] rfl _ Tryz.underlying25 rfl sizeCm S7.out.V7.range ?_) | (refine wpList_store_v rfl 25 _ _ rfl b4 [.int .i64 0, .string ⟨#[]⟩, .int .i64 0, .int .i64 0, .string ⟨#[]⟩, .int .i64 0, .int .i64 0, .bool false] rfl rfl sizeCm S7.out.V4 rfl (oneCs 0 ⟨#[]⟩ 0 0 ⟨#[]⟩ 0 0 false) ?_; intro w9 hO9 V9) | (fail))
              exact row_ctt rfl rfl rfl rfl V9 Tryz.underlying25 sizeCm rfl ⟨by rw [hout.out]; rfl, S7.out.b.trans (hO9.2.2 _ S7.out.l4)⟩
          · have hvb' : (vb == 0) = false := by simp [hv0]
            have hv0' : verbOf (bs y0) ≠ 0 := by rw [hvb.out]; exact hv0
            have HV0 : Hid (verbOf (bs y0) ≠ 0) := hv0'
            have m3 : Hid True := trivial
            have m4 : Hid True := trivial
            clear hv0'
            go_upto_region 17 with (first | (go_at_call 68; refine (l11Line_any vb (by omega) (by omega) L _ _ R7.out hL1 (by omega) hLs.out).mono ?_; rintro er w8 ⟨⟨V, N, F, U, B, C, D, Q⟩, sz, b, rfl, hLR, hB8⟩; have S8 := S7.out.grow hB8; have hz8 := hB8.size) | (clear m3; refine wpList_alloc_v rfl 25 rfl _ zeroCm ?_; intro b12 w10 hb12 hw12 hB10 V12; have S10 := S8.grow hB10; have hz10 := hB10.size) | (clear m4; refine wpList_store_v rfl 25 _ _ rfl b12 [.int .i64 V, .string N, .int .i64 F, .int .i64 U, .string B, .int .i64 C, .int .i64 D, .bool Q] rfl rfl sizeCm V12 rfl (oneCs V N F U B C D Q) ?_; intro w11 hO11 V12b; have S11 : Cp w w11 b4 b7 := ⟨vblk_only S10.V4 hO11 (by have := S8.V4.lt; omega), vblk_only S10.V7 hO11 (by have := S8.V7.lt; omega), S10.b.trans (hO11.2.2 _ (by have := S8.b.size; omega)), S10.l4, S10.l7⟩) | (fail))
            have SB : Hid (Cp w w11 b4 b7) := S11
            have VB : Hid (VBlk w11 b12 25 [.int .i64 V, .string N, .int .i64 F, .int .i64 U, .string B, .int .i64 C, .int .i64 D, .bool Q]) := V12b
            have hlo : Hid (w.heap.size ≤ b12) := by have := S8.b.size; unfold Hid; omega
            have hne : Hid (b4 ≠ b12) := by have := S8.V4.lt; unfold Hid; omega
            have HLR : Hid (LR vb (L.map bs) ⟨V, N, F, U, B, C, D, Q⟩ sz b) := hLR
            clear S11 V12b S10 S8 hO11 V12 hLR hB8 hB10
            cases b with
            | false =>
              have hnl : lineL (verbOf (bs y0)) (splitL 32 (bs l)) = none := by
                rw [hvb.out, ← HL.out]
                rcases HLR.out with h | h
                · exact absurd h.1 (by decide)
                · exact h.2
              have hout : Hid (X = (Cm.zero, (e : Int) + 1, 3)) := by
                unfold Hid
                rw [HX.out, cl_bad hhd.out HV0.out hnl, hlen]
                refine Prod.ext rfl (Prod.ext ?_ rfl)
                simp
                omega
              clear hnl
              as_aux_lemma =>
                go_wp2_with (first | (refine wpList_load_r rfl 25 _ rfl b7 0 [.int .i64 0, .string ⟨#[]⟩, .int .i64 0, .int .i64 0, .string ⟨#[]⟩, .int .i64 0, .int .i64 0, .bool false] rfl _ Tryz.underlying25 rfl sizeCm SB.out.V7.range ?_) | (refine wpList_store_v rfl 25 _ _ rfl b4 [.int .i64 0, .string ⟨#[]⟩, .int .i64 0, .int .i64 0, .string ⟨#[]⟩, .int .i64 0, .int .i64 0, .bool false] rfl rfl sizeCm SB.out.V4 rfl (oneCs 0 ⟨#[]⟩ 0 0 ⟨#[]⟩ 0 0 false) ?_; intro w9 hO9 V9) | (fail))
                exact row_ctt rfl rfl rfl rfl V9 Tryz.underlying25 sizeCm rfl ⟨by rw [hout.out]; rfl, SB.out.b.trans (hO9.2.2 _ SB.out.l4)⟩
            | true =>
              have hnl : lineL (verbOf (bs y0)) (splitL 32 (bs l)) = some (⟨V, N, F, U, B, C, D, Q⟩, sz.toNat) ∧ 0 ≤ sz := by
                rw [hvb.out, ← HL.out]
                rcases HLR.out with h | h
                · exact ⟨h.2.2, h.2.1⟩
                · exact absurd h.1 (by decide)
              obtain ⟨k, hk⟩ : ∃ k : Nat, sz = k := ⟨sz.toNat, by omega⟩
              subst hk
              have hln := hnl.1
              rw [Int.toNat_natCast] at hln
              have hli := line_is hln (by
                rw [(verbOf_pos HV0.out).2.2]
                have := hhd.out
                cases hs : splitL 32 (bs l) with
                | nil => exact absurd hs (splitL_ne _ _)
                | cons a r => rw [hs] at this; simp at this; simp [this])
              have hVv : V = vb := hli.2.1.trans hvb.out
              have hBe : B = emp := hli.2.2.1
              have hk64 : k ≤ 64 := hli.2.2.2.1
              subst hBe
              have HC : Hid (cmdLine (bs l) u = _) := cl_some hhd.out HV0.out hln
              clear hnl hln hli
              obtain ⟨sv, hsv⟩ := hid_ex (sized vb)
              have hsV : Hid (sized V = sv) := by unfold Hid; rw [hVv]; exact hsv.out
              clear hVv
              cases sv with
              | false =>
                have hout : Hid (X = (⟨V, N, F, U, emp, C, D, Q⟩, (e : Int) + 1, 0)) := by
                  unfold Hid
                  rw [HX.out, HC.out, if_pos hsV.out, hlen]
                  refine Prod.ext rfl (Prod.ext ?_ rfl)
                  simp
                  omega
                clear HC
                as_aux_lemma =>
                  go_wp2_with (first | (go_at_call 69; refine (l11Sized_is vb _ hsv.out _).mono ?_; rintro e wq ⟨rfl, hq⟩; subst wq) | (refine wpList_load_r rfl 25 _ rfl b12 0 [.int .i64 V, .string N, .int .i64 F, .int .i64 U, .string emp, .int .i64 C, .int .i64 D, .bool Q] rfl _ Tryz.underlying25 rfl sizeCm VB.out.range ?_) | (refine wpList_store_v rfl 25 _ _ rfl b4 [.int .i64 V, .string N, .int .i64 F, .int .i64 U, .string emp, .int .i64 C, .int .i64 D, .bool Q] rfl rfl sizeCm SB.out.V4 rfl (oneCs V N F U emp C D Q) ?_; intro w9 hO9 V9) | (fail))
                  exact row_ctt rfl rfl rfl rfl V9 Tryz.underlying25 sizeCm rfl ⟨by rw [hout.out]; rfl, SB.out.b.trans (hO9.2.2 _ SB.out.l4)⟩
              | true =>
                obtain ⟨st, hst0⟩ := hid_ex (e + 1 + k)
                have hstw : IntKind.i64.wrap ((e : Int) + 1 + (k : Int)) = (st : Int) := by rw [IntKind.wrap_i64]; have := hst0.out; omega
                have hsv2 : ¬ sized V = false := by rw [hsV.out]; decide
                by_cases hst : s.size ≤ st
                · have hst' : (s.size : Int) ≤ (st : Int) := by omega
                  have hout : Hid (X = (Cm.zero, (p : Int), 1)) := by
                    unfold Hid
                    rw [HX.out, HC.out, if_neg hsv2, if_pos (by have := hul.out; have := hst0.out; omega)]
                    simp
                  clear HC hsv2
                  as_aux_lemma =>
                    go_wp2_with (first | (go_at_call 69; refine (l11Sized_is vb _ hsv.out _).mono ?_; rintro e wq ⟨rfl, hq⟩; subst wq) | (refine wpList_load_r rfl 25 _ rfl b7 0 [.int .i64 0, .string ⟨#[]⟩, .int .i64 0, .int .i64 0, .string ⟨#[]⟩, .int .i64 0, .int .i64 0, .bool false] rfl _ Tryz.underlying25 rfl sizeCm SB.out.V7.range ?_) | (refine wpList_store_v rfl 25 _ _ rfl b4 [.int .i64 0, .string ⟨#[]⟩, .int .i64 0, .int .i64 0, .string ⟨#[]⟩, .int .i64 0, .int .i64 0, .bool false] rfl rfl sizeCm SB.out.V4 rfl (oneCs 0 ⟨#[]⟩ 0 0 ⟨#[]⟩ 0 0 false) ?_; intro w9 hO9 V9) | (fail))
                    exact row_ctt rfl rfl rfl rfl V9 Tryz.underlying25 sizeCm rfl ⟨by rw [hout.out]; rfl, SB.out.b.trans (hO9.2.2 _ SB.out.l4)⟩
                · have hst' : ¬ (s.size : Int) ≤ (st : Int) := by omega
                  have hst2 : (st : Int) < (s.size : Int) := by omega
                  have hst3 : st < s.size := by omega
                  have hul2 : ¬ u.length ≤ k := by have := hul.out; have := hst0.out; omega
                  have huk : u[k]? = some s[st] := by
                    rw [← hu.out, List.getElem?_drop, hst0.out, List.getElem?_eq_getElem (by rw [bs_len]; exact hst3)]
                    rfl
                  by_cases h10 : s[st] = 10
                  · have h10b : ((s[st].toNat : Int) != 10) = false := by rw [h10]; rfl
                    obtain ⟨z, hz⟩ := hid_ex (s.extract (e + 1) st)
                    have hzx : s.extract (e + 1) st = z := hz.out
                    have htk : Hid (tx (u.take k) = z) := by
                      unfold Hid
                      rw [← hz.out, ← tx_bs (s.extract (e + 1) st), bs_extract, hu.out, show st - (e + 1) = k by have := hst0.out; omega]
                    have est1 : IntKind.i64.wrap ((st : Int) + 1) = (st : Int) + 1 := by rw [IntKind.wrap_i64]; omega
                    have hle : (e : Int) + 1 ≤ (st : Int) := by have := hst0.out; omega
                    have ee1 : (((e + 1 : Nat) : Int)) = (e : Int) + 1 := by omega
                    have hout : Hid (X = (⟨V, N, F, U, z, C, D, Q⟩, (st : Int) + 1, 0)) := by
                      unfold Hid
                      rw [HX.out, HC.out, if_neg hsv2, if_neg hul2, if_neg (by rw [huk, h10]; simp), hlen, htk.out]
                      refine Prod.ext rfl (Prod.ext ?_ rfl)
                      simp
                      have := hst0.out
                      omega
                    have f12 := VB.out.frozen 4
                    have c12 := VB.out.cell 4 (by simp)
                    have V12 : VBlk (w11.setCell ⟨b12, 4, none⟩ (.string z)) b12 25 [.int .i64 V, .string N, .int .i64 F, .int .i64 U, .string z, .int .i64 C, .int .i64 D, .bool Q] := VB.out.set 4 (.string z)
                    have V4n := vblk_only SB.out.V4 (only_set w11 b12 4 (.string z)) hne.out
                    have hBn : Below w.heap.size w (w11.setCell ⟨b12, 4, none⟩ (.string z)) := SB.out.b.trans ((only_set w11 b12 4 (.string z)).2.2 _ hlo.out)
                    have hzs : z.size ≤ s.size := by rw [← hz.out, ByteArray.size_extract]; omega
                    clear HC hsv2 hul2 huk h10 htk hz
                    as_aux_lemma =>
                      go_wp2_with (first | (go_at_call 69; refine (l11Sized_is vb _ hsv.out _).mono ?_; rintro e wq ⟨rfl, hq⟩; subst wq) | (refine wpList_load_r rfl 25 _ rfl b12 0 [.int .i64 V, .string N, .int .i64 F, .int .i64 U, .string z, .int .i64 C, .int .i64 D, .bool Q] rfl _ Tryz.underlying25 rfl sizeCm V12.range ?_) | (refine wpList_store_v rfl 25 _ _ rfl b4 [.int .i64 V, .string N, .int .i64 F, .int .i64 U, .string z, .int .i64 C, .int .i64 D, .bool Q] rfl rfl sizeCm V4n rfl (oneCs V N F U z C D Q) ?_; intro w9 hO9 V9) | (fail))
                      exact row_ctt rfl rfl rfl rfl V9 Tryz.underlying25 sizeCm rfl ⟨by rw [hout.out]; rfl, hBn.trans (hO9.2.2 _ SB.out.l4)⟩
                  · have h10b : ((s[st].toNat : Int) != 10) = true := by
                      simp
                      intro q
                      exact h10 (UInt8.toNat_inj.1 (by show s[st].toNat = 10; omega))
                    have hout : Hid (X = (Cm.zero, (e : Int) + 1, 3)) := by
                      unfold Hid
                      rw [HX.out, HC.out, if_neg hsv2, if_neg hul2, if_pos (by rw [huk]; simp; exact h10), hlen]
                      refine Prod.ext rfl (Prod.ext ?_ rfl)
                      simp
                      omega
                    clear HC hsv2 hul2 huk h10
                    as_aux_lemma =>
                      go_wp2_with (first | (go_at_call 69; refine (l11Sized_is vb _ hsv.out _).mono ?_; rintro e wq ⟨rfl, hq⟩; subst wq) | (refine wpList_load_r rfl 25 _ rfl b7 0 [.int .i64 0, .string ⟨#[]⟩, .int .i64 0, .int .i64 0, .string ⟨#[]⟩, .int .i64 0, .int .i64 0, .bool false] rfl _ Tryz.underlying25 rfl sizeCm SB.out.V7.range ?_) | (refine wpList_store_v rfl 25 _ _ rfl b4 [.int .i64 0, .string ⟨#[]⟩, .int .i64 0, .int .i64 0, .string ⟨#[]⟩, .int .i64 0, .int .i64 0, .bool false] rfl rfl sizeCm SB.out.V4 rfl (oneCs 0 ⟨#[]⟩ 0 0 ⟨#[]⟩ 0 0 false) ?_; intro w9 hO9 V9) | (fail))
                      exact row_ctt rfl rfl rfl rfl V9 Tryz.underlying25 sizeCm rfl ⟨by rw [hout.out]; rfl, SB.out.b.trans (hO9.2.2 _ SB.out.l4)⟩
      · have h10b : ((s[e].toNat : Int) != 10) = true := by
          simp
          intro q
          exact h10 (UInt8.toNat_inj.1 (by show s[e].toNat = 10; omega))
        by_cases hL : e - p ≤ 100
        · have hL' : ((e - p : Nat) : Int) ≤ 100 := by omega
          have hno2 : Hid (10 ∉ ((bs s).drop p).take (e + 1 - p)) := no10_step hno.out he0 hlt h10
          clear long h10 hno
          go_wp2
          go_round
          case rel => exact ⟨e + 1, by go_num, by omega, by omega, by omega, hno2⟩
          case measure => simp [intOf]; omega
        · have hL' : ¬ ((e - p : Nat) : Int) ≤ 100 := by omega
          have hL2 : (100 : Int) < ((e - p : Nat) : Int) := by omega
          have hout := long (by omega)
          clear long h10
          as_aux_lemma =>
            go_wp2_with (first | (refine wpList_load_r rfl 25 _ rfl b7 0 [.int .i64 0, .string ⟨#[]⟩, .int .i64 0, .int .i64 0, .string ⟨#[]⟩, .int .i64 0, .int .i64 0, .bool false] rfl _ Tryz.underlying25 rfl sizeCm S0.out.V7.range ?_) | (refine wpList_store_v rfl 25 _ _ rfl b4 [.int .i64 0, .string ⟨#[]⟩, .int .i64 0, .int .i64 0, .string ⟨#[]⟩, .int .i64 0, .int .i64 0, .bool false] rfl rfl sizeCm S0.out.V4 rfl (oneCs 0 ⟨#[]⟩ 0 0 ⟨#[]⟩ 0 0 false) ?_; intro w9 hO9 V9) | (fail))
            exact row_ctt rfl rfl rfl rfl V9 Tryz.underlying25 sizeCm rfl ⟨by rw [hout.out]; rfl, S0.out.b.trans (hO9.2.2 _ S0.out.l4)⟩
    · have hlt' : ¬ (e : Int) < (s.size : Int) := by omega
      by_cases hL : 100 < e - p
      · have hL2 : (100 : Int) < ((e - p : Nat) : Int) := by omega
        have hout := long hL
        clear long
        as_aux_lemma =>
          go_wp2_with (first | (refine wpList_load_r rfl 25 _ rfl b7 0 [.int .i64 0, .string ⟨#[]⟩, .int .i64 0, .int .i64 0, .string ⟨#[]⟩, .int .i64 0, .int .i64 0, .bool false] rfl _ Tryz.underlying25 rfl sizeCm S0.out.V7.range ?_) | (refine wpList_store_v rfl 25 _ _ rfl b4 [.int .i64 0, .string ⟨#[]⟩, .int .i64 0, .int .i64 0, .string ⟨#[]⟩, .int .i64 0, .int .i64 0, .bool false] rfl rfl sizeCm S0.out.V4 rfl (oneCs 0 ⟨#[]⟩ 0 0 ⟨#[]⟩ 0 0 false) ?_; intro w9 hO9 V9) | (fail))
          exact row_ctt rfl rfl rfl rfl V9 Tryz.underlying25 sizeCm rfl ⟨by rw [hout.out]; rfl, S0.out.b.trans (hO9.2.2 _ S0.out.l4)⟩
      · have hL2 : ¬ (100 : Int) < ((e - p : Nat) : Int) := by omega
        have hen : ((e : Int) == (s.size : Int)) = true := by simp; omega
        have hout : Hid (X = (Cm.zero, (p : Int), 1)) := by
          have hc : cmdOf ((bs s).drop p) = (Cm.zero, 0, 1) := line_more (by have := hno.out; rw [List.take_of_length_le (by rw [List.length_drop, bs_len]; omega)] at this; exact this) (by rw [List.length_drop, bs_len]; omega)
          unfold Hid
          rw [HA.out, hc]
          simp
        clear long
        as_aux_lemma =>
          go_wp2_with (first | (refine wpList_load_r rfl 25 _ rfl b7 0 [.int .i64 0, .string ⟨#[]⟩, .int .i64 0, .int .i64 0, .string ⟨#[]⟩, .int .i64 0, .int .i64 0, .bool false] rfl _ Tryz.underlying25 rfl sizeCm S0.out.V7.range ?_) | (refine wpList_store_v rfl 25 _ _ rfl b4 [.int .i64 0, .string ⟨#[]⟩, .int .i64 0, .int .i64 0, .string ⟨#[]⟩, .int .i64 0, .int .i64 0, .bool false] rfl rfl sizeCm S0.out.V4 rfl (oneCs 0 ⟨#[]⟩ 0 0 ⟨#[]⟩ 0 0 false) ?_; intro w9 hO9 V9) | (fail))
          exact row_ctt rfl rfl rfl rfl V9 Tryz.underlying25 sizeCm rfl ⟨by rw [hout.out]; rfl, S0.out.b.trans (hO9.2.2 _ S0.out.l4)⟩
end Go.Proofs.YtaabmkhckbndgaaGreatDoor.cm
