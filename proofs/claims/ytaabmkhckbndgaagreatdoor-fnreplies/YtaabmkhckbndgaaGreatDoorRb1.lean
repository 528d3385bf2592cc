/- Contracts: the reply at a place, the model's. -/
import Derived.Test.YtaabmkhckbndgaaGreatDoorMg20
import Derived.Test.YtaabmkhckbndgaaGreatDoorMg17
import Derived.Test.YtaabmkhckbndgaaGreatDoorMg28
import Derived.Test.YtaabmkhckbndgaaGreatDoorCa1
import Derived.Test.YtaabmkhckbndgaaGreatDoorMg15
import Derived.Test.YtaabmkhckbndgaaGreatDoorMg08
import Derived.Test.YtaabmkhckbndgaaGreatDoorMg13
import Derived.Deep.DeepCutAuto
import Derived.Deep.RegionHeld3
import Derived.BigQuiet
import Derived.Laws.DeepStrings4
import Derived.Deep.CutBlock
namespace Go.Proofs.YtaabmkhckbndgaaGreatDoor.cm
open Go.ChangeShapes Go.WideShapes Go.ChangeAt Go.RowKit
open Go.Deep Go.Joins
open Go.Proofs.YtaabmkhckbndgaaGreatDoor.ce Go.Proofs.YtaabmkhckbndgaaGreatDoor.ro Go.Proofs.YtaabmkhckbndgaaGreatDoor.rg
set_option linter.unusedVariables false

theorem ktx_nodup : ktx.Nodup := by
  unfold ktx
  rw [List.nodup_iff_pairwise_ne] <;> skip
  exact List.Pairwise.map tx (fun a b h e => h (by rw [← bs_tx a, ← bs_tx b, e])) (by decide : List.Pairwise (· ≠ ·) kinds)
theorem kind_pos (x : ByteArray) : posS x ktx + 1 = kindOf (bs x) := by
  by_cases h : x ∈ ktx
  · obtain ⟨i, hi, e⟩ := List.mem_iff_getElem.1 h
    have hi' : i < kinds.length := by simpa [ktx] using hi
    have e2 : kinds[i] = bs x := by rw [← e]; simp [ktx, bs_tx]
    have hv : kindOf (bs x) = (i : Int) + 1 := by
      have h13 : i < 12 := hi'
      have := kindOf_kw (v := (i : Int) + 1) (by omega) (by omega)
      rw [show kw ((i : Int) + 1) = bs x by
        unfold kw
        rw [show ((i : Int) + 1 - 1).toNat = i by omega, List.getElem?_eq_getElem hi', e2]
        rfl] at this
      exact this
    rw [hv, posS_at hi e (by
      intro hm
      obtain ⟨j, hj, ej⟩ := List.mem_iff_getElem.1 hm
      have hj2 : j < i := by rw [List.length_take] at hj; omega
      rw [List.getElem_take] at ej
      exact (List.pairwise_iff_getElem.1 ktx_nodup) j i (by omega) hi hj2 (ej.trans e.symm))]
  · rw [posS_no h]
    refine (kindOf_none fun i hi e => h ?_).symm
    unfold ktx
    exact List.mem_map.2 ⟨kinds[i]'hi, List.getElem_mem _, by rw [e, tx_bs]⟩
/-- the line at a place -/
theorem line_at {s : ByteArray} {p e : Nat} (h : 10 ∉ ((bs s).drop p).take (e - p)) (hp : p ≤ e) (he : e < s.size) (hc : s[e] = 10) : lineOf ((bs s).drop p) = bs (s.extract p e) ∧ ((bs s).drop p).drop ((lineOf ((bs s).drop p)).length + 1) = (bs s).drop (e + 1) := by
  have hj : e < (bs s).length := by rw [bs_len]; exact he
  have e1 : bs (s.extract p e) = ((bs s).drop p).take (e - p) := bs_extract s p e
  have e2 : (bs s).drop p = bs (s.extract p e) ++ 10 :: (bs s).drop (e + 1) := by
    rw [e1]
    conv => lhs; rw [← List.take_append_drop (e - p) ((bs s).drop p)]
    rw [List.drop_drop, show p + (e - p) = e by omega, List.drop_eq_getElem_cons hj]
    have : (bs s)[e] = 10 := hc
    rw [this]
  have e3 : lineOf ((bs s).drop p) = bs (s.extract p e) := by rw [e2]; exact lineOf_app (by rw [e1]; exact h) _
  refine ⟨e3, ?_⟩
  rw [e3, bs_len, ByteArray.size_extract, List.drop_drop]
  congr 1
  omega
theorem no_ten {s : ByteArray} {p e : Nat} (h : 10 ∉ ((bs s).drop p).take (e - p)) (he : ¬ e < s.size) : 10 ∉ (bs s).drop p := by
  rw [List.take_of_length_le (by rw [List.length_drop, bs_len]; omega)] at h
  exact h
theorem only_cell {w w' : World} {b g o : Nat} {v : Value} (h : Only b w w') (hc : w.cell? ⟨g, o, none⟩ = some v) (hn : g ≠ b) : w'.cell? ⟨g, o, none⟩ = some v := (World.cell?_of_block (w := w) (w' := w') (a := ⟨g, o, none⟩) (h.2.1 g hn)).trans hc
/-- while a place is read: the answer's variable, the empty reply's -/
structure Rq (w wr : World) (b4 b6 : Nat) : Prop where
  V4 : VBlk wr b4 42 [.int .i64 0, .string ⟨#[]⟩, .int .i64 0, .string ⟨#[]⟩, .int .i64 0, .int .i64 0]
  V6 : VBlk wr b6 42 [.int .i64 0, .string ⟨#[]⟩, .int .i64 0, .string ⟨#[]⟩, .int .i64 0, .int .i64 0]
  b : Below w.heap.size w wr
  l4 : w.heap.size ≤ b4
  l6 : w.heap.size ≤ b6
theorem Rq.grow {w wr w' : World} {b4 b6 : Nat} (h : Rq w wr b4 b6) (hb : Below wr.heap.size wr w') : Rq w w' b4 b6 := ⟨vblk_grow h.V4 hb, vblk_grow h.V6 hb, h.b.trans (hb.mono h.b.size), h.l4, h.l6⟩
theorem Rq.only {w wr w' : World} {b4 b6 b : Nat} (h : Rq w wr b4 b6) (ho : Only b wr w') (h4 : b4 ≠ b) (h6 : b6 ≠ b) (hl : w.heap.size ≤ b) : Rq w w' b4 b6 := ⟨vblk_only h.V4 ho h4, vblk_only h.V6 ho h6, h.b.trans (ho.2.2 _ hl), h.l4, h.l6⟩
theorem Rq.ty {w wr w' : World} {b4 b6 lo : Nat} {T : TypeId} (h : Rq w wr b4 b6) (hT : Ty lo T wr w') (hlo : w.heap.size ≤ lo) (ht : 42 ≠ T) : Rq w w' b4 b6 := ⟨hT.vblk h.V4 ht, hT.vblk h.V6 ht, h.b.trans (hT.low.mono hlo), h.l4, h.l6⟩
/-- while numbers are read: the variables, the words, the reply so far, the numbers -/
structure Rm (w wr : World) (b4 b6 b10 lw hw : Nat) (vw : Value) (L : List ByteArray) (cs : List Value) (vn : Value) (ns : List Int) : Prop where
  q : Rq w wr b4 b6
  l : Own encS wr lw hw vw L
  v : VBlk wr b10 42 cs
  o : Own encN wr w.heap.size wr.heap.size vn ns
theorem Rm.grow {w wr w' : World} {b4 b6 b10 lw hw : Nat} {vw vn : Value} {L : List ByteArray} {cs : List Value} {ns : List Int} (h : Rm w wr b4 b6 b10 lw hw vw L cs vn ns) (hb : Below wr.heap.size wr w') : Rm w w' b4 b6 b10 lw hw vw L cs vn ns := ⟨h.q.grow hb, h.l.grow hb, vblk_grow h.v hb, (h.o.grow hb).top⟩
theorem Rm.app {w wr w' : World} {b4 b6 b10 lw hw : Nat} {vw vn v' : Value} {L : List ByteArray} {cs : List Value} {ns ns' : List Int} (h : Rm w wr b4 b6 b10 lw hw vw L cs vn ns) (hT : Ty w.heap.size encN.t wr w') (o' : Own encN w' w.heap.size w'.heap.size v' ns') : Rm w w' b4 b6 b10 lw hw vw L cs v' ns' :=
  ⟨h.q.ty hT (Nat.le_refl _) (by decide), hT.own h.l (by decide), hT.vblk h.v (by decide), o'⟩
theorem Rm.set {w wr : World} {b4 b6 b10 lw hw : Nat} {vw vn : Value} {L : List ByteArray} {cs cs' : List Value} {ns : List Int} (h : Rm w wr b4 b6 b10 lw hw vw L cs vn ns) (hZ : w.heap.size ≤ b10 ∧ b10 ≠ b4 ∧ b10 ≠ b6) (j : Nat) (x : Value) (e : cs.set j x = cs') : Rm w (wr.setCell ⟨b10, j, none⟩ x) b4 b6 b10 lw hw vw L cs' vn ns := by
  subst e
  have hO := only_set wr b10 j x
  exact ⟨h.q.only hO hZ.2.1.symm hZ.2.2.symm hZ.1, h.l.only hO h.v (by decide), h.v.set j x, (h.o.only hO h.v (by decide)).top⟩
theorem szS1 : (Tryz.prog.info? 9).map (·.size) = some 1 := by kernel_rfl
theorem szI1 : (Tryz.prog.info? 2).map (·.size) = some 1 := by kernel_rfl
theorem wpList_store_cell {ops : Array Oper} {rest : List Oper} {o : Oper} {a : Act} {w : World} {Q : Exit → Act → World → Prop} (hgd : o.guard = none) (t : TypeId) (x y : Operand) (ho : o.op = .store t x y) (b j : Nat) (u : Value) (hx : a.eval x = .pointer (some ⟨b, j, none⟩)) (hy : a.eval y = u) (h1 : u.oneCell' = true) (hi : (Tryz.prog.info? t).map (·.size) = some 1)
    {T : TypeId} {vs : List Value} (V : VBlk w b T vs) (hj : j < vs.length) (h : ∀ w', Only b w w' → VBlk w' b T (vs.set j u) → wpList Tryz.prog ops Q rest (a.put o.dst undef) w') : wpList Tryz.prog ops Q (o :: rest) a w :=
  wpList_plain hgd fun _ hK => by
    unfold Oper.wp execOp
    obtain ⟨i, hi1, hi2⟩ := Option.map_eq_some_iff.1 hi
    have hc := V.cell j hj
    have hf := V.frozen j
    have hcc : u.cells = #[u] := by cases u <;> first | rfl | cases h1
    simp [ho, hx, hy, Instr.storeAt, Instr.sureAddr, storeVar, sizeOf, typeInfo, hi1, hi2, hcc, storeCells, run_store _ _ _ _ _ h1, hc, hf, Addr.add]
    exact hK _ _ (h _ (only_set _ _ _ _) (V.set j u))
theorem Rm.setW {w wr w' : World} {b4 b6 b10 lw hw : Nat} {vw vn : Value} {L : List ByteArray} {cs cs' : List Value} {ns : List Int} (h : Rm w wr b4 b6 b10 lw hw vw L cs vn ns) (hZ : w.heap.size ≤ b10 ∧ b10 ≠ b4 ∧ b10 ≠ b6) (hO : Only b10 wr w') (V : VBlk w' b10 42 cs') : Rm w w' b4 b6 b10 lw hw vw L cs' vn ns :=
  ⟨h.q.only hO hZ.2.1.symm hZ.2.2.symm hZ.1, h.l.only hO h.v (by decide), V, (h.o.only hO h.v (by decide)).top⟩
theorem own_ne {α : Type} {E : Enc α} {w : World} {lo hi n cap g o b : Nat} {xs : List α} {t : TypeId} {vs : List Value} (ow : Own E w lo hi (.slice (some ⟨g, o, none⟩) n cap) xs) (h : 1 ≤ xs.length) (V : VBlk w b t vs) (ht : E.t ≠ t) : g ≠ b := by
  rcases ow.row with ⟨rfl, -⟩ | ⟨g', cap', cur, e', hg, hb, -⟩
  · simp at h
  · injection e' with e1
    injection e1 with e1
    injection e1 with e1
    subst e1
    rintro rfl
    have := hb.symm.trans V
    simp at this
    exact ht this.2
theorem getD_at {ws : List (List UInt8)} {i : Nat} (h : i < ws.length) : ws.getD i [] = ws[i] := by rw [List.getD_eq_getElem?_getD, List.getElem?_eq_getElem h]; rfl
theorem num_snoc {ws : List (List UInt8)} {j : Nat} (hj : j < ws.length) {x : Int} {b : Bool} (h : rdF ws[j] = (x, b)) : (ws.take (j + 1)).map (fun y => (rdF y).1) = (ws.take j).map (fun y => (rdF y).1) ++ [x] := by
  rw [List.take_succ_eq_append_getElem hj, List.map_append, List.map_singleton, h]
set_option maxRecDepth 100000 in
set_option maxHeartbeats 40000000 in
theorem specReplyAt_any (s : ByteArray) (p : Int) (hs : s.size ≤ 1048576) (w : World) :
    Calls Tryz.prog 28 #[.string s, .int .i64 p] w fun e w' => PostR (atR s p) w e w' := by
  obtain ⟨X, hX⟩ := hid_ex (atR s p)
  rw [hX.out]
  have m1 : Hid True := trivial
  have m2 : Hid True := trivial
  go_enter Tryz.func28, Tryz.ntmps28
  go_upto_region 3 with (first | (clear m1; refine wpList_alloc_v rfl 42 rfl _ zeroRp ?_; intro b4 w1 hb4 hw4 hB1 V4; have hz1 := hB1.size) | (clear m2; refine wpList_alloc_v rfl 42 rfl _ zeroRp ?_; intro b6 w2 hb6 hw6 hB2 V6; have hz2 := hB2.size; have V4b := vblk_grow V4 hB2) | (refine wpList_store_v rfl 42 _ _ rfl b6 [.int .i64 0, .string ⟨#[]⟩, .int .i64 0, .string ⟨#[]⟩, .int .i64 0, .int .i64 0] rfl rfl sizeRp V6 rfl (oneRs 0 ⟨#[]⟩ 0 ⟨#[]⟩ 0 0) ?_; intro w3 hO3 V6b; have SL : Rq w w3 b4 b6 := ⟨vblk_only V4b hO3 (by have := V4.lt; omega), V6b, (hB1.trans (hB2.mono hz1)).trans (hO3.2.2 _ (by omega)), hb4, by omega⟩) | (fail))
  have S0 : Hid (Rq w w3 b4 b6) := SL
  clear SL hO3 hB1 hB2
  by_cases hneg : p < 0
  · have hout : Hid (X = (Rp.zero, -1)) := hX.out.symm.trans (atR_out (by omega))
    as_aux_lemma =>
      go_wp2_with (first | (refine wpList_load_r rfl 42 _ rfl b6 0 [.int .i64 0, .string ⟨#[]⟩, .int .i64 0, .string ⟨#[]⟩, .int .i64 0, .int .i64 0] rfl _ Tryz.underlying42 rfl sizeRp S0.out.V6.range ?_) | (refine wpList_store_v rfl 42 _ _ rfl b4 [.int .i64 0, .string ⟨#[]⟩, .int .i64 0, .string ⟨#[]⟩, .int .i64 0, .int .i64 0] rfl rfl sizeRp S0.out.V4 rfl (oneRs 0 ⟨#[]⟩ 0 ⟨#[]⟩ 0 0) ?_; intro w9 hO9 V9) | (fail))
      exact row_ct rfl rfl rfl V9 Tryz.underlying42 sizeRp rfl ⟨by rw [hout.out]; rfl, S0.out.b.trans (hO9.2.2 _ S0.out.l4)⟩
  by_cases hbig : (s.size : Int) < p
  · have hout : Hid (X = (Rp.zero, -1)) := hX.out.symm.trans (atR_out (by omega))
    as_aux_lemma =>
      go_wp2_with (first | (refine wpList_load_r rfl 42 _ rfl b6 0 [.int .i64 0, .string ⟨#[]⟩, .int .i64 0, .string ⟨#[]⟩, .int .i64 0, .int .i64 0] rfl _ Tryz.underlying42 rfl sizeRp S0.out.V6.range ?_) | (refine wpList_store_v rfl 42 _ _ rfl b4 [.int .i64 0, .string ⟨#[]⟩, .int .i64 0, .string ⟨#[]⟩, .int .i64 0, .int .i64 0] rfl rfl sizeRp S0.out.V4 rfl (oneRs 0 ⟨#[]⟩ 0 ⟨#[]⟩ 0 0) ?_; intro w9 hO9 V9) | (fail))
      exact row_ct rfl rfl rfl V9 Tryz.underlying42 sizeRp rfl ⟨by rw [hout.out]; rfl, S0.out.b.trans (hO9.2.2 _ S0.out.l4)⟩
  obtain ⟨p, rfl⟩ : ∃ n : Nat, p = n := ⟨p.toNat, by omega⟩
  have hp : p ≤ s.size := by omega
  have HN : Hid (repL ((bs s).drop p) = Option.none → X = (Rp.zero, -1)) := fun h => hX.out.symm.trans (atR_none h)
  have HSm : Hid (∀ r, repL ((bs s).drop p) = some r → X = (r, (p : Int) + (showR r).length)) := fun r h => hX.out.symm.trans (atR_some hp h)
  clear hX
  go_wp2
  go_loop [8] (fun u => ∃ e : Nat, u = .int .i64 e ∧ p ≤ e ∧ e ≤ s.size ∧ Hid (10 ∉ ((bs s).drop p).take (e - p))) (fun u => s.size - (intOf u).toNat)
  case atStart => exact ⟨p, rfl, Nat.le_refl _, hp, by unfold Hid; simp⟩
  case round =>
    obtain ⟨e, rfl, he0, he1, hno⟩ := hrel
    by_cases hlt : e < s.size
    · have hlt' : (e : Int) < (s.size : Int) := by omega
      by_cases h10 : s[e] = 10
      · have h10b : ((s[e].toNat : Int) != 10) = false := by rw [h10]; rfl
        obtain ⟨l, hle⟩ := hid_ex (s.extract p e)
        have hls : l.size = e - p := by rw [← hle.out, ByteArray.size_extract]; omega
        obtain ⟨hln, hdr⟩ := line_at hno.out he0 hlt h10
        rw [hle.out] at hln
        have hext : s.extract p e = l := hle.out
        have hpe : (p : Int) ≤ (e : Int) := by omega
        have e1w : IntKind.i64.wrap ((e : Int) + 1) = (e : Int) + 1 := by rw [IntKind.wrap_i64]; omega
        have hen : ((e : Int) == (s.size : Int)) = false := by simp; omega
        obtain ⟨u, hu⟩ := hid_ex ((bs s).drop (e + 1))
        rw [hu.out] at hdr
        have HLN : Hid (lineOf ((bs s).drop p) = bs l) := hln
        have HDR : Hid (((bs s).drop p).drop ((lineOf ((bs s).drop p)).length + 1) = u) := hdr
        have hul : Hid (u.length = s.size - (e + 1)) := by unfold Hid; rw [← hu.out, List.length_drop, bs_len]
        clear hle hln hdr h10 hno
        go_upto_region 11 with (first | (go_at_call 65; refine (l1Split_32 l _ (by omega)).mono ?_; rintro er w5 ⟨v5, rfl, L, hL, O5, hB5⟩; have S5 := S0.out.grow hB5; have hz5 := hB5.size; obtain ⟨A5, n5, k5, rfl⟩ := O5.slice; have HL : Hid (L.map bs = splitL 32 (bs l)) := hL; clear hL) | (fail))
        have hL1 : 1 ≤ L.length := by
          have := splitL_ne 32 (bs l)
          rw [← HL.out] at this
          cases L with
          | nil => simp at this
          | cons a r => simp
        have hLn : L.length ≤ 1048577 := by
          have := split_len 32 (bs l)
          rw [← HL.out, List.length_map, bs_len] at this
          omega
        have hLs : Hid (∀ y ∈ L, y.size ≤ 1048576) := fun y hy => by
          have := split_mem 32 (bs l) (bs y) (by rw [← HL.out]; exact List.mem_map_of_mem hy)
          rw [bs_len, bs_len] at this
          omega
        have OO : Hid (Own encS w5 w3.heap.size w5.heap.size (.slice A5 n5 k5) L) := O5
        have SS : Hid (Rq w w5 b4 b6) := S5
        have hn5 : n5 = L.length := O5.rd.cap.1
        subst hn5
        obtain ⟨y0, hy0⟩ := hid_ex (L[0]'(by omega))
        obtain ⟨K, hK⟩ := hid_ex (kindOf (bs y0))
        obtain ⟨K1, hK1⟩ := hid_ex (K - 1)
        have hpos : Hid (posS y0 ktx = K1) := by
          have := kind_pos y0
          rw [hK.out] at this
          have := hK1.out
          unfold Hid
          omega
        have hKb : 0 ≤ K ∧ K ≤ 12 := by rw [← hK.out]; exact kindOf_bd _
        have ewK : IntKind.i64.wrap (K1 + 1) = K := by rw [IntKind.wrap_i64]; have := hK1.out; omega
        have hone : (0 : Int) < (L.length : Int) := by omega
        have hhd : Hid (kindOf ((splitL 32 (lineOf ((bs s).drop p))).headD []) = K) := by
          unfold Hid
          rw [HLN.out, ← HL.out, ← hK.out]
          cases L with
          | nil => simp at hL1
          | cons a r => have := hy0.out; simp at this; simp [this]
        obtain ⟨ws, hws⟩ := hid_ex (L.tail.map bs)
        have htl : Hid ((splitL 32 (lineOf ((bs s).drop p))).tail = ws) := by
          unfold Hid
          rw [HLN.out, ← HL.out, ← hws.out, List.map_tail]
        clear O5 S5
        go_cut [10] from 48 to 54 (fun v10 wc => ∃ b10, v10 = .pointer (some ⟨b10, 0, none⟩) ∧ Hid (Rq w wc b4 b6) ∧ Hid (Own encS wc w3.heap.size w5.heap.size (.slice A5 L.length k5) L) ∧ Hid (VBlk wc b10 42 [.int .i64 K, .string ⟨#[]⟩, .int .i64 0, .string ⟨#[]⟩, .int .i64 0, .int .i64 0]) ∧ Hid (w.heap.size ≤ b10 ∧ b10 ≠ b4 ∧ b10 ≠ b6))
        case first =>
          obtain ⟨g5, o5, rfl, hg5, dd⟩ := rdS_cell OO.out.rd 0 (by omega)
          rw [hy0.out] at dd
          have dd0 : w5.cell? ⟨g5, o5, none⟩ = some (.string y0) := by simpa using dd
          have hone0 : 0 < L.length := by omega
          have hS0 : w5.drew.cell? ⟨g5, o5, none⟩ = some (.string y0) := dd0
          have SD := SS.out.grow (Below.refl _ w5).drew
          have OD := OO.out.grow (Below.refl _ w5).drew
          refine wp_region_held_drew (S := fun w' => w'.cell? ⟨g5, o5, none⟩ = some (.string y0)) (by kernel_rfl) (hS0) (fun hHeld => ?_)
          refine wpAnyH_take (i := 1) (oi := { dst := some 49, op := Op.move (Operand.tmp 9), type := 69, pos := "l12_reply.go:58", after := #[], guard := none }) (v := ?_) rfl (by kernel_rfl) (by kernel_rfl) (by kernel_rfl) (fun _ _ _ h => h) (Or.inl ⟨by rfl, ?_⟩) (by assumption) ?_
          rotate_left 1
          · intro w' hSw
            (try dsimp only at hSw)
            go_simp
            (try with_reducible rfl)
          (try simp only [Act.put, List.setIfInBounds_toArray, List.set_cons_zero, List.set_cons_succ])
          refine wpAnyH_take (i := 2) (oi := { dst := some 50, op := Op.indexAddr 69 (Operand.tmp 49) (Operand.const (Value.int IntKind.i64 0)), type := 0, pos := "l12_reply.go:58", after := #[{ on := 1, ground := Ground.data }], guard := none }) (v := ?_) rfl (by kernel_rfl) (by kernel_rfl) (by kernel_rfl) (fun _ _ _ h => h) (Or.inl ⟨by rfl, ?_⟩) (by assumption) ?_
          rotate_left 1
          · intro w' hSw
            (try dsimp only at hSw)
            go_simp
            (try with_reducible rfl)
          (try simp only [Act.put, List.setIfInBounds_toArray, List.set_cons_zero, List.set_cons_succ])
          refine wpAnyH_take (i := 3) (oi := { dst := some 51, op := Op.load 9 (Operand.tmp 50), type := 9, pos := "l12_reply.go:58", after := #[{ on := 2, ground := Ground.data }], guard := none }) (v := ?_) rfl (by kernel_rfl) (by kernel_rfl) (by kernel_rfl) (fun _ _ _ h => h) (Or.inl ⟨by rfl, ?_⟩) (by assumption) ?_
          rotate_left 1
          · intro w' hSw
            (try dsimp only at hSw)
            go_simp
            (try with_reducible rfl)
          (try simp only [Act.put, List.setIfInBounds_toArray, List.set_cons_zero, List.set_cons_succ])
          refine wpAnyH_ready (rs := [0, 7]) (by kernel_rfl) (by simp) ?_
          refine AllReadyH.cons (o := { dst := some 48, op := Op.call { callee := Callee.value (Operand.func 84), args := #[], argTypes := #[] }, type := 69, pos := "l12_reply.go:58", after := #[], guard := none }) rfl (fun KC hKC => ?_) (AllReadyH.cons (o := { dst := some 10, op := Op.alloc 42, type := 0, pos := "l12_reply.go:58", after := #[], guard := none }) rfl (fun KC hKC => ?_) AllReadyH.nil)
          · go_simp
            go_at_call 84
            refine (l12Words_any _).mono ?_
            rintro er w6 ⟨x6, rfl, R6, hB6⟩
            have dd6 : w6.cell? ⟨g5, o5, none⟩ = some (.string y0) := cell_grow' hB6 hg5 hS0
            have S6 := SD.grow hB6
            have O6 := OD.grow hB6
            refine hKC.out _ _ (dd6) (fun hHeld2 => ?_)
            clear hKC KC hHeld
            have hHeld := hHeld2
            clear hHeld2
            (try simp only [Act.put, List.setIfInBounds_toArray, List.set_cons_zero, List.set_cons_succ])
            refine wpAnyH_ready (rs := [4, 7]) (by kernel_rfl) (by simp) ?_
            refine AllReadyH.cons (o := { dst := some 52, op := Op.call { callee := Callee.value (Operand.func 66), args := #[Operand.tmp 48, Operand.tmp 51], argTypes := #[69, 9] }, type := 2, pos := "l12_reply.go:58", after := #[{ on := 0, ground := Ground.data }, { on := 3, ground := Ground.data }, { on := 0, ground := Ground.chain }], guard := none }) rfl (fun KC hKC => ?_) (AllReadyH.cons (o := { dst := some 10, op := Op.alloc 42, type := 0, pos := "l12_reply.go:58", after := #[], guard := none }) rfl (fun KC hKC => ?_) AllReadyH.nil)
            · go_simp
              go_at_call 66
              refine (l1At_is ktx y0 x6 _ R6 K1 hpos.out).mono ?_
              rintro er wq ⟨rfl, hq⟩
              subst wq
              refine hKC.out _ _ (dd6) (fun hHeld2 => ?_)
              clear hKC KC hHeld
              have hHeld := hHeld2
              clear hHeld2
              (try simp only [Act.put, List.setIfInBounds_toArray, List.set_cons_zero, List.set_cons_succ])
              refine wpAnyH_take (i := 5) (oi := { dst := some 53, op := Op.binOp BinOp.add 2 (Operand.tmp 52) (Operand.const (Value.int IntKind.i64 1)) 2, type := 2, pos := "l12_reply.go:58", after := #[{ on := 4, ground := Ground.data }], guard := none }) (v := ?_) rfl (by kernel_rfl) (by kernel_rfl) (by kernel_rfl) (fun _ _ _ h => h) (Or.inl ⟨by rfl, ?_⟩) (by assumption) ?_
              rotate_left 1
              · intro w' hSw
                (try dsimp only at hSw)
                go_simp
                (try with_reducible rfl)
              (try simp only [Act.put, List.setIfInBounds_toArray, List.set_cons_zero, List.set_cons_succ])
              refine wpAnyH_take (i := 6) (oi := { dst := some 54, op := Op.build 42 #[(0, Operand.tmp 53)], type := 42, pos := "l12_reply.go:58", after := #[{ on := 5, ground := Ground.data }], guard := none }) (v := ?_) rfl (by kernel_rfl) (by kernel_rfl) (by kernel_rfl) (fun _ _ _ h => h) (Or.inl ⟨by rfl, ?_⟩) (by assumption) ?_
              rotate_left 1
              · intro w' hSw
                (try dsimp only at hSw)
                go_simp
                (try with_reducible rfl)
              (try simp only [Act.put, List.setIfInBounds_toArray, List.set_cons_zero, List.set_cons_succ])
              refine wpAnyH_ready (rs := [7]) (by kernel_rfl) (by simp) ?_
              refine AllReadyH.cons (o := { dst := some 10, op := Op.alloc 42, type := 0, pos := "l12_reply.go:58", after := #[], guard := none }) rfl (fun KC hKC => ?_) AllReadyH.nil
              refine step_alloc_v rfl 42 rfl _ zeroRp ?_
              intro b10 w7 hb10 hw10 hB10 V10
              have hz10 := hB10.size
              refine hKC.out _ _ (cell_grow' hB10 (Nat.lt_of_lt_of_le hg5 hB6.size) dd6) (fun hHeld2 => ?_)
              clear hKC KC hHeld
              have hHeld := hHeld2
              clear hHeld2
              (try simp only [Act.put, List.setIfInBounds_toArray, List.set_cons_zero, List.set_cons_succ])
              refine wpAnyH_ready (rs := [8]) (by kernel_rfl) (by simp) ?_
              refine AllReadyH.cons (o := { dst := none, op := Op.store 42 (Operand.tmp 10) (Operand.tmp 54), type := 0, pos := "l12_reply.go:58", after := #[{ on := 7, ground := Ground.data }, { on := 6, ground := Ground.data }, { on := 4, ground := Ground.chain }, { on := 0, ground := Ground.phase }, { on := 1, ground := Ground.phase }, { on := 2, ground := Ground.phase }, { on := 3, ground := Ground.phase }, { on := 4, ground := Ground.phase }, { on := 5, ground := Ground.phase }, { on := 6, ground := Ground.phase }, { on := 7, ground := Ground.phase }], guard := none }) rfl (fun KC hKC => ?_) AllReadyH.nil
              refine step_store_v rfl 42 _ _ rfl b10 [.int .i64 K, .string ⟨#[]⟩, .int .i64 0, .string ⟨#[]⟩, .int .i64 0, .int .i64 0] rfl rfl sizeRp V10 rfl (oneRs K ⟨#[]⟩ 0 ⟨#[]⟩ 0 0) ?_
              intro wz hOz Vz
              refine hKC.out _ _ (only_cell hOz (cell_grow' hB10 (Nat.lt_of_lt_of_le hg5 hB6.size) dd6) (by have := hB6.size; have : g5 < w6.heap.size := Nat.lt_of_lt_of_le hg5 hB6.size; omega)) (fun hHeld2 => ?_)
              clear hKC KC hHeld
              have hHeld := hHeld2
              clear hHeld2
              (try simp only [Act.put])
              have SZ : Hid (Rq w wz b4 b6) := (S6.grow hB10).only hOz (by have := S6.V4.lt; omega) (by have := S6.V6.lt; omega) (by have := S6.b.size; omega)
              have OZ : Hid (Own encS wz w3.heap.size w5.heap.size (.slice (some ⟨g5, o5, none⟩) L.length k5) L) := O6.grow (hB10.trans (hOz.2.2 _ hb10))
              have VZ : Hid (VBlk wz b10 42 [.int .i64 K, .string ⟨#[]⟩, .int .i64 0, .string ⟨#[]⟩, .int .i64 0, .int .i64 0]) := Vz
              have hZ : Hid (w.heap.size ≤ b10 ∧ b10 ≠ b4 ∧ b10 ≠ b6) := ⟨by have := S6.b.size; omega, by have := S6.V4.lt; omega, by have := S6.V6.lt; omega⟩
              refine wpAnyH_done (by kernel_rfl) ?_ _
              go_wp2
              (try simp only [Act.put])
              go_meet
              case rel => exact ⟨_, rfl, SZ, OZ, VZ, hZ⟩
            · refine step_alloc_v rfl 42 rfl _ zeroRp ?_
              intro b10 w7 hb10 hw10 hB10 V10
              have hz10 := hB10.size
              refine hKC.out _ _ (cell_grow' hB10 (Nat.lt_of_lt_of_le hg5 hB6.size) dd6) (fun hHeld2 => ?_)
              clear hKC KC hHeld
              have hHeld := hHeld2
              clear hHeld2
              (try simp only [Act.put, List.setIfInBounds_toArray, List.set_cons_zero, List.set_cons_succ])
              refine wpAnyH_ready (rs := [4]) (by kernel_rfl) (by simp) ?_
              refine AllReadyH.cons (o := { dst := some 52, op := Op.call { callee := Callee.value (Operand.func 66), args := #[Operand.tmp 48, Operand.tmp 51], argTypes := #[69, 9] }, type := 2, pos := "l12_reply.go:58", after := #[{ on := 0, ground := Ground.data }, { on := 3, ground := Ground.data }, { on := 0, ground := Ground.chain }], guard := none }) rfl (fun KC hKC => ?_) AllReadyH.nil
              go_simp
              go_at_call 66
              refine (l1At_is ktx y0 x6 _ (R6.grow hB10) K1 hpos.out).mono ?_
              rintro er wq ⟨rfl, hq⟩
              subst wq
              refine hKC.out _ _ (cell_grow' hB10 (Nat.lt_of_lt_of_le hg5 hB6.size) dd6) (fun hHeld2 => ?_)
              clear hKC KC hHeld
              have hHeld := hHeld2
              clear hHeld2
              (try simp only [Act.put, List.setIfInBounds_toArray, List.set_cons_zero, List.set_cons_succ])
              refine wpAnyH_take (i := 5) (oi := { dst := some 53, op := Op.binOp BinOp.add 2 (Operand.tmp 52) (Operand.const (Value.int IntKind.i64 1)) 2, type := 2, pos := "l12_reply.go:58", after := #[{ on := 4, ground := Ground.data }], guard := none }) (v := ?_) rfl (by kernel_rfl) (by kernel_rfl) (by kernel_rfl) (fun _ _ _ h => h) (Or.inl ⟨by rfl, ?_⟩) (by assumption) ?_
              rotate_left 1
              · intro w' hSw
                (try dsimp only at hSw)
                go_simp
                (try with_reducible rfl)
              (try simp only [Act.put, List.setIfInBounds_toArray, List.set_cons_zero, List.set_cons_succ])
              refine wpAnyH_take (i := 6) (oi := { dst := some 54, op := Op.build 42 #[(0, Operand.tmp 53)], type := 42, pos := "l12_reply.go:58", after := #[{ on := 5, ground := Ground.data }], guard := none }) (v := ?_) rfl (by kernel_rfl) (by kernel_rfl) (by kernel_rfl) (fun _ _ _ h => h) (Or.inl ⟨by rfl, ?_⟩) (by assumption) ?_
              rotate_left 1
              · intro w' hSw
                (try dsimp only at hSw)
                go_simp
                (try with_reducible rfl)
              (try simp only [Act.put, List.setIfInBounds_toArray, List.set_cons_zero, List.set_cons_succ])
              refine wpAnyH_ready (rs := [8]) (by kernel_rfl) (by simp) ?_
              refine AllReadyH.cons (o := { dst := none, op := Op.store 42 (Operand.tmp 10) (Operand.tmp 54), type := 0, pos := "l12_reply.go:58", after := #[{ on := 7, ground := Ground.data }, { on := 6, ground := Ground.data }, { on := 4, ground := Ground.chain }, { on := 0, ground := Ground.phase }, { on := 1, ground := Ground.phase }, { on := 2, ground := Ground.phase }, { on := 3, ground := Ground.phase }, { on := 4, ground := Ground.phase }, { on := 5, ground := Ground.phase }, { on := 6, ground := Ground.phase }, { on := 7, ground := Ground.phase }], guard := none }) rfl (fun KC hKC => ?_) AllReadyH.nil
              refine step_store_v rfl 42 _ _ rfl b10 [.int .i64 K, .string ⟨#[]⟩, .int .i64 0, .string ⟨#[]⟩, .int .i64 0, .int .i64 0] rfl rfl sizeRp V10 rfl (oneRs K ⟨#[]⟩ 0 ⟨#[]⟩ 0 0) ?_
              intro wz hOz Vz
              refine hKC.out _ _ (only_cell hOz (cell_grow' hB10 (Nat.lt_of_lt_of_le hg5 hB6.size) dd6) (by have := hB6.size; have : g5 < w6.heap.size := Nat.lt_of_lt_of_le hg5 hB6.size; omega)) (fun hHeld2 => ?_)
              clear hKC KC hHeld
              have hHeld := hHeld2
              clear hHeld2
              (try simp only [Act.put])
              have SZ : Hid (Rq w wz b4 b6) := (S6.grow hB10).only hOz (by have := S6.V4.lt; omega) (by have := S6.V6.lt; omega) (by have := S6.b.size; omega)
              have OZ : Hid (Own encS wz w3.heap.size w5.heap.size (.slice (some ⟨g5, o5, none⟩) L.length k5) L) := O6.grow (hB10.trans (hOz.2.2 _ hb10))
              have VZ : Hid (VBlk wz b10 42 [.int .i64 K, .string ⟨#[]⟩, .int .i64 0, .string ⟨#[]⟩, .int .i64 0, .int .i64 0]) := Vz
              have hZ : Hid (w.heap.size ≤ b10 ∧ b10 ≠ b4 ∧ b10 ≠ b6) := ⟨by have := S6.b.size; omega, by have := S6.V4.lt; omega, by have := S6.V6.lt; omega⟩
              refine wpAnyH_done (by kernel_rfl) ?_ _
              go_wp2
              (try simp only [Act.put])
              go_meet
              case rel => exact ⟨_, rfl, SZ, OZ, VZ, hZ⟩
          · refine step_alloc_v rfl 42 rfl _ zeroRp ?_
            intro b10 w7 hb10 hw10 hB10 V10
            have hz10 := hB10.size
            refine hKC.out _ _ (cell_grow' hB10 hg5 hS0) (fun hHeld2 => ?_)
            clear hKC KC hHeld
            have hHeld := hHeld2
            clear hHeld2
            (try simp only [Act.put, List.setIfInBounds_toArray, List.set_cons_zero, List.set_cons_succ])
            refine wpAnyH_ready (rs := [0]) (by kernel_rfl) (by simp) ?_
            refine AllReadyH.cons (o := { dst := some 48, op := Op.call { callee := Callee.value (Operand.func 84), args := #[], argTypes := #[] }, type := 69, pos := "l12_reply.go:58", after := #[], guard := none }) rfl (fun KC hKC => ?_) AllReadyH.nil
            go_simp
            go_at_call 84
            refine (l12Words_any _).mono ?_
            rintro er w6 ⟨x6, rfl, R6, hB6⟩
            have dd6 : w6.cell? ⟨g5, o5, none⟩ = some (.string y0) := cell_grow' hB6 (Nat.lt_of_lt_of_le hg5 hB10.size) (cell_grow' hB10 hg5 hS0)
            have S6 := (SD.grow hB10).grow hB6
            have O6 := (OD.grow hB10).grow hB6
            refine hKC.out _ _ (dd6) (fun hHeld2 => ?_)
            clear hKC KC hHeld
            have hHeld := hHeld2
            clear hHeld2
            (try simp only [Act.put, List.setIfInBounds_toArray, List.set_cons_zero, List.set_cons_succ])
            refine wpAnyH_ready (rs := [4]) (by kernel_rfl) (by simp) ?_
            refine AllReadyH.cons (o := { dst := some 52, op := Op.call { callee := Callee.value (Operand.func 66), args := #[Operand.tmp 48, Operand.tmp 51], argTypes := #[69, 9] }, type := 2, pos := "l12_reply.go:58", after := #[{ on := 0, ground := Ground.data }, { on := 3, ground := Ground.data }, { on := 0, ground := Ground.chain }], guard := none }) rfl (fun KC hKC => ?_) AllReadyH.nil
            go_simp
            go_at_call 66
            refine (l1At_is ktx y0 x6 _ R6 K1 hpos.out).mono ?_
            rintro er wq ⟨rfl, hq⟩
            subst wq
            refine hKC.out _ _ (dd6) (fun hHeld2 => ?_)
            clear hKC KC hHeld
            have hHeld := hHeld2
            clear hHeld2
            (try simp only [Act.put, List.setIfInBounds_toArray, List.set_cons_zero, List.set_cons_succ])
            refine wpAnyH_take (i := 5) (oi := { dst := some 53, op := Op.binOp BinOp.add 2 (Operand.tmp 52) (Operand.const (Value.int IntKind.i64 1)) 2, type := 2, pos := "l12_reply.go:58", after := #[{ on := 4, ground := Ground.data }], guard := none }) (v := ?_) rfl (by kernel_rfl) (by kernel_rfl) (by kernel_rfl) (fun _ _ _ h => h) (Or.inl ⟨by rfl, ?_⟩) (by assumption) ?_
            rotate_left 1
            · intro w' hSw
              (try dsimp only at hSw)
              go_simp
              (try with_reducible rfl)
            (try simp only [Act.put, List.setIfInBounds_toArray, List.set_cons_zero, List.set_cons_succ])
            refine wpAnyH_take (i := 6) (oi := { dst := some 54, op := Op.build 42 #[(0, Operand.tmp 53)], type := 42, pos := "l12_reply.go:58", after := #[{ on := 5, ground := Ground.data }], guard := none }) (v := ?_) rfl (by kernel_rfl) (by kernel_rfl) (by kernel_rfl) (fun _ _ _ h => h) (Or.inl ⟨by rfl, ?_⟩) (by assumption) ?_
            rotate_left 1
            · intro w' hSw
              (try dsimp only at hSw)
              go_simp
              (try with_reducible rfl)
            (try simp only [Act.put, List.setIfInBounds_toArray, List.set_cons_zero, List.set_cons_succ])
            refine wpAnyH_ready (rs := [8]) (by kernel_rfl) (by simp) ?_
            refine AllReadyH.cons (o := { dst := none, op := Op.store 42 (Operand.tmp 10) (Operand.tmp 54), type := 0, pos := "l12_reply.go:58", after := #[{ on := 7, ground := Ground.data }, { on := 6, ground := Ground.data }, { on := 4, ground := Ground.chain }, { on := 0, ground := Ground.phase }, { on := 1, ground := Ground.phase }, { on := 2, ground := Ground.phase }, { on := 3, ground := Ground.phase }, { on := 4, ground := Ground.phase }, { on := 5, ground := Ground.phase }, { on := 6, ground := Ground.phase }, { on := 7, ground := Ground.phase }], guard := none }) rfl (fun KC hKC => ?_) AllReadyH.nil
            refine step_store_v rfl 42 _ _ rfl b10 [.int .i64 K, .string ⟨#[]⟩, .int .i64 0, .string ⟨#[]⟩, .int .i64 0, .int .i64 0] rfl rfl sizeRp (vblk_grow V10 hB6) rfl (oneRs K ⟨#[]⟩ 0 ⟨#[]⟩ 0 0) ?_
            intro wz hOz Vz
            refine hKC.out _ _ (only_cell hOz dd6 (by have h : w5.heap.size ≤ b10 := hb10; omega)) (fun hHeld2 => ?_)
            clear hKC KC hHeld
            have hHeld := hHeld2
            clear hHeld2
            (try simp only [Act.put])
            have SZ : Hid (Rq w wz b4 b6) := S6.only hOz (by have := SD.V4.lt; omega) (by have := SD.V6.lt; omega) (by have := SD.b.size; omega)
            have OZ : Hid (Own encS wz w3.heap.size w5.heap.size (.slice (some ⟨g5, o5, none⟩) L.length k5) L) := OD.grow ((hB10.trans (hB6.mono hz10)).trans (hOz.2.2 _ hb10))
            have VZ : Hid (VBlk wz b10 42 [.int .i64 K, .string ⟨#[]⟩, .int .i64 0, .string ⟨#[]⟩, .int .i64 0, .int .i64 0]) := Vz
            have hZ : Hid (w.heap.size ≤ b10 ∧ b10 ≠ b4 ∧ b10 ≠ b6) := ⟨by have := SD.b.size; omega, by have := SD.V4.lt; omega, by have := SD.V6.lt; omega⟩
            refine wpAnyH_done (by kernel_rfl) ?_ _
            go_wp2
            (try simp only [Act.put])
            go_meet
            case rel => exact ⟨_, rfl, SZ, OZ, VZ, hZ⟩
        case rest =>
        obtain ⟨b10, rfl, SQ, OL, VR, hZ⟩ := hcut
        have hwl : Hid (L.length = ws.length + 1) := by unfold Hid; rw [← hws.out, List.length_map, List.length_tail]; omega
        have hwn : ws.length ≤ 1048577 := by have := hwl.out; omega
        clear SS OO
        go_wp2
        go_loopw [12, 13] (fun num iv wr => ∃ (j : Nat) (an : Option Addr) (nn kn : Nat), j ≤ ws.length ∧ iv = .int .i64 ((j + 1 : Nat) : Int) ∧ num = .slice an nn kn ∧ Hid (Rm w wr b4 b6 b10 w3.heap.size w5.heap.size (.slice A5 L.length k5) L [.int .i64 K, .string ⟨#[]⟩, .int .i64 0, .string ⟨#[]⟩, .int .i64 0, .int .i64 0] (.slice an nn kn) ((ws.take j).map (fun y => (rdF y).1))) ∧ Hid (∀ i (h : i < ws.length), i < j → (rdF ws[i]).2 = true ∨ (i = 0 ∧ K = 5))) (fun _ iv _ => L.length - (intOf iv).toNat)
        case atStart => exact ⟨0, _, _, _, Nat.zero_le _, rfl, rfl, ⟨SQ.out.grow (bAl _ _), OL.out.grow (bAl _ _), vblk_grow VR.out (bAl _ _), own_zero _ _ _ _ _⟩, fun i h hi => by omega⟩
        case round =>
          obtain ⟨j, an, nn, kn, hj, rfl, rfl, RM, hrd⟩ := hrel
          by_cases hlt2 : j < ws.length
          · obtain ⟨y, hyj⟩ := hid_ex (L[j + 1]'(by have := hwl.out; omega))
            have hyw : Hid (bs y = ws[j]) := by
              unfold Hid
              rw [← hyj.out]
              simp only [← hws.out]
              rw [List.getElem_map, List.getElem_tail]
            have hys : y.size ≤ 1048576 := hLs.out y (by rw [← hyj.out]; exact List.getElem_mem _)
            obtain ⟨⟨x, is⟩, hxr⟩ := hid_ex (rdF ws[j])
            have hrF : Hid (rdF (bs y) = (x, is)) := by unfold Hid; rw [hyw.out]; exact hxr.out
            have hsn : Hid ((ws.take (j + 1)).map (fun y => (rdF y).1) = (ws.take j).map (fun y => (rdF y).1) ++ [x]) := num_snoc hlt2 hxr.out
            obtain ⟨g7, o7, e7, hg7, dd⟩ := rdS_cell RM.out.l.rd (j + 1) (by have := hwl.out; omega)
            rw [hyj.out] at dd
            subst e7
            obtain ⟨jj, hjj⟩ := hid_ex (j + 1)
            rw [hjj.out] at dd ⊢
            have hjl : (jj : Int) < (L.length : Int) := by have := hwl.out; have := hjj.out; omega
            have c10 := RM.out.v.cell 0 (by simp)
            have hnsl : ((ws.take j).map (fun y => (rdF y).1)).length ≤ 1048577 := by rw [List.length_map, List.length_take]; omega
            have APN : ∀ (an2 : Option Addr), True := fun _ => trivial
            clear APN
            have RM2 : Hid (Rm w wr b4 b6 b10 w3.heap.size w5.heap.size (.slice (some ⟨g7, o7, none⟩) L.length k5) L [.int .i64 K, .string ⟨#[]⟩, .int .i64 0, .string ⟨#[]⟩, .int .i64 0, .int .i64 0] (.slice an nn kn) ((ws.take j).map (fun y => (rdF y).1))) := RM.out
            clear RM
            by_cases hok : is = true ∨ (j = 0 ∧ K = 5)
            · have hrd2 : Hid (∀ i (h : i < ws.length), i < j + 1 → (rdF ws[i]).2 = true ∨ (i = 0 ∧ K = 5)) := fun i h hi => by
                by_cases q : i = j
                · subst q
                  rw [hxr.out]
                  exact hok
                · exact hrd.out i h (by omega)
              cases is with
              | true =>
                clear hok
                as_aux_lemma =>
                  go_wp2_with (first | (go_at_call 85; refine (l1Read_is y hys _ x true hrF).mono ?_; rintro e wq ⟨rfl, hq⟩; subst wq) | (at_builtin; refine wpList_append_g infoN rfl _ _ 36 rfl Tryz.underlying36 w.heap.size _ _ ((ws.take j).map (fun y => (rdF y).1)) rfl (RM2.out.grow (bAl _ _)).o (by have := RM2.out.q.b.size; simp; omega) _ [x] rfl (rd_new (E := encN) _ x #[.int .i64 x] rfl) (by simp; omega) ?_; intro v8 w8 o8 hT8; have RM8 := (RM2.out.grow (bAl _ _)).app hT8 o8; obtain ⟨a8, n8, c8, rfl⟩ := o8.slice) | (fail))
                  go_roundw
                  case rel => exact ⟨j + 1, _, _, _, by omega, by have := hjj.out; go_num, rfl, by unfold Hid; rw [hsn.out]; exact RM8, hrd2⟩
                  case measure => have := hjj.out; have := hwl.out; simp [intOf]; omega
              | false =>
                have hk : j = 0 ∧ K = 5 := hok.resolve_left (by decide)
                have ej : ((jj : Int) == 1) = true := by have := hjj.out; simp; omega
                have ek : (K == 5) = true := by simp [hk.2]
                clear hok hk
                as_aux_lemma =>
                  go_wp2_with (first | (go_at_call 85; refine (l1Read_is y hys _ x false hrF).mono ?_; rintro e wq ⟨rfl, hq⟩; subst wq) | (at_builtin; refine wpList_append_g infoN rfl _ _ 36 rfl Tryz.underlying36 w.heap.size _ _ ((ws.take j).map (fun y => (rdF y).1)) rfl (RM2.out.grow (bAl _ _)).o (by have := RM2.out.q.b.size; simp; omega) _ [x] rfl (rd_new (E := encN) _ x #[.int .i64 x] rfl) (by simp; omega) ?_; intro v8 w8 o8 hT8; have RM8 := (RM2.out.grow (bAl _ _)).app hT8 o8; obtain ⟨a8, n8, c8, rfl⟩ := o8.slice) | (fail))
                  go_roundw
                  case rel => exact ⟨j + 1, _, _, _, by omega, by have := hjj.out; go_num, rfl, by unfold Hid; rw [hsn.out]; exact RM8, hrd2⟩
                  case measure => have := hjj.out; have := hwl.out; simp [intOf]; omega
            · have his : is = false := by cases is with | true => exact absurd (.inl rfl) hok | false => rfl
              subst his
              have hout : Hid (X = (Rp.zero, -1)) := HN.out (no_read hhd.out htl.out hlt2 (by rw [hxr.out]) (fun q => hok (.inr q)))
              by_cases ej0 : j = 0
              · have ej : ((jj : Int) == 1) = true := by have := hjj.out; simp; omega
                have ek : (K == 5) = false := by simp; exact fun q => hok (.inr ⟨ej0, q⟩)
                clear hok ej0
                as_aux_lemma =>
                  go_wp2_with (first | (go_at_call 85; refine (l1Read_is y hys _ x false hrF).mono ?_; rintro e wq ⟨rfl, hq⟩; subst wq) | (refine wpList_load_r rfl 42 _ rfl b6 0 [.int .i64 0, .string ⟨#[]⟩, .int .i64 0, .string ⟨#[]⟩, .int .i64 0, .int .i64 0] rfl _ Tryz.underlying42 rfl sizeRp RM2.out.q.V6.range ?_) | (refine wpList_store_v rfl 42 _ _ rfl b4 [.int .i64 0, .string ⟨#[]⟩, .int .i64 0, .string ⟨#[]⟩, .int .i64 0, .int .i64 0] rfl rfl sizeRp RM2.out.q.V4 rfl (oneRs 0 ⟨#[]⟩ 0 ⟨#[]⟩ 0 0) ?_; intro w9 hO9 V9) | (fail))
                  exact row_ct rfl rfl rfl V9 Tryz.underlying42 sizeRp rfl ⟨by rw [hout.out]; rfl, RM2.out.q.b.trans (hO9.2.2 _ RM2.out.q.l4)⟩
              · have ej : ((jj : Int) == 1) = false := by have := hjj.out; simp; omega
                clear hok ej0
                as_aux_lemma =>
                  go_wp2_with (first | (go_at_call 85; refine (l1Read_is y hys _ x false hrF).mono ?_; rintro e wq ⟨rfl, hq⟩; subst wq) | (refine wpList_load_r rfl 42 _ rfl b6 0 [.int .i64 0, .string ⟨#[]⟩, .int .i64 0, .string ⟨#[]⟩, .int .i64 0, .int .i64 0] rfl _ Tryz.underlying42 rfl sizeRp RM2.out.q.V6.range ?_) | (refine wpList_store_v rfl 42 _ _ rfl b4 [.int .i64 0, .string ⟨#[]⟩, .int .i64 0, .string ⟨#[]⟩, .int .i64 0, .int .i64 0] rfl rfl sizeRp RM2.out.q.V4 rfl (oneRs 0 ⟨#[]⟩ 0 ⟨#[]⟩ 0 0) ?_; intro w9 hO9 V9) | (fail))
                  exact row_ct rfl rfl rfl V9 Tryz.underlying42 sizeRp rfl ⟨by rw [hout.out]; rfl, RM2.out.q.b.trans (hO9.2.2 _ RM2.out.q.l4)⟩
          · have ej : j = ws.length := by omega
            have hll : ¬ (((j + 1 : Nat) : Int) < (L.length : Int)) := by have := hwl.out; omega
            rw [ej, List.take_length] at RM
            clear hrd
            obtain ⟨jj, hjj⟩ := hid_ex (j + 1)
            rw [hjj.out] at hll ⊢
            clear ej hjj hj hlt2
            have hnn : nn = ws.length := by have := RM.out.o.rd.cap.1; rw [List.length_map] at this; exact this
            subst hnn
            go_upto_block 4 with (fail)
            go_cut [11] from 89 to 164 (fun v11 wc => ∃ (N : ByteArray) (F : Int) (B : ByteArray) (C M : Int) (nx m : Nat), v11 = .int .i64 (nx : Int) ∧ Hid (Rm w wc b4 b6 b10 w3.heap.size w5.heap.size (.slice A5 L.length k5) L [.int .i64 K, .string N, .int .i64 F, .string B, .int .i64 C, .int .i64 M] (.slice an ws.length kn) (ws.map (fun y => (rdF y).1))) ∧ Hid (modW K ws u = some (⟨K, N, F, B, C, M⟩, m)) ∧ nx = e + 1 + m ∧ nx ≤ s.size ∧ N.size ≤ 1048576 ∧ B.size ≤ 1048576)
            case first =>
              have hbk : w.heap.size ≤ b10 ∧ b10 ≠ b4 ∧ b10 ≠ b6 := hZ.out
              obtain ⟨c0, c1, c2, c3, c4, c5⟩ := cellsRp RM.out.v
              obtain ⟨f0, f1, f2, f3, f4, f5⟩ := frozRp RM.out.v
              by_cases k6 : K = 6
              · have e6 : (K == 6) = true := by simp [k6]
                have e5 : (K == 5) = false := by simp; omega
                by_cases l1 : ws.length = 1
                · have q1 : ((ws.length : Int) == 1) = true := by simp [l1]
                  have hw0 : 0 < ws.length := by omega
                  obtain ⟨gn, on, en', hgn, dn⟩ := rdI_cell RM.out.o.rd 0 (by rw [List.length_map]; exact hw0)
                  rw [List.getElem_map] at dn
                  obtain ⟨x0, hx0⟩ := hid_ex (rdF (ws[0]'hw0)).1
                  rw [hx0.out, Nat.add_zero] at dn
                  subst en'
                  have q0 : (0 : Int) < (ws.length : Int) := by omega
                  have hmo : Hid (modW K ws u = some (⟨K, emp, 0, emp, 0, x0⟩, 0)) := by
                    unfold Hid modW
                    rw [if_pos ⟨k6, l1⟩, k6]
                    have : ws.getD 0 [] = ws[0]'hw0 := by rw [List.getD_eq_getElem?_getD, List.getElem?_eq_getElem hw0]; rfl
                    rw [this, hx0.out]
                  have RM3 : Hid (Rm w (wr.setCell ⟨b10, 5, none⟩ (.int .i64 x0)) b4 b6 b10 w3.heap.size w5.heap.size (.slice A5 L.length k5) L [.int .i64 K, .string emp, .int .i64 0, .string emp, .int .i64 0, .int .i64 x0] (.slice (some ⟨gn, on, none⟩) ws.length kn) (ws.map (fun y => (rdF y).1))) := RM.out.set hbk 5 _ rfl
                  clear k6 l1
                  go_wp2
                  go_meet
                  case rel => exact ⟨emp, 0, emp, 0, x0, e + 1, 0, by push_cast; rfl, RM3.out, hmo, by omega, by omega, by decide, by decide⟩
                · have q1 : ((ws.length : Int) == 1) = false := by simp; omega
                  by_cases hl0 : ws.length = 0
                  · have g0 : ¬ ((0 : Int) < (ws.length : Int)) := by omega
                    have hmo : Hid (modW K ws u = some (⟨K, emp, 0, emp, 0, 0⟩, 0)) := by unfold Hid modW; rw [if_neg (fun q => l1 q.2), if_neg (fun q => by have := q.1; omega), if_neg (by omega)]
                    clear hl0
                    go_wp2
                    go_meet
                    case rel => exact ⟨emp, 0, emp, 0, 0, e + 1, 0, by push_cast; rfl, RM.out, hmo, by omega, by omega, by decide, by decide⟩
                  · have g0 : (0 : Int) < (ws.length : Int) := by omega
                    have hmo : modW K ws u = Option.none := by unfold modW; rw [if_neg (fun q => l1 q.2), if_neg (fun q => by have := q.1; omega), if_pos (by omega)]
                    have hout : Hid (X = (Rp.zero, -1)) := HN.out (no_mod hhd.out htl.out HDR.out hmo)
                    clear hmo hl0
                    as_aux_lemma =>
                      go_wp2_with (first | (refine wpList_load_r rfl 42 _ rfl b6 0 [.int .i64 0, .string ⟨#[]⟩, .int .i64 0, .string ⟨#[]⟩, .int .i64 0, .int .i64 0] rfl _ Tryz.underlying42 rfl sizeRp RM.out.q.V6.range ?_) | (refine wpList_store_v rfl 42 _ _ rfl b4 [.int .i64 0, .string ⟨#[]⟩, .int .i64 0, .string ⟨#[]⟩, .int .i64 0, .int .i64 0] rfl rfl sizeRp RM.out.q.V4 rfl (oneRs 0 ⟨#[]⟩ 0 ⟨#[]⟩ 0 0) ?_; intro w9 hO9 V9) | (fail))
                      exact row_ct rfl rfl rfl V9 Tryz.underlying42 sizeRp rfl ⟨by rw [hout.out]; rfl, RM.out.q.b.trans (hO9.2.2 _ RM.out.q.l4)⟩
              · have e6 : (K == 6) = false := by simp [k6]
                by_cases k5' : K = 5
                · have e5 : (K == 5) = true := by simp [k5']
                  by_cases l3 : ws.length = 3
                  · have q3 : ((ws.length : Int) == 3) = true := by simp [l3]
                    have q4 : ((ws.length : Int) == 4) = false := by simp; omega
                    have hw0 : 0 < ws.length := by omega
                    have hw1 : 1 < ws.length := by omega
                    have hw2 : 2 < ws.length := by omega
                    have hL2 : 1 < L.length := by have := hwl.out; omega
                    have hL2i : (1 : Int) < (L.length : Int) := by omega
                    have hi1 : (1 : Int) < (ws.length : Int) := by omega
                    have hi2 : (2 : Int) < (ws.length : Int) := by omega
                    obtain ⟨gw, ow, ew, hgw, dw⟩ := rdS_cell RM.out.l.rd 1 hL2
                    obtain ⟨y1, hy1⟩ := hid_ex (L[1]'hL2)
                    rw [hy1.out] at dw
                    subst ew
                    have hyn : Hid (tx (ws[0]'hw0) = y1) := by
                      unfold Hid
                      rw [← hy1.out]
                      simp only [← hws.out]
                      rw [List.getElem_map, List.getElem_tail, tx_bs]
                    have hy1s : y1.size ≤ 1048576 := hLs.out y1 (by rw [← hy1.out]; exact List.getElem_mem _)
                    obtain ⟨gn, on, en1, hgn, d1⟩ := rdI_cell RM.out.o.rd 1 (by rw [List.length_map]; exact hw1)
                    subst en1
                    obtain ⟨gn2, on2, en2, -, d2⟩ := rdI_cell RM.out.o.rd 2 (by rw [List.length_map]; exact hw2)
                    cases en2
                    rw [List.getElem_map] at d1
                    obtain ⟨x1, hx1⟩ := hid_ex (rdF (ws[1]'hw1)).1
                    rw [hx1.out] at d1
                    rw [List.getElem_map] at d2
                    obtain ⟨x2, hx2⟩ := hid_ex (rdF (ws[2]'hw2)).1
                    rw [hx2.out] at d2
                    have nb : gn ≠ b10 := own_ne RM.out.o (by rw [List.length_map]; omega) RM.out.v (by decide)
                    have nw : gw ≠ b10 := own_ne RM.out.l (by omega) RM.out.v (by decide)
                    have s1 : Hid True := trivial
                    have s2 : Hid True := trivial
                    have s3 : Hid True := trivial
                    have s4 : Hid True := trivial
                    have e4 : (if ws.length = 4 then (rdF (ws.getD 3 [])).1 else 0) = 0 := if_neg (by omega)
                    have mo : modW K ws u = if x2 < 0 ∨ (u.length : Int) ≤ x2 then Option.none else some (⟨5, y1, x1, tx (u.take x2.toNat), 0, 0⟩, x2.toNat + 1) := by
                      unfold modW
                      rw [if_neg (fun q => k6 q.1), if_pos ⟨k5', .inl l3⟩, getD_at hw0, getD_at hw1, getD_at hw2, hyn.out, hx1.out, hx2.out, e4]
                    have MO : Hid (modW K ws u = if x2 < 0 ∨ (u.length : Int) ≤ x2 then Option.none else some (⟨5, y1, x1, tx (u.take x2.toNat), 0, 0⟩, x2.toNat + 1)) := mo
                    have HK5 : Hid (K = 5) := k5'
                    have ws1 : IntKind.i64.wrap ((s.size : Int) - ((e : Int) + 1)) = (u.length : Int) := by rw [IntKind.wrap_i64]; have := hul.out; omega
                    have ws2 : IntKind.i64.wrap ((u.length : Int) - 1) = (u.length : Int) - 1 := by rw [IntKind.wrap_i64]; have := hul.out; omega
                    clear mo e4 k5' l3 k6 
                    go_upto_region 28 with (first | (clear s1; refine wpList_store_cell rfl 9 _ _ rfl b10 1 (.string y1) rfl rfl rfl szS1 RM.out.v (by simp) ?_; intro wA hOwA VwA; have RMwA : Hid (Rm w (wA) b4 b6 b10 w3.heap.size w5.heap.size (.slice (some ⟨gw, ow, none⟩) L.length k5) L [.int .i64 K, .string y1, .int .i64 0, .string emp, .int .i64 0, .int .i64 0] (.slice (some ⟨gn, on, none⟩) ws.length kn) (ws.map (fun y => (rdF y).1))) := RM.out.setW hbk hOwA VwA; have d1wA : wA.cell? ⟨gn, on + 1, none⟩ = some (.int .i64 x1) := only_cell hOwA d1 nb; have d2wA : wA.cell? ⟨gn, on + 2, none⟩ = some (.int .i64 x2) := only_cell hOwA d2 nb) | (clear s2; refine wpList_store_cell rfl 2 _ _ rfl b10 2 (.int .i64 x1) rfl rfl rfl szI1 RMwA.out.v (by simp) ?_; intro wB hOwB VwB; have RMwB : Hid (Rm w (wB) b4 b6 b10 w3.heap.size w5.heap.size (.slice (some ⟨gw, ow, none⟩) L.length k5) L [.int .i64 K, .string y1, .int .i64 x1, .string emp, .int .i64 0, .int .i64 0] (.slice (some ⟨gn, on, none⟩) ws.length kn) (ws.map (fun y => (rdF y).1))) := RMwA.out.setW hbk hOwB VwB; have d1wB : wB.cell? ⟨gn, on + 1, none⟩ = some (.int .i64 x1) := only_cell hOwB d1wA nb; have d2wB : wB.cell? ⟨gn, on + 2, none⟩ = some (.int .i64 x2) := only_cell hOwB d2wA nb) | (fail))
                    by_cases h2 : x2 < 0
                    · have hout : Hid (X = (Rp.zero, -1)) := HN.out (no_mod hhd.out htl.out HDR.out (MO.out.trans (if_pos (.inl h2))))
                      as_aux_lemma =>
                        go_wp2_with (first | (refine wpList_load_r rfl 42 _ rfl b6 0 [.int .i64 0, .string ⟨#[]⟩, .int .i64 0, .string ⟨#[]⟩, .int .i64 0, .int .i64 0] rfl _ Tryz.underlying42 rfl sizeRp RMwB.out.q.V6.range ?_) | (refine wpList_store_v rfl 42 _ _ rfl b4 [.int .i64 0, .string ⟨#[]⟩, .int .i64 0, .string ⟨#[]⟩, .int .i64 0, .int .i64 0] rfl rfl sizeRp RMwB.out.q.V4 rfl (oneRs 0 ⟨#[]⟩ 0 ⟨#[]⟩ 0 0) ?_; intro w9 hO9 V9) | (fail))
                        exact row_ct rfl rfl rfl V9 Tryz.underlying42 sizeRp rfl ⟨by rw [hout.out]; rfl, RMwB.out.q.b.trans (hO9.2.2 _ RMwB.out.q.l4)⟩
                    · by_cases h3 : (u.length : Int) - 1 < x2
                      · have hout : Hid (X = (Rp.zero, -1)) := HN.out (no_mod hhd.out htl.out HDR.out (MO.out.trans (if_pos (.inr (by omega)))))
                        as_aux_lemma =>
                          go_wp2_with (first | (refine wpList_load_r rfl 42 _ rfl b6 0 [.int .i64 0, .string ⟨#[]⟩, .int .i64 0, .string ⟨#[]⟩, .int .i64 0, .int .i64 0] rfl _ Tryz.underlying42 rfl sizeRp RMwB.out.q.V6.range ?_) | (refine wpList_store_v rfl 42 _ _ rfl b4 [.int .i64 0, .string ⟨#[]⟩, .int .i64 0, .string ⟨#[]⟩, .int .i64 0, .int .i64 0] rfl rfl sizeRp RMwB.out.q.V4 rfl (oneRs 0 ⟨#[]⟩ 0 ⟨#[]⟩ 0 0) ?_; intro w9 hO9 V9) | (fail))
                          exact row_ct rfl rfl rfl V9 Tryz.underlying42 sizeRp rfl ⟨by rw [hout.out]; rfl, RMwB.out.q.b.trans (hO9.2.2 _ RMwB.out.q.l4)⟩
                      · obtain ⟨k, hkx⟩ : ∃ k : Nat, x2 = k := ⟨x2.toNat, by omega⟩
                        subst hkx
                        obtain ⟨st, hst⟩ := hid_ex (e + 1 + k)
                        have hstw : IntKind.i64.wrap ((e : Int) + 1 + (k : Int)) = (st : Int) := by rw [IntKind.wrap_i64]; have := hst.out; have := hul.out; omega
                        have hst1 : (st : Int) ≤ (s.size : Int) := by have := hst.out; have := hul.out; omega
                        have hle1 : (e : Int) + 1 ≤ (st : Int) := by have := hst.out; omega
                        have est1 : IntKind.i64.wrap ((st : Int) + 1) = (st : Int) + 1 := by rw [IntKind.wrap_i64]; omega
                        have ee1 : (((e + 1 : Nat) : Int)) = (e : Int) + 1 := by omega
                        obtain ⟨z, hz⟩ := hid_ex (s.extract (e + 1) st)
                        have hzx : s.extract (e + 1) st = z := hz.out
                        have hzs : z.size ≤ 1048576 := by rw [← hz.out, ByteArray.size_extract]; omega
                        have htk : tx (u.take k) = z := by rw [← hz.out, ← tx_bs (s.extract (e + 1) st), bs_extract, hu.out, show st - (e + 1) = k by have := hst.out; omega]
                        have hmo : Hid (modW K ws u = some (⟨K, y1, x1, z, 0, 0⟩, k + 1)) := by
                          unfold Hid
                          rw [MO.out, if_neg (by omega), Int.toNat_natCast, htk, HK5.out]
                        clear htk MO HK5
                        go_wp2_with (first | (clear s4; refine wpList_store_cell rfl 9 _ _ rfl b10 3 (.string z) rfl rfl rfl szS1 RMwB.out.v (by simp) ?_; intro wZ hOwZ VwZ; have RMwZ : Hid (Rm w (wZ) b4 b6 b10 w3.heap.size w5.heap.size (.slice (some ⟨gw, ow, none⟩) L.length k5) L [.int .i64 K, .string y1, .int .i64 x1, .string z, .int .i64 0, .int .i64 0] (.slice (some ⟨gn, on, none⟩) ws.length kn) (ws.map (fun y => (rdF y).1))) := RMwB.out.setW hbk hOwZ VwZ; have d1wZ : wZ.cell? ⟨gn, on + 1, none⟩ = some (.int .i64 x1) := only_cell hOwZ d1wB nb; have d2wZ : wZ.cell? ⟨gn, on + 2, none⟩ = some (.int .i64 (k : Int)) := only_cell hOwZ d2wB nb) | (fail))
                        go_meet
                        case rel => exact ⟨y1, x1, z, 0, 0, st + 1, k + 1, by push_cast; rfl, RMwZ.out, hmo, by have := hst.out; omega, by have := hst.out; have := hul.out; omega, hy1s, hzs⟩
                  · have q3 : ((ws.length : Int) == 3) = false := by simp; omega
                    by_cases l4 : ws.length = 4
                    · have q4 : ((ws.length : Int) == 4) = true := by simp [l4]
                      have hw0 : 0 < ws.length := by omega
                      have hw1 : 1 < ws.length := by omega
                      have hw2 : 2 < ws.length := by omega
                      have hw3 : 3 < ws.length := by omega
                      have hL2 : 1 < L.length := by have := hwl.out; omega
                      have hL2i : (1 : Int) < (L.length : Int) := by omega
                      have hi1 : (1 : Int) < (ws.length : Int) := by omega
                      have hi2 : (2 : Int) < (ws.length : Int) := by omega
                      have hi3 : (3 : Int) < (ws.length : Int) := by omega
                      obtain ⟨gw, ow, ew, hgw, dw⟩ := rdS_cell RM.out.l.rd 1 hL2
                      obtain ⟨y1, hy1⟩ := hid_ex (L[1]'hL2)
                      rw [hy1.out] at dw
                      subst ew
                      have hyn : Hid (tx (ws[0]'hw0) = y1) := by
                        unfold Hid
                        rw [← hy1.out]
                        simp only [← hws.out]
                        rw [List.getElem_map, List.getElem_tail, tx_bs]
                      have hy1s : y1.size ≤ 1048576 := hLs.out y1 (by rw [← hy1.out]; exact List.getElem_mem _)
                      obtain ⟨gn, on, en1, hgn, d1⟩ := rdI_cell RM.out.o.rd 1 (by rw [List.length_map]; exact hw1)
                      subst en1
                      obtain ⟨gn2, on2, en2, -, d2⟩ := rdI_cell RM.out.o.rd 2 (by rw [List.length_map]; exact hw2)
                      cases en2
                      obtain ⟨gn3, on3, en3, -, d3⟩ := rdI_cell RM.out.o.rd 3 (by rw [List.length_map]; exact hw3)
                      cases en3
                      rw [List.getElem_map] at d1
                      obtain ⟨x1, hx1⟩ := hid_ex (rdF (ws[1]'hw1)).1
                      rw [hx1.out] at d1
                      rw [List.getElem_map] at d2
                      obtain ⟨x2, hx2⟩ := hid_ex (rdF (ws[2]'hw2)).1
                      rw [hx2.out] at d2
                      rw [List.getElem_map] at d3
                      obtain ⟨x3, hx3⟩ := hid_ex (rdF (ws[3]'hw3)).1
                      rw [hx3.out] at d3
                      have nb : gn ≠ b10 := own_ne RM.out.o (by rw [List.length_map]; omega) RM.out.v (by decide)
                      have nw : gw ≠ b10 := own_ne RM.out.l (by omega) RM.out.v (by decide)
                      have s1 : Hid True := trivial
                      have s2 : Hid True := trivial
                      have s3 : Hid True := trivial
                      have s4 : Hid True := trivial
                      have e4 : (if ws.length = 4 then (rdF (ws.getD 3 [])).1 else 0) = x3 := by rw [if_pos l4, getD_at hw3, hx3.out]
                      have mo : modW K ws u = if x2 < 0 ∨ (u.length : Int) ≤ x2 then Option.none else some (⟨5, y1, x1, tx (u.take x2.toNat), x3, 0⟩, x2.toNat + 1) := by
                        unfold modW
                        rw [if_neg (fun q => k6 q.1), if_pos ⟨k5', .inr l4⟩, getD_at hw0, getD_at hw1, getD_at hw2, hyn.out, hx1.out, hx2.out, e4]
                      have MO : Hid (modW K ws u = if x2 < 0 ∨ (u.length : Int) ≤ x2 then Option.none else some (⟨5, y1, x1, tx (u.take x2.toNat), x3, 0⟩, x2.toNat + 1)) := mo
                      have HK5 : Hid (K = 5) := k5'
                      have ws1 : IntKind.i64.wrap ((s.size : Int) - ((e : Int) + 1)) = (u.length : Int) := by rw [IntKind.wrap_i64]; have := hul.out; omega
                      have ws2 : IntKind.i64.wrap ((u.length : Int) - 1) = (u.length : Int) - 1 := by rw [IntKind.wrap_i64]; have := hul.out; omega
                      clear mo e4 k5' l4 k6 l3
                      go_upto_region 28 with (first | (clear s1; refine wpList_store_cell rfl 9 _ _ rfl b10 1 (.string y1) rfl rfl rfl szS1 RM.out.v (by simp) ?_; intro wA hOwA VwA; have RMwA : Hid (Rm w (wA) b4 b6 b10 w3.heap.size w5.heap.size (.slice (some ⟨gw, ow, none⟩) L.length k5) L [.int .i64 K, .string y1, .int .i64 0, .string emp, .int .i64 0, .int .i64 0] (.slice (some ⟨gn, on, none⟩) ws.length kn) (ws.map (fun y => (rdF y).1))) := RM.out.setW hbk hOwA VwA; have d1wA : wA.cell? ⟨gn, on + 1, none⟩ = some (.int .i64 x1) := only_cell hOwA d1 nb; have d2wA : wA.cell? ⟨gn, on + 2, none⟩ = some (.int .i64 x2) := only_cell hOwA d2 nb; have d3wA : wA.cell? ⟨gn, on + 3, none⟩ = some (.int .i64 x3) := only_cell hOwA d3 nb) | (clear s2; refine wpList_store_cell rfl 2 _ _ rfl b10 2 (.int .i64 x1) rfl rfl rfl szI1 RMwA.out.v (by simp) ?_; intro wB hOwB VwB; have RMwB : Hid (Rm w (wB) b4 b6 b10 w3.heap.size w5.heap.size (.slice (some ⟨gw, ow, none⟩) L.length k5) L [.int .i64 K, .string y1, .int .i64 x1, .string emp, .int .i64 0, .int .i64 0] (.slice (some ⟨gn, on, none⟩) ws.length kn) (ws.map (fun y => (rdF y).1))) := RMwA.out.setW hbk hOwB VwB; have d1wB : wB.cell? ⟨gn, on + 1, none⟩ = some (.int .i64 x1) := only_cell hOwB d1wA nb; have d2wB : wB.cell? ⟨gn, on + 2, none⟩ = some (.int .i64 x2) := only_cell hOwB d2wA nb; have d3wB : wB.cell? ⟨gn, on + 3, none⟩ = some (.int .i64 x3) := only_cell hOwB d3wA nb) | (clear s3; refine wpList_store_cell rfl 2 _ _ rfl b10 4 (.int .i64 x3) rfl rfl rfl szI1 RMwB.out.v (by simp) ?_; intro wE hOwE VwE; have RMwE : Hid (Rm w (wE) b4 b6 b10 w3.heap.size w5.heap.size (.slice (some ⟨gw, ow, none⟩) L.length k5) L [.int .i64 K, .string y1, .int .i64 x1, .string emp, .int .i64 x3, .int .i64 0] (.slice (some ⟨gn, on, none⟩) ws.length kn) (ws.map (fun y => (rdF y).1))) := RMwB.out.setW hbk hOwE VwE; have d1wE : wE.cell? ⟨gn, on + 1, none⟩ = some (.int .i64 x1) := only_cell hOwE d1wB nb; have d2wE : wE.cell? ⟨gn, on + 2, none⟩ = some (.int .i64 x2) := only_cell hOwE d2wB nb; have d3wE : wE.cell? ⟨gn, on + 3, none⟩ = some (.int .i64 x3) := only_cell hOwE d3wB nb) | (fail))
                      by_cases h2 : x2 < 0
                      · have hout : Hid (X = (Rp.zero, -1)) := HN.out (no_mod hhd.out htl.out HDR.out (MO.out.trans (if_pos (.inl h2))))
                        as_aux_lemma =>
                          go_wp2_with (first | (refine wpList_load_r rfl 42 _ rfl b6 0 [.int .i64 0, .string ⟨#[]⟩, .int .i64 0, .string ⟨#[]⟩, .int .i64 0, .int .i64 0] rfl _ Tryz.underlying42 rfl sizeRp RMwE.out.q.V6.range ?_) | (refine wpList_store_v rfl 42 _ _ rfl b4 [.int .i64 0, .string ⟨#[]⟩, .int .i64 0, .string ⟨#[]⟩, .int .i64 0, .int .i64 0] rfl rfl sizeRp RMwE.out.q.V4 rfl (oneRs 0 ⟨#[]⟩ 0 ⟨#[]⟩ 0 0) ?_; intro w9 hO9 V9) | (fail))
                          exact row_ct rfl rfl rfl V9 Tryz.underlying42 sizeRp rfl ⟨by rw [hout.out]; rfl, RMwE.out.q.b.trans (hO9.2.2 _ RMwE.out.q.l4)⟩
                      · by_cases h3 : (u.length : Int) - 1 < x2
                        · have hout : Hid (X = (Rp.zero, -1)) := HN.out (no_mod hhd.out htl.out HDR.out (MO.out.trans (if_pos (.inr (by omega)))))
                          as_aux_lemma =>
                            go_wp2_with (first | (refine wpList_load_r rfl 42 _ rfl b6 0 [.int .i64 0, .string ⟨#[]⟩, .int .i64 0, .string ⟨#[]⟩, .int .i64 0, .int .i64 0] rfl _ Tryz.underlying42 rfl sizeRp RMwE.out.q.V6.range ?_) | (refine wpList_store_v rfl 42 _ _ rfl b4 [.int .i64 0, .string ⟨#[]⟩, .int .i64 0, .string ⟨#[]⟩, .int .i64 0, .int .i64 0] rfl rfl sizeRp RMwE.out.q.V4 rfl (oneRs 0 ⟨#[]⟩ 0 ⟨#[]⟩ 0 0) ?_; intro w9 hO9 V9) | (fail))
                            exact row_ct rfl rfl rfl V9 Tryz.underlying42 sizeRp rfl ⟨by rw [hout.out]; rfl, RMwE.out.q.b.trans (hO9.2.2 _ RMwE.out.q.l4)⟩
                        · obtain ⟨k, hkx⟩ : ∃ k : Nat, x2 = k := ⟨x2.toNat, by omega⟩
                          subst hkx
                          obtain ⟨st, hst⟩ := hid_ex (e + 1 + k)
                          have hstw : IntKind.i64.wrap ((e : Int) + 1 + (k : Int)) = (st : Int) := by rw [IntKind.wrap_i64]; have := hst.out; have := hul.out; omega
                          have hst1 : (st : Int) ≤ (s.size : Int) := by have := hst.out; have := hul.out; omega
                          have hle1 : (e : Int) + 1 ≤ (st : Int) := by have := hst.out; omega
                          have est1 : IntKind.i64.wrap ((st : Int) + 1) = (st : Int) + 1 := by rw [IntKind.wrap_i64]; omega
                          have ee1 : (((e + 1 : Nat) : Int)) = (e : Int) + 1 := by omega
                          obtain ⟨z, hz⟩ := hid_ex (s.extract (e + 1) st)
                          have hzx : s.extract (e + 1) st = z := hz.out
                          have hzs : z.size ≤ 1048576 := by rw [← hz.out, ByteArray.size_extract]; omega
                          have htk : tx (u.take k) = z := by rw [← hz.out, ← tx_bs (s.extract (e + 1) st), bs_extract, hu.out, show st - (e + 1) = k by have := hst.out; omega]
                          have hmo : Hid (modW K ws u = some (⟨K, y1, x1, z, x3, 0⟩, k + 1)) := by
                            unfold Hid
                            rw [MO.out, if_neg (by omega), Int.toNat_natCast, htk, HK5.out]
                          clear htk MO HK5
                          go_wp2_with (first | (clear s4; refine wpList_store_cell rfl 9 _ _ rfl b10 3 (.string z) rfl rfl rfl szS1 RMwE.out.v (by simp) ?_; intro wZ hOwZ VwZ; have RMwZ : Hid (Rm w (wZ) b4 b6 b10 w3.heap.size w5.heap.size (.slice (some ⟨gw, ow, none⟩) L.length k5) L [.int .i64 K, .string y1, .int .i64 x1, .string z, .int .i64 x3, .int .i64 0] (.slice (some ⟨gn, on, none⟩) ws.length kn) (ws.map (fun y => (rdF y).1))) := RMwE.out.setW hbk hOwZ VwZ; have d1wZ : wZ.cell? ⟨gn, on + 1, none⟩ = some (.int .i64 x1) := only_cell hOwZ d1wE nb; have d2wZ : wZ.cell? ⟨gn, on + 2, none⟩ = some (.int .i64 (k : Int)) := only_cell hOwZ d2wE nb; have d3wZ : wZ.cell? ⟨gn, on + 3, none⟩ = some (.int .i64 x3) := only_cell hOwZ d3wE nb) | (fail))
                          go_meet
                          case rel => exact ⟨y1, x1, z, x3, 0, st + 1, k + 1, by push_cast; rfl, RMwZ.out, hmo, by have := hst.out; omega, by have := hst.out; have := hul.out; omega, hy1s, hzs⟩
                    · have q4 : ((ws.length : Int) == 4) = false := by simp; omega
                      by_cases hl0 : ws.length = 0
                      · have g0 : ¬ ((0 : Int) < (ws.length : Int)) := by omega
                        have hmo : Hid (modW K ws u = some (⟨K, emp, 0, emp, 0, 0⟩, 0)) := by unfold Hid modW; rw [if_neg (fun q => k6 q.1), if_neg (fun q => q.2.elim l3 l4), if_neg (by omega)]
                        clear hl0
                        go_wp2
                        go_meet
                        case rel => exact ⟨emp, 0, emp, 0, 0, e + 1, 0, by push_cast; rfl, RM.out, hmo, by omega, by omega, by decide, by decide⟩
                      · have g0 : (0 : Int) < (ws.length : Int) := by omega
                        have hmo : modW K ws u = Option.none := by unfold modW; rw [if_neg (fun q => k6 q.1), if_neg (fun q => q.2.elim l3 l4), if_pos (by omega)]
                        have hout : Hid (X = (Rp.zero, -1)) := HN.out (no_mod hhd.out htl.out HDR.out hmo)
                        clear hmo hl0
                        as_aux_lemma =>
                          go_wp2_with (first | (refine wpList_load_r rfl 42 _ rfl b6 0 [.int .i64 0, .string ⟨#[]⟩, .int .i64 0, .string ⟨#[]⟩, .int .i64 0, .int .i64 0] rfl _ Tryz.underlying42 rfl sizeRp RM.out.q.V6.range ?_) | (refine wpList_store_v rfl 42 _ _ rfl b4 [.int .i64 0, .string ⟨#[]⟩, .int .i64 0, .string ⟨#[]⟩, .int .i64 0, .int .i64 0] rfl rfl sizeRp RM.out.q.V4 rfl (oneRs 0 ⟨#[]⟩ 0 ⟨#[]⟩ 0 0) ?_; intro w9 hO9 V9) | (fail))
                          exact row_ct rfl rfl rfl V9 Tryz.underlying42 sizeRp rfl ⟨by rw [hout.out]; rfl, RM.out.q.b.trans (hO9.2.2 _ RM.out.q.l4)⟩
                · have e5 : (K == 5) = false := by simp [k5']
                  by_cases hl0 : ws.length = 0
                  · have g0 : ¬ ((0 : Int) < (ws.length : Int)) := by omega
                    have hmo : Hid (modW K ws u = some (⟨K, emp, 0, emp, 0, 0⟩, 0)) := by unfold Hid modW; rw [if_neg (fun q => k6 q.1), if_neg (fun q => k5' q.1), if_neg (by omega)]
                    clear hl0
                    go_wp2
                    go_meet
                    case rel => exact ⟨emp, 0, emp, 0, 0, e + 1, 0, by push_cast; rfl, RM.out, hmo, by omega, by omega, by decide, by decide⟩
                  · have g0 : (0 : Int) < (ws.length : Int) := by omega
                    have hmo : modW K ws u = Option.none := by unfold modW; rw [if_neg (fun q => k6 q.1), if_neg (fun q => k5' q.1), if_pos (by omega)]
                    have hout : Hid (X = (Rp.zero, -1)) := HN.out (no_mod hhd.out htl.out HDR.out hmo)
                    clear hmo hl0
                    as_aux_lemma =>
                      go_wp2_with (first | (refine wpList_load_r rfl 42 _ rfl b6 0 [.int .i64 0, .string ⟨#[]⟩, .int .i64 0, .string ⟨#[]⟩, .int .i64 0, .int .i64 0] rfl _ Tryz.underlying42 rfl sizeRp RM.out.q.V6.range ?_) | (refine wpList_store_v rfl 42 _ _ rfl b4 [.int .i64 0, .string ⟨#[]⟩, .int .i64 0, .string ⟨#[]⟩, .int .i64 0, .int .i64 0] rfl rfl sizeRp RM.out.q.V4 rfl (oneRs 0 ⟨#[]⟩ 0 ⟨#[]⟩ 0 0) ?_; intro w9 hO9 V9) | (fail))
                      exact row_ct rfl rfl rfl V9 Tryz.underlying42 sizeRp rfl ⟨by rw [hout.out]; rfl, RM.out.q.b.trans (hO9.2.2 _ RM.out.q.l4)⟩
            case rest =>
            clear RM
            obtain ⟨N, F, B, C, M, nx, m, rfl, RM, hmo, hnx, hnx2, hNs, hBs⟩ := hcut
            have hln2 : (lineOf ((bs s).drop p)).length = e - p := by rw [HLN.out, bs_len]; exact hls
            have told := mod_told hhd.out htl.out HDR.out hmo.out
            rw [hln2, show e - p + 1 + m = nx - p by omega] at told
            obtain ⟨q, hq⟩ := hid_ex (s.extract p nx)
            have hqe : s.extract p nx = q := hq.out
            have hqb : bs q = ((bs s).drop p).take (nx - p) := by rw [← hq.out, bs_extract]
            rw [← hqb] at told
            have hpn : (p : Int) ≤ (nx : Int) := by omega
            have hns : (nx : Int) ≤ (s.size : Int) := by omega
            go_upto_region 34 with (fail)
            cases hb : repB ⟨K, N, F, B, C, M⟩ with
            | false =>
              have HB : Hid (repB ⟨K, N, F, B, C, M⟩ = false) := hb
              have hout : Hid (X = (Rp.zero, -1)) := HN.out (told.trans (if_neg (fun h => by rw [hb] at h; exact absurd h.1 (by decide))))
              clear told hb hqb hmo hnx
              have S1 : wc.drew.cell? ⟨b10, 0, none⟩ = some (.int .i64 K) ∧ wc.drew.cell? ⟨b10, 1, none⟩ = some (.string N) ∧ wc.drew.cell? ⟨b10, 2, none⟩ = some (.int .i64 F) ∧ wc.drew.cell? ⟨b10, 3, none⟩ = some (.string B) ∧ wc.drew.cell? ⟨b10, 4, none⟩ = some (.int .i64 C) ∧ wc.drew.cell? ⟨b10, 5, none⟩ = some (.int .i64 M) := cellsRp RM.out.v
              have RMd := RM.out.grow (Below.refl _ wc).drew
              refine wp_region_held_drew (S := fun w' => w'.cell? ⟨b10, 0, none⟩ = some (.int .i64 K) ∧ w'.cell? ⟨b10, 1, none⟩ = some (.string N) ∧ w'.cell? ⟨b10, 2, none⟩ = some (.int .i64 F) ∧ w'.cell? ⟨b10, 3, none⟩ = some (.string B) ∧ w'.cell? ⟨b10, 4, none⟩ = some (.int .i64 C) ∧ w'.cell? ⟨b10, 5, none⟩ = some (.int .i64 M)) (by kernel_rfl) (S1) (fun hHeld => ?_)
              refine wpAnyH_take (i := 0) (oi := { dst := some 166, op := Op.load 42 (Operand.tmp 10), type := 42, pos := "l12_reply.go:85", after := #[], guard := none }) (v := ?_) rfl (by kernel_rfl) (by kernel_rfl) (by kernel_rfl) (fun _ _ _ h => h) (Or.inl ⟨by rfl, ?_⟩) (by assumption) ?_
              rotate_left 1
              · intro w' hSw
                (try dsimp only at hSw)
                go_simp
                (try with_reducible rfl)
              (try simp only [Act.put, List.setIfInBounds_toArray, List.set_cons_zero, List.set_cons_succ])
              refine wpAnyH_ready (rs := [1]) (by kernel_rfl) (by simp) ?_
              refine AllReadyH.cons (o := { dst := some 167, op := Op.call { callee := Callee.value (Operand.func 31), args := #[Operand.tmp 166], argTypes := #[42] }, type := 4, pos := "l12_reply.go:85", after := #[{ on := 0, ground := Ground.data }], guard := none }) rfl (fun KC hKC => ?_) AllReadyH.nil
              go_simp
              go_at_call 31
              refine (specReplyOk_any K N F B C M false HB (by omega) (by omega) _).mono ?_
              rintro er w7 ⟨rfl, hB7⟩
              have RM7 := RMd.grow hB7
              refine hKC.out _ _ (cellsRp RM7.v) (fun hHeld2 => ?_)
              clear hKC KC hHeld
              have hHeld := hHeld2
              clear hHeld2
              (try simp only [Act.put, List.setIfInBounds_toArray, List.set_cons_zero, List.set_cons_succ])
              refine wpAnyH_take (i := 2) (oi := { dst := some 168, op := Op.unOp UnOp.not 4 (Operand.tmp 167), type := 4, pos := "l12_reply.go:85", after := #[{ on := 1, ground := Ground.data }], guard := none }) (v := ?_) rfl (by kernel_rfl) (by kernel_rfl) (by kernel_rfl) (fun _ _ _ h => h) (Or.inl ⟨by rfl, ?_⟩) (by assumption) ?_
              rotate_left 1
              · intro w' hSw
                (try dsimp only at hSw)
                go_simp
                (try with_reducible rfl)
              (try simp only [Act.put, List.setIfInBounds_toArray, List.set_cons_zero, List.set_cons_succ])
              refine wpAnyH_take (i := 3) (oi := { dst := some 169, op := Op.move (Operand.tmp 168), type := 4, pos := "l12_reply.go:85", after := #[{ on := 2, ground := Ground.data }, { on := 1, ground := Ground.chain }], guard := none }) (v := ?_) rfl (by kernel_rfl) (by kernel_rfl) (by kernel_rfl) (fun _ _ _ h => h) (Or.inl ⟨by rfl, ?_⟩) (by assumption) ?_
              rotate_left 1
              · intro w' hSw
                (try dsimp only at hSw)
                go_simp
                (try with_reducible rfl)
              (try simp only [Act.put, List.setIfInBounds_toArray, List.set_cons_zero, List.set_cons_succ])
              refine wpAnyH_take (i := 4) (oi := { dst := some 170, op := Op.load 42 (Operand.tmp 10), type := 42, pos := "l12_reply.go:85", after := #[{ on := 3, ground := Ground.guard }], guard := some (3, false) }) (v := undef) rfl (by kernel_rfl) (by kernel_rfl) (by kernel_rfl) (fun _ _ _ h => h) (Or.inr ⟨by rfl, rfl⟩) (by assumption) ?_
              (try simp only [Act.put, List.setIfInBounds_toArray, List.set_cons_zero, List.set_cons_succ])
              refine wpAnyH_take (i := 5) (oi := { dst := some 171, op := Op.call { callee := Callee.value (Operand.func 86), args := #[Operand.tmp 170], argTypes := #[42] }, type := 9, pos := "l12_reply.go:85", after := #[{ on := 4, ground := Ground.data }, { on := 3, ground := Ground.chain }, { on := 3, ground := Ground.guard }], guard := some (3, false) }) (v := undef) rfl (by kernel_rfl) (by kernel_rfl) (by kernel_rfl) (fun _ _ _ h => h) (Or.inr ⟨by rfl, rfl⟩) (by assumption) ?_
              (try simp only [Act.put, List.setIfInBounds_toArray, List.set_cons_zero, List.set_cons_succ])
              refine wpAnyH_take (i := 6) (oi := { dst := some 172, op := Op.move (Operand.tmp 0), type := 9, pos := "l12_reply.go:85", after := #[{ on := 3, ground := Ground.guard }], guard := some (3, false) }) (v := undef) rfl (by kernel_rfl) (by kernel_rfl) (by kernel_rfl) (fun _ _ _ h => h) (Or.inr ⟨by rfl, rfl⟩) (by assumption) ?_
              (try simp only [Act.put, List.setIfInBounds_toArray, List.set_cons_zero, List.set_cons_succ])
              refine wpAnyH_take (i := 7) (oi := { dst := some 173, op := Op.move (Operand.tmp 1), type := 2, pos := "l12_reply.go:85", after := #[{ on := 3, ground := Ground.guard }], guard := some (3, false) }) (v := undef) rfl (by kernel_rfl) (by kernel_rfl) (by kernel_rfl) (fun _ _ _ h => h) (Or.inr ⟨by rfl, rfl⟩) (by assumption) ?_
              (try simp only [Act.put, List.setIfInBounds_toArray, List.set_cons_zero, List.set_cons_succ])
              refine wpAnyH_take (i := 8) (oi := { dst := some 174, op := Op.move (Operand.tmp 11), type := 2, pos := "l12_reply.go:85", after := #[{ on := 3, ground := Ground.guard }], guard := some (3, false) }) (v := undef) rfl (by kernel_rfl) (by kernel_rfl) (by kernel_rfl) (fun _ _ _ h => h) (Or.inr ⟨by rfl, rfl⟩) (by assumption) ?_
              (try simp only [Act.put, List.setIfInBounds_toArray, List.set_cons_zero, List.set_cons_succ])
              refine wpAnyH_take (i := 9) (oi := { dst := some 175, op := Op.slice 9 (Operand.tmp 172) (some (Operand.tmp 173)) (some (Operand.tmp 174)) none, type := 9, pos := "l12_reply.go:85", after := #[{ on := 6, ground := Ground.data }, { on := 7, ground := Ground.data }, { on := 8, ground := Ground.data }, { on := 3, ground := Ground.guard }], guard := some (3, false) }) (v := undef) rfl (by kernel_rfl) (by kernel_rfl) (by kernel_rfl) (fun _ _ _ h => h) (Or.inr ⟨by rfl, rfl⟩) (by assumption) ?_
              (try simp only [Act.put, List.setIfInBounds_toArray, List.set_cons_zero, List.set_cons_succ])
              refine wpAnyH_take (i := 10) (oi := { dst := some 176, op := Op.binOp BinOp.neq 9 (Operand.tmp 171) (Operand.tmp 175) 9, type := 4, pos := "l12_reply.go:85", after := #[{ on := 5, ground := Ground.data }, { on := 9, ground := Ground.data }, { on := 3, ground := Ground.guard }], guard := some (3, false) }) (v := undef) rfl (by kernel_rfl) (by kernel_rfl) (by kernel_rfl) (fun _ _ _ h => h) (Or.inr ⟨by rfl, rfl⟩) (by assumption) ?_
              (try simp only [Act.put, List.setIfInBounds_toArray, List.set_cons_zero, List.set_cons_succ])
              refine wpAnyH_take (i := 11) (oi := { dst := some 177, op := Op.pick (Operand.tmp 169) (Operand.const (Value.bool true)) (Operand.tmp 176), type := 4, pos := "l12_reply.go:85", after := #[{ on := 3, ground := Ground.data }, { on := 10, ground := Ground.data }], guard := none }) (v := ?_) rfl (by kernel_rfl) (by kernel_rfl) (by kernel_rfl) (fun _ _ _ h => h) (Or.inl ⟨by rfl, ?_⟩) (by assumption) ?_
              rotate_left 1
              · intro w' hSw
                (try dsimp only at hSw)
                go_simp
                (try with_reducible rfl)
              (try simp only [Act.put, List.setIfInBounds_toArray, List.set_cons_zero, List.set_cons_succ])
              refine wpAnyH_done (by kernel_rfl) ?_ _
              as_aux_lemma =>
                go_wp2_with (first | (refine wpList_load_r rfl 42 _ rfl b6 0 [.int .i64 0, .string ⟨#[]⟩, .int .i64 0, .string ⟨#[]⟩, .int .i64 0, .int .i64 0] rfl _ Tryz.underlying42 rfl sizeRp RM7.q.V6.range ?_) | (refine wpList_store_v rfl 42 _ _ rfl b4 [.int .i64 0, .string ⟨#[]⟩, .int .i64 0, .string ⟨#[]⟩, .int .i64 0, .int .i64 0] rfl rfl sizeRp RM7.q.V4 rfl (oneRs 0 ⟨#[]⟩ 0 ⟨#[]⟩ 0 0) ?_; intro w9 hO9 V9) | (fail))
                exact row_ct rfl rfl rfl V9 Tryz.underlying42 sizeRp rfl ⟨by rw [hout.out]; rfl, RM7.q.b.trans (hO9.2.2 _ RM7.q.l4)⟩
            | true =>
              have HB : Hid (repB ⟨K, N, F, B, C, M⟩ = true) := hb
              have ok := repB_iff.1 hb
              obtain ⟨z, hz⟩ := hid_ex (tx (showR ⟨K, N, F, B, C, M⟩))
              cases hzq : (z.toList == q.toList) with
              | false =>
                have hout : Hid (X = (Rp.zero, -1)) := HN.out (told.trans (if_neg (fun h => by
                  rw [← hz.out, bs_toList, bs_toList, bs_tx, h.2] at hzq
                  simp at hzq)))
                clear told hb hqb hmo hnx
                have S1 : wc.drew.cell? ⟨b10, 0, none⟩ = some (.int .i64 K) ∧ wc.drew.cell? ⟨b10, 1, none⟩ = some (.string N) ∧ wc.drew.cell? ⟨b10, 2, none⟩ = some (.int .i64 F) ∧ wc.drew.cell? ⟨b10, 3, none⟩ = some (.string B) ∧ wc.drew.cell? ⟨b10, 4, none⟩ = some (.int .i64 C) ∧ wc.drew.cell? ⟨b10, 5, none⟩ = some (.int .i64 M) := cellsRp RM.out.v
                have RMd := RM.out.grow (Below.refl _ wc).drew
                refine wp_region_held_drew (S := fun w' => w'.cell? ⟨b10, 0, none⟩ = some (.int .i64 K) ∧ w'.cell? ⟨b10, 1, none⟩ = some (.string N) ∧ w'.cell? ⟨b10, 2, none⟩ = some (.int .i64 F) ∧ w'.cell? ⟨b10, 3, none⟩ = some (.string B) ∧ w'.cell? ⟨b10, 4, none⟩ = some (.int .i64 C) ∧ w'.cell? ⟨b10, 5, none⟩ = some (.int .i64 M)) (by kernel_rfl) (S1) (fun hHeld => ?_)
                refine wpAnyH_take (i := 0) (oi := { dst := some 166, op := Op.load 42 (Operand.tmp 10), type := 42, pos := "l12_reply.go:85", after := #[], guard := none }) (v := ?_) rfl (by kernel_rfl) (by kernel_rfl) (by kernel_rfl) (fun _ _ _ h => h) (Or.inl ⟨by rfl, ?_⟩) (by assumption) ?_
                rotate_left 1
                · intro w' hSw
                  (try dsimp only at hSw)
                  go_simp
                  (try with_reducible rfl)
                (try simp only [Act.put, List.setIfInBounds_toArray, List.set_cons_zero, List.set_cons_succ])
                refine wpAnyH_ready (rs := [1]) (by kernel_rfl) (by simp) ?_
                refine AllReadyH.cons (o := { dst := some 167, op := Op.call { callee := Callee.value (Operand.func 31), args := #[Operand.tmp 166], argTypes := #[42] }, type := 4, pos := "l12_reply.go:85", after := #[{ on := 0, ground := Ground.data }], guard := none }) rfl (fun KC hKC => ?_) AllReadyH.nil
                go_simp
                go_at_call 31
                refine (specReplyOk_any K N F B C M true HB (by omega) (by omega) _).mono ?_
                rintro er w7 ⟨rfl, hB7⟩
                have RM7 := RMd.grow hB7
                refine hKC.out _ _ (cellsRp RM7.v) (fun hHeld2 => ?_)
                clear hKC KC hHeld
                have hHeld := hHeld2
                clear hHeld2
                (try simp only [Act.put, List.setIfInBounds_toArray, List.set_cons_zero, List.set_cons_succ])
                refine wpAnyH_take (i := 2) (oi := { dst := some 168, op := Op.unOp UnOp.not 4 (Operand.tmp 167), type := 4, pos := "l12_reply.go:85", after := #[{ on := 1, ground := Ground.data }], guard := none }) (v := ?_) rfl (by kernel_rfl) (by kernel_rfl) (by kernel_rfl) (fun _ _ _ h => h) (Or.inl ⟨by rfl, ?_⟩) (by assumption) ?_
                rotate_left 1
                · intro w' hSw
                  (try dsimp only at hSw)
                  go_simp
                  (try with_reducible rfl)
                (try simp only [Act.put, List.setIfInBounds_toArray, List.set_cons_zero, List.set_cons_succ])
                refine wpAnyH_take (i := 3) (oi := { dst := some 169, op := Op.move (Operand.tmp 168), type := 4, pos := "l12_reply.go:85", after := #[{ on := 2, ground := Ground.data }, { on := 1, ground := Ground.chain }], guard := none }) (v := ?_) rfl (by kernel_rfl) (by kernel_rfl) (by kernel_rfl) (fun _ _ _ h => h) (Or.inl ⟨by rfl, ?_⟩) (by assumption) ?_
                rotate_left 1
                · intro w' hSw
                  (try dsimp only at hSw)
                  go_simp
                  (try with_reducible rfl)
                (try simp only [Act.put, List.setIfInBounds_toArray, List.set_cons_zero, List.set_cons_succ])
                refine wpAnyH_take (i := 4) (oi := { dst := some 170, op := Op.load 42 (Operand.tmp 10), type := 42, pos := "l12_reply.go:85", after := #[{ on := 3, ground := Ground.guard }], guard := some (3, false) }) (v := ?_) rfl (by kernel_rfl) (by kernel_rfl) (by kernel_rfl) (fun _ _ _ h => h) (Or.inl ⟨by rfl, ?_⟩) (by assumption) ?_
                rotate_left 1
                · intro w' hSw
                  (try dsimp only at hSw)
                  go_simp
                  (try with_reducible rfl)
                (try simp only [Act.put, List.setIfInBounds_toArray, List.set_cons_zero, List.set_cons_succ])
                refine wpAnyH_take (i := 6) (oi := { dst := some 172, op := Op.move (Operand.tmp 0), type := 9, pos := "l12_reply.go:85", after := #[{ on := 3, ground := Ground.guard }], guard := some (3, false) }) (v := ?_) rfl (by kernel_rfl) (by kernel_rfl) (by kernel_rfl) (fun _ _ _ h => h) (Or.inl ⟨by rfl, ?_⟩) (by assumption) ?_
                rotate_left 1
                · intro w' hSw
                  (try dsimp only at hSw)
                  go_simp
                  (try with_reducible rfl)
                (try simp only [Act.put, List.setIfInBounds_toArray, List.set_cons_zero, List.set_cons_succ])
                refine wpAnyH_take (i := 7) (oi := { dst := some 173, op := Op.move (Operand.tmp 1), type := 2, pos := "l12_reply.go:85", after := #[{ on := 3, ground := Ground.guard }], guard := some (3, false) }) (v := ?_) rfl (by kernel_rfl) (by kernel_rfl) (by kernel_rfl) (fun _ _ _ h => h) (Or.inl ⟨by rfl, ?_⟩) (by assumption) ?_
                rotate_left 1
                · intro w' hSw
                  (try dsimp only at hSw)
                  go_simp
                  (try with_reducible rfl)
                (try simp only [Act.put, List.setIfInBounds_toArray, List.set_cons_zero, List.set_cons_succ])
                refine wpAnyH_take (i := 8) (oi := { dst := some 174, op := Op.move (Operand.tmp 11), type := 2, pos := "l12_reply.go:85", after := #[{ on := 3, ground := Ground.guard }], guard := some (3, false) }) (v := ?_) rfl (by kernel_rfl) (by kernel_rfl) (by kernel_rfl) (fun _ _ _ h => h) (Or.inl ⟨by rfl, ?_⟩) (by assumption) ?_
                rotate_left 1
                · intro w' hSw
                  (try dsimp only at hSw)
                  go_simp
                  (try with_reducible rfl)
                (try simp only [Act.put, List.setIfInBounds_toArray, List.set_cons_zero, List.set_cons_succ])
                refine wpAnyH_take (i := 9) (oi := { dst := some 175, op := Op.slice 9 (Operand.tmp 172) (some (Operand.tmp 173)) (some (Operand.tmp 174)) none, type := 9, pos := "l12_reply.go:85", after := #[{ on := 6, ground := Ground.data }, { on := 7, ground := Ground.data }, { on := 8, ground := Ground.data }, { on := 3, ground := Ground.guard }], guard := some (3, false) }) (v := ?_) rfl (by kernel_rfl) (by kernel_rfl) (by kernel_rfl) (fun _ _ _ h => h) (Or.inl ⟨by rfl, ?_⟩) (by assumption) ?_
                rotate_left 1
                · intro w' hSw
                  (try dsimp only at hSw)
                  go_simp
                  (try with_reducible rfl)
                (try simp only [Act.put, List.setIfInBounds_toArray, List.set_cons_zero, List.set_cons_succ])
                refine wpAnyH_ready (rs := [5]) (by kernel_rfl) (by simp) ?_
                refine AllReadyH.cons (o := { dst := some 171, op := Op.call { callee := Callee.value (Operand.func 86), args := #[Operand.tmp 170], argTypes := #[42] }, type := 9, pos := "l12_reply.go:85", after := #[{ on := 4, ground := Ground.data }, { on := 3, ground := Ground.chain }, { on := 3, ground := Ground.guard }], guard := some (3, false) }) rfl (fun KC hKC => ?_) AllReadyH.nil
                go_simp
                go_at_call 86
                refine (l12Show_any K N F B C M ok _).mono ?_
                rintro er w8 ⟨rfl, hB8⟩
                rw [hz.out]
                have RM8 := RM7.grow hB8
                refine hKC.out _ _ (cellsRp RM8.v) (fun hHeld2 => ?_)
                clear hKC KC hHeld
                have hHeld := hHeld2
                clear hHeld2
                (try simp only [Act.put, List.setIfInBounds_toArray, List.set_cons_zero, List.set_cons_succ])
                refine wpAnyH_take (i := 10) (oi := { dst := some 176, op := Op.binOp BinOp.neq 9 (Operand.tmp 171) (Operand.tmp 175) 9, type := 4, pos := "l12_reply.go:85", after := #[{ on := 5, ground := Ground.data }, { on := 9, ground := Ground.data }, { on := 3, ground := Ground.guard }], guard := some (3, false) }) (v := ?_) rfl (by kernel_rfl) (by kernel_rfl) (by kernel_rfl) (fun _ _ _ h => h) (Or.inl ⟨by rfl, ?_⟩) (by assumption) ?_
                rotate_left 1
                · intro w' hSw
                  (try dsimp only at hSw)
                  go_simp
                  (try with_reducible rfl)
                (try simp only [Act.put, List.setIfInBounds_toArray, List.set_cons_zero, List.set_cons_succ])
                refine wpAnyH_take (i := 11) (oi := { dst := some 177, op := Op.pick (Operand.tmp 169) (Operand.const (Value.bool true)) (Operand.tmp 176), type := 4, pos := "l12_reply.go:85", after := #[{ on := 3, ground := Ground.data }, { on := 10, ground := Ground.data }], guard := none }) (v := ?_) rfl (by kernel_rfl) (by kernel_rfl) (by kernel_rfl) (fun _ _ _ h => h) (Or.inl ⟨by rfl, ?_⟩) (by assumption) ?_
                rotate_left 1
                · intro w' hSw
                  (try dsimp only at hSw)
                  go_simp
                  (try with_reducible rfl)
                (try simp only [Act.put, List.setIfInBounds_toArray, List.set_cons_zero, List.set_cons_succ])
                refine wpAnyH_done (by kernel_rfl) ?_ _
                as_aux_lemma =>
                  go_wp2_with (first | (refine wpList_load_r rfl 42 _ rfl b6 0 [.int .i64 0, .string ⟨#[]⟩, .int .i64 0, .string ⟨#[]⟩, .int .i64 0, .int .i64 0] rfl _ Tryz.underlying42 rfl sizeRp RM8.q.V6.range ?_) | (refine wpList_store_v rfl 42 _ _ rfl b4 [.int .i64 0, .string ⟨#[]⟩, .int .i64 0, .string ⟨#[]⟩, .int .i64 0, .int .i64 0] rfl rfl sizeRp RM8.q.V4 rfl (oneRs 0 ⟨#[]⟩ 0 ⟨#[]⟩ 0 0) ?_; intro w9 hO9 V9) | (fail))
                  exact row_ct rfl rfl rfl V9 Tryz.underlying42 sizeRp rfl ⟨by rw [hout.out]; rfl, RM8.q.b.trans (hO9.2.2 _ RM8.q.l4)⟩
              | true =>
                have hsr : showR ⟨K, N, F, B, C, M⟩ = bs q := by
                  have := beq_iff_eq.1 hzq
                  rw [← hz.out, bs_toList, bs_toList, bs_tx] at this
                  exact this
                have hout : Hid (X = (⟨K, N, F, B, C, M⟩, (nx : Int))) := by
                  unfold Hid
                  rw [HSm.out _ (told.trans (if_pos ⟨hb, hsr⟩)), hsr, bs_len, ← hq.out, ByteArray.size_extract]
                  refine Prod.ext rfl ?_
                  show (p : Int) + ((min nx s.size - p : Nat) : Int) = (nx : Int)
                  omega
                clear told hb hqb hmo hnx hsr
                have S1 : wc.drew.cell? ⟨b10, 0, none⟩ = some (.int .i64 K) ∧ wc.drew.cell? ⟨b10, 1, none⟩ = some (.string N) ∧ wc.drew.cell? ⟨b10, 2, none⟩ = some (.int .i64 F) ∧ wc.drew.cell? ⟨b10, 3, none⟩ = some (.string B) ∧ wc.drew.cell? ⟨b10, 4, none⟩ = some (.int .i64 C) ∧ wc.drew.cell? ⟨b10, 5, none⟩ = some (.int .i64 M) := cellsRp RM.out.v
                have RMd := RM.out.grow (Below.refl _ wc).drew
                refine wp_region_held_drew (S := fun w' => w'.cell? ⟨b10, 0, none⟩ = some (.int .i64 K) ∧ w'.cell? ⟨b10, 1, none⟩ = some (.string N) ∧ w'.cell? ⟨b10, 2, none⟩ = some (.int .i64 F) ∧ w'.cell? ⟨b10, 3, none⟩ = some (.string B) ∧ w'.cell? ⟨b10, 4, none⟩ = some (.int .i64 C) ∧ w'.cell? ⟨b10, 5, none⟩ = some (.int .i64 M)) (by kernel_rfl) (S1) (fun hHeld => ?_)
                refine wpAnyH_take (i := 0) (oi := { dst := some 166, op := Op.load 42 (Operand.tmp 10), type := 42, pos := "l12_reply.go:85", after := #[], guard := none }) (v := ?_) rfl (by kernel_rfl) (by kernel_rfl) (by kernel_rfl) (fun _ _ _ h => h) (Or.inl ⟨by rfl, ?_⟩) (by assumption) ?_
                rotate_left 1
                · intro w' hSw
                  (try dsimp only at hSw)
                  go_simp
                  (try with_reducible rfl)
                (try simp only [Act.put, List.setIfInBounds_toArray, List.set_cons_zero, List.set_cons_succ])
                refine wpAnyH_ready (rs := [1]) (by kernel_rfl) (by simp) ?_
                refine AllReadyH.cons (o := { dst := some 167, op := Op.call { callee := Callee.value (Operand.func 31), args := #[Operand.tmp 166], argTypes := #[42] }, type := 4, pos := "l12_reply.go:85", after := #[{ on := 0, ground := Ground.data }], guard := none }) rfl (fun KC hKC => ?_) AllReadyH.nil
                go_simp
                go_at_call 31
                refine (specReplyOk_any K N F B C M true HB (by omega) (by omega) _).mono ?_
                rintro er w7 ⟨rfl, hB7⟩
                have RM7 := RMd.grow hB7
                refine hKC.out _ _ (cellsRp RM7.v) (fun hHeld2 => ?_)
                clear hKC KC hHeld
                have hHeld := hHeld2
                clear hHeld2
                (try simp only [Act.put, List.setIfInBounds_toArray, List.set_cons_zero, List.set_cons_succ])
                refine wpAnyH_take (i := 2) (oi := { dst := some 168, op := Op.unOp UnOp.not 4 (Operand.tmp 167), type := 4, pos := "l12_reply.go:85", after := #[{ on := 1, ground := Ground.data }], guard := none }) (v := ?_) rfl (by kernel_rfl) (by kernel_rfl) (by kernel_rfl) (fun _ _ _ h => h) (Or.inl ⟨by rfl, ?_⟩) (by assumption) ?_
                rotate_left 1
                · intro w' hSw
                  (try dsimp only at hSw)
                  go_simp
                  (try with_reducible rfl)
                (try simp only [Act.put, List.setIfInBounds_toArray, List.set_cons_zero, List.set_cons_succ])
                refine wpAnyH_take (i := 3) (oi := { dst := some 169, op := Op.move (Operand.tmp 168), type := 4, pos := "l12_reply.go:85", after := #[{ on := 2, ground := Ground.data }, { on := 1, ground := Ground.chain }], guard := none }) (v := ?_) rfl (by kernel_rfl) (by kernel_rfl) (by kernel_rfl) (fun _ _ _ h => h) (Or.inl ⟨by rfl, ?_⟩) (by assumption) ?_
                rotate_left 1
                · intro w' hSw
                  (try dsimp only at hSw)
                  go_simp
                  (try with_reducible rfl)
                (try simp only [Act.put, List.setIfInBounds_toArray, List.set_cons_zero, List.set_cons_succ])
                refine wpAnyH_take (i := 4) (oi := { dst := some 170, op := Op.load 42 (Operand.tmp 10), type := 42, pos := "l12_reply.go:85", after := #[{ on := 3, ground := Ground.guard }], guard := some (3, false) }) (v := ?_) rfl (by kernel_rfl) (by kernel_rfl) (by kernel_rfl) (fun _ _ _ h => h) (Or.inl ⟨by rfl, ?_⟩) (by assumption) ?_
                rotate_left 1
                · intro w' hSw
                  (try dsimp only at hSw)
                  go_simp
                  (try with_reducible rfl)
                (try simp only [Act.put, List.setIfInBounds_toArray, List.set_cons_zero, List.set_cons_succ])
                refine wpAnyH_take (i := 6) (oi := { dst := some 172, op := Op.move (Operand.tmp 0), type := 9, pos := "l12_reply.go:85", after := #[{ on := 3, ground := Ground.guard }], guard := some (3, false) }) (v := ?_) rfl (by kernel_rfl) (by kernel_rfl) (by kernel_rfl) (fun _ _ _ h => h) (Or.inl ⟨by rfl, ?_⟩) (by assumption) ?_
                rotate_left 1
                · intro w' hSw
                  (try dsimp only at hSw)
                  go_simp
                  (try with_reducible rfl)
                (try simp only [Act.put, List.setIfInBounds_toArray, List.set_cons_zero, List.set_cons_succ])
                refine wpAnyH_take (i := 7) (oi := { dst := some 173, op := Op.move (Operand.tmp 1), type := 2, pos := "l12_reply.go:85", after := #[{ on := 3, ground := Ground.guard }], guard := some (3, false) }) (v := ?_) rfl (by kernel_rfl) (by kernel_rfl) (by kernel_rfl) (fun _ _ _ h => h) (Or.inl ⟨by rfl, ?_⟩) (by assumption) ?_
                rotate_left 1
                · intro w' hSw
                  (try dsimp only at hSw)
                  go_simp
                  (try with_reducible rfl)
                (try simp only [Act.put, List.setIfInBounds_toArray, List.set_cons_zero, List.set_cons_succ])
                refine wpAnyH_take (i := 8) (oi := { dst := some 174, op := Op.move (Operand.tmp 11), type := 2, pos := "l12_reply.go:85", after := #[{ on := 3, ground := Ground.guard }], guard := some (3, false) }) (v := ?_) rfl (by kernel_rfl) (by kernel_rfl) (by kernel_rfl) (fun _ _ _ h => h) (Or.inl ⟨by rfl, ?_⟩) (by assumption) ?_
                rotate_left 1
                · intro w' hSw
                  (try dsimp only at hSw)
                  go_simp
                  (try with_reducible rfl)
                (try simp only [Act.put, List.setIfInBounds_toArray, List.set_cons_zero, List.set_cons_succ])
                refine wpAnyH_take (i := 9) (oi := { dst := some 175, op := Op.slice 9 (Operand.tmp 172) (some (Operand.tmp 173)) (some (Operand.tmp 174)) none, type := 9, pos := "l12_reply.go:85", after := #[{ on := 6, ground := Ground.data }, { on := 7, ground := Ground.data }, { on := 8, ground := Ground.data }, { on := 3, ground := Ground.guard }], guard := some (3, false) }) (v := ?_) rfl (by kernel_rfl) (by kernel_rfl) (by kernel_rfl) (fun _ _ _ h => h) (Or.inl ⟨by rfl, ?_⟩) (by assumption) ?_
                rotate_left 1
                · intro w' hSw
                  (try dsimp only at hSw)
                  go_simp
                  (try with_reducible rfl)
                (try simp only [Act.put, List.setIfInBounds_toArray, List.set_cons_zero, List.set_cons_succ])
                refine wpAnyH_ready (rs := [5]) (by kernel_rfl) (by simp) ?_
                refine AllReadyH.cons (o := { dst := some 171, op := Op.call { callee := Callee.value (Operand.func 86), args := #[Operand.tmp 170], argTypes := #[42] }, type := 9, pos := "l12_reply.go:85", after := #[{ on := 4, ground := Ground.data }, { on := 3, ground := Ground.chain }, { on := 3, ground := Ground.guard }], guard := some (3, false) }) rfl (fun KC hKC => ?_) AllReadyH.nil
                go_simp
                go_at_call 86
                refine (l12Show_any K N F B C M ok _).mono ?_
                rintro er w8 ⟨rfl, hB8⟩
                rw [hz.out]
                have RM8 := RM7.grow hB8
                refine hKC.out _ _ (cellsRp RM8.v) (fun hHeld2 => ?_)
                clear hKC KC hHeld
                have hHeld := hHeld2
                clear hHeld2
                (try simp only [Act.put, List.setIfInBounds_toArray, List.set_cons_zero, List.set_cons_succ])
                refine wpAnyH_take (i := 10) (oi := { dst := some 176, op := Op.binOp BinOp.neq 9 (Operand.tmp 171) (Operand.tmp 175) 9, type := 4, pos := "l12_reply.go:85", after := #[{ on := 5, ground := Ground.data }, { on := 9, ground := Ground.data }, { on := 3, ground := Ground.guard }], guard := some (3, false) }) (v := ?_) rfl (by kernel_rfl) (by kernel_rfl) (by kernel_rfl) (fun _ _ _ h => h) (Or.inl ⟨by rfl, ?_⟩) (by assumption) ?_
                rotate_left 1
                · intro w' hSw
                  (try dsimp only at hSw)
                  go_simp
                  (try with_reducible rfl)
                (try simp only [Act.put, List.setIfInBounds_toArray, List.set_cons_zero, List.set_cons_succ])
                refine wpAnyH_take (i := 11) (oi := { dst := some 177, op := Op.pick (Operand.tmp 169) (Operand.const (Value.bool true)) (Operand.tmp 176), type := 4, pos := "l12_reply.go:85", after := #[{ on := 3, ground := Ground.data }, { on := 10, ground := Ground.data }], guard := none }) (v := ?_) rfl (by kernel_rfl) (by kernel_rfl) (by kernel_rfl) (fun _ _ _ h => h) (Or.inl ⟨by rfl, ?_⟩) (by assumption) ?_
                rotate_left 1
                · intro w' hSw
                  (try dsimp only at hSw)
                  go_simp
                  (try with_reducible rfl)
                (try simp only [Act.put, List.setIfInBounds_toArray, List.set_cons_zero, List.set_cons_succ])
                refine wpAnyH_done (by kernel_rfl) ?_ _
                go_wp2_with (first | (refine wpList_load_r rfl 42 _ rfl b10 0 [.int .i64 K, .string N, .int .i64 F, .string B, .int .i64 C, .int .i64 M] rfl _ Tryz.underlying42 rfl sizeRp RM8.v.range ?_) | (refine wpList_store_v rfl 42 _ _ rfl b4 [.int .i64 K, .string N, .int .i64 F, .string B, .int .i64 C, .int .i64 M] rfl rfl sizeRp RM8.q.V4 rfl (oneRs K N F B C M) ?_; intro w9 hO9 V9) | (fail))
                exact row_ct rfl rfl rfl V9 Tryz.underlying42 sizeRp rfl ⟨by rw [hout.out]; rfl, RM8.q.b.trans (hO9.2.2 _ RM8.q.l4)⟩
      · have h10b : ((s[e].toNat : Int) != 10) = true := by
          simp
          intro q
          exact h10 (UInt8.toNat_inj.1 (by show s[e].toNat = 10; omega))
        have hno2 : Hid (10 ∉ ((bs s).drop p).take (e + 1 - p)) := no10_step hno.out he0 hlt h10
        clear h10 hno
        go_wp2
        go_round
        case rel => exact ⟨e + 1, by go_num, by omega, by omega, hno2⟩
        case measure => simp [intOf]; omega
    · have hlt' : ¬ (e : Int) < (s.size : Int) := by omega
      have hen : ((e : Int) == (s.size : Int)) = true := by simp; omega
      have hout : Hid (X = (Rp.zero, -1)) := HN.out (no_line (no_ten hno.out hlt))
      as_aux_lemma =>
        go_wp2_with (first | (refine wpList_load_r rfl 42 _ rfl b6 0 [.int .i64 0, .string ⟨#[]⟩, .int .i64 0, .string ⟨#[]⟩, .int .i64 0, .int .i64 0] rfl _ Tryz.underlying42 rfl sizeRp S0.out.V6.range ?_) | (refine wpList_store_v rfl 42 _ _ rfl b4 [.int .i64 0, .string ⟨#[]⟩, .int .i64 0, .string ⟨#[]⟩, .int .i64 0, .int .i64 0] rfl rfl sizeRp S0.out.V4 rfl (oneRs 0 ⟨#[]⟩ 0 ⟨#[]⟩ 0 0) ?_; intro w9 hO9 V9) | (fail))
        exact row_ct rfl rfl rfl V9 Tryz.underlying42 sizeRp rfl ⟨by rw [hout.out]; rfl, S0.out.b.trans (hO9.2.2 _ S0.out.l4)⟩
end Go.Proofs.YtaabmkhckbndgaaGreatDoor.cm
