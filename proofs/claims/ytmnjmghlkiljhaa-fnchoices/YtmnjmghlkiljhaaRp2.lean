/- Contracts: slices.Delete of one seat; who leaves. -/
import Derived.Test.YtmnjmghlkiljhaaMg07
namespace Go.Proofs.Ytmnjmghlkiljhaa.rg
open Go.ChangeShapes Go.WideShapes Go.ChangeAt Go.RowKit
open Go.Proofs.Ytmnjmghlkiljhaa.ce Go.Proofs.Ytmnjmghlkiljhaa.ro
set_option linter.unusedVariables false

/-- one thing of two cells is cleared -/
theorem run_clear_two {P : Program} (w : World) (t e ty : TypeId) (z0 z1 : Value) (ht : P.underlying t = some (.slice e)) (hv : ∀ w, (zeroValue e).run P w = .ok (.agg #[z0, z1]) w) (h0 : z0.oneCell' = true) (h1 : z1.oneCell' = true) (b o c : Nat)
    (hc : ∀ j, j < 2 → (w.cell? ⟨b, o + j, none⟩).isSome = true) (hf : ∀ j, j < 2 → w.frozen? ⟨b, o + j, none⟩ = false) :
    (Builtin.clear_ #[t] ty #[.slice (some ⟨b, o, none⟩) 1 c]).run P w = .ok (.tuple #[]) (w.setCells b o [z0, z1]) := by
  have hzc : (Builtin.zeroCells (Value.agg #[z0, z1]).cells 1).toList = [z0, z1] := by
    simp [Builtin.zeroCells, Value.cells, List.range_succ]
  have hst := run_storeCells_cells (P := P) b o [z0, z1] 0 w (by simpa using hc) (by simpa using hf) (by intro v hv'; simp at hv'; rcases hv' with rfl | rfl <;> assumption)
  simp only [Nat.add_zero] at hst
  simp [Builtin.clear_, run_underlying ht, hv, hzc, hst]

theorem zeroSeat (w : World) : (zeroValue 153).run Try.prog w = .ok (.agg #[.string ⟨#[]⟩, .bool false]) w := Try.zeroValue153 w
theorem infoSeat2 : ∃ i : TypeInfo, Try.prog.info? 153 = some i ∧ i.size = 2 := by
  obtain ⟨i, z, h1, -, h2, -⟩ := infoSeat.ex
  exact ⟨i, h1, h2⟩
theorem row2 (xs : List (ByteArray × Bool)) : (encSeat.row xs).length = xs.length * 2 := encSeat.row_len xs
/-- the block g has room for cap seats; the first of them are xs -/
def Blk (w : World) (g cap : Nat) (xs : List (ByteArray × Bool)) : Prop := ∃ cur : Array Value, w.heap[g]? = some (.cells cur 153 (0, 0)) ∧ cur.size = cap * 2 ∧ cur.toList.take (xs.length * 2) = encSeat.row xs
theorem blk_of {w : World} {lo hi g n cap : Nat} {ss : List (ByteArray × Bool)} (o : Own encSeat w lo hi (.slice (some ⟨g, 0, none⟩) n cap) ss) (h : 1 ≤ ss.length) : Blk w g cap ss ∧ (lo ≤ g ∧ g < hi) ∧ cap ≤ maxLen ∧ n = ss.length ∧ ss.length ≤ cap := by
  rcases o.row with ⟨rfl, -⟩ | ⟨g2, cap2, cur, e2, hg, hb, hc1, hc2, hc3, htk⟩
  · simp at h
  cases e2
  exact ⟨⟨cur, hb, hc3, htk⟩, hg, hc2, rfl, hc1⟩
theorem Blk.own {w : World} {lo hi g cap : Nat} {xs : List (ByteArray × Bool)} (b : Blk w g cap xs) (hg : lo ≤ g ∧ g < hi) (hm : cap ≤ maxLen) (hc : xs.length ≤ cap) : Own encSeat w lo hi (.slice (some ⟨g, 0, none⟩) xs.length cap) xs := by
  obtain ⟨cur, h1, h2, h3⟩ := b
  exact ⟨.inr ⟨g, cap, cur, rfl, hg, h1, hc, hm, h2, h3⟩⟩
theorem Blk.there {w : World} {g cap : Nat} {xs : List (ByteArray × Bool)} (b : Blk w g cap xs) (j : Nat) (hj : j < cap * 2) : (w.cell? ⟨g, j, none⟩).isSome = true ∧ w.frozen? ⟨g, j, none⟩ = false := by
  obtain ⟨cur, h1, h2, h3⟩ := b
  refine ⟨?_, frozen_of_row _ _ _ _ _ h1⟩
  rw [cell_of_row _ _ _ _ _ _ h1, Array.getElem?_eq_getElem (by omega)]
  rfl
theorem Blk.ty {w w' : World} {g cap lo : Nat} {xs : List (ByteArray × Bool)} (b : Blk w g cap xs) (hg : lo ≤ g) (ho : Only g w w') : Ty lo 153 w w' := by
  obtain ⟨cur, h1, h2, h3⟩ := b
  exact ⟨ho.2.2 _ hg, fun k cur' t' f hk hn => ho.2.1 k fun e => by
    rw [e, h1] at hk
    simp at hk
    exact hn hk.2.1.symm⟩
/-- what lies behind the i-th goes one place ahead -/
theorem Blk.del {w : World} {g cap i : Nat} {ss : List (ByteArray × Bool)} (b : Blk w g cap ss) (hi' : i < ss.length) (hc : ss.length ≤ cap) : Blk (w.setCells g (i * 2) (encSeat.row (ss.drop (i + 1)))) g cap (ss.take i ++ ss.drop (i + 1)) := by
  obtain ⟨cur, hb, hs, htk⟩ := b
  have hsl : cur.toList.length = cap * 2 := by rw [Array.length_toList, hs]
  have hrl : (encSeat.row (ss.drop (i + 1))).length = (ss.length - (i + 1)) * 2 := by rw [row2, List.length_drop]
  have h1 := heap_setCells g 153 (encSeat.row (ss.drop (i + 1))) (i * 2) w cur.toList (by simpa using hb) (by rw [hrl, hsl]; omega)
  have htk' : cur.toList.take (i * 2) = encSeat.row (ss.take i) := by
    have := encSeat.row_take ss i
    rw [← htk, List.take_take, show encSeat.k = 2 from rfl, Nat.min_eq_left (by omega)] at this
    exact this
  refine ⟨_, h1, ?_, ?_⟩
  · simp only [List.size_toArray, List.length_append, List.length_take, List.length_drop, hrl, hsl]
    omega
  · rw [List.toList_toArray, htk', ← Enc.row_append, ← row2, List.take_left]
/-- what lies behind the row's end is cleared -/
theorem Blk.clr {w : World} {g cap : Nat} {xs : List (ByteArray × Bool)} (b : Blk w g cap xs) (hc : xs.length < cap) (u v : Value) : Blk (w.setCells g (xs.length * 2) [u, v]) g cap xs := by
  obtain ⟨cur, hb, hs, ht⟩ := b
  have h1 := heap_setCells g 153 [u, v] (xs.length * 2) w cur.toList (by simpa using hb) (by simp; omega)
  refine ⟨_, h1, ?_, ?_⟩
  · simp [hs]
    omega
  · rw [List.toList_toArray, List.append_assoc, ht, ← row2, List.take_left]


set_option maxRecDepth 100000 in
set_option maxHeartbeats 1000000 in
theorem delete_any (i p : Nat) (hp : p = i + 1) (w : World) (lo hi g n cap : Nat) (ss : List (ByteArray × Bool)) (own : Own encSeat w lo hi (.slice (some ⟨g, 0, none⟩) n cap) ss) (hi' : i < ss.length) :
    Calls Try.prog 132 #[.slice (some ⟨g, 0, none⟩) n cap, .int .i64 i, .int .i64 p] w fun e w' => ∃ q, q + 1 = n ∧ e = .returned (.slice (some ⟨g, 0, none⟩) q cap) ∧ Own encSeat w' lo hi (.slice (some ⟨g, 0, none⟩) q cap) (ss.take i ++ ss.drop (i + 1)) ∧ Ty lo 153 w w' := by
  obtain ⟨i0, hi0, hz1⟩ := infoSeat2
  obtain ⟨hB, hg, hm, hn, hc⟩ := blk_of own (by omega)
  have hm' : cap ≤ 9223372036854775807 := by unfold maxLen at hm; exact hm
  obtain ⟨q, hq⟩ : ∃ q, q + 1 = n := ⟨n - 1, by omega⟩
  have hlen : (ss.take i ++ ss.drop (i + 1)).length = q := by simp; omega
  have hBd : Blk w.drew g cap ss := hB
  have hD := hBd.del hi' hc
  have hTd : Ty lo 153 w.drew (w.drew.setCells g (i * 2) (encSeat.row (ss.drop (i + 1)))) := hBd.ty hg.1 (only_setCells _ _ _ _)
  have hsp : ∀ j, j < (encSeat.row (ss.drop (i + 1))).length → (w.drew.cell? ⟨g, 0 + i * 2 + j, none⟩).isSome = true ∧ w.drew.frozen? ⟨g, 0 + i * 2 + j, none⟩ = false := fun j hj => by
    rw [row2, List.length_drop] at hj
    rw [Nat.zero_add]
    exact hBd.there _ (by omega)
  have hrd := own.rd.rest (i + 1) (by omega)
  obtain ⟨A, hA, hsrc⟩ : ∃ A : Addr, (if cap = p then some (⟨g, 0, none⟩ : Addr) else some ⟨g, p * 2, none⟩) = some A ∧ ∀ t u, (encSeat.row (ss.drop (i + 1)))[t]? = some u → w.drew.cell? (A.add t) = some u := by
    rcases hrd with ⟨h1, h2⟩ | ⟨h1, h2, h3, h4⟩
    · refine ⟨⟨g, p * 2, none⟩, by rw [if_neg (by omega)], fun t u hu => ?_⟩
      rw [Addr.add_mid]
      have h1l : 1 ≤ (ss.drop (i + 1)).length := by
        cases hd : ss.drop (i + 1) with
        | nil => rw [hd] at hu; simp [Enc.row] at hu
        | cons x r => simp
      obtain ⟨b, off, e2, -, h6⟩ := h2.out.start h1l
      cases e2
      have := h6 t u hu
      rw [Nat.zero_add, ← hp] at this
      exact this
    · refine ⟨⟨g, 0, none⟩, by rw [if_pos (by omega)], fun t u hu => ?_⟩
      rw [h3] at hu
      simp [Enc.row] at hu
  have hone := encSeat.row_cells (ss.drop (i + 1))
  have hnl : (encSeat.row (ss.drop (i + 1))).length = (n - p) * 2 := by rw [row2, List.length_drop, hn, hp]
  obtain ⟨news, hN⟩ : ∃ news, encSeat.row (ss.drop (i + 1)) = news := ⟨_, rfl⟩
  rw [hN] at hD hTd hsp hsrc hone hnl
  obtain ⟨W1, hW1⟩ : ∃ W1, w.drew.setCells g (0 + i * 2) news = W1 := ⟨_, rfl⟩
  have hD1 : Hid (Blk W1 g cap (ss.take i ++ ss.drop (i + 1))) := by
    unfold Hid
    rw [← hW1, Nat.zero_add]
    exact hD
  have hT1 : Hid (Ty lo 153 w W1) := by
    unfold Hid
    have := (Ty.of_below (lo := lo) (t := 153) (w := w) (w' := w.drew) (Below.refl _ _).drew (by obtain ⟨cur, h1, -⟩ := hB; have := (Array.getElem?_eq_some_iff.1 h1).1; omega)).trans hTd
    rw [← hW1, Nat.zero_add]
    exact this
  have HW : Hid (w.drew.setCells g (0 + i * 2) news = W1) := hW1
  have s1 : Hid (news.length = (n - p) * 2) := hnl
  have s2 : Hid (∀ u ∈ news, u.oneCell' = true) := hone
  have s3 : Hid (∀ j, j < news.length → (w.drew.cell? ⟨g, 0 + i * 2 + j, none⟩).isSome = true ∧ w.drew.frozen? ⟨g, 0 + i * 2 + j, none⟩ = false) := hsp
  have s4 : Hid (∀ t u, news[t]? = some u → w.drew.cell? (A.add t) = some u) := hsrc
  have s5 : Hid ((ss.take i ++ ss.drop (i + 1)).length = q) := hlen
  have hcl : Hid (∀ k, k < 2 → (W1.cell? ⟨g, q * 2 + k, none⟩).isSome = true ∧ W1.frozen? ⟨g, q * 2 + k, none⟩ = false) := fun k hk => hD1.out.there _ (by omega)
  have HN : Hid (n = ss.length) := hn
  have e1 : ((i : Int) == (p : Int)) = false := by simp; omega
  have e2 : i + (n - p) = q := by omega
  have e3 : ¬ cap = q := by omega
  have e4 : n - q = 1 := by omega
  have b1 : (i : Int) ≤ (p : Int) := by omega
  have b2 : (p : Int) ≤ (n : Int) := by omega
  have b3 : (n : Int) ≤ (cap : Int) := by omega
  have b4 : (i : Int) ≤ (cap : Int) := by omega
  have b5 : (p : Int) ≤ (cap : Int) := by omega
  have b6 : (q : Int) ≤ (n : Int) := by omega
  have b7 : (q : Int) ≤ (cap : Int) := by omega
  have b8 : n ≤ cap := by omega
  have b9 : p ≤ n := by omega
  have HQ : Hid (q + 1 = n) := hq
  clear hB hBd hD hTd hsp hsrc hone hnl hN hW1 hrd hlen hn hq hp own hi'
  go_enter Try.func132, Try.ntmps132
  go_wp2
  go_region_law (refine step_append_room rfl (.tmp 22) (.tmp 25) 119 rfl 153 i0 2 Try.underlying119 hi0 hz1 g 0 i cap (by simp [Act.eval, Act.put]) A (n - p) (cap - p) news (by simp [Act.eval, Act.put]) s1.out s4.out s2.out (by omega) s3.out ?_; rw [HW.out, e2])
  obtain ⟨W2, hW2⟩ : ∃ W2, W1.setCells g (q * 2) [.string ⟨#[]⟩, .bool false] = W2 := ⟨_, rfl⟩
  have hclr : ∀ ty, (Builtin.clear_ #[119] ty #[.slice (some ⟨g, q * 2, none⟩) 1 (cap - q)]).run Try.prog W1 = .ok (.tuple #[]) W2 := fun ty => by
    rw [← hW2]
    exact run_clear_two (P := Try.prog) W1 119 153 ty (.string ⟨#[]⟩) (.bool false) Try.underlying119 zeroSeat rfl rfl g (q * 2) (cap - q) (fun k hk => (hcl.out k hk).1) (fun k hk => (hcl.out k hk).2)
  have HW2 : Hid (W1.setCells g (q * 2) [.string ⟨#[]⟩, .bool false] = W2) := hW2
  clear hW2
  go_wp2
  go_ret
  have hs5 := s5.out
  have hD2 := hD1.out.clr (by omega) (.string ⟨#[]⟩) (.bool false)
  have hT2 := hT1.out.trans (hD1.out.ty (w' := W1.setCells g (q * 2) [.string ⟨#[]⟩, .bool false]) hg.1 (only_setCells _ _ _ _))
  rw [hs5, HW2.out] at hD2
  rw [HW2.out] at hT2
  have hO2 := hD2.own hg hm (by omega)
  rw [hs5] at hO2
  exact ⟨q, HQ.out, rfl, hO2, hT2⟩

set_option maxRecDepth 100000 in
set_option maxHeartbeats 1000000 in
theorem leave_any (i : Nat) (w : World) (lo hi b : Nat) (sv : Value) (ss : List (ByteArray × Bool)) (A : Int) (h : RV w lo hi b sv ss A) (hi' : i < ss.length) (hl : ss.length ≤ 1000000) (hA0 : 0 ≤ A) (hA1 : A < ss.length) :
    Calls Try.prog 104 #[.pointer (some ⟨b, 0, none⟩), .int .i64 i] w fun e w' => (∃ u, e = .returned u) ∧ (∃ sv', RV w' lo w'.heap.size b sv' (ss.take i ++ ss.drop (i + 1)) (if handA A i < (ss.length : Int) - 1 then handA A i else 0)) ∧ Tq lo b w w' := by
  obtain ⟨a, n, cap, rfl⟩ := h.o.slice
  obtain ⟨c0, c1⟩ := cells2 h.v
  have hn := h.o.rd.cap.1
  have H : Hid (RV w lo hi b (.slice a n cap) ss A) := h
  obtain ⟨g, rfl, hg, -⟩ := ownT_cell h.o i hi'
  clear h
  obtain ⟨p, hp⟩ : ∃ p, Hid (p = i + 1) := ⟨_, rfl⟩
  have i4 : IntKind.i64.wrap ((i : Int) + 1) = (p : Int) := by rw [IntKind.wrap_i64]; have := hp.out; omega
  have hlen : (ss.take i ++ ss.drop (i + 1)).length = ss.length - 1 := by simp; omega
  by_cases hiA : (i : Int) < A
  · rw [show handA A i = A - 1 from if_pos hiA]
    obtain ⟨F, hF⟩ := hid_ex (if A - 1 < (((ss.take i ++ ss.drop (i + 1)).length : Nat) : Int) then A - 1 else 0)
    have hF2 : (if A - 1 < (ss.length : Int) - 1 then A - 1 else 0) = F := by rw [← hF.out, hlen, show ((ss.length - 1 : Nat) : Int) = (ss.length : Int) - 1 by omega]
    rw [hF2]
    clear hF2 hlen hn
    have hA2 : IntKind.i64.wrap (A - 1) = A - 1 := by rw [IntKind.wrap_i64]; omega
    have m1 : Hid True := trivial
    have m2 : Hid True := trivial
    have m3 : Hid True := trivial
    go_enter Try.func104, Try.ntmps104
    go_wp2_with (first | (go_at_call 132; refine (delete_any i p hp.out _ lo hi g n cap ss H.out.o hi').mono ?_; rintro e w1 ⟨q, hq, rfl, o1, hT1⟩; have HQ : Hid (q + 1 = n) := hq; clear hq; have V1 := hT1.vblk H.out.v (by decide); have T1 : Tq lo b w w1 := Tq.of_ty hT1) | (clear m1; refine wpList_store_ts rfl _ _ rfl b 0 (some ⟨g, 0, none⟩) q cap rfl rfl V1 (by simp) ?_; intro w2 hO2 V2; have o2 := o1.only hO2 V1 (by decide); have T2 : Tq lo b w w2 := T1.trans (Tq.of_only hO2); clear c0 c1; obtain ⟨c0, c1⟩ := cells2 V2) | (clear m2; refine wpList_store_n rfl _ _ rfl b 1 (A - 1) rfl (by first | rfl | simp [go_sem]) V2 (by simp) ?_; intro w3 hO3 V3; replace o2 := o2.only hO3 V2 (by decide); have T3 : Tq lo b w w3 := T2.trans (Tq.of_only hO3); clear V2; have V2 := V3; clear V3; clear c0 c1; obtain ⟨c0, c1⟩ := cells2 V2) | (go_at_call 133; refine (around_any _ lo hi b _ _ (A - 1) (A - 1) ⟨o2, V2⟩).mono ?_; rintro e wq ⟨rfl, hq⟩; subst wq; rw [hF.out]) | (clear m3; refine wpList_store_n rfl _ _ rfl b 1 F rfl rfl V2 (by simp) ?_; intro w5 hO5 V5) | (fail))
    go_end0
    exact ⟨⟨_, rfl⟩, ⟨_, (o2.only hO5 V2 (by decide)).top, V5⟩, T3.trans (Tq.of_only hO5)⟩
  · rw [show handA A i = A from if_neg hiA]
    obtain ⟨F, hF⟩ := hid_ex (if A < (((ss.take i ++ ss.drop (i + 1)).length : Nat) : Int) then A else 0)
    have hF2 : (if A < (ss.length : Int) - 1 then A else 0) = F := by rw [← hF.out, hlen, show ((ss.length - 1 : Nat) : Int) = (ss.length : Int) - 1 by omega]
    rw [hF2]
    clear hF2 hlen hn
    have hA2 : IntKind.i64.wrap (A - 1) = A - 1 := by rw [IntKind.wrap_i64]; omega
    have m1 : Hid True := trivial
    have m2 : Hid True := trivial
    have m3 : Hid True := trivial
    go_enter Try.func104, Try.ntmps104
    go_wp2_with (first | (go_at_call 132; refine (delete_any i p hp.out _ lo hi g n cap ss H.out.o hi').mono ?_; rintro e w1 ⟨q, hq, rfl, o1, hT1⟩; have HQ : Hid (q + 1 = n) := hq; clear hq; have V1 := hT1.vblk H.out.v (by decide); have T1 : Tq lo b w w1 := Tq.of_ty hT1) | (clear m1; refine wpList_store_ts rfl _ _ rfl b 0 (some ⟨g, 0, none⟩) q cap rfl rfl V1 (by simp) ?_; intro w2 hO2 V2; have o2 := o1.only hO2 V1 (by decide); have T2 : Tq lo b w w2 := T1.trans (Tq.of_only hO2); clear c0 c1; obtain ⟨c0, c1⟩ := cells2 V2) | (go_at_call 133; refine (around_any _ lo hi b _ _ A A ⟨o2, V2⟩).mono ?_; rintro e wq ⟨rfl, hq⟩; subst wq; rw [hF.out]) | (clear m3; refine wpList_store_n rfl _ _ rfl b 1 F rfl rfl V2 (by simp) ?_; intro w5 hO5 V5) | (fail))
    go_end0
    exact ⟨⟨_, rfl⟩, ⟨_, (o2.only hO5 V2 (by decide)).top, V5⟩, T2.trans (Tq.of_only hO5)⟩
end Go.Proofs.Ytmnjmghlkiljhaa.rg
