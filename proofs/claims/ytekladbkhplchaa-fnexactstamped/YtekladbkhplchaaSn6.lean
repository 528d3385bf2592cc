/- slices.DeleteFunc with the closure of withoutItem; withoutItem. -/
import Derived.Test.YtekladbkhplchaaSn5
import Derived.Test.YtekladbkhplchaaSn2
import Derived.Test.YtekladbkhplchaaBx1
import Derived.Lib.SmallJoins
import Derived.Deep.Slices
namespace Go.Proofs.Ytekladbkhplchaa.rg
open Go.ChangeShapes Go.WideShapes Go.ChangeAt Go.RowKit
open Go.Deep Go.Joins
open Go.Proofs.Ytekladbkhplchaa.ce Go.Proofs.Ytekladbkhplchaa.ro
set_option linter.unusedVariables false

theorem idx_in {s : ByteArray} {l : List It} (h : idx s l < l.length) : l[idx s l].N = s := by
  induction l with
  | nil => simp at h
  | cons x r ih =>
    by_cases e : x.N = s
    · have e0 : idx s (x :: r) = 0 := by unfold idx; rw [if_pos e]
      simp [e0, e]
    · have e0 : idx s (x :: r) = idx s r + 1 := by conv => lhs; unfold idx; rw [if_neg e]
      rw [e0] at h
      simp only [e0, List.getElem_cons_succ]
      exact ih (by simpa using h)
theorem idx_none {s : ByteArray} {l : List It} (h : ¬ idx s l < l.length) : ∀ x ∈ l, x.N ≠ s := fun x hx => by
  induction l with
  | nil => simp at hx
  | cons y r ih =>
    have hy : y.N ≠ s := fun e => h (by unfold idx; rw [if_pos e]; simp)
    have e0 : idx s (y :: r) = idx s r + 1 := by conv => lhs; unfold idx; rw [if_neg hy]
    rcases List.mem_cons.1 hx with rfl | hx
    · exact hy
    · exact ih (by rw [e0] at h; simpa using h) hx
/-- one is gone, the others as far as they have been moved -/
def mvd (I : List It) (k p : Nat) : List It := (I.take k ++ I.drop (k + 1)).take p ++ I.drop p
theorem mvd_start (I : List It) {k : Nat} (hk : k < I.length) : mvd I k k = I := by
  unfold mvd
  rw [List.take_append_of_le_length (by rw [List.length_take]; omega), List.take_take, Nat.min_self, List.take_append_drop]
theorem mvd_len (I : List It) {k p : Nat} (hk : k < I.length) (hp : p < I.length) : (mvd I k p).length = I.length := by
  unfold mvd
  simp only [List.length_append, List.length_take, List.length_drop]
  omega
theorem mvd_at (I : List It) {k p j : Nat} (hk : k < I.length) (hp : p < j) (hj : j < I.length) (h : j < (mvd I k p).length) : (mvd I k p)[j] = I[j] := by
  have hl : ((I.take k ++ I.drop (k + 1)).take p).length = p := by simp only [List.length_append, List.length_take, List.length_drop]; omega
  apply Option.some.inj
  rw [← List.getElem?_eq_getElem h, ← List.getElem?_eq_getElem hj]
  unfold mvd
  rw [List.getElem?_append_right (by omega), hl, List.getElem?_drop]
  congr 1
  omega
theorem mvd_step (I : List It) {k p : Nat} (hk : k < I.length) (hkp : k ≤ p) (hp : p + 1 < I.length) : (mvd I k p).set p I[p + 1] = mvd I k (p + 1) := by
  have hl : ((I.take k ++ I.drop (k + 1)).take p).length = p := by simp only [List.length_append, List.length_take, List.length_drop]; omega
  have hD : p < (I.take k ++ I.drop (k + 1)).length := by simp only [List.length_append, List.length_take, List.length_drop]; omega
  have e1 : (I.take k ++ I.drop (k + 1))[p] = I[p + 1] := by
    have ht : (I.take k).length = k := by rw [List.length_take]; omega
    rw [List.getElem_append_right (by omega)]
    simp only [ht, List.getElem_drop]
    congr 1
    omega
  unfold mvd
  rw [List.set_append_right _ _ (by omega), hl, Nat.sub_self, List.drop_eq_getElem_cons (show p < I.length by omega), List.set_cons_zero, List.take_succ_eq_append_getElem hD, e1, List.append_assoc]
  rfl
theorem mvd_end (I : List It) {k p : Nat} (hk : k < I.length) (hp : p + 1 = I.length) : (mvd I k p).take p = I.take k ++ I.drop (k + 1) := by
  have hl : (I.take k ++ I.drop (k + 1)).length = p := by simp only [List.length_append, List.length_take, List.length_drop]; omega
  unfold mvd
  rw [List.take_append_of_le_length (by rw [List.length_take, hl]; omega), List.take_take, Nat.min_self, List.take_of_length_le (by omega)]
/-- the cells of a thing are cleared -/
theorem run_clear_it (w : World) (ty : TypeId) (b o c : Nat) (hc : ∀ j, j < 5 → (w.cell? ⟨b, o + j, none⟩).isSome = true) (hf : ∀ j, w.frozen? ⟨b, j, none⟩ = false) :
    (Builtin.clear_ #[29] ty #[.slice (some ⟨b, o, none⟩) 1 c]).run Try.prog w = .ok (.tuple #[]) (w.setCells b o (encIt.row [⟨⟨#[]⟩, 0, ⟨#[]⟩, 0, 0⟩])) := by
  have hzc : (Builtin.zeroCells (Value.agg #[.string ⟨#[]⟩, .int .i64 0, .string ⟨#[]⟩, .int .i64 0, .int .i64 0]).cells 1).toList = [.string ⟨#[]⟩, .int .i64 0, .string ⟨#[]⟩, .int .i64 0, .int .i64 0] := by
    simp [Builtin.zeroCells, Value.cells, List.range_succ]
  have hst := run_storeCells_cells (P := Try.prog) b o [.string ⟨#[]⟩, .int .i64 0, .string ⟨#[]⟩, .int .i64 0, .int .i64 0] 0 w (by simpa using hc) (by intro j hj; exact hf _) (by intro v hv; simp at hv; rcases hv with rfl | rfl | rfl | rfl | rfl <;> rfl)
  simp only [Nat.add_zero] at hst
  simp [Builtin.clear_, run_underlying Try.underlying29, hzc, hst]
  rfl
theorem own_apart {w w' : World} {lo hi b : Nat} {v : Value} {xs : List It} (o : Own encIt w lo hi v xs) (h : Only b w w') (hb : hi ≤ b) : Own encIt w' lo hi v xs := o.below (h.2.2 b (Nat.le_refl _)) hb
set_option maxRecDepth 100000 in
set_option maxHeartbeats 4000000 in
theorem delete_any (I : List It) (s : ByteArray) (bs lo : Nat) (v : Value) (w : World) (o : Own encIt w lo w.heap.size v I) (V : VBlk w bs 9 [.string s]) (hlo : lo ≤ w.heap.size) (hS : Srt I) (hl : I.length ≤ 1048576) :
    Calls Try.prog 81 #[v, .func (.func 82) #[] #[.pointer (some ⟨bs, 0, none⟩)]] w fun e w' => ∃ v', e = .returned v' ∧ Own encIt w' lo w'.heap.size v' (dropL I s) ∧ Ty lo 35 w w' := by
  have HS : Hid (Srt I) := hS
  have VV : Hid (VBlk w bs 9 [.string s]) := V
  have O : Hid (Own encIt w lo w.heap.size v I) := o
  clear hS V
  have hcf : ∀ args w, (callFunc 82 args).run Try.prog w = .ok (.enter 82 args) w := by intro args w; kernel_rfl
  by_cases hk : idx s I < I.length
  · have hdr : dropL I s = I.take (idx s I) ++ I.drop (idx s I + 1) := by
      have := drop_at HS.out hk
      rw [idx_in hk] at this
      exact this
    have hns : Hid (∀ j (h : j < I.length), idx s I < j → I[j].N ≠ s) := fun j h hj e => by
      have h1 := idx_in hk
      exact ltS_ne (List.pairwise_iff_getElem.1 HS.out _ _ hk h hj) (h1.trans e.symm)
    obtain ⟨k, hkk⟩ := hid_ex (idx s I)
    rw [hkk.out] at hdr hns hk
    obtain ⟨g, cap, rfl, hg1, hg2, -⟩ := o.form (by omega)
    obtain ⟨hnc, hcap, hmx⟩ := o.rd.cap
    obtain ⟨n, hn⟩ := hid_ex I.length
    have O2 : Hid (Own encIt w lo w.heap.size (.slice (some ⟨g, 0, none⟩) n cap) I) := by rw [← hn.out]; exact O.out
    rw [hn.out]
    rw [hn.out] at hk hcap hl
    rw [hdr]
    clear o O hnc
    have hne : ((k : Int) == -1) = false := by first | (simp; done) | (simp; omega)
    have ew : IntKind.i64.wrap ((k : Int) + 1) = ((k + 1 : Nat) : Int) := by rw [IntKind.wrap_i64]; omega
    go_enter Try.func81, Try.ntmps81
    go_wp2_with (first | (go_at_call 92; refine (index_any I s bs _ w O2.out.rd VV.out (by rw [hn.out]; exact hl)).mono ?_; rintro e w1 ⟨rfl, hB1⟩; rw [hkk.out, hn.out, if_pos hk]; have hz1 := hB1.size) | (fail))
    have O3 : Hid (Own encIt w1 lo w.heap.size (.slice (some ⟨g, 0, none⟩) n cap) I) := O2.out.grow hB1
    have V3 : Hid (VBlk w1 bs 9 [.string s]) := vblk_grow VV.out hB1
    have T3 : Hid (Ty lo 35 w w1) := Ty.of_below hB1 (by omega)
    clear hB1
    go_loopw [5, 6] (fun s5 s6 wr => ∃ p j : Nat, s5 = .int .i64 p ∧ s6 = .int .i64 j ∧ Hid (j = p + 1) ∧ k ≤ p ∧ p < n ∧ j ≤ n ∧ Hid (Own encIt wr lo w.heap.size (.slice (some ⟨g, 0, none⟩) n cap) (mvd I k p)) ∧ Hid (Ty lo 35 w wr) ∧ w.heap.size ≤ wr.heap.size) (fun _ s6 _ => n - (intOf s6).toNat)
    case atStart => exact ⟨k, k + 1, rfl, rfl, rfl, Nat.le_refl _, hk, hk, by rw [mvd_start I (by rw [hn.out]; exact hk)]; exact O3.out, T3, hz1⟩
    case round =>
      obtain ⟨p, j, rfl, rfl, hj, hkp, hpn, hjn, hO, hT, hz⟩ := hrel
      by_cases hlt : j < n
      · have hjp := hj.out
        have hml : Hid ((mvd I k p).length = n) := by unfold Hid; rw [mvd_len I (by rw [hn.out]; omega) (by rw [hn.out]; omega)]; exact hn.out
        have hjl : j < (mvd I k p).length := by rw [hml.out]; exact hlt
        obtain ⟨b, off, eA, hbk, rg⟩ := rd_item rfl rfl hO.out.rd j hjl
        obtain ⟨rfl, rfl⟩ : b = g ∧ off = 0 := by cases eA; exact ⟨rfl, rfl⟩
        have hlt' : (j : Int) < (n : Int) := by omega
        have hpn' : (p : Int) < (n : Int) := by omega
        rw [mvd_at I (by rw [hn.out]; omega) (by omega) (by rw [hn.out]; exact hlt)] at rg
        have hN := hns.out j (by rw [hn.out]; exact hlt) (by omega)
        have hst : Hid ((mvd I k p).set p (I[j]'(by rw [hn.out]; exact hlt)) = mvd I k (p + 1)) := by
          have := mvd_step I (k := k) (p := p) (by rw [hn.out]; omega) hkp (by rw [hn.out]; omega)
          subst hjp
          exact this
        obtain ⟨x, hx⟩ := hid_ex (I[j]'(by rw [hn.out]; exact hlt))
        rw [hx.out] at rg hN hst
        obtain ⟨N, F, B, C, U⟩ := x
        have hY : Hid ((N.toList == s.toList) = false) := by unfold Hid; simpa using fun e => hN (str_eq e)
        have Vr := hT.out.vblk VV.out (by decide)
        have ep : IntKind.i64.wrap ((p : Int) + 1) = (j : Int) := by rw [IntKind.wrap_i64]; omega
        have RG : Hid (wr.rangeAt b (0 + j * 5) [.string N, .int .i64 F, .string B, .int .i64 C, .int .i64 U]) := rg
        have m1 : Hid True := trivial
        have m2 : Hid True := trivial
        have m3 : Hid True := trivial
        clear hjp hN eA rg hx
        rw [Nat.zero_add] at RG
        go_wp2_with (first
          | (clear m1; refine wpList_load_r rfl 35 _ rfl b (j * 5) [.string N, .int .i64 F, .string B, .int .i64 C, .int .i64 U] rfl _ Try.underlying35 rfl sizeIt RG.out ?_)
          | (refine wpList_alloc_v rfl 35 rfl _ zeroIt ?_; intro b7 w2 hb7 hw7 hB2 V7; have O4 := hO.out.grow hB2; have Vr2 := vblk_grow Vr hB2; have hz2 := hB2.size)
          | (clear m2; refine wpList_store_v rfl 35 _ _ rfl b7 [.string N, .int .i64 F, .string B, .int .i64 C, .int .i64 U] rfl rfl sizeIt V7 rfl (ic_one ⟨N, F, B, C, U⟩) ?_; intro w3 hO3 V73; have O5 := own_apart O4 hO3 (by omega); have Vr3 := vblk_only Vr2 hO3 (by have := Vr.lt; omega); have hz3 := Nat.le_of_eq hO3.1.symm; have hy3 := Nat.le_of_eq hO3.1)
          | (clear m3; refine wpList_load_r rfl 35 _ rfl b7 0 [.string N, .int .i64 F, .string B, .int .i64 C, .int .i64 U] rfl _ Try.underlying35 rfl sizeIt V73.range ?_)
          | (go_at_call 82; refine (wo1_any N B s F C U bs false hY _ Vr3).mono ?_; rintro e w4 ⟨rfl, hB4⟩; have O6 := O5.grow hB4; have V74 := vblk_grow V73 hB4; have hz4 := hB4.size)
          | (refine wpList_load_r rfl 35 _ rfl b7 0 [.string N, .int .i64 F, .string B, .int .i64 C, .int .i64 U] rfl _ Try.underlying35 rfl sizeIt V74.range ?_)
          | (refine wpList_store_e (E := encIt) sizeIt rfl _ _ rfl lo w.heap.size b n cap p (p * 5) _ ⟨N, F, B, C, U⟩ rfl rfl rfl O6 (by rw [hml.out]; exact hpn) ?_; intro w5 hO5 O7; rw [hst.out] at O7)
          | (fail))
        go_roundw
        case measure => simp [intOf]; omega
        case rel =>
          have hE : (mvd I k p) ≠ [] := fun e => by have := hml.out; rw [e] at this; simp at this; omega
          have T5 : Ty lo 35 wr w5 := ((Ty.of_below (hB2.trans ((hO3.2.2 _ (by omega)).trans (hB4.mono (by omega)))) (by omega)).trans ((O6.at hE).1.ty (O6.at hE).2.1 hO5))
          have hjo := hj.out
          rw [← hjo] at O7
          exact ⟨j, j + 1, by first | rfl | go_num, by go_num, rfl, by omega, hlt, by omega, O7, hT.out.trans T5, by have := hO5.1; omega⟩
      · have hlt' : ¬ (j : Int) < (n : Int) := by omega
        have hpe : Hid (p + 1 = n) := by unfold Hid; have := hj.out; omega
        have hml : Hid ((mvd I k p).length = n) := by unfold Hid; rw [mvd_len I (by rw [hn.out]; omega) (by rw [hn.out]; omega)]; exact hn.out
        have hE : Hid (mvd I k p ≠ []) := fun e => by have := hml.out; rw [e] at this; simp at this; omega
        obtain ⟨r0, hg3, hg4⟩ := hO.out.at hE.out
        obtain ⟨h1, h2, -⟩ := r0.there
        have hpc : p < cap := by omega
        have h3 : ∀ q, q < 5 → (wr.cell? ⟨g, p * 5 + q, none⟩).isSome = true := fun q hq => h1 _ (by show _ < cap * 5; omega)
        obtain ⟨W2, hW2⟩ : ∃ W2, Hid (wr.setCells g (p * 5) (encIt.row [⟨⟨#[]⟩, 0, ⟨#[]⟩, 0, 0⟩]) = W2) := ⟨_, rfl⟩
        have hclr : ∀ ty, (Builtin.clear_ #[29] ty #[.slice (some ⟨g, p * 5, none⟩) 1 (cap - p)]).run Try.prog wr = .ok (.tuple #[]) W2 := fun ty => by
          rw [← hW2.out]
          exact run_clear_it wr ty g (p * 5) (cap - p) h3 h2
        have O8 := r0.write p (by rw [hml.out]; omega) [⟨⟨#[]⟩, 0, ⟨#[]⟩, 0, 0⟩] (by simp; omega)
        have T8 := r0.ty hg3 (only_setCells wr g (encIt.row [⟨⟨#[]⟩, 0, ⟨#[]⟩, 0, 0⟩]) (p * 5))
        have O9 := O8.cut p
        rw [List.append_assoc, List.take_append_of_le_length (by rw [List.length_take, hml.out]; omega), List.take_take, Nat.min_self, mvd_end I (by rw [hn.out]; omega) (by rw [hn.out]; exact hpe.out)] at O9
        have hlD : p = (I.take k ++ I.drop (k + 1)).length := by simp only [List.length_append, List.length_take, List.length_drop]; rw [hn.out]; have := hpe.out; omega
        have O10 : Hid (Own encIt W2 lo w.heap.size (.slice (some ⟨g, 0, none⟩) p cap) (I.take k ++ I.drop (k + 1))) := by rw [← hW2.out]; exact O9.own hg3 hg4 hlD
        have T10 : Hid (Ty lo 35 wr W2) := by rw [← hW2.out]; exact T8
        have hz10 : W2.heap.size = wr.heap.size := by rw [← hW2.out]; exact (only_setCells wr g _ _).1
        have e1 : ¬ cap = p := by omega
        have e2 : n - p = 1 := by have := hpe.out; omega
        have e3 : (p : Int) ≤ (n : Int) := by omega
        have e4 : (p : Int) ≤ (cap : Int) := by omega
        have HZ : Hid (W2.heap.size = wr.heap.size) := hz10
        clear h1 h2 h3 O8 T8 O9 hz10 r0 hlD
        go_wp2
        go_ret
        exact ⟨_, rfl, O10.out.wide (Nat.le_refl _) (by rw [HZ.out]; exact hz), hT.out.trans T10.out⟩
  · have hdr : dropL I s = I := drop_no (idx_none hk)
    rw [hdr]
    obtain ⟨a, cap, rfl⟩ := o.rd.form
    clear o hdr
    go_enter Try.func81, Try.ntmps81
    go_wp2_with (first | (go_at_call 92; refine (index_any I s bs _ w O.out.rd VV.out hl).mono ?_; rintro e w1 ⟨rfl, hB1⟩; rw [if_neg hk]) | (fail))
    go_ret
    exact ⟨_, rfl, (O.out.grow hB1).top, Ty.of_below hB1 hlo⟩
end Go.Proofs.Ytekladbkhplchaa.rg
