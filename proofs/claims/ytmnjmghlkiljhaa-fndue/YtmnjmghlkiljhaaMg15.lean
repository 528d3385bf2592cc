/- Texts laid together: Is2 Ou1 Qt2 LawDu. -/
import Derived.Test.YtmnjmghlkiljhaaMg14
import Derived.Test.YtmnjmghlkiljhaaMg10
import Derived.Test.YtmnjmghlkiljhaaMg00
import Derived.Test.YtmnjmghlkiljhaaMg09
import Derived.Test.YtmnjmghlkiljhaaMg12
import Derived.Deep.Slices
import Derived.Lib.SmallJoins
import Derived.ShutString
import Derived.ChangeOld
import Derived.Deep.RegionHeld3
import Derived.BigQuiet
import Derived.Deep.DeepCutAuto
/- Contracts of the laws' helpers on books: sizes, copies, comparisons; a thing and a book among the arguments. -/
namespace Go.Proofs.Ytmnjmghlkiljhaa.rg
open Go.ChangeShapes Go.WideShapes Go.ChangeAt Go.RowKit
open Go.Deep Go.Joins
open Go.Proofs.Ytmnjmghlkiljhaa.ce Go.Proofs.Ytmnjmghlkiljhaa.ro
set_option linter.unusedVariables false

/-- no text is longer than what a machine holds -/
def Lo (b : List It) : Prop := ∀ i ∈ b, i.N.size ≤ 9223372036854775807 ∧ i.B.size ≤ 9223372036854775807

set_option maxHeartbeats 1000000 in
theorem szItems_le (b : List It) (v : Value) (L : Int) (hL : L ≤ 1048576) (hL0 : 0 ≤ L) (w : World) (r : Rd encLi w v b) (hs : Lo b) :
    Calls Try.prog 39 #[v, .int .i64 L] w fun e w' => ∃ q : Int, e = .returned (.int .i64 q) ∧ Below w.heap.size w w' ∧ (0 ≤ q → b.length ≤ 1048576 ∧ SmK b) ∧ q ≤ 1048576 := by
  have hl := r.len
  obtain ⟨a, cap, rfl⟩ := r.form
  have R : Hid (Rd encLi w (.slice a b.length cap) b) := r
  have HS : Hid (Lo b) := hs
  clear r hs
  have e : IntKind.i64.wrap (L - (b.length : Int)) = L - b.length := by rw [IntKind.wrap_i64]; omega
  by_cases h : L - (b.length : Int) < 0
  · go_enter Try.func39, Try.ntmps39
    go_wp2
    go_ret
    exact ⟨-1, rfl, Below.refl _ _, fun _ => by omega, by omega⟩
  · go_enter Try.func39, Try.ntmps39
    go_wp2
    go_loopw [1, 5] (fun q p wr => ∃ (l : Int) (i : Nat), i ≤ b.length ∧ p = .int .i64 i ∧ q = .int .i64 l ∧ 0 ≤ l ∧ l ≤ 1048576 ∧ Hid (SmK (b.take i)) ∧ Below w.heap.size w wr) (fun _ p _ => b.length - (intOf p).toNat)
    case atStart => exact ⟨L - b.length, 0, by omega, rfl, rfl, by omega, by omega, (fun z hz => by simp at hz), Below.refl _ _⟩
    case round =>
      obtain ⟨l, i, hi1, rfl, rfl, hl0, hl1, hS, hBr⟩ := hrel
      by_cases hlt : i < b.length
      · obtain ⟨bk, off, rfl, hb, rg0⟩ := rd_item rfl rfl (R.out.grow hBr) i hlt
        have hlt' : (i : Int) < (b.length : Int) := by omega
        have hsz := HS.out b[i] (List.getElem_mem hlt)
        have hsr := hBr.size
        have hS2 : (b[i].N.size ≤ 1048576 ∧ b[i].B.size ≤ 1048576) → SmK (b.take (i + 1)) := fun q => by
          rw [List.take_succ_eq_append_getElem hlt]
          intro z hz
          rcases List.mem_append.1 hz with h' | h'
          · exact hS.out z h'
          · rw [List.mem_singleton.1 h']; exact q
        obtain ⟨z, hz⟩ := hid_ex (b[i])
        rw [hz.out] at rg0 hsz hS2
        obtain ⟨N, F, B, C, U⟩ := z
        obtain ⟨hN, hB⟩ := hsz
        dsimp only at hN hB hS2
        have HS2 : Hid ((N.size ≤ 1048576 ∧ B.size ≤ 1048576) → SmK (b.take (i + 1))) := hS2
        have rg : Hid (wr.rangeAt bk (off + i * 5) [.string N, .int .i64 F, .string B, .int .i64 C, .int .i64 U]) := rg0
        clear rg0 hS2
        go_wp2_with (first | (refine wpList_load_r rfl 110 _ rfl bk (off + i * 5) [.string N, .int .i64 F, .string B, .int .i64 C, .int .i64 U] rfl _ Try.underlying110 rfl sizeLi rg.out ?_) | (go_at_call 82; refine (szItem_any N B F C U hN hB l hl1 hl0 _).mono ?_; rintro e w2 ⟨q, rfl, hB2, hq1, hq2⟩; by_cases hneg : q < 0) | (fail))
        · go_ret
          exact ⟨-1, rfl, hBr.trans (hB2.mono hsr), fun _ => by omega, by omega⟩
        · go_roundw
          case rel => exact ⟨q, i + 1, by omega, by go_num, rfl, by omega, hq1, HS2.out (hq2 (by omega)), hBr.trans (hB2.mono hsr)⟩
          case measure => simp [intOf]; omega
      · have hlt' : ¬ (i : Int) < (b.length : Int) := by omega
        have hS3 : Hid (SmK b) := by
          have := hS.out
          rw [List.take_of_length_le (by omega)] at this
          exact this
        clear hS
        go_wp2
        go_ret
        exact ⟨_, rfl, hBr, fun _ => ⟨by omega, hS3.out⟩, hl1⟩

theorem szItems_any (b : List It) (v : Value) (L : Int) (hL : L ≤ 1048576) (hL0 : 0 ≤ L) (w : World) (r : Rd encLi w v b) (hs : Lo b) :
    Calls Try.prog 39 #[v, .int .i64 L] w fun e w' => ∃ q : Int, e = .returned (.int .i64 q) ∧ Below w.heap.size w w' ∧ (0 ≤ q → b.length ≤ 1048576 ∧ SmK b) :=
  (szItems_le b v L hL hL0 w r hs).mono fun e w' ⟨q, h1, h2, h3, _⟩ => ⟨q, h1, h2, h3⟩
set_option maxHeartbeats 1000000 in
theorem toItems_any (b : List It) (v : Value) (w : World) (r : Rd encLi w v b) (hlen : b.length ≤ 1048576) :
    Calls Try.prog 40 #[v] w fun e w' => ∃ v', e = .returned v' ∧ Own encIt w' w.heap.size w'.heap.size v' b ∧ Below w.heap.size w w' := by
  obtain ⟨a, cap, rfl⟩ := r.form
  have R : Hid (Rd encLi w (.slice a b.length cap) b) := r
  clear r
  go_enter Try.func40, Try.ntmps40
  go_wp2_with (first | (refine wpList_make_p infoIt rfl _ _ 47 rfl Try.underlying47 b.length hlen rfl rfl ?_; intro g w1 hg hw1 hB1 p1) | (fail))
  go_loopw [4] (fun p wr => ∃ i : Nat, i ≤ b.length ∧ p = .int .i64 i ∧ Hid (Part encIt wr w.heap.size g b.length b.length (b.take i)) ∧ Below w.heap.size w wr) (fun p _ => b.length - (intOf p).toNat)
  case atStart => exact ⟨0, by omega, rfl, p1, hB1⟩
  case round =>
    obtain ⟨i, hi1, rfl, P, hBr⟩ := hrel
    have hpl := P.out.lt
    by_cases hlt : i < b.length
    · obtain ⟨bk, off, rfl, hb, rg0⟩ := rd_item rfl rfl (R.out.grow hBr) i hlt
      have hlt' : (i : Int) < (b.length : Int) := by omega
      have hsr := hBr.size
      have htk : Hid (b.take (i + 1) = b.take i ++ [b[i]]) := List.take_succ_eq_append_getElem hlt
      have hil : Hid ((b.take i).length = i) := by unfold Hid; simp; omega
      obtain ⟨z, hz⟩ := hid_ex (b[i])
      rw [hz.out] at rg0 htk
      obtain ⟨N, F, B, C, U⟩ := z
      have rg : Hid (wr.rangeAt bk (off + i * 5) [.string N, .int .i64 F, .string B, .int .i64 C, .int .i64 U]) := rg0
      clear rg0
      go_wp2_with (first | (refine wpList_load_r rfl 110 _ rfl bk (off + i * 5) [.string N, .int .i64 F, .string B, .int .i64 C, .int .i64 U] rfl _ Try.underlying110 rfl sizeLi rg.out ?_) | (go_at_call 83; refine (toItem_any N B F C U _).mono ?_; rintro e w3 ⟨rfl, hB3⟩; have p3 := P.out.keep (hB3.block g hpl.2)) | (refine wpList_store_p (E := encIt) sizeIt rfl _ _ rfl w.heap.size g b.length b.length i (i * 5) (b.take i) ⟨N, F, B, C, U⟩ rfl rfl rfl p3 hil.out hlt ?_; intro w4 hO4 p4) | (fail))
      go_roundw
      case rel =>
        refine ⟨i + 1, by omega, by go_num, ?_, (hBr.trans (hB3.mono hsr)).trans (hO4.2.2 _ (by omega))⟩
        unfold Hid
        rw [htk.out]
        exact p4
      case measure => simp [intOf]; omega
    · have hlt' : ¬ (i : Int) < (b.length : Int) := by omega
      have p2 := P.out
      rw [List.take_of_length_le (by omega)] at p2
      clear P
      go_wp2
      go_ret
      exact ⟨_, rfl, p2.full rfl, hBr⟩

set_option maxHeartbeats 1000000 in
theorem eqItems_any (b : List It) (v v' : Value) (w : World) (r : Rd encIt w v b) (r' : Rd encIt w v' b) :
    Calls Try.prog 42 #[v, v'] w fun e w' => e = .returned (.bool true) ∧ Below w.heap.size w w' := by
  have hl := r.len
  obtain ⟨a, cap, rfl⟩ := r.form
  obtain ⟨a', cap', rfl⟩ := r'.form
  have R : Hid (Rd encIt w (.slice a b.length cap) b) := r
  have R' : Hid (Rd encIt w (.slice a' b.length cap') b) := r'
  clear r r'
  have hnn : ((b.length : Int) != (b.length : Int)) = false := by simp
  go_enter Try.func42, Try.ntmps42
  go_wp2
  go_loopw [5] (fun v' wr => ∃ i : Nat, i ≤ b.length ∧ v' = .int .i64 i ∧ Below w.heap.size w wr) (fun v' _ => b.length - (intOf v').toNat)
  case atStart => exact ⟨0, by omega, rfl, Below.refl _ _⟩
  case round =>
    obtain ⟨i, hi1, rfl, hBr⟩ := hrel
    by_cases hlt : i < b.length
    · obtain ⟨bk, off, rfl, hb, rg0⟩ := rd_item rfl rfl (R.out.grow hBr) i hlt
      obtain ⟨bk', off', rfl, hb', rg1⟩ := rd_item rfl rfl (R'.out.grow hBr) i hlt
      obtain ⟨z, hz⟩ := hid_ex (b[i])
      rw [hz.out] at rg0 rg1
      obtain ⟨N, F, B, C, U⟩ := z
      have hlt' : (i : Int) < b.length := by omega
      have hsr := hBr.size
      have rg : Hid (wr.rangeAt bk (off + i * 5) [.string N, .int .i64 F, .string B, .int .i64 C, .int .i64 U]) := rg0
      have rg' : Hid (wr.rangeAt bk' (off' + i * 5) [.string N, .int .i64 F, .string B, .int .i64 C, .int .i64 U]) := rg1
      clear rg0 rg1
      go_upto_region 6 with (fail)
      have hS0 : (wr.drew.cell? ⟨bk, off + i * 5, none⟩ = some (.string N) ∧ wr.drew.cell? ⟨bk, off + i * 5 + 1, none⟩ = some (.int .i64 F) ∧ wr.drew.cell? ⟨bk, off + i * 5 + 2, none⟩ = some (.string B) ∧ wr.drew.cell? ⟨bk, off + i * 5 + 3, none⟩ = some (.int .i64 C) ∧ wr.drew.cell? ⟨bk, off + i * 5 + 4, none⟩ = some (.int .i64 U)) ∧ (wr.drew.cell? ⟨bk', off' + i * 5, none⟩ = some (.string N) ∧ wr.drew.cell? ⟨bk', off' + i * 5 + 1, none⟩ = some (.int .i64 F) ∧ wr.drew.cell? ⟨bk', off' + i * 5 + 2, none⟩ = some (.string B) ∧ wr.drew.cell? ⟨bk', off' + i * 5 + 3, none⟩ = some (.int .i64 C) ∧ wr.drew.cell? ⟨bk', off' + i * 5 + 4, none⟩ = some (.int .i64 U)) := ⟨rng5 (w := wr.drew) rg.out, rng5 (w := wr.drew) rg'.out⟩
      go_region_held3 (fun w' => (w'.cell? ⟨bk, off + i * 5, none⟩ = some (.string N) ∧ w'.cell? ⟨bk, off + i * 5 + 1, none⟩ = some (.int .i64 F) ∧ w'.cell? ⟨bk, off + i * 5 + 2, none⟩ = some (.string B) ∧ w'.cell? ⟨bk, off + i * 5 + 3, none⟩ = some (.int .i64 C) ∧ w'.cell? ⟨bk, off + i * 5 + 4, none⟩ = some (.int .i64 U)) ∧ (w'.cell? ⟨bk', off' + i * 5, none⟩ = some (.string N) ∧ w'.cell? ⟨bk', off' + i * 5 + 1, none⟩ = some (.int .i64 F) ∧ w'.cell? ⟨bk', off' + i * 5 + 2, none⟩ = some (.string B) ∧ w'.cell? ⟨bk', off' + i * 5 + 3, none⟩ = some (.int .i64 C) ∧ w'.cell? ⟨bk', off' + i * 5 + 4, none⟩ = some (.int .i64 U))) (first | assumption | exact hS0) (first | (go_at_call 84; refine (eqItem_any N B F C U _).mono ?_; rintro e w5 ⟨rfl, hB5⟩; have hS5 := And.intro (rng5 (range_of rg.out (hB5.block bk hb))) (rng5 (range_of rg'.out (hB5.block bk' hb')))) | (fail))
      go_wp2
      go_roundw
      case rel => exact ⟨i + 1, by omega, by go_num, hBr.drew.trans (hB5.mono hsr)⟩
      case measure => simp [intOf]; omega
    · go_wp2
      go_ret
      exact ⟨rfl, hBr⟩

theorem cellsStrK : Try.prog.cellsOf 9 = 1 := by kernel_rfl
theorem cellsIntK : Try.prog.cellsOf 2 = 1 := by kernel_rfl
theorem cellsLi : Try.prog.cellsOf 110 = 5 := by kernel_rfl
set_option maxRecDepth 100000 in
theorem ic_of_trod {H : Type} {enc : TypeId × Value → H} {w : World} {n : Nat} {cs : List Value} {x : DataW H × List MemPlace} (h : DataW.trod enc Try.prog w 0 (fun _ => true) true n 110 cs = some x) : ∃ i : It, cs = ic i ∧ i.N.size ≤ 9223372036854775807 ∧ i.B.size ≤ 9223372036854775807 := by
  obtain ⟨xs, m, -, -, hl, hxs, hf⟩ := DataW.trod_struct Try.underlying110 h
  rw [cellsLi] at hl
  match cs, hl with
  | [v0, v1, v2, v3, v4], _ =>
    match xs, hxs with
    | [y0, y1, y2, y3, y4], _ =>
      have h0 := hf 0 _ rfl
      have h1 := hf 1 _ rfl
      have h2 := hf 2 _ rfl
      have h3 := hf 3 _ rfl
      have h4 := hf 4 _ rfl
      simp [cellsIntK, cellsStrK] at h0 h1 h2 h3 h4
      obtain ⟨s, e0, -, s0⟩ := DataW.trod_string Try.underlying9 h0
      obtain ⟨f, e1, -, -⟩ := DataW.trod_int Try.underlying2 h1
      obtain ⟨b, e2, -, s2⟩ := DataW.trod_string Try.underlying9 h2
      obtain ⟨c, e3, -, -⟩ := DataW.trod_int Try.underlying2 h3
      obtain ⟨u, e4, -, -⟩ := DataW.trod_int Try.underlying2 h4
      simp at e0 e1 e2 e3 e4
      subst e0 e1 e2 e3 e4
      exact ⟨⟨s, f, b, c, u⟩, rfl, s0, s2⟩
set_option maxRecDepth 100000 in
theorem open_items {H : Type} {enc : TypeId × Value → H} {W : World} {r : Reach} {b0 : Nat} {v : Value} {d : DataW H} {p : List MemPlace} (hw : Value.okWide Try.prog W r b0 61 v) (h : DataW.Trod enc Try.prog W 0 (fun _ => true) true 61 v d p) :
    ∃ L, Rd encLi W v L ∧ Lo L := by
  obtain ⟨a, len, cap, rfl⟩ := okWide_slice Try.underlying61 hw
  obtain ⟨m, hm⟩ := h
  have : Inhabited It := ⟨It.zero⟩
  exact rd_of_trodK encLi (fun i => i.N.size ≤ 9223372036854775807 ∧ i.B.size ≤ 9223372036854775807) (n := m) Try.underlying61 cellsLi (fun m cs y hy => ic_of_trod hy) (by simpa [Value.cells] using hm)
set_option maxRecDepth 100000 in
theorem open_item {H : Type} {enc : TypeId × Value → H} {W : World} {r : Reach} {b0 : Nat} {v : Value} {d : DataW H} {p : List MemPlace} (hw : Value.okWide Try.prog W r b0 110 v) (h : DataW.Trod enc Try.prog W 0 (fun _ => true) true 110 v d p) :
    ∃ (N : ByteArray) (F : Int) (B : ByteArray) (C U : Int), v = .agg #[.string N, .int .i64 F, .string B, .int .i64 C, .int .i64 U] ∧ N.size ≤ 9223372036854775807 ∧ B.size ≤ 9223372036854775807 := by
  obtain ⟨cs, rfl, hsz⟩ := okWide_struct Try.underlying110 hw
  obtain ⟨m, hm⟩ := h
  have hm' : DataW.trod enc Try.prog W 0 (fun _ => true) true m 110 cs.toList = some (d, p) := by simpa [Value.cells] using hm
  obtain ⟨i, e, h1, h2⟩ := ic_of_trod hm'
  refine ⟨i.N, i.F, i.B, i.C, i.U, ?_, h1, h2⟩
  have e2 : cs = #[.string i.N, .int .i64 i.F, .string i.B, .int .i64 i.C, .int .i64 i.U] := by rw [← Array.toArray_toList (xs := cs), e]; rfl
  rw [e2]
end Go.Proofs.Ytmnjmghlkiljhaa.rg
/- Outlives of both. -/
namespace Go.Proofs.Ytmnjmghlkiljhaa.rg
open Go.ChangeShapes Go.WideShapes Go.ChangeAt Go.RowKit
open Go.Proofs.Ytmnjmghlkiljhaa.ce Go.Proofs.Ytmnjmghlkiljhaa.ro
set_option linter.unusedVariables false

set_option maxRecDepth 10000 in
set_option maxHeartbeats 1000000 in
theorem specOutlives_any (N B : ByteArray) (F C U : Int) (N2 B2 : ByteArray) (F2 C2 U2 : Int) (y : Bool) (hy : Hid (outB ⟨N, F, B, C, U⟩ ⟨N2, F2, B2, C2, U2⟩ = y)) (hN : N.size ≤ 9223372036854775807) (hB0 : B.size ≤ 9223372036854775807) (hN2 : N2.size ≤ 9223372036854775807) (hB02 : B2.size ≤ 9223372036854775807) (w : World) :
    Calls Try.prog 35 #[.agg #[.string N, .int .i64 F, .string B, .int .i64 C, .int .i64 U], .agg #[.string N2, .int .i64 F2, .string B2, .int .i64 C2, .int .i64 U2]] w fun e w' => e = .returned (.bool y) ∧ Below w.heap.size w w' := by
  have h := hy.out
  clear hy
  unfold outB at h
  obtain ⟨p, hp⟩ := hid_ex (itemB ⟨N, F, B, C, U⟩)
  obtain ⟨q, hq⟩ := hid_ex (itemB ⟨N2, F2, B2, C2, U2⟩)
  obtain ⟨v, hv⟩ := hid_ex (overB ⟨N2, F2, B2, C2, U2⟩ U)
  have hv' := hv.out
  unfold overB at hv'
  rw [hp.out, hq.out] at h
  dsimp only at h hv'
  cases p
  · have hy : y = false := by simpa using h.symm
    subst hy
    clear h hv'
    go_enter Try.func35, Try.ntmps35
    have mk1 : Hid True := trivial
    have mk2 : Hid True := trivial
    have mk3 : Hid True := trivial
    go_wp2_with (first | (clear mk1; refine wpList_box_v rfl 53 _ rfl [.string N, .int .i64 F, .string B, .int .i64 C, .int .i64 U] rfl ?_; intro b2 w1 hb2 hwb2 hB1 c2; have hz1 : w.heap.size ≤ w1.heap.size := hB1.size; have hB := hB1; have hzw := hB.size; obtain ⟨c20, c21, c22, c23, c24⟩ := cells5 c2) | (clear mk2; refine wpList_box_v rfl 53 _ rfl [.string N2, .int .i64 F2, .string B2, .int .i64 C2, .int .i64 U2] rfl ?_; intro b3 w2 hb3 hwb3 hB2 c3; have hz2 : w1.heap.size ≤ w2.heap.size := hB2.size; replace c2 := vblk_grow c2 hB2; replace hB := hB.trans (hB2.mono (by omega)); replace hzw := hB.size; clear c20 c21 c22 c23 c24; obtain ⟨c20, c21, c22, c23, c24⟩ := cells5 c2; obtain ⟨c30, c31, c32, c33, c34⟩ := cells5 c3) | (clear mk3; go_at_call 81; refine (specItemOk_any N B F C U false hp (by omega) (by omega) _).mono ?_; rintro er w3 ⟨rfl, hB3⟩; have hz3 : w2.heap.size ≤ w3.heap.size := hB3.size; replace c2 := vblk_grow c2 hB3; replace c3 := vblk_grow c3 hB3; replace hB := hB.trans (hB3.mono (by omega)); replace hzw := hB.size; clear c20 c21 c22 c23 c24; obtain ⟨c20, c21, c22, c23, c24⟩ := cells5 c2; clear c30 c31 c32 c33 c34; obtain ⟨c30, c31, c32, c33, c34⟩ := cells5 c3) | (fail))
    go_ret
    exact ⟨(by first | rfl | (simp; done)), hB⟩
  cases q
  · have hy : y = false := by simpa using h.symm
    subst hy
    clear h hv'
    go_enter Try.func35, Try.ntmps35
    have mk1 : Hid True := trivial
    have mk2 : Hid True := trivial
    have mk3 : Hid True := trivial
    have mk4 : Hid True := trivial
    go_wp2_with (first | (clear mk1; refine wpList_box_v rfl 53 _ rfl [.string N, .int .i64 F, .string B, .int .i64 C, .int .i64 U] rfl ?_; intro b2 w1 hb2 hwb2 hB1 c2; have hz1 : w.heap.size ≤ w1.heap.size := hB1.size; have hB := hB1; have hzw := hB.size; obtain ⟨c20, c21, c22, c23, c24⟩ := cells5 c2) | (clear mk2; refine wpList_box_v rfl 53 _ rfl [.string N2, .int .i64 F2, .string B2, .int .i64 C2, .int .i64 U2] rfl ?_; intro b3 w2 hb3 hwb3 hB2 c3; have hz2 : w1.heap.size ≤ w2.heap.size := hB2.size; replace c2 := vblk_grow c2 hB2; replace hB := hB.trans (hB2.mono (by omega)); replace hzw := hB.size; clear c20 c21 c22 c23 c24; obtain ⟨c20, c21, c22, c23, c24⟩ := cells5 c2; obtain ⟨c30, c31, c32, c33, c34⟩ := cells5 c3) | (clear mk3; go_at_call 81; refine (specItemOk_any N B F C U true hp (by omega) (by omega) _).mono ?_; rintro er w3 ⟨rfl, hB3⟩; have hz3 : w2.heap.size ≤ w3.heap.size := hB3.size; replace c2 := vblk_grow c2 hB3; replace c3 := vblk_grow c3 hB3; replace hB := hB.trans (hB3.mono (by omega)); replace hzw := hB.size; clear c20 c21 c22 c23 c24; obtain ⟨c20, c21, c22, c23, c24⟩ := cells5 c2; clear c30 c31 c32 c33 c34; obtain ⟨c30, c31, c32, c33, c34⟩ := cells5 c3) | (clear mk4; go_at_call 81; refine (specItemOk_any N2 B2 F2 C2 U2 false hq (by omega) (by omega) _).mono ?_; rintro er w4 ⟨rfl, hB4⟩; have hz4 : w3.heap.size ≤ w4.heap.size := hB4.size; replace c2 := vblk_grow c2 hB4; replace c3 := vblk_grow c3 hB4; replace hB := hB.trans (hB4.mono (by omega)); replace hzw := hB.size; clear c20 c21 c22 c23 c24; obtain ⟨c20, c21, c22, c23, c24⟩ := cells5 c2; clear c30 c31 c32 c33 c34; obtain ⟨c30, c31, c32, c33, c34⟩ := cells5 c3) | (fail))
    go_ret
    exact ⟨(by first | rfl | (simp; done)), hB⟩
  by_cases hu : U = 0
  · have hb : (U == 0) = true := by simpa using hu
    have hy : y = true := by rw [← h]; simp [hu]
    subst hy
    clear h hv' hu
    go_enter Try.func35, Try.ntmps35
    have mk1 : Hid True := trivial
    have mk2 : Hid True := trivial
    have mk3 : Hid True := trivial
    have mk4 : Hid True := trivial
    go_wp2_with (first | (clear mk1; refine wpList_box_v rfl 53 _ rfl [.string N, .int .i64 F, .string B, .int .i64 C, .int .i64 U] rfl ?_; intro b2 w1 hb2 hwb2 hB1 c2; have hz1 : w.heap.size ≤ w1.heap.size := hB1.size; have hB := hB1; have hzw := hB.size; obtain ⟨c20, c21, c22, c23, c24⟩ := cells5 c2) | (clear mk2; refine wpList_box_v rfl 53 _ rfl [.string N2, .int .i64 F2, .string B2, .int .i64 C2, .int .i64 U2] rfl ?_; intro b3 w2 hb3 hwb3 hB2 c3; have hz2 : w1.heap.size ≤ w2.heap.size := hB2.size; replace c2 := vblk_grow c2 hB2; replace hB := hB.trans (hB2.mono (by omega)); replace hzw := hB.size; clear c20 c21 c22 c23 c24; obtain ⟨c20, c21, c22, c23, c24⟩ := cells5 c2; obtain ⟨c30, c31, c32, c33, c34⟩ := cells5 c3) | (clear mk3; go_at_call 81; refine (specItemOk_any N B F C U true hp (by omega) (by omega) _).mono ?_; rintro er w3 ⟨rfl, hB3⟩; have hz3 : w2.heap.size ≤ w3.heap.size := hB3.size; replace c2 := vblk_grow c2 hB3; replace c3 := vblk_grow c3 hB3; replace hB := hB.trans (hB3.mono (by omega)); replace hzw := hB.size; clear c20 c21 c22 c23 c24; obtain ⟨c20, c21, c22, c23, c24⟩ := cells5 c2; clear c30 c31 c32 c33 c34; obtain ⟨c30, c31, c32, c33, c34⟩ := cells5 c3) | (clear mk4; go_at_call 81; refine (specItemOk_any N2 B2 F2 C2 U2 true hq (by omega) (by omega) _).mono ?_; rintro er w4 ⟨rfl, hB4⟩; have hz4 : w3.heap.size ≤ w4.heap.size := hB4.size; replace c2 := vblk_grow c2 hB4; replace c3 := vblk_grow c3 hB4; replace hB := hB.trans (hB4.mono (by omega)); replace hzw := hB.size; clear c20 c21 c22 c23 c24; obtain ⟨c20, c21, c22, c23, c24⟩ := cells5 c2; clear c30 c31 c32 c33 c34; obtain ⟨c30, c31, c32, c33, c34⟩ := cells5 c3) | (fail))
    go_ret
    exact ⟨(by first | rfl | (simp; done)), hB⟩
  have hb : (U == 0) = false := by simpa using hu
  by_cases hu2 : U2 = 0
  · have hb2 : (U2 != 0) = false := by simp [hu2]
    have hy : y = false := by rw [← h]; simp [hu, hu2]
    have hvv : v = false := by rw [← hv']; simp [hu2]
    subst hy hvv
    clear h hv' hu hu2
    go_enter Try.func35, Try.ntmps35
    have mk1 : Hid True := trivial
    have mk2 : Hid True := trivial
    have mk3 : Hid True := trivial
    have mk4 : Hid True := trivial
    go_wp2_with (first | (clear mk1; refine wpList_box_v rfl 53 _ rfl [.string N, .int .i64 F, .string B, .int .i64 C, .int .i64 U] rfl ?_; intro b2 w1 hb2 hwb2 hB1 c2; have hz1 : w.heap.size ≤ w1.heap.size := hB1.size; have hB := hB1; have hzw := hB.size; obtain ⟨c20, c21, c22, c23, c24⟩ := cells5 c2) | (clear mk2; refine wpList_box_v rfl 53 _ rfl [.string N2, .int .i64 F2, .string B2, .int .i64 C2, .int .i64 U2] rfl ?_; intro b3 w2 hb3 hwb3 hB2 c3; have hz2 : w1.heap.size ≤ w2.heap.size := hB2.size; replace c2 := vblk_grow c2 hB2; replace hB := hB.trans (hB2.mono (by omega)); replace hzw := hB.size; clear c20 c21 c22 c23 c24; obtain ⟨c20, c21, c22, c23, c24⟩ := cells5 c2; obtain ⟨c30, c31, c32, c33, c34⟩ := cells5 c3) | (clear mk3; go_at_call 81; refine (specItemOk_any N B F C U true hp (by omega) (by omega) _).mono ?_; rintro er w3 ⟨rfl, hB3⟩; have hz3 : w2.heap.size ≤ w3.heap.size := hB3.size; replace c2 := vblk_grow c2 hB3; replace c3 := vblk_grow c3 hB3; replace hB := hB.trans (hB3.mono (by omega)); replace hzw := hB.size; clear c20 c21 c22 c23 c24; obtain ⟨c20, c21, c22, c23, c24⟩ := cells5 c2; clear c30 c31 c32 c33 c34; obtain ⟨c30, c31, c32, c33, c34⟩ := cells5 c3) | (clear mk4; go_at_call 81; refine (specItemOk_any N2 B2 F2 C2 U2 true hq (by omega) (by omega) _).mono ?_; rintro er w4 ⟨rfl, hB4⟩; have hz4 : w3.heap.size ≤ w4.heap.size := hB4.size; replace c2 := vblk_grow c2 hB4; replace c3 := vblk_grow c3 hB4; replace hB := hB.trans (hB4.mono (by omega)); replace hzw := hB.size; clear c20 c21 c22 c23 c24; obtain ⟨c20, c21, c22, c23, c24⟩ := cells5 c2; clear c30 c31 c32 c33 c34; obtain ⟨c30, c31, c32, c33, c34⟩ := cells5 c3) | (fail))
    go_ret
    exact ⟨(by first | rfl | (simp; done)), hB⟩
  have hb2 : (U2 != 0) = true := by simpa using hu2
  by_cases hle : U2 ≤ U
  · have hy : y = true := by rw [← h]; simp [hu, hu2, hle]
    have hvv : v = true := by rw [← hv']; simp [hu2, hle]
    subst hy hvv
    clear h hv' hu hu2
    have hge : decide (U ≥ U2) = true := by simpa using hle
    go_enter Try.func35, Try.ntmps35
    have mk1 : Hid True := trivial
    have mk2 : Hid True := trivial
    have mk3 : Hid True := trivial
    have mk4 : Hid True := trivial
    go_wp2_with (first | (clear mk1; refine wpList_box_v rfl 53 _ rfl [.string N, .int .i64 F, .string B, .int .i64 C, .int .i64 U] rfl ?_; intro b2 w1 hb2 hwb2 hB1 c2; have hz1 : w.heap.size ≤ w1.heap.size := hB1.size; have hB := hB1; have hzw := hB.size; obtain ⟨c20, c21, c22, c23, c24⟩ := cells5 c2) | (clear mk2; refine wpList_box_v rfl 53 _ rfl [.string N2, .int .i64 F2, .string B2, .int .i64 C2, .int .i64 U2] rfl ?_; intro b3 w2 hb3 hwb3 hB2 c3; have hz2 : w1.heap.size ≤ w2.heap.size := hB2.size; replace c2 := vblk_grow c2 hB2; replace hB := hB.trans (hB2.mono (by omega)); replace hzw := hB.size; clear c20 c21 c22 c23 c24; obtain ⟨c20, c21, c22, c23, c24⟩ := cells5 c2; obtain ⟨c30, c31, c32, c33, c34⟩ := cells5 c3) | (clear mk3; go_at_call 81; refine (specItemOk_any N B F C U true hp (by omega) (by omega) _).mono ?_; rintro er w3 ⟨rfl, hB3⟩; have hz3 : w2.heap.size ≤ w3.heap.size := hB3.size; replace c2 := vblk_grow c2 hB3; replace c3 := vblk_grow c3 hB3; replace hB := hB.trans (hB3.mono (by omega)); replace hzw := hB.size; clear c20 c21 c22 c23 c24; obtain ⟨c20, c21, c22, c23, c24⟩ := cells5 c2; clear c30 c31 c32 c33 c34; obtain ⟨c30, c31, c32, c33, c34⟩ := cells5 c3) | (clear mk4; go_at_call 81; refine (specItemOk_any N2 B2 F2 C2 U2 true hq (by omega) (by omega) _).mono ?_; rintro er w4 ⟨rfl, hB4⟩; have hz4 : w3.heap.size ≤ w4.heap.size := hB4.size; replace c2 := vblk_grow c2 hB4; replace c3 := vblk_grow c3 hB4; replace hB := hB.trans (hB4.mono (by omega)); replace hzw := hB.size; clear c20 c21 c22 c23 c24; obtain ⟨c20, c21, c22, c23, c24⟩ := cells5 c2; clear c30 c31 c32 c33 c34; obtain ⟨c30, c31, c32, c33, c34⟩ := cells5 c3) | (fail))
    go_ret
    exact ⟨(by first | rfl | (simp; done)), hB⟩
  · have hy : y = false := by rw [← h]; simp [hu, hu2, hle]
    have hvv : v = false := by rw [← hv']; simp [hle]
    subst hy hvv
    clear h hv' hu hu2
    have hge : decide (U ≥ U2) = false := by simpa using hle
    go_enter Try.func35, Try.ntmps35
    have mk1 : Hid True := trivial
    have mk2 : Hid True := trivial
    have mk3 : Hid True := trivial
    have mk4 : Hid True := trivial
    go_wp2_with (first | (clear mk1; refine wpList_box_v rfl 53 _ rfl [.string N, .int .i64 F, .string B, .int .i64 C, .int .i64 U] rfl ?_; intro b2 w1 hb2 hwb2 hB1 c2; have hz1 : w.heap.size ≤ w1.heap.size := hB1.size; have hB := hB1; have hzw := hB.size; obtain ⟨c20, c21, c22, c23, c24⟩ := cells5 c2) | (clear mk2; refine wpList_box_v rfl 53 _ rfl [.string N2, .int .i64 F2, .string B2, .int .i64 C2, .int .i64 U2] rfl ?_; intro b3 w2 hb3 hwb3 hB2 c3; have hz2 : w1.heap.size ≤ w2.heap.size := hB2.size; replace c2 := vblk_grow c2 hB2; replace hB := hB.trans (hB2.mono (by omega)); replace hzw := hB.size; clear c20 c21 c22 c23 c24; obtain ⟨c20, c21, c22, c23, c24⟩ := cells5 c2; obtain ⟨c30, c31, c32, c33, c34⟩ := cells5 c3) | (clear mk3; go_at_call 81; refine (specItemOk_any N B F C U true hp (by omega) (by omega) _).mono ?_; rintro er w3 ⟨rfl, hB3⟩; have hz3 : w2.heap.size ≤ w3.heap.size := hB3.size; replace c2 := vblk_grow c2 hB3; replace c3 := vblk_grow c3 hB3; replace hB := hB.trans (hB3.mono (by omega)); replace hzw := hB.size; clear c20 c21 c22 c23 c24; obtain ⟨c20, c21, c22, c23, c24⟩ := cells5 c2; clear c30 c31 c32 c33 c34; obtain ⟨c30, c31, c32, c33, c34⟩ := cells5 c3) | (clear mk4; go_at_call 81; refine (specItemOk_any N2 B2 F2 C2 U2 true hq (by omega) (by omega) _).mono ?_; rintro er w4 ⟨rfl, hB4⟩; have hz4 : w3.heap.size ≤ w4.heap.size := hB4.size; replace c2 := vblk_grow c2 hB4; replace c3 := vblk_grow c3 hB4; replace hB := hB.trans (hB4.mono (by omega)); replace hzw := hB.size; clear c20 c21 c22 c23 c24; obtain ⟨c20, c21, c22, c23, c24⟩ := cells5 c2; clear c30 c31 c32 c33 c34; obtain ⟨c30, c31, c32, c33, c34⟩ := cells5 c3) | (fail))
    go_ret
    exact ⟨(by first | rfl | (simp; done)), hB⟩

set_option maxRecDepth 10000 in
set_option maxHeartbeats 1000000 in
theorem implOutlives_any (N B : ByteArray) (F C U : Int) (N2 B2 : ByteArray) (F2 C2 U2 : Int) (y : Bool) (hy : Hid (outB ⟨N, F, B, C, U⟩ ⟨N2, F2, B2, C2, U2⟩ = y)) (hN : N.size ≤ 9223372036854775807) (hB0 : B.size ≤ 9223372036854775807) (hN2 : N2.size ≤ 9223372036854775807) (hB02 : B2.size ≤ 9223372036854775807) (w : World) :
    Calls Try.prog 34 #[.agg #[.string N, .int .i64 F, .string B, .int .i64 C, .int .i64 U], .agg #[.string N2, .int .i64 F2, .string B2, .int .i64 C2, .int .i64 U2]] w fun e w' => e = .returned (.bool y) ∧ Below w.heap.size w w' := by
  have h := hy.out
  clear hy
  unfold outB at h
  obtain ⟨p, hp⟩ := hid_ex (itemB ⟨N, F, B, C, U⟩)
  obtain ⟨q, hq⟩ := hid_ex (itemB ⟨N2, F2, B2, C2, U2⟩)
  obtain ⟨v, hv⟩ := hid_ex (overB ⟨N2, F2, B2, C2, U2⟩ U)
  have hv' := hv.out
  unfold overB at hv'
  rw [hp.out, hq.out] at h
  dsimp only at h hv'
  cases p
  · have hy : y = false := by simpa using h.symm
    subst hy
    clear h hv'
    go_enter Try.func34, Try.ntmps34
    have mk1 : Hid True := trivial
    have mk2 : Hid True := trivial
    have mk3 : Hid True := trivial
    go_wp2_with (first | (clear mk1; refine wpList_box_v rfl 53 _ rfl [.string N, .int .i64 F, .string B, .int .i64 C, .int .i64 U] rfl ?_; intro b2 w1 hb2 hwb2 hB1 c2; have hz1 : w.heap.size ≤ w1.heap.size := hB1.size; have hB := hB1; have hzw := hB.size; obtain ⟨c20, c21, c22, c23, c24⟩ := cells5 c2) | (clear mk2; refine wpList_box_v rfl 53 _ rfl [.string N2, .int .i64 F2, .string B2, .int .i64 C2, .int .i64 U2] rfl ?_; intro b3 w2 hb3 hwb3 hB2 c3; have hz2 : w1.heap.size ≤ w2.heap.size := hB2.size; replace c2 := vblk_grow c2 hB2; replace hB := hB.trans (hB2.mono (by omega)); replace hzw := hB.size; clear c20 c21 c22 c23 c24; obtain ⟨c20, c21, c22, c23, c24⟩ := cells5 c2; obtain ⟨c30, c31, c32, c33, c34⟩ := cells5 c3) | (clear mk3; go_at_call 79; refine (implItemOk_any N B F C U false hp (by omega) (by omega) _).mono ?_; rintro er w3 ⟨rfl, hB3⟩; have hz3 : w2.heap.size ≤ w3.heap.size := hB3.size; replace c2 := vblk_grow c2 hB3; replace c3 := vblk_grow c3 hB3; replace hB := hB.trans (hB3.mono (by omega)); replace hzw := hB.size; clear c20 c21 c22 c23 c24; obtain ⟨c20, c21, c22, c23, c24⟩ := cells5 c2; clear c30 c31 c32 c33 c34; obtain ⟨c30, c31, c32, c33, c34⟩ := cells5 c3) | (fail))
    go_ret
    exact ⟨(by first | rfl | (simp; done)), hB⟩
  cases q
  · have hy : y = false := by simpa using h.symm
    subst hy
    clear h hv'
    go_enter Try.func34, Try.ntmps34
    have mk1 : Hid True := trivial
    have mk2 : Hid True := trivial
    have mk3 : Hid True := trivial
    have mk4 : Hid True := trivial
    go_wp2_with (first | (clear mk1; refine wpList_box_v rfl 53 _ rfl [.string N, .int .i64 F, .string B, .int .i64 C, .int .i64 U] rfl ?_; intro b2 w1 hb2 hwb2 hB1 c2; have hz1 : w.heap.size ≤ w1.heap.size := hB1.size; have hB := hB1; have hzw := hB.size; obtain ⟨c20, c21, c22, c23, c24⟩ := cells5 c2) | (clear mk2; refine wpList_box_v rfl 53 _ rfl [.string N2, .int .i64 F2, .string B2, .int .i64 C2, .int .i64 U2] rfl ?_; intro b3 w2 hb3 hwb3 hB2 c3; have hz2 : w1.heap.size ≤ w2.heap.size := hB2.size; replace c2 := vblk_grow c2 hB2; replace hB := hB.trans (hB2.mono (by omega)); replace hzw := hB.size; clear c20 c21 c22 c23 c24; obtain ⟨c20, c21, c22, c23, c24⟩ := cells5 c2; obtain ⟨c30, c31, c32, c33, c34⟩ := cells5 c3) | (clear mk3; go_at_call 79; refine (implItemOk_any N B F C U true hp (by omega) (by omega) _).mono ?_; rintro er w3 ⟨rfl, hB3⟩; have hz3 : w2.heap.size ≤ w3.heap.size := hB3.size; replace c2 := vblk_grow c2 hB3; replace c3 := vblk_grow c3 hB3; replace hB := hB.trans (hB3.mono (by omega)); replace hzw := hB.size; clear c20 c21 c22 c23 c24; obtain ⟨c20, c21, c22, c23, c24⟩ := cells5 c2; clear c30 c31 c32 c33 c34; obtain ⟨c30, c31, c32, c33, c34⟩ := cells5 c3) | (clear mk4; go_at_call 79; refine (implItemOk_any N2 B2 F2 C2 U2 false hq (by omega) (by omega) _).mono ?_; rintro er w4 ⟨rfl, hB4⟩; have hz4 : w3.heap.size ≤ w4.heap.size := hB4.size; replace c2 := vblk_grow c2 hB4; replace c3 := vblk_grow c3 hB4; replace hB := hB.trans (hB4.mono (by omega)); replace hzw := hB.size; clear c20 c21 c22 c23 c24; obtain ⟨c20, c21, c22, c23, c24⟩ := cells5 c2; clear c30 c31 c32 c33 c34; obtain ⟨c30, c31, c32, c33, c34⟩ := cells5 c3) | (fail))
    go_ret
    exact ⟨(by first | rfl | (simp; done)), hB⟩
  by_cases hu : U = 0
  · have hb : (U == 0) = true := by simpa using hu
    have hy : y = true := by rw [← h]; simp [hu]
    subst hy
    clear h hv' hu
    go_enter Try.func34, Try.ntmps34
    have mk1 : Hid True := trivial
    have mk2 : Hid True := trivial
    have mk3 : Hid True := trivial
    have mk4 : Hid True := trivial
    go_wp2_with (first | (clear mk1; refine wpList_box_v rfl 53 _ rfl [.string N, .int .i64 F, .string B, .int .i64 C, .int .i64 U] rfl ?_; intro b2 w1 hb2 hwb2 hB1 c2; have hz1 : w.heap.size ≤ w1.heap.size := hB1.size; have hB := hB1; have hzw := hB.size; obtain ⟨c20, c21, c22, c23, c24⟩ := cells5 c2) | (clear mk2; refine wpList_box_v rfl 53 _ rfl [.string N2, .int .i64 F2, .string B2, .int .i64 C2, .int .i64 U2] rfl ?_; intro b3 w2 hb3 hwb3 hB2 c3; have hz2 : w1.heap.size ≤ w2.heap.size := hB2.size; replace c2 := vblk_grow c2 hB2; replace hB := hB.trans (hB2.mono (by omega)); replace hzw := hB.size; clear c20 c21 c22 c23 c24; obtain ⟨c20, c21, c22, c23, c24⟩ := cells5 c2; obtain ⟨c30, c31, c32, c33, c34⟩ := cells5 c3) | (clear mk3; go_at_call 79; refine (implItemOk_any N B F C U true hp (by omega) (by omega) _).mono ?_; rintro er w3 ⟨rfl, hB3⟩; have hz3 : w2.heap.size ≤ w3.heap.size := hB3.size; replace c2 := vblk_grow c2 hB3; replace c3 := vblk_grow c3 hB3; replace hB := hB.trans (hB3.mono (by omega)); replace hzw := hB.size; clear c20 c21 c22 c23 c24; obtain ⟨c20, c21, c22, c23, c24⟩ := cells5 c2; clear c30 c31 c32 c33 c34; obtain ⟨c30, c31, c32, c33, c34⟩ := cells5 c3) | (clear mk4; go_at_call 79; refine (implItemOk_any N2 B2 F2 C2 U2 true hq (by omega) (by omega) _).mono ?_; rintro er w4 ⟨rfl, hB4⟩; have hz4 : w3.heap.size ≤ w4.heap.size := hB4.size; replace c2 := vblk_grow c2 hB4; replace c3 := vblk_grow c3 hB4; replace hB := hB.trans (hB4.mono (by omega)); replace hzw := hB.size; clear c20 c21 c22 c23 c24; obtain ⟨c20, c21, c22, c23, c24⟩ := cells5 c2; clear c30 c31 c32 c33 c34; obtain ⟨c30, c31, c32, c33, c34⟩ := cells5 c3) | (fail))
    go_ret
    exact ⟨(by first | rfl | (simp; done)), hB⟩
  have hb : (U == 0) = false := by simpa using hu
  by_cases hu2 : U2 = 0
  · have hb2 : (U2 != 0) = false := by simp [hu2]
    have hy : y = false := by rw [← h]; simp [hu, hu2]
    have hvv : v = false := by rw [← hv']; simp [hu2]
    subst hy hvv
    clear h hv' hu hu2
    go_enter Try.func34, Try.ntmps34
    have mk1 : Hid True := trivial
    have mk2 : Hid True := trivial
    have mk3 : Hid True := trivial
    have mk4 : Hid True := trivial
    have mk5 : Hid True := trivial
    go_wp2_with (first | (clear mk1; refine wpList_box_v rfl 53 _ rfl [.string N, .int .i64 F, .string B, .int .i64 C, .int .i64 U] rfl ?_; intro b2 w1 hb2 hwb2 hB1 c2; have hz1 : w.heap.size ≤ w1.heap.size := hB1.size; have hB := hB1; have hzw := hB.size; obtain ⟨c20, c21, c22, c23, c24⟩ := cells5 c2) | (clear mk2; refine wpList_box_v rfl 53 _ rfl [.string N2, .int .i64 F2, .string B2, .int .i64 C2, .int .i64 U2] rfl ?_; intro b3 w2 hb3 hwb3 hB2 c3; have hz2 : w1.heap.size ≤ w2.heap.size := hB2.size; replace c2 := vblk_grow c2 hB2; replace hB := hB.trans (hB2.mono (by omega)); replace hzw := hB.size; clear c20 c21 c22 c23 c24; obtain ⟨c20, c21, c22, c23, c24⟩ := cells5 c2; obtain ⟨c30, c31, c32, c33, c34⟩ := cells5 c3) | (clear mk3; go_at_call 79; refine (implItemOk_any N B F C U true hp (by omega) (by omega) _).mono ?_; rintro er w3 ⟨rfl, hB3⟩; have hz3 : w2.heap.size ≤ w3.heap.size := hB3.size; replace c2 := vblk_grow c2 hB3; replace c3 := vblk_grow c3 hB3; replace hB := hB.trans (hB3.mono (by omega)); replace hzw := hB.size; clear c20 c21 c22 c23 c24; obtain ⟨c20, c21, c22, c23, c24⟩ := cells5 c2; clear c30 c31 c32 c33 c34; obtain ⟨c30, c31, c32, c33, c34⟩ := cells5 c3) | (clear mk4; go_at_call 79; refine (implItemOk_any N2 B2 F2 C2 U2 true hq (by omega) (by omega) _).mono ?_; rintro er w4 ⟨rfl, hB4⟩; have hz4 : w3.heap.size ≤ w4.heap.size := hB4.size; replace c2 := vblk_grow c2 hB4; replace c3 := vblk_grow c3 hB4; replace hB := hB.trans (hB4.mono (by omega)); replace hzw := hB.size; clear c20 c21 c22 c23 c24; obtain ⟨c20, c21, c22, c23, c24⟩ := cells5 c2; clear c30 c31 c32 c33 c34; obtain ⟨c30, c31, c32, c33, c34⟩ := cells5 c3) | (clear mk5; go_at_call 80; refine (implOverAt_any N2 B2 F2 C2 U2 U false hv _).mono ?_; rintro er w5 ⟨rfl, hB5⟩; have hz5 : w4.heap.size ≤ w5.heap.size := hB5.size; replace c2 := vblk_grow c2 hB5; replace c3 := vblk_grow c3 hB5; replace hB := hB.trans (hB5.mono (by omega)); replace hzw := hB.size; clear c20 c21 c22 c23 c24; obtain ⟨c20, c21, c22, c23, c24⟩ := cells5 c2; clear c30 c31 c32 c33 c34; obtain ⟨c30, c31, c32, c33, c34⟩ := cells5 c3) | (fail))
    go_ret
    exact ⟨(by first | rfl | (simp; done)), hB⟩
  have hb2 : (U2 != 0) = true := by simpa using hu2
  by_cases hle : U2 ≤ U
  · have hy : y = true := by rw [← h]; simp [hu, hu2, hle]
    have hvv : v = true := by rw [← hv']; simp [hu2, hle]
    subst hy hvv
    clear h hv' hu hu2
    have hge : decide (U ≥ U2) = true := by simpa using hle
    go_enter Try.func34, Try.ntmps34
    have mk1 : Hid True := trivial
    have mk2 : Hid True := trivial
    have mk3 : Hid True := trivial
    have mk4 : Hid True := trivial
    have mk5 : Hid True := trivial
    go_wp2_with (first | (clear mk1; refine wpList_box_v rfl 53 _ rfl [.string N, .int .i64 F, .string B, .int .i64 C, .int .i64 U] rfl ?_; intro b2 w1 hb2 hwb2 hB1 c2; have hz1 : w.heap.size ≤ w1.heap.size := hB1.size; have hB := hB1; have hzw := hB.size; obtain ⟨c20, c21, c22, c23, c24⟩ := cells5 c2) | (clear mk2; refine wpList_box_v rfl 53 _ rfl [.string N2, .int .i64 F2, .string B2, .int .i64 C2, .int .i64 U2] rfl ?_; intro b3 w2 hb3 hwb3 hB2 c3; have hz2 : w1.heap.size ≤ w2.heap.size := hB2.size; replace c2 := vblk_grow c2 hB2; replace hB := hB.trans (hB2.mono (by omega)); replace hzw := hB.size; clear c20 c21 c22 c23 c24; obtain ⟨c20, c21, c22, c23, c24⟩ := cells5 c2; obtain ⟨c30, c31, c32, c33, c34⟩ := cells5 c3) | (clear mk3; go_at_call 79; refine (implItemOk_any N B F C U true hp (by omega) (by omega) _).mono ?_; rintro er w3 ⟨rfl, hB3⟩; have hz3 : w2.heap.size ≤ w3.heap.size := hB3.size; replace c2 := vblk_grow c2 hB3; replace c3 := vblk_grow c3 hB3; replace hB := hB.trans (hB3.mono (by omega)); replace hzw := hB.size; clear c20 c21 c22 c23 c24; obtain ⟨c20, c21, c22, c23, c24⟩ := cells5 c2; clear c30 c31 c32 c33 c34; obtain ⟨c30, c31, c32, c33, c34⟩ := cells5 c3) | (clear mk4; go_at_call 79; refine (implItemOk_any N2 B2 F2 C2 U2 true hq (by omega) (by omega) _).mono ?_; rintro er w4 ⟨rfl, hB4⟩; have hz4 : w3.heap.size ≤ w4.heap.size := hB4.size; replace c2 := vblk_grow c2 hB4; replace c3 := vblk_grow c3 hB4; replace hB := hB.trans (hB4.mono (by omega)); replace hzw := hB.size; clear c20 c21 c22 c23 c24; obtain ⟨c20, c21, c22, c23, c24⟩ := cells5 c2; clear c30 c31 c32 c33 c34; obtain ⟨c30, c31, c32, c33, c34⟩ := cells5 c3) | (clear mk5; go_at_call 80; refine (implOverAt_any N2 B2 F2 C2 U2 U true hv _).mono ?_; rintro er w5 ⟨rfl, hB5⟩; have hz5 : w4.heap.size ≤ w5.heap.size := hB5.size; replace c2 := vblk_grow c2 hB5; replace c3 := vblk_grow c3 hB5; replace hB := hB.trans (hB5.mono (by omega)); replace hzw := hB.size; clear c20 c21 c22 c23 c24; obtain ⟨c20, c21, c22, c23, c24⟩ := cells5 c2; clear c30 c31 c32 c33 c34; obtain ⟨c30, c31, c32, c33, c34⟩ := cells5 c3) | (fail))
    go_ret
    exact ⟨(by first | rfl | (simp; done)), hB⟩
  · have hy : y = false := by rw [← h]; simp [hu, hu2, hle]
    have hvv : v = false := by rw [← hv']; simp [hle]
    subst hy hvv
    clear h hv' hu hu2
    have hge : decide (U ≥ U2) = false := by simpa using hle
    go_enter Try.func34, Try.ntmps34
    have mk1 : Hid True := trivial
    have mk2 : Hid True := trivial
    have mk3 : Hid True := trivial
    have mk4 : Hid True := trivial
    have mk5 : Hid True := trivial
    go_wp2_with (first | (clear mk1; refine wpList_box_v rfl 53 _ rfl [.string N, .int .i64 F, .string B, .int .i64 C, .int .i64 U] rfl ?_; intro b2 w1 hb2 hwb2 hB1 c2; have hz1 : w.heap.size ≤ w1.heap.size := hB1.size; have hB := hB1; have hzw := hB.size; obtain ⟨c20, c21, c22, c23, c24⟩ := cells5 c2) | (clear mk2; refine wpList_box_v rfl 53 _ rfl [.string N2, .int .i64 F2, .string B2, .int .i64 C2, .int .i64 U2] rfl ?_; intro b3 w2 hb3 hwb3 hB2 c3; have hz2 : w1.heap.size ≤ w2.heap.size := hB2.size; replace c2 := vblk_grow c2 hB2; replace hB := hB.trans (hB2.mono (by omega)); replace hzw := hB.size; clear c20 c21 c22 c23 c24; obtain ⟨c20, c21, c22, c23, c24⟩ := cells5 c2; obtain ⟨c30, c31, c32, c33, c34⟩ := cells5 c3) | (clear mk3; go_at_call 79; refine (implItemOk_any N B F C U true hp (by omega) (by omega) _).mono ?_; rintro er w3 ⟨rfl, hB3⟩; have hz3 : w2.heap.size ≤ w3.heap.size := hB3.size; replace c2 := vblk_grow c2 hB3; replace c3 := vblk_grow c3 hB3; replace hB := hB.trans (hB3.mono (by omega)); replace hzw := hB.size; clear c20 c21 c22 c23 c24; obtain ⟨c20, c21, c22, c23, c24⟩ := cells5 c2; clear c30 c31 c32 c33 c34; obtain ⟨c30, c31, c32, c33, c34⟩ := cells5 c3) | (clear mk4; go_at_call 79; refine (implItemOk_any N2 B2 F2 C2 U2 true hq (by omega) (by omega) _).mono ?_; rintro er w4 ⟨rfl, hB4⟩; have hz4 : w3.heap.size ≤ w4.heap.size := hB4.size; replace c2 := vblk_grow c2 hB4; replace c3 := vblk_grow c3 hB4; replace hB := hB.trans (hB4.mono (by omega)); replace hzw := hB.size; clear c20 c21 c22 c23 c24; obtain ⟨c20, c21, c22, c23, c24⟩ := cells5 c2; clear c30 c31 c32 c33 c34; obtain ⟨c30, c31, c32, c33, c34⟩ := cells5 c3) | (clear mk5; go_at_call 80; refine (implOverAt_any N2 B2 F2 C2 U2 U false hv _).mono ?_; rintro er w5 ⟨rfl, hB5⟩; have hz5 : w4.heap.size ≤ w5.heap.size := hB5.size; replace c2 := vblk_grow c2 hB5; replace c3 := vblk_grow c3 hB5; replace hB := hB.trans (hB5.mono (by omega)); replace hzw := hB.size; clear c20 c21 c22 c23 c24; obtain ⟨c20, c21, c22, c23, c24⟩ := cells5 c2; clear c30 c31 c32 c33 c34; obtain ⟨c30, c31, c32, c33, c34⟩ := cells5 c3) | (fail))
    go_ret
    exact ⟨(by first | rfl | (simp; done)), hB⟩
end Go.Proofs.Ytmnjmghlkiljhaa.rg
/- The laws' helper hasText. -/
namespace Go.Proofs.Ytmnjmghlkiljhaa.rg
open Go.ChangeShapes Go.WideShapes Go.ChangeAt Go.RowKit
open Go.Deep Go.Joins
open Go.Proofs.Ytmnjmghlkiljhaa.ce Go.Proofs.Ytmnjmghlkiljhaa.ro
set_option linter.unusedVariables false

theorem hasText_is (N : List ByteArray) (s : ByteArray) (v : Value) (y : Bool) (hy : Hid (y = true ↔ s ∈ N)) (w : World) (r : Rd encS w v N) :
    Calls Try.prog 24 #[v, .string s] w fun e w' => e = .returned (.bool y) ∧ w' = w := by
  have hl := r.len
  obtain ⟨a, cap, rfl⟩ := r.form
  have R : Hid (Rd encS w (.slice a N.length cap) N) := r
  clear r
  go_enter Try.func24, Try.ntmps24
  go_wp2
  go_loop [5] (fun p => ∃ i : Nat, i ≤ N.length ∧ p = .int .i64 i ∧ Hid (∀ j (h : j < N.length), j < i → N[j] ≠ s)) (fun p => N.length - (intOf p).toNat)
  case atStart => exact ⟨0, by omega, rfl, fun j h hj => by omega⟩
  case round =>
    obtain ⟨i, hi1, rfl, hno⟩ := hrel
    by_cases hlt : i < N.length
    · obtain ⟨b, off, rfl, hb, d0⟩ := rdS_cell R.out i hlt
      have hlt' : (i : Int) < (N.length : Int) := by omega
      by_cases he : N[i] = s
      · have ey : y = true := hy.out.2 (he ▸ List.getElem_mem hlt)
        rw [he] at d0
        have hbe : (s.toList == s.toList) = true := by simp
        subst ey
        clear he
        go_wp2
        go_ret
        exact ⟨rfl, rfl⟩
      · have hno2 : Hid (∀ j (h : j < N.length), j < i + 1 → N[j] ≠ s) := fun j h hj => by
          by_cases q : j = i
          · subst q; exact he
          · exact hno.out j h (by omega)
        obtain ⟨z, hz⟩ := hid_ex (N[i])
        rw [hz.out] at d0 he
        have hbe : (z.toList == s.toList) = false := by simpa using fun e => he (str_eq e)
        clear he
        go_wp2
        go_round
        case rel => exact ⟨i + 1, by omega, by go_num, hno2⟩
        case measure => simp [intOf]; omega
    · have hlt' : ¬ (i : Int) < (N.length : Int) := by omega
      have ey : y = false := by
        cases y with
        | false => rfl
        | true =>
          obtain ⟨j, hj, e⟩ := List.mem_iff_getElem.1 (hy.out.1 rfl)
          exact absurd e (hno.out j hj (by omega))
      subst ey
      go_wp2
      go_ret
      exact ⟨rfl, rfl⟩
end Go.Proofs.Ytmnjmghlkiljhaa.rg
/- FnDue's walk. -/
namespace Go.Proofs.Ytmnjmghlkiljhaa.lawDu
open Go.ChangeShapes Go.WideShapes Go.ChangeAt Go.RowKit
open Go.Deep Go.Joins
set_option linter.unusedSimpArgs false
open Go.Proofs.Ytmnjmghlkiljhaa.ce Go.Proofs.Ytmnjmghlkiljhaa.ro Go.Proofs.Ytmnjmghlkiljhaa.rg Go.Proofs.Ytmnjmghlkiljhaa.draw
set_option linter.unusedVariables false

theorem smk_of {b : List It} (h : ∀ x ∈ b, SmI x) : SmK b := fun x hx => ⟨by have := (h x hx).1; omega, by have := (h x hx).2; omega⟩
theorem at_of {b : List It} (h : BOk b) {x : It} (hx : x ∈ b) : ∃ k : Nat, ∃ hk : k < b.length, findI b x.N = k ∧ b[k] = x := by
  obtain ⟨k, hk, e⟩ := List.getElem_of_mem hx
  exact ⟨k, hk, by rw [← e]; exact findI_self h hk, e⟩
theorem rg_grow {w w' : World} {bk k : Nat} {v0 v1 v2 v3 v4 : Value} {q0 : w.cell? ⟨bk, k, none⟩ = some v0} {q1 : w.cell? ⟨bk, k + 1, none⟩ = some v1} {q2 : w.cell? ⟨bk, k + 2, none⟩ = some v2} {q3 : w.cell? ⟨bk, k + 3, none⟩ = some v3} {q4 : w.cell? ⟨bk, k + 4, none⟩ = some v4} (hb : bk < w.heap.size) (hB : Below w.heap.size w w') : w'.rangeAt bk k [v0, v1, v2, v3, v4] := fun j v hv => by
  have hj : j < 5 := (List.getElem?_eq_some_iff.1 hv).1
  rw [hB.cell (by exact hb)]
  rcases (by omega : j = 0 ∨ j = 1 ∨ j = 2 ∨ j = 3 ∨ j = 4) with rfl | rfl | rfl | rfl | rfl
  · cases hv; exact q0
  · cases hv; exact q1
  · cases hv; exact q2
  · cases hv; exact q3
  · cases hv; exact q4
set_option maxRecDepth 100000 in
set_option maxHeartbeats 16000000 in
theorem walk (a0 : Option Addr) (len cap : Nat) (w : World) (hlen : len ≤ 4096) (hcode0 : CodeAt w a0 len) :
    Calls Try.prog 4 #[.slice a0 len cap] w fun e w' => e = .returned (.bool true) ∧ Below w.heap.size w w' := by
  have HC : Hid (CodeAt w a0 len) := hcode0
  clear hcode0
  have hl' : ¬ (4096 : Int) < (len : Int) := by omega
  have hB : Below w.heap.size w w := Below.refl _ _
  have hzw := hB.size
  go_enter Try.func4, Try.ntmps4
  have mk1 : Hid True := trivial
  have mk2 : Hid True := trivial
  have mk3 : Hid True := trivial
  have mk4 : Hid True := trivial
  have mk5 : Hid True := trivial
  have mk6 : Hid True := trivial
  have mk7 : Hid True := trivial
  have mk8 : Hid True := trivial
  have mk9 : Hid True := trivial
  go_upto_region 7 with (first | (clear mk1; go_at_call 7; go_in) | (clear mk2; go_at_call 27; refine (drawDueBy_any _ _ _ _ HC.out).mono ?_; rintro er w1 ⟨vb, b, now, rfl, ⟨ob, sb, lb, hB1⟩⟩; have hz1 : w.heap.size ≤ w1.heap.size := hB1.size; replace hB := hB.trans (hB1.mono (by omega)); replace hzw := hB.size; have HSb : Hid (SmK b) := smk_of sb; clear sb; obtain ⟨ab, nb, kb, rfl⟩ := ob.slice; obtain ⟨J, hJ⟩ := hid_ex (duR b now)) | (clear mk3; go_at_call 28; refine (implDueBy_any b now _ _ ob.rd HSb.out).mono ?_; rintro er w2 ⟨vd, rfl, od, hB2⟩; have hz2 : w1.heap.size ≤ w2.heap.size := hB2.size; replace ob := ob.grow hB2; replace hB := hB.trans (hB2.mono (by omega)); replace hzw := hB.size; rw [hJ.out] at od; obtain ⟨ad, nd, kd, rfl⟩ := od.slice) | (clear mk4; go_at_call 29; refine (drawSoonestOf_any _ _ _ _ (codei_below HC.out hB)).mono ?_; rintro er w3 ⟨vq, q, rfl, ⟨oq, sq, lq, hB3⟩⟩; have hz3 : w2.heap.size ≤ w3.heap.size := hB3.size; replace ob := ob.grow hB3; replace od := od.grow hB3; replace hB := hB.trans (hB3.mono (by omega)); replace hzw := hB.size; have HSq : Hid (SmK q) := smk_of sq; clear sq; obtain ⟨aq, nq, kq, rfl⟩ := oq.slice; obtain ⟨z, hz⟩ := hid_ex (sooI q); have fz : (z != z) = false := (by simp)) | (clear mk5; go_at_call 30; refine (drawOutlives_any _ _ _ _ (codei_below HC.out hB)).mono ?_; rintro er w4 ⟨N, B, F, C, U, N2, B2, F2, C2, U2, rfl, zN, zB, zN2, zB2, hB4⟩; have hz4 : w3.heap.size ≤ w4.heap.size := hB4.size; replace ob := ob.grow hB4; replace od := od.grow hB4; replace oq := oq.grow hB4; replace hB := hB.trans (hB4.mono (by omega)); replace hzw := hB.size; obtain ⟨y, hy⟩ := hid_ex (outB ⟨N, F, B, C, U⟩ ⟨N2, F2, B2, C2, U2⟩); have fy : (y != y) = false := (by simp)) | (clear mk6; refine wpList_alloc_v rfl 53 rfl _ zeroIt ?_; intro b7 w5 hb7 hwb7 hB5 c7; have hz5 : w4.heap.size ≤ w5.heap.size := hB5.size; replace ob := ob.grow hB5; replace od := od.grow hB5; replace oq := oq.grow hB5; replace hB := hB.trans (hB5.mono (by omega)); replace hzw := hB.size) | (clear mk7; refine wpList_alloc_v rfl 53 rfl _ zeroIt ?_; intro b8 w6 hb8 hwb8 hB6 c8; have hz6 : w5.heap.size ≤ w6.heap.size := hB6.size; replace ob := ob.grow hB6; replace od := od.grow hB6; replace oq := oq.grow hB6; replace c7 := vblk_grow c7 hB6; replace hB := hB.trans (hB6.mono (by omega)); replace hzw := hB.size) | (clear mk8; refine wpList_store_v rfl 53 _ _ rfl b7 [.string N, .int .i64 F, .string B, .int .i64 C, .int .i64 U] rfl rfl sizeIt c7 rfl (by simp [Value.oneCell']) ?_; intro w7 hO7 c7x; have hz7 : w6.heap.size ≤ w7.heap.size := (Nat.le_of_eq hO7.1.symm); have hy7 : w7.heap.size ≤ w6.heap.size := (Nat.le_of_eq hO7.1); replace c8 := vblk_only c8 hO7 (by omega); replace hB := hB.trans (hO7.2.2 _ (by omega)); replace hzw := hB.size; replace ob := ob.keep fun g h1 h2 => hO7.2.1 g (by omega); replace od := od.keep fun g h1 h2 => hO7.2.1 g (by omega); replace oq := oq.keep fun g h1 h2 => hO7.2.1 g (by omega); clear c7; have c7 := c7x; clear c7x; obtain ⟨c70, c71, c72, c73, c74⟩ := cells5 c7) | (clear mk9; refine wpList_store_v rfl 53 _ _ rfl b8 [.string N2, .int .i64 F2, .string B2, .int .i64 C2, .int .i64 U2] rfl rfl sizeIt c8 rfl (by simp [Value.oneCell']) ?_; intro w8 hO8 c8x; have hz8 : w7.heap.size ≤ w8.heap.size := (Nat.le_of_eq hO8.1.symm); have hy8 : w8.heap.size ≤ w7.heap.size := (Nat.le_of_eq hO8.1); replace c7 := vblk_only c7 hO8 (by omega); replace hB := hB.trans (hO8.2.2 _ (by omega)); replace hzw := hB.size; clear c70 c71 c72 c73 c74; obtain ⟨c70, c71, c72, c73, c74⟩ := cells5 c7; replace ob := ob.keep fun g h1 h2 => hO8.2.1 g (by omega); replace od := od.keep fun g h1 h2 => hO8.2.1 g (by omega); replace oq := oq.keep fun g h1 h2 => hO8.2.1 g (by omega); clear c8; have c8 := c8x; clear c8x; obtain ⟨c80, c81, c82, c83, c84⟩ := cells5 c8) | (fail))
  have hBd : Below w8.heap.size w8 w8.drew := (Below.refl _ _).drew
  have hzd : w8.drew.heap.size ≤ w8.heap.size := Nat.le_refl _
  have hzd2 : w8.heap.size ≤ w8.drew.heap.size := Nat.le_refl _
  replace ob := ob.grow hBd
  replace od := od.grow hBd
  replace oq := oq.grow hBd
  replace c7 := vblk_grow c7 hBd
  clear c70 c71 c72 c73 c74
  obtain ⟨c70, c71, c72, c73, c74⟩ := cells5 c7
  replace c8 := vblk_grow c8 hBd
  clear c80 c81 c82 c83 c84
  obtain ⟨c80, c81, c82, c83, c84⟩ := cells5 c8
  replace hB := hB.trans (hBd.mono (by omega))
  replace hzw := hB.size
  have S1 : w8.drew.cell? ⟨b7, 0, none⟩ = some (.string N) ∧ w8.drew.cell? ⟨b7, 1, none⟩ = some (.int .i64 F) ∧ w8.drew.cell? ⟨b7, 2, none⟩ = some (.string B) ∧ w8.drew.cell? ⟨b7, 3, none⟩ = some (.int .i64 C) ∧ w8.drew.cell? ⟨b7, 4, none⟩ = some (.int .i64 U) ∧ w8.drew.cell? ⟨b8, 0, none⟩ = some (.string N2) ∧ w8.drew.cell? ⟨b8, 1, none⟩ = some (.int .i64 F2) ∧ w8.drew.cell? ⟨b8, 2, none⟩ = some (.string B2) ∧ w8.drew.cell? ⟨b8, 3, none⟩ = some (.int .i64 C2) ∧ w8.drew.cell? ⟨b8, 4, none⟩ = some (.int .i64 U2) := ⟨c70, c71, c72, c73, c74, c80, c81, c82, c83, c84⟩
  have mk10 : Hid True := trivial
  have mk11 : Hid True := trivial
  have mk12 : Hid True := trivial
  have mk13 : Hid True := trivial
  have mk14 : Hid True := trivial
  have mk15 : Hid True := trivial
  go_region_held3 (fun w' => w'.cell? ⟨b7, 0, none⟩ = some (.string N) ∧ w'.cell? ⟨b7, 1, none⟩ = some (.int .i64 F) ∧ w'.cell? ⟨b7, 2, none⟩ = some (.string B) ∧ w'.cell? ⟨b7, 3, none⟩ = some (.int .i64 C) ∧ w'.cell? ⟨b7, 4, none⟩ = some (.int .i64 U) ∧ w'.cell? ⟨b8, 0, none⟩ = some (.string N2) ∧ w'.cell? ⟨b8, 1, none⟩ = some (.int .i64 F2) ∧ w'.cell? ⟨b8, 2, none⟩ = some (.string B2) ∧ w'.cell? ⟨b8, 3, none⟩ = some (.int .i64 C2) ∧ w'.cell? ⟨b8, 4, none⟩ = some (.int .i64 U2)) (first | with_reducible assumption | with_reducible exact S1 | (fail)) (first | (clear mk10; go_at_call 31; refine (specDueBy_any b now _ _ ob.rd HSb.out).mono ?_; rintro er w9 ⟨vw, rfl, ow, hB9⟩; have hz9 : w8.drew.heap.size ≤ w9.heap.size := hB9.size; replace ob := ob.grow hB9; replace od := od.grow hB9; replace oq := oq.grow hB9; replace c7 := vblk_grow c7 hB9; replace c8 := vblk_grow c8 hB9; replace hB := hB.trans (hB9.mono (by omega)); replace hzw := hB.size; clear c70 c71 c72 c73 c74; obtain ⟨c70, c71, c72, c73, c74⟩ := cells5 c7; clear c80 c81 c82 c83 c84; obtain ⟨c80, c81, c82, c83, c84⟩ := cells5 c8; rw [hJ.out] at ow; obtain ⟨aw, nw, kw, rfl⟩ := ow.slice; have S2 : w9.cell? ⟨b7, 0, none⟩ = some (.string N) ∧ w9.cell? ⟨b7, 1, none⟩ = some (.int .i64 F) ∧ w9.cell? ⟨b7, 2, none⟩ = some (.string B) ∧ w9.cell? ⟨b7, 3, none⟩ = some (.int .i64 C) ∧ w9.cell? ⟨b7, 4, none⟩ = some (.int .i64 U) ∧ w9.cell? ⟨b8, 0, none⟩ = some (.string N2) ∧ w9.cell? ⟨b8, 1, none⟩ = some (.int .i64 F2) ∧ w9.cell? ⟨b8, 2, none⟩ = some (.string B2) ∧ w9.cell? ⟨b8, 3, none⟩ = some (.int .i64 C2) ∧ w9.cell? ⟨b8, 4, none⟩ = some (.int .i64 U2) := ⟨c70, c71, c72, c73, c74, c80, c81, c82, c83, c84⟩) | (clear mk11; go_at_call 20; refine (likeTexts_any J _ _ _ od.rd ow.rd).mono ?_; rintro er w10 ⟨rfl, hB10⟩; have hz10 : w9.heap.size ≤ w10.heap.size := hB10.size; replace ob := ob.grow hB10; replace od := od.grow hB10; replace oq := oq.grow hB10; replace ow := ow.grow hB10; replace c7 := vblk_grow c7 hB10; replace c8 := vblk_grow c8 hB10; replace hB := hB.trans (hB10.mono (by omega)); replace hzw := hB.size; clear c70 c71 c72 c73 c74; obtain ⟨c70, c71, c72, c73, c74⟩ := cells5 c7; clear c80 c81 c82 c83 c84; obtain ⟨c80, c81, c82, c83, c84⟩ := cells5 c8; have S3 : w10.cell? ⟨b7, 0, none⟩ = some (.string N) ∧ w10.cell? ⟨b7, 1, none⟩ = some (.int .i64 F) ∧ w10.cell? ⟨b7, 2, none⟩ = some (.string B) ∧ w10.cell? ⟨b7, 3, none⟩ = some (.int .i64 C) ∧ w10.cell? ⟨b7, 4, none⟩ = some (.int .i64 U) ∧ w10.cell? ⟨b8, 0, none⟩ = some (.string N2) ∧ w10.cell? ⟨b8, 1, none⟩ = some (.int .i64 F2) ∧ w10.cell? ⟨b8, 2, none⟩ = some (.string B2) ∧ w10.cell? ⟨b8, 3, none⟩ = some (.int .i64 C2) ∧ w10.cell? ⟨b8, 4, none⟩ = some (.int .i64 U2) := ⟨c70, c71, c72, c73, c74, c80, c81, c82, c83, c84⟩; clear ow) | (clear mk12; go_at_call 32; refine (implSoonestOf_any q _ _ oq.rd HSq.out).mono ?_; rintro er w11 ⟨he, hB11⟩; have hz11 : w10.heap.size ≤ w11.heap.size := hB11.size; replace ob := ob.grow hB11; replace od := od.grow hB11; replace oq := oq.grow hB11; replace c7 := vblk_grow c7 hB11; replace c8 := vblk_grow c8 hB11; replace hB := hB.trans (hB11.mono (by omega)); replace hzw := hB.size; clear c70 c71 c72 c73 c74; obtain ⟨c70, c71, c72, c73, c74⟩ := cells5 c7; clear c80 c81 c82 c83 c84; obtain ⟨c80, c81, c82, c83, c84⟩ := cells5 c8; rw [hz.out] at he; subst he; have S4 : w11.cell? ⟨b7, 0, none⟩ = some (.string N) ∧ w11.cell? ⟨b7, 1, none⟩ = some (.int .i64 F) ∧ w11.cell? ⟨b7, 2, none⟩ = some (.string B) ∧ w11.cell? ⟨b7, 3, none⟩ = some (.int .i64 C) ∧ w11.cell? ⟨b7, 4, none⟩ = some (.int .i64 U) ∧ w11.cell? ⟨b8, 0, none⟩ = some (.string N2) ∧ w11.cell? ⟨b8, 1, none⟩ = some (.int .i64 F2) ∧ w11.cell? ⟨b8, 2, none⟩ = some (.string B2) ∧ w11.cell? ⟨b8, 3, none⟩ = some (.int .i64 C2) ∧ w11.cell? ⟨b8, 4, none⟩ = some (.int .i64 U2) := ⟨c70, c71, c72, c73, c74, c80, c81, c82, c83, c84⟩) | (clear mk13; go_at_call 33; refine (specSoonestOf_any q _ _ oq.rd HSq.out).mono ?_; rintro er w12 ⟨he, hB12⟩; have hz12 : w11.heap.size ≤ w12.heap.size := hB12.size; replace ob := ob.grow hB12; replace od := od.grow hB12; replace oq := oq.grow hB12; replace c7 := vblk_grow c7 hB12; replace c8 := vblk_grow c8 hB12; replace hB := hB.trans (hB12.mono (by omega)); replace hzw := hB.size; clear c70 c71 c72 c73 c74; obtain ⟨c70, c71, c72, c73, c74⟩ := cells5 c7; clear c80 c81 c82 c83 c84; obtain ⟨c80, c81, c82, c83, c84⟩ := cells5 c8; rw [hz.out] at he; subst he; have S5 : w12.cell? ⟨b7, 0, none⟩ = some (.string N) ∧ w12.cell? ⟨b7, 1, none⟩ = some (.int .i64 F) ∧ w12.cell? ⟨b7, 2, none⟩ = some (.string B) ∧ w12.cell? ⟨b7, 3, none⟩ = some (.int .i64 C) ∧ w12.cell? ⟨b7, 4, none⟩ = some (.int .i64 U) ∧ w12.cell? ⟨b8, 0, none⟩ = some (.string N2) ∧ w12.cell? ⟨b8, 1, none⟩ = some (.int .i64 F2) ∧ w12.cell? ⟨b8, 2, none⟩ = some (.string B2) ∧ w12.cell? ⟨b8, 3, none⟩ = some (.int .i64 C2) ∧ w12.cell? ⟨b8, 4, none⟩ = some (.int .i64 U2) := ⟨c70, c71, c72, c73, c74, c80, c81, c82, c83, c84⟩) | (clear mk14; go_at_call 34; refine (implOutlives_any N B F C U N2 B2 F2 C2 U2 y hy (by omega) (by omega) (by omega) (by omega) _).mono ?_; rintro er w13 ⟨rfl, hB13⟩; have hz13 : w12.heap.size ≤ w13.heap.size := hB13.size; replace ob := ob.grow hB13; replace od := od.grow hB13; replace oq := oq.grow hB13; replace c7 := vblk_grow c7 hB13; replace c8 := vblk_grow c8 hB13; replace hB := hB.trans (hB13.mono (by omega)); replace hzw := hB.size; clear c70 c71 c72 c73 c74; obtain ⟨c70, c71, c72, c73, c74⟩ := cells5 c7; clear c80 c81 c82 c83 c84; obtain ⟨c80, c81, c82, c83, c84⟩ := cells5 c8; have S6 : w13.cell? ⟨b7, 0, none⟩ = some (.string N) ∧ w13.cell? ⟨b7, 1, none⟩ = some (.int .i64 F) ∧ w13.cell? ⟨b7, 2, none⟩ = some (.string B) ∧ w13.cell? ⟨b7, 3, none⟩ = some (.int .i64 C) ∧ w13.cell? ⟨b7, 4, none⟩ = some (.int .i64 U) ∧ w13.cell? ⟨b8, 0, none⟩ = some (.string N2) ∧ w13.cell? ⟨b8, 1, none⟩ = some (.int .i64 F2) ∧ w13.cell? ⟨b8, 2, none⟩ = some (.string B2) ∧ w13.cell? ⟨b8, 3, none⟩ = some (.int .i64 C2) ∧ w13.cell? ⟨b8, 4, none⟩ = some (.int .i64 U2) := ⟨c70, c71, c72, c73, c74, c80, c81, c82, c83, c84⟩) | (clear mk15; go_at_call 35; refine (specOutlives_any N B F C U N2 B2 F2 C2 U2 y hy (by omega) (by omega) (by omega) (by omega) _).mono ?_; rintro er w14 ⟨rfl, hB14⟩; have hz14 : w13.heap.size ≤ w14.heap.size := hB14.size; replace ob := ob.grow hB14; replace od := od.grow hB14; replace oq := oq.grow hB14; replace c7 := vblk_grow c7 hB14; replace c8 := vblk_grow c8 hB14; replace hB := hB.trans (hB14.mono (by omega)); replace hzw := hB.size; clear c70 c71 c72 c73 c74; obtain ⟨c70, c71, c72, c73, c74⟩ := cells5 c7; clear c80 c81 c82 c83 c84; obtain ⟨c80, c81, c82, c83, c84⟩ := cells5 c8; have S7 : w14.cell? ⟨b7, 0, none⟩ = some (.string N) ∧ w14.cell? ⟨b7, 1, none⟩ = some (.int .i64 F) ∧ w14.cell? ⟨b7, 2, none⟩ = some (.string B) ∧ w14.cell? ⟨b7, 3, none⟩ = some (.int .i64 C) ∧ w14.cell? ⟨b7, 4, none⟩ = some (.int .i64 U) ∧ w14.cell? ⟨b8, 0, none⟩ = some (.string N2) ∧ w14.cell? ⟨b8, 1, none⟩ = some (.int .i64 F2) ∧ w14.cell? ⟨b8, 2, none⟩ = some (.string B2) ∧ w14.cell? ⟨b8, 3, none⟩ = some (.int .i64 C2) ∧ w14.cell? ⟨b8, 4, none⟩ = some (.int .i64 U2) := ⟨c70, c71, c72, c73, c74, c80, c81, c82, c83, c84⟩) | (fail))
  clear S1 hBd
  clear oq c7 c8 c70 c71 c72 c73 c74 c80 c81 c82 c83 c84
  have hnd : Hid (nd = J.length) := od.rd.cap.1
  have hnb : Hid (nb = b.length) := ob.rd.cap.1
  cases hbk : bookB b with
  | false =>
    have hJ0 : J = [] := by rw [← hJ.out]; unfold duR; rw [hbk]; rfl
    have hn0 : ((nd : Int) == 0) = true := by have := hnd.out; rw [hJ0] at this; simp at this; simp [this]
    have mk16 : Hid True := trivial
    go_wp2_with (first | (clear mk16; go_at_call 36; refine (specBookOk_any b _ _ ob.rd HSb.out).mono ?_; rintro er w15 ⟨rfl, hB15⟩; have hz15 : w14.heap.size ≤ w15.heap.size := hB15.size; replace ob := ob.grow hB15; replace od := od.grow hB15; replace hB := hB.trans (hB15.mono (by omega)); replace hzw := hB.size; rw [hbk]) | (fail))
    go_ret
    exact ⟨rfl, hB⟩
  | true =>
    have hbok : Hid (BOk b) := bookB_iff.1 hbk
    obtain ⟨D, hD⟩ := hid_ex (dueL b now)
    have hJD : Hid (J = D.map (·.N)) := by unfold Hid; rw [← hJ.out, ← hD.out]; unfold duR; rw [if_pos hbk]
    have hDm : Hid (∀ x ∈ D, x ∈ b ∧ overB x now = true) := fun x hx => due_mem.1 (by rw [hD.out]; exact hx)
    have hDn : Hid (nd = D.length) := by have := hnd.out; rw [hJD.out, List.length_map] at this; exact this
    have mk17 : Hid True := trivial
    go_upto_region 13 with (first | (clear mk17; go_at_call 36; refine (specBookOk_any b _ _ ob.rd HSb.out).mono ?_; rintro er w15 ⟨rfl, hB15⟩; have hz15 : w14.heap.size ≤ w15.heap.size := hB15.size; replace ob := ob.grow hB15; replace od := od.grow hB15; replace hB := hB.trans (hB15.mono (by omega)); replace hzw := hB.size; rw [hbk]) | (fail))
    have hb20 : b.length ≤ 20 := hbok.out.2.2
    have OB : Hid (Rd encIt w15 (.slice ab nb kb) b) := ob.rd
    have OD : Hid (Rd encS w15 (.slice ad nd kd) J) := od.rd
    clear ob od
    go_loopw [9, 10] (fun nv iv wr => ∃ i : Nat, nv = .int .i64 (overN b now i : Nat) ∧ iv = .int .i64 i ∧ i ≤ nb ∧ Hid (Below w15.heap.size w15 wr)) (fun _ iv _ => nb - (intOf iv).toNat)
    case atStart => exact ⟨0, rfl, rfl, by omega, Below.refl _ _⟩
    case round =>
      obtain ⟨i, rfl, rfl, hi, HW⟩ := hrel
      by_cases hlt : i < nb
      · have hlt' : (i : Int) < (nb : Int) := by omega
        have hib : i < b.length := by have := hnb.out; omega
        obtain ⟨bk, off, rfl, hbk2, hrng⟩ := rd_item (E := encIt) rfl rfl (OB.out.grow HW.out) i hib
        have hdn := due_name hbok.out.srt (now := now) (List.getElem_mem hib)
        have hov := overN_next (now := now) hib
        obtain ⟨x, hx⟩ := hid_ex (b[i])
        rw [hx.out] at hrng hdn hov
        rw [hD.out, ← hJD.out] at hdn
        obtain ⟨N3, F3, B3, C3, U3⟩ := x
        obtain ⟨q0, q1, q2, q3, q4⟩ := rng5 hrng
        obtain ⟨y3, hy3⟩ := hid_ex (overB ⟨N3, F3, B3, C3, U3⟩ now)
        rw [hy3.out] at hdn hov
        have HT : Hid (y3 = true ↔ N3 ∈ J) := hdn.symm
        have HO : Hid _ := hov
        have hon : overN b now i ≤ 20 := by have : overN b now i ≤ b.length := Nat.le_trans (List.length_filter_le _ _) (by rw [List.length_take]; omega)
                                            omega
        obtain ⟨on, hon2⟩ := hid_ex (overN b now i)
        rw [hon2.out] at HO hon ⊢
        clear hdn hov hrng
        cases y3 with
        | false =>
          have HT0 : Hid ((false : Bool) = true ↔ N3 ∈ J) := HT
          have kT := fun (wq : World) (r : Rd encS wq (.slice ad nd kd) J) => hasText_is J N3 _ false HT0 wq r
          have KT : Hid _ := kT
          clear kT HT HT0
          go_wp2_with (first | (go_at_call 37; refine (specOverAt_any N3 B3 F3 C3 U3 now false hy3 _).mono ?_; rintro e w5 ⟨rfl, hB5⟩; have HW5 : Hid (Below w15.heap.size w15 w5) := HW.out.trans (hB5.mono HW.out.size); obtain ⟨p0, p1, p2, p3, p4⟩ := rng5 (rg_grow (q0 := q0) (q1 := q1) (q2 := q2) (q3 := q3) (q4 := q4) hbk2 hB5); clear q0 q1 q2 q3 q4) | (go_at_call 24; refine (KT.out _ (OD.out.grow HW5.out)).mono ?_; rintro e wq ⟨rfl, hq⟩; subst wq) | (fail))
          go_roundw
          case rel => exact ⟨i + 1, by rw [HO.out]; rfl, by go_num, by omega, HW5⟩
          case measure => simp [intOf]; omega
        | true =>
          have HT0 : Hid (N3 ∈ J) := HT.out.1 rfl
          have kT := fun (wq : World) (r : Rd encS wq (.slice ad nd kd) J) => hasText_is J N3 _ true ⟨fun _ => HT0.out, fun _ => rfl⟩ wq r
          have KT : Hid _ := kT
          clear kT HT
          go_wp2_with (first | (go_at_call 37; refine (specOverAt_any N3 B3 F3 C3 U3 now true hy3 _).mono ?_; rintro e w5 ⟨rfl, hB5⟩; have HW5 : Hid (Below w15.heap.size w15 w5) := HW.out.trans (hB5.mono HW.out.size); obtain ⟨p0, p1, p2, p3, p4⟩ := rng5 (rg_grow (q0 := q0) (q1 := q1) (q2 := q2) (q3 := q3) (q4 := q4) hbk2 hB5); clear q0 q1 q2 q3 q4) | (go_at_call 24; refine (KT.out _ (OD.out.grow HW5.out)).mono ?_; rintro e wq ⟨rfl, hq⟩; subst wq) | (fail))
          go_roundw
          case rel => exact ⟨i + 1, by rw [HO.out]; simp, by go_num, by omega, HW5⟩
          case measure => simp [intOf]; omega
      · have hlt' : ¬ (i : Int) < (nb : Int) := by omega
        have HN : Hid (overN b now i = nd) := by
          unfold Hid overN
          rw [List.take_of_length_le (by have := hnb.out; omega), ← due_len, hD.out, hDn.out]
        rw [HN.out]
        go_wp2_with (fail)
        have OB2 : Hid (Rd encIt wr (.slice ab nb kb) b) := OB.out.grow HW.out
        have OD2 : Hid (Rd encS wr (.slice ad nd kd) J) := OD.out.grow HW.out
        have hBw : Below w.heap.size w wr := hB.trans (HW.out.mono hB.size)
        have HBw : Hid (Below w.heap.size w wr) := hBw
        rename World => W9
        clear OB OD hBw HW HN
        have hnd20 : nd ≤ 20 := by
          rw [hDn.out, ← hD.out, due_len]
          exact Nat.le_trans (List.length_filter_le _ _) hb20
        go_loopw [12] (fun iv wr => ∃ i : Nat, iv = .int .i64 i ∧ 1 ≤ i ∧ (i ≤ nd ∨ i = 1) ∧ Hid (Below W9.heap.size W9 wr)) (fun iv _ => nd - (intOf iv).toNat)
        case atStart => exact ⟨1, rfl, by omega, .inr rfl, Below.refl _ _⟩
        case round =>
          obtain ⟨j, rfl, hj1, hj, HW⟩ := hrel
          by_cases hjn : j < nd
          · have hjn' : (j : Int) < (nd : Int) := by omega
            obtain ⟨m, hm⟩ : ∃ m : Nat, j = m + 1 := ⟨j - 1, by omega⟩
            have HM : Hid (j = m + 1) := hm
            clear hm
            have hw : wrap64 ((j : Int) - 1) = (m : Int) := by
              have := HM.out; have := hDn.out
              have hl2 : D.length ≤ 20 := by rw [← hD.out, due_len]; exact Nat.le_trans (List.length_filter_le _ _) hb20
              rw [IntWalk.wrap64_in _ ⟨by omega, by omega⟩]; omega
            have hmn : (m : Int) < (nd : Int) := by have := HM.out; omega
            have hjD : j < D.length := by have := hDn.out; omega
            have hmD : m < D.length := by have := HM.out; omega
            obtain ⟨p, hpb, hp1, hp2⟩ := at_of hbok.out (hDm.out _ (List.getElem_mem hmD)).1
            obtain ⟨r, hrb, hr1, hr2⟩ := at_of hbok.out (hDm.out _ (List.getElem_mem hjD)).1
            have hEar : Ear D[m] D[j] := by
              have := due_ear hbok.out.srt now
              rw [hD.out] at this
              exact List.pairwise_iff_getElem.1 this m j hmD hjD (by have := HM.out; omega)
            obtain ⟨ho1, ho2⟩ := ear_out hbok.out (now := now) (by rw [hD.out]; exact List.getElem_mem hmD) (by rw [hD.out]; exact List.getElem_mem hjD) hEar
            have hsm1 := HSb.out _ (hDm.out _ (List.getElem_mem hmD)).1
            have hsm2 := HSb.out _ (hDm.out _ (List.getElem_mem hjD)).1
            have OBw := OB2.out.grow HW.out
            have ODw := OD2.out.grow HW.out
            have hjJ : j < J.length := by have := hnd.out; omega
            have hmJ : m < J.length := by have := HM.out; omega
            obtain ⟨bd, fd, rfl, hbd, cm⟩ := rdS_cell ODw m hmJ
            obtain ⟨bd2, fd2, e2, hbd2, cj⟩ := rdS_cell ODw j hjJ
            cases e2
            have eJm : J[m] = D[m].N := by simp [hJD.out]
            have eJj : J[j] = D[j].N := by simp [hJD.out]
            rw [eJm] at cm
            rw [eJj] at cj
            obtain ⟨bk, off, rfl, hbk2, hrng⟩ := rd_item (E := encIt) rfl rfl OBw p hpb
            obtain ⟨bk2, off2, e2, -, hrng2⟩ := rd_item (E := encIt) rfl rfl OBw r hrb
            cases e2
            rw [hp2] at hrng
            rw [hr2] at hrng2
            obtain ⟨x, hx⟩ := hid_ex D[m]
            obtain ⟨x2, hx2⟩ := hid_ex D[j]
            rw [hx.out] at hrng cm ho1 ho2 hsm1 hp1
            rw [hx2.out] at hrng2 cj ho1 ho2 hsm2 hr1
            clear hEar hp2 hr2 hx hx2 eJm eJj
            obtain ⟨N3, F3, B3, C3, U3⟩ := x
            obtain ⟨N4, F4, B4, C4, U4⟩ := x2
            dsimp only at cm cj ho2 hsm1 hsm2 hp1 hr1
            rw [show m = j - 1 by have := HM.out; omega] at cm
            obtain ⟨q0, q1, q2, q3, q4⟩ := rng5 hrng
            obtain ⟨r0, r1, r2, r3, r4⟩ := rng5 hrng2
            have HP1 : Hid (findI b N3 = p) := hp1
            have HR1 : Hid (findI b N4 = r) := hr1
            have HO1 : Hid (outB ⟨N4, F4, B4, C4, U4⟩ ⟨N3, F3, B3, C3, U3⟩ = true) := ho1
            have HO2 : Hid (U3 = U4 → ltS N3 N4 = true) := ho2
            have HOB : Hid (Rd encIt wr (.slice (some ⟨bk, off, none⟩) nb kb) b) := OBw
            have hpn : (p : Int) < (nb : Int) := by have := hnb.out; omega
            have hrn : (r : Int) < (nb : Int) := by have := hnb.out; omega
            clear hp1 hr1 ho1 ho2 OBw ODw hrng hrng2
            have m1 : Hid True := trivial
            have m2 : Hid True := trivial
            have m3 : Hid True := trivial
            have m4 : Hid True := trivial
            have hcj : ∀ w' : World, Below wr.heap.size wr w' → w'.cell? ⟨bd, fd + j, none⟩ = some (.string N4) := fun w' hB' => by rw [hB'.cell (by exact hbd)]; exact cj
            have HCJ : Hid _ := hcj
            have hrr : ∀ w' : World, Below wr.heap.size wr w' → w'.cell? ⟨bk, off + r * 5, none⟩ = some (.string N4) ∧ w'.cell? ⟨bk, off + r * 5 + 1, none⟩ = some (.int .i64 F4) ∧ w'.cell? ⟨bk, off + r * 5 + 2, none⟩ = some (.string B4) ∧ w'.cell? ⟨bk, off + r * 5 + 3, none⟩ = some (.int .i64 C4) ∧ w'.cell? ⟨bk, off + r * 5 + 4, none⟩ = some (.int .i64 U4) := fun w' hB' => ⟨by rw [hB'.cell (by exact hbk2)]; exact r0, by rw [hB'.cell (by exact hbk2)]; exact r1, by rw [hB'.cell (by exact hbk2)]; exact r2, by rw [hB'.cell (by exact hbk2)]; exact r3, by rw [hB'.cell (by exact hbk2)]; exact r4⟩
            have HRR : Hid _ := hrr
            clear hcj hrr cj r0 r1 r2 r3 r4
            by_cases hU : U3 = U4
            · have hUe : (U3 == U4) = true := by simpa using hU
              have hls : Op.bytesLess N3.toList N4.toList = true := HO2.out hU
              have HU : Hid (U3 = U4) := hU
              clear hU
              go_wp2_with (first | (clear m1; go_at_call 38; refine (specFindItem_any b N3 _ _ HOB.out).mono ?_; rintro e wq ⟨he, hq⟩; subst wq; rw [HP1.out] at he; subst he) | (clear m2; refine wpList_alloc_v rfl 53 rfl _ zeroIt ?_; intro b13 w1 hb13 hw13 hB1 V13) | (clear m3; refine wpList_store_v rfl 53 _ _ rfl b13 [.string N3, .int .i64 F3, .string B3, .int .i64 C3, .int .i64 U3] rfl rfl sizeIt V13 rfl (by simp [Value.oneCell']) ?_; intro w2 hO2 V132; have hBa : Below wr.heap.size wr w2 := hB1.trans (hO2.2.2 _ hb13); have cj2 := HCJ.out w2 hBa; obtain ⟨r0, r1, r2, r3, r4⟩ := HRR.out w2 hBa; have hza := hBa.size; clear q0 q1 q2 q3 q4 cm) | (go_at_call 38; refine (specFindItem_any b N4 _ _ (HOB.out.grow hBa)).mono ?_; rintro e wq ⟨he, hq⟩; subst wq; rw [HR1.out] at he; subst he) | (clear m4; refine wpList_alloc_v rfl 53 rfl _ zeroIt ?_; intro b14 w3 hb14 hw14 hB3 V14; have V133 := vblk_grow V132 hB3) | (refine wpList_store_v rfl 53 _ _ rfl b14 [.string N4, .int .i64 F4, .string B4, .int .i64 C4, .int .i64 U4] rfl rfl sizeIt V14 rfl (by simp [Value.oneCell']) ?_; intro w4 hO4 V144; have hBb : Below wr.heap.size wr w4 := (hBa.trans (hB3.mono hza)).trans (hO4.2.2 _ (by omega)); have V134 := vblk_only V133 hO4 (by have := V132.lt; omega); obtain ⟨d0, d1, d2, d3, d4⟩ := cells5 V134; obtain ⟨e0, e1, e2, e3, e4⟩ := cells5 V144; clear r0 r1 r2 r3 r4 cj2) | (go_at_call 34; refine (implOutlives_any N4 B4 F4 C4 U4 N3 B3 F3 C3 U3 true HO1 (by omega) (by omega) (by omega) (by omega) _).mono ?_; rintro e w5 ⟨rfl, hB5⟩; have hBc : Below wr.heap.size wr w5 := hBb.trans (hB5.mono hBb.size); have V135 := vblk_grow V134 hB5; have V145 := vblk_grow V144 hB5; clear d0 d1 d2 d3 d4 e0 e1 e2 e3 e4; obtain ⟨d0, d1, d2, d3, d4⟩ := cells5 V135; obtain ⟨e0, e1, e2, e3, e4⟩ := cells5 V145) | (fail))
              go_roundw
              case rel => exact ⟨j + 1, by go_num, by omega, .inl (by omega), HW.out.trans (hBc.mono HW.out.size)⟩
              case measure => simp [intOf]; omega
            · have hUe : (U3 == U4) = false := by simpa using hU
              have HU : Hid (U3 ≠ U4) := hU
              clear hU
              go_wp2_with (first | (clear m1; go_at_call 38; refine (specFindItem_any b N3 _ _ HOB.out).mono ?_; rintro e wq ⟨he, hq⟩; subst wq; rw [HP1.out] at he; subst he) | (clear m2; refine wpList_alloc_v rfl 53 rfl _ zeroIt ?_; intro b13 w1 hb13 hw13 hB1 V13) | (clear m3; refine wpList_store_v rfl 53 _ _ rfl b13 [.string N3, .int .i64 F3, .string B3, .int .i64 C3, .int .i64 U3] rfl rfl sizeIt V13 rfl (by simp [Value.oneCell']) ?_; intro w2 hO2 V132; have hBa : Below wr.heap.size wr w2 := hB1.trans (hO2.2.2 _ hb13); have cj2 := HCJ.out w2 hBa; obtain ⟨r0, r1, r2, r3, r4⟩ := HRR.out w2 hBa; have hza := hBa.size; clear q0 q1 q2 q3 q4 cm) | (go_at_call 38; refine (specFindItem_any b N4 _ _ (HOB.out.grow hBa)).mono ?_; rintro e wq ⟨he, hq⟩; subst wq; rw [HR1.out] at he; subst he) | (clear m4; refine wpList_alloc_v rfl 53 rfl _ zeroIt ?_; intro b14 w3 hb14 hw14 hB3 V14; have V133 := vblk_grow V132 hB3) | (refine wpList_store_v rfl 53 _ _ rfl b14 [.string N4, .int .i64 F4, .string B4, .int .i64 C4, .int .i64 U4] rfl rfl sizeIt V14 rfl (by simp [Value.oneCell']) ?_; intro w4 hO4 V144; have hBb : Below wr.heap.size wr w4 := (hBa.trans (hB3.mono hza)).trans (hO4.2.2 _ (by omega)); have V134 := vblk_only V133 hO4 (by have := V132.lt; omega); obtain ⟨d0, d1, d2, d3, d4⟩ := cells5 V134; obtain ⟨e0, e1, e2, e3, e4⟩ := cells5 V144; clear r0 r1 r2 r3 r4 cj2) | (go_at_call 34; refine (implOutlives_any N4 B4 F4 C4 U4 N3 B3 F3 C3 U3 true HO1 (by omega) (by omega) (by omega) (by omega) _).mono ?_; rintro e w5 ⟨rfl, hB5⟩; have hBc : Below wr.heap.size wr w5 := hBb.trans (hB5.mono hBb.size); have V135 := vblk_grow V134 hB5; have V145 := vblk_grow V144 hB5; clear d0 d1 d2 d3 d4 e0 e1 e2 e3 e4; obtain ⟨d0, d1, d2, d3, d4⟩ := cells5 V135; obtain ⟨e0, e1, e2, e3, e4⟩ := cells5 V145) | (fail))
              go_roundw
              case rel => exact ⟨j + 1, by go_num, by omega, .inl (by omega), HW.out.trans (hBc.mono HW.out.size)⟩
              case measure => simp [intOf]; omega
          · have hjn' : ¬ (j : Int) < (nd : Int) := by omega
            have OB3 : Hid (Rd encIt wr (.slice ab nb kb) b) := OB2.out.grow HW.out
            have OD3 : Hid (Rd encS wr (.slice ad nd kd) J) := OD2.out.grow HW.out
            have HB3 : Hid (Below w.heap.size w wr) := HBw.out.trans (HW.out.mono HBw.out.size)
            have hdd : ((nd : Int) == (nd : Int)) = true := by simp
            go_upto_region 27 with (fail)
            by_cases hn0 : nd = 0
            · have hne : ((nd : Int) == 0) = true := by simp [hn0]
              have HN0 : Hid (nd = 0) := hn0
              clear hn0
              go_big_quiet (fail)
              go_wp2
              go_ret
              exact ⟨rfl, HB3.out.trans (ce.below_drewN _ _)⟩
            · have hne : ((nd : Int) == 0) = false := by simp; omega
              have hn1 : (0 : Int) < (nd : Int) := by omega
              have hn2 : 0 < nd := by omega
              have h0D : 0 < D.length := by have := hDn.out; omega
              have h0J : 0 < J.length := by have := hnd.out; omega
              clear hn0
              obtain ⟨p, hpb, hp1, hp2⟩ := at_of hbok.out (hDm.out _ (List.getElem_mem h0D)).1
              have hfirst : D[0].U = sooI b := by
                obtain ⟨x, r, e⟩ : ∃ x r, D = x :: r := by
                  cases D with
                  | nil => simp at h0D
                  | cons x r => exact ⟨x, r, rfl⟩
                have h := due_first hbok.out (now := now) (hD.out.trans e)
                unfold sooI
                rw [if_pos hbk, ← h]
                subst e
                rfl
              obtain ⟨bd, fd, rfl, hbd, cm⟩ := rdS_cell OD3.out 0 h0J
              have eJ : J[0] = D[0].N := by simp [hJD.out]
              rw [eJ] at cm
              obtain ⟨bk, off, rfl, hbk2, hrng⟩ := rd_item (E := encIt) rfl rfl OB3.out p hpb
              rw [hp2] at hrng
              obtain ⟨x, hx⟩ := hid_ex D[0]
              rw [hx.out] at hrng cm hp1 hfirst
              clear hp2 hx eJ
              obtain ⟨N3, F3, B3, C3, U3⟩ := x
              dsimp only at cm hp1 hfirst
              obtain ⟨-, -, -, -, q4⟩ := rng5 hrng
              simp only [Nat.add_zero] at cm
              have HP1 : Hid (findI b N3 = p) := hp1
              have HF : Hid (sooI b = U3) := hfirst.symm
              have hpn : (p : Int) < (nb : Int) := by have := hnb.out; omega
              have hUU : (U3 == U3) = true := by simp
              clear hp1 hfirst hrng
              have S1 : wr.drew.cell? ⟨bd, fd, none⟩ = some (.string N3) ∧ wr.drew.cell? ⟨bk, off + p * 5 + 4, none⟩ = some (.int .i64 U3) := ⟨cm, q4⟩
              go_region_held3 (fun w' => w'.cell? ⟨bd, fd, none⟩ = some (.string N3) ∧ w'.cell? ⟨bk, off + p * 5 + 4, none⟩ = some (.int .i64 U3)) (first | with_reducible assumption | with_reducible exact S1 | (fail)) (first | (go_at_call 38; refine (specFindItem_any b N3 _ _ (OB3.out.grow (Below.refl _ _).drew)).mono ?_; rintro e wq ⟨he, hq⟩; subst wq; rw [HP1.out] at he; subst he) | (go_at_call 32; refine (implSoonestOf_any b _ _ (OB3.out.grow (Below.refl _ _).drew) HSb.out).mono ?_; rintro e w6 ⟨he, hB6⟩; rw [HF.out] at he; subst he; have S6 : w6.cell? ⟨bd, fd, none⟩ = some (.string N3) ∧ w6.cell? ⟨bk, off + p * 5 + 4, none⟩ = some (.int .i64 U3) := ⟨by rw [hB6.cell (by exact hbd)]; exact S1.1, by rw [hB6.cell (by exact hbk2)]; exact S1.2⟩) | (fail))
              go_wp2
              go_ret
              exact ⟨rfl, (HB3.out.trans (Below.refl _ _).drew).trans (hB6.mono HB3.out.size)⟩

end Go.Proofs.Ytmnjmghlkiljhaa.lawDu
