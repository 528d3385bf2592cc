/- Contracts of the laws' helpers on books: sizes, copies, comparisons; a thing and a book among the arguments. -/
import Derived.Test.YtmnjmghlkiljhaaIs1
import Derived.Test.YtmnjmghlkiljhaaRo10
import Derived.Deep.Slices
import Derived.Lib.SmallJoins
import Derived.ShutString
import Derived.ChangeOld
namespace Go.Proofs.Ytmnjmghlkiljhaa.rg
open Go.ChangeShapes Go.WideShapes Go.ChangeAt Go.RowKit
open Go.Deep Go.Joins
open Go.Proofs.Ytmnjmghlkiljhaa.ce Go.Proofs.Ytmnjmghlkiljhaa.ro
set_option linter.unusedVariables false

/-- no text is longer than what a machine holds -/
def Lo (b : List It) : Prop := ∀ i ∈ b, i.N.size ≤ 9223372036854775807 ∧ i.B.size ≤ 9223372036854775807

set_option maxHeartbeats 1000000 in
theorem szItems_le (b : List It) (v : Value) (L : Int) (hL : L ≤ 1048576) (hL0 : 0 ≤ L) (w : World) (r : Rd encLi w v b) (hs : Lo b) :
    Calls Try.prog 39 #[v, .int .i64 L] w fun e w' => ∃ q : Int, e = .returned (.int .i64 q) ∧ Below w.heap.size w w' ∧ (0 ≤ q → b.length ≤ 1048576 ∧ SmK b) ∧ q ≤ 1048576 := by
  have hl := r.len
  obtain ⟨a, cap, rfl⟩ := r.form
  have R : Hid (Rd encLi w (.slice a b.length cap) b) := r
  have HS : Hid (Lo b) := hs
  clear r hs
  have e : IntKind.i64.wrap (L - (b.length : Int)) = L - b.length := by rw [IntKind.wrap_i64]; omega
  by_cases h : L - (b.length : Int) < 0
  · go_enter Try.func39, Try.ntmps39
    go_wp2
    go_ret
    exact ⟨-1, rfl, Below.refl _ _, fun _ => by omega, by omega⟩
  · go_enter Try.func39, Try.ntmps39
    go_wp2
    go_loopw [1, 5] (fun q p wr => ∃ (l : Int) (i : Nat), i ≤ b.length ∧ p = .int .i64 i ∧ q = .int .i64 l ∧ 0 ≤ l ∧ l ≤ 1048576 ∧ Hid (SmK (b.take i)) ∧ Below w.heap.size w wr) (fun _ p _ => b.length - (intOf p).toNat)
    case atStart => exact ⟨L - b.length, 0, by omega, rfl, rfl, by omega, by omega, (fun z hz => by simp at hz), Below.refl _ _⟩
    case round =>
      obtain ⟨l, i, hi1, rfl, rfl, hl0, hl1, hS, hBr⟩ := hrel
      by_cases hlt : i < b.length
      · obtain ⟨bk, off, rfl, hb, rg0⟩ := rd_item rfl rfl (R.out.grow hBr) i hlt
        have hlt' : (i : Int) < (b.length : Int) := by omega
        have hsz := HS.out b[i] (List.getElem_mem hlt)
        have hsr := hBr.size
        have hS2 : (b[i].N.size ≤ 1048576 ∧ b[i].B.size ≤ 1048576) → SmK (b.take (i + 1)) := fun q => by
          rw [List.take_succ_eq_append_getElem hlt]
          intro z hz
          rcases List.mem_append.1 hz with h' | h'
          · exact hS.out z h'
          · rw [List.mem_singleton.1 h']; exact q
        obtain ⟨z, hz⟩ := hid_ex (b[i])
        rw [hz.out] at rg0 hsz hS2
        obtain ⟨N, F, B, C, U⟩ := z
        obtain ⟨hN, hB⟩ := hsz
        dsimp only at hN hB hS2
        have HS2 : Hid ((N.size ≤ 1048576 ∧ B.size ≤ 1048576) → SmK (b.take (i + 1))) := hS2
        have rg : Hid (wr.rangeAt bk (off + i * 5) [.string N, .int .i64 F, .string B, .int .i64 C, .int .i64 U]) := rg0
        clear rg0 hS2
        go_wp2_with (first | (refine wpList_load_r rfl 110 _ rfl bk (off + i * 5) [.string N, .int .i64 F, .string B, .int .i64 C, .int .i64 U] rfl _ Try.underlying110 rfl sizeLi rg.out ?_) | (go_at_call 82; refine (szItem_any N B F C U hN hB l hl1 hl0 _).mono ?_; rintro e w2 ⟨q, rfl, hB2, hq1, hq2⟩; by_cases hneg : q < 0) | (fail))
        · go_ret
          exact ⟨-1, rfl, hBr.trans (hB2.mono hsr), fun _ => by omega, by omega⟩
        · go_roundw
          case rel => exact ⟨q, i + 1, by omega, by go_num, rfl, by omega, hq1, HS2.out (hq2 (by omega)), hBr.trans (hB2.mono hsr)⟩
          case measure => simp [intOf]; omega
      · have hlt' : ¬ (i : Int) < (b.length : Int) := by omega
        have hS3 : Hid (SmK b) := by
          have := hS.out
          rw [List.take_of_length_le (by omega)] at this
          exact this
        clear hS
        go_wp2
        go_ret
        exact ⟨_, rfl, hBr, fun _ => ⟨by omega, hS3.out⟩, hl1⟩

theorem szItems_any (b : List It) (v : Value) (L : Int) (hL : L ≤ 1048576) (hL0 : 0 ≤ L) (w : World) (r : Rd encLi w v b) (hs : Lo b) :
    Calls Try.prog 39 #[v, .int .i64 L] w fun e w' => ∃ q : Int, e = .returned (.int .i64 q) ∧ Below w.heap.size w w' ∧ (0 ≤ q → b.length ≤ 1048576 ∧ SmK b) :=
  (szItems_le b v L hL hL0 w r hs).mono fun e w' ⟨q, h1, h2, h3, _⟩ => ⟨q, h1, h2, h3⟩
set_option maxHeartbeats 1000000 in
theorem toItems_any (b : List It) (v : Value) (w : World) (r : Rd encLi w v b) (hlen : b.length ≤ 1048576) :
    Calls Try.prog 40 #[v] w fun e w' => ∃ v', e = .returned v' ∧ Own encIt w' w.heap.size w'.heap.size v' b ∧ Below w.heap.size w w' := by
  obtain ⟨a, cap, rfl⟩ := r.form
  have R : Hid (Rd encLi w (.slice a b.length cap) b) := r
  clear r
  go_enter Try.func40, Try.ntmps40
  go_wp2_with (first | (refine wpList_make_p infoIt rfl _ _ 47 rfl Try.underlying47 b.length hlen rfl rfl ?_; intro g w1 hg hw1 hB1 p1) | (fail))
  go_loopw [4] (fun p wr => ∃ i : Nat, i ≤ b.length ∧ p = .int .i64 i ∧ Hid (Part encIt wr w.heap.size g b.length b.length (b.take i)) ∧ Below w.heap.size w wr) (fun p _ => b.length - (intOf p).toNat)
  case atStart => exact ⟨0, by omega, rfl, p1, hB1⟩
  case round =>
    obtain ⟨i, hi1, rfl, P, hBr⟩ := hrel
    have hpl := P.out.lt
    by_cases hlt : i < b.length
    · obtain ⟨bk, off, rfl, hb, rg0⟩ := rd_item rfl rfl (R.out.grow hBr) i hlt
      have hlt' : (i : Int) < (b.length : Int) := by omega
      have hsr := hBr.size
      have htk : Hid (b.take (i + 1) = b.take i ++ [b[i]]) := List.take_succ_eq_append_getElem hlt
      have hil : Hid ((b.take i).length = i) := by unfold Hid; simp; omega
      obtain ⟨z, hz⟩ := hid_ex (b[i])
      rw [hz.out] at rg0 htk
      obtain ⟨N, F, B, C, U⟩ := z
      have rg : Hid (wr.rangeAt bk (off + i * 5) [.string N, .int .i64 F, .string B, .int .i64 C, .int .i64 U]) := rg0
      clear rg0
      go_wp2_with (first | (refine wpList_load_r rfl 110 _ rfl bk (off + i * 5) [.string N, .int .i64 F, .string B, .int .i64 C, .int .i64 U] rfl _ Try.underlying110 rfl sizeLi rg.out ?_) | (go_at_call 83; refine (toItem_any N B F C U _).mono ?_; rintro e w3 ⟨rfl, hB3⟩; have p3 := P.out.keep (hB3.block g hpl.2)) | (refine wpList_store_p (E := encIt) sizeIt rfl _ _ rfl w.heap.size g b.length b.length i (i * 5) (b.take i) ⟨N, F, B, C, U⟩ rfl rfl rfl p3 hil.out hlt ?_; intro w4 hO4 p4) | (fail))
      go_roundw
      case rel =>
        refine ⟨i + 1, by omega, by go_num, ?_, (hBr.trans (hB3.mono hsr)).trans (hO4.2.2 _ (by omega))⟩
        unfold Hid
        rw [htk.out]
        exact p4
      case measure => simp [intOf]; omega
    · have hlt' : ¬ (i : Int) < (b.length : Int) := by omega
      have p2 := P.out
      rw [List.take_of_length_le (by omega)] at p2
      clear P
      go_wp2
      go_ret
      exact ⟨_, rfl, p2.full rfl, hBr⟩

set_option maxHeartbeats 1000000 in
theorem eqItems_any (b : List It) (v v' : Value) (w : World) (r : Rd encIt w v b) (r' : Rd encIt w v' b) :
    Calls Try.prog 42 #[v, v'] w fun e w' => e = .returned (.bool true) ∧ Below w.heap.size w w' := by
  have hl := r.len
  obtain ⟨a, cap, rfl⟩ := r.form
  obtain ⟨a', cap', rfl⟩ := r'.form
  have R : Hid (Rd encIt w (.slice a b.length cap) b) := r
  have R' : Hid (Rd encIt w (.slice a' b.length cap') b) := r'
  clear r r'
  have hnn : ((b.length : Int) != (b.length : Int)) = false := by simp
  go_enter Try.func42, Try.ntmps42
  go_wp2
  go_loopw [5] (fun v' wr => ∃ i : Nat, i ≤ b.length ∧ v' = .int .i64 i ∧ Below w.heap.size w wr) (fun v' _ => b.length - (intOf v').toNat)
  case atStart => exact ⟨0, by omega, rfl, Below.refl _ _⟩
  case round =>
    obtain ⟨i, hi1, rfl, hBr⟩ := hrel
    by_cases hlt : i < b.length
    · obtain ⟨bk, off, rfl, hb, rg0⟩ := rd_item rfl rfl (R.out.grow hBr) i hlt
      obtain ⟨bk', off', rfl, hb', rg1⟩ := rd_item rfl rfl (R'.out.grow hBr) i hlt
      obtain ⟨z, hz⟩ := hid_ex (b[i])
      rw [hz.out] at rg0 rg1
      obtain ⟨N, F, B, C, U⟩ := z
      have hlt' : (i : Int) < b.length := by omega
      have hsr := hBr.size
      have rg : Hid (wr.rangeAt bk (off + i * 5) [.string N, .int .i64 F, .string B, .int .i64 C, .int .i64 U]) := rg0
      have rg' : Hid (wr.rangeAt bk' (off' + i * 5) [.string N, .int .i64 F, .string B, .int .i64 C, .int .i64 U]) := rg1
      clear rg0 rg1
      go_upto_region 6 with (fail)
      have hS0 : (wr.drew.cell? ⟨bk, off + i * 5, none⟩ = some (.string N) ∧ wr.drew.cell? ⟨bk, off + i * 5 + 1, none⟩ = some (.int .i64 F) ∧ wr.drew.cell? ⟨bk, off + i * 5 + 2, none⟩ = some (.string B) ∧ wr.drew.cell? ⟨bk, off + i * 5 + 3, none⟩ = some (.int .i64 C) ∧ wr.drew.cell? ⟨bk, off + i * 5 + 4, none⟩ = some (.int .i64 U)) ∧ (wr.drew.cell? ⟨bk', off' + i * 5, none⟩ = some (.string N) ∧ wr.drew.cell? ⟨bk', off' + i * 5 + 1, none⟩ = some (.int .i64 F) ∧ wr.drew.cell? ⟨bk', off' + i * 5 + 2, none⟩ = some (.string B) ∧ wr.drew.cell? ⟨bk', off' + i * 5 + 3, none⟩ = some (.int .i64 C) ∧ wr.drew.cell? ⟨bk', off' + i * 5 + 4, none⟩ = some (.int .i64 U)) := ⟨rng5 (w := wr.drew) rg.out, rng5 (w := wr.drew) rg'.out⟩
      go_region_held3 (fun w' => (w'.cell? ⟨bk, off + i * 5, none⟩ = some (.string N) ∧ w'.cell? ⟨bk, off + i * 5 + 1, none⟩ = some (.int .i64 F) ∧ w'.cell? ⟨bk, off + i * 5 + 2, none⟩ = some (.string B) ∧ w'.cell? ⟨bk, off + i * 5 + 3, none⟩ = some (.int .i64 C) ∧ w'.cell? ⟨bk, off + i * 5 + 4, none⟩ = some (.int .i64 U)) ∧ (w'.cell? ⟨bk', off' + i * 5, none⟩ = some (.string N) ∧ w'.cell? ⟨bk', off' + i * 5 + 1, none⟩ = some (.int .i64 F) ∧ w'.cell? ⟨bk', off' + i * 5 + 2, none⟩ = some (.string B) ∧ w'.cell? ⟨bk', off' + i * 5 + 3, none⟩ = some (.int .i64 C) ∧ w'.cell? ⟨bk', off' + i * 5 + 4, none⟩ = some (.int .i64 U))) (first | assumption | exact hS0) (first | (go_at_call 84; refine (eqItem_any N B F C U _).mono ?_; rintro e w5 ⟨rfl, hB5⟩; have hS5 := And.intro (rng5 (range_of rg.out (hB5.block bk hb))) (rng5 (range_of rg'.out (hB5.block bk' hb')))) | (fail))
      go_wp2
      go_roundw
      case rel => exact ⟨i + 1, by omega, by go_num, hBr.drew.trans (hB5.mono hsr)⟩
      case measure => simp [intOf]; omega
    · go_wp2
      go_ret
      exact ⟨rfl, hBr⟩

theorem cellsStrK : Try.prog.cellsOf 9 = 1 := by kernel_rfl
theorem cellsIntK : Try.prog.cellsOf 2 = 1 := by kernel_rfl
theorem cellsLi : Try.prog.cellsOf 110 = 5 := by kernel_rfl
set_option maxRecDepth 100000 in
theorem ic_of_trod {H : Type} {enc : TypeId × Value → H} {w : World} {n : Nat} {cs : List Value} {x : DataW H × List MemPlace} (h : DataW.trod enc Try.prog w 0 (fun _ => true) true n 110 cs = some x) : ∃ i : It, cs = ic i ∧ i.N.size ≤ 9223372036854775807 ∧ i.B.size ≤ 9223372036854775807 := by
  obtain ⟨xs, m, -, -, hl, hxs, hf⟩ := DataW.trod_struct Try.underlying110 h
  rw [cellsLi] at hl
  match cs, hl with
  | [v0, v1, v2, v3, v4], _ =>
    match xs, hxs with
    | [y0, y1, y2, y3, y4], _ =>
      have h0 := hf 0 _ rfl
      have h1 := hf 1 _ rfl
      have h2 := hf 2 _ rfl
      have h3 := hf 3 _ rfl
      have h4 := hf 4 _ rfl
      simp [cellsIntK, cellsStrK] at h0 h1 h2 h3 h4
      obtain ⟨s, e0, -, s0⟩ := DataW.trod_string Try.underlying9 h0
      obtain ⟨f, e1, -, -⟩ := DataW.trod_int Try.underlying2 h1
      obtain ⟨b, e2, -, s2⟩ := DataW.trod_string Try.underlying9 h2
      obtain ⟨c, e3, -, -⟩ := DataW.trod_int Try.underlying2 h3
      obtain ⟨u, e4, -, -⟩ := DataW.trod_int Try.underlying2 h4
      simp at e0 e1 e2 e3 e4
      subst e0 e1 e2 e3 e4
      exact ⟨⟨s, f, b, c, u⟩, rfl, s0, s2⟩
set_option maxRecDepth 100000 in
theorem open_items {H : Type} {enc : TypeId × Value → H} {W : World} {r : Reach} {b0 : Nat} {v : Value} {d : DataW H} {p : List MemPlace} (hw : Value.okWide Try.prog W r b0 61 v) (h : DataW.Trod enc Try.prog W 0 (fun _ => true) true 61 v d p) :
    ∃ L, Rd encLi W v L ∧ Lo L := by
  obtain ⟨a, len, cap, rfl⟩ := okWide_slice Try.underlying61 hw
  obtain ⟨m, hm⟩ := h
  have : Inhabited It := ⟨It.zero⟩
  exact rd_of_trodK encLi (fun i => i.N.size ≤ 9223372036854775807 ∧ i.B.size ≤ 9223372036854775807) (n := m) Try.underlying61 cellsLi (fun m cs y hy => ic_of_trod hy) (by simpa [Value.cells] using hm)
set_option maxRecDepth 100000 in
theorem open_item {H : Type} {enc : TypeId × Value → H} {W : World} {r : Reach} {b0 : Nat} {v : Value} {d : DataW H} {p : List MemPlace} (hw : Value.okWide Try.prog W r b0 110 v) (h : DataW.Trod enc Try.prog W 0 (fun _ => true) true 110 v d p) :
    ∃ (N : ByteArray) (F : Int) (B : ByteArray) (C U : Int), v = .agg #[.string N, .int .i64 F, .string B, .int .i64 C, .int .i64 U] ∧ N.size ≤ 9223372036854775807 ∧ B.size ≤ 9223372036854775807 := by
  obtain ⟨cs, rfl, hsz⟩ := okWide_struct Try.underlying110 hw
  obtain ⟨m, hm⟩ := h
  have hm' : DataW.trod enc Try.prog W 0 (fun _ => true) true m 110 cs.toList = some (d, p) := by simpa [Value.cells] using hm
  obtain ⟨i, e, h1, h2⟩ := ic_of_trod hm'
  refine ⟨i.N, i.F, i.B, i.C, i.U, ?_, h1, h2⟩
  have e2 : cs = #[.string i.N, .int .i64 i.F, .string i.B, .int .i64 i.C, .int .i64 i.U] := by rw [← Array.toArray_toList (xs := cs), e]; rfl
  rw [e2]
end Go.Proofs.Ytmnjmghlkiljhaa.rg
