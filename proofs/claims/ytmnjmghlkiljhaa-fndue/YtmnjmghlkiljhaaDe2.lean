/- What the laws of chapter 10 draw, second part: a thing, or what is none. -/
import Derived.Test.YtmnjmghlkiljhaaMg01
namespace Go.Proofs.Ytmnjmghlkiljhaa.rg
open Go.ChangeShapes Go.WideShapes Go.ChangeAt Go.RowKit
open Go.Proofs.Ytmnjmghlkiljhaa.ce Go.Proofs.Ytmnjmghlkiljhaa.ro Go.Proofs.Ytmnjmghlkiljhaa.draw
set_option linter.unusedVariables false

def zeros (n : Nat) : ByteArray := ⟨(List.replicate n (0 : UInt8)).toArray⟩
theorem zeros_size (n : Nat) : (zeros n).size = n := by show (List.replicate n (0 : UInt8)).toArray.size = n; simp
/-- new bytes, all zero -/
theorem wpList_make_zeros {o : Oper} {a : Act} {w : World} {ops : Array Oper} {rest : List Oper} {Q : Exit → Act → World → Prop} (hgd : o.guard = none) (l c : Operand) (t : TypeId) (ho : o.op = .makeSlice t l c) (ht : Try.prog.underlying t = some (.slice 5)) (n : Nat) (hn : n ≤ 1048576) (hl : a.eval l = .int .i64 n) (hc : a.eval c = .int .i64 n)
    (h : ∀ b w', Below w.heap.size w w' → (convert 22 9 (.slice (some ⟨b, 0, none⟩) n n)).run Try.prog w' = .ok (.string (zeros n)) w' → wpList Try.prog ops Q rest (a.put o.dst (.slice (some ⟨b, 0, none⟩) n n)) w') : wpList Try.prog ops Q (o :: rest) a w := by
  obtain ⟨i0, hi0, hz0, hz1, hz2⟩ := info_parts infoByte
  refine wpList_make_full _ hgd l c t ho w.heap.size 5 i0 _ 1 ht hi0 hz0 hz1 .i64 .i64 n n n hl hc rfl rfl (by rw [hz2]; omega) (by unfold maxLen; omega) (Nat.le_refl _) ?_
  intro w1 h1 h2
  refine h _ w1 (ro.below_grown h2 (Nat.le_refl _) (fun k hk => by cases hk)) ?_
  have hr : (madeCells (Value.cells (Value.int .u8 0)) (n * 1)).toList = List.replicate n (.int .u8 0) := by simp [Value.cells, toList_madeCells_one]
  rw [hr] at h1
  have := run_convert_bytes_back (P := Try.prog) w1 22 9 5 ⟨w.heap.size, 0, none⟩ n (List.replicate n (0 : UInt8)) Try.underlying22 Try.underlying5 Try.underlying9 (fun j hj => h1.cells (g := w.heap.size) rfl j _ (by simp at hj; simp [hj]))
  rw [List.length_replicate] at this
  exact this

set_option maxRecDepth 100000 in
set_option maxRecDepth 100000 in
set_option maxHeartbeats 8000000 in
theorem l10DrawAny_any (w : World) (p : Nat) (a0 : Option Addr) (len cap : Nat) (hc : Cur w p a0 len cap) :
    Calls Try.prog 78 #[.pointer (some ⟨p, 0, none⟩)] w fun e w' => ∃ (N B : ByteArray) (F C U : Int), e = .returned (.agg #[.string N, .int .i64 F, .string B, .int .i64 C, .int .i64 U]) ∧ GotI w p a0 len cap N B w' := by
  have HC : Hid (Cur w p a0 len cap) := hc
  clear hc
  have m1 : Hid True := trivial
  have m2 : Hid True := trivial
  go_enter Try.func78, Try.ntmps78
  go_upto_region 2 with (first
    | (clear m1; refine wpList_alloc_v rfl 53 rfl _ zeroIt ?_; intro b2 w2 hb2 hw2 hB2 V2; have D2 : Hid (D0i w p a0 len cap b2 w2) := d0i_new HC.out hB2 hb2 V2)
    | (go_at_call 122; refine (l10DrawItem_any w2 p a0 len cap D2.out.cur).mono ?_; rintro e w3 ⟨N, B, F, C, U, rfl, G3⟩; have D3 : Hid (D0i w p a0 len cap b2 w3) := D2.out.went G3.cur G3.gb; have hN := G3.sN; have hB := G3.sB)
    | (refine wpList_alloc_v rfl 53 rfl _ zeroIt ?_; intro b3 w7 hb3 hw3 hB7 V3; have D7 : Hid (D0i w p a0 len cap b2 w7) := D3.out.grow hB7)
    | (refine wpList_store_v rfl 53 _ _ rfl b3 [.string N, .int .i64 F, .string B, .int .i64 C, .int .i64 U] rfl rfl sizeIt V3 rfl (ic_one ⟨N, F, B, C, U⟩) ?_; intro w8 hO8 V8; have D8 : Hid (Di w p a0 len cap b2 b3 N F B C U w8) := ⟨D7.out.hp, cur_below D7.out.cur (hO8.2.2 w3.heap.size hb3) D3.out.cur.1, gb_below D7.out.gb (hO8.2.2 w3.heap.size hb3) D3.out.gb.size, D7.out.lob, Nat.lt_of_lt_of_le D3.out.vb.lt hb3, D7.out.vb.of (hO8.2.1 b2 (Nat.ne_of_lt (Nat.lt_of_lt_of_le D3.out.vb.lt hb3))), V8, hN, hB⟩)
    | (fail))
  clear D2 D3 D7 G3 V2 V3 V8 hO8
  go_upto_if 7 with (first | (go_at_call 87; refine (once_from w8 w8 p a0 len cap _ (by omega) D8.out.cur (World.grownBy.refl _ _)).mono ?_; rintro e w9 ⟨x, rfl, hc9, hg9⟩; have D9 : Hid (Di w p a0 len cap b2 b3 N F B C U w9) := D8.out.went hc9 hg9) | (fail))
  clear hc9 hg9 D8
  go_cut [7] from 7 to 46 (fun u wc => ∃ (N' : ByteArray) (F' : Int) (B' : ByteArray) (C' U' : Int), Hid (Di w p a0 len cap b2 b3 N' F' B' C' U' wc))
  case first =>
    cases x with
    | false =>
      go_wp2
      go_meet
      case rel => exact ⟨N, F, B, C, U, D9⟩
    | true =>
      go_wp2_with (first
        | (clear m2; go_at_call 73; refine (below_from w9 w9 p a0 len cap _ (by omega) D9.out.cur (World.grownBy.refl _ _)).mono ?_; rintro e w10 ⟨k, rfl, hk0, hk1, hc10, hg10⟩; have D10 : Hid (Di w p a0 len cap b2 b3 N F B C U w10) := D9.out.went hc10 hg10; have hk5 : k = 0 ∨ k = 1 ∨ k = 2 ∨ k = 3 ∨ k = 4 := (by omega); rcases hk5 with k0 | k1 | k2 | k3 | k4)
        | (go_at_call 48; refine (l8DrawName_any w10 w10 p a0 len cap D10.out.cur (World.grownBy.refl _ _)).mono ?_; rintro e w11 ⟨s, rfl, hs, hc11, hg11⟩; have D11 := D10.out.went hc11 hg11; obtain ⟨c0, c1, c2, c3, c4⟩ := cells5 D11.vg; obtain ⟨f0, f1, f2, f3, f4⟩ := froz5 D11.vg)
        | (clear k1; go_at_call 73; refine (below_lit w10 w10 p a0 len cap [-1, 65535, 65536] _ 3 (-1) 65536 rfl (by omega) (by intro x hx; simp at hx; omega) D10.out.cur (World.grownBy.refl _ _)).mono ?_; rintro e w11 ⟨z, x2, rfl, hz0, hz1, hcell, hlo, hhi, hc11, hg11⟩; obtain ⟨j, hj⟩ : ∃ j : Nat, z = j := ⟨z.toNat, by omega⟩; subst hj; rw [Int.toNat_natCast] at hcell; have D11 := D10.out.went hc11 hg11; obtain ⟨c0, c1, c2, c3, c4⟩ := cells5 D11.vg; obtain ⟨f0, f1, f2, f3, f4⟩ := froz5 D11.vg)
        | (clear k2; go_at_call 73; refine (below_from w10 w10 p a0 len cap _ (by omega) D10.out.cur (World.grownBy.refl _ _)).mono ?_; rintro e w11 ⟨z, rfl, hz0, hz1, hc11, hg11⟩; have D11 := D10.out.went hc11 hg11; obtain ⟨n, hn⟩ : ∃ n : Nat, Hid ((64 : Int) + z = n) := ⟨(64 + z).toNat, by unfold Hid; omega⟩; have hnw : IntKind.i64.wrap (64 + z) = (n : Int) := (by rw [← hn.out, IntKind.wrap_i64]; omega); have hnl : n ≤ 65 := (by have := hn.out; omega))
        | (refine wpList_make_zeros rfl _ _ 22 rfl Try.underlying22 n (by omega) rfl rfl ?_; intro bz w12 hB12 hcv; have D12 := D11.grow hB12; have hzs := zeros_size n; obtain ⟨s, hsz⟩ := hid_ex (zeros n); rw [hsz.out] at hcv hzs; have hs : s.size ≤ 65 := (by omega); clear hzs; obtain ⟨c0, c1, c2, c3, c4⟩ := cells5 D12.vg; obtain ⟨f0, f1, f2, f3, f4⟩ := froz5 D12.vg)
        | (clear k3; go_at_call 73; refine (below_lit w10 w10 p a0 len cap [0, 1, 1000000, 1000001] _ 4 0 1000001 rfl (by omega) (by intro x hx; simp at hx; omega) D10.out.cur (World.grownBy.refl _ _)).mono ?_; rintro e w11 ⟨z, x2, rfl, hz0, hz1, hcell, hlo, hhi, hc11, hg11⟩; obtain ⟨j, hj⟩ : ∃ j : Nat, z = j := ⟨z.toNat, by omega⟩; subst hj; rw [Int.toNat_natCast] at hcell; have D11 := D10.out.went hc11 hg11; obtain ⟨c0, c1, c2, c3, c4⟩ := cells5 D11.vg; obtain ⟨f0, f1, f2, f3, f4⟩ := froz5 D11.vg)
        | (clear k4; go_at_call 73; refine (below_lit w10 w10 p a0 len cap [-1, 1000000, 1000001] _ 3 (-1) 1000001 rfl (by omega) (by intro x hx; simp at hx; omega) D10.out.cur (World.grownBy.refl _ _)).mono ?_; rintro e w11 ⟨z, x2, rfl, hz0, hz1, hcell, hlo, hhi, hc11, hg11⟩; obtain ⟨j, hj⟩ : ∃ j : Nat, z = j := ⟨z.toNat, by omega⟩; subst hj; rw [Int.toNat_natCast] at hcell; have D11 := D10.out.went hc11 hg11; obtain ⟨c0, c1, c2, c3, c4⟩ := cells5 D11.vg; obtain ⟨f0, f1, f2, f3, f4⟩ := froz5 D11.vg)
        | (fail))
      · go_meet
        case rel => exact ⟨s, F, B, C, U, D11.set 0 (.string s) rfl (by omega) D11.sB⟩
      · go_meet
        case rel => exact ⟨N, x2, B, C, U, D11.set 1 (.int .i64 x2) rfl D11.sN D11.sB⟩
      · go_meet
        case rel => exact ⟨N, F, s, C, U, D12.set 2 (.string s) rfl D12.sN (by omega)⟩
      · go_meet
        case rel => exact ⟨N, F, B, x2, U, D11.set 3 (.int .i64 x2) rfl D11.sN D11.sB⟩
      · go_meet
        case rel => exact ⟨N, F, B, C, x2, D11.set 4 (.int .i64 x2) rfl D11.sN D11.sB⟩
  case rest =>
    obtain ⟨N', F', B', C', U', D10⟩ := hcut
    have V := D10.out.vg
    have V2 := D10.out.vb
    go_wp2_with (first | (refine wpList_load_r rfl 53 _ rfl b3 0 [.string N', .int .i64 F', .string B', .int .i64 C', .int .i64 U'] rfl _ Try.underlying53 rfl sizeIt V.range ?_) | (refine wpList_store_v rfl 53 _ _ rfl b2 [.string N', .int .i64 F', .string B', .int .i64 C', .int .i64 U'] rfl rfl sizeIt V2 rfl (ic_one ⟨N', F', B', C', U'⟩) ?_; intro w12 hO12 V12) | (fail))
    refine row_retv rfl rfl V12 Try.underlying53 sizeIt rfl ⟨_, _, _, _, _, rfl, ?_⟩
    exact D10.out.got hO12
end Go.Proofs.Ytmnjmghlkiljhaa.rg
