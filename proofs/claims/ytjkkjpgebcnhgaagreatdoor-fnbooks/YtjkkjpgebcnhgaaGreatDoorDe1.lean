/- What the laws of chapter 10 draw, first part: a thing. -/
import Derived.Test.YtjkkjpgebcnhgaaGreatDoorMg00
import Derived.Test.YtjkkjpgebcnhgaaGreatDoorMg03
import Derived.Deep.DeepCutAuto
namespace Go.Proofs.YtjkkjpgebcnhgaaGreatDoor.rg
open Go.ChangeShapes Go.WideShapes Go.ChangeAt Go.RowKit
open Go.Proofs.YtjkkjpgebcnhgaaGreatDoor.ce Go.Proofs.YtjkkjpgebcnhgaaGreatDoor.ro Go.Proofs.YtjkkjpgebcnhgaaGreatDoor.draw
set_option linter.unusedVariables false

theorem l1Int_wide (n : Nat) (hn : n ≤ 1000) (w : World) :
    Calls Tryz.prog 69 #[.int .i64 n] w fun e w' => ∃ s : ByteArray, e = .returned (.string s) ∧ s.size ≤ 4000 ∧ Below w.heap.size w w' := by
  have hn0 : ¬ (n : Int) < 0 := by omega
  go_enter Tryz.func69, Tryz.ntmps69
  go_wp2
  go_loopg [0, 3, 5] (2 * n + 1) (fun k v s d wr => ∃ (q : Nat) (out : ByteArray), v = .int .i64 q ∧ s = .string out ∧ q ≤ 1000 ∧ out.size + 2 * q ≤ 3000 ∧ (out.toList = [] → 2 * q + 1 ≤ k) ∧ (out.toList ≠ [] → 2 * q ≤ k ∧ out.size ≤ 3000) ∧ Below w.heap.size w wr)
  case atStart => exact ⟨n, ⟨#[]⟩, rfl, rfl, hn, by show 0 + 2 * n ≤ 3000; omega, fun _ => Nat.le_refl _, fun h => ⟨by omega, by show 0 ≤ 3000; omega⟩, Below.refl _ _⟩
  case round =>
    obtain ⟨q, out, rfl, rfl, hq, hsz, hk1, hk2, hB⟩ := hrel
    have HK1 : Hid (out.toList = [] → 2 * q + 1 ≤ gk) := hk1
    have HK2 : Hid (out.toList ≠ [] → 2 * q ≤ gk ∧ out.size ≤ 3000) := hk2
    clear hk1 hk2
    obtain ⟨d, hd⟩ := hid_ex (q % 10)
    have hd9 : d ≤ 9 := by have := hd.out; omega
    have hcv := dig_conv d hd9 wr
    have hds : (dig d).size = 1 := rfl
    have hmod : (q : Int) % 10 = (d : Int) := by have := hd.out; omega
    obtain ⟨q2, hq2⟩ := hid_ex (q / 10)
    have hdiv : (q : Int) / 10 = (q2 : Int) := by have := hq2.out; omega
    have hd0 : ¬ (d : Int) < 0 := by omega
    have hout : (dig d ++ out).size = 1 + out.size := by rw [ByteArray.size_append]; rfl
    have hne : Hid ((dig d ++ out).toList ≠ []) := by
      unfold Hid
      intro e
      have h1 : (dig d ++ out).data.toList = [] := by rw [← ByteArray.toList_eq]; exact e
      have h2 : (dig d ++ out).size = 0 := by show (dig d ++ out).data.size = 0; rw [← Array.length_toList, h1]; rfl
      omega
    by_cases he : out.toList = []
    · have hb : (out.toList == []) = true := by rw [he]; rfl
      have hs0 : out.size ≤ 0 := by
        have h1 : out.data.toList = [] := by rw [← ByteArray.toList_eq]; exact he
        show out.data.size ≤ 0
        rw [← Array.length_toList, h1]
        exact Nat.le_refl _
      go_wp2
      go_roundg (2 * q2)
      case measure => have := HK1.out he; have := hq2.out; omega
      case rel => exact ⟨q2, dig d ++ out, rfl, rfl, by have := hq2.out; omega, by have := hq2.out; omega, fun h => absurd h hne.out, fun _ => ⟨Nat.le_refl _, by omega⟩, hB.alloc hB.size _⟩
    · have hb : (out.toList == []) = false := by
        cases hx : out.toList with
        | nil => exact absurd hx he
        | cons x r => rfl
      by_cases hq0 : q = 0
      · have hqb : ((q : Int) != 0) = false := by rw [hq0]; rfl
        have hs3 : out.size ≤ 3000 := by omega
        clear hq0 he
        go_wp2
        go_ret
        exact ⟨out, rfl, by omega, hB⟩
      · have hqb : ((q : Int) != 0) = true := by simp; omega
        have hlt : q2 < q := by have := hq2.out; omega
        have HE : Hid (out.toList ≠ []) := he
        clear he hq0
        go_wp2
        go_roundg (2 * q2)
        case measure => have := (HK2.out HE.out).1; omega
        case rel => exact ⟨q2, dig d ++ out, rfl, rfl, by have := hq2.out; omega, by have := hq2.out; omega, fun h => absurd h hne.out, fun _ => ⟨Nat.le_refl _, by omega⟩, hB.alloc hB.size _⟩

/-- no text of the thing is long -/
def SmI (i : It) : Prop := i.N.size ≤ 4000 ∧ i.B.size ≤ 4000
/-- while a thing is drawn: the cursor in p, the answer's variable in b, the thing in g -/
structure Di (w : World) (p : Nat) (a0 : Option Addr) (len cap : Nat) (b g : Nat) (N : ByteArray) (F : Int) (B : ByteArray) (C U : Int) (wr : World) : Prop where
  hp : p < w.heap.size
  cur : Cur wr p a0 len cap
  gb : w.grownBy wr (some p)
  lob : w.heap.size ≤ b
  lt : b < g
  vb : VBlk wr b 56 [.string ⟨#[]⟩, .int .i64 0, .string ⟨#[]⟩, .int .i64 0, .int .i64 0]
  vg : VBlk wr g 56 [.string N, .int .i64 F, .string B, .int .i64 C, .int .i64 U]
  sN : N.size ≤ 4000
  sB : B.size ≤ 4000
section
variable {w : World} {p : Nat} {a0 : Option Addr} {len cap b g : Nat} {N B : ByteArray} {F C U : Int} {wr w' : World}
theorem Di.went (D : Di w p a0 len cap b g N F B C U wr) (hc : Cur w' p a0 len cap) (hg : wr.grownBy w' (some p)) : Di w p a0 len cap b g N F B C U w' := by
  have hp := D.hp
  have h1 := D.lob
  have h2 := D.lt
  exact ⟨D.hp, hc, gb_trans D.gb hg, D.lob, D.lt, D.vb.of (hg.block b D.vb.lt (fun e => by cases e; omega)), D.vg.of (hg.block g D.vg.lt (fun e => by cases e; omega)), D.sN, D.sB⟩
theorem Di.grow (D : Di w p a0 len cap b g N F B C U wr) (hB : Below wr.heap.size wr w') : Di w p a0 len cap b g N F B C U w' :=
  ⟨D.hp, cur_below D.cur hB D.cur.1, gb_below D.gb hB D.gb.size, D.lob, D.lt, vblk_grow D.vb hB, vblk_grow D.vg hB, D.sN, D.sB⟩
/-- one field of the thing is stored -/
theorem Di.set (D : Di w p a0 len cap b g N F B C U wr) (j : Nat) (u : Value) {N' B' : ByteArray} {F' C' U' : Int} (h : [Value.string N, .int .i64 F, .string B, .int .i64 C, .int .i64 U].set j u = [.string N', .int .i64 F', .string B', .int .i64 C', .int .i64 U']) (sN : N'.size ≤ 4000) (sB : B'.size ≤ 4000) : Di w p a0 len cap b g N' F' B' C' U' (wr.setCell ⟨g, j, none⟩ u) := by
  have hp := D.hp
  have h1 := D.lob
  have h2 := D.lt
  have hO := only_set wr g j u
  refine ⟨D.hp, cur_below D.cur (hO.2.2 g (Nat.le_refl _)) (by omega), gb_below D.gb (hO.2.2 g (Nat.le_refl _)) (by omega), D.lob, D.lt, D.vb.of (hO.2.1 b (by omega)), ?_, sN, sB⟩
  rw [← h]
  exact D.vg.set j u
end
/-- while a thing is begun: the cursor in p, the answer's variable in b -/
structure D0i (w : World) (p : Nat) (a0 : Option Addr) (len cap : Nat) (b : Nat) (wr : World) : Prop where
  hp : p < w.heap.size
  cur : Cur wr p a0 len cap
  gb : w.grownBy wr (some p)
  lob : w.heap.size ≤ b
  vb : VBlk wr b 56 [.string ⟨#[]⟩, .int .i64 0, .string ⟨#[]⟩, .int .i64 0, .int .i64 0]
section
variable {w : World} {p : Nat} {a0 : Option Addr} {len cap b g : Nat} {wr w' w'' : World}
theorem d0i_new (hc : Cur w p a0 len cap) (hB : Below w.heap.size w w') (hl : w.heap.size ≤ b) (hv : VBlk w' b 56 [.string ⟨#[]⟩, .int .i64 0, .string ⟨#[]⟩, .int .i64 0, .int .i64 0]) : D0i w p a0 len cap b w' :=
  ⟨hc.1, cur_below hc hB hc.1, gb_below (World.grownBy.refl _ _) hB (Nat.le_refl _), hl, hv⟩
theorem D0i.went (D : D0i w p a0 len cap b wr) (hc : Cur w' p a0 len cap) (hg : wr.grownBy w' (some p)) : D0i w p a0 len cap b w' := by
  have hp := D.hp
  have h1 := D.lob
  exact ⟨D.hp, hc, gb_trans D.gb hg, D.lob, D.vb.of (hg.block b D.vb.lt (fun e => by cases e; omega))⟩
theorem D0i.grow (D : D0i w p a0 len cap b wr) (hB : Below wr.heap.size wr w') : D0i w p a0 len cap b w' :=
  ⟨D.hp, cur_below D.cur hB D.cur.1, gb_below D.gb hB D.gb.size, D.lob, vblk_grow D.vb hB⟩
end
/-- what was drawn: a thing -/
structure GotI (w : World) (p : Nat) (a0 : Option Addr) (len cap : Nat) (N B : ByteArray) (w' : World) : Prop where
  cur : Cur w' p a0 len cap
  gb : w.grownBy w' (some p)
  sN : N.size ≤ 4000
  sB : B.size ≤ 4000
theorem Di.got {w : World} {p : Nat} {a0 : Option Addr} {len cap b g : Nat} {N B : ByteArray} {F C U : Int} {wr w' : World} (D : Di w p a0 len cap b g N F B C U wr) (hO : Only b wr w') : GotI w p a0 len cap N B w' :=
  ⟨cur_below D.cur (hO.2.2 w.heap.size D.lob) D.hp, gb_below D.gb (hO.2.2 w.heap.size D.lob) (Nat.le_refl _), D.sN, D.sB⟩

set_option maxRecDepth 100000 in
set_option maxHeartbeats 4000000 in
theorem l10DrawItem_any (w : World) (p : Nat) (a0 : Option Addr) (len cap : Nat) (hc : Cur w p a0 len cap) :
    Calls Tryz.prog 101 #[.pointer (some ⟨p, 0, none⟩)] w fun e w' => ∃ (N B : ByteArray) (F C U : Int), e = .returned (.agg #[.string N, .int .i64 F, .string B, .int .i64 C, .int .i64 U]) ∧ GotI w p a0 len cap N B w' := by
  have HC : Hid (Cur w p a0 len cap) := hc
  clear hc
  have m1 : Hid True := trivial
  have m2 : Hid True := trivial
  have m3 : Hid True := trivial
  have m4 : Hid True := trivial
  have m5 : Hid True := trivial
  have m6 : Hid True := trivial
  have m7 : Hid True := trivial
  go_enter Tryz.func101, Tryz.ntmps101
  go_upto_region 2 with (first
    | (clear m1; refine wpList_alloc_v rfl 56 rfl _ zeroIt ?_; intro b2 w2 hb2 hw2 hB2 V2; have D2 : Hid (D0i w p a0 len cap b2 w2) := d0i_new HC.out hB2 hb2 V2)
    | (go_at_call 115; refine (name_from w2 w2 p a0 len cap D2.out.cur (World.grownBy.refl _ _)).mono ?_; rintro e w3 ⟨N, rfl, hN, hc3, hg3⟩; have D3 : Hid (D0i w p a0 len cap b2 w3) := D2.out.went hc3 hg3)
    | (clear m2; go_at_call 50; refine (below_from w3 w3 p a0 len cap _ (by omega) D3.out.cur (World.grownBy.refl _ _)).mono ?_; rintro e w4 ⟨F, rfl, hx0, hx1, hc4, hg4⟩; have D4 : Hid (D0i w p a0 len cap b2 w4) := D3.out.went hc4 hg4)
    | (go_at_call 116; refine (drawText_from w4 w4 p a0 len cap _ _ (by decide) (by decide) (by omega) (by omega) D4.out.cur (World.grownBy.refl _ _)).mono ?_; rintro e w5 ⟨B, rfl, hBs, hc5, hg5⟩; have D5 : Hid (D0i w p a0 len cap b2 w5) := D4.out.went hc5 hg5)
    | (clear m3; go_at_call 50; refine (below_from w5 w5 p a0 len cap _ (by omega) D5.out.cur (World.grownBy.refl _ _)).mono ?_; rintro e w6 ⟨c, rfl, hy0, hy1, hc6, hg6⟩; have D6 : Hid (D0i w p a0 len cap b2 w6) := D5.out.went hc6 hg6; obtain ⟨C, hC⟩ := hid_ex (1 + c); have hCw : IntKind.i64.wrap (1 + c) = C := (by rw [← hC.out, IntKind.wrap_i64]; omega))
    | (refine wpList_alloc_v rfl 56 rfl _ zeroIt ?_; intro b3 w7 hb3 hw3 hB7 V3; have D7 : Hid (D0i w p a0 len cap b2 w7) := D6.out.grow hB7)
    | (refine wpList_store_v rfl 56 _ _ rfl b3 [.string N, .int .i64 F, .string B, .int .i64 C, .int .i64 0] rfl rfl sizeIt V3 rfl (ic_one ⟨N, F, B, C, 0⟩) ?_; intro w8 hO8 V8; have D8 : Hid (Di w p a0 len cap b2 b3 N F B C 0 w8) := ⟨D7.out.hp, cur_below D7.out.cur (hO8.2.2 w6.heap.size hb3) D6.out.cur.1, gb_below D7.out.gb (hO8.2.2 w6.heap.size hb3) D6.out.gb.size, D7.out.lob, Nat.lt_of_lt_of_le D6.out.vb.lt hb3, D7.out.vb.of (hO8.2.1 b2 (Nat.ne_of_lt (Nat.lt_of_lt_of_le D6.out.vb.lt hb3))), V8, (by omega), (by omega)⟩)
    | (fail))
  clear D2 D3 D4 D5 D6 D7 hc3 hg3 hc4 hg4 hc5 hg5 hc6 hg6 V2 V3 V8 hO8
  have SB : Hid (B.size ≤ 4000) := Nat.le_trans hBs (by omega)
  clear hBs
  go_upto_if 15 with (first | (go_at_call 49; refine (once_from w8 w8 p a0 len cap _ (by omega) D8.out.cur (World.grownBy.refl _ _)).mono ?_; rintro e w9 ⟨x, rfl, hc9, hg9⟩; have D9 : Hid (Di w p a0 len cap b2 b3 N F B C 0 w9) := D8.out.went hc9 hg9) | (fail))
  go_cut [15] from 15 to 19 (fun u wc => ∃ B' : ByteArray, Hid (Di w p a0 len cap b2 b3 N F B' C 0 wc))
  case first =>
    cases x with
    | false =>
      go_wp2
      go_meet
      case rel => exact ⟨B, D9⟩
    | true =>
      go_wp2_with (first | (go_at_call 50; refine (below_from w9 w9 p a0 len cap _ (by omega) D9.out.cur (World.grownBy.refl _ _)).mono ?_; rintro e w10 ⟨k, rfl, hk0, hk1, hc10, hg10⟩; obtain ⟨kn, hkn⟩ : ∃ kn : Nat, k = kn := ⟨k.toNat, by omega⟩; subst hkn; have D10 := D9.out.went hc10 hg10) | (go_at_call 69; refine (l1Int_wide kn (by omega) _).mono ?_; rintro e w11 ⟨s, rfl, hs, hB11⟩; have D11 := D10.grow hB11; obtain ⟨c0, c1, c2, c3, c4⟩ := cells5 D11.vg; obtain ⟨f0, f1, f2, f3, f4⟩ := froz5 D11.vg) | (fail))
      go_meet
      case rel => exact ⟨s, D11.set 2 (.string s) rfl D11.sN hs⟩
  case rest =>
    obtain ⟨B', D10⟩ := hcut
    go_upto_if 21 with (first | (go_at_call 49; refine (once_from wc wc p a0 len cap _ (by omega) D10.out.cur (World.grownBy.refl _ _)).mono ?_; rintro e w11 ⟨y, rfl, hc11, hg11⟩; have D11 : Hid (Di w p a0 len cap b2 b3 N F B' C 0 w11) := D10.out.went hc11 hg11) | (fail))
    cases y with
    | false =>
      have V := D11.out.vg
      have V2 := D11.out.vb
      go_wp2_with (first | (refine wpList_load_r rfl 56 _ rfl b3 0 [.string N, .int .i64 F, .string B', .int .i64 C, .int .i64 0] rfl _ Tryz.underlying56 rfl sizeIt V.range ?_) | (refine wpList_store_v rfl 56 _ _ rfl b2 [.string N, .int .i64 F, .string B', .int .i64 C, .int .i64 0] rfl rfl sizeIt V2 rfl (ic_one ⟨N, F, B', C, 0⟩) ?_; intro w12 hO12 V12) | (fail))
      refine row_retv rfl rfl V12 Tryz.underlying56 sizeIt rfl ⟨_, _, _, _, _, rfl, ?_⟩
      exact D11.out.got hO12
    | true =>
      go_wp2_with (first | (go_at_call 50; refine (below_from w11 w11 p a0 len cap _ (by omega) D11.out.cur (World.grownBy.refl _ _)).mono ?_; rintro e w12 ⟨k, rfl, hk0, hk1, hc12, hg12⟩; have D12 := D11.out.went hc12 hg12; obtain ⟨c0, c1, c2, c3, c4⟩ := cells5 D12.vg; obtain ⟨f0, f1, f2, f3, f4⟩ := froz5 D12.vg; have D13 : Hid (Di w p a0 len cap b2 b3 N F B' C k (w12.setCell ⟨b3, 4, none⟩ (.int .i64 k))) := D12.set 4 (.int .i64 k) rfl D12.sN D12.sB) | (clear m4; refine wpList_load_r rfl 56 _ rfl b3 0 [.string N, .int .i64 F, .string B', .int .i64 C, .int .i64 k] rfl _ Tryz.underlying56 rfl sizeIt D13.out.vg.range ?_) | (refine wpList_store_v rfl 56 _ _ rfl b2 [.string N, .int .i64 F, .string B', .int .i64 C, .int .i64 k] rfl rfl sizeIt D13.out.vb rfl (ic_one ⟨N, F, B', C, k⟩) ?_; intro w14 hO14 V14) | (fail))
      refine row_retv rfl rfl V14 Tryz.underlying56 sizeIt rfl ⟨_, _, _, _, _, rfl, ?_⟩
      exact D13.out.got hO14
end Go.Proofs.YtjkkjpgebcnhgaaGreatDoor.rg
