/- Texts laid together: Dd4 Dd5 Dd6 Dd7. -/
import Derived.Test.YtjkkjpgebcnhgaaGreatDoorMg20
import Derived.Test.YtjkkjpgebcnhgaaGreatDoorWr5
import Derived.Deep.DeepCutAuto
import Derived.Deep.RegionHeld3
import Derived.BigQuiet
/- Contracts: the program's deeds that count. -/
namespace Go.Proofs.YtjkkjpgebcnhgaaGreatDoor.rg
open Go.ChangeShapes Go.WideShapes Go.ChangeAt Go.RowKit
open Go.Deep Go.Joins
open Go.Proofs.YtjkkjpgebcnhgaaGreatDoor.ce Go.Proofs.YtjkkjpgebcnhgaaGreatDoor.ro Go.Proofs.YtjkkjpgebcnhgaaGreatDoor.cm
set_option linter.unusedVariables false

theorem up1_any (b : Nat) (V : Int) (N2 : ByteArray) (F2 U2 : Int) (B2 : ByteArray) (C2 D2 : Int) (Q2 : Bool) (n : Nat) (hn : n ≤ 999999999) (hD : 0 ≤ D2 ∧ D2 ≤ 1000000) (w : World) (K : VBlk w b 37 [.int .i64 V, .string N2, .int .i64 F2, .int .i64 U2, .string B2, .int .i64 C2, .int .i64 D2, .bool Q2]) (h9 : V = 9) :
    Calls Tryz.prog 113 #[.int .i64 n, .pointer (some ⟨b, 0, none⟩)] w fun e w' => e = .returned (.int .i64 (upN ⟨V, N2, F2, U2, B2, C2, D2, Q2⟩ n : Nat)) ∧ w' = w := by
  obtain ⟨c0, c1, c2, c3, c4, c5, c6, c7⟩ := cellsCm K
  have hw : IntKind.i64.wrap ((n : Int) + D2) = (n : Int) + D2 := by rw [IntKind.wrap_i64]; omega
  have hq : ((n : Int) + D2).tmod 1000000000 = ((upN ⟨V, N2, F2, U2, B2, C2, D2, Q2⟩ n : Nat) : Int) := by
    unfold upN
    rw [if_pos h9, Int.tmod_eq_emod_of_nonneg (by omega)]
    simp only [Int.natCast_emod, Int.natCast_add]
    rw [Int.toNat_of_nonneg hD.1]
    rfl
  have hm0 := up_lt (c := ⟨V, N2, F2, U2, B2, C2, D2, Q2⟩) hn
  obtain ⟨m, hm⟩ := hid_ex (upN ⟨V, N2, F2, U2, B2, C2, D2, Q2⟩ n)
  rw [hm.out] at hq hm0 ⊢
  clear hm h9
  go_enter Tryz.func113, Tryz.ntmps113
  go_wp2
  go_ret
  exact ⟨rfl, rfl⟩
theorem down1_any (b : Nat) (V : Int) (N2 : ByteArray) (F2 U2 : Int) (B2 : ByteArray) (C2 D2 : Int) (Q2 : Bool) (n : Nat) (hn : n ≤ 999999999) (hD : 0 ≤ D2 ∧ D2 ≤ 1000000) (w : World) (K : VBlk w b 37 [.int .i64 V, .string N2, .int .i64 F2, .int .i64 U2, .string B2, .int .i64 C2, .int .i64 D2, .bool Q2]) (h9 : V ≠ 9) :
    Calls Tryz.prog 114 #[.int .i64 n, .pointer (some ⟨b, 0, none⟩)] w fun e w' => e = .returned (.int .i64 (upN ⟨V, N2, F2, U2, B2, C2, D2, Q2⟩ n : Nat)) ∧ w' = w := by
  obtain ⟨c0, c1, c2, c3, c4, c5, c6, c7⟩ := cellsCm K
  have hw : IntKind.i64.wrap ((n : Int) - D2) = (n : Int) - D2 := by rw [IntKind.wrap_i64]; omega
  have hq : max ((n : Int) - D2) 0 = ((upN ⟨V, N2, F2, U2, B2, C2, D2, Q2⟩ n : Nat) : Int) := by
    unfold upN
    rw [if_neg h9]
    dsimp only
    omega
  obtain ⟨m, hm⟩ := hid_ex (upN ⟨V, N2, F2, U2, B2, C2, D2, Q2⟩ n)
  rw [hm.out] at hq ⊢
  clear hm h9
  go_enter Tryz.func114, Tryz.ntmps114
  go_wp2
  go_ret
  exact ⟨rfl, rfl⟩
set_option maxRecDepth 100000 in
set_option maxHeartbeats 2000000 in
theorem count_no (I : List It) (X : Int) (N B : ByteArray) (F C U : Int) (V : Int) (N2 : ByteArray) (F2 U2 : Int) (B2 : ByteArray) (C2 D2 : Int) (Q2 : Bool) (bc : Nat) (v : Value) (lo : Nat) (w : World) (o : Own encIt w lo w.heap.size v I) (hlo : lo ≤ w.heap.size) (ok : StOk ⟨I, X⟩) (hN : N.size ≤ 1048576) (hBs : B.size ≤ 1048576) (kc : VBlk w bc 37 [.int .i64 V, .string N2, .int .i64 F2, .int .i64 U2, .string B2, .int .i64 C2, .int .i64 D2, .bool Q2]) (en : EnvD w) (G : Nat) (hno : numB B = none) :
    Calls Tryz.prog 112 #[.agg #[v, .int .i64 X], .agg #[.string N, .int .i64 F, .string B, .int .i64 C, .int .i64 U], .func (.func G) #[] #[.pointer (some ⟨bc, 0, none⟩)]] w fun e w' => PostD ⟨I, X⟩ (rp 11) lo w e w' := by
  have hcf : True := trivial
  obtain ⟨⟨a, b⟩, hr⟩ := hid_ex (rdF (bs B))
  have hab : b = false ∨ a < 0 := by
    cases b with
    | false => exact .inl rfl
    | true =>
      refine .inr ?_
      by_cases h0 : 0 ≤ a
      · obtain ⟨n, -, hn⟩ := num_in hr.out h0
        rw [hno] at hn; cases hn
      · omega
  clear hno
  cases b with
  | false =>
    clear hab
    have h0 : True := trivial -- false
    obtain ⟨A0, n0, k0, rfl⟩ := o.slice
    have EN : Hid (EnvD w) := en
    clear en
    have hbc := kc.lt
    have hcx := hcf
    have hzw0 : w.heap.size ≤ w.heap.size := Nat.le_refl _
    go_enter Tryz.func112, Tryz.ntmps112
    have mk1 : Hid True := trivial
    have mk2 : Hid True := trivial
    have mk3 : Hid True := trivial
    have mk4 : Hid True := trivial
    have mk5 : Hid True := trivial
    have mk6 : Hid True := trivial
    have mk7 : Hid True := trivial
    have mk8 : Hid True := trivial
    go_wp2_with (first | (clear mk1; refine wpList_box_v rfl 31 _ rfl [.slice A0 n0 k0, .int .i64 X] rfl ?_; intro b3 w1 hb3 hwb3 hB1 c3; have hz1 : w.heap.size ≤ w1.heap.size := hB1.size; replace o := o.grow hB1; replace kc := vblk_grow kc hB1; have hB := hB1; have hzw := hB.size; obtain ⟨c30, c31⟩ := cells2 c3) | (clear mk2; refine wpList_box_v rfl 56 _ rfl [.string N, .int .i64 F, .string B, .int .i64 C, .int .i64 U] rfl ?_; intro b4 w2 hb4 hwb4 hB2 c4; have hz2 : w1.heap.size ≤ w2.heap.size := hB2.size; replace o := o.grow hB2; replace kc := vblk_grow kc hB2; replace c3 := vblk_grow c3 hB2; replace hB := hB.trans (hB2.mono (by omega)); replace hzw := hB.size; clear c30 c31; obtain ⟨c30, c31⟩ := cells2 c3; obtain ⟨c40, c41, c42, c43, c44⟩ := cells5 c4) | (clear mk3; refine wpList_alloc_v rfl 31 rfl _ zeroBk ?_; intro b6 w3 hb6 hwb6 hB3 c6; have hz3 : w2.heap.size ≤ w3.heap.size := hB3.size; replace o := o.grow hB3; replace kc := vblk_grow kc hB3; replace c3 := vblk_grow c3 hB3; replace c4 := vblk_grow c4 hB3; replace hB := hB.trans (hB3.mono (by omega)); replace hzw := hB.size; clear c30 c31; obtain ⟨c30, c31⟩ := cells2 c3; clear c40 c41 c42 c43 c44; obtain ⟨c40, c41, c42, c43, c44⟩ := cells5 c4; obtain ⟨c60, c61⟩ := cells2 c6) | (clear mk4; refine wpList_alloc_v rfl 33 rfl _ zeroRp ?_; intro b7 w4 hb7 hwb7 hB4 c7; have hz4 : w3.heap.size ≤ w4.heap.size := hB4.size; replace o := o.grow hB4; replace kc := vblk_grow kc hB4; replace c3 := vblk_grow c3 hB4; replace c4 := vblk_grow c4 hB4; replace c6 := vblk_grow c6 hB4; replace hB := hB.trans (hB4.mono (by omega)); replace hzw := hB.size; clear c30 c31; obtain ⟨c30, c31⟩ := cells2 c3; clear c40 c41 c42 c43 c44; obtain ⟨c40, c41, c42, c43, c44⟩ := cells5 c4; clear c60 c61; obtain ⟨c60, c61⟩ := cells2 c6; obtain ⟨c70, c71, c72, c73, c74, c75⟩ := cellsRp c7) | (clear mk5; go_at_call 124; refine (numberFrom_d B hBs _ (EN.out.grow hB) a false hr).mono ?_; rintro er w5 ⟨rfl, hB5⟩; have hz5 : w4.heap.size ≤ w5.heap.size := hB5.size; replace o := o.grow hB5; replace kc := vblk_grow kc hB5; replace c3 := vblk_grow c3 hB5; replace c4 := vblk_grow c4 hB5; replace c6 := vblk_grow c6 hB5; replace c7 := vblk_grow c7 hB5; replace hB := hB.trans (hB5.mono (by omega)); replace hzw := hB.size; clear c30 c31; obtain ⟨c30, c31⟩ := cells2 c3; clear c40 c41 c42 c43 c44; obtain ⟨c40, c41, c42, c43, c44⟩ := cells5 c4; clear c60 c61; obtain ⟨c60, c61⟩ := cells2 c6; clear c70 c71 c72 c73 c74 c75; obtain ⟨c70, c71, c72, c73, c74, c75⟩ := cellsRp c7) | (clear mk6; refine wpList_load_r rfl 31 _ rfl b3 0 [.slice A0 n0 k0, .int .i64 X] rfl _ Tryz.underlying31 rfl sizeBk c3.range ?_) | (clear mk7; refine wpList_store_v rfl 31 _ _ rfl b6 [.slice A0 n0 k0, .int .i64 X] rfl rfl sizeBk c6 rfl (oneBk _ _ _ _) ?_; intro w6 hO6 c6x; clear c60 c61; have hz6 : w5.heap.size ≤ w6.heap.size := (Nat.le_of_eq hO6.1.symm); have hy6 : w6.heap.size ≤ w5.heap.size := (Nat.le_of_eq hO6.1); replace o := o.only hO6 c6 (by decide); replace kc := vblk_only kc hO6 (by omega); replace c3 := vblk_only c3 hO6 (by omega); replace c4 := vblk_only c4 hO6 (by omega); replace c7 := vblk_only c7 hO6 (by omega); replace hB := hB.trans (hO6.2.2 _ (by omega)); replace hzw := hB.size; clear c30 c31; obtain ⟨c30, c31⟩ := cells2 c3; clear c40 c41 c42 c43 c44; obtain ⟨c40, c41, c42, c43, c44⟩ := cells5 c4; clear c70 c71 c72 c73 c74 c75; obtain ⟨c70, c71, c72, c73, c74, c75⟩ := cellsRp c7; clear c6; have c6 := c6x; clear c6x; obtain ⟨c60, c61⟩ := cells2 c6) | (clear mk8; refine wpList_store_v rfl 33 _ _ rfl b7 [.int .i64 11, .string ⟨#[]⟩, .int .i64 0, .string ⟨#[]⟩, .int .i64 0, .int .i64 0] rfl rfl sizeRp c7 rfl (oneRp (rp 11)) ?_; intro w7 hO7 c7x; clear c70 c71 c72 c73 c74 c75; have hz7 : w6.heap.size ≤ w7.heap.size := (Nat.le_of_eq hO7.1.symm); have hy7 : w7.heap.size ≤ w6.heap.size := (Nat.le_of_eq hO7.1); replace o := o.only hO7 c7 (by decide); replace kc := vblk_only kc hO7 (by omega); replace c3 := vblk_only c3 hO7 (by omega); replace c4 := vblk_only c4 hO7 (by omega); replace c6 := vblk_only c6 hO7 (by omega); replace hB := hB.trans (hO7.2.2 _ (by omega)); replace hzw := hB.size; clear c30 c31; obtain ⟨c30, c31⟩ := cells2 c3; clear c40 c41 c42 c43 c44; obtain ⟨c40, c41, c42, c43, c44⟩ := cells5 c4; clear c60 c61; obtain ⟨c60, c61⟩ := cells2 c6; clear c7; have c7 := c7x; clear c7x; obtain ⟨c70, c71, c72, c73, c74, c75⟩ := cellsRp c7) | (fail))
    exact row_cc rfl rfl rfl c6 c7 Tryz.underlying31 Tryz.underlying33 sizeBk sizeRp rfl ⟨_, rfl, (o.wide (Nat.le_refl _) (by omega)).top, hB⟩
  | true =>
    have h0 : a < 0 := by simpa using hab
    have h1 : decide (a < 0) = true := decide_eq_true h0
    clear hab h0
    obtain ⟨A0, n0, k0, rfl⟩ := o.slice
    have EN : Hid (EnvD w) := en
    clear en
    have hbc := kc.lt
    have hcx := hcf
    have hzw0 : w.heap.size ≤ w.heap.size := Nat.le_refl _
    go_enter Tryz.func112, Tryz.ntmps112
    have mk1 : Hid True := trivial
    have mk2 : Hid True := trivial
    have mk3 : Hid True := trivial
    have mk4 : Hid True := trivial
    have mk5 : Hid True := trivial
    have mk6 : Hid True := trivial
    have mk7 : Hid True := trivial
    have mk8 : Hid True := trivial
    go_wp2_with (first | (clear mk1; refine wpList_box_v rfl 31 _ rfl [.slice A0 n0 k0, .int .i64 X] rfl ?_; intro b3 w1 hb3 hwb3 hB1 c3; have hz1 : w.heap.size ≤ w1.heap.size := hB1.size; replace o := o.grow hB1; replace kc := vblk_grow kc hB1; have hB := hB1; have hzw := hB.size; obtain ⟨c30, c31⟩ := cells2 c3) | (clear mk2; refine wpList_box_v rfl 56 _ rfl [.string N, .int .i64 F, .string B, .int .i64 C, .int .i64 U] rfl ?_; intro b4 w2 hb4 hwb4 hB2 c4; have hz2 : w1.heap.size ≤ w2.heap.size := hB2.size; replace o := o.grow hB2; replace kc := vblk_grow kc hB2; replace c3 := vblk_grow c3 hB2; replace hB := hB.trans (hB2.mono (by omega)); replace hzw := hB.size; clear c30 c31; obtain ⟨c30, c31⟩ := cells2 c3; obtain ⟨c40, c41, c42, c43, c44⟩ := cells5 c4) | (clear mk3; refine wpList_alloc_v rfl 31 rfl _ zeroBk ?_; intro b6 w3 hb6 hwb6 hB3 c6; have hz3 : w2.heap.size ≤ w3.heap.size := hB3.size; replace o := o.grow hB3; replace kc := vblk_grow kc hB3; replace c3 := vblk_grow c3 hB3; replace c4 := vblk_grow c4 hB3; replace hB := hB.trans (hB3.mono (by omega)); replace hzw := hB.size; clear c30 c31; obtain ⟨c30, c31⟩ := cells2 c3; clear c40 c41 c42 c43 c44; obtain ⟨c40, c41, c42, c43, c44⟩ := cells5 c4; obtain ⟨c60, c61⟩ := cells2 c6) | (clear mk4; refine wpList_alloc_v rfl 33 rfl _ zeroRp ?_; intro b7 w4 hb7 hwb7 hB4 c7; have hz4 : w3.heap.size ≤ w4.heap.size := hB4.size; replace o := o.grow hB4; replace kc := vblk_grow kc hB4; replace c3 := vblk_grow c3 hB4; replace c4 := vblk_grow c4 hB4; replace c6 := vblk_grow c6 hB4; replace hB := hB.trans (hB4.mono (by omega)); replace hzw := hB.size; clear c30 c31; obtain ⟨c30, c31⟩ := cells2 c3; clear c40 c41 c42 c43 c44; obtain ⟨c40, c41, c42, c43, c44⟩ := cells5 c4; clear c60 c61; obtain ⟨c60, c61⟩ := cells2 c6; obtain ⟨c70, c71, c72, c73, c74, c75⟩ := cellsRp c7) | (clear mk5; go_at_call 124; refine (numberFrom_d B hBs _ (EN.out.grow hB) a true hr).mono ?_; rintro er w5 ⟨rfl, hB5⟩; have hz5 : w4.heap.size ≤ w5.heap.size := hB5.size; replace o := o.grow hB5; replace kc := vblk_grow kc hB5; replace c3 := vblk_grow c3 hB5; replace c4 := vblk_grow c4 hB5; replace c6 := vblk_grow c6 hB5; replace c7 := vblk_grow c7 hB5; replace hB := hB.trans (hB5.mono (by omega)); replace hzw := hB.size; clear c30 c31; obtain ⟨c30, c31⟩ := cells2 c3; clear c40 c41 c42 c43 c44; obtain ⟨c40, c41, c42, c43, c44⟩ := cells5 c4; clear c60 c61; obtain ⟨c60, c61⟩ := cells2 c6; clear c70 c71 c72 c73 c74 c75; obtain ⟨c70, c71, c72, c73, c74, c75⟩ := cellsRp c7) | (clear mk6; refine wpList_load_r rfl 31 _ rfl b3 0 [.slice A0 n0 k0, .int .i64 X] rfl _ Tryz.underlying31 rfl sizeBk c3.range ?_) | (clear mk7; refine wpList_store_v rfl 31 _ _ rfl b6 [.slice A0 n0 k0, .int .i64 X] rfl rfl sizeBk c6 rfl (oneBk _ _ _ _) ?_; intro w6 hO6 c6x; clear c60 c61; have hz6 : w5.heap.size ≤ w6.heap.size := (Nat.le_of_eq hO6.1.symm); have hy6 : w6.heap.size ≤ w5.heap.size := (Nat.le_of_eq hO6.1); replace o := o.only hO6 c6 (by decide); replace kc := vblk_only kc hO6 (by omega); replace c3 := vblk_only c3 hO6 (by omega); replace c4 := vblk_only c4 hO6 (by omega); replace c7 := vblk_only c7 hO6 (by omega); replace hB := hB.trans (hO6.2.2 _ (by omega)); replace hzw := hB.size; clear c30 c31; obtain ⟨c30, c31⟩ := cells2 c3; clear c40 c41 c42 c43 c44; obtain ⟨c40, c41, c42, c43, c44⟩ := cells5 c4; clear c70 c71 c72 c73 c74 c75; obtain ⟨c70, c71, c72, c73, c74, c75⟩ := cellsRp c7; clear c6; have c6 := c6x; clear c6x; obtain ⟨c60, c61⟩ := cells2 c6) | (clear mk8; refine wpList_store_v rfl 33 _ _ rfl b7 [.int .i64 11, .string ⟨#[]⟩, .int .i64 0, .string ⟨#[]⟩, .int .i64 0, .int .i64 0] rfl rfl sizeRp c7 rfl (oneRp (rp 11)) ?_; intro w7 hO7 c7x; clear c70 c71 c72 c73 c74 c75; have hz7 : w6.heap.size ≤ w7.heap.size := (Nat.le_of_eq hO7.1.symm); have hy7 : w7.heap.size ≤ w6.heap.size := (Nat.le_of_eq hO7.1); replace o := o.only hO7 c7 (by decide); replace kc := vblk_only kc hO7 (by omega); replace c3 := vblk_only c3 hO7 (by omega); replace c4 := vblk_only c4 hO7 (by omega); replace c6 := vblk_only c6 hO7 (by omega); replace hB := hB.trans (hO7.2.2 _ (by omega)); replace hzw := hB.size; clear c30 c31; obtain ⟨c30, c31⟩ := cells2 c3; clear c40 c41 c42 c43 c44; obtain ⟨c40, c41, c42, c43, c44⟩ := cells5 c4; clear c60 c61; obtain ⟨c60, c61⟩ := cells2 c6; clear c7; have c7 := c7x; clear c7x; obtain ⟨c70, c71, c72, c73, c74, c75⟩ := cellsRp c7) | (fail))
    exact row_cc rfl rfl rfl c6 c7 Tryz.underlying31 Tryz.underlying33 sizeBk sizeRp rfl ⟨_, rfl, (o.wide (Nat.le_refl _) (by omega)).top, hB⟩
set_option maxRecDepth 100000 in
set_option maxHeartbeats 2000000 in
theorem count_yes (I : List It) (X : Int) (N B : ByteArray) (F C U : Int) (V : Int) (N2 : ByteArray) (F2 U2 : Int) (B2 : ByteArray) (C2 D2 : Int) (Q2 : Bool) (bc : Nat) (v : Value) (lo : Nat) (w : World) (o : Own encIt w lo w.heap.size v I) (hlo : lo ≤ w.heap.size) (ok : StOk ⟨I, X⟩) (hN : N.size ≤ 1048576) (hBs : B.size ≤ 1048576) (kc : VBlk w bc 37 [.int .i64 V, .string N2, .int .i64 F2, .int .i64 U2, .string B2, .int .i64 C2, .int .i64 D2, .bool Q2]) (en : EnvD w) (G : Nat) (n m : Nat) (hno : numB B = some n) (hm : upN ⟨V, N2, F2, U2, B2, C2, D2, Q2⟩ n = m) (hst : stampOk ⟨I, X⟩ (withB ⟨N, F, B, C, U⟩ (digs m)) = true)
    (hcf : ∀ args w, (callFunc G args).run Tryz.prog w = .ok (.enter G args) w) (hF : ∀ w', VBlk w' bc 37 [.int .i64 V, .string N2, .int .i64 F2, .int .i64 U2, .string B2, .int .i64 C2, .int .i64 D2, .bool Q2] → Calls Tryz.prog G #[.int .i64 n, .pointer (some ⟨bc, 0, none⟩)] w' fun e w'' => e = .returned (.int .i64 (m : Nat)) ∧ w'' = w') :
    Calls Tryz.prog 112 #[.agg #[v, .int .i64 X], .agg #[.string N, .int .i64 F, .string B, .int .i64 C, .int .i64 U], .func (.func G) #[] #[.pointer (some ⟨bc, 0, none⟩)]] w fun e w' => PostD (stampR ⟨I, X⟩ (withB ⟨N, F, B, C, U⟩ (digs m))) ⟨6, emp, 0, emp, 0, (m : Int)⟩ lo w e w' := by
  have hn9 := (numB_some hno).2.2
  have hm9 := up_lt (c := ⟨V, N2, F2, U2, B2, C2, D2, Q2⟩) hn9
  rw [hm] at hm9
  have hr : Hid (rdF (bs B) = ((n : Int), true)) := by
    obtain ⟨h1, h2, -⟩ := numB_some hno
    unfold Hid
    rw [rdF_yes h1, h2]
  have hn0 : decide ((n : Int) < 0) = false := decide_eq_false (by omega)
  clear hno hm
  have HF : Hid _ := hF
  clear hF
  obtain ⟨S, hS⟩ := hid_ex (tx (digs m))
  have hSs : S.size ≤ 1048576 := by rw [← hS.out, tx_size]; have := digs_len 8 m (by omega); omega
  have hwb : withB ⟨N, F, B, C, U⟩ (digs m) = ⟨N, F, S, C, U⟩ := by unfold withB; rw [hS.out]
  rw [hwb] at hst ⊢
  have hk : Hid (keepK ⟨I, X⟩ ⟨N, F, S, C, U⟩ = (stampR ⟨I, X⟩ ⟨N, F, S, C, U⟩, rp 1)) := by unfold Hid keepK; rw [hst, if_pos rfl]
  have HS := fun v lo w o h => stamp_any I X N S F C U v lo w o h ok hN hSs
  rw [hk.out] at HS
  obtain ⟨⟨J, Y⟩, hJ⟩ := hid_ex (stampR ⟨I, X⟩ ⟨N, F, S, C, U⟩)
  unfold PostD at HS ⊢
  rw [hJ.out] at HS ⊢
  have HH : Hid _ := HS
  clear HS hwb hst hk hJ
  have hq1 : ((1 : Int) != 1) = false := by decide
  dsimp only at HH ⊢
  obtain ⟨A0, n0, k0, rfl⟩ := o.slice
  have EN : Hid (EnvD w) := en
  clear en
  have hbc := kc.lt
  have hcx := hcf
  have hzw0 : w.heap.size ≤ w.heap.size := Nat.le_refl _
  go_enter Tryz.func112, Tryz.ntmps112
  have mk1 : Hid True := trivial
  have mk2 : Hid True := trivial
  have mk3 : Hid True := trivial
  have mk4 : Hid True := trivial
  have mk5 : Hid True := trivial
  have mk6 : Hid True := trivial
  have mk7 : Hid True := trivial
  have mk8 : Hid True := trivial
  have mk9 : Hid True := trivial
  have mk10 : Hid True := trivial
  have mk11 : Hid True := trivial
  have mk12 : Hid True := trivial
  have mk13 : Hid True := trivial
  have mk14 : Hid True := trivial
  have mk15 : Hid True := trivial
  have mk16 : Hid True := trivial
  have mk17 : Hid True := trivial
  go_wp2_with (first | (clear mk1; refine wpList_box_v rfl 31 _ rfl [.slice A0 n0 k0, .int .i64 X] rfl ?_; intro b3 w1 hb3 hwb3 hB1 c3; have hz1 : w.heap.size ≤ w1.heap.size := hB1.size; replace o := o.grow hB1; replace kc := vblk_grow kc hB1; have hB := hB1; have hzw := hB.size; obtain ⟨c30, c31⟩ := cells2 c3) | (clear mk2; refine wpList_box_v rfl 56 _ rfl [.string N, .int .i64 F, .string B, .int .i64 C, .int .i64 U] rfl ?_; intro b4 w2 hb4 hwb4 hB2 c4; have hz2 : w1.heap.size ≤ w2.heap.size := hB2.size; replace o := o.grow hB2; replace kc := vblk_grow kc hB2; replace c3 := vblk_grow c3 hB2; replace hB := hB.trans (hB2.mono (by omega)); replace hzw := hB.size; clear c30 c31; obtain ⟨c30, c31⟩ := cells2 c3; obtain ⟨c40, c41, c42, c43, c44⟩ := cells5 c4) | (clear mk3; refine wpList_alloc_v rfl 31 rfl _ zeroBk ?_; intro b6 w3 hb6 hwb6 hB3 c6; have hz3 : w2.heap.size ≤ w3.heap.size := hB3.size; replace o := o.grow hB3; replace kc := vblk_grow kc hB3; replace c3 := vblk_grow c3 hB3; replace c4 := vblk_grow c4 hB3; replace hB := hB.trans (hB3.mono (by omega)); replace hzw := hB.size; clear c30 c31; obtain ⟨c30, c31⟩ := cells2 c3; clear c40 c41 c42 c43 c44; obtain ⟨c40, c41, c42, c43, c44⟩ := cells5 c4; obtain ⟨c60, c61⟩ := cells2 c6) | (clear mk4; refine wpList_alloc_v rfl 33 rfl _ zeroRp ?_; intro b7 w4 hb7 hwb7 hB4 c7; have hz4 : w3.heap.size ≤ w4.heap.size := hB4.size; replace o := o.grow hB4; replace kc := vblk_grow kc hB4; replace c3 := vblk_grow c3 hB4; replace c4 := vblk_grow c4 hB4; replace c6 := vblk_grow c6 hB4; replace hB := hB.trans (hB4.mono (by omega)); replace hzw := hB.size; clear c30 c31; obtain ⟨c30, c31⟩ := cells2 c3; clear c40 c41 c42 c43 c44; obtain ⟨c40, c41, c42, c43, c44⟩ := cells5 c4; clear c60 c61; obtain ⟨c60, c61⟩ := cells2 c6; obtain ⟨c70, c71, c72, c73, c74, c75⟩ := cellsRp c7) | (clear mk5; go_at_call 124; refine (numberFrom_d B hBs _ (EN.out.grow hB) n true hr).mono ?_; rintro er w5 ⟨rfl, hB5⟩; have hz5 : w4.heap.size ≤ w5.heap.size := hB5.size; replace o := o.grow hB5; replace kc := vblk_grow kc hB5; replace c3 := vblk_grow c3 hB5; replace c4 := vblk_grow c4 hB5; replace c6 := vblk_grow c6 hB5; replace c7 := vblk_grow c7 hB5; replace hB := hB.trans (hB5.mono (by omega)); replace hzw := hB.size; clear c30 c31; obtain ⟨c30, c31⟩ := cells2 c3; clear c40 c41 c42 c43 c44; obtain ⟨c40, c41, c42, c43, c44⟩ := cells5 c4; clear c60 c61; obtain ⟨c60, c61⟩ := cells2 c6; clear c70 c71 c72 c73 c74 c75; obtain ⟨c70, c71, c72, c73, c74, c75⟩ := cellsRp c7) | (clear mk6; refine (HF.out _ kc).mono ?_; rintro er wq ⟨rfl, hq⟩; subst wq) | (clear mk7; go_at_call 125; refine (decT_is (m : Int) (digs m) (itoa_digs m) (by omega) (by omega) _ (EN.out.grow hB).tab).mono ?_; rintro er w6 ⟨rfl, hB6⟩; have hz6 : w5.heap.size ≤ w6.heap.size := hB6.size; replace o := o.grow hB6; replace kc := vblk_grow kc hB6; replace c3 := vblk_grow c3 hB6; replace c4 := vblk_grow c4 hB6; replace c6 := vblk_grow c6 hB6; replace c7 := vblk_grow c7 hB6; replace hB := hB.trans (hB6.mono (by omega)); replace hzw := hB.size; clear c30 c31; obtain ⟨c30, c31⟩ := cells2 c3; clear c40 c41 c42 c43 c44; obtain ⟨c40, c41, c42, c43, c44⟩ := cells5 c4; clear c60 c61; obtain ⟨c60, c61⟩ := cells2 c6; clear c70 c71 c72 c73 c74 c75; obtain ⟨c70, c71, c72, c73, c74, c75⟩ := cellsRp c7; rw [hS.out]) | (clear mk8; refine wpList_store_cell rfl 9 _ _ rfl b4 2 (.string S) rfl rfl rfl szSt1 c4 (by simp) ?_; intro w7 hO7 c4x; clear c40 c41 c42 c43 c44; have hz7 : w6.heap.size ≤ w7.heap.size := (Nat.le_of_eq hO7.1.symm); have hy7 : w7.heap.size ≤ w6.heap.size := (Nat.le_of_eq hO7.1); replace o := o.below (hO7.2.2 b4 (Nat.le_refl _)) (by omega); replace kc := vblk_only kc hO7 (by omega); replace c3 := vblk_only c3 hO7 (by omega); replace c6 := vblk_only c6 hO7 (by omega); replace c7 := vblk_only c7 hO7 (by omega); replace hB := hB.trans (hO7.2.2 _ (by omega)); replace hzw := hB.size; clear c30 c31; obtain ⟨c30, c31⟩ := cells2 c3; clear c60 c61; obtain ⟨c60, c61⟩ := cells2 c6; clear c70 c71 c72 c73 c74 c75; obtain ⟨c70, c71, c72, c73, c74, c75⟩ := cellsRp c7; clear c4; have c4 : VBlk w7 b4 56 [.string N, .int .i64 F, .string S, .int .i64 C, .int .i64 U] := c4x; clear c4x; obtain ⟨c40, c41, c42, c43, c44⟩ := cells5 c4) | (clear mk9; refine wpList_load_r rfl 31 _ rfl b3 0 [.slice A0 n0 k0, .int .i64 X] rfl _ Tryz.underlying31 rfl sizeBk c3.range ?_) | (clear mk10; refine wpList_load_r rfl 56 _ rfl b4 0 [.string N, .int .i64 F, .string S, .int .i64 C, .int .i64 U] rfl _ Tryz.underlying56 rfl sizeIt c4.range ?_) | (clear mk11; go_at_call 110; refine (HH.out _ lo _ o.top (by omega)).mono ?_; rintro er w8 ⟨v1, rfl, o1, hB8⟩; have hz8 : w7.heap.size ≤ w8.heap.size := hB8.size; replace kc := vblk_grow kc hB8; replace c3 := vblk_grow c3 hB8; replace c6 := vblk_grow c6 hB8; replace c7 := vblk_grow c7 hB8; replace c4 := vblk_grow c4 hB8; replace hB := hB.trans (hB8.mono (by omega)); replace hzw := hB.size; clear c30 c31; obtain ⟨c30, c31⟩ := cells2 c3; clear c60 c61; obtain ⟨c60, c61⟩ := cells2 c6; clear c70 c71 c72 c73 c74 c75; obtain ⟨c70, c71, c72, c73, c74, c75⟩ := cellsRp c7; clear c40 c41 c42 c43 c44; obtain ⟨c40, c41, c42, c43, c44⟩ := cells5 c4; obtain ⟨A1, n1, k1, rfl⟩ := o1.slice) | (clear mk12; refine wpList_alloc_v rfl 33 rfl _ zeroRp ?_; intro b9 w9 hb9 hwb9 hB9 c9; have hz9 : w8.heap.size ≤ w9.heap.size := hB9.size; replace o1 := o1.grow hB9; replace kc := vblk_grow kc hB9; replace c3 := vblk_grow c3 hB9; replace c6 := vblk_grow c6 hB9; replace c7 := vblk_grow c7 hB9; replace c4 := vblk_grow c4 hB9; replace hB := hB.trans (hB9.mono (by omega)); replace hzw := hB.size; clear c30 c31; obtain ⟨c30, c31⟩ := cells2 c3; clear c60 c61; obtain ⟨c60, c61⟩ := cells2 c6; clear c70 c71 c72 c73 c74 c75; obtain ⟨c70, c71, c72, c73, c74, c75⟩ := cellsRp c7; clear c40 c41 c42 c43 c44; obtain ⟨c40, c41, c42, c43, c44⟩ := cells5 c4; obtain ⟨c90, c91, c92, c93, c94, c95⟩ := cellsRp c9) | (clear mk13; refine wpList_store_v rfl 31 _ _ rfl b3 [.slice A1 n1 k1, .int .i64 Y] rfl rfl sizeBk c3 rfl (oneBk _ _ _ _) ?_; intro w10 hO10 c3x; clear c30 c31; have hz10 : w9.heap.size ≤ w10.heap.size := (Nat.le_of_eq hO10.1.symm); have hy10 : w10.heap.size ≤ w9.heap.size := (Nat.le_of_eq hO10.1); replace o1 := o1.only hO10 c3 (by decide); replace kc := vblk_only kc hO10 (by omega); replace c6 := vblk_only c6 hO10 (by omega); replace c7 := vblk_only c7 hO10 (by omega); replace c4 := vblk_only c4 hO10 (by omega); replace c9 := vblk_only c9 hO10 (by omega); replace hB := hB.trans (hO10.2.2 _ (by omega)); replace hzw := hB.size; clear c60 c61; obtain ⟨c60, c61⟩ := cells2 c6; clear c70 c71 c72 c73 c74 c75; obtain ⟨c70, c71, c72, c73, c74, c75⟩ := cellsRp c7; clear c40 c41 c42 c43 c44; obtain ⟨c40, c41, c42, c43, c44⟩ := cells5 c4; clear c90 c91 c92 c93 c94 c95; obtain ⟨c90, c91, c92, c93, c94, c95⟩ := cellsRp c9; clear c3; have c3 := c3x; clear c3x; obtain ⟨c30, c31⟩ := cells2 c3) | (clear mk14; refine wpList_store_v rfl 33 _ _ rfl b9 [.int .i64 1, .string ⟨#[]⟩, .int .i64 0, .string ⟨#[]⟩, .int .i64 0, .int .i64 0] rfl rfl sizeRp c9 rfl (oneRp (rp 1)) ?_; intro w11 hO11 c9x; clear c90 c91 c92 c93 c94 c95; have hz11 : w10.heap.size ≤ w11.heap.size := (Nat.le_of_eq hO11.1.symm); have hy11 : w11.heap.size ≤ w10.heap.size := (Nat.le_of_eq hO11.1); replace o1 := o1.only hO11 c9 (by decide); replace kc := vblk_only kc hO11 (by omega); replace c6 := vblk_only c6 hO11 (by omega); replace c7 := vblk_only c7 hO11 (by omega); replace c4 := vblk_only c4 hO11 (by omega); replace c3 := vblk_only c3 hO11 (by omega); replace hB := hB.trans (hO11.2.2 _ (by omega)); replace hzw := hB.size; clear c60 c61; obtain ⟨c60, c61⟩ := cells2 c6; clear c70 c71 c72 c73 c74 c75; obtain ⟨c70, c71, c72, c73, c74, c75⟩ := cellsRp c7; clear c40 c41 c42 c43 c44; obtain ⟨c40, c41, c42, c43, c44⟩ := cells5 c4; clear c30 c31; obtain ⟨c30, c31⟩ := cells2 c3; clear c9; have c9 := c9x; clear c9x; obtain ⟨c90, c91, c92, c93, c94, c95⟩ := cellsRp c9) | (clear mk15; refine wpList_load_r rfl 31 _ rfl b3 0 [.slice A1 n1 k1, .int .i64 Y] rfl _ Tryz.underlying31 rfl sizeBk c3.range ?_) | (clear mk16; refine wpList_store_v rfl 31 _ _ rfl b6 [.slice A1 n1 k1, .int .i64 Y] rfl rfl sizeBk c6 rfl (oneBk _ _ _ _) ?_; intro w12 hO12 c6x; clear c60 c61; have hz12 : w11.heap.size ≤ w12.heap.size := (Nat.le_of_eq hO12.1.symm); have hy12 : w12.heap.size ≤ w11.heap.size := (Nat.le_of_eq hO12.1); replace o1 := o1.only hO12 c6 (by decide); replace kc := vblk_only kc hO12 (by omega); replace c7 := vblk_only c7 hO12 (by omega); replace c4 := vblk_only c4 hO12 (by omega); replace c3 := vblk_only c3 hO12 (by omega); replace c9 := vblk_only c9 hO12 (by omega); replace hB := hB.trans (hO12.2.2 _ (by omega)); replace hzw := hB.size; clear c70 c71 c72 c73 c74 c75; obtain ⟨c70, c71, c72, c73, c74, c75⟩ := cellsRp c7; clear c40 c41 c42 c43 c44; obtain ⟨c40, c41, c42, c43, c44⟩ := cells5 c4; clear c30 c31; obtain ⟨c30, c31⟩ := cells2 c3; clear c90 c91 c92 c93 c94 c95; obtain ⟨c90, c91, c92, c93, c94, c95⟩ := cellsRp c9; clear c6; have c6 := c6x; clear c6x; obtain ⟨c60, c61⟩ := cells2 c6) | (clear mk17; refine wpList_store_v rfl 33 _ _ rfl b7 [.int .i64 6, .string ⟨#[]⟩, .int .i64 0, .string ⟨#[]⟩, .int .i64 0, .int .i64 m] rfl rfl sizeRp c7 rfl (oneRp ⟨6, emp, 0, emp, 0, (m : Int)⟩) ?_; intro w13 hO13 c7x; clear c70 c71 c72 c73 c74 c75; have hz13 : w12.heap.size ≤ w13.heap.size := (Nat.le_of_eq hO13.1.symm); have hy13 : w13.heap.size ≤ w12.heap.size := (Nat.le_of_eq hO13.1); replace o1 := o1.only hO13 c7 (by decide); replace kc := vblk_only kc hO13 (by omega); replace c4 := vblk_only c4 hO13 (by omega); replace c3 := vblk_only c3 hO13 (by omega); replace c9 := vblk_only c9 hO13 (by omega); replace c6 := vblk_only c6 hO13 (by omega); replace hB := hB.trans (hO13.2.2 _ (by omega)); replace hzw := hB.size; clear c40 c41 c42 c43 c44; obtain ⟨c40, c41, c42, c43, c44⟩ := cells5 c4; clear c30 c31; obtain ⟨c30, c31⟩ := cells2 c3; clear c90 c91 c92 c93 c94 c95; obtain ⟨c90, c91, c92, c93, c94, c95⟩ := cellsRp c9; clear c60 c61; obtain ⟨c60, c61⟩ := cells2 c6; clear c7; have c7 := c7x; clear c7x; obtain ⟨c70, c71, c72, c73, c74, c75⟩ := cellsRp c7) | (fail))
  exact row_cc rfl rfl rfl c6 c7 Tryz.underlying31 Tryz.underlying33 sizeBk sizeRp rfl ⟨_, rfl, (o1.wide (Nat.le_refl _) (by omega)).top, hB⟩
end Go.Proofs.YtjkkjpgebcnhgaaGreatDoor.rg
/- Contracts: the program's counting verbs; touched, cut out. -/
namespace Go.Proofs.YtjkkjpgebcnhgaaGreatDoor.rg
open Go.ChangeShapes Go.WideShapes Go.ChangeAt Go.RowKit
open Go.Deep Go.Joins
open Go.Proofs.YtjkkjpgebcnhgaaGreatDoor.ce Go.Proofs.YtjkkjpgebcnhgaaGreatDoor.ro Go.Proofs.YtjkkjpgebcnhgaaGreatDoor.cm
set_option linter.unusedVariables false

def cntK (b : Bk) (o : It) (c : Cm) : Bk × Rp := match numB o.B with
  | none => (b, rp 11)
  | some n => (stampR b (withB o (digs (upN c n))), ⟨6, emp, 0, emp, 0, (upN c n : Int)⟩)
set_option maxRecDepth 100000 in
set_option maxHeartbeats 2000000 in
theorem countUp_any (I : List It) (X : Int) (N B : ByteArray) (F C U : Int) (V : Int) (N2 : ByteArray) (F2 U2 : Int) (B2 : ByteArray) (C2 D2 : Int) (Q2 : Bool) (v : Value) (lo : Nat) (w : World) (o : Own encIt w lo w.heap.size v I) (hlo : lo ≤ w.heap.size) (ok : StOk ⟨I, X⟩) (hN : N.size ≤ 1048576) (hBs : B.size ≤ 1048576) (hN2 : N2.size ≤ 1048576) (hB2 : B2.size ≤ 1048576) (en : EnvD w) (hD : 0 ≤ D2 ∧ D2 ≤ 1000000) (hlk : ∃ s, lookI I s = some ⟨N, F, B, C, U⟩) (h9 : V = 9) :
    Calls Tryz.prog 84 #[.agg #[v, .int .i64 X], .agg #[.string N, .int .i64 F, .string B, .int .i64 C, .int .i64 U], .agg #[.int .i64 V, .string N2, .int .i64 F2, .int .i64 U2, .string B2, .int .i64 C2, .int .i64 D2, .bool Q2]] w fun e w' => PostD (cntK ⟨I, X⟩ ⟨N, F, B, C, U⟩ ⟨V, N2, F2, U2, B2, C2, D2, Q2⟩).1 (cntK ⟨I, X⟩ ⟨N, F, B, C, U⟩ ⟨V, N2, F2, U2, B2, C2, D2, Q2⟩).2 lo w e w' := by
  have hst : ∀ n, numB B = some n → stampOk ⟨I, X⟩ (withB ⟨N, F, B, C, U⟩ (digs (upN ⟨V, N2, F2, U2, B2, C2, D2, Q2⟩ n))) = true := fun n hn => by
    obtain ⟨s, hs⟩ := hlk
    exact up_stamp ok hs (up_lt (numB_some hn).2.2)
  have h9' : Hid _ := h9
  clear h9 hlk
  unfold cntK
  dsimp only
  obtain ⟨A0, n0, k0, rfl⟩ := o.slice
  have EN : Hid (EnvD w) := en
  clear en
  have hcf : ∀ args w, (callFunc 113 args).run Tryz.prog w = .ok (.enter 113 args) w := by intro args w; kernel_rfl
  have HCF : Hid _ := hcf
  clear hcf
  cases hnum : numB B with
  | none =>
    clear hst
    have hnum' : Hid (numB B = none) := hnum
    clear hnum
    dsimp only
    have hzw0 : w.heap.size ≤ w.heap.size := Nat.le_refl _
    go_enter Tryz.func84, Tryz.ntmps84
    have mk1 : Hid True := trivial
    have mk2 : Hid True := trivial
    have mk3 : Hid True := trivial
    have mk4 : Hid True := trivial
    have mk5 : Hid True := trivial
    have mk6 : Hid True := trivial
    have mk7 : Hid True := trivial
    have mk8 : Hid True := trivial
    have mk9 : Hid True := trivial
    have mk10 : Hid True := trivial
    go_wp2_with (first | (clear mk1; refine wpList_box_v rfl 31 _ rfl [.slice A0 n0 k0, .int .i64 X] rfl ?_; intro b3 w1 hb3 hwb3 hB1 c3; have hz1 : w.heap.size ≤ w1.heap.size := hB1.size; replace o := o.grow hB1; have hB := hB1; have hzw := hB.size; obtain ⟨c30, c31⟩ := cells2 c3) | (clear mk2; refine wpList_box_v rfl 56 _ rfl [.string N, .int .i64 F, .string B, .int .i64 C, .int .i64 U] rfl ?_; intro b4 w2 hb4 hwb4 hB2 c4; have hz2 : w1.heap.size ≤ w2.heap.size := hB2.size; replace o := o.grow hB2; replace c3 := vblk_grow c3 hB2; replace hB := hB.trans (hB2.mono (by omega)); replace hzw := hB.size; clear c30 c31; obtain ⟨c30, c31⟩ := cells2 c3; obtain ⟨c40, c41, c42, c43, c44⟩ := cells5 c4) | (clear mk3; refine wpList_box_v rfl 37 _ rfl [.int .i64 V, .string N2, .int .i64 F2, .int .i64 U2, .string B2, .int .i64 C2, .int .i64 D2, .bool Q2] rfl ?_; intro b5 w3 hb5 hwb5 hB3 c5; have hz3 : w2.heap.size ≤ w3.heap.size := hB3.size; replace o := o.grow hB3; replace c3 := vblk_grow c3 hB3; replace c4 := vblk_grow c4 hB3; replace hB := hB.trans (hB3.mono (by omega)); replace hzw := hB.size; clear c30 c31; obtain ⟨c30, c31⟩ := cells2 c3; clear c40 c41 c42 c43 c44; obtain ⟨c40, c41, c42, c43, c44⟩ := cells5 c4; obtain ⟨c50, c51, c52, c53, c54, c55, c56, c57⟩ := cellsCm c5) | (clear mk4; refine wpList_alloc_v rfl 31 rfl _ zeroBk ?_; intro b6 w4 hb6 hwb6 hB4 c6; have hz4 : w3.heap.size ≤ w4.heap.size := hB4.size; replace o := o.grow hB4; replace c3 := vblk_grow c3 hB4; replace c4 := vblk_grow c4 hB4; replace c5 := vblk_grow c5 hB4; replace hB := hB.trans (hB4.mono (by omega)); replace hzw := hB.size; clear c30 c31; obtain ⟨c30, c31⟩ := cells2 c3; clear c40 c41 c42 c43 c44; obtain ⟨c40, c41, c42, c43, c44⟩ := cells5 c4; clear c50 c51 c52 c53 c54 c55 c56 c57; obtain ⟨c50, c51, c52, c53, c54, c55, c56, c57⟩ := cellsCm c5; obtain ⟨c60, c61⟩ := cells2 c6) | (clear mk5; refine wpList_alloc_v rfl 33 rfl _ zeroRp ?_; intro b7 w5 hb7 hwb7 hB5 c7; have hz5 : w4.heap.size ≤ w5.heap.size := hB5.size; replace o := o.grow hB5; replace c3 := vblk_grow c3 hB5; replace c4 := vblk_grow c4 hB5; replace c5 := vblk_grow c5 hB5; replace c6 := vblk_grow c6 hB5; replace hB := hB.trans (hB5.mono (by omega)); replace hzw := hB.size; clear c30 c31; obtain ⟨c30, c31⟩ := cells2 c3; clear c40 c41 c42 c43 c44; obtain ⟨c40, c41, c42, c43, c44⟩ := cells5 c4; clear c50 c51 c52 c53 c54 c55 c56 c57; obtain ⟨c50, c51, c52, c53, c54, c55, c56, c57⟩ := cellsCm c5; clear c60 c61; obtain ⟨c60, c61⟩ := cells2 c6; obtain ⟨c70, c71, c72, c73, c74, c75⟩ := cellsRp c7) | (clear mk6; refine wpList_load_r rfl 31 _ rfl b3 0 [.slice A0 n0 k0, .int .i64 X] rfl _ Tryz.underlying31 rfl sizeBk c3.range ?_) | (clear mk7; refine wpList_load_r rfl 56 _ rfl b4 0 [.string N, .int .i64 F, .string B, .int .i64 C, .int .i64 U] rfl _ Tryz.underlying56 rfl sizeIt c4.range ?_) | (clear mk8; go_at_call 112; refine (count_no I X N B F C U V N2 F2 U2 B2 C2 D2 Q2 b5 _ lo _ o.top (by omega) ok hN hBs c5 (EN.out.grow hB) _ hnum'.out).mono ?_; rintro er w6 ⟨v1, rfl, o1, hB6⟩; have hz6 : w5.heap.size ≤ w6.heap.size := hB6.size; replace c3 := vblk_grow c3 hB6; replace c4 := vblk_grow c4 hB6; replace c5 := vblk_grow c5 hB6; replace c6 := vblk_grow c6 hB6; replace c7 := vblk_grow c7 hB6; replace hB := hB.trans (hB6.mono (by omega)); replace hzw := hB.size; clear c30 c31; obtain ⟨c30, c31⟩ := cells2 c3; clear c40 c41 c42 c43 c44; obtain ⟨c40, c41, c42, c43, c44⟩ := cells5 c4; clear c50 c51 c52 c53 c54 c55 c56 c57; obtain ⟨c50, c51, c52, c53, c54, c55, c56, c57⟩ := cellsCm c5; clear c60 c61; obtain ⟨c60, c61⟩ := cells2 c6; clear c70 c71 c72 c73 c74 c75; obtain ⟨c70, c71, c72, c73, c74, c75⟩ := cellsRp c7; obtain ⟨A1, n1, k1, rfl⟩ := o1.slice) | (clear mk9; refine wpList_store_v rfl 31 _ _ rfl b6 [.slice A1 n1 k1, .int .i64 X] rfl rfl sizeBk c6 rfl (oneBk _ _ _ _) ?_; intro w7 hO7 c6x; clear c60 c61; have hz7 : w6.heap.size ≤ w7.heap.size := (Nat.le_of_eq hO7.1.symm); have hy7 : w7.heap.size ≤ w6.heap.size := (Nat.le_of_eq hO7.1); replace o1 := o1.only hO7 c6 (by decide); replace c3 := vblk_only c3 hO7 (by omega); replace c4 := vblk_only c4 hO7 (by omega); replace c5 := vblk_only c5 hO7 (by omega); replace c7 := vblk_only c7 hO7 (by omega); replace hB := hB.trans (hO7.2.2 _ (by omega)); replace hzw := hB.size; clear c30 c31; obtain ⟨c30, c31⟩ := cells2 c3; clear c40 c41 c42 c43 c44; obtain ⟨c40, c41, c42, c43, c44⟩ := cells5 c4; clear c50 c51 c52 c53 c54 c55 c56 c57; obtain ⟨c50, c51, c52, c53, c54, c55, c56, c57⟩ := cellsCm c5; clear c70 c71 c72 c73 c74 c75; obtain ⟨c70, c71, c72, c73, c74, c75⟩ := cellsRp c7; clear c6; have c6 := c6x; clear c6x; obtain ⟨c60, c61⟩ := cells2 c6) | (clear mk10; refine wpList_store_v rfl 33 _ _ rfl b7 [.int .i64 11, .string ⟨#[]⟩, .int .i64 0, .string ⟨#[]⟩, .int .i64 0, .int .i64 0] rfl rfl sizeRp c7 rfl (oneRp (rp 11)) ?_; intro w8 hO8 c7x; clear c70 c71 c72 c73 c74 c75; have hz8 : w7.heap.size ≤ w8.heap.size := (Nat.le_of_eq hO8.1.symm); have hy8 : w8.heap.size ≤ w7.heap.size := (Nat.le_of_eq hO8.1); replace o1 := o1.only hO8 c7 (by decide); replace c3 := vblk_only c3 hO8 (by omega); replace c4 := vblk_only c4 hO8 (by omega); replace c5 := vblk_only c5 hO8 (by omega); replace c6 := vblk_only c6 hO8 (by omega); replace hB := hB.trans (hO8.2.2 _ (by omega)); replace hzw := hB.size; clear c30 c31; obtain ⟨c30, c31⟩ := cells2 c3; clear c40 c41 c42 c43 c44; obtain ⟨c40, c41, c42, c43, c44⟩ := cells5 c4; clear c50 c51 c52 c53 c54 c55 c56 c57; obtain ⟨c50, c51, c52, c53, c54, c55, c56, c57⟩ := cellsCm c5; clear c60 c61; obtain ⟨c60, c61⟩ := cells2 c6; clear c7; have c7 := c7x; clear c7x; obtain ⟨c70, c71, c72, c73, c74, c75⟩ := cellsRp c7) | (fail))
    exact row_cc rfl rfl rfl c6 c7 Tryz.underlying31 Tryz.underlying33 sizeBk sizeRp rfl ⟨_, rfl, (o1.wide (Nat.le_refl _) (by omega)).top, hB⟩
  | some n =>
    have hs := hst n hnum
    have hn9 := (numB_some hnum).2.2
    obtain ⟨m, hm⟩ := hid_ex (upN ⟨V, N2, F2, U2, B2, C2, D2, Q2⟩ n)
    dsimp only
    rw [hm.out] at hs ⊢
    have hs' : Hid _ := hs
    have hnum' : Hid (numB B = some n) := hnum
    have hF : ∀ (b : Nat) (w' : World), VBlk w' b 37 [.int .i64 V, .string N2, .int .i64 F2, .int .i64 U2, .string B2, .int .i64 C2, .int .i64 D2, .bool Q2] → Calls Tryz.prog 113 #[.int .i64 n, .pointer (some ⟨b, 0, none⟩)] w' fun e w'' => e = .returned (.int .i64 (m : Nat)) ∧ w'' = w' := fun b w' K => by
      have := up1_any b V N2 F2 U2 B2 C2 D2 Q2 n hn9 hD w' K h9'.out
      rw [hm.out] at this
      exact this
    have HF : Hid _ := hF
    clear hF hst hs hnum
    have hcon := fun bc v lo w o h1 h2 h3 h4 kc en => count_yes I X N B F C U V N2 F2 U2 B2 C2 D2 Q2 bc v lo w o h1 h2 h3 h4 kc en 113 n m hnum'.out hm.out hs'.out HCF.out (HF.out bc)
    obtain ⟨⟨J, Y⟩, hJ⟩ := hid_ex (stampR ⟨I, X⟩ (withB ⟨N, F, B, C, U⟩ (digs m)))
    unfold PostD at hcon ⊢
    rw [hJ.out] at hcon ⊢
    have HC : Hid _ := hcon
    clear hcon hJ hm hs' hnum' HF
    dsimp only at HC ⊢
    have hzw0 : w.heap.size ≤ w.heap.size := Nat.le_refl _
    go_enter Tryz.func84, Tryz.ntmps84
    have mk1 : Hid True := trivial
    have mk2 : Hid True := trivial
    have mk3 : Hid True := trivial
    have mk4 : Hid True := trivial
    have mk5 : Hid True := trivial
    have mk6 : Hid True := trivial
    have mk7 : Hid True := trivial
    have mk8 : Hid True := trivial
    have mk9 : Hid True := trivial
    have mk10 : Hid True := trivial
    go_wp2_with (first | (clear mk1; refine wpList_box_v rfl 31 _ rfl [.slice A0 n0 k0, .int .i64 X] rfl ?_; intro b3 w1 hb3 hwb3 hB1 c3; have hz1 : w.heap.size ≤ w1.heap.size := hB1.size; replace o := o.grow hB1; have hB := hB1; have hzw := hB.size; obtain ⟨c30, c31⟩ := cells2 c3) | (clear mk2; refine wpList_box_v rfl 56 _ rfl [.string N, .int .i64 F, .string B, .int .i64 C, .int .i64 U] rfl ?_; intro b4 w2 hb4 hwb4 hB2 c4; have hz2 : w1.heap.size ≤ w2.heap.size := hB2.size; replace o := o.grow hB2; replace c3 := vblk_grow c3 hB2; replace hB := hB.trans (hB2.mono (by omega)); replace hzw := hB.size; clear c30 c31; obtain ⟨c30, c31⟩ := cells2 c3; obtain ⟨c40, c41, c42, c43, c44⟩ := cells5 c4) | (clear mk3; refine wpList_box_v rfl 37 _ rfl [.int .i64 V, .string N2, .int .i64 F2, .int .i64 U2, .string B2, .int .i64 C2, .int .i64 D2, .bool Q2] rfl ?_; intro b5 w3 hb5 hwb5 hB3 c5; have hz3 : w2.heap.size ≤ w3.heap.size := hB3.size; replace o := o.grow hB3; replace c3 := vblk_grow c3 hB3; replace c4 := vblk_grow c4 hB3; replace hB := hB.trans (hB3.mono (by omega)); replace hzw := hB.size; clear c30 c31; obtain ⟨c30, c31⟩ := cells2 c3; clear c40 c41 c42 c43 c44; obtain ⟨c40, c41, c42, c43, c44⟩ := cells5 c4; obtain ⟨c50, c51, c52, c53, c54, c55, c56, c57⟩ := cellsCm c5) | (clear mk4; refine wpList_alloc_v rfl 31 rfl _ zeroBk ?_; intro b6 w4 hb6 hwb6 hB4 c6; have hz4 : w3.heap.size ≤ w4.heap.size := hB4.size; replace o := o.grow hB4; replace c3 := vblk_grow c3 hB4; replace c4 := vblk_grow c4 hB4; replace c5 := vblk_grow c5 hB4; replace hB := hB.trans (hB4.mono (by omega)); replace hzw := hB.size; clear c30 c31; obtain ⟨c30, c31⟩ := cells2 c3; clear c40 c41 c42 c43 c44; obtain ⟨c40, c41, c42, c43, c44⟩ := cells5 c4; clear c50 c51 c52 c53 c54 c55 c56 c57; obtain ⟨c50, c51, c52, c53, c54, c55, c56, c57⟩ := cellsCm c5; obtain ⟨c60, c61⟩ := cells2 c6) | (clear mk5; refine wpList_alloc_v rfl 33 rfl _ zeroRp ?_; intro b7 w5 hb7 hwb7 hB5 c7; have hz5 : w4.heap.size ≤ w5.heap.size := hB5.size; replace o := o.grow hB5; replace c3 := vblk_grow c3 hB5; replace c4 := vblk_grow c4 hB5; replace c5 := vblk_grow c5 hB5; replace c6 := vblk_grow c6 hB5; replace hB := hB.trans (hB5.mono (by omega)); replace hzw := hB.size; clear c30 c31; obtain ⟨c30, c31⟩ := cells2 c3; clear c40 c41 c42 c43 c44; obtain ⟨c40, c41, c42, c43, c44⟩ := cells5 c4; clear c50 c51 c52 c53 c54 c55 c56 c57; obtain ⟨c50, c51, c52, c53, c54, c55, c56, c57⟩ := cellsCm c5; clear c60 c61; obtain ⟨c60, c61⟩ := cells2 c6; obtain ⟨c70, c71, c72, c73, c74, c75⟩ := cellsRp c7) | (clear mk6; refine wpList_load_r rfl 31 _ rfl b3 0 [.slice A0 n0 k0, .int .i64 X] rfl _ Tryz.underlying31 rfl sizeBk c3.range ?_) | (clear mk7; refine wpList_load_r rfl 56 _ rfl b4 0 [.string N, .int .i64 F, .string B, .int .i64 C, .int .i64 U] rfl _ Tryz.underlying56 rfl sizeIt c4.range ?_) | (clear mk8; go_at_call 112; refine (HC.out b5 _ lo _ o.top (by omega) ok hN hBs c5 (EN.out.grow hB)).mono ?_; rintro er w6 ⟨v1, rfl, o1, hB6⟩; have hz6 : w5.heap.size ≤ w6.heap.size := hB6.size; replace c3 := vblk_grow c3 hB6; replace c4 := vblk_grow c4 hB6; replace c5 := vblk_grow c5 hB6; replace c6 := vblk_grow c6 hB6; replace c7 := vblk_grow c7 hB6; replace hB := hB.trans (hB6.mono (by omega)); replace hzw := hB.size; clear c30 c31; obtain ⟨c30, c31⟩ := cells2 c3; clear c40 c41 c42 c43 c44; obtain ⟨c40, c41, c42, c43, c44⟩ := cells5 c4; clear c50 c51 c52 c53 c54 c55 c56 c57; obtain ⟨c50, c51, c52, c53, c54, c55, c56, c57⟩ := cellsCm c5; clear c60 c61; obtain ⟨c60, c61⟩ := cells2 c6; clear c70 c71 c72 c73 c74 c75; obtain ⟨c70, c71, c72, c73, c74, c75⟩ := cellsRp c7; obtain ⟨A1, n1, k1, rfl⟩ := o1.slice) | (clear mk9; refine wpList_store_v rfl 31 _ _ rfl b6 [.slice A1 n1 k1, .int .i64 Y] rfl rfl sizeBk c6 rfl (oneBk _ _ _ _) ?_; intro w7 hO7 c6x; clear c60 c61; have hz7 : w6.heap.size ≤ w7.heap.size := (Nat.le_of_eq hO7.1.symm); have hy7 : w7.heap.size ≤ w6.heap.size := (Nat.le_of_eq hO7.1); replace o1 := o1.only hO7 c6 (by decide); replace c3 := vblk_only c3 hO7 (by omega); replace c4 := vblk_only c4 hO7 (by omega); replace c5 := vblk_only c5 hO7 (by omega); replace c7 := vblk_only c7 hO7 (by omega); replace hB := hB.trans (hO7.2.2 _ (by omega)); replace hzw := hB.size; clear c30 c31; obtain ⟨c30, c31⟩ := cells2 c3; clear c40 c41 c42 c43 c44; obtain ⟨c40, c41, c42, c43, c44⟩ := cells5 c4; clear c50 c51 c52 c53 c54 c55 c56 c57; obtain ⟨c50, c51, c52, c53, c54, c55, c56, c57⟩ := cellsCm c5; clear c70 c71 c72 c73 c74 c75; obtain ⟨c70, c71, c72, c73, c74, c75⟩ := cellsRp c7; clear c6; have c6 := c6x; clear c6x; obtain ⟨c60, c61⟩ := cells2 c6) | (clear mk10; refine wpList_store_v rfl 33 _ _ rfl b7 [.int .i64 6, .string ⟨#[]⟩, .int .i64 0, .string ⟨#[]⟩, .int .i64 0, .int .i64 m] rfl rfl sizeRp c7 rfl (oneRp ⟨6, emp, 0, emp, 0, (m : Int)⟩) ?_; intro w8 hO8 c7x; clear c70 c71 c72 c73 c74 c75; have hz8 : w7.heap.size ≤ w8.heap.size := (Nat.le_of_eq hO8.1.symm); have hy8 : w8.heap.size ≤ w7.heap.size := (Nat.le_of_eq hO8.1); replace o1 := o1.only hO8 c7 (by decide); replace c3 := vblk_only c3 hO8 (by omega); replace c4 := vblk_only c4 hO8 (by omega); replace c5 := vblk_only c5 hO8 (by omega); replace c6 := vblk_only c6 hO8 (by omega); replace hB := hB.trans (hO8.2.2 _ (by omega)); replace hzw := hB.size; clear c30 c31; obtain ⟨c30, c31⟩ := cells2 c3; clear c40 c41 c42 c43 c44; obtain ⟨c40, c41, c42, c43, c44⟩ := cells5 c4; clear c50 c51 c52 c53 c54 c55 c56 c57; obtain ⟨c50, c51, c52, c53, c54, c55, c56, c57⟩ := cellsCm c5; clear c60 c61; obtain ⟨c60, c61⟩ := cells2 c6; clear c7; have c7 := c7x; clear c7x; obtain ⟨c70, c71, c72, c73, c74, c75⟩ := cellsRp c7) | (fail))
    exact row_cc rfl rfl rfl c6 c7 Tryz.underlying31 Tryz.underlying33 sizeBk sizeRp rfl ⟨_, rfl, (o1.wide (Nat.le_refl _) (by omega)).top, hB⟩
set_option maxRecDepth 100000 in
set_option maxHeartbeats 2000000 in
theorem countDown_any (I : List It) (X : Int) (N B : ByteArray) (F C U : Int) (V : Int) (N2 : ByteArray) (F2 U2 : Int) (B2 : ByteArray) (C2 D2 : Int) (Q2 : Bool) (v : Value) (lo : Nat) (w : World) (o : Own encIt w lo w.heap.size v I) (hlo : lo ≤ w.heap.size) (ok : StOk ⟨I, X⟩) (hN : N.size ≤ 1048576) (hBs : B.size ≤ 1048576) (hN2 : N2.size ≤ 1048576) (hB2 : B2.size ≤ 1048576) (en : EnvD w) (hD : 0 ≤ D2 ∧ D2 ≤ 1000000) (hlk : ∃ s, lookI I s = some ⟨N, F, B, C, U⟩) (h9 : V ≠ 9) :
    Calls Tryz.prog 85 #[.agg #[v, .int .i64 X], .agg #[.string N, .int .i64 F, .string B, .int .i64 C, .int .i64 U], .agg #[.int .i64 V, .string N2, .int .i64 F2, .int .i64 U2, .string B2, .int .i64 C2, .int .i64 D2, .bool Q2]] w fun e w' => PostD (cntK ⟨I, X⟩ ⟨N, F, B, C, U⟩ ⟨V, N2, F2, U2, B2, C2, D2, Q2⟩).1 (cntK ⟨I, X⟩ ⟨N, F, B, C, U⟩ ⟨V, N2, F2, U2, B2, C2, D2, Q2⟩).2 lo w e w' := by
  have hst : ∀ n, numB B = some n → stampOk ⟨I, X⟩ (withB ⟨N, F, B, C, U⟩ (digs (upN ⟨V, N2, F2, U2, B2, C2, D2, Q2⟩ n))) = true := fun n hn => by
    obtain ⟨s, hs⟩ := hlk
    exact up_stamp ok hs (up_lt (numB_some hn).2.2)
  have h9' : Hid _ := h9
  clear h9 hlk
  unfold cntK
  dsimp only
  obtain ⟨A0, n0, k0, rfl⟩ := o.slice
  have EN : Hid (EnvD w) := en
  clear en
  have hcf : ∀ args w, (callFunc 114 args).run Tryz.prog w = .ok (.enter 114 args) w := by intro args w; kernel_rfl
  have HCF : Hid _ := hcf
  clear hcf
  cases hnum : numB B with
  | none =>
    clear hst
    have hnum' : Hid (numB B = none) := hnum
    clear hnum
    dsimp only
    have hzw0 : w.heap.size ≤ w.heap.size := Nat.le_refl _
    go_enter Tryz.func85, Tryz.ntmps85
    have mk1 : Hid True := trivial
    have mk2 : Hid True := trivial
    have mk3 : Hid True := trivial
    have mk4 : Hid True := trivial
    have mk5 : Hid True := trivial
    have mk6 : Hid True := trivial
    have mk7 : Hid True := trivial
    have mk8 : Hid True := trivial
    have mk9 : Hid True := trivial
    have mk10 : Hid True := trivial
    go_wp2_with (first | (clear mk1; refine wpList_box_v rfl 31 _ rfl [.slice A0 n0 k0, .int .i64 X] rfl ?_; intro b3 w1 hb3 hwb3 hB1 c3; have hz1 : w.heap.size ≤ w1.heap.size := hB1.size; replace o := o.grow hB1; have hB := hB1; have hzw := hB.size; obtain ⟨c30, c31⟩ := cells2 c3) | (clear mk2; refine wpList_box_v rfl 56 _ rfl [.string N, .int .i64 F, .string B, .int .i64 C, .int .i64 U] rfl ?_; intro b4 w2 hb4 hwb4 hB2 c4; have hz2 : w1.heap.size ≤ w2.heap.size := hB2.size; replace o := o.grow hB2; replace c3 := vblk_grow c3 hB2; replace hB := hB.trans (hB2.mono (by omega)); replace hzw := hB.size; clear c30 c31; obtain ⟨c30, c31⟩ := cells2 c3; obtain ⟨c40, c41, c42, c43, c44⟩ := cells5 c4) | (clear mk3; refine wpList_box_v rfl 37 _ rfl [.int .i64 V, .string N2, .int .i64 F2, .int .i64 U2, .string B2, .int .i64 C2, .int .i64 D2, .bool Q2] rfl ?_; intro b5 w3 hb5 hwb5 hB3 c5; have hz3 : w2.heap.size ≤ w3.heap.size := hB3.size; replace o := o.grow hB3; replace c3 := vblk_grow c3 hB3; replace c4 := vblk_grow c4 hB3; replace hB := hB.trans (hB3.mono (by omega)); replace hzw := hB.size; clear c30 c31; obtain ⟨c30, c31⟩ := cells2 c3; clear c40 c41 c42 c43 c44; obtain ⟨c40, c41, c42, c43, c44⟩ := cells5 c4; obtain ⟨c50, c51, c52, c53, c54, c55, c56, c57⟩ := cellsCm c5) | (clear mk4; refine wpList_alloc_v rfl 31 rfl _ zeroBk ?_; intro b6 w4 hb6 hwb6 hB4 c6; have hz4 : w3.heap.size ≤ w4.heap.size := hB4.size; replace o := o.grow hB4; replace c3 := vblk_grow c3 hB4; replace c4 := vblk_grow c4 hB4; replace c5 := vblk_grow c5 hB4; replace hB := hB.trans (hB4.mono (by omega)); replace hzw := hB.size; clear c30 c31; obtain ⟨c30, c31⟩ := cells2 c3; clear c40 c41 c42 c43 c44; obtain ⟨c40, c41, c42, c43, c44⟩ := cells5 c4; clear c50 c51 c52 c53 c54 c55 c56 c57; obtain ⟨c50, c51, c52, c53, c54, c55, c56, c57⟩ := cellsCm c5; obtain ⟨c60, c61⟩ := cells2 c6) | (clear mk5; refine wpList_alloc_v rfl 33 rfl _ zeroRp ?_; intro b7 w5 hb7 hwb7 hB5 c7; have hz5 : w4.heap.size ≤ w5.heap.size := hB5.size; replace o := o.grow hB5; replace c3 := vblk_grow c3 hB5; replace c4 := vblk_grow c4 hB5; replace c5 := vblk_grow c5 hB5; replace c6 := vblk_grow c6 hB5; replace hB := hB.trans (hB5.mono (by omega)); replace hzw := hB.size; clear c30 c31; obtain ⟨c30, c31⟩ := cells2 c3; clear c40 c41 c42 c43 c44; obtain ⟨c40, c41, c42, c43, c44⟩ := cells5 c4; clear c50 c51 c52 c53 c54 c55 c56 c57; obtain ⟨c50, c51, c52, c53, c54, c55, c56, c57⟩ := cellsCm c5; clear c60 c61; obtain ⟨c60, c61⟩ := cells2 c6; obtain ⟨c70, c71, c72, c73, c74, c75⟩ := cellsRp c7) | (clear mk6; refine wpList_load_r rfl 31 _ rfl b3 0 [.slice A0 n0 k0, .int .i64 X] rfl _ Tryz.underlying31 rfl sizeBk c3.range ?_) | (clear mk7; refine wpList_load_r rfl 56 _ rfl b4 0 [.string N, .int .i64 F, .string B, .int .i64 C, .int .i64 U] rfl _ Tryz.underlying56 rfl sizeIt c4.range ?_) | (clear mk8; go_at_call 112; refine (count_no I X N B F C U V N2 F2 U2 B2 C2 D2 Q2 b5 _ lo _ o.top (by omega) ok hN hBs c5 (EN.out.grow hB) _ hnum'.out).mono ?_; rintro er w6 ⟨v1, rfl, o1, hB6⟩; have hz6 : w5.heap.size ≤ w6.heap.size := hB6.size; replace c3 := vblk_grow c3 hB6; replace c4 := vblk_grow c4 hB6; replace c5 := vblk_grow c5 hB6; replace c6 := vblk_grow c6 hB6; replace c7 := vblk_grow c7 hB6; replace hB := hB.trans (hB6.mono (by omega)); replace hzw := hB.size; clear c30 c31; obtain ⟨c30, c31⟩ := cells2 c3; clear c40 c41 c42 c43 c44; obtain ⟨c40, c41, c42, c43, c44⟩ := cells5 c4; clear c50 c51 c52 c53 c54 c55 c56 c57; obtain ⟨c50, c51, c52, c53, c54, c55, c56, c57⟩ := cellsCm c5; clear c60 c61; obtain ⟨c60, c61⟩ := cells2 c6; clear c70 c71 c72 c73 c74 c75; obtain ⟨c70, c71, c72, c73, c74, c75⟩ := cellsRp c7; obtain ⟨A1, n1, k1, rfl⟩ := o1.slice) | (clear mk9; refine wpList_store_v rfl 31 _ _ rfl b6 [.slice A1 n1 k1, .int .i64 X] rfl rfl sizeBk c6 rfl (oneBk _ _ _ _) ?_; intro w7 hO7 c6x; clear c60 c61; have hz7 : w6.heap.size ≤ w7.heap.size := (Nat.le_of_eq hO7.1.symm); have hy7 : w7.heap.size ≤ w6.heap.size := (Nat.le_of_eq hO7.1); replace o1 := o1.only hO7 c6 (by decide); replace c3 := vblk_only c3 hO7 (by omega); replace c4 := vblk_only c4 hO7 (by omega); replace c5 := vblk_only c5 hO7 (by omega); replace c7 := vblk_only c7 hO7 (by omega); replace hB := hB.trans (hO7.2.2 _ (by omega)); replace hzw := hB.size; clear c30 c31; obtain ⟨c30, c31⟩ := cells2 c3; clear c40 c41 c42 c43 c44; obtain ⟨c40, c41, c42, c43, c44⟩ := cells5 c4; clear c50 c51 c52 c53 c54 c55 c56 c57; obtain ⟨c50, c51, c52, c53, c54, c55, c56, c57⟩ := cellsCm c5; clear c70 c71 c72 c73 c74 c75; obtain ⟨c70, c71, c72, c73, c74, c75⟩ := cellsRp c7; clear c6; have c6 := c6x; clear c6x; obtain ⟨c60, c61⟩ := cells2 c6) | (clear mk10; refine wpList_store_v rfl 33 _ _ rfl b7 [.int .i64 11, .string ⟨#[]⟩, .int .i64 0, .string ⟨#[]⟩, .int .i64 0, .int .i64 0] rfl rfl sizeRp c7 rfl (oneRp (rp 11)) ?_; intro w8 hO8 c7x; clear c70 c71 c72 c73 c74 c75; have hz8 : w7.heap.size ≤ w8.heap.size := (Nat.le_of_eq hO8.1.symm); have hy8 : w8.heap.size ≤ w7.heap.size := (Nat.le_of_eq hO8.1); replace o1 := o1.only hO8 c7 (by decide); replace c3 := vblk_only c3 hO8 (by omega); replace c4 := vblk_only c4 hO8 (by omega); replace c5 := vblk_only c5 hO8 (by omega); replace c6 := vblk_only c6 hO8 (by omega); replace hB := hB.trans (hO8.2.2 _ (by omega)); replace hzw := hB.size; clear c30 c31; obtain ⟨c30, c31⟩ := cells2 c3; clear c40 c41 c42 c43 c44; obtain ⟨c40, c41, c42, c43, c44⟩ := cells5 c4; clear c50 c51 c52 c53 c54 c55 c56 c57; obtain ⟨c50, c51, c52, c53, c54, c55, c56, c57⟩ := cellsCm c5; clear c60 c61; obtain ⟨c60, c61⟩ := cells2 c6; clear c7; have c7 := c7x; clear c7x; obtain ⟨c70, c71, c72, c73, c74, c75⟩ := cellsRp c7) | (fail))
    exact row_cc rfl rfl rfl c6 c7 Tryz.underlying31 Tryz.underlying33 sizeBk sizeRp rfl ⟨_, rfl, (o1.wide (Nat.le_refl _) (by omega)).top, hB⟩
  | some n =>
    have hs := hst n hnum
    have hn9 := (numB_some hnum).2.2
    obtain ⟨m, hm⟩ := hid_ex (upN ⟨V, N2, F2, U2, B2, C2, D2, Q2⟩ n)
    dsimp only
    rw [hm.out] at hs ⊢
    have hs' : Hid _ := hs
    have hnum' : Hid (numB B = some n) := hnum
    have hF : ∀ (b : Nat) (w' : World), VBlk w' b 37 [.int .i64 V, .string N2, .int .i64 F2, .int .i64 U2, .string B2, .int .i64 C2, .int .i64 D2, .bool Q2] → Calls Tryz.prog 114 #[.int .i64 n, .pointer (some ⟨b, 0, none⟩)] w' fun e w'' => e = .returned (.int .i64 (m : Nat)) ∧ w'' = w' := fun b w' K => by
      have := down1_any b V N2 F2 U2 B2 C2 D2 Q2 n hn9 hD w' K h9'.out
      rw [hm.out] at this
      exact this
    have HF : Hid _ := hF
    clear hF hst hs hnum
    have hcon := fun bc v lo w o h1 h2 h3 h4 kc en => count_yes I X N B F C U V N2 F2 U2 B2 C2 D2 Q2 bc v lo w o h1 h2 h3 h4 kc en 114 n m hnum'.out hm.out hs'.out HCF.out (HF.out bc)
    obtain ⟨⟨J, Y⟩, hJ⟩ := hid_ex (stampR ⟨I, X⟩ (withB ⟨N, F, B, C, U⟩ (digs m)))
    unfold PostD at hcon ⊢
    rw [hJ.out] at hcon ⊢
    have HC : Hid _ := hcon
    clear hcon hJ hm hs' hnum' HF
    dsimp only at HC ⊢
    have hzw0 : w.heap.size ≤ w.heap.size := Nat.le_refl _
    go_enter Tryz.func85, Tryz.ntmps85
    have mk1 : Hid True := trivial
    have mk2 : Hid True := trivial
    have mk3 : Hid True := trivial
    have mk4 : Hid True := trivial
    have mk5 : Hid True := trivial
    have mk6 : Hid True := trivial
    have mk7 : Hid True := trivial
    have mk8 : Hid True := trivial
    have mk9 : Hid True := trivial
    have mk10 : Hid True := trivial
    go_wp2_with (first | (clear mk1; refine wpList_box_v rfl 31 _ rfl [.slice A0 n0 k0, .int .i64 X] rfl ?_; intro b3 w1 hb3 hwb3 hB1 c3; have hz1 : w.heap.size ≤ w1.heap.size := hB1.size; replace o := o.grow hB1; have hB := hB1; have hzw := hB.size; obtain ⟨c30, c31⟩ := cells2 c3) | (clear mk2; refine wpList_box_v rfl 56 _ rfl [.string N, .int .i64 F, .string B, .int .i64 C, .int .i64 U] rfl ?_; intro b4 w2 hb4 hwb4 hB2 c4; have hz2 : w1.heap.size ≤ w2.heap.size := hB2.size; replace o := o.grow hB2; replace c3 := vblk_grow c3 hB2; replace hB := hB.trans (hB2.mono (by omega)); replace hzw := hB.size; clear c30 c31; obtain ⟨c30, c31⟩ := cells2 c3; obtain ⟨c40, c41, c42, c43, c44⟩ := cells5 c4) | (clear mk3; refine wpList_box_v rfl 37 _ rfl [.int .i64 V, .string N2, .int .i64 F2, .int .i64 U2, .string B2, .int .i64 C2, .int .i64 D2, .bool Q2] rfl ?_; intro b5 w3 hb5 hwb5 hB3 c5; have hz3 : w2.heap.size ≤ w3.heap.size := hB3.size; replace o := o.grow hB3; replace c3 := vblk_grow c3 hB3; replace c4 := vblk_grow c4 hB3; replace hB := hB.trans (hB3.mono (by omega)); replace hzw := hB.size; clear c30 c31; obtain ⟨c30, c31⟩ := cells2 c3; clear c40 c41 c42 c43 c44; obtain ⟨c40, c41, c42, c43, c44⟩ := cells5 c4; obtain ⟨c50, c51, c52, c53, c54, c55, c56, c57⟩ := cellsCm c5) | (clear mk4; refine wpList_alloc_v rfl 31 rfl _ zeroBk ?_; intro b6 w4 hb6 hwb6 hB4 c6; have hz4 : w3.heap.size ≤ w4.heap.size := hB4.size; replace o := o.grow hB4; replace c3 := vblk_grow c3 hB4; replace c4 := vblk_grow c4 hB4; replace c5 := vblk_grow c5 hB4; replace hB := hB.trans (hB4.mono (by omega)); replace hzw := hB.size; clear c30 c31; obtain ⟨c30, c31⟩ := cells2 c3; clear c40 c41 c42 c43 c44; obtain ⟨c40, c41, c42, c43, c44⟩ := cells5 c4; clear c50 c51 c52 c53 c54 c55 c56 c57; obtain ⟨c50, c51, c52, c53, c54, c55, c56, c57⟩ := cellsCm c5; obtain ⟨c60, c61⟩ := cells2 c6) | (clear mk5; refine wpList_alloc_v rfl 33 rfl _ zeroRp ?_; intro b7 w5 hb7 hwb7 hB5 c7; have hz5 : w4.heap.size ≤ w5.heap.size := hB5.size; replace o := o.grow hB5; replace c3 := vblk_grow c3 hB5; replace c4 := vblk_grow c4 hB5; replace c5 := vblk_grow c5 hB5; replace c6 := vblk_grow c6 hB5; replace hB := hB.trans (hB5.mono (by omega)); replace hzw := hB.size; clear c30 c31; obtain ⟨c30, c31⟩ := cells2 c3; clear c40 c41 c42 c43 c44; obtain ⟨c40, c41, c42, c43, c44⟩ := cells5 c4; clear c50 c51 c52 c53 c54 c55 c56 c57; obtain ⟨c50, c51, c52, c53, c54, c55, c56, c57⟩ := cellsCm c5; clear c60 c61; obtain ⟨c60, c61⟩ := cells2 c6; obtain ⟨c70, c71, c72, c73, c74, c75⟩ := cellsRp c7) | (clear mk6; refine wpList_load_r rfl 31 _ rfl b3 0 [.slice A0 n0 k0, .int .i64 X] rfl _ Tryz.underlying31 rfl sizeBk c3.range ?_) | (clear mk7; refine wpList_load_r rfl 56 _ rfl b4 0 [.string N, .int .i64 F, .string B, .int .i64 C, .int .i64 U] rfl _ Tryz.underlying56 rfl sizeIt c4.range ?_) | (clear mk8; go_at_call 112; refine (HC.out b5 _ lo _ o.top (by omega) ok hN hBs c5 (EN.out.grow hB)).mono ?_; rintro er w6 ⟨v1, rfl, o1, hB6⟩; have hz6 : w5.heap.size ≤ w6.heap.size := hB6.size; replace c3 := vblk_grow c3 hB6; replace c4 := vblk_grow c4 hB6; replace c5 := vblk_grow c5 hB6; replace c6 := vblk_grow c6 hB6; replace c7 := vblk_grow c7 hB6; replace hB := hB.trans (hB6.mono (by omega)); replace hzw := hB.size; clear c30 c31; obtain ⟨c30, c31⟩ := cells2 c3; clear c40 c41 c42 c43 c44; obtain ⟨c40, c41, c42, c43, c44⟩ := cells5 c4; clear c50 c51 c52 c53 c54 c55 c56 c57; obtain ⟨c50, c51, c52, c53, c54, c55, c56, c57⟩ := cellsCm c5; clear c60 c61; obtain ⟨c60, c61⟩ := cells2 c6; clear c70 c71 c72 c73 c74 c75; obtain ⟨c70, c71, c72, c73, c74, c75⟩ := cellsRp c7; obtain ⟨A1, n1, k1, rfl⟩ := o1.slice) | (clear mk9; refine wpList_store_v rfl 31 _ _ rfl b6 [.slice A1 n1 k1, .int .i64 Y] rfl rfl sizeBk c6 rfl (oneBk _ _ _ _) ?_; intro w7 hO7 c6x; clear c60 c61; have hz7 : w6.heap.size ≤ w7.heap.size := (Nat.le_of_eq hO7.1.symm); have hy7 : w7.heap.size ≤ w6.heap.size := (Nat.le_of_eq hO7.1); replace o1 := o1.only hO7 c6 (by decide); replace c3 := vblk_only c3 hO7 (by omega); replace c4 := vblk_only c4 hO7 (by omega); replace c5 := vblk_only c5 hO7 (by omega); replace c7 := vblk_only c7 hO7 (by omega); replace hB := hB.trans (hO7.2.2 _ (by omega)); replace hzw := hB.size; clear c30 c31; obtain ⟨c30, c31⟩ := cells2 c3; clear c40 c41 c42 c43 c44; obtain ⟨c40, c41, c42, c43, c44⟩ := cells5 c4; clear c50 c51 c52 c53 c54 c55 c56 c57; obtain ⟨c50, c51, c52, c53, c54, c55, c56, c57⟩ := cellsCm c5; clear c70 c71 c72 c73 c74 c75; obtain ⟨c70, c71, c72, c73, c74, c75⟩ := cellsRp c7; clear c6; have c6 := c6x; clear c6x; obtain ⟨c60, c61⟩ := cells2 c6) | (clear mk10; refine wpList_store_v rfl 33 _ _ rfl b7 [.int .i64 6, .string ⟨#[]⟩, .int .i64 0, .string ⟨#[]⟩, .int .i64 0, .int .i64 m] rfl rfl sizeRp c7 rfl (oneRp ⟨6, emp, 0, emp, 0, (m : Int)⟩) ?_; intro w8 hO8 c7x; clear c70 c71 c72 c73 c74 c75; have hz8 : w7.heap.size ≤ w8.heap.size := (Nat.le_of_eq hO8.1.symm); have hy8 : w8.heap.size ≤ w7.heap.size := (Nat.le_of_eq hO8.1); replace o1 := o1.only hO8 c7 (by decide); replace c3 := vblk_only c3 hO8 (by omega); replace c4 := vblk_only c4 hO8 (by omega); replace c5 := vblk_only c5 hO8 (by omega); replace c6 := vblk_only c6 hO8 (by omega); replace hB := hB.trans (hO8.2.2 _ (by omega)); replace hzw := hB.size; clear c30 c31; obtain ⟨c30, c31⟩ := cells2 c3; clear c40 c41 c42 c43 c44; obtain ⟨c40, c41, c42, c43, c44⟩ := cells5 c4; clear c50 c51 c52 c53 c54 c55 c56 c57; obtain ⟨c50, c51, c52, c53, c54, c55, c56, c57⟩ := cellsCm c5; clear c60 c61; obtain ⟨c60, c61⟩ := cells2 c6; clear c7; have c7 := c7x; clear c7x; obtain ⟨c70, c71, c72, c73, c74, c75⟩ := cellsRp c7) | (fail))
    exact row_cc rfl rfl rfl c6 c7 Tryz.underlying31 Tryz.underlying33 sizeBk sizeRp rfl ⟨_, rfl, (o1.wide (Nat.le_refl _) (by omega)).top, hB⟩
set_option maxRecDepth 100000 in
set_option maxHeartbeats 2000000 in
theorem touch_any (I : List It) (X : Int) (N B : ByteArray) (F C U : Int) (V : Int) (N2 : ByteArray) (F2 U2 : Int) (B2 : ByteArray) (C2 D2 : Int) (Q2 : Bool) (v : Value) (lo : Nat) (w : World) (o : Own encIt w lo w.heap.size v I) (hlo : lo ≤ w.heap.size) (ok : StOk ⟨I, X⟩) (hN : N.size ≤ 1048576) (hBs : B.size ≤ 1048576) (hN2 : N2.size ≤ 1048576) (hB2 : B2.size ≤ 1048576) :
    Calls Tryz.prog 86 #[.agg #[v, .int .i64 X], .agg #[.string N, .int .i64 F, .string B, .int .i64 C, .int .i64 U], .agg #[.int .i64 V, .string N2, .int .i64 F2, .int .i64 U2, .string B2, .int .i64 C2, .int .i64 D2, .bool Q2]] w fun e w' => PostD ⟨putL I ⟨N, F, B, C, U2⟩, X⟩ (rp 7) lo w e w' := by
  obtain ⟨A0, n0, k0, rfl⟩ := o.slice
  have HS : Hid (Srt I) := ok.bk.srt
  have hl20 := len_of ok
  clear ok
  have hzw0 : w.heap.size ≤ w.heap.size := Nat.le_refl _
  go_enter Tryz.func86, Tryz.ntmps86
  have mk1 : Hid True := trivial
  have mk2 : Hid True := trivial
  have mk3 : Hid True := trivial
  have mk4 : Hid True := trivial
  have mk5 : Hid True := trivial
  have mk6 : Hid True := trivial
  go_upto_region 2 with (first | (clear mk1; refine wpList_box_v rfl 31 _ rfl [.slice A0 n0 k0, .int .i64 X] rfl ?_; intro b3 w1 hb3 hwb3 hB1 c3; have hz1 : w.heap.size ≤ w1.heap.size := hB1.size; replace o := o.grow hB1; have hB := hB1; have hzw := hB.size; obtain ⟨c30, c31⟩ := cells2 c3) | (clear mk2; refine wpList_box_v rfl 56 _ rfl [.string N, .int .i64 F, .string B, .int .i64 C, .int .i64 U] rfl ?_; intro b4 w2 hb4 hwb4 hB2 c4; have hz2 : w1.heap.size ≤ w2.heap.size := hB2.size; replace o := o.grow hB2; replace c3 := vblk_grow c3 hB2; replace hB := hB.trans (hB2.mono (by omega)); replace hzw := hB.size; clear c30 c31; obtain ⟨c30, c31⟩ := cells2 c3; obtain ⟨c40, c41, c42, c43, c44⟩ := cells5 c4) | (clear mk3; refine wpList_box_v rfl 37 _ rfl [.int .i64 V, .string N2, .int .i64 F2, .int .i64 U2, .string B2, .int .i64 C2, .int .i64 D2, .bool Q2] rfl ?_; intro b5 w3 hb5 hwb5 hB3 c5; have hz3 : w2.heap.size ≤ w3.heap.size := hB3.size; replace o := o.grow hB3; replace c3 := vblk_grow c3 hB3; replace c4 := vblk_grow c4 hB3; replace hB := hB.trans (hB3.mono (by omega)); replace hzw := hB.size; clear c30 c31; obtain ⟨c30, c31⟩ := cells2 c3; clear c40 c41 c42 c43 c44; obtain ⟨c40, c41, c42, c43, c44⟩ := cells5 c4; obtain ⟨c50, c51, c52, c53, c54, c55, c56, c57⟩ := cellsCm c5) | (clear mk4; refine wpList_alloc_v rfl 31 rfl _ zeroBk ?_; intro b6 w4 hb6 hwb6 hB4 c6; have hz4 : w3.heap.size ≤ w4.heap.size := hB4.size; replace o := o.grow hB4; replace c3 := vblk_grow c3 hB4; replace c4 := vblk_grow c4 hB4; replace c5 := vblk_grow c5 hB4; replace hB := hB.trans (hB4.mono (by omega)); replace hzw := hB.size; clear c30 c31; obtain ⟨c30, c31⟩ := cells2 c3; clear c40 c41 c42 c43 c44; obtain ⟨c40, c41, c42, c43, c44⟩ := cells5 c4; clear c50 c51 c52 c53 c54 c55 c56 c57; obtain ⟨c50, c51, c52, c53, c54, c55, c56, c57⟩ := cellsCm c5; obtain ⟨c60, c61⟩ := cells2 c6) | (clear mk5; refine wpList_alloc_v rfl 33 rfl _ zeroRp ?_; intro b7 w5 hb7 hwb7 hB5 c7; have hz5 : w4.heap.size ≤ w5.heap.size := hB5.size; replace o := o.grow hB5; replace c3 := vblk_grow c3 hB5; replace c4 := vblk_grow c4 hB5; replace c5 := vblk_grow c5 hB5; replace c6 := vblk_grow c6 hB5; replace hB := hB.trans (hB5.mono (by omega)); replace hzw := hB.size; clear c30 c31; obtain ⟨c30, c31⟩ := cells2 c3; clear c40 c41 c42 c43 c44; obtain ⟨c40, c41, c42, c43, c44⟩ := cells5 c4; clear c50 c51 c52 c53 c54 c55 c56 c57; obtain ⟨c50, c51, c52, c53, c54, c55, c56, c57⟩ := cellsCm c5; clear c60 c61; obtain ⟨c60, c61⟩ := cells2 c6; obtain ⟨c70, c71, c72, c73, c74, c75⟩ := cellsRp c7) | (clear mk6; refine wpList_store_cell rfl 2 _ _ rfl b4 4 (.int .i64 U2) rfl rfl rfl szI1 c4 (by simp) ?_; intro w6 hO6 c4x; clear c40 c41 c42 c43 c44; have hz6 : w5.heap.size ≤ w6.heap.size := (Nat.le_of_eq hO6.1.symm); have hy6 : w6.heap.size ≤ w5.heap.size := (Nat.le_of_eq hO6.1); replace o := o.below (hO6.2.2 b4 (Nat.le_refl _)) (by omega); replace c3 := vblk_only c3 hO6 (by omega); replace c5 := vblk_only c5 hO6 (by omega); replace c6 := vblk_only c6 hO6 (by omega); replace c7 := vblk_only c7 hO6 (by omega); replace hB := hB.trans (hO6.2.2 _ (by omega)); replace hzw := hB.size; clear c30 c31; obtain ⟨c30, c31⟩ := cells2 c3; clear c50 c51 c52 c53 c54 c55 c56 c57; obtain ⟨c50, c51, c52, c53, c54, c55, c56, c57⟩ := cellsCm c5; clear c60 c61; obtain ⟨c60, c61⟩ := cells2 c6; clear c70 c71 c72 c73 c74 c75; obtain ⟨c70, c71, c72, c73, c74, c75⟩ := cellsRp c7; clear c4; have c4 : VBlk w6 b4 56 [.string N, .int .i64 F, .string B, .int .i64 C, .int .i64 U2] := c4x; clear c4x; obtain ⟨c40, c41, c42, c43, c44⟩ := cells5 c4) | (fail))
  have hBd : Below w6.heap.size w6 w6.drew := (Below.refl _ _).drew
  have hzd : w6.drew.heap.size ≤ w6.heap.size := Nat.le_refl _
  have hzd2 : w6.heap.size ≤ w6.drew.heap.size := Nat.le_refl _
  replace o := o.grow hBd
  replace c3 := vblk_grow c3 hBd
  clear c30 c31
  obtain ⟨c30, c31⟩ := cells2 c3
  replace c5 := vblk_grow c5 hBd
  clear c50 c51 c52 c53 c54 c55 c56 c57
  obtain ⟨c50, c51, c52, c53, c54, c55, c56, c57⟩ := cellsCm c5
  replace c6 := vblk_grow c6 hBd
  clear c60 c61
  obtain ⟨c60, c61⟩ := cells2 c6
  replace c7 := vblk_grow c7 hBd
  clear c70 c71 c72 c73 c74 c75
  obtain ⟨c70, c71, c72, c73, c74, c75⟩ := cellsRp c7
  replace c4 := vblk_grow c4 hBd
  clear c40 c41 c42 c43 c44
  obtain ⟨c40, c41, c42, c43, c44⟩ := cells5 c4
  replace hB := hB.trans (hBd.mono (by omega))
  replace hzw := hB.size
  (try simp only [Act.put])
  (try simp only [List.setIfInBounds_toArray, List.set_cons_zero, List.set_cons_succ])
  clear c30 c31
  clear c50 c51 c52 c53 c54 c55 c56 c57
  clear c60 c61
  clear c70 c71 c72 c73 c74 c75
  clear c40 c41 c42 c43 c44
  refine wp_region_held_drew (S := fun w' => w'.cell? ⟨b3, 0, none⟩ = some (.slice A0 n0 k0) ∧ w'.cell? ⟨b3, 1, none⟩ = some (.int .i64 X) ∧ w'.cell? ⟨b4, 0, none⟩ = some (.string N) ∧ w'.cell? ⟨b4, 1, none⟩ = some (.int .i64 F) ∧ w'.cell? ⟨b4, 2, none⟩ = some (.string B) ∧ w'.cell? ⟨b4, 3, none⟩ = some (.int .i64 C) ∧ w'.cell? ⟨b4, 4, none⟩ = some (.int .i64 U2)) (by kernel_rfl) (⟨(cells2 c3).1, (cells2 c3).2, cells5 c4⟩) (fun hHeld => ?_)
  refine wpAnyH_take (i := 0) (oi := { dst := some 11, op := Op.fieldAddr 31 (Operand.tmp 3) 0, type := 0, pos := "l13_store.go:118", after := #[], guard := none }) (v := ?_) rfl (by kernel_rfl) (by kernel_rfl) (by kernel_rfl) (fun _ _ _ h => h) (Or.inl ⟨by rfl, ?_⟩) (by assumption) ?_
  rotate_left 1
  · intro w' hSw; (try dsimp only at hSw); go_simp; (try with_reducible rfl)
  (try simp only [Act.put, List.setIfInBounds_toArray, List.set_cons_zero, List.set_cons_succ])
  refine wpAnyH_take (i := 1) (oi := { dst := some 12, op := Op.load 29 (Operand.tmp 11), type := 29, pos := "l13_store.go:118", after := #[{ on := 0, ground := Ground.data }], guard := none }) (v := ?_) rfl (by kernel_rfl) (by kernel_rfl) (by kernel_rfl) (fun _ _ _ h => h) (Or.inl ⟨by rfl, ?_⟩) (by assumption) ?_
  rotate_left 1
  · intro w' hSw; (try dsimp only at hSw); go_simp; (try with_reducible rfl)
  (try simp only [Act.put, List.setIfInBounds_toArray, List.set_cons_zero, List.set_cons_succ])
  refine wpAnyH_take (i := 2) (oi := { dst := some 13, op := Op.load 56 (Operand.tmp 4), type := 56, pos := "l13_store.go:118", after := #[], guard := none }) (v := ?_) rfl (by kernel_rfl) (by kernel_rfl) (by kernel_rfl) (fun _ _ _ h => h) (Or.inl ⟨by rfl, ?_⟩) (by assumption) ?_
  rotate_left 1
  · intro w' hSw; (try dsimp only at hSw); go_simp; (try with_reducible rfl)
  (try simp only [Act.put, List.setIfInBounds_toArray, List.set_cons_zero, List.set_cons_succ])
  refine wpAnyH_take (i := 4) (oi := { dst := some 15, op := Op.fieldAddr 31 (Operand.tmp 3) 1, type := 0, pos := "l13_store.go:118", after := #[], guard := none }) (v := ?_) rfl (by kernel_rfl) (by kernel_rfl) (by kernel_rfl) (fun _ _ _ h => h) (Or.inl ⟨by rfl, ?_⟩) (by assumption) ?_
  rotate_left 1
  · intro w' hSw; (try dsimp only at hSw); go_simp; (try with_reducible rfl)
  (try simp only [Act.put, List.setIfInBounds_toArray, List.set_cons_zero, List.set_cons_succ])
  refine wpAnyH_take (i := 5) (oi := { dst := some 16, op := Op.load 2 (Operand.tmp 15), type := 2, pos := "l13_store.go:118", after := #[{ on := 4, ground := Ground.data }], guard := none }) (v := ?_) rfl (by kernel_rfl) (by kernel_rfl) (by kernel_rfl) (fun _ _ _ h => h) (Or.inl ⟨by rfl, ?_⟩) (by assumption) ?_
  rotate_left 1
  · intro w' hSw; (try dsimp only at hSw); go_simp; (try with_reducible rfl)
  (try simp only [Act.put, List.setIfInBounds_toArray, List.set_cons_zero, List.set_cons_succ])
  refine wpAnyH_take (i := 7) (oi := { dst := some 18, op := Op.build 33 #[(0, Operand.const (Value.int IntKind.i64 7))], type := 33, pos := "l13_store.go:118", after := #[{ on := 8, ground := Ground.gcOnly Departure.lateStores }], guard := none }) (v := ?_) rfl (by kernel_rfl) (by kernel_rfl) (by kernel_rfl) (fun _ _ _ h => h) (Or.inl ⟨by rfl, ?_⟩) (by assumption) ?_
  rotate_left 1
  · intro w' hSw; (try dsimp only at hSw); go_simp; (try with_reducible rfl)
  (try simp only [Act.put, List.setIfInBounds_toArray, List.set_cons_zero, List.set_cons_succ])
  refine wpAnyH_ready (rs := [3]) (by kernel_rfl) (by simp) ?_
  refine AllReadyH.cons (o := { dst := some 14, op := Op.call { callee := Callee.value (Operand.func 61), args := #[Operand.tmp 12, Operand.tmp 13], argTypes := #[29, 56] }, type := 29, pos := "l13_store.go:118", after := #[{ on := 1, ground := Ground.data }, { on := 2, ground := Ground.data }], guard := none }) rfl (fun KC hKC => ?_) AllReadyH.nil
  go_simp
  go_at_call 61
  refine (withItem_any I N B F C U2 _ _ o.rd HS.out (by omega)).mono ?_
  rintro er wr3 ⟨v1, rfl, o1, hB3r⟩
  have hz3r : w6.drew.heap.size ≤ wr3.heap.size := hB3r.size
  replace o := o.grow hB3r
  replace c3 := vblk_grow c3 hB3r
  replace c5 := vblk_grow c5 hB3r
  replace c6 := vblk_grow c6 hB3r
  replace c7 := vblk_grow c7 hB3r
  replace c4 := vblk_grow c4 hB3r
  replace hB := hB.trans (hB3r.mono (by omega))
  replace hzw := hB.size
  obtain ⟨A1, n1, k1, rfl⟩ := o1.slice
  refine hKC.out _ _ (⟨(cells2 c3).1, (cells2 c3).2, cells5 c4⟩) (fun hHeld2 => ?_)
  clear hKC KC hHeld
  have hHeld := hHeld2
  clear hHeld2
  (try simp only [Act.put, List.setIfInBounds_toArray, List.set_cons_zero, List.set_cons_succ])
  refine wpAnyH_take (i := 6) (oi := { dst := some 17, op := Op.build 31 #[(0, Operand.tmp 14), (1, Operand.tmp 16)], type := 31, pos := "l13_store.go:118", after := #[{ on := 3, ground := Ground.data }, { on := 5, ground := Ground.data }], guard := none }) (v := ?_) rfl (by kernel_rfl) (by kernel_rfl) (by kernel_rfl) (fun _ _ _ h => h) (Or.inl ⟨by rfl, ?_⟩) (by assumption) ?_
  rotate_left 1
  · intro w' hSw; (try dsimp only at hSw); go_simp; (try with_reducible rfl)
  (try simp only [Act.put, List.setIfInBounds_toArray, List.set_cons_zero, List.set_cons_succ])
  refine wpAnyH_ready (rs := [8]) (by kernel_rfl) (by simp) ?_
  refine AllReadyH.cons (o := { dst := none, op := Op.store 31 (Operand.tmp 6) (Operand.tmp 17), type := 0, pos := "l13_store.go:118", after := #[{ on := 6, ground := Ground.data }, { on := 3, ground := Ground.chain }, { on := 0, ground := Ground.phase }, { on := 1, ground := Ground.phase }, { on := 2, ground := Ground.phase }, { on := 3, ground := Ground.phase }, { on := 4, ground := Ground.phase }, { on := 5, ground := Ground.phase }, { on := 6, ground := Ground.phase }, { on := 7, ground := Ground.textOnly Departure.lateStores }], guard := none }) rfl (fun KC hKC => ?_) AllReadyH.nil
  refine step_store_v rfl 31 _ _ rfl b6 [.slice A1 n1 k1, .int .i64 X] rfl rfl sizeBk c6 rfl (oneBk _ _ _ _) ?_
  intro wr8 hO8r c6x
  have hz8r : wr3.heap.size ≤ wr8.heap.size := Nat.le_of_eq hO8r.1.symm
  have hy8r : wr8.heap.size ≤ wr3.heap.size := Nat.le_of_eq hO8r.1
  (try replace o := o.only hO8r c6 (by decide))
  (try replace o1 := o1.only hO8r c6 (by decide))
  replace c3 := vblk_only c3 hO8r (by omega)
  replace c5 := vblk_only c5 hO8r (by omega)
  replace c7 := vblk_only c7 hO8r (by omega)
  replace c4 := vblk_only c4 hO8r (by omega)
  clear c6
  have c6 := c6x
  clear c6x
  replace hB := hB.trans (hO8r.2.2 _ (by omega))
  replace hzw := hB.size
  refine hKC.out _ _ (⟨(cells2 c3).1, (cells2 c3).2, cells5 c4⟩) (fun hHeld2 => ?_)
  clear hKC KC hHeld
  have hHeld := hHeld2
  clear hHeld2
  (try simp only [Act.put])
  refine wpAnyH_ready (rs := [9]) (by kernel_rfl) (by simp) ?_
  refine AllReadyH.cons (o := { dst := none, op := Op.store 33 (Operand.tmp 7) (Operand.tmp 18), type := 0, pos := "l13_store.go:118", after := #[{ on := 7, ground := Ground.data }, { on := 8, ground := Ground.chain }, { on := 0, ground := Ground.phase }, { on := 1, ground := Ground.phase }, { on := 2, ground := Ground.phase }, { on := 3, ground := Ground.phase }, { on := 4, ground := Ground.phase }, { on := 5, ground := Ground.phase }, { on := 6, ground := Ground.phase }, { on := 7, ground := Ground.phase }, { on := 8, ground := Ground.phase }], guard := none }) rfl (fun KC hKC => ?_) AllReadyH.nil
  refine step_store_v rfl 33 _ _ rfl b7 [.int .i64 7, .string ⟨#[]⟩, .int .i64 0, .string ⟨#[]⟩, .int .i64 0, .int .i64 0] rfl rfl sizeRp c7 rfl (oneRp (rp 7)) ?_
  intro wr9 hO9r c7x
  have hz9r : wr8.heap.size ≤ wr9.heap.size := Nat.le_of_eq hO9r.1.symm
  have hy9r : wr9.heap.size ≤ wr8.heap.size := Nat.le_of_eq hO9r.1
  (try replace o := o.only hO9r c7 (by decide))
  (try replace o1 := o1.only hO9r c7 (by decide))
  replace c3 := vblk_only c3 hO9r (by omega)
  replace c5 := vblk_only c5 hO9r (by omega)
  replace c6 := vblk_only c6 hO9r (by omega)
  replace c4 := vblk_only c4 hO9r (by omega)
  clear c7
  have c7 := c7x
  clear c7x
  replace hB := hB.trans (hO9r.2.2 _ (by omega))
  replace hzw := hB.size
  refine hKC.out _ _ (⟨(cells2 c3).1, (cells2 c3).2, cells5 c4⟩) (fun hHeld2 => ?_)
  clear hKC KC hHeld
  have hHeld := hHeld2
  clear hHeld2
  (try simp only [Act.put])
  refine wpAnyH_done (by kernel_rfl) ?_ _
  go_wp2
  exact row_cc rfl rfl rfl c6 c7 Tryz.underlying31 Tryz.underlying33 sizeBk sizeRp rfl ⟨_, rfl, (o1.wide (by omega) (by omega)).top, hB⟩

set_option maxRecDepth 100000 in
set_option maxHeartbeats 2000000 in
theorem cutOut_any (I : List It) (X : Int) (N B : ByteArray) (F C U : Int) (V : Int) (N2 : ByteArray) (F2 U2 : Int) (B2 : ByteArray) (C2 D2 : Int) (Q2 : Bool) (v : Value) (lo : Nat) (w : World) (o : Own encIt w lo w.heap.size v I) (hlo : lo ≤ w.heap.size) (ok : StOk ⟨I, X⟩) (hN : N.size ≤ 1048576) (hBs : B.size ≤ 1048576) (hN2 : N2.size ≤ 1048576) (hB2 : B2.size ≤ 1048576) :
    Calls Tryz.prog 87 #[.agg #[v, .int .i64 X], .agg #[.string N, .int .i64 F, .string B, .int .i64 C, .int .i64 U], .agg #[.int .i64 V, .string N2, .int .i64 F2, .int .i64 U2, .string B2, .int .i64 C2, .int .i64 D2, .bool Q2]] w fun e w' => PostD ⟨dropL I N, X⟩ (rp 8) lo w e w' := by
  obtain ⟨A0, n0, k0, rfl⟩ := o.slice
  have HS : Hid (Srt I) := ok.bk.srt
  have hl20 := len_of ok
  clear ok
  have hzw0 : w.heap.size ≤ w.heap.size := Nat.le_refl _
  go_enter Tryz.func87, Tryz.ntmps87
  have mk1 : Hid True := trivial
  have mk2 : Hid True := trivial
  have mk3 : Hid True := trivial
  have mk4 : Hid True := trivial
  have mk5 : Hid True := trivial
  go_upto_region 1 with (first | (clear mk1; refine wpList_box_v rfl 31 _ rfl [.slice A0 n0 k0, .int .i64 X] rfl ?_; intro b3 w1 hb3 hwb3 hB1 c3; have hz1 : w.heap.size ≤ w1.heap.size := hB1.size; replace o := o.grow hB1; have hB := hB1; have hzw := hB.size; obtain ⟨c30, c31⟩ := cells2 c3) | (clear mk2; refine wpList_box_v rfl 56 _ rfl [.string N, .int .i64 F, .string B, .int .i64 C, .int .i64 U] rfl ?_; intro b4 w2 hb4 hwb4 hB2 c4; have hz2 : w1.heap.size ≤ w2.heap.size := hB2.size; replace o := o.grow hB2; replace c3 := vblk_grow c3 hB2; replace hB := hB.trans (hB2.mono (by omega)); replace hzw := hB.size; clear c30 c31; obtain ⟨c30, c31⟩ := cells2 c3; obtain ⟨c40, c41, c42, c43, c44⟩ := cells5 c4) | (clear mk3; refine wpList_box_v rfl 37 _ rfl [.int .i64 V, .string N2, .int .i64 F2, .int .i64 U2, .string B2, .int .i64 C2, .int .i64 D2, .bool Q2] rfl ?_; intro b5 w3 hb5 hwb5 hB3 c5; have hz3 : w2.heap.size ≤ w3.heap.size := hB3.size; replace o := o.grow hB3; replace c3 := vblk_grow c3 hB3; replace c4 := vblk_grow c4 hB3; replace hB := hB.trans (hB3.mono (by omega)); replace hzw := hB.size; clear c30 c31; obtain ⟨c30, c31⟩ := cells2 c3; clear c40 c41 c42 c43 c44; obtain ⟨c40, c41, c42, c43, c44⟩ := cells5 c4; obtain ⟨c50, c51, c52, c53, c54, c55, c56, c57⟩ := cellsCm c5) | (clear mk4; refine wpList_alloc_v rfl 31 rfl _ zeroBk ?_; intro b6 w4 hb6 hwb6 hB4 c6; have hz4 : w3.heap.size ≤ w4.heap.size := hB4.size; replace o := o.grow hB4; replace c3 := vblk_grow c3 hB4; replace c4 := vblk_grow c4 hB4; replace c5 := vblk_grow c5 hB4; replace hB := hB.trans (hB4.mono (by omega)); replace hzw := hB.size; clear c30 c31; obtain ⟨c30, c31⟩ := cells2 c3; clear c40 c41 c42 c43 c44; obtain ⟨c40, c41, c42, c43, c44⟩ := cells5 c4; clear c50 c51 c52 c53 c54 c55 c56 c57; obtain ⟨c50, c51, c52, c53, c54, c55, c56, c57⟩ := cellsCm c5; obtain ⟨c60, c61⟩ := cells2 c6) | (clear mk5; refine wpList_alloc_v rfl 33 rfl _ zeroRp ?_; intro b7 w5 hb7 hwb7 hB5 c7; have hz5 : w4.heap.size ≤ w5.heap.size := hB5.size; replace o := o.grow hB5; replace c3 := vblk_grow c3 hB5; replace c4 := vblk_grow c4 hB5; replace c5 := vblk_grow c5 hB5; replace c6 := vblk_grow c6 hB5; replace hB := hB.trans (hB5.mono (by omega)); replace hzw := hB.size; clear c30 c31; obtain ⟨c30, c31⟩ := cells2 c3; clear c40 c41 c42 c43 c44; obtain ⟨c40, c41, c42, c43, c44⟩ := cells5 c4; clear c50 c51 c52 c53 c54 c55 c56 c57; obtain ⟨c50, c51, c52, c53, c54, c55, c56, c57⟩ := cellsCm c5; clear c60 c61; obtain ⟨c60, c61⟩ := cells2 c6; obtain ⟨c70, c71, c72, c73, c74, c75⟩ := cellsRp c7) | (fail))
  have hBd : Below w5.heap.size w5 w5.drew := (Below.refl _ _).drew
  have hzd : w5.drew.heap.size ≤ w5.heap.size := Nat.le_refl _
  have hzd2 : w5.heap.size ≤ w5.drew.heap.size := Nat.le_refl _
  replace o := o.grow hBd
  replace c3 := vblk_grow c3 hBd
  clear c30 c31
  obtain ⟨c30, c31⟩ := cells2 c3
  replace c4 := vblk_grow c4 hBd
  clear c40 c41 c42 c43 c44
  obtain ⟨c40, c41, c42, c43, c44⟩ := cells5 c4
  replace c5 := vblk_grow c5 hBd
  clear c50 c51 c52 c53 c54 c55 c56 c57
  obtain ⟨c50, c51, c52, c53, c54, c55, c56, c57⟩ := cellsCm c5
  replace c6 := vblk_grow c6 hBd
  clear c60 c61
  obtain ⟨c60, c61⟩ := cells2 c6
  replace c7 := vblk_grow c7 hBd
  clear c70 c71 c72 c73 c74 c75
  obtain ⟨c70, c71, c72, c73, c74, c75⟩ := cellsRp c7
  replace hB := hB.trans (hBd.mono (by omega))
  replace hzw := hB.size
  (try simp only [Act.put])
  (try simp only [List.setIfInBounds_toArray, List.set_cons_zero, List.set_cons_succ])
  clear c30 c31
  clear c40 c41 c42 c43 c44
  clear c50 c51 c52 c53 c54 c55 c56 c57
  clear c60 c61
  clear c70 c71 c72 c73 c74 c75
  refine wp_region_held_drew (S := fun w' => w'.cell? ⟨b3, 0, none⟩ = some (.slice A0 n0 k0) ∧ w'.cell? ⟨b3, 1, none⟩ = some (.int .i64 X) ∧ w'.cell? ⟨b4, 0, none⟩ = some (.string N) ∧ w'.cell? ⟨b4, 1, none⟩ = some (.int .i64 F) ∧ w'.cell? ⟨b4, 2, none⟩ = some (.string B) ∧ w'.cell? ⟨b4, 3, none⟩ = some (.int .i64 C) ∧ w'.cell? ⟨b4, 4, none⟩ = some (.int .i64 U)) (by kernel_rfl) (⟨(cells2 c3).1, (cells2 c3).2, cells5 c4⟩) (fun hHeld => ?_)
  refine wpAnyH_take (i := 0) (oi := { dst := some 8, op := Op.fieldAddr 31 (Operand.tmp 3) 0, type := 0, pos := "l13_store.go:122", after := #[], guard := none }) (v := ?_) rfl (by kernel_rfl) (by kernel_rfl) (by kernel_rfl) (fun _ _ _ h => h) (Or.inl ⟨by rfl, ?_⟩) (by assumption) ?_
  rotate_left 1
  · intro w' hSw; (try dsimp only at hSw); go_simp; (try with_reducible rfl)
  (try simp only [Act.put, List.setIfInBounds_toArray, List.set_cons_zero, List.set_cons_succ])
  refine wpAnyH_take (i := 1) (oi := { dst := some 9, op := Op.load 29 (Operand.tmp 8), type := 29, pos := "l13_store.go:122", after := #[{ on := 0, ground := Ground.data }], guard := none }) (v := ?_) rfl (by kernel_rfl) (by kernel_rfl) (by kernel_rfl) (fun _ _ _ h => h) (Or.inl ⟨by rfl, ?_⟩) (by assumption) ?_
  rotate_left 1
  · intro w' hSw; (try dsimp only at hSw); go_simp; (try with_reducible rfl)
  (try simp only [Act.put, List.setIfInBounds_toArray, List.set_cons_zero, List.set_cons_succ])
  refine wpAnyH_take (i := 2) (oi := { dst := some 10, op := Op.fieldAddr 56 (Operand.tmp 4) 0, type := 0, pos := "l13_store.go:122", after := #[], guard := none }) (v := ?_) rfl (by kernel_rfl) (by kernel_rfl) (by kernel_rfl) (fun _ _ _ h => h) (Or.inl ⟨by rfl, ?_⟩) (by assumption) ?_
  rotate_left 1
  · intro w' hSw; (try dsimp only at hSw); go_simp; (try with_reducible rfl)
  (try simp only [Act.put, List.setIfInBounds_toArray, List.set_cons_zero, List.set_cons_succ])
  refine wpAnyH_take (i := 3) (oi := { dst := some 11, op := Op.load 9 (Operand.tmp 10), type := 9, pos := "l13_store.go:122", after := #[{ on := 2, ground := Ground.data }], guard := none }) (v := ?_) rfl (by kernel_rfl) (by kernel_rfl) (by kernel_rfl) (fun _ _ _ h => h) (Or.inl ⟨by rfl, ?_⟩) (by assumption) ?_
  rotate_left 1
  · intro w' hSw; (try dsimp only at hSw); go_simp; (try with_reducible rfl)
  (try simp only [Act.put, List.setIfInBounds_toArray, List.set_cons_zero, List.set_cons_succ])
  refine wpAnyH_take (i := 5) (oi := { dst := some 13, op := Op.fieldAddr 31 (Operand.tmp 3) 1, type := 0, pos := "l13_store.go:122", after := #[], guard := none }) (v := ?_) rfl (by kernel_rfl) (by kernel_rfl) (by kernel_rfl) (fun _ _ _ h => h) (Or.inl ⟨by rfl, ?_⟩) (by assumption) ?_
  rotate_left 1
  · intro w' hSw; (try dsimp only at hSw); go_simp; (try with_reducible rfl)
  (try simp only [Act.put, List.setIfInBounds_toArray, List.set_cons_zero, List.set_cons_succ])
  refine wpAnyH_take (i := 6) (oi := { dst := some 14, op := Op.load 2 (Operand.tmp 13), type := 2, pos := "l13_store.go:122", after := #[{ on := 5, ground := Ground.data }], guard := none }) (v := ?_) rfl (by kernel_rfl) (by kernel_rfl) (by kernel_rfl) (fun _ _ _ h => h) (Or.inl ⟨by rfl, ?_⟩) (by assumption) ?_
  rotate_left 1
  · intro w' hSw; (try dsimp only at hSw); go_simp; (try with_reducible rfl)
  (try simp only [Act.put, List.setIfInBounds_toArray, List.set_cons_zero, List.set_cons_succ])
  refine wpAnyH_take (i := 8) (oi := { dst := some 16, op := Op.build 33 #[(0, Operand.const (Value.int IntKind.i64 8))], type := 33, pos := "l13_store.go:122", after := #[{ on := 9, ground := Ground.gcOnly Departure.lateStores }], guard := none }) (v := ?_) rfl (by kernel_rfl) (by kernel_rfl) (by kernel_rfl) (fun _ _ _ h => h) (Or.inl ⟨by rfl, ?_⟩) (by assumption) ?_
  rotate_left 1
  · intro w' hSw; (try dsimp only at hSw); go_simp; (try with_reducible rfl)
  (try simp only [Act.put, List.setIfInBounds_toArray, List.set_cons_zero, List.set_cons_succ])
  refine wpAnyH_ready (rs := [4]) (by kernel_rfl) (by simp) ?_
  refine AllReadyH.cons (o := { dst := some 12, op := Op.call { callee := Callee.value (Operand.func 102), args := #[Operand.tmp 9, Operand.tmp 11], argTypes := #[29, 9] }, type := 29, pos := "l13_store.go:122", after := #[{ on := 1, ground := Ground.data }, { on := 3, ground := Ground.data }], guard := none }) rfl (fun KC hKC => ?_) AllReadyH.nil
  go_simp
  go_at_call 102
  refine (without_any I N _ _ o.rd HS.out (by omega)).mono ?_
  rintro er wr4 ⟨v1, rfl, o1, hB4r⟩
  have hz4r : w5.drew.heap.size ≤ wr4.heap.size := hB4r.size
  replace o := o.grow hB4r
  replace c3 := vblk_grow c3 hB4r
  replace c4 := vblk_grow c4 hB4r
  replace c5 := vblk_grow c5 hB4r
  replace c6 := vblk_grow c6 hB4r
  replace c7 := vblk_grow c7 hB4r
  replace hB := hB.trans (hB4r.mono (by omega))
  replace hzw := hB.size
  obtain ⟨A1, n1, k1, rfl⟩ := o1.slice
  refine hKC.out _ _ (⟨(cells2 c3).1, (cells2 c3).2, cells5 c4⟩) (fun hHeld2 => ?_)
  clear hKC KC hHeld
  have hHeld := hHeld2
  clear hHeld2
  (try simp only [Act.put, List.setIfInBounds_toArray, List.set_cons_zero, List.set_cons_succ])
  refine wpAnyH_take (i := 7) (oi := { dst := some 15, op := Op.build 31 #[(0, Operand.tmp 12), (1, Operand.tmp 14)], type := 31, pos := "l13_store.go:122", after := #[{ on := 4, ground := Ground.data }, { on := 6, ground := Ground.data }], guard := none }) (v := ?_) rfl (by kernel_rfl) (by kernel_rfl) (by kernel_rfl) (fun _ _ _ h => h) (Or.inl ⟨by rfl, ?_⟩) (by assumption) ?_
  rotate_left 1
  · intro w' hSw; (try dsimp only at hSw); go_simp; (try with_reducible rfl)
  (try simp only [Act.put, List.setIfInBounds_toArray, List.set_cons_zero, List.set_cons_succ])
  refine wpAnyH_ready (rs := [9]) (by kernel_rfl) (by simp) ?_
  refine AllReadyH.cons (o := { dst := none, op := Op.store 31 (Operand.tmp 6) (Operand.tmp 15), type := 0, pos := "l13_store.go:122", after := #[{ on := 7, ground := Ground.data }, { on := 4, ground := Ground.chain }, { on := 0, ground := Ground.phase }, { on := 1, ground := Ground.phase }, { on := 2, ground := Ground.phase }, { on := 3, ground := Ground.phase }, { on := 4, ground := Ground.phase }, { on := 5, ground := Ground.phase }, { on := 6, ground := Ground.phase }, { on := 7, ground := Ground.phase }, { on := 8, ground := Ground.textOnly Departure.lateStores }], guard := none }) rfl (fun KC hKC => ?_) AllReadyH.nil
  refine step_store_v rfl 31 _ _ rfl b6 [.slice A1 n1 k1, .int .i64 X] rfl rfl sizeBk c6 rfl (oneBk _ _ _ _) ?_
  intro wr9 hO9r c6x
  have hz9r : wr4.heap.size ≤ wr9.heap.size := Nat.le_of_eq hO9r.1.symm
  have hy9r : wr9.heap.size ≤ wr4.heap.size := Nat.le_of_eq hO9r.1
  (try replace o := o.only hO9r c6 (by decide))
  (try replace o1 := o1.only hO9r c6 (by decide))
  replace c3 := vblk_only c3 hO9r (by omega)
  replace c4 := vblk_only c4 hO9r (by omega)
  replace c5 := vblk_only c5 hO9r (by omega)
  replace c7 := vblk_only c7 hO9r (by omega)
  clear c6
  have c6 := c6x
  clear c6x
  replace hB := hB.trans (hO9r.2.2 _ (by omega))
  replace hzw := hB.size
  refine hKC.out _ _ (⟨(cells2 c3).1, (cells2 c3).2, cells5 c4⟩) (fun hHeld2 => ?_)
  clear hKC KC hHeld
  have hHeld := hHeld2
  clear hHeld2
  (try simp only [Act.put])
  refine wpAnyH_ready (rs := [10]) (by kernel_rfl) (by simp) ?_
  refine AllReadyH.cons (o := { dst := none, op := Op.store 33 (Operand.tmp 7) (Operand.tmp 16), type := 0, pos := "l13_store.go:122", after := #[{ on := 8, ground := Ground.data }, { on := 9, ground := Ground.chain }, { on := 0, ground := Ground.phase }, { on := 1, ground := Ground.phase }, { on := 2, ground := Ground.phase }, { on := 3, ground := Ground.phase }, { on := 4, ground := Ground.phase }, { on := 5, ground := Ground.phase }, { on := 6, ground := Ground.phase }, { on := 7, ground := Ground.phase }, { on := 8, ground := Ground.phase }, { on := 9, ground := Ground.phase }], guard := none }) rfl (fun KC hKC => ?_) AllReadyH.nil
  refine step_store_v rfl 33 _ _ rfl b7 [.int .i64 8, .string ⟨#[]⟩, .int .i64 0, .string ⟨#[]⟩, .int .i64 0, .int .i64 0] rfl rfl sizeRp c7 rfl (oneRp (rp 8)) ?_
  intro wr10 hO10r c7x
  have hz10r : wr9.heap.size ≤ wr10.heap.size := Nat.le_of_eq hO10r.1.symm
  have hy10r : wr10.heap.size ≤ wr9.heap.size := Nat.le_of_eq hO10r.1
  (try replace o := o.only hO10r c7 (by decide))
  (try replace o1 := o1.only hO10r c7 (by decide))
  replace c3 := vblk_only c3 hO10r (by omega)
  replace c4 := vblk_only c4 hO10r (by omega)
  replace c5 := vblk_only c5 hO10r (by omega)
  replace c6 := vblk_only c6 hO10r (by omega)
  clear c7
  have c7 := c7x
  clear c7x
  replace hB := hB.trans (hO10r.2.2 _ (by omega))
  replace hzw := hB.size
  refine hKC.out _ _ (⟨(cells2 c3).1, (cells2 c3).2, cells5 c4⟩) (fun hHeld2 => ?_)
  clear hKC KC hHeld
  have hHeld := hHeld2
  clear hHeld2
  (try simp only [Act.put])
  refine wpAnyH_done (by kernel_rfl) ?_ _
  go_wp2
  exact row_cc rfl rfl rfl c6 c7 Tryz.underlying31 Tryz.underlying33 sizeBk sizeRp rfl ⟨_, rfl, (o1.wide (by omega) (by omega)).top, hB⟩

end Go.Proofs.YtjkkjpgebcnhgaaGreatDoor.rg
/- Contracts: the table of the program's deeds; the thing that is named. -/
namespace Go.Proofs.YtjkkjpgebcnhgaaGreatDoor.rg
open Go.ChangeShapes Go.WideShapes Go.ChangeAt Go.RowKit
open Go.Deep Go.Joins
open Go.Proofs.YtjkkjpgebcnhgaaGreatDoor.ce Go.Proofs.YtjkkjpgebcnhgaaGreatDoor.ro Go.Proofs.YtjkkjpgebcnhgaaGreatDoor.cm
set_option linter.unusedVariables false
def fnV (n : Nat) : Value := .func (.func n) #[] #[]
def deedL : List Value := [.nilFunc, .nilFunc, fnV 76, fnV 77, fnV 78, fnV 77, fnV 79, fnV 79, fnV 80, fnV 79, fnV 79, fnV 80, fnV 81, fnV 80, fnV 82, fnV 80, fnV 83, fnV 77, fnV 84, fnV 77, fnV 85, fnV 77, fnV 86, fnV 77, fnV 87, fnV 77, fnV 88, fnV 88]
theorem deed_one : ∀ v ∈ deedL, v.oneCell' = true := List.all_eq_true.1 (by rfl)
theorem two_one {x y : Value} (h1 : x.oneCell' = true) (h2 : y.oneCell' = true) : ∀ v ∈ [x, y], v.oneCell' = true := by
  intro u hu
  simp only [List.mem_cons, List.not_mem_nil, or_false] at hu
  rcases hu with rfl | rfl
  · exact h1
  · exact h2
theorem vblk_two {w : World} {b : Nat} {t : TypeId} {L : List Value} (h : VBlk w b t L) {o : Nat} {x y : Value} (hx : L[o]? = some x) (hy : L[o + 1]? = some y) : w.rangeAt b o [x, y] := fun j v hv => by
  rcases j with _ | _ | j
  · have : v = x := by simpa using hv.symm
    subst this
    have := h.range o v hx
    simpa using this
  · have : v = y := by simpa using hv.symm
    subst this
    have := h.range (o + 1) v hy
    simpa using this
  · simp at hv
theorem zeroDd (w : World) : (zeroValue 75).run Tryz.prog w = .ok (.agg [Value.nilFunc, .nilFunc].toArray) w := by kernel_rfl
theorem zeroDds (w : World) : (zeroValue 110).run Tryz.prog w = .ok (.agg (List.replicate 28 Value.nilFunc).toArray) w := by kernel_rfl
theorem sizeDd : (Tryz.prog.info? 75).map (·.size) = some 2 := by kernel_rfl
theorem sizeDds : (Tryz.prog.info? 110).map (·.size) = some 28 := by kernel_rfl
set_option maxRecDepth 100000 in
set_option maxHeartbeats 2000000 in
theorem deedOf_any (k : Nat) (hk : 1 ≤ k) (hk2 : k ≤ 13) (x y : Value) (hx : deedL[k * 2]? = some x) (hy : deedL[k * 2 + 1]? = some y) (h1 : x.oneCell' = true) (h2 : y.oneCell' = true) (w : World) :
    Calls Tryz.prog 42 #[.int .i64 k] w fun e w' => e = .returned (.agg #[x, y]) ∧ Below w.heap.size w w' := by
  have hk0 : (0 : Int) ≤ (k : Int) := by omega
  have hk14 : (k : Int) < 14 := by omega
  have HX : Hid (deedL[k * 2]? = some x) := hx
  have HY : Hid (deedL[k * 2 + 1]? = some y) := hy
  have H1 : Hid (x.oneCell' = true) := h1
  have H2 : Hid (y.oneCell' = true) := h2
  clear hx hy h1 h2
  have m1 : Hid True := trivial
  have m2 : Hid True := trivial
  have m3 : Hid True := trivial
  have m4 : Hid True := trivial
  have m5 : Hid True := trivial
  go_enter Tryz.func42, Tryz.ntmps42
  go_wp2_with (first
    | (clear m4; refine wpList_alloc_v rfl 75 rfl _ zeroDd ?_; intro b1 w1 hb1 hw1 hB1 V1; have hz1 := hB1.size)
    | (clear m5; refine wpList_alloc_v rfl 110 rfl _ zeroDds ?_; intro b2 w2 hb2 hw2 hB2 V2; have hz2 := hB2.size; replace V1 := vblk_grow V1 hB2)
    | (clear m1; refine wpList_store_v rfl 110 _ _ rfl b2 deedL rfl rfl sizeDds V2 rfl deed_one ?_; intro w3 hO3 V3; replace V1 := vblk_only V1 hO3 (by omega); have hB3 : Below w.heap.size w w3 := (hB1.trans (hB2.mono (by omega))).trans (hO3.2.2 _ (by omega)))
    | (clear m2; refine wpList_load_r rfl 75 _ rfl b2 (k * 2) [x, y] rfl _ Tryz.underlying75 rfl sizeDd (vblk_two V3 HX.out HY.out) ?_)
    | (clear m3; refine wpList_store_v rfl 75 _ _ rfl b1 [x, y] rfl rfl sizeDd V1 rfl (two_one H1.out H2.out) ?_; intro w4 hO4 V4; have hB4 := hB3.trans (hO4.2.2 _ (by omega)))
    | (fail))
  exact row_retv rfl rfl V4 Tryz.underlying75 sizeDd rfl ⟨rfl, hB4⟩
def ZIt : It := ⟨emp, 0, emp, 0, 0⟩
set_option maxHeartbeats 1000000 in
theorem itemNamed_no (I : List It) (s : ByteArray) (v : Value) (w : World) (r : Rd encIt w v I) (h : lookI I s = none) :
    Calls Tryz.prog 41 #[v, .string s] w fun e w' => e = .returned (.tuple #[.agg #[.string emp, .int .i64 0, .string emp, .int .i64 0, .int .i64 0], .bool false]) ∧ Below w.heap.size w w' := by
  obtain ⟨a, cap, rfl⟩ := r.form
  have R : Hid (Rd encIt w (.slice a I.length cap) I) := r
  have hf : Hid (findI I s = -1) := (look_none h).1
  clear r h
  have hq : ((-1 : Int) == -1) = true := by decide
  have m1 : Hid True := trivial
  have m2 : Hid True := trivial
  go_enter Tryz.func41, Tryz.ntmps41
  go_wp2_with (first
    | (clear m1; refine wpList_alloc_v rfl 56 rfl _ zeroIt ?_; intro b1 w1 hb1 hw1 hB1 V1; have hz1 := hB1.size)
    | (go_at_call 75; refine (implFindItem_any I s _ _ (R.out.grow hB1)).mono ?_; rintro e w2 ⟨rfl, hB2⟩; rw [hf.out]; have V2 := vblk_grow V1 hB2; have hB := hB1.trans (hB2.mono hz1); have hz2 := hB2.size)
    | (clear m2; refine wpList_store_v rfl 56 _ _ rfl b1 [.string emp, .int .i64 0, .string emp, .int .i64 0, .int .i64 0] rfl rfl sizeIt V2 rfl (ic_one ZIt) ?_; intro w3 hO3 V3; have hB3 := hB.trans (hO3.2.2 _ hb1))
    | (fail))
  exact row_ct rfl rfl rfl V3 Tryz.underlying56 sizeIt rfl ⟨rfl, hB3⟩
set_option maxHeartbeats 1000000 in
theorem itemNamed_yes (I : List It) (s : ByteArray) (N B : ByteArray) (F C U : Int) (v : Value) (w : World) (r : Rd encIt w v I) (h : lookI I s = some ⟨N, F, B, C, U⟩) :
    Calls Tryz.prog 41 #[v, .string s] w fun e w' => e = .returned (.tuple #[.agg #[.string N, .int .i64 F, .string B, .int .i64 C, .int .i64 U], .bool true]) ∧ Below w.heap.size w w' := by
  obtain ⟨a, cap, rfl⟩ := r.form
  have R : Hid (Rd encIt w (.slice a I.length cap) I) := r
  obtain ⟨-, -, k, hk, hk2, hk3⟩ := look_some h
  have hf : Hid (findI I s = k) := hk2
  have hX : Hid (I[k] = ⟨N, F, B, C, U⟩) := hk3
  have hl := r.len
  clear r h hk2 hk3
  have hq : ((k : Int) == -1) = false := by simp
  have hk0 : (0 : Int) ≤ (k : Int) := by omega
  have hk1 : (k : Int) < (I.length : Int) := by omega
  have m1 : Hid True := trivial
  have m2 : Hid True := trivial
  have m3 : Hid True := trivial
  obtain ⟨bk, off, rfl, hb, rg0⟩ := rd_item rfl rfl R.out k hk
  rw [hX.out] at rg0
  have rg : Hid (w.rangeAt bk (off + k * 5) [.string N, .int .i64 F, .string B, .int .i64 C, .int .i64 U]) := rg0
  clear rg0 hX
  go_enter Tryz.func41, Tryz.ntmps41
  go_wp2_with (first
    | (clear m1; refine wpList_alloc_v rfl 56 rfl _ zeroIt ?_; intro b1 w1 hb1 hw1 hB1 V1; have hz1 := hB1.size)
    | (go_at_call 75; refine (implFindItem_any I s _ _ (R.out.grow hB1)).mono ?_; rintro e w2 ⟨rfl, hB2⟩; rw [hf.out]; have V2 := vblk_grow V1 hB2; have hB := hB1.trans (hB2.mono hz1); have hz2 := hB2.size; have rg2 := range_of rg.out (hB.block bk hb))
    | (clear m3; refine wpList_load_r rfl 56 _ rfl bk (off + k * 5) [.string N, .int .i64 F, .string B, .int .i64 C, .int .i64 U] rfl _ Tryz.underlying56 rfl sizeIt rg2 ?_)
    | (clear m2; refine wpList_store_v rfl 56 _ _ rfl b1 [.string N, .int .i64 F, .string B, .int .i64 C, .int .i64 U] rfl rfl sizeIt V2 rfl (ic_one ⟨N, F, B, C, U⟩) ?_; intro w3 hO3 V3; have hB3 := hB.trans (hO3.2.2 _ hb1))
    | (fail))
  exact row_ct rfl rfl rfl V3 Tryz.underlying56 sizeIt rfl ⟨rfl, hB3⟩
end Go.Proofs.YtjkkjpgebcnhgaaGreatDoor.rg
/- Contracts: each verb's deed does what the book does. -/
namespace Go.Proofs.YtjkkjpgebcnhgaaGreatDoor.rg
open Go.ChangeShapes Go.WideShapes Go.ChangeAt Go.RowKit
open Go.Deep Go.Joins
open Go.Proofs.YtjkkjpgebcnhgaaGreatDoor.ce Go.Proofs.YtjkkjpgebcnhgaaGreatDoor.ro Go.Proofs.YtjkkjpgebcnhgaaGreatDoor.cm
set_option linter.unusedVariables false
theorem nm_small {s : ByteArray} (h : nameB s = true) : s.size ≤ 12 := by
  simp [nameB] at h
  omega
set_option maxHeartbeats 2000000 in
theorem deed_there (I : List It) (X : Int) (N B : ByteArray) (F C U : Int) (V : Int) (N2 : ByteArray) (F2 U2 : Int) (B2 : ByteArray) (C2 D2 : Int) (Q2 : Bool) (ok : StOk ⟨I, X⟩) (hc : COk ⟨V, N2, F2, U2, B2, C2, D2, Q2⟩) (hlk : lookI I N2 = some ⟨N, F, B, C, U⟩) :
    ∃ k : Nat, V = k ∧ 1 ≤ k ∧ k ≤ 13 ∧ ∃ (G : Nat) (x y : Value), deedL[k * 2]? = some x ∧ deedL[k * 2 + 1]? = some y ∧ x = fnV G ∧ x.oneCell' = true ∧ y.oneCell' = true ∧ (∀ args w, (callFunc G args).run Tryz.prog w = .ok (.enter G args) w) ∧
      ∀ (v : Value) (lo : Nat) (w : World), Own encIt w lo w.heap.size v I → lo ≤ w.heap.size → EnvD w → Calls Tryz.prog G #[.agg #[v, .int .i64 X], .agg #[.string N, .int .i64 F, .string B, .int .i64 C, .int .i64 U], .agg #[.int .i64 V, .string N2, .int .i64 F2, .int .i64 U2, .string B2, .int .i64 C2, .int .i64 D2, .bool Q2]] w fun e w' => PostD (doK ⟨I, X⟩ ⟨V, N2, F2, U2, B2, C2, D2, Q2⟩).1 (doK ⟨I, X⟩ ⟨V, N2, F2, U2, B2, C2, D2, Q2⟩).2 lo w e w' := by
  have hv0 := hc.v0
  have hv1 := hc.v1
  have hd1 := hc.d1
  have hb1 := hc.b1
  dsimp only at hv0 hv1 hd1 hb1
  obtain ⟨hmem, hnn, -⟩ := look_some hlk
  have hit := itemB_iff.1 (ok.bk.1 _ hmem)
  dsimp only at hnn
  have hN : N.size ≤ 1048576 := by have := nm_small hit.nm; dsimp only at this; omega
  have hBs : B.size ≤ 1048576 := by have := hit.b1; dsimp only at this; omega
  have hN2 : N2.size ≤ 1048576 := by rw [← hnn]; exact hN
  have hB2 : B2.size ≤ 1048576 := by omega
  clear hmem hit
  by_cases h1 : V = 1
  · subst h1
    refine ⟨1, rfl, by omega, by omega, 76, _, _, rfl, rfl, rfl, rfl, rfl, fun args w => by kernel_rfl, fun v lo w o hlo en => ?_⟩
    have hcon := tellValue_any I X N B F C U 1 N2 F2 U2 B2 C2 D2 Q2 v lo w o hlo
    have e : doK ⟨I, X⟩ ⟨1, N2, F2, U2, B2, C2, D2, Q2⟩ = (⟨I, X⟩, ⟨5, N, F, B, 0, 0⟩) := by
      simp [doK, hlk]
    rw [e]
    exact hcon
  by_cases h2 : V = 2
  · subst h2
    refine ⟨2, rfl, by omega, by omega, 78, _, _, rfl, rfl, rfl, rfl, rfl, fun args w => by kernel_rfl, fun v lo w o hlo en => ?_⟩
    have hcon := tellValueAndCas_any I X N B F C U 2 N2 F2 U2 B2 C2 D2 Q2 v lo w o hlo
    have e : doK ⟨I, X⟩ ⟨2, N2, F2, U2, B2, C2, D2, Q2⟩ = (⟨I, X⟩, ⟨5, N, F, B, C, 0⟩) := by
      simp [doK, hlk]
    rw [e]
    exact hcon
  by_cases h3 : V = 3
  · subst h3
    refine ⟨3, rfl, by omega, by omega, 79, _, _, rfl, rfl, rfl, rfl, rfl, fun args w => by kernel_rfl, fun v lo w o hlo en => ?_⟩
    have hcon := store_any I X N B F C U 3 N2 F2 U2 B2 C2 D2 Q2 v lo w o hlo ok hN hBs hN2 hB2
    have e : doK ⟨I, X⟩ ⟨3, N2, F2, U2, B2, C2, D2, Q2⟩ = keepK ⟨I, X⟩ ⟨N2, F2, B2, 0, U2⟩ := by
      simp [doK, fresh]
    rw [e]
    exact hcon
  by_cases h4 : V = 4
  · subst h4
    refine ⟨4, rfl, by omega, by omega, 80, _, _, rfl, rfl, rfl, rfl, rfl, fun args w => by kernel_rfl, fun v lo w o hlo en => ?_⟩
    have hcon := refuse_any I X N B F C U 4 N2 F2 U2 B2 C2 D2 Q2 v lo w o hlo
    have e : doK ⟨I, X⟩ ⟨4, N2, F2, U2, B2, C2, D2, Q2⟩ = (⟨I, X⟩, rp 2) := by
      simp [doK, hlk]
    rw [e]
    exact hcon
  by_cases h5 : V = 5
  · subst h5
    refine ⟨5, rfl, by omega, by omega, 79, _, _, rfl, rfl, rfl, rfl, rfl, fun args w => by kernel_rfl, fun v lo w o hlo en => ?_⟩
    have hcon := store_any I X N B F C U 5 N2 F2 U2 B2 C2 D2 Q2 v lo w o hlo ok hN hBs hN2 hB2
    have e : doK ⟨I, X⟩ ⟨5, N2, F2, U2, B2, C2, D2, Q2⟩ = keepK ⟨I, X⟩ ⟨N2, F2, B2, 0, U2⟩ := by
      have : ¬ B2.size > 64 := by omega
      simp [doK, hlk, fresh, keepBig, this]
    rw [e]
    exact hcon
  by_cases h6 : V = 6
  · subst h6
    refine ⟨6, rfl, by omega, by omega, 81, _, _, rfl, rfl, rfl, rfl, rfl, fun args w => by kernel_rfl, fun v lo w o hlo en => ?_⟩
    have hcon := putBehind_any I X N B F C U 6 N2 F2 U2 B2 C2 D2 Q2 v lo w o hlo ok hN hBs hN2 hB2
    have e : doK ⟨I, X⟩ ⟨6, N2, F2, U2, B2, C2, D2, Q2⟩ = (if (B ++ B2).size > 64 then ((⟨I, X⟩, rp 12) : Bk × Rp) else keepK ⟨I, X⟩ ⟨N, F, B ++ B2, C, U⟩) := by
      simp [doK, hlk, keepBig, withB, ← bs_app, tx_bs]
    rw [e]
    exact hcon
  by_cases h7 : V = 7
  · subst h7
    refine ⟨7, rfl, by omega, by omega, 82, _, _, rfl, rfl, rfl, rfl, rfl, fun args w => by kernel_rfl, fun v lo w o hlo en => ?_⟩
    have hcon := putAhead_any I X N B F C U 7 N2 F2 U2 B2 C2 D2 Q2 v lo w o hlo ok hN hBs hN2 hB2
    have e : doK ⟨I, X⟩ ⟨7, N2, F2, U2, B2, C2, D2, Q2⟩ = (if (B2 ++ B).size > 64 then ((⟨I, X⟩, rp 12) : Bk × Rp) else keepK ⟨I, X⟩ ⟨N, F, B2 ++ B, C, U⟩) := by
      simp [doK, hlk, keepBig, withB, ← bs_app, tx_bs]
    rw [e]
    exact hcon
  by_cases h8 : V = 8
  · subst h8
    refine ⟨8, rfl, by omega, by omega, 83, _, _, rfl, rfl, rfl, rfl, rfl, fun args w => by kernel_rfl, fun v lo w o hlo en => ?_⟩
    have hcon := storeIfSame_any I X N B F C U 8 N2 F2 U2 B2 C2 D2 Q2 v lo w o hlo ok hN hBs hN2 hB2
    have e : doK ⟨I, X⟩ ⟨8, N2, F2, U2, B2, C2, D2, Q2⟩ = (if C = C2 then keepK ⟨I, X⟩ ⟨N2, F2, B2, 0, U2⟩ else (⟨I, X⟩, rp 3)) := by
      simp [doK, hlk, fresh]
    rw [e]
    exact hcon
  by_cases h9 : V = 9
  · subst h9
    refine ⟨9, rfl, by omega, by omega, 84, _, _, rfl, rfl, rfl, rfl, rfl, fun args w => by kernel_rfl, fun v lo w o hlo en => ?_⟩
    have hcon := countUp_any I X N B F C U 9 N2 F2 U2 B2 C2 D2 Q2 v lo w o hlo ok hN hBs hN2 hB2 en hd1 ⟨_, hlk⟩ rfl
    have e : doK ⟨I, X⟩ ⟨9, N2, F2, U2, B2, C2, D2, Q2⟩ = cntK ⟨I, X⟩ ⟨N, F, B, C, U⟩ ⟨9, N2, F2, U2, B2, C2, D2, Q2⟩ := by
      unfold cntK
      dsimp only
      cases hn : numB B with
      | none => simp [doK, hlk, hn]
      | some n =>
        have := up_stamp ok hlk (m := upN ⟨9, N2, F2, U2, B2, C2, D2, Q2⟩ n) (up_lt (numB_some hn).2.2)
        simp [doK, hlk, hn, this]
    rw [e]
    exact hcon
  by_cases h10 : V = 10
  · subst h10
    refine ⟨10, rfl, by omega, by omega, 85, _, _, rfl, rfl, rfl, rfl, rfl, fun args w => by kernel_rfl, fun v lo w o hlo en => ?_⟩
    have hcon := countDown_any I X N B F C U 10 N2 F2 U2 B2 C2 D2 Q2 v lo w o hlo ok hN hBs hN2 hB2 en hd1 ⟨_, hlk⟩ (by decide)
    have e : doK ⟨I, X⟩ ⟨10, N2, F2, U2, B2, C2, D2, Q2⟩ = cntK ⟨I, X⟩ ⟨N, F, B, C, U⟩ ⟨10, N2, F2, U2, B2, C2, D2, Q2⟩ := by
      unfold cntK
      dsimp only
      cases hn : numB B with
      | none => simp [doK, hlk, hn]
      | some n =>
        have := up_stamp ok hlk (m := upN ⟨10, N2, F2, U2, B2, C2, D2, Q2⟩ n) (up_lt (numB_some hn).2.2)
        simp [doK, hlk, hn, this]
    rw [e]
    exact hcon
  by_cases h11 : V = 11
  · subst h11
    refine ⟨11, rfl, by omega, by omega, 86, _, _, rfl, rfl, rfl, rfl, rfl, fun args w => by kernel_rfl, fun v lo w o hlo en => ?_⟩
    have hcon := touch_any I X N B F C U 11 N2 F2 U2 B2 C2 D2 Q2 v lo w o hlo ok hN hBs hN2 hB2
    have e : doK ⟨I, X⟩ ⟨11, N2, F2, U2, B2, C2, D2, Q2⟩ = (⟨putL I ⟨N, F, B, C, U2⟩, X⟩, rp 7) := by
      have := touch_put ok.bk.srt hlk U2
      simp [doK, hlk, ← this, touchI]
    rw [e]
    exact hcon
  by_cases h12 : V = 12
  · subst h12
    refine ⟨12, rfl, by omega, by omega, 87, _, _, rfl, rfl, rfl, rfl, rfl, fun args w => by kernel_rfl, fun v lo w o hlo en => ?_⟩
    have hcon := cutOut_any I X N B F C U 12 N2 F2 U2 B2 C2 D2 Q2 v lo w o hlo ok hN hBs hN2 hB2
    have e : doK ⟨I, X⟩ ⟨12, N2, F2, U2, B2, C2, D2, Q2⟩ = (⟨dropL I N, X⟩, rp 8) := by
      rw [hnn]
      simp [doK, hlk]
    rw [e]
    exact hcon
  by_cases h13 : V = 13
  · subst h13
    refine ⟨13, rfl, by omega, by omega, 88, _, _, rfl, rfl, rfl, rfl, rfl, fun args w => by kernel_rfl, fun v lo w o hlo en => ?_⟩
    have hcon := clearAll_any I X N B F C U 13 N2 F2 U2 B2 C2 D2 Q2 v lo w o hlo
    have e : doK ⟨I, X⟩ ⟨13, N2, F2, U2, B2, C2, D2, Q2⟩ = (⟨[], X⟩, rp 9) := by
      simp [doK]
    rw [e]
    exact hcon
  omega
set_option maxHeartbeats 2000000 in
theorem deed_none (I : List It) (X : Int) (V : Int) (N2 : ByteArray) (F2 U2 : Int) (B2 : ByteArray) (C2 D2 : Int) (Q2 : Bool) (ok : StOk ⟨I, X⟩) (hc : COk ⟨V, N2, F2, U2, B2, C2, D2, Q2⟩) (hlk : lookI I N2 = none) :
    ∃ k : Nat, V = k ∧ 1 ≤ k ∧ k ≤ 13 ∧ ∃ (G : Nat) (x y : Value), deedL[k * 2]? = some x ∧ deedL[k * 2 + 1]? = some y ∧ y = fnV G ∧ x.oneCell' = true ∧ y.oneCell' = true ∧ (∀ args w, (callFunc G args).run Tryz.prog w = .ok (.enter G args) w) ∧
      ∀ (v : Value) (lo : Nat) (w : World), Own encIt w lo w.heap.size v I → lo ≤ w.heap.size → EnvD w → Calls Tryz.prog G #[.agg #[v, .int .i64 X], .agg #[.string emp, .int .i64 0, .string emp, .int .i64 0, .int .i64 0], .agg #[.int .i64 V, .string N2, .int .i64 F2, .int .i64 U2, .string B2, .int .i64 C2, .int .i64 D2, .bool Q2]] w fun e w' => PostD (doK ⟨I, X⟩ ⟨V, N2, F2, U2, B2, C2, D2, Q2⟩).1 (doK ⟨I, X⟩ ⟨V, N2, F2, U2, B2, C2, D2, Q2⟩).2 lo w e w' := by
  have hv0 := hc.v0
  have hv1 := hc.v1
  have hb1 := hc.b1
  have hnm := hc.nm
  dsimp only at hv0 hv1 hb1 hnm
  have hN : emp.size ≤ 1048576 := by decide
  have hBs : emp.size ≤ 1048576 := by decide
  have hB2 : B2.size ≤ 1048576 := by omega
  by_cases h1 : V = 1
  · subst h1
    refine ⟨1, rfl, by omega, by omega, 77, _, _, rfl, rfl, rfl, rfl, rfl, fun args w => by kernel_rfl, fun v lo w o hlo en => ?_⟩
    have hcon := missing_any I X emp emp 0 0 0 1 N2 F2 U2 B2 C2 D2 Q2 v lo w o hlo
    have e : doK ⟨I, X⟩ ⟨1, N2, F2, U2, B2, C2, D2, Q2⟩ = (⟨I, X⟩, rp 4) := by
      simp [doK, hlk]
    rw [e]
    exact hcon
  by_cases h2 : V = 2
  · subst h2
    refine ⟨2, rfl, by omega, by omega, 77, _, _, rfl, rfl, rfl, rfl, rfl, fun args w => by kernel_rfl, fun v lo w o hlo en => ?_⟩
    have hcon := missing_any I X emp emp 0 0 0 2 N2 F2 U2 B2 C2 D2 Q2 v lo w o hlo
    have e : doK ⟨I, X⟩ ⟨2, N2, F2, U2, B2, C2, D2, Q2⟩ = (⟨I, X⟩, rp 4) := by
      simp [doK, hlk]
    rw [e]
    exact hcon
  by_cases h3 : V = 3
  · subst h3
    refine ⟨3, rfl, by omega, by omega, 79, _, _, rfl, rfl, rfl, rfl, rfl, fun args w => by kernel_rfl, fun v lo w o hlo en => ?_⟩
    have hcon := store_any I X emp emp 0 0 0 3 N2 F2 U2 B2 C2 D2 Q2 v lo w o hlo ok hN hBs (by have := nm_small (hnm (by decide)); omega) hB2
    have e : doK ⟨I, X⟩ ⟨3, N2, F2, U2, B2, C2, D2, Q2⟩ = keepK ⟨I, X⟩ ⟨N2, F2, B2, 0, U2⟩ := by
      simp [doK, fresh]
    rw [e]
    exact hcon
  by_cases h4 : V = 4
  · subst h4
    refine ⟨4, rfl, by omega, by omega, 79, _, _, rfl, rfl, rfl, rfl, rfl, fun args w => by kernel_rfl, fun v lo w o hlo en => ?_⟩
    have hcon := store_any I X emp emp 0 0 0 4 N2 F2 U2 B2 C2 D2 Q2 v lo w o hlo ok hN hBs (by have := nm_small (hnm (by decide)); omega) hB2
    have e : doK ⟨I, X⟩ ⟨4, N2, F2, U2, B2, C2, D2, Q2⟩ = keepK ⟨I, X⟩ ⟨N2, F2, B2, 0, U2⟩ := by
      simp [doK, hlk, fresh]
    rw [e]
    exact hcon
  by_cases h5 : V = 5
  · subst h5
    refine ⟨5, rfl, by omega, by omega, 80, _, _, rfl, rfl, rfl, rfl, rfl, fun args w => by kernel_rfl, fun v lo w o hlo en => ?_⟩
    have hcon := refuse_any I X emp emp 0 0 0 5 N2 F2 U2 B2 C2 D2 Q2 v lo w o hlo
    have e : doK ⟨I, X⟩ ⟨5, N2, F2, U2, B2, C2, D2, Q2⟩ = (⟨I, X⟩, rp 2) := by
      simp [doK, hlk]
    rw [e]
    exact hcon
  by_cases h6 : V = 6
  · subst h6
    refine ⟨6, rfl, by omega, by omega, 80, _, _, rfl, rfl, rfl, rfl, rfl, fun args w => by kernel_rfl, fun v lo w o hlo en => ?_⟩
    have hcon := refuse_any I X emp emp 0 0 0 6 N2 F2 U2 B2 C2 D2 Q2 v lo w o hlo
    have e : doK ⟨I, X⟩ ⟨6, N2, F2, U2, B2, C2, D2, Q2⟩ = (⟨I, X⟩, rp 2) := by
      simp [doK, hlk]
    rw [e]
    exact hcon
  by_cases h7 : V = 7
  · subst h7
    refine ⟨7, rfl, by omega, by omega, 80, _, _, rfl, rfl, rfl, rfl, rfl, fun args w => by kernel_rfl, fun v lo w o hlo en => ?_⟩
    have hcon := refuse_any I X emp emp 0 0 0 7 N2 F2 U2 B2 C2 D2 Q2 v lo w o hlo
    have e : doK ⟨I, X⟩ ⟨7, N2, F2, U2, B2, C2, D2, Q2⟩ = (⟨I, X⟩, rp 2) := by
      simp [doK, hlk]
    rw [e]
    exact hcon
  by_cases h8 : V = 8
  · subst h8
    refine ⟨8, rfl, by omega, by omega, 77, _, _, rfl, rfl, rfl, rfl, rfl, fun args w => by kernel_rfl, fun v lo w o hlo en => ?_⟩
    have hcon := missing_any I X emp emp 0 0 0 8 N2 F2 U2 B2 C2 D2 Q2 v lo w o hlo
    have e : doK ⟨I, X⟩ ⟨8, N2, F2, U2, B2, C2, D2, Q2⟩ = (⟨I, X⟩, rp 4) := by
      simp [doK, hlk]
    rw [e]
    exact hcon
  by_cases h9 : V = 9
  · subst h9
    refine ⟨9, rfl, by omega, by omega, 77, _, _, rfl, rfl, rfl, rfl, rfl, fun args w => by kernel_rfl, fun v lo w o hlo en => ?_⟩
    have hcon := missing_any I X emp emp 0 0 0 9 N2 F2 U2 B2 C2 D2 Q2 v lo w o hlo
    have e : doK ⟨I, X⟩ ⟨9, N2, F2, U2, B2, C2, D2, Q2⟩ = (⟨I, X⟩, rp 4) := by
      simp [doK, hlk]
    rw [e]
    exact hcon
  by_cases h10 : V = 10
  · subst h10
    refine ⟨10, rfl, by omega, by omega, 77, _, _, rfl, rfl, rfl, rfl, rfl, fun args w => by kernel_rfl, fun v lo w o hlo en => ?_⟩
    have hcon := missing_any I X emp emp 0 0 0 10 N2 F2 U2 B2 C2 D2 Q2 v lo w o hlo
    have e : doK ⟨I, X⟩ ⟨10, N2, F2, U2, B2, C2, D2, Q2⟩ = (⟨I, X⟩, rp 4) := by
      simp [doK, hlk]
    rw [e]
    exact hcon
  by_cases h11 : V = 11
  · subst h11
    refine ⟨11, rfl, by omega, by omega, 77, _, _, rfl, rfl, rfl, rfl, rfl, fun args w => by kernel_rfl, fun v lo w o hlo en => ?_⟩
    have hcon := missing_any I X emp emp 0 0 0 11 N2 F2 U2 B2 C2 D2 Q2 v lo w o hlo
    have e : doK ⟨I, X⟩ ⟨11, N2, F2, U2, B2, C2, D2, Q2⟩ = (⟨I, X⟩, rp 4) := by
      simp [doK, hlk]
    rw [e]
    exact hcon
  by_cases h12 : V = 12
  · subst h12
    refine ⟨12, rfl, by omega, by omega, 77, _, _, rfl, rfl, rfl, rfl, rfl, fun args w => by kernel_rfl, fun v lo w o hlo en => ?_⟩
    have hcon := missing_any I X emp emp 0 0 0 12 N2 F2 U2 B2 C2 D2 Q2 v lo w o hlo
    have e : doK ⟨I, X⟩ ⟨12, N2, F2, U2, B2, C2, D2, Q2⟩ = (⟨I, X⟩, rp 4) := by
      simp [doK, hlk]
    rw [e]
    exact hcon
  by_cases h13 : V = 13
  · subst h13
    refine ⟨13, rfl, by omega, by omega, 88, _, _, rfl, rfl, rfl, rfl, rfl, fun args w => by kernel_rfl, fun v lo w o hlo en => ?_⟩
    have hcon := clearAll_any I X emp emp 0 0 0 13 N2 F2 U2 B2 C2 D2 Q2 v lo w o hlo
    have e : doK ⟨I, X⟩ ⟨13, N2, F2, U2, B2, C2, D2, Q2⟩ = (⟨[], X⟩, rp 9) := by
      simp [doK]
    rw [e]
    exact hcon
  omega
end Go.Proofs.YtjkkjpgebcnhgaaGreatDoor.rg
