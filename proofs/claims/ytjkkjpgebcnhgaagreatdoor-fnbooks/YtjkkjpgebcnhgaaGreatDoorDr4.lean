/- What the laws of chapter 11 draw: a command. -/
import Derived.Test.YtjkkjpgebcnhgaaGreatDoorMg09
import Derived.Test.YtjkkjpgebcnhgaaGreatDoorMg03
import Derived.Test.YtjkkjpgebcnhgaaGreatDoorMg10
import Derived.Lib.SmallJoins
import Derived.Deep.Slices
import Derived.Deep.RegionHeld3
import Derived.BigQuiet
import Derived.Deep.DeepCutAuto
import Derived.Deep.CutBlock
namespace Go.Proofs.YtjkkjpgebcnhgaaGreatDoor.rg
open Go.ChangeShapes Go.WideShapes Go.ChangeAt Go.RowKit
open Go.Deep Go.Joins
open Go.Proofs.YtjkkjpgebcnhgaaGreatDoor.ce Go.Proofs.YtjkkjpgebcnhgaaGreatDoor.ro Go.Proofs.YtjkkjpgebcnhgaaGreatDoor.draw Go.Proofs.YtjkkjpgebcnhgaaGreatDoor.cm
set_option linter.unusedVariables false

open Go.Proofs.YtjkkjpgebcnhgaaGreatDoor.draw in
set_option maxHeartbeats 1000000 in
theorem drawText_most (w0 w : World) (p : Nat) (a0 : Option Addr) (len cap : Nat) (s : ByteArray) (most : Int) (hs : 1 ≤ s.size) (hs2 : s.size ≤ 1000) (hm : 1 ≤ most) (hm2 : most ≤ 1000)
    (hc : Cur w p a0 len cap) (hg : w0.grownBy w (some p)) :
    Calls Tryz.prog 116 #[.pointer (some ⟨p, 0, none⟩), .string s, .int .i64 most] w fun e w' => ∃ t : ByteArray, e = .returned (.string t) ∧ t.size ≤ most.toNat ∧ Cur w' p a0 len cap ∧ w0.grownBy w' (some p) := by
  obtain ⟨i0, hi, hz0, hz1, hz2⟩ := info_parts infoByte
  have hp := cur_size hc
  go_enter Tryz.func116, Tryz.ntmps116
  go_wp2_with (go_at_call 50; refine (below_from (w.alloc (.cells #[] 5)) _ p a0 len cap _ hm (cur_alloc hc _) (World.grownBy.refl _ _)).mono ?_; rintro e w1 ⟨n, rfl, hn0, hn1, hc1, hg1⟩)
  have ho1 : w1.ownsRow w.heap.size 5 1 (.slice (some ⟨w.heap.size, 0, none⟩) 0 0) 0 [] :=
    (World.ownsRow_made (base := w.heap.size) (size := 1) (e := 5) w #[] 0 (Nat.le_refl _) (by unfold maxLen; omega) rfl).kept hg1 (.inr (by simp [Value.ownBlock]; omega))
  have hgg := gb_trans (gb_alloc hg (.cells #[] 5)) hg1
  have hsz : w.heap.size ≤ w1.heap.size := by have := hg1.size; simp at this; omega
  have hsz0 : w0.heap.size ≤ w.heap.size := hg.size
  clear hg1 hg hc
  go_loopw [7, 8] (fun v i wr => ∃ (k : Nat) (l : List UInt8), i = .int .i64 k ∧ k + l.length ≤ most.toNat ∧ wr.ownsRow w.heap.size 5 1 v l.length (byteRow l) ∧ v ≠ .slice none 0 0 ∧ Cur wr p a0 len cap ∧ w0.grownBy wr (some p) ∧ w.heap.size ≤ wr.heap.size) (fun _ i _ => (intOf i).toNat)
  case atStart =>
    refine ⟨n.toNat, [], ?_, ?_, ho1, by simp, hc1, hgg, hsz⟩
    · rw [Int.toNat_of_nonneg hn0]
    · simp; omega
  case round =>
    obtain ⟨k, l, rfl, hk, hown, hnn, hcr, hgr, hbr⟩ := hrel
    clear ho1 hc1 hgg hsz
    by_cases hlt : 0 < k
    · go_wp2_with (first | (go_at_call 50; refine (below_from wr _ p a0 len cap _ (by omega) hcr (World.grownBy.refl _ _)).mono ?_; rintro e w2 ⟨x, rfl, hx0, hx1, hc2, hg2⟩; have hxl : x.toNat < s.size := (by omega); obtain ⟨c, hcx⟩ : ∃ c, s[x.toNat]'hxl = c := ⟨_, rfl⟩; have hown2 := hown.kept hg2 (.inr (fun e => (by have := (hown.lt p e).1; omega)))) | (at_builtin; refine wpList_append_own _ rfl _ _ 43 rfl w.heap.size 5 i0 (.int .u8 0) 1 1 Tryz.underlying43 hi hz0 hz1 hz2 rfl (by decide) _ _ _ rfl (hown2.alloc _) ⟨w2.heap.size, 0, none⟩ 1 1 [Value.int .u8 c.toNat] rfl rfl ?c1 ?c2 ?c3 ?c4 ?c5 ?_))
      case c1 =>
        intro j u hj
        match j, hj with
        | 0, hj => simp at hj; subst hj; simp [Addr.add]
      case c2 => intro u hu; simp at hu; subst hu; rfl
      case c3 => unfold maxLen; omega
      case c4 => omega
      case c5 => have := hg2.size; simp; omega
      · intro v' w3 hown3 hg3 hnil3
        have hlo : ∀ k, u7.ownBlock = some k → w.heap.size ≤ k := fun k e => (hown.lt k e).1
        have hgA : w0.grownBy w3 (some p) := gb_own (gb_trans hgr (gb_alloc hg2 (.cells #[Value.int .u8 c.toNat] 5))) hg3 (fun k e => by have := hlo k e; omega)
        have hcA : Cur w3 p a0 len cap := cur_own (cur_alloc hc2 (.cells #[Value.int .u8 c.toNat] 5)) hg3 (fun k e => by have := hlo k e; omega)
        have hsA : w.heap.size ≤ w3.heap.size := by have h1 := hg2.size; have h2 := hg3.size; simp at h2; omega
        clear hlo hg3 hg2 hown2 hcx
        go_wp2
        go_roundw
        case rel => exact ⟨k - 1, l ++ [c], by rw [Int.natCast_sub (by omega)]; rfl, by simp; omega, by rw [List.length_append, byteRow, List.map_append]; exact hown3, hnil3, hcA, hgA, hsA⟩
        case measure => simp [intOf]; omega
    · rcases hown.2 with ⟨e, -⟩ | ⟨g, cap', cur, rfl, -, -, -, -, -, -⟩
      · exact absurd e hnn
      · have hcv := run_convert_bytes_back (P := Tryz.prog) wr 43 9 5 ⟨g, 0, none⟩ cap' l Tryz.underlying43 Tryz.underlying5 Tryz.underlying9 (fun j hj => hown.cells (g := g) rfl j _ (by simp [byteRow, hj]))
        go_wp2
        go_ret
        exact ⟨_, rfl, by show l.toArray.size ≤ most.toNat; simp; omega, hcr, hgr⟩
theorem szB1 : (Tryz.prog.info? 4).map (·.size) = some 1 := by kernel_rfl
/-- a command that may be shown -/
structure SmC (c : cm.Cm) : Prop where
  v0 : 1 ≤ c.V
  v1 : c.V ≤ 13
  n : c.N.size ≤ 12
  f0 : 0 ≤ c.F
  f1 : c.F ≤ 1000000
  u0 : 0 ≤ c.U
  u1 : c.U ≤ 1000000
  b : c.B.size ≤ 64
  c0 : 0 ≤ c.C
  c1 : c.C ≤ 1000000
  d0 : 0 ≤ c.D
  d1 : c.D ≤ 1000000
theorem zle : (0 : Int) ≤ 1000000 := by decide
theorem zs12 : (⟨#[113, 117, 105, 101, 116]⟩ : ByteArray).size ≤ 12 := by decide
theorem digs_tx (n : Nat) (h : n ≤ 999) : (tx (digs n)).size ≤ 64 := by
  rw [tx_size]
  have := digs_len 2 n (by omega)
  omega
set_option maxRecDepth 100000 in
set_option maxHeartbeats 16000000 in
theorem l11Draw_any (w : World) (p : Nat) (a0 : Option Addr) (len cap : Nat) (hc : Cur w p a0 len cap) :
    Calls Tryz.prog 93 #[.pointer (some ⟨p, 0, none⟩)] w fun e w' => ∃ (V : Int) (N : ByteArray) (F U : Int) (B : ByteArray) (C D : Int) (Q : Bool), e = .returned (.agg #[.int .i64 V, .string N, .int .i64 F, .int .i64 U, .string B, .int .i64 C, .int .i64 D, .bool Q]) ∧ Gt w p a0 len cap w' ∧ SmC ⟨V, N, F, U, B, C, D, Q⟩ := by
  have HC : Hid (Cur w p a0 len cap) := hc
  clear hc
  have m1 : Hid True := trivial
  have m2 : Hid True := trivial
  have m3 : Hid True := trivial
  have m4 : Hid True := trivial
  have m5 : Hid True := trivial
  have m6 : Hid True := trivial
  have m7 : Hid True := trivial
  have m8 : Hid True := trivial
  go_enter Tryz.func93, Tryz.ntmps93
  go_upto_region 2 with (first
    | (clear m1; refine wpList_alloc_v rfl 37 rfl _ zeroCm ?_; intro b2 w2 hb2 hw2 hB2 V2; have D2 : Hid (D0 37 [.int .i64 0, .string ⟨#[]⟩, .int .i64 0, .int .i64 0, .string ⟨#[]⟩, .int .i64 0, .int .i64 0, .bool false] w p a0 len cap b2 w2) := d0_new HC.out hB2 hb2 V2)
    | (go_at_call 50; refine (below_from w2 w2 p a0 len cap _ (by omega) D2.out.t.cur (World.grownBy.refl _ _)).mono ?_; rintro e w4 ⟨x, rfl, hx0, hx1, hc4, hg4⟩; have D4 : Hid (D0 37 [.int .i64 0, .string ⟨#[]⟩, .int .i64 0, .int .i64 0, .string ⟨#[]⟩, .int .i64 0, .int .i64 0, .bool false] w p a0 len cap b2 w4) := D2.out.went hc4 hg4; obtain ⟨V, hV⟩ := hid_ex (1 + x); have hVw : IntKind.i64.wrap (1 + x) = V := (by rw [← hV.out, IntKind.wrap_i64]; omega); have hV01 : 1 ≤ V ∧ V ≤ 13 := (by have := hV.out; omega))
    | (go_at_call 115; refine (name_from w4 w4 p a0 len cap D4.out.t.cur (World.grownBy.refl _ _)).mono ?_; rintro e w5 ⟨N, rfl, hN, hc5, hg5⟩; have D5 : Hid (D0 37 [.int .i64 0, .string ⟨#[]⟩, .int .i64 0, .int .i64 0, .string ⟨#[]⟩, .int .i64 0, .int .i64 0, .bool false] w p a0 len cap b2 w5) := D4.out.went hc5 hg5)
    | (clear m2; refine wpList_alloc_v rfl 37 rfl _ zeroCm ?_; intro b3 w6 hb3 hw3 hB6 V3)
    | (refine wpList_store_v rfl 37 _ _ rfl b3 [.int .i64 V, .string N, .int .i64 0, .int .i64 0, .string ⟨#[]⟩, .int .i64 0, .int .i64 0, .bool false] rfl rfl sizeCm V3 rfl (oneCm ⟨V, N, 0, 0, ⟨#[]⟩, 0, 0, false⟩) ?_; intro w7 hO7 V7; have D7 : Hid (Dv 37 [.int .i64 0, .string ⟨#[]⟩, .int .i64 0, .int .i64 0, .string ⟨#[]⟩, .int .i64 0, .int .i64 0, .bool false] w p a0 len cap b2 b3 [.int .i64 V, .string N, .int .i64 0, .int .i64 0, .string ⟨#[]⟩, .int .i64 0, .int .i64 0, .bool false] w7) := D5.out.dv2 hb3 hB6 hO7 V7)
    | (fail))
  have S7 : SmC ⟨V, N, 0, 0, ⟨#[]⟩, 0, 0, false⟩ := ⟨hV01.1, hV01.2, by show N.size ≤ 12; omega, Int.le_refl _, zle, Int.le_refl _, zle, Nat.zero_le _, Int.le_refl _, zle, Int.le_refl _, zle⟩
  clear D2 D4 D5 hc4 hg4 hc5 hg5 V2 V3 V7 hO7 hB2 hB6 hVw hV hV01 hN hx0 hx1
  have q21 : Hid True := trivial
  go_upto_if 11 with (first | (clear q21; go_at_call 49; refine (once_from w7 w7 p a0 len cap _ (by omega) D7.out.gt.cur (World.grownBy.refl _ _)).mono ?_; rintro e w1021 ⟨y1021, rfl, hc1021, hg1021⟩; have D1021 : Hid (Dv 37 [.int .i64 0, .string ⟨#[]⟩, .int .i64 0, .int .i64 0, .string ⟨#[]⟩, .int .i64 0, .int .i64 0, .bool false] w p a0 len cap b2 b3 [.int .i64 V, .string N, .int .i64 0, .int .i64 0, .string ⟨#[]⟩, .int .i64 0, .int .i64 0, .bool false] w1021) := D7.out.went hc1021 hg1021; clear hc1021 hg1021) | (fail))
  go_cut [11] from 10 to 12 (fun u11 wc => ∃ (V0 : Int) (N0 : ByteArray) (F0 : Int) (U0 : Int) (B0 : ByteArray) (C0 : Int) (D0 : Int), Hid (Dv 37 [.int .i64 0, .string ⟨#[]⟩, .int .i64 0, .int .i64 0, .string ⟨#[]⟩, .int .i64 0, .int .i64 0, .bool false] w p a0 len cap b2 b3 [.int .i64 V0, .string N0, .int .i64 F0, .int .i64 U0, .string B0, .int .i64 C0, .int .i64 D0, .bool false] wc) ∧ SmC ⟨V0, N0, F0, U0, B0, C0, D0, false⟩)
  case first =>
    cases y1021 with
    | false =>
      go_wp2
      go_meet
      case rel => exact ⟨_, _, _, _, _, _, _, D1021, S7⟩
    | true =>
      have q22 : Hid True := trivial
      go_wp2_with (first | (clear q22; refine wpList_store_cell rfl 9 _ _ rfl b3 1 (.string ⟨#[113, 117, 105, 101, 116]⟩) rfl rfl rfl szS1 D1021.out.vg (by simp) ?_; intro w1022 hO1022 V1022; have D1022 : Hid (Dv 37 [.int .i64 0, .string ⟨#[]⟩, .int .i64 0, .int .i64 0, .string ⟨#[]⟩, .int .i64 0, .int .i64 0, .bool false] w p a0 len cap b2 b3 [.int .i64 V, .string ⟨#[113, 117, 105, 101, 116]⟩, .int .i64 0, .int .i64 0, .string ⟨#[]⟩, .int .i64 0, .int .i64 0, .bool false] w1022) := D1021.out.put hO1022 V1022; clear V1022 hO1022) | (fail))
      go_meet
      case rel => exact ⟨_, _, _, _, _, _, _, D1022, ⟨S7.v0, S7.v1, zs12, S7.f0, S7.f1, S7.u0, S7.u1, S7.b, S7.c0, S7.c1, S7.d0, S7.d1⟩⟩
  case rest =>
  obtain ⟨V0, N0, F0, U0, B0, C0, D0, DC1, SC1⟩ := hcut
  rename World => w5001
  clear D7 S7
  have D5001 : Hid (Dv 37 [.int .i64 0, .string ⟨#[]⟩, .int .i64 0, .int .i64 0, .string ⟨#[]⟩, .int .i64 0, .int .i64 0, .bool false] w p a0 len cap b2 b3 [.int .i64 V0, .string N0, .int .i64 F0, .int .i64 U0, .string B0, .int .i64 C0, .int .i64 D0, .bool false] w5001) := DC1
  clear DC1
  have q23 : Hid True := trivial
  go_upto_if 14 with (first | (clear q23; go_at_call 49; refine (once_from w5001 w5001 p a0 len cap _ (by omega) D5001.out.gt.cur (World.grownBy.refl _ _)).mono ?_; rintro e w1023 ⟨y1023, rfl, hc1023, hg1023⟩; have D1023 : Hid (Dv 37 [.int .i64 0, .string ⟨#[]⟩, .int .i64 0, .int .i64 0, .string ⟨#[]⟩, .int .i64 0, .int .i64 0, .bool false] w p a0 len cap b2 b3 [.int .i64 V0, .string N0, .int .i64 F0, .int .i64 U0, .string B0, .int .i64 C0, .int .i64 D0, .bool false] w1023) := D5001.out.went hc1023 hg1023; clear hc1023 hg1023) | (fail))
  go_cut [14] from 13 to 20 (fun u14 wc => ∃ (V1 : Int) (N1 : ByteArray) (F1 : Int) (U1 : Int) (B1 : ByteArray) (C1 : Int) (D1 : Int), Hid (Dv 37 [.int .i64 0, .string ⟨#[]⟩, .int .i64 0, .int .i64 0, .string ⟨#[]⟩, .int .i64 0, .int .i64 0, .bool false] w p a0 len cap b2 b3 [.int .i64 V1, .string N1, .int .i64 F1, .int .i64 U1, .string B1, .int .i64 C1, .int .i64 D1, .bool false] wc) ∧ SmC ⟨V1, N1, F1, U1, B1, C1, D1, false⟩)
  case first =>
    cases y1023 with
    | false =>
      go_wp2
      go_meet
      case rel => exact ⟨_, _, _, _, _, _, _, D1023, SC1⟩
    | true =>
      have q24 : Hid True := trivial
      have q25 : Hid True := trivial
      go_wp2_with (first | (clear q24; go_at_call 50; refine (below_lit w1023 w1023 p a0 len cap [3, 3, 1, 2] _ 4 (1) 3 rfl (by omega) (by intro x hx; simp at hx; omega) D1023.out.gt.cur (World.grownBy.refl _ _)).mono ?_; rintro e w1024 ⟨z1024, x1024, rfl, hz1024, hzz1024, hcell1024, hx1024, hy1024, hc1024, hg1024⟩; have D1024 : Hid (Dv 37 [.int .i64 0, .string ⟨#[]⟩, .int .i64 0, .int .i64 0, .string ⟨#[]⟩, .int .i64 0, .int .i64 0, .bool false] w p a0 len cap b2 b3 [.int .i64 V0, .string N0, .int .i64 F0, .int .i64 U0, .string B0, .int .i64 C0, .int .i64 D0, .bool false] w1024) := D1023.out.went hc1024 hg1024; clear hc1024 hg1024; obtain ⟨j1024, hj1024⟩ : ∃ j : Nat, z1024 = j := ⟨z1024.toNat, by omega⟩; subst hj1024; rw [Int.toNat_natCast] at hcell1024) | (clear q25; refine wpList_store_cell rfl 2 _ _ rfl b3 0 (.int .i64 x1024) rfl rfl rfl szI1 D1024.out.vg (by simp) ?_; intro w1025 hO1025 V1025; have D1025 : Hid (Dv 37 [.int .i64 0, .string ⟨#[]⟩, .int .i64 0, .int .i64 0, .string ⟨#[]⟩, .int .i64 0, .int .i64 0, .bool false] w p a0 len cap b2 b3 [.int .i64 x1024, .string N0, .int .i64 F0, .int .i64 U0, .string B0, .int .i64 C0, .int .i64 D0, .bool false] w1025) := D1024.out.put hO1025 V1025; clear V1025 hO1025) | (fail))
      go_meet
      case rel => exact ⟨_, _, _, _, _, _, _, D1025, ⟨hx1024, (by have := hy1024; show x1024 ≤ 13; omega), SC1.n, SC1.f0, SC1.f1, SC1.u0, SC1.u1, SC1.b, SC1.c0, SC1.c1, SC1.d0, SC1.d1⟩⟩
  case rest =>
  obtain ⟨V1, N1, F1, U1, B1, C1, D1, DC2, SC2⟩ := hcut
  rename World => w5002
  clear D5001 SC1
  have D5002 : Hid (Dv 37 [.int .i64 0, .string ⟨#[]⟩, .int .i64 0, .int .i64 0, .string ⟨#[]⟩, .int .i64 0, .int .i64 0, .bool false] w p a0 len cap b2 b3 [.int .i64 V1, .string N1, .int .i64 F1, .int .i64 U1, .string B1, .int .i64 C1, .int .i64 D1, .bool false] w5002) := DC2
  clear DC2
  obtain ⟨c5002, -, -, -, -, -, -, -⟩ := cellsCm D5002.out.vg
  obtain ⟨y5002, hy5002⟩ := hid_ex (full V1)
  go_upto_if 23 with (first | (go_at_call 56; refine (l11Full_is _ y5002 hy5002.out _).mono ?_; rintro e wq ⟨rfl, hq⟩; subst wq) | (fail))
  go_cut [23] from 21 to 32 (fun u23 wc => ∃ (V2 : Int) (N2 : ByteArray) (F2 : Int) (U2 : Int) (B2 : ByteArray) (C2 : Int) (D2 : Int), Hid (Dv 37 [.int .i64 0, .string ⟨#[]⟩, .int .i64 0, .int .i64 0, .string ⟨#[]⟩, .int .i64 0, .int .i64 0, .bool false] w p a0 len cap b2 b3 [.int .i64 V2, .string N2, .int .i64 F2, .int .i64 U2, .string B2, .int .i64 C2, .int .i64 D2, .bool false] wc) ∧ SmC ⟨V2, N2, F2, U2, B2, C2, D2, false⟩)
  case first =>
    cases y5002 with
    | false =>
      go_wp2
      go_meet
      case rel => exact ⟨_, _, _, _, _, _, _, D5002, SC2⟩
    | true =>
      have q26 : Hid True := trivial
      have q27 : Hid True := trivial
      have q28 : Hid True := trivial
      have q29 : Hid True := trivial
      have q30 : Hid True := trivial
      go_wp2_with (first | (clear q26; go_at_call 50; refine (below_from w5002 w5002 p a0 len cap _ (by omega) D5002.out.gt.cur (World.grownBy.refl _ _)).mono ?_; rintro e w1026 ⟨x1026, rfl, hx1026, hy1026, hc1026, hg1026⟩; have D1026 : Hid (Dv 37 [.int .i64 0, .string ⟨#[]⟩, .int .i64 0, .int .i64 0, .string ⟨#[]⟩, .int .i64 0, .int .i64 0, .bool false] w p a0 len cap b2 b3 [.int .i64 V1, .string N1, .int .i64 F1, .int .i64 U1, .string B1, .int .i64 C1, .int .i64 D1, .bool false] w1026) := D5002.out.went hc1026 hg1026; clear hc1026 hg1026) | (clear q27; refine wpList_store_cell rfl 2 _ _ rfl b3 2 (.int .i64 x1026) rfl rfl rfl szI1 D1026.out.vg (by simp) ?_; intro w1027 hO1027 V1027; have D1027 : Hid (Dv 37 [.int .i64 0, .string ⟨#[]⟩, .int .i64 0, .int .i64 0, .string ⟨#[]⟩, .int .i64 0, .int .i64 0, .bool false] w p a0 len cap b2 b3 [.int .i64 V1, .string N1, .int .i64 x1026, .int .i64 U1, .string B1, .int .i64 C1, .int .i64 D1, .bool false] w1027) := D1026.out.put hO1027 V1027; clear V1027 hO1027) | (clear q28; go_at_call 49; refine (once_from w1027 w1027 p a0 len cap _ (by omega) D1027.out.gt.cur (World.grownBy.refl _ _)).mono ?_; rintro e w1028 ⟨y1028, rfl, hc1028, hg1028⟩; have D1028 : Hid (Dv 37 [.int .i64 0, .string ⟨#[]⟩, .int .i64 0, .int .i64 0, .string ⟨#[]⟩, .int .i64 0, .int .i64 0, .bool false] w p a0 len cap b2 b3 [.int .i64 V1, .string N1, .int .i64 x1026, .int .i64 U1, .string B1, .int .i64 C1, .int .i64 D1, .bool false] w1028) := D1027.out.went hc1028 hg1028; clear hc1028 hg1028; cases y1028) | (clear q29; go_at_call 50; refine (below_from w1028 w1028 p a0 len cap _ (by omega) D1028.out.gt.cur (World.grownBy.refl _ _)).mono ?_; rintro e w1029 ⟨x1029, rfl, hx1029, hy1029, hc1029, hg1029⟩; have D1029 : Hid (Dv 37 [.int .i64 0, .string ⟨#[]⟩, .int .i64 0, .int .i64 0, .string ⟨#[]⟩, .int .i64 0, .int .i64 0, .bool false] w p a0 len cap b2 b3 [.int .i64 V1, .string N1, .int .i64 x1026, .int .i64 U1, .string B1, .int .i64 C1, .int .i64 D1, .bool false] w1029) := D1028.out.went hc1029 hg1029; obtain ⟨U9, hU9⟩ := hid_ex (1 + x1029); have hU9w : IntKind.i64.wrap (1 + x1029) = U9 := (by rw [← hU9.out, IntKind.wrap_i64]; omega)) | (clear q30; refine wpList_store_cell rfl 2 _ _ rfl b3 3 (.int .i64 U9) rfl rfl rfl szI1 D1029.out.vg (by simp) ?_; intro w1030 hO1030 V1030; have D1030 : Hid (Dv 37 [.int .i64 0, .string ⟨#[]⟩, .int .i64 0, .int .i64 0, .string ⟨#[]⟩, .int .i64 0, .int .i64 0, .bool false] w p a0 len cap b2 b3 [.int .i64 V1, .string N1, .int .i64 x1026, .int .i64 U9, .string B1, .int .i64 C1, .int .i64 D1, .bool false] w1030) := D1029.out.put hO1030 V1030; clear V1030 hO1030) | (fail))
      · go_meet
        case rel => exact ⟨_, _, _, _, _, _, _, D1028, ⟨SC2.v0, SC2.v1, SC2.n, hx1026, (by have := hy1026; show x1026 ≤ 1000000; omega), SC2.u0, SC2.u1, SC2.b, SC2.c0, SC2.c1, SC2.d0, SC2.d1⟩⟩
      · go_meet
        case rel => exact ⟨_, _, _, _, _, _, _, D1030, ⟨SC2.v0, SC2.v1, SC2.n, hx1026, (by have := hy1026; show x1026 ≤ 1000000; omega), (by have := hU9.out; show 0 ≤ U9; omega), (by have := hU9.out; show U9 ≤ 1000000; omega), SC2.b, SC2.c0, SC2.c1, SC2.d0, SC2.d1⟩⟩
  case rest =>
  obtain ⟨V2, N2, F2, U2, B2, C2, D2, DC3, SC3⟩ := hcut
  rename World => w5003
  clear D5002 SC2
  have D5003 : Hid (Dv 37 [.int .i64 0, .string ⟨#[]⟩, .int .i64 0, .int .i64 0, .string ⟨#[]⟩, .int .i64 0, .int .i64 0, .bool false] w p a0 len cap b2 b3 [.int .i64 V2, .string N2, .int .i64 F2, .int .i64 U2, .string B2, .int .i64 C2, .int .i64 D2, .bool false] w5003) := DC3
  clear DC3
  obtain ⟨c5003, -, -, -, -, -, -, -⟩ := cellsCm D5003.out.vg
  obtain ⟨y5003, hy5003⟩ := hid_ex (sized V2)
  go_upto_if 35 with (first | (go_at_call 57; refine (l11Sized_is _ y5003 hy5003.out _).mono ?_; rintro e wq ⟨rfl, hq⟩; subst wq) | (fail))
  go_cut [35] from 33 to 44 (fun u35 wc => ∃ (V3 : Int) (N3 : ByteArray) (F3 : Int) (U3 : Int) (B3 : ByteArray) (C3 : Int) (D3 : Int), Hid (Dv 37 [.int .i64 0, .string ⟨#[]⟩, .int .i64 0, .int .i64 0, .string ⟨#[]⟩, .int .i64 0, .int .i64 0, .bool false] w p a0 len cap b2 b3 [.int .i64 V3, .string N3, .int .i64 F3, .int .i64 U3, .string B3, .int .i64 C3, .int .i64 D3, .bool false] wc) ∧ SmC ⟨V3, N3, F3, U3, B3, C3, D3, false⟩)
  case first =>
    cases y5003 with
    | false =>
      go_wp2
      go_meet
      case rel => exact ⟨_, _, _, _, _, _, _, D5003, SC3⟩
    | true =>
      have q31 : Hid True := trivial
      have q32 : Hid True := trivial
      have q33 : Hid True := trivial
      have q34 : Hid True := trivial
      have q35 : Hid True := trivial
      have q36 : Hid True := trivial
      go_wp2_with (first | (clear q31; go_at_call 50; refine (below_from w5003 w5003 p a0 len cap _ (by omega) D5003.out.gt.cur (World.grownBy.refl _ _)).mono ?_; rintro e w1031 ⟨x1031, rfl, hx1031, hy1031, hc1031, hg1031⟩; have D1031 : Hid (Dv 37 [.int .i64 0, .string ⟨#[]⟩, .int .i64 0, .int .i64 0, .string ⟨#[]⟩, .int .i64 0, .int .i64 0, .bool false] w p a0 len cap b2 b3 [.int .i64 V2, .string N2, .int .i64 F2, .int .i64 U2, .string B2, .int .i64 C2, .int .i64 D2, .bool false] w1031) := D5003.out.went hc1031 hg1031; clear hc1031 hg1031; obtain ⟨n1031, hn1031⟩ : ∃ k : Nat, x1031 = k := ⟨x1031.toNat, by omega⟩; subst hn1031) | (clear q32; go_at_call 69; refine (l1Int_is n1031 (by omega) _).mono ?_; rintro e w1032 ⟨rfl, hB1032⟩; have D1032 : Hid (Dv 37 [.int .i64 0, .string ⟨#[]⟩, .int .i64 0, .int .i64 0, .string ⟨#[]⟩, .int .i64 0, .int .i64 0, .bool false] w p a0 len cap b2 b3 [.int .i64 V2, .string N2, .int .i64 F2, .int .i64 U2, .string B2, .int .i64 C2, .int .i64 D2, .bool false] w1032) := D1031.out.grow hB1032; have hs1032 := digs_tx n1031 (by omega); obtain ⟨s1032, hse1032⟩ := hid_ex (tx (digs n1031)); rw [hse1032.out] at hs1032 ⊢) | (clear q33; refine wpList_store_cell rfl 9 _ _ rfl b3 4 (.string s1032) rfl rfl rfl szS1 D1032.out.vg (by simp) ?_; intro w1033 hO1033 V1033; have D1033 : Hid (Dv 37 [.int .i64 0, .string ⟨#[]⟩, .int .i64 0, .int .i64 0, .string ⟨#[]⟩, .int .i64 0, .int .i64 0, .bool false] w p a0 len cap b2 b3 [.int .i64 V2, .string N2, .int .i64 F2, .int .i64 U2, .string s1032, .int .i64 C2, .int .i64 D2, .bool false] w1033) := D1032.out.put hO1033 V1033; clear V1033 hO1033) | (clear q34; go_at_call 49; refine (once_from w1033 w1033 p a0 len cap _ (by omega) D1033.out.gt.cur (World.grownBy.refl _ _)).mono ?_; rintro e w1034 ⟨y1034, rfl, hc1034, hg1034⟩; have D1034 : Hid (Dv 37 [.int .i64 0, .string ⟨#[]⟩, .int .i64 0, .int .i64 0, .string ⟨#[]⟩, .int .i64 0, .int .i64 0, .bool false] w p a0 len cap b2 b3 [.int .i64 V2, .string N2, .int .i64 F2, .int .i64 U2, .string s1032, .int .i64 C2, .int .i64 D2, .bool false] w1034) := D1033.out.went hc1034 hg1034; clear hc1034 hg1034; cases y1034) | (clear q35; go_at_call 116; refine (drawText_most w1034 w1034 p a0 len cap _ _ (by decide) (by decide) (by omega) (by omega) D1034.out.gt.cur (World.grownBy.refl _ _)).mono ?_; rintro e w1035 ⟨s1035, rfl, hs1035, hc1035, hg1035⟩; have D1035 : Hid (Dv 37 [.int .i64 0, .string ⟨#[]⟩, .int .i64 0, .int .i64 0, .string ⟨#[]⟩, .int .i64 0, .int .i64 0, .bool false] w p a0 len cap b2 b3 [.int .i64 V2, .string N2, .int .i64 F2, .int .i64 U2, .string s1032, .int .i64 C2, .int .i64 D2, .bool false] w1035) := D1034.out.went hc1035 hg1035; clear hc1035 hg1035) | (clear q36; refine wpList_store_cell rfl 9 _ _ rfl b3 4 (.string s1035) rfl rfl rfl szS1 D1035.out.vg (by simp) ?_; intro w1036 hO1036 V1036; have D1036 : Hid (Dv 37 [.int .i64 0, .string ⟨#[]⟩, .int .i64 0, .int .i64 0, .string ⟨#[]⟩, .int .i64 0, .int .i64 0, .bool false] w p a0 len cap b2 b3 [.int .i64 V2, .string N2, .int .i64 F2, .int .i64 U2, .string s1035, .int .i64 C2, .int .i64 D2, .bool false] w1036) := D1035.out.put hO1036 V1036; clear V1036 hO1036) | (fail))
      · go_meet
        case rel => exact ⟨_, _, _, _, _, _, _, D1034, ⟨SC3.v0, SC3.v1, SC3.n, SC3.f0, SC3.f1, SC3.u0, SC3.u1, hs1032, SC3.c0, SC3.c1, SC3.d0, SC3.d1⟩⟩
      · go_meet
        case rel => exact ⟨_, _, _, _, _, _, _, D1036, ⟨SC3.v0, SC3.v1, SC3.n, SC3.f0, SC3.f1, SC3.u0, SC3.u1, Nat.le_trans hs1035 (by show (30 : Nat) ≤ 64; decide), SC3.c0, SC3.c1, SC3.d0, SC3.d1⟩⟩
  case rest =>
  obtain ⟨V3, N3, F3, U3, B3, C3, D3, DC4, SC4⟩ := hcut
  rename World => w5004
  clear D5003 SC3
  have D5004 : Hid (Dv 37 [.int .i64 0, .string ⟨#[]⟩, .int .i64 0, .int .i64 0, .string ⟨#[]⟩, .int .i64 0, .int .i64 0, .bool false] w p a0 len cap b2 b3 [.int .i64 V3, .string N3, .int .i64 F3, .int .i64 U3, .string B3, .int .i64 C3, .int .i64 D3, .bool false] w5004) := DC4
  clear DC4
  obtain ⟨c5004, -, -, -, -, -, -, -⟩ := cellsCm D5004.out.vg
  go_upto_block 0 with (fail)
  go_cut [47] from 47 to 66 (fun u47 wc => ∃ (V4 : Int) (N4 : ByteArray) (F4 : Int) (U4 : Int) (B4 : ByteArray) (C4 : Int) (D4 : Int), Hid (Dv 37 [.int .i64 0, .string ⟨#[]⟩, .int .i64 0, .int .i64 0, .string ⟨#[]⟩, .int .i64 0, .int .i64 0, .bool false] w p a0 len cap b2 b3 [.int .i64 V4, .string N4, .int .i64 F4, .int .i64 U4, .string B4, .int .i64 C4, .int .i64 D4, .bool false] wc) ∧ SmC ⟨V4, N4, F4, U4, B4, C4, D4, false⟩)
  case first =>
    by_cases k8x : V3 = 8
    · have g8x : Hid (V3 = 8) := k8x
      have t8x : (V3 == 8) = true := by rw [k8x]; rfl
      clear k8x
      have q37 : Hid True := trivial
      have q38 : Hid True := trivial
      go_wp2_with (first | (clear q37; go_at_call 50; refine (below_from w5004 w5004 p a0 len cap _ (by omega) D5004.out.gt.cur (World.grownBy.refl _ _)).mono ?_; rintro e w1037 ⟨x1037, rfl, hx1037, hy1037, hc1037, hg1037⟩; have D1037 : Hid (Dv 37 [.int .i64 0, .string ⟨#[]⟩, .int .i64 0, .int .i64 0, .string ⟨#[]⟩, .int .i64 0, .int .i64 0, .bool false] w p a0 len cap b2 b3 [.int .i64 V3, .string N3, .int .i64 F3, .int .i64 U3, .string B3, .int .i64 C3, .int .i64 D3, .bool false] w1037) := D5004.out.went hc1037 hg1037; obtain ⟨C9, hC9⟩ := hid_ex (1 + x1037); have hC9w : IntKind.i64.wrap (1 + x1037) = C9 := (by rw [← hC9.out, IntKind.wrap_i64]; omega)) | (clear q38; refine wpList_store_cell rfl 2 _ _ rfl b3 5 (.int .i64 C9) rfl rfl rfl szI1 D1037.out.vg (by simp) ?_; intro w1038 hO1038 V1038; have D1038 : Hid (Dv 37 [.int .i64 0, .string ⟨#[]⟩, .int .i64 0, .int .i64 0, .string ⟨#[]⟩, .int .i64 0, .int .i64 0, .bool false] w p a0 len cap b2 b3 [.int .i64 V3, .string N3, .int .i64 F3, .int .i64 U3, .string B3, .int .i64 C9, .int .i64 D3, .bool false] w1038) := D1037.out.put hO1038 V1038; clear V1038 hO1038) | (fail))
      go_meet
      case rel => exact ⟨_, _, _, _, _, _, _, D1038, ⟨SC4.v0, SC4.v1, SC4.n, SC4.f0, SC4.f1, SC4.u0, SC4.u1, SC4.b, (by have := hC9.out; show 0 ≤ C9; omega), (by have := hC9.out; show C9 ≤ 1000000; omega), SC4.d0, SC4.d1⟩⟩
    · have e8x : (V3 == 8) = false := by simpa using k8x
      by_cases k9x : V3 = 9
      · have g9x : Hid (V3 = 9) := k9x
        have t9x : (V3 == 9) = true := by rw [k9x]; rfl
        clear k9x
        have q39 : Hid True := trivial
        have q40 : Hid True := trivial
        go_wp2_with (first | (clear q39; go_at_call 50; refine (below_from w5004 w5004 p a0 len cap _ (by omega) D5004.out.gt.cur (World.grownBy.refl _ _)).mono ?_; rintro e w1039 ⟨x1039, rfl, hx1039, hy1039, hc1039, hg1039⟩; have D1039 : Hid (Dv 37 [.int .i64 0, .string ⟨#[]⟩, .int .i64 0, .int .i64 0, .string ⟨#[]⟩, .int .i64 0, .int .i64 0, .bool false] w p a0 len cap b2 b3 [.int .i64 V3, .string N3, .int .i64 F3, .int .i64 U3, .string B3, .int .i64 C3, .int .i64 D3, .bool false] w1039) := D5004.out.went hc1039 hg1039; clear hc1039 hg1039) | (clear q40; refine wpList_store_cell rfl 2 _ _ rfl b3 6 (.int .i64 x1039) rfl rfl rfl szI1 D1039.out.vg (by simp) ?_; intro w1040 hO1040 V1040; have D1040 : Hid (Dv 37 [.int .i64 0, .string ⟨#[]⟩, .int .i64 0, .int .i64 0, .string ⟨#[]⟩, .int .i64 0, .int .i64 0, .bool false] w p a0 len cap b2 b3 [.int .i64 V3, .string N3, .int .i64 F3, .int .i64 U3, .string B3, .int .i64 C3, .int .i64 x1039, .bool false] w1040) := D1039.out.put hO1040 V1040; clear V1040 hO1040) | (fail))
        go_meet
        case rel => exact ⟨_, _, _, _, _, _, _, D1040, ⟨SC4.v0, SC4.v1, SC4.n, SC4.f0, SC4.f1, SC4.u0, SC4.u1, SC4.b, SC4.c0, SC4.c1, hx1039, (by have := hy1039; show x1039 ≤ 1000000; omega)⟩⟩
      · have e9x : (V3 == 9) = false := by simpa using k9x
        by_cases k10x : V3 = 10
        · have g10x : Hid (V3 = 10) := k10x
          have t10x : (V3 == 10) = true := by rw [k10x]; rfl
          clear k10x
          have q41 : Hid True := trivial
          have q42 : Hid True := trivial
          go_wp2_with (first | (clear q41; go_at_call 50; refine (below_from w5004 w5004 p a0 len cap _ (by omega) D5004.out.gt.cur (World.grownBy.refl _ _)).mono ?_; rintro e w1041 ⟨x1041, rfl, hx1041, hy1041, hc1041, hg1041⟩; have D1041 : Hid (Dv 37 [.int .i64 0, .string ⟨#[]⟩, .int .i64 0, .int .i64 0, .string ⟨#[]⟩, .int .i64 0, .int .i64 0, .bool false] w p a0 len cap b2 b3 [.int .i64 V3, .string N3, .int .i64 F3, .int .i64 U3, .string B3, .int .i64 C3, .int .i64 D3, .bool false] w1041) := D5004.out.went hc1041 hg1041; clear hc1041 hg1041) | (clear q42; refine wpList_store_cell rfl 2 _ _ rfl b3 6 (.int .i64 x1041) rfl rfl rfl szI1 D1041.out.vg (by simp) ?_; intro w1042 hO1042 V1042; have D1042 : Hid (Dv 37 [.int .i64 0, .string ⟨#[]⟩, .int .i64 0, .int .i64 0, .string ⟨#[]⟩, .int .i64 0, .int .i64 0, .bool false] w p a0 len cap b2 b3 [.int .i64 V3, .string N3, .int .i64 F3, .int .i64 U3, .string B3, .int .i64 C3, .int .i64 x1041, .bool false] w1042) := D1041.out.put hO1042 V1042; clear V1042 hO1042) | (fail))
          go_meet
          case rel => exact ⟨_, _, _, _, _, _, _, D1042, ⟨SC4.v0, SC4.v1, SC4.n, SC4.f0, SC4.f1, SC4.u0, SC4.u1, SC4.b, SC4.c0, SC4.c1, hx1041, (by have := hy1041; show x1041 ≤ 1000000; omega)⟩⟩
        · have e10x : (V3 == 10) = false := by simpa using k10x
          by_cases k11x : V3 = 11
          · have g11x : Hid (V3 = 11) := k11x
            have t11x : (V3 == 11) = true := by rw [k11x]; rfl
            clear k11x
            have q43 : Hid True := trivial
            have q44 : Hid True := trivial
            go_wp2_with (first | (clear q43; go_at_call 50; refine (below_from w5004 w5004 p a0 len cap _ (by omega) D5004.out.gt.cur (World.grownBy.refl _ _)).mono ?_; rintro e w1043 ⟨x1043, rfl, hx1043, hy1043, hc1043, hg1043⟩; have D1043 : Hid (Dv 37 [.int .i64 0, .string ⟨#[]⟩, .int .i64 0, .int .i64 0, .string ⟨#[]⟩, .int .i64 0, .int .i64 0, .bool false] w p a0 len cap b2 b3 [.int .i64 V3, .string N3, .int .i64 F3, .int .i64 U3, .string B3, .int .i64 C3, .int .i64 D3, .bool false] w1043) := D5004.out.went hc1043 hg1043; clear hc1043 hg1043) | (clear q44; refine wpList_store_cell rfl 2 _ _ rfl b3 3 (.int .i64 x1043) rfl rfl rfl szI1 D1043.out.vg (by simp) ?_; intro w1044 hO1044 V1044; have D1044 : Hid (Dv 37 [.int .i64 0, .string ⟨#[]⟩, .int .i64 0, .int .i64 0, .string ⟨#[]⟩, .int .i64 0, .int .i64 0, .bool false] w p a0 len cap b2 b3 [.int .i64 V3, .string N3, .int .i64 F3, .int .i64 x1043, .string B3, .int .i64 C3, .int .i64 D3, .bool false] w1044) := D1043.out.put hO1044 V1044; clear V1044 hO1044) | (fail))
            go_meet
            case rel => exact ⟨_, _, _, _, _, _, _, D1044, ⟨SC4.v0, SC4.v1, SC4.n, SC4.f0, SC4.f1, hx1043, (by have := hy1043; show x1043 ≤ 1000000; omega), SC4.b, SC4.c0, SC4.c1, SC4.d0, SC4.d1⟩⟩
          · have e11x : (V3 == 11) = false := by simpa using k11x
            by_cases k13x : V3 = 13
            · have g13x : Hid (V3 = 13) := k13x
              have t13x : (V3 == 13) = true := by rw [k13x]; rfl
              clear k13x
              have q45 : Hid True := trivial
              go_wp2_with (first | (clear q45; refine wpList_store_cell rfl 9 _ _ rfl b3 1 (.string ⟨#[]⟩) rfl rfl rfl szS1 D5004.out.vg (by simp) ?_; intro w1045 hO1045 V1045; have D1045 : Hid (Dv 37 [.int .i64 0, .string ⟨#[]⟩, .int .i64 0, .int .i64 0, .string ⟨#[]⟩, .int .i64 0, .int .i64 0, .bool false] w p a0 len cap b2 b3 [.int .i64 V3, .string ⟨#[]⟩, .int .i64 F3, .int .i64 U3, .string B3, .int .i64 C3, .int .i64 D3, .bool false] w1045) := D5004.out.put hO1045 V1045; clear V1045 hO1045) | (fail))
              go_meet
              case rel => exact ⟨_, _, _, _, _, _, _, D1045, ⟨SC4.v0, SC4.v1, Nat.zero_le _, SC4.f0, SC4.f1, SC4.u0, SC4.u1, SC4.b, SC4.c0, SC4.c1, SC4.d0, SC4.d1⟩⟩
            · have e13x : (V3 == 13) = false := by simpa using k13x
              go_wp2
              go_meet
              case rel => exact ⟨_, _, _, _, _, _, _, D5004, SC4⟩
  case rest =>
  obtain ⟨V4, N4, F4, U4, B4, C4, D4, DC5, SC5⟩ := hcut
  rename World => w5005
  clear D5004 SC4
  have D5005 : Hid (Dv 37 [.int .i64 0, .string ⟨#[]⟩, .int .i64 0, .int .i64 0, .string ⟨#[]⟩, .int .i64 0, .int .i64 0, .bool false] w p a0 len cap b2 b3 [.int .i64 V4, .string N4, .int .i64 F4, .int .i64 U4, .string B4, .int .i64 C4, .int .i64 D4, .bool false] w5005) := DC5
  clear DC5
  obtain ⟨c5005, -, -, -, -, -, -, -⟩ := cellsCm D5005.out.vg
  by_cases hv : 2 < V4
  · have q46 : Hid True := trivial
    have q47 : Hid True := trivial
    go_wp2_with (first | (clear q46; go_at_call 49; refine (once_from w5005 w5005 p a0 len cap _ (by omega) D5005.out.gt.cur (World.grownBy.refl _ _)).mono ?_; rintro e w1046 ⟨y1046, rfl, hc1046, hg1046⟩; have D1046 : Hid (Dv 37 [.int .i64 0, .string ⟨#[]⟩, .int .i64 0, .int .i64 0, .string ⟨#[]⟩, .int .i64 0, .int .i64 0, .bool false] w p a0 len cap b2 b3 [.int .i64 V4, .string N4, .int .i64 F4, .int .i64 U4, .string B4, .int .i64 C4, .int .i64 D4, .bool false] w1046) := D5005.out.went hc1046 hg1046; clear hc1046 hg1046) | (clear q47; refine wpList_store_cell rfl 4 _ _ rfl b3 7 (.bool y1046) rfl rfl rfl szB1 D1046.out.vg (by simp) ?_; intro w1047 hO1047 V1047; have D1047 : Hid (Dv 37 [.int .i64 0, .string ⟨#[]⟩, .int .i64 0, .int .i64 0, .string ⟨#[]⟩, .int .i64 0, .int .i64 0, .bool false] w p a0 len cap b2 b3 [.int .i64 V4, .string N4, .int .i64 F4, .int .i64 U4, .string B4, .int .i64 C4, .int .i64 D4, .bool y1046] w1047) := D1046.out.put hO1047 V1047; clear V1047 hO1047) | (refine wpList_load_r rfl 37 _ rfl b3 0 [.int .i64 V4, .string N4, .int .i64 F4, .int .i64 U4, .string B4, .int .i64 C4, .int .i64 D4, .bool y1046] rfl _ Tryz.underlying37 rfl sizeCm D1047.out.vg.range ?_) | (refine wpList_store_v rfl 37 _ _ rfl b2 [.int .i64 V4, .string N4, .int .i64 F4, .int .i64 U4, .string B4, .int .i64 C4, .int .i64 D4, .bool y1046] rfl rfl sizeCm D1047.out.o.vb rfl (oneCm ⟨V4, N4, F4, U4, B4, C4, D4, y1046⟩) ?_; intro wz hOz Vz) | (fail))
    exact row_retv rfl rfl Vz Tryz.underlying37 sizeCm rfl ⟨_, _, _, _, _, _, _, _, rfl, D1047.out.got hOz, ⟨SC5.v0, SC5.v1, SC5.n, SC5.f0, SC5.f1, SC5.u0, SC5.u1, SC5.b, SC5.c0, SC5.c1, SC5.d0, SC5.d1⟩⟩
  · have q48 : Hid True := trivial
    go_wp2_with (first | (clear q48; refine wpList_store_cell rfl 4 _ _ rfl b3 7 (.bool false) rfl rfl rfl szB1 D5005.out.vg (by simp) ?_; intro w1048 hO1048 V1048; have D1048 : Hid (Dv 37 [.int .i64 0, .string ⟨#[]⟩, .int .i64 0, .int .i64 0, .string ⟨#[]⟩, .int .i64 0, .int .i64 0, .bool false] w p a0 len cap b2 b3 [.int .i64 V4, .string N4, .int .i64 F4, .int .i64 U4, .string B4, .int .i64 C4, .int .i64 D4, .bool false] w1048) := D5005.out.put hO1048 V1048; clear V1048 hO1048) | (refine wpList_load_r rfl 37 _ rfl b3 0 [.int .i64 V4, .string N4, .int .i64 F4, .int .i64 U4, .string B4, .int .i64 C4, .int .i64 D4, .bool false] rfl _ Tryz.underlying37 rfl sizeCm D1048.out.vg.range ?_) | (refine wpList_store_v rfl 37 _ _ rfl b2 [.int .i64 V4, .string N4, .int .i64 F4, .int .i64 U4, .string B4, .int .i64 C4, .int .i64 D4, .bool false] rfl rfl sizeCm D1048.out.o.vb rfl (oneCm ⟨V4, N4, F4, U4, B4, C4, D4, false⟩) ?_; intro wz hOz Vz) | (fail))
    refine row_retv rfl rfl Vz Tryz.underlying37 sizeCm rfl ?_
    have hz9 : SmC ⟨V4, N4, F4, U4, B4, C4, D4, false⟩ := ⟨SC5.v0, SC5.v1, SC5.n, SC5.f0, SC5.f1, SC5.u0, SC5.u1, SC5.b, SC5.c0, SC5.c1, SC5.d0, SC5.d1⟩
    first | exact ⟨_, _, _, _, _, _, _, _, rfl, D1048.out.got hOz, hz9⟩ | exact ⟨_, _, _, _, _, _, _, Or.inl ⟨rfl, D1048.out.got hOz, hz9⟩⟩
end Go.Proofs.YtjkkjpgebcnhgaaGreatDoor.rg
