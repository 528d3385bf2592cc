/- The draws of chapter 13: a book. -/
import Derived.Test.YtcbhbpdlgibipaaBh2
import Derived.Test.YtcbhbpdlgibipaaBh1
import Derived.Test.YtcbhbpdlgibipaaDe5
import Derived.Deep.DeepCutAuto
namespace Go.Proofs.Ytcbhbpdlgibipaa.rg
open Go.ChangeShapes Go.WideShapes Go.ChangeAt Go.RowKit
open Go.Proofs.Ytcbhbpdlgibipaa.ce Go.Proofs.Ytcbhbpdlgibipaa.ro Go.Proofs.Ytcbhbpdlgibipaa.draw
set_option linter.unusedVariables false

/-- while a book is drawn: its things, its variable b3, the answer's b2 -/
structure Db (w : World) (p : Nat) (a0 : Option Addr) (len cap b2 b3 : Nat) (v : Value) (X : Int) (q : List It) (wr : World) : Prop where
  k : Dk w p a0 len cap v q wr
  V : VBlk wr b3 29 [v, .int .i64 X]
  V2 : VBlk wr b2 29 [.slice none 0 0, .int .i64 0]
  l3 : w.heap.size ≤ b3
  l2 : w.heap.size ≤ b2
  ne : b2 ≠ b3
theorem Dk.base {w w1 wr : World} {p : Nat} {a0 : Option Addr} {len cap : Nat} {v : Value} {q : List It} (D : Dk w1 p a0 len cap v q wr) (hB : Below w.heap.size w w1) (hp : p < w.heap.size) : Dk w p a0 len cap v q wr :=
  ⟨hp, D.cur, ⟨D.gb.os.trans hB.os, D.gb.tape.trans hB.tape, D.gb.output.trans hB.output, Nat.le_trans hB.size D.gb.size, fun k hk hn => (D.gb.block k (Nat.lt_of_lt_of_le hk hB.size) hn).trans (hB.block k hk)⟩, D.o.wide hB.size (Nat.le_refl _), D.s⟩
theorem Db.went {w wr w' : World} {p : Nat} {a0 : Option Addr} {len cap b2 b3 : Nat} {v : Value} {X : Int} {q : List It} (D : Db w p a0 len cap b2 b3 v X q wr) (hc : Cur w' p a0 len cap) (hg : wr.grownBy w' (some p)) : Db w p a0 len cap b2 b3 v X q w' := by
  have hp := D.k.hp
  have h3 := D.l3
  have h2 := D.l2
  exact ⟨D.k.went hc hg, D.V.of (hg.block b3 D.V.lt (fun e => by cases e; omega)), D.V2.of (hg.block b2 D.V2.lt (fun e => by cases e; omega)), D.l3, D.l2, D.ne⟩
theorem Db.num {w wr w' : World} {p : Nat} {a0 : Option Addr} {len cap b2 b3 : Nat} {v : Value} {X Y : Int} {q : List It} (D : Db w p a0 len cap b2 b3 v X q wr) (hO : Only b3 wr w') (hV : VBlk w' b3 29 [v, .int .i64 Y]) : Db w p a0 len cap b2 b3 v Y q w' :=
  ⟨D.k.step (hO.2.2 _ D.l3) (D.k.o.only hO D.V (by decide)) D.k.s, hV, vblk_only D.V2 hO D.ne, D.l3, D.l2, D.ne⟩
theorem Db.row {w wr w1 w' : World} {p : Nat} {a0 : Option Addr} {len cap b2 b3 : Nat} {v v' : Value} {X : Int} {q q' : List It} (D : Db w p a0 len cap b2 b3 v X q wr) (K : Dk wr p a0 len cap v' q' w1) (hO : Only b3 w1 w') (hV : VBlk w' b3 29 [v', .int .i64 X]) : Db w p a0 len cap b2 b3 v' X q' w' := by
  have D1 := D.went K.cur K.gb
  have hp := D.k.hp
  have o1 : Own encIt w1 w.heap.size w1.heap.size v' q' := K.o.wide D.k.size (Nat.le_refl _)
  exact ⟨D1.k.step (hO.2.2 _ D.l3) (o1.only hO D1.V (by decide)) K.s, hV, vblk_only D1.V2 hO D.ne, D.l3, D.l2, D.ne⟩
theorem Db.fin {w wr w' : World} {p : Nat} {a0 : Option Addr} {len cap b2 b3 : Nat} {v : Value} {X : Int} {q : List It} (D : Db w p a0 len cap b2 b3 v X q wr) (hO : Only b2 wr w') : Dk w p a0 len cap v q w' := D.k.step (hO.2.2 _ D.l2) (D.k.o.only hO D.V2 (by decide)) D.k.s
set_option maxRecDepth 100000 in
set_option maxHeartbeats 2000000 in
theorem l13Draw_any (w : World) (p : Nat) (a0 : Option Addr) (len cap : Nat) (hc : Cur w p a0 len cap) :
    Calls Try.prog 52 #[.pointer (some ⟨p, 0, none⟩)] w fun e w' => ∃ v X q, e = .returned (.agg #[v, .int .i64 X]) ∧ Dk w p a0 len cap v q w' ∧ q.length ≤ 30 ∧ 0 ≤ X ∧ X ≤ 1000001 := by
  have HC : Hid (Cur w p a0 len cap) := hc
  have hp := hc.1
  clear hc
  have m1 : Hid True := trivial
  have m2 : Hid True := trivial
  have m3 : Hid True := trivial
  have m4 : Hid True := trivial
  have m5 : Hid True := trivial
  go_enter Try.func52, Try.ntmps52
  go_upto_if 11 with (first
    | (clear m1; refine wpList_alloc_v rfl 29 rfl _ zeroBk ?_; intro b2 w1 hb2 hw2 hB1 V2; have hz1 := hB1.size; have C1 := cur_below HC.out hB1 hp)
    | (go_at_call 68; refine (l10Draw_any w1 p a0 len cap C1).mono ?_; rintro e w2 ⟨v2, q, rfl, D2, hl⟩; obtain ⟨A2, n2, c2, rfl⟩ := D2.o.slice; have V2b : VBlk w2 b2 29 [.slice none 0 0, .int .i64 0] := V2.of (D2.gb.block b2 V2.lt (fun e => by cases e; omega)); have hl30 : q.length ≤ 30 := (by omega); clear hl)
    | (clear m2; go_at_call 53; refine (below_from w2 w2 p a0 len cap _ (by omega) D2.cur (World.grownBy.refl _ _)).mono ?_; rintro e w3 ⟨x, rfl, hx0, hx1, hc3, hg3⟩; have D3 := D2.went hc3 hg3; have V2c : VBlk w3 b2 29 [.slice none 0 0, .int .i64 0] := V2b.of (hg3.block b2 V2b.lt (fun e => by cases e; omega)); have ex : IntKind.i64.wrap (1 + x) = 1 + x := (by rw [IntKind.wrap_i64]; omega))
    | (clear m3; refine wpList_alloc_v rfl 29 rfl _ zeroBk ?_; intro b3 w4 hb3 hw3 hB4 V3; have D4 := D3.grow hB4; have V2d := vblk_grow V2c hB4)
    | (clear m4; refine wpList_store_v rfl 29 _ _ rfl b3 [.slice A2 n2 c2, .int .i64 (1 + x)] rfl rfl sizeBk V3 rfl (oneBk _ _ _ _) ?_; intro w5 hO5 V5; obtain ⟨X, hX⟩ := hid_ex (1 + x); rw [hX.out] at V5; (try rw [hX.out]); have hX0 : 0 ≤ X ∧ X ≤ 1000001 := (by have := hX.out; omega); have DB : Hid (Db w p a0 len cap b2 b3 (.slice A2 n2 c2) X q w5) := ⟨(D4.step (hO5.2.2 _ (by have := D3.size; omega)) ((D4.o.only hO5 V3 (by decide))) D4.s).base hB1 hp, V5, vblk_only V2d hO5 (by have := V2c.lt; omega), by have := D3.size; omega, hb2, by have := V2c.lt; omega⟩)
    | (clear m5; go_at_call 69; refine (once_from w5 w5 p a0 len cap _ (by omega) DB.out.k.cur (World.grownBy.refl _ _)).mono ?_; rintro e w6 ⟨x1, rfl, hc6, hg6⟩; have DB6 : Hid (Db w p a0 len cap b2 b3 (.slice A2 n2 c2) X q w6) := DB.out.went hc6 hg6)
    | (fail))
  clear DB D2 D3 D4 V2 V2b V2c V2d V3 V5 hO5 hB4 hg3 hc3 hc6 hg6 hX C1
  go_cut [11] from 11 to 17 (fun u wc => u = .bool x1 ∧ ∃ Y : Int, 0 ≤ Y ∧ Y ≤ 1000001 ∧ Hid (Db w p a0 len cap b2 b3 (.slice A2 n2 c2) Y q wc))
  case first =>
    cases x1 with
    | false =>
      go_wp2
      go_meet
      case rel => exact ⟨rfl, X, hX0.1, hX0.2, DB6⟩
    | true =>
      go_wp2_with (first | (go_at_call 53; refine (below_lit w6 w6 p a0 len cap [0, 1000000, 1000001] _ 3 0 1000001 rfl (by omega) (by intro x hx; simp at hx; omega) DB6.out.k.cur (World.grownBy.refl _ _)).mono ?_; rintro e w7 ⟨z, y, rfl, hz0, hz1, hcell, hy0, hy1, hc7, hg7⟩; have DB7 := DB6.out.went hc7 hg7; obtain ⟨zn, hzn⟩ : ∃ k : Nat, z = k := ⟨z.toNat, by omega⟩; subst hzn; rw [Int.toNat_natCast] at hcell) | (refine wpList_store_cell rfl 2 _ _ rfl b3 1 (.int .i64 y) rfl rfl rfl szI1 DB7.V (by simp) ?_; intro w8 hO8 V8; have DB8 : Hid (Db w p a0 len cap b2 b3 (.slice A2 n2 c2) y q w8) := DB7.num hO8 V8) | (fail))
      go_meet
      case rel => exact ⟨rfl, y, hy0, hy1, DB8⟩
  case rest =>
  obtain ⟨rfl, Y, hY0, hY1, DC⟩ := hcut
  clear DB6
  go_upto_if 19 with (first | (go_at_call 69; refine (once_from wc wc p a0 len cap _ (by omega) DC.out.k.cur (World.grownBy.refl _ _)).mono ?_; rintro e w9 ⟨x2, rfl, hc9, hg9⟩; have DD : Hid (Db w p a0 len cap b2 b3 (.slice A2 n2 c2) Y q w9) := DC.out.went hc9 hg9) | (fail))
  clear DC hc9 hg9
  cases x2 with
  | false =>
    go_wp2_with (first | (refine wpList_load_r rfl 29 _ rfl b3 0 [.slice A2 n2 c2, .int .i64 Y] rfl _ Try.underlying29 rfl sizeBk DD.out.V.range ?_) | (refine wpList_store_v rfl 29 _ _ rfl b2 [.slice A2 n2 c2, .int .i64 Y] rfl rfl sizeBk DD.out.V2 rfl (oneBk _ _ _ _) ?_; intro wz hOz Vz) | (fail))
    exact row_retv rfl rfl Vz Try.underlying29 sizeBk rfl ⟨_, Y, q, rfl, DD.out.fin hOz, hl30, hY0, hY1⟩
  | true =>
    go_wp2_with (first | (go_at_call 70; refine (l10DrawBook_any w9 p a0 len cap DD.out.k.cur).mono ?_; rintro e wa ⟨va, qa, rfl, Da, hla⟩; obtain ⟨Aa, na, ca, rfl⟩ := Da.o.slice; have DDa := DD.out.went Da.cur Da.gb) | (refine wpList_store_cell rfl 27 _ _ rfl b3 0 (.slice Aa na ca) rfl rfl rfl szL1 DDa.V (by simp) ?_; intro wb hOb Vb; have DE : Hid (Db w p a0 len cap b2 b3 (.slice Aa na ca) Y qa wb) := DD.out.row Da hOb Vb) | (refine wpList_load_r rfl 29 _ rfl b3 0 [.slice Aa na ca, .int .i64 Y] rfl _ Try.underlying29 rfl sizeBk DE.out.V.range ?_) | (refine wpList_store_v rfl 29 _ _ rfl b2 [.slice Aa na ca, .int .i64 Y] rfl rfl sizeBk DE.out.V2 rfl (oneBk _ _ _ _) ?_; intro wz hOz Vz) | (fail))
    exact row_retv rfl rfl Vz Try.underlying29 sizeBk rfl ⟨_, Y, qa, rfl, DE.out.fin hOz, hla, hY0, hY1⟩
end Go.Proofs.Ytcbhbpdlgibipaa.rg
