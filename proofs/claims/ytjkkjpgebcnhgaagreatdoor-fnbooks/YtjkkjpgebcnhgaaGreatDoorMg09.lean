/- Texts laid together: Bd1 Gd1. -/
import Derived.Test.YtjkkjpgebcnhgaaGreatDoorMg03
import Derived.Test.YtjkkjpgebcnhgaaGreatDoorDe5
import Derived.Test.YtjkkjpgebcnhgaaGreatDoorMg00
import Derived.Deep.DeepCutAuto
/- The draws of chapter 13: a book. -/
namespace Go.Proofs.YtjkkjpgebcnhgaaGreatDoor.rg
open Go.ChangeShapes Go.WideShapes Go.ChangeAt Go.RowKit
open Go.Proofs.YtjkkjpgebcnhgaaGreatDoor.ce Go.Proofs.YtjkkjpgebcnhgaaGreatDoor.ro Go.Proofs.YtjkkjpgebcnhgaaGreatDoor.draw
set_option linter.unusedVariables false

/-- while a book is drawn: its things, its variable b3, the answer's b2 -/
structure Db (w : World) (p : Nat) (a0 : Option Addr) (len cap b2 b3 : Nat) (v : Value) (X : Int) (q : List It) (wr : World) : Prop where
  k : Dk w p a0 len cap v q wr
  V : VBlk wr b3 31 [v, .int .i64 X]
  V2 : VBlk wr b2 31 [.slice none 0 0, .int .i64 0]
  l3 : w.heap.size ≤ b3
  l2 : w.heap.size ≤ b2
  ne : b2 ≠ b3
theorem Dk.base {w w1 wr : World} {p : Nat} {a0 : Option Addr} {len cap : Nat} {v : Value} {q : List It} (D : Dk w1 p a0 len cap v q wr) (hB : Below w.heap.size w w1) (hp : p < w.heap.size) : Dk w p a0 len cap v q wr :=
  ⟨hp, D.cur, ⟨D.gb.os.trans hB.os, D.gb.tape.trans hB.tape, D.gb.output.trans hB.output, Nat.le_trans hB.size D.gb.size, fun k hk hn => (D.gb.block k (Nat.lt_of_lt_of_le hk hB.size) hn).trans (hB.block k hk)⟩, D.o.wide hB.size (Nat.le_refl _), D.s⟩
theorem Db.went {w wr w' : World} {p : Nat} {a0 : Option Addr} {len cap b2 b3 : Nat} {v : Value} {X : Int} {q : List It} (D : Db w p a0 len cap b2 b3 v X q wr) (hc : Cur w' p a0 len cap) (hg : wr.grownBy w' (some p)) : Db w p a0 len cap b2 b3 v X q w' := by
  have hp := D.k.hp
  have h3 := D.l3
  have h2 := D.l2
  exact ⟨D.k.went hc hg, D.V.of (hg.block b3 D.V.lt (fun e => by cases e; omega)), D.V2.of (hg.block b2 D.V2.lt (fun e => by cases e; omega)), D.l3, D.l2, D.ne⟩
theorem Db.num {w wr w' : World} {p : Nat} {a0 : Option Addr} {len cap b2 b3 : Nat} {v : Value} {X Y : Int} {q : List It} (D : Db w p a0 len cap b2 b3 v X q wr) (hO : Only b3 wr w') (hV : VBlk w' b3 31 [v, .int .i64 Y]) : Db w p a0 len cap b2 b3 v Y q w' :=
  ⟨D.k.step (hO.2.2 _ D.l3) (D.k.o.only hO D.V (by decide)) D.k.s, hV, vblk_only D.V2 hO D.ne, D.l3, D.l2, D.ne⟩
theorem Db.row {w wr w1 w' : World} {p : Nat} {a0 : Option Addr} {len cap b2 b3 : Nat} {v v' : Value} {X : Int} {q q' : List It} (D : Db w p a0 len cap b2 b3 v X q wr) (K : Dk wr p a0 len cap v' q' w1) (hO : Only b3 w1 w') (hV : VBlk w' b3 31 [v', .int .i64 X]) : Db w p a0 len cap b2 b3 v' X q' w' := by
  have D1 := D.went K.cur K.gb
  have hp := D.k.hp
  have o1 : Own encIt w1 w.heap.size w1.heap.size v' q' := K.o.wide D.k.size (Nat.le_refl _)
  exact ⟨D1.k.step (hO.2.2 _ D.l3) (o1.only hO D1.V (by decide)) K.s, hV, vblk_only D1.V2 hO D.ne, D.l3, D.l2, D.ne⟩
theorem Db.fin {w wr w' : World} {p : Nat} {a0 : Option Addr} {len cap b2 b3 : Nat} {v : Value} {X : Int} {q : List It} (D : Db w p a0 len cap b2 b3 v X q wr) (hO : Only b2 wr w') : Dk w p a0 len cap v q w' := D.k.step (hO.2.2 _ D.l2) (D.k.o.only hO D.V2 (by decide)) D.k.s
set_option maxRecDepth 100000 in
set_option maxHeartbeats 2000000 in
theorem l13Draw_any (w : World) (p : Nat) (a0 : Option Addr) (len cap : Nat) (hc : Cur w p a0 len cap) :
    Calls Tryz.prog 47 #[.pointer (some ⟨p, 0, none⟩)] w fun e w' => ∃ v X q, e = .returned (.agg #[v, .int .i64 X]) ∧ Dk w p a0 len cap v q w' ∧ q.length ≤ 30 ∧ 0 ≤ X ∧ X ≤ 1000001 := by
  have HC : Hid (Cur w p a0 len cap) := hc
  have hp := hc.1
  clear hc
  have m1 : Hid True := trivial
  have m2 : Hid True := trivial
  have m3 : Hid True := trivial
  have m4 : Hid True := trivial
  have m5 : Hid True := trivial
  go_enter Tryz.func47, Tryz.ntmps47
  go_upto_if 11 with (first
    | (clear m1; refine wpList_alloc_v rfl 31 rfl _ zeroBk ?_; intro b2 w1 hb2 hw2 hB1 V2; have hz1 := hB1.size; have C1 := cur_below HC.out hB1 hp)
    | (go_at_call 91; refine (l10Draw_any w1 p a0 len cap C1).mono ?_; rintro e w2 ⟨v2, q, rfl, D2, hl⟩; obtain ⟨A2, n2, c2, rfl⟩ := D2.o.slice; have V2b : VBlk w2 b2 31 [.slice none 0 0, .int .i64 0] := V2.of (D2.gb.block b2 V2.lt (fun e => by cases e; omega)); have hl30 : q.length ≤ 30 := (by omega); clear hl)
    | (clear m2; go_at_call 50; refine (below_from w2 w2 p a0 len cap _ (by omega) D2.cur (World.grownBy.refl _ _)).mono ?_; rintro e w3 ⟨x, rfl, hx0, hx1, hc3, hg3⟩; have D3 := D2.went hc3 hg3; have V2c : VBlk w3 b2 31 [.slice none 0 0, .int .i64 0] := V2b.of (hg3.block b2 V2b.lt (fun e => by cases e; omega)); have ex : IntKind.i64.wrap (1 + x) = 1 + x := (by rw [IntKind.wrap_i64]; omega))
    | (clear m3; refine wpList_alloc_v rfl 31 rfl _ zeroBk ?_; intro b3 w4 hb3 hw3 hB4 V3; have D4 := D3.grow hB4; have V2d := vblk_grow V2c hB4)
    | (clear m4; refine wpList_store_v rfl 31 _ _ rfl b3 [.slice A2 n2 c2, .int .i64 (1 + x)] rfl rfl sizeBk V3 rfl (oneBk _ _ _ _) ?_; intro w5 hO5 V5; obtain ⟨X, hX⟩ := hid_ex (1 + x); rw [hX.out] at V5; (try rw [hX.out]); have hX0 : 0 ≤ X ∧ X ≤ 1000001 := (by have := hX.out; omega); have DB : Hid (Db w p a0 len cap b2 b3 (.slice A2 n2 c2) X q w5) := ⟨(D4.step (hO5.2.2 _ (by have := D3.size; omega)) ((D4.o.only hO5 V3 (by decide))) D4.s).base hB1 hp, V5, vblk_only V2d hO5 (by have := V2c.lt; omega), by have := D3.size; omega, hb2, by have := V2c.lt; omega⟩)
    | (clear m5; go_at_call 49; refine (once_from w5 w5 p a0 len cap _ (by omega) DB.out.k.cur (World.grownBy.refl _ _)).mono ?_; rintro e w6 ⟨x1, rfl, hc6, hg6⟩; have DB6 : Hid (Db w p a0 len cap b2 b3 (.slice A2 n2 c2) X q w6) := DB.out.went hc6 hg6)
    | (fail))
  clear DB D2 D3 D4 V2 V2b V2c V2d V3 V5 hO5 hB4 hg3 hc3 hc6 hg6 hX C1
  go_cut [11] from 11 to 17 (fun u wc => u = .bool x1 ∧ ∃ Y : Int, 0 ≤ Y ∧ Y ≤ 1000001 ∧ Hid (Db w p a0 len cap b2 b3 (.slice A2 n2 c2) Y q wc))
  case first =>
    cases x1 with
    | false =>
      go_wp2
      go_meet
      case rel => exact ⟨rfl, X, hX0.1, hX0.2, DB6⟩
    | true =>
      go_wp2_with (first | (go_at_call 50; refine (below_lit w6 w6 p a0 len cap [0, 1000000, 1000001] _ 3 0 1000001 rfl (by omega) (by intro x hx; simp at hx; omega) DB6.out.k.cur (World.grownBy.refl _ _)).mono ?_; rintro e w7 ⟨z, y, rfl, hz0, hz1, hcell, hy0, hy1, hc7, hg7⟩; have DB7 := DB6.out.went hc7 hg7; obtain ⟨zn, hzn⟩ : ∃ k : Nat, z = k := ⟨z.toNat, by omega⟩; subst hzn; rw [Int.toNat_natCast] at hcell) | (refine wpList_store_cell rfl 2 _ _ rfl b3 1 (.int .i64 y) rfl rfl rfl szI1 DB7.V (by simp) ?_; intro w8 hO8 V8; have DB8 : Hid (Db w p a0 len cap b2 b3 (.slice A2 n2 c2) y q w8) := DB7.num hO8 V8) | (fail))
      go_meet
      case rel => exact ⟨rfl, y, hy0, hy1, DB8⟩
  case rest =>
  obtain ⟨rfl, Y, hY0, hY1, DC⟩ := hcut
  clear DB6
  go_upto_if 19 with (first | (go_at_call 49; refine (once_from wc wc p a0 len cap _ (by omega) DC.out.k.cur (World.grownBy.refl _ _)).mono ?_; rintro e w9 ⟨x2, rfl, hc9, hg9⟩; have DD : Hid (Db w p a0 len cap b2 b3 (.slice A2 n2 c2) Y q w9) := DC.out.went hc9 hg9) | (fail))
  clear DC hc9 hg9
  cases x2 with
  | false =>
    go_wp2_with (first | (refine wpList_load_r rfl 31 _ rfl b3 0 [.slice A2 n2 c2, .int .i64 Y] rfl _ Tryz.underlying31 rfl sizeBk DD.out.V.range ?_) | (refine wpList_store_v rfl 31 _ _ rfl b2 [.slice A2 n2 c2, .int .i64 Y] rfl rfl sizeBk DD.out.V2 rfl (oneBk _ _ _ _) ?_; intro wz hOz Vz) | (fail))
    exact row_retv rfl rfl Vz Tryz.underlying31 sizeBk rfl ⟨_, Y, q, rfl, DD.out.fin hOz, hl30, hY0, hY1⟩
  | true =>
    go_wp2_with (first | (go_at_call 92; refine (l10DrawBook_any w9 p a0 len cap DD.out.k.cur).mono ?_; rintro e wa ⟨va, qa, rfl, Da, hla⟩; obtain ⟨Aa, na, ca, rfl⟩ := Da.o.slice; have DDa := DD.out.went Da.cur Da.gb) | (refine wpList_store_cell rfl 29 _ _ rfl b3 0 (.slice Aa na ca) rfl rfl rfl szL1 DDa.V (by simp) ?_; intro wb hOb Vb; have DE : Hid (Db w p a0 len cap b2 b3 (.slice Aa na ca) Y qa wb) := DD.out.row Da hOb Vb) | (refine wpList_load_r rfl 31 _ rfl b3 0 [.slice Aa na ca, .int .i64 Y] rfl _ Tryz.underlying31 rfl sizeBk DE.out.V.range ?_) | (refine wpList_store_v rfl 31 _ _ rfl b2 [.slice Aa na ca, .int .i64 Y] rfl rfl sizeBk DE.out.V2 rfl (oneBk _ _ _ _) ?_; intro wz hOz Vz) | (fail))
    exact row_retv rfl rfl Vz Tryz.underlying31 sizeBk rfl ⟨_, Y, qa, rfl, DE.out.fin hOz, hla, hY0, hY1⟩
end Go.Proofs.YtjkkjpgebcnhgaaGreatDoor.rg
/- While a record is drawn: the cursor, the answer's variable and the record's own, whatever the record is. -/
namespace Go.Proofs.YtjkkjpgebcnhgaaGreatDoor.rg
open Go.ChangeShapes Go.WideShapes Go.ChangeAt Go.RowKit
open Go.Proofs.YtjkkjpgebcnhgaaGreatDoor.ce Go.Proofs.YtjkkjpgebcnhgaaGreatDoor.ro Go.Proofs.YtjkkjpgebcnhgaaGreatDoor.draw
set_option linter.unusedVariables false

/-- the cursor alone -/
structure Gt (w : World) (p : Nat) (a0 : Option Addr) (len cap : Nat) (wr : World) : Prop where
  hp : p < w.heap.size
  cur : Cur wr p a0 len cap
  gb : w.grownBy wr (some p)
/-- the cursor in p, the answer's variable in b -/
structure D0 (T : TypeId) (zs : List Value) (w : World) (p : Nat) (a0 : Option Addr) (len cap b : Nat) (wr : World) : Prop where
  t : Gt w p a0 len cap wr
  lob : w.heap.size ≤ b
  vb : VBlk wr b T zs
/-- the record in g besides -/
structure Dv (T : TypeId) (zs : List Value) (w : World) (p : Nat) (a0 : Option Addr) (len cap b g : Nat) (vs : List Value) (wr : World) : Prop where
  o : D0 T zs w p a0 len cap b wr
  lt : b < g
  vg : VBlk wr g T vs
section
variable {T : TypeId} {zs vs vs' : List Value} {w : World} {p : Nat} {a0 : Option Addr} {len cap b g : Nat} {wr w' : World}
theorem gt_new (hc : Cur w p a0 len cap) : Gt w p a0 len cap w := ⟨hc.1, hc, World.grownBy.refl _ _⟩
theorem Gt.went (D : Gt w p a0 len cap wr) (hc : Cur w' p a0 len cap) (hg : wr.grownBy w' (some p)) : Gt w p a0 len cap w' := ⟨D.hp, hc, gb_trans D.gb hg⟩
theorem Gt.then (D : Gt w p a0 len cap wr) (h : Gt wr p a0 len cap w') : Gt w p a0 len cap w' := D.went h.cur h.gb
theorem Gt.grow (D : Gt w p a0 len cap wr) (hB : Below wr.heap.size wr w') : Gt w p a0 len cap w' := ⟨D.hp, cur_below D.cur hB D.cur.1, gb_below D.gb hB D.gb.size⟩
/-- what is turned is new since w -/
theorem Gt.base (D : Gt w p a0 len cap wr) (hB : Below w.heap.size wr w') : Gt w p a0 len cap w' := ⟨D.hp, cur_below D.cur hB D.hp, gb_below D.gb hB (Nat.le_refl _)⟩
theorem Gt.size (D : Gt w p a0 len cap wr) : w.heap.size ≤ wr.heap.size := D.gb.size
theorem Gt.drew (D : Gt w p a0 len cap wr) : Gt w p a0 len cap wr.drew := D.grow (Below.refl _ _).drew
theorem d0_new (hc : Cur w p a0 len cap) (hB : Below w.heap.size w w') (hl : w.heap.size ≤ b) (hv : VBlk w' b T zs) : D0 T zs w p a0 len cap b w' := ⟨(gt_new hc).grow hB, hl, hv⟩
theorem D0.went (D : D0 T zs w p a0 len cap b wr) (hc : Cur w' p a0 len cap) (hg : wr.grownBy w' (some p)) : D0 T zs w p a0 len cap b w' := by
  have hp := D.t.hp
  have h1 := D.lob
  exact ⟨D.t.went hc hg, D.lob, D.vb.of (hg.block b D.vb.lt (fun e => by cases e; omega))⟩
theorem D0.then (D : D0 T zs w p a0 len cap b wr) (h : Gt wr p a0 len cap w') : D0 T zs w p a0 len cap b w' := D.went h.cur h.gb
theorem D0.grow (D : D0 T zs w p a0 len cap b wr) (hB : Below wr.heap.size wr w') : D0 T zs w p a0 len cap b w' := ⟨D.t.grow hB, D.lob, vblk_grow D.vb hB⟩
/-- the record's variable is laid, and then filled -/
theorem D0.dv2 {w1 : World} (D : D0 T zs w p a0 len cap b wr) (hg : wr.heap.size ≤ g) (hB : Below wr.heap.size wr w1) (hO : Only g w1 w') (vg : VBlk w' g T vs) : Dv T zs w p a0 len cap b g vs w' := by
  have h1 := D.vb.lt
  have D1 := D.grow hB
  exact ⟨⟨D1.t.base (hO.2.2 _ (Nat.le_trans D.t.size hg)), D.lob, D1.vb.of (hO.2.1 b (by omega))⟩, by omega, vg⟩
theorem D0.got (D : D0 T zs w p a0 len cap b wr) (hO : Only b wr w') : Gt w p a0 len cap w' := D.t.base (hO.2.2 w.heap.size D.lob)
theorem Dv.went (D : Dv T zs w p a0 len cap b g vs wr) (hc : Cur w' p a0 len cap) (hg : wr.grownBy w' (some p)) : Dv T zs w p a0 len cap b g vs w' := by
  have hp := D.o.t.hp
  have h1 := D.o.lob
  have h2 := D.lt
  exact ⟨D.o.went hc hg, D.lt, D.vg.of (hg.block g D.vg.lt (fun e => by cases e; omega))⟩
theorem Dv.then (D : Dv T zs w p a0 len cap b g vs wr) (h : Gt wr p a0 len cap w') : Dv T zs w p a0 len cap b g vs w' := D.went h.cur h.gb
theorem Dv.grow (D : Dv T zs w p a0 len cap b g vs wr) (hB : Below wr.heap.size wr w') : Dv T zs w p a0 len cap b g vs w' := ⟨D.o.grow hB, D.lt, vblk_grow D.vg hB⟩
/-- the record is written -/
theorem Dv.put (D : Dv T zs w p a0 len cap b g vs wr) (hO : Only g wr w') (vg : VBlk w' g T vs') : Dv T zs w p a0 len cap b g vs' w' := by
  have h1 := D.o.lob
  have h2 := D.lt
  exact ⟨⟨D.o.t.base (hO.2.2 _ (by omega)), D.o.lob, D.o.vb.of (hO.2.1 b (by omega))⟩, D.lt, vg⟩
theorem Dv.set (D : Dv T zs w p a0 len cap b g vs wr) (j : Nat) (u : Value) (h : vs.set j u = vs') : Dv T zs w p a0 len cap b g vs' (wr.setCell ⟨g, j, none⟩ u) := D.put (only_set wr g j u) (h ▸ D.vg.set j u)
theorem Dv.got (D : Dv T zs w p a0 len cap b g vs wr) (hO : Only b wr w') : Gt w p a0 len cap w' := D.o.got hO
theorem Dv.gt (D : Dv T zs w p a0 len cap b g vs wr) : Gt w p a0 len cap wr := D.o.t
end
end Go.Proofs.YtjkkjpgebcnhgaaGreatDoor.rg
