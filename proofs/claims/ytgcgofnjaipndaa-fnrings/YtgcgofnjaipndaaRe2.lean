/- What the laws of chapter 8 draw, second part: a ring in its variable while it is drawn. -/
import Derived.Test.YtgcgofnjaipndaaRe1
import Derived.Test.YtgcgofnjaipndaaRo8
import Derived.Deep.DeepCutAuto
namespace Go.Proofs.Ytgcgofnjaipndaa.rg
open Go.ChangeShapes Go.WideShapes Go.ChangeAt Go.RowKit
open Go.Proofs.Ytgcgofnjaipndaa.ce Go.Proofs.Ytgcgofnjaipndaa.ro Go.Proofs.Ytgcgofnjaipndaa.draw
set_option linter.unusedVariables false

/-- small enough for whatever follows -/
structure Sm (r : Rg) : Prop where
  n : r.N.length ≤ 30
  u : r.U.length ≤ 31
  s : ∀ s ∈ r.N, s.size ≤ 2000
/-- while a ring is drawn: the cursor in p, the answer's variable b2, the ring's b3 -/
structure Dr (w : World) (p : Nat) (a0 : Option Addr) (len cap b2 b3 : Nat) (vN vU : Value) (r : Rg) (wr : World) : Prop where
  hp : p < w.heap.size
  hb : w.heap.size ≤ b2 ∧ w.heap.size ≤ b3 ∧ b2 ≠ b3
  cur : Cur wr p a0 len cap
  gb : w.grownBy wr (some p)
  n : Own encS wr w.heap.size wr.heap.size vN r.N
  u : Own encB wr w.heap.size wr.heap.size vU r.U
  v3 : VBlk wr b3 29 [vN, vU, .int .i64 r.A]
  v2 : VBlk wr b2 29 [.slice none 0 0, .slice none 0 0, .int .i64 0]
variable {w : World} {p : Nat} {a0 : Option Addr} {len cap b2 b3 : Nat} {vN vU : Value} {r : Rg} {wr w' : World}
theorem Dr.size (D : Dr w p a0 len cap b2 b3 vN vU r wr) : w.heap.size ≤ wr.heap.size := D.gb.size
/-- the cursor has gone on -/
theorem Dr.went (D : Dr w p a0 len cap b2 b3 vN vU r wr) (hc : Cur w' p a0 len cap) (hg : wr.grownBy w' (some p)) : Dr w p a0 len cap b2 b3 vN vU r w' := by
  have hp := D.hp
  have hb := D.hb
  have k : ∀ g, w.heap.size ≤ g → g < wr.heap.size → w'.heap[g]? = wr.heap[g]? := fun g h1 h2 => hg.block g h2 (fun e => by cases e; omega)
  exact ⟨D.hp, D.hb, hc, gb_trans D.gb hg, (D.n.keep fun g h1 h2 => k g h1 h2).top, (D.u.keep fun g h1 h2 => k g h1 h2).top, D.v3.of (k b3 hb.2.1 D.v3.lt), D.v2.of (k b2 hb.1 D.v2.lt)⟩
/-- new memory, and what is the ring's own, has been written -/
theorem Dr.step (D : Dr w p a0 len cap b2 b3 vN vU r wr) (hB : Below w.heap.size wr w') {vN' vU' : Value} {r' : Rg} {lo1 lo2 : Nat} (n : Own encS w' w.heap.size lo1 vN' r'.N) (u : Own encB w' w.heap.size lo2 vU' r'.U) (v3 : VBlk w' b3 29 [vN', vU', .int .i64 r'.A]) (v2 : VBlk w' b2 29 [.slice none 0 0, .slice none 0 0, .int .i64 0]) : Dr w p a0 len cap b2 b3 vN' vU' r' w' :=
  ⟨D.hp, D.hb, cur_below D.cur hB D.hp, gb_below D.gb hB (Nat.le_refl _), n.top, u.top, v3, v2⟩
theorem Dr.grow (D : Dr w p a0 len cap b2 b3 vN vU r wr) (hB : Below wr.heap.size wr w') : Dr w p a0 len cap b2 b3 vN vU r w' :=
  D.step (hB.mono D.size) (D.n.grow hB) (D.u.grow hB) (vblk_grow D.v3 hB) (vblk_grow D.v2 hB)
theorem Dr.tn (D : Dr w p a0 len cap b2 b3 vN vU r wr) {vN' vU' : Value} {r' : Rg} {lo1 : Nat} (o : OwnR w' w.heap.size lo1 vN' vU' r') (v3 : VBlk w' b3 29 [vN', vU', .int .i64 r'.A]) (t : Tn w.heap.size b3 wr w') : Dr w p a0 len cap b2 b3 vN' vU' r' w' :=
  D.step (t.below (Nat.le_refl _) D.hb.2.1) o.n o.u v3 (t.vblk D.v2 D.hb.2.2 (by decide) (by decide))
theorem Dr.setU {g n k : Nat} (D : Dr w p a0 len cap b2 b3 vN (.slice (some ⟨g, 0, none⟩) n k) r wr) (i : Nat) (hi : i < r.U.length) (x : Bool) : Dr w p a0 len cap b2 b3 vN (.slice (some ⟨g, 0, none⟩) n k) ⟨r.N, r.U.set i x, r.A⟩ (wr.setCell ⟨g, i, none⟩ (.bool x)) := by
  have hT := own_ty D.u (by omega) i (.bool x)
  exact D.step hT.low (hT.own D.n (by decide)) (ownB_set D.u i hi x) (hT.vblk D.v3 (by decide)) (hT.vblk D.v2 (by decide))
theorem Dr.only {t : TypeId} (D : Dr w p a0 len cap b2 b3 vN vU r wr) (hO : Only b3 wr w') {A : Int} (v3 : VBlk w' b3 29 [vN, vU, .int .i64 A]) : Dr w p a0 len cap b2 b3 vN vU ⟨r.N, r.U, A⟩ w' :=
  D.step (hO.2.2 _ D.hb.2.1) (D.n.only hO D.v3 (by decide)) (D.u.only hO D.v3 (by decide)) v3 (vblk_only D.v2 hO D.hb.2.2)
theorem Dr.zero (D : Dr w p a0 len cap b2 b3 vN vU r wr) (hO : Only b3 wr w') (v3 : VBlk w' b3 29 [.slice none 0 0, .slice none 0 0, .int .i64 0]) : Dr w p a0 len cap b2 b3 (.slice none 0 0) (.slice none 0 0) Rg.zero w' :=
  D.step (hO.2.2 _ D.hb.2.1) (lo1 := 0) (lo2 := 0) (own_zero _ _ _ _ _) (own_zero _ _ _ _ _) v3 (vblk_only D.v2 hO D.hb.2.2)
/-- a text is appended, and stored -/
theorem Dr.names (D : Dr w p a0 len cap b2 b3 vN vU r wr) {w1 : World} {a : Option Addr} {n k lo : Nat} {N' : List ByteArray} (hT : Ty w.heap.size 9 wr w1) (o : Own encS w1 w.heap.size lo (.slice a n k) N') (hO : Only b3 w1 w') (v3 : VBlk w' b3 29 [.slice a n k, vU, .int .i64 r.A]) : Dr w p a0 len cap b2 b3 (.slice a n k) vU ⟨N', r.U, r.A⟩ w' :=
  have V := hT.vblk D.v3 (by decide)
  D.step (hT.low.trans (hO.2.2 _ D.hb.2.1)) (o.only hO V (by decide)) ((hT.own D.u (by decide)).only hO V (by decide)) v3 (vblk_only (hT.vblk D.v2 (by decide)) hO D.hb.2.2)
theorem Dr.flags (D : Dr w p a0 len cap b2 b3 vN vU r wr) {w1 : World} {a : Option Addr} {n k lo : Nat} {U' : List Bool} (hT : Ty w.heap.size 4 wr w1) (o : Own encB w1 w.heap.size lo (.slice a n k) U') (hO : Only b3 w1 w') (v3 : VBlk w' b3 29 [vN, .slice a n k, .int .i64 r.A]) : Dr w p a0 len cap b2 b3 vN (.slice a n k) ⟨r.N, U', r.A⟩ w' :=
  have V := hT.vblk D.v3 (by decide)
  D.step (hT.low.trans (hO.2.2 _ D.hb.2.1)) ((hT.own D.n (by decide)).only hO V (by decide)) (o.only hO V (by decide)) v3 (vblk_only (hT.vblk D.v2 (by decide)) hO D.hb.2.2)
theorem cur_ad {o : Obj} (h : Cur wr p a0 len cap) : Cur (wr.alloc o).drew p a0 len cap := cur_drewN (cur_alloc h o) 1
theorem cur_d (h : Cur wr p a0 len cap) : Cur wr.drew p a0 len cap := cur_drewN h 1
theorem gb_d (h : wr.drew.grownBy w' (some p)) : wr.grownBy w' (some p) := ⟨h.os, h.tape, h.output, h.size, h.block⟩
theorem gb_ad {o : Obj} (h : (wr.alloc o).drew.grownBy w' (some p)) : wr.grownBy w' (some p) := gb_trans (gb_alloc (World.grownBy.refl _ _) o) (gb_d h)
/-- the texts of a literal -/
def odd3 : List ByteArray := [⟨#[]⟩, ⟨#[97]⟩, ⟨#[65]⟩]
theorem odd3_get (k : Nat) (hk : k < 3) : ∃ s : ByteArray, s.size ≤ 1 ∧ ∀ W : World, (W.alloc (.cells #[.string ⟨#[]⟩, .string ⟨#[97]⟩, .string ⟨#[65]⟩] 9)).cell? ⟨W.heap.size, k, none⟩ = some (.string s) := by
  match k, hk with
  | 0, _ => exact ⟨⟨#[]⟩, by decide, fun W => by simp⟩
  | 1, _ => exact ⟨⟨#[97]⟩, by decide, fun W => by simp⟩
  | 2, _ => exact ⟨⟨#[65]⟩, by decide, fun W => by simp⟩
end Go.Proofs.Ytgcgofnjaipndaa.rg
