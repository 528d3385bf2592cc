/- Texts laid together: Re3 Rg1 Rg2. -/
import Derived.Test.YtmnjmghlkiljhaaMg07
import Derived.Test.YtmnjmghlkiljhaaRows
import Derived.Test.YtmnjmghlkiljhaaMg00
import Derived.Deep.RegionHeld3
import Derived.Maps.RangeWalk
/- What the laws of chapter 8 draw, third part: l8Draw. -/
namespace Go.Proofs.Ytmnjmghlkiljhaa.rg
open Go.ChangeShapes Go.WideShapes Go.ChangeAt Go.RowKit
open Go.Proofs.Ytmnjmghlkiljhaa.ce Go.Proofs.Ytmnjmghlkiljhaa.ro Go.Proofs.Ytmnjmghlkiljhaa.draw
set_option linter.unusedVariables false

/-- a drawn ring -/
structure Drawn (w : World) (p : Nat) (a0 : Option Addr) (len cap : Nat) (vN vU : Value) (r : Rg) (w' : World) : Prop where
  o : OwnR w' w.heap.size w'.heap.size vN vU r
  s : Sm r
  cur : Cur w' p a0 len cap
  gb : w.grownBy w' (some p)
theorem dr_end {w : World} {p : Nat} {a0 : Option Addr} {len cap b2 b3 : Nat} {vN vU : Value} {r : Rg} {wr w' : World} (D : Dr w p a0 len cap b2 b3 vN vU r wr) (hO : Only b2 wr w') (s : Sm r) : Drawn w p a0 len cap vN vU r w' := by
  have hB : Below w.heap.size wr w' := hO.2.2 _ D.hb.1
  exact ⟨⟨(D.n.only hO D.v2 (by decide)).top, (D.u.only hO D.v2 (by decide)).top⟩, s, cur_below D.cur hB D.hp, gb_below D.gb hB (Nat.le_refl _)⟩
theorem sm_app {N : List ByteArray} {s : ByteArray} (h : ∀ x ∈ N, x.size ≤ 2000) (hs : s.size ≤ 2000) : ∀ x ∈ N ++ [s], x.size ≤ 2000 := fun x hx => by
  rcases List.mem_append.1 hx with q | q
  · exact h x q
  · rw [List.mem_singleton.1 q]; exact hs
theorem joinR_sm {r : Rg} {s : ByteArray} (h : ∀ x ∈ r.N, x.size ≤ 2000) (hs : s.size ≤ 2000) : (∀ x ∈ (joinR r s).N, x.size ≤ 2000) ∧ (joinR r s).N.length ≤ r.N.length + 1 ∧ (joinR r s).U.length ≤ r.U.length + 1 := by
  unfold joinR
  split
  · exact ⟨sm_app h hs, by simp [joined], by simp [joined]⟩
  · exact ⟨h, by omega, by omega⟩
theorem rd_new2 {α : Type} {E : Enc α} (w7 : World) (o : Obj) (x : α) (cs : Array Value) (h : E.put x = cs.toList) : Rd E ((w7.alloc o).alloc (.cells cs E.t)) (.slice (some ⟨w7.heap.size + 1, 0, none⟩) 1 1) [x] := by
  have := rd_new (E := E) (w7.alloc o) x cs h
  have e : (w7.alloc o).heap.size = w7.heap.size + 1 := by simp
  rw [e] at this
  exact this
theorem gb_lit {wr w' : World} {p k : Nat} {o : Obj} {v : Value} (h : (wr.alloc o).drew.grownBy w' (some p)) (hp : p < wr.heap.size) (hc : (wr.alloc o).cell? ⟨wr.heap.size, k, none⟩ = some v) : w'.cell? ⟨wr.heap.size, k, none⟩ = some v := by
  rw [gb_cell h (b := wr.heap.size) (by show wr.heap.size < (wr.alloc o).heap.size; simp) (by omega)]
  exact hc
theorem bA (W : World) (o : Obj) : Below W.heap.size W (W.alloc o) := (Below.refl _ _).alloc (Nat.le_refl _) _
theorem Dr.at {w : World} {p : Nat} {a0 : Option Addr} {len cap b2 b3 lo : Nat} {t : TypeId} {vN vU : Value} {r : Rg} {X X' : World} (hT : Ty lo t X X') (D : Dr w p a0 len cap b2 b3 vN vU r X) : Dr w p a0 len cap b2 b3 vN vU r X := D
theorem cell_keep {w1 : World} {b3 g i : Nat} {v x : Value} (h : b3 ≠ g) (hc : w1.cell? ⟨b3, 1, none⟩ = some v) : (w1.setCell ⟨g, i, none⟩ x).cell? ⟨b3, 1, none⟩ = some v := by
  rw [World.cell?_of_block (w := w1) (w' := w1.setCell ⟨g, i, none⟩ x) (a := ⟨b3, 1, none⟩) ((only_set w1 g i x).2.1 b3 h)]; exact hc
theorem ne_of_types {w1 : World} {b3 g lo hi n cap : Nat} {vs : List Value} {xs : List Bool} (hv : VBlk w1 b3 27 vs) (o : Own encB w1 lo hi (.slice (some ⟨g, 0, none⟩) n cap) xs) (h : 1 ≤ xs.length) : b3 ≠ g := by
  intro e
  subst e
  rcases o.row with ⟨rfl, -⟩ | ⟨g2, cap2, cur, e2, -, hb, -⟩
  · simp at h
  · cases e2
    have := hb.symm.trans hv
    have h2 : encB.t = 27 := by simp at this; exact this.2
    exact absurd h2 (by decide)
theorem dr_new {w w3 : World} {p : Nat} {a0 : Option Addr} {len cap b2 b3 : Nat} (hc : Cur w p a0 len cap) (hB : Below w.heap.size w w3) (hb : w.heap.size ≤ b2 ∧ w.heap.size ≤ b3 ∧ b2 ≠ b3) (v3 : VBlk w3 b3 27 [.slice none 0 0, .slice none 0 0, .int .i64 0]) (v2 : VBlk w3 b2 27 [.slice none 0 0, .slice none 0 0, .int .i64 0]) : Dr w p a0 len cap b2 b3 (.slice none 0 0) (.slice none 0 0) Rg.zero w3 :=
  ⟨hc.1, hb, cur_below hc hB hc.1, ⟨hB.os, hB.tape, hB.output, hB.size, fun k hk _ => hB.block k hk⟩, own_zero _ _ _ _ _, own_zero _ _ _ _ _, v3, v2⟩

set_option maxRecDepth 100000 in
set_option maxHeartbeats 8000000 in
theorem l8Draw_any (w : World) (p : Nat) (a0 : Option Addr) (len cap : Nat) (hc : Cur w p a0 len cap) :
    Calls Try.prog 88 #[.pointer (some ⟨p, 0, none⟩)] w fun e w' => ∃ vN vU r, e = .returned (.agg #[vN, vU, .int .i64 r.A]) ∧ Drawn w p a0 len cap vN vU r w' := by
  have HC : Hid (Cur w p a0 len cap) := hc
  clear hc
  have m1 : Hid True := trivial
  go_enter Try.func88, Try.ntmps88
  go_wp2_with (first | (clear m1; refine wpList_alloc_v rfl 27 rfl _ zeroRg ?_; intro b2 w1 hb2 hw2 hB1 V2; have hz1 := hB1.size) | (refine wpList_alloc_v rfl 27 rfl _ zeroRg ?_; intro b3 w2 hb3 hw3 hB2 V3; have hz2 := hB2.size; replace V2 := vblk_grow V2 hB2) | (refine wpList_store_v rfl 27 _ _ rfl b3 [.slice none 0 0, .slice none 0 0, .int .i64 0] rfl rfl sizeRg V3 rfl (by simp [Value.oneCell']) ?_; intro w3 hO3 X3; replace V2 := vblk_only V2 hO3 (by omega); have D0 : Hid (Dr w p a0 len cap b2 b3 (.slice none 0 0) (.slice none 0 0) Rg.zero w3) := dr_new HC.out ((hB1.trans (hB2.mono hz1)).trans (hO3.2.2 _ (by omega))) ⟨hb2, by omega, by omega⟩ X3 V2) | (go_at_call 73; refine (below_from w3 w3 p a0 len cap 8 (by omega) D0.out.cur (World.grownBy.refl _ _)).mono ?_; rintro e w4 ⟨x, rfl, hx0, hx1, hc4, hg4⟩; have D1 : Hid (Dr w p a0 len cap b2 b3 (.slice none 0 0) (.slice none 0 0) Rg.zero w4) := D0.out.went hc4 hg4; obtain ⟨k0, hk0⟩ : ∃ k : Nat, x = k := ⟨x.toNat, by omega⟩; subst hk0) | (fail))
  clear D0 V2 V3 X3 hB1 hB2 hO3 hb2 hb3 hw2 hw3 hz1 hz2 hc4 hg4
  go_loopw [4] (fun v wr => ∃ (k : Nat) (vN vU : Value) (r : Rg), v = .int .i64 k ∧ k ≤ 7 ∧ Hid (Dr w p a0 len cap b2 b3 vN vU r wr) ∧ Hid (∀ x ∈ r.N, x.size ≤ 2000) ∧ r.N.length + k ≤ 8 ∧ r.U.length + k ≤ 8) (fun v _ => (intOf v).toNat)
  case atStart => exact ⟨k0, _, _, Rg.zero, rfl, by omega, D1, (fun x hx => by simp [Rg.zero] at hx : ∀ x ∈ Rg.zero.N, x.size ≤ 2000), by simp [Rg.zero]; omega, by simp [Rg.zero]; omega⟩
  case round =>
    obtain ⟨k, vN, vU, r, rfl, hk, D, HS, hl1, hl2⟩ := hrel
    by_cases hk0 : 0 < k
    · have hk0' : (0 : Int) < (k : Int) := by omega
      go_wp2_with (first | (go_at_call 86; refine (name_from wr wr p a0 len cap D.out.cur (World.grownBy.refl _ _)).mono ?_; rintro e w5 ⟨s, rfl, hs, hc5, hg5⟩; have D5 := D.out.went hc5 hg5) | (go_at_call 111; refine (l8Join_any r s (by omega) _ _ b3 w.heap.size _ _ ⟨D5.n, D5.u⟩ D5.v3 D5.size (by omega) (by omega)).mono ?_; rintro e w6 ⟨rfl, vN6, vU6, o6, V6, t6⟩; rw [← joinR_A r s] at V6; have D6 : Hid (Dr w p a0 len cap b2 b3 vN6 vU6 (joinR r s) w6) := D5.tn o6 V6 t6; have hj := joinR_sm HS.out (s := s) (by omega)) | (fail))
      go_roundw
      case rel => exact ⟨k - 1, vN6, vU6, joinR r s, by simp; omega, by omega, D6, hj.1, by omega, by omega⟩
      case measure => simp [intOf]; omega
    · have hk0' : ¬ (0 : Int) < (k : Int) := by omega
      obtain ⟨N, U, A⟩ := r
      dsimp only at hl1 hl2
      obtain ⟨aN, nN, kN, rfl⟩ := D.out.n.slice
      obtain ⟨aU, nU, kU, rfl⟩ := D.out.u.slice
      have hnN : Hid (nN = N.length) := D.out.n.rd.cap.1
      have hnU : Hid (nU = U.length) := D.out.u.rd.cap.1
      have hlN : nN ≤ 8 := by have := hnN.out; omega
      have hlU : nU ≤ 8 := by have := hnU.out; omega
      obtain ⟨c0, c1, c2⟩ := cells3 D.out.v3
      go_wp2
      clear c0 c1 c2
      go_loopw [5] (fun v wr => ∃ (i : Nat) (U' : List Bool), v = .int .i64 i ∧ i ≤ nU ∧ Hid (U'.length = nU) ∧ Hid (Dr w p a0 len cap b2 b3 (.slice aN nN kN) (.slice aU nU kU) ⟨N, U', A⟩ wr)) (fun v _ => nU - (intOf v).toNat)
      case atStart => exact ⟨0, U, rfl, by omega, by unfold Hid; exact hnU.out.symm, D⟩
      case round =>
        obtain ⟨i, U', rfl, hi1, HL, D2⟩ := hrel
        obtain ⟨c0, c1, c2⟩ := cells3 D2.out.v3
        by_cases hlt : i < nU
        · have hlt' : (i : Int) < (nU : Int) := by omega
          have hiU : i < U'.length := by have := HL.out; omega
          obtain ⟨g, rfl, hg, -, -⟩ := ownB_cell D2.out.u i hiU
          go_wp2
          have S1 : wr.drew.cell? ⟨b3, 1, none⟩ = some (.slice (some ⟨g, 0, none⟩) nU kU) := c1
          go_region_held3 (fun w' => w'.cell? ⟨b3, 1, none⟩ = some (.slice (some ⟨g, 0, none⟩) nU kU)) (first | assumption | exact S1 | exact cell_keep hgb S5) (first | (go_at_call 87; refine (once_from wr.drew wr.drew p a0 len cap 2 (by omega) (cur_d D2.out.cur) (World.grownBy.refl _ _)).mono ?_; rintro e w5 ⟨x, rfl, hc5, hg5⟩; have D5 := D2.out.went hc5 (gb_d hg5); obtain ⟨-, S5, -⟩ := cells3 D5.v3; obtain ⟨g', e', hg5', d5, f5⟩ := ownB_cell D5.u i hiU; cases e'; have hgb : b3 ≠ g := ne_of_types D5.v3 D5.u (show 1 ≤ U'.length by omega)) | (fail))
          go_wp2
          go_roundw
          case rel => exact ⟨i + 1, U'.set i x, by go_num, by omega, by unfold Hid; rw [List.length_set]; exact HL.out, D5.setU i hiU x⟩
          case measure => simp [intOf]; omega
        · have hlt' : ¬ (i : Int) < (nU : Int) := by omega
          go_upto_if 35 with (fail)
          go_cut [] from 34 to 39 (fun wc => ∃ A', Hid (Dr w p a0 len cap b2 b3 (.slice aN nN kN) (.slice aU nU kU) ⟨N, U', A'⟩ wc))
          case first =>
            by_cases hn0 : 0 < nN
            · have hn0' : (0 : Int) < (nN : Int) := by omega
              have D2v := D2.out.v3
              go_wp2_with (first | (go_at_call 73; refine (below_from wr wr p a0 len cap (nN : Int) (by omega) D2.out.cur (World.grownBy.refl _ _)).mono ?_; rintro e w5 ⟨x, rfl, hx0, hx1, hc5, hg5⟩; have D5 := D2.out.went hc5 hg5; have v35 := D5.v3) | (refine wpList_store_n rfl _ _ rfl b3 2 x rfl rfl v35 (by simp) ?_; intro w6 hO6 V6) | (fail))
              go_meet
              case rel => exact ⟨x, D5.only (t := 27) hO6 V6⟩
            · have hn0' : ¬ (0 : Int) < (nN : Int) := by omega
              go_wp2
              go_meet
              case rel => exact ⟨A, D2⟩
          case rest =>
            obtain ⟨A', D3⟩ := hcut
            clear D D2 c0 c1 c2
            go_upto_if 41 with (first | (go_at_call 87; refine (once_from wc wc p a0 len cap 10 (by omega) D3.out.cur (World.grownBy.refl _ _)).mono ?_; rintro e w5 ⟨x, rfl, hc5, hg5⟩; have D5 : Hid (Dr w p a0 len cap b2 b3 (.slice aN nN kN) (.slice aU nU kU) ⟨N, U', A'⟩ w5) := D3.out.went hc5 hg5) | (fail))
            clear D3
            have HSm : Hid (Sm ⟨N, U', A'⟩) := ⟨by show N.length ≤ 30; omega, by show U'.length ≤ 31; have := HL.out; omega, HS.out⟩
            cases x with
            | false =>
              obtain ⟨c0, c1, c2⟩ := cells3 D5.out.v3
              have v2 := D5.out.v2
              go_wp2_with (first | (refine wpList_store_v rfl 27 _ _ rfl b2 [.slice aN nN kN, .slice aU nU kU, .int .i64 A'] rfl rfl sizeRg D5.out.v2 rfl (by simp [Value.oneCell']) ?_; intro w9 hO9 V9) | (fail))
              exact row_retv rfl rfl V9 Try.underlying27 sizeRg rfl ⟨_, _, ⟨N, U', A'⟩, rfl, dr_end D5.out hO9 HSm.out⟩
            | true =>
              go_upto_region 15 with (first | (go_at_call 73; refine (below_from w5 w5 p a0 len cap 4 (by omega) D5.out.cur (World.grownBy.refl _ _)).mono ?_; rintro e w6 ⟨y, rfl, hy0, hy1, hc6, hg6⟩; have D6 : Hid (Dr w p a0 len cap b2 b3 (.slice aN nN kN) (.slice aU nU kU) ⟨N, U', A'⟩ w6) := D5.out.went hc6 hg6) | (fail))
              clear D5
              obtain ⟨c0, c1, c2⟩ := cells3 D6.out.v3
              obtain hy | hy | hy | hy : y = 0 ∨ y = 1 ∨ y = 2 ∨ y = 3 := by omega
              · subst hy
                go_wp2_with (first | (go_at_call 56; refine (from_from w6 w6 p a0 len cap (-1) 9 (by omega) (by omega) (by omega) D6.out.cur (World.grownBy.refl _ _)).mono ?_; rintro e w7 ⟨z, rfl, hz0, hz1, hc7, hg7⟩; have D7 := D6.out.went hc7 hg7; have v37 := D7.v3) | (refine wpList_store_n rfl _ _ rfl b3 2 z rfl rfl v37 (by simp) ?_; intro w8 hO8 V8; have D8 := D7.only (t := 27) hO8 V8; clear c0 c1 c2; obtain ⟨c0, c1, c2⟩ := cells3 V8; have v28 := D8.v2) | (refine wpList_store_v rfl 27 _ _ rfl b2 [.slice aN nN kN, .slice aU nU kU, .int .i64 z] rfl rfl sizeRg v28 rfl (by simp [Value.oneCell']) ?_; intro w9 hO9 V9) | (fail))
                exact row_retv rfl rfl V9 Try.underlying27 sizeRg rfl ⟨_, _, ⟨N, U', z⟩, rfl, dr_end D8 hO9 ⟨HSm.out.n, HSm.out.u, HSm.out.s⟩⟩
              · subst hy
                have hU1 : U'.length ≤ 20 := by have := HL.out; omega
                have hN1 : N.length ≤ 20 := by omega
                have hb3l := D6.out.v3.lt
                have hne0 := World.new_ne w6 ⟨b3, 0, none⟩ c0
                go_upto_region 18 with (fail)
                go_cut [] from 51 to 60 (fun wc => ∃ (a7 : Option Addr) (n7 k7 : Nat) (s : ByteArray), s.size ≤ 1 ∧ Hid (Dr w p a0 len cap b2 b3 (.slice a7 n7 k7) (.slice aU nU kU) ⟨N ++ [s], U', A'⟩ wc))
                case first =>
                  go_region_law (first | (refine step_append_g infoS rfl _ _ 24 rfl Try.underlying24 w.heap.size _ _ N rfl (n7.grow (bA w7 _)) (by have := D7.size; simp; omega) _ [s] rfl (rd_new (E := encS) w7 s #[.string s] rfl) (by simp; omega) ?_; intro v8 w8 n8 hT8; have DX := Dr.at hT8 (D7.grow (bA w7 _)); have V8 := hT8.vblk DX.v3 (by decide); obtain ⟨q0, q1, q2⟩ := cells3 V8; have f8 := V8.frozen 0; obtain ⟨a8, l8, k8, rfl⟩ := n8.slice) | (refine step_append_g infoS rfl _ _ 24 rfl Try.underlying24 w.heap.size _ _ N rfl ((n7.grow (bA w7 _)).grow (bA _ _)) (by have := D7.size; simp; omega) _ [s] rfl (rd_new2 (E := encS) w7 _ s #[.string s] rfl) (by simp; omega) ?_; intro v8 w8 n8 hT8; have DX := Dr.at hT8 ((D7.grow (bA w7 _)).grow (bA _ _)); have V8 := hT8.vblk DX.v3 (by decide); obtain ⟨q0, q1, q2⟩ := cells3 V8; have f8 := V8.frozen 0; obtain ⟨a8, l8, k8, rfl⟩ := n8.slice) | (go_simp; go_at_call 73; refine (below_from _ _ p a0 len cap 3 (by omega) (by first | with_reducible exact cur_d D6.out.cur | with_reducible exact cur_ad D6.out.cur) (World.grownBy.refl _ _)).mono ?_; rintro e w7 ⟨x, rfl, hx0, hx1, hc7, hg7⟩; have hg7' : w6.grownBy w7 (some p) := (by first | with_reducible exact gb_d hg7 | with_reducible exact gb_ad hg7); have D7 := D6.out.went hc7 hg7'; have n7 : Own encS w7 w.heap.size w7.heap.size (.slice aN nN kN) N := D7.n; obtain ⟨k, hk⟩ : ∃ k : Nat, x = k := ⟨x.toNat, by omega⟩; subst hk; obtain ⟨s, hs, hlit⟩ := odd3_get k (by omega); have hlit2 := hlit w7; (try have hlit1 := gb_lit hg7 (Nat.lt_of_lt_of_le D6.out.hp D6.out.size) (hlit w6)); clear hlit; obtain ⟨e0, e1, e2⟩ := cells3 D7.v3; have hne1 := World.new_ne w7 ⟨b3, 0, none⟩ e0; have hb7 := D7.v3.lt; have hne2 : b3 ≠ w7.heap.size + 1 := (by omega); clear hg7 hg7' hc7; dsimp only) | (fail))
                  all_goals
                    go_wp2_with fail
                    go_meet
                    case rel => exact ⟨a8, l8, k8, s, hs, DX.names hT8 n8 (only_set w8 b3 0 _) (V8.set 0 (.slice a8 l8 k8))⟩
                case rest =>
                  obtain ⟨a7, n7, k7, s, hs, D7⟩ := hcut
                  clear c0 c1 c2
                  obtain ⟨c0, c1, c2⟩ := cells3 D7.out.v3
                  clear D6
                  go_wp2_with (first | (at_builtin; refine wpList_append_g infoB rfl _ _ 25 rfl Try.underlying25 w.heap.size _ _ U' rfl (D7.out.u.grow ((Below.refl _ _).alloc (Nat.le_refl _) _)) (by have := D7.out.size; simp; omega) _ [false] rfl (rd_new (E := encB) wc false #[.bool false] rfl) (by simp; omega) ?_; intro v8 w8 u8 hT8; have hBa : Below wc.heap.size wc (wc.alloc (.cells #[.bool false] 4)) := (Below.refl _ _).alloc (Nat.le_refl _) _; have Da := D7.out.grow hBa; have V8 := hT8.vblk Da.v3 (by decide); obtain ⟨a8, n8, k8, rfl⟩ := u8.slice) | (refine wpList_store_bs rfl _ _ rfl b3 1 a8 n8 k8 rfl rfl V8 (by simp) ?_; intro w9 hO9 V9; have D9 := Da.flags hT8 u8 hO9 V9; clear c0 c1 c2; obtain ⟨c0, c1, c2⟩ := cells3 V9; have v29 := D9.v2) | (refine wpList_store_v rfl 27 _ _ rfl b2 [.slice a7 n7 k7, .slice a8 n8 k8, .int .i64 A'] rfl rfl sizeRg v29 rfl (by simp [Value.oneCell']) ?_; intro wX hOX VX) | (fail))
                  exact row_retv rfl rfl VX Try.underlying27 sizeRg rfl ⟨_, _, ⟨N ++ [s], U' ++ [false], A'⟩, rfl, dr_end D9 hOX ⟨by show (N ++ [s]).length ≤ 30; simp; omega, by show (U' ++ [false]).length ≤ 31; simp; omega, sm_app HS.out (by omega)⟩⟩
              · subst hy
                have hU1 : U'.length ≤ 20 := by have := HL.out; omega
                go_wp2_with (first | (at_builtin; refine wpList_append_g infoB rfl _ _ 25 rfl Try.underlying25 w.heap.size _ _ U' rfl (D6.out.u.grow ((Below.refl _ _).alloc (Nat.le_refl _) _)) (by have := D6.out.size; simp; omega) _ [true] rfl (rd_new (E := encB) w6 true #[.bool true] rfl) (by simp; omega) ?_; intro v7 w7 u7 hT7; have hBa : Below w6.heap.size w6 (w6.alloc (.cells #[.bool true] 4)) := (Below.refl _ _).alloc (Nat.le_refl _) _; have Da := D6.out.grow hBa; have V7 := hT7.vblk Da.v3 (by decide); obtain ⟨a7, n7, k7, rfl⟩ := u7.slice) | (refine wpList_store_bs rfl _ _ rfl b3 1 a7 n7 k7 rfl rfl V7 (by simp) ?_; intro w8 hO8 V8; have D8 := Da.flags hT7 u7 hO8 V8; clear c0 c1 c2; obtain ⟨c0, c1, c2⟩ := cells3 V8; have v28 := D8.v2) | (refine wpList_store_v rfl 27 _ _ rfl b2 [.slice aN nN kN, .slice a7 n7 k7, .int .i64 A'] rfl rfl sizeRg v28 rfl (by simp [Value.oneCell']) ?_; intro w9 hO9 V9) | (fail))
                exact row_retv rfl rfl V9 Try.underlying27 sizeRg rfl ⟨_, _, ⟨N, U' ++ [true], A'⟩, rfl, dr_end D8 hO9 ⟨HSm.out.n, by show (U' ++ [true]).length ≤ 31; simp; omega, HSm.out.s⟩⟩
              · subst hy
                have v36 := D6.out.v3
                go_wp2_with (first | (refine wpList_store_v rfl 27 _ _ rfl b3 [.slice none 0 0, .slice none 0 0, .int .i64 0] rfl rfl sizeRg v36 rfl (by simp [Value.oneCell']) ?_; intro w8 hO8 V8; have D8 : Hid (Dr w p a0 len cap b2 b3 (.slice none 0 0) (.slice none 0 0) Rg.zero w8) := D6.out.zero hO8 V8) | (fail))
                clear D6 HSm D1 c0 c1 c2 v36
                go_loopw [7] (fun v wr => ∃ (i : Nat) (vN vU : Value) (N3 : List ByteArray) (U3 : List Bool), v = .int .i64 i ∧ i ≤ 21 ∧ N3.length ≤ i ∧ U3.length ≤ i ∧ Hid (∀ x ∈ N3, x.size ≤ 2000) ∧ Hid (Dr w p a0 len cap b2 b3 vN vU ⟨N3, U3, 0⟩ wr)) (fun v _ => 21 - (intOf v).toNat)
                case atStart => exact ⟨0, _, _, [], [], rfl, by omega, Nat.le_refl _, Nat.le_refl _, (fun x hx => by simp at hx : ∀ x ∈ ([] : List ByteArray), x.size ≤ 2000), D8⟩
                case round =>
                  obtain ⟨j, vN3, vU3, N3, U3, rfl, hj, hN3, hU3, HS3, D3⟩ := hrel
                  obtain ⟨aN3, nN3, kN3, rfl⟩ := D3.out.n.slice
                  obtain ⟨aU3, nU3, kU3, rfl⟩ := D3.out.u.slice
                  go_upto_if 80 with (first | (go_at_call 73; refine (below_from wr wr p a0 len cap 2 (by omega) D3.out.cur (World.grownBy.refl _ _)).mono ?_; rintro e w9 ⟨x, rfl, hx0, hx1, hc9, hg9⟩; have D9 : Hid (Dr w p a0 len cap b2 b3 (.slice aN3 nN3 kN3) (.slice aU3 nU3 kU3) ⟨N3, U3, 0⟩ w9) := D3.out.went hc9 hg9) | (fail))
                  clear D3
                  obtain ⟨c0, c1, c2⟩ := cells3 D9.out.v3
                  by_cases hlt : (j : Int) < 20 + x
                  · have hj2 : j ≤ 20 := by omega
                    have hne0 := World.new_ne w9 ⟨b3, 0, none⟩ c0
                    go_upto_region 27 with (fail)
                    go_cut [] from 76 to 90 (fun wc => ∃ (a7 : Option Addr) (n7 k7 : Nat) (s : ByteArray), s.size ≤ 1900 ∧ Hid (Dr w p a0 len cap b2 b3 (.slice a7 n7 k7) (.slice aU3 nU3 kU3) ⟨N3 ++ [s], U3, 0⟩ wc))
                    case first =>
                      go_region_law (first | (refine step_append_g infoS rfl _ _ 24 rfl Try.underlying24 w.heap.size _ _ N3 rfl (nX.grow (bA wX _)) (by have := DX0.size; simp; omega) _ [⟨#[110]⟩ ++ s] rfl (rd_new (E := encS) wX (⟨#[110]⟩ ++ s) #[.string (⟨#[110]⟩ ++ s)] rfl) (by simp; omega) ?_; intro v8 w10 n8 hT8; have DX := Dr.at hT8 (DX0.grow (bA wX _)); have V8 := hT8.vblk DX.v3 (by decide); obtain ⟨q0, q1, q2⟩ := cells3 V8; have f8 := V8.frozen 0; obtain ⟨a8, l8, k8, rfl⟩ := n8.slice) | (go_simp; go_at_call 125; refine (l1Int_any j (by omega) w9.drew).mono ?_; rintro e wX ⟨s, rfl, hs, hBX⟩; have DX0 := (D9.out.grow (Below.refl _ _).drew).grow hBX; have nX : Own encS wX w.heap.size wX.heap.size (.slice aN3 nN3 kN3) N3 := DX0.n; obtain ⟨e0, e1, e2⟩ := cells3 DX0.v3; have hne1 := World.new_ne wX ⟨b3, 0, none⟩ e0; have hns : ((⟨#[110]⟩ : ByteArray) ++ s).size ≤ 1900 := (by rw [ByteArray.size_append]; have : (⟨#[110]⟩ : ByteArray).size = 1 := rfl; omega); have hcat : ¬ (9223372036854775807 < 1 + s.size) := (by omega); obtain ⟨eA0, -, -⟩ := cells3 (vblk_grow DX0.v3 (bA wX (.cells #[.string (⟨#[110]⟩ ++ s)] 9))); dsimp only) | (fail))
                      all_goals
                        go_wp2_with fail
                        go_meet
                        case rel => exact ⟨a8, l8, k8, _, hns, DX.names hT8 n8 (only_set w10 b3 0 _) (V8.set 0 (.slice a8 l8 k8))⟩
                    case rest =>
                      obtain ⟨a7, n7, k7, s, hs, D7⟩ := hcut
                      clear c0 c1 c2
                      obtain ⟨c0, c1, c2⟩ := cells3 D7.out.v3
                      clear D9
                      obtain ⟨x2, hx2⟩ := hid_ex (((j : Int) % 2) == 0)
                      have hx3 : (((j : Int) % 2) == 0) = x2 := hx2.out
                      go_wp2_with (first | (at_builtin; refine wpList_append_g infoB rfl _ _ 25 rfl Try.underlying25 w.heap.size _ _ U3 rfl (D7.out.u.grow ((Below.refl _ _).alloc (Nat.le_refl _) _)) (by have := D7.out.size; simp; omega) _ [x2] rfl (rd_new (E := encB) wc x2 #[.bool x2] rfl) (by simp; omega) ?_; intro v8 w10 u8 hT8; have hBa : Below wc.heap.size wc (wc.alloc (.cells #[.bool x2] 4)) := (Below.refl _ _).alloc (Nat.le_refl _) _; have Da := D7.out.grow hBa; have V8 := hT8.vblk Da.v3 (by decide); obtain ⟨a8, n8, k8, rfl⟩ := u8.slice) | (refine wpList_store_bs rfl _ _ rfl b3 1 a8 n8 k8 rfl rfl V8 (by simp) ?_; intro w11 hO9 V9; have D9 := Da.flags hT8 u8 hO9 V9) | (fail))
                      go_roundw
                      case rel => exact ⟨j + 1, _, _, N3 ++ [s], U3 ++ [x2], by go_num, by omega, by simp; omega, by simp; omega, sm_app HS3.out (by omega), D9⟩
                      case measure => simp [intOf]; omega
                  · have v29 := D9.out.v2
                    go_wp2_with (first | (refine wpList_store_v rfl 27 _ _ rfl b2 [.slice aN3 nN3 kN3, .slice aU3 nU3 kU3, .int .i64 0] rfl rfl sizeRg v29 rfl (by simp [Value.oneCell']) ?_; intro wX hOX VX) | (fail))
                    exact row_retv rfl rfl VX Try.underlying27 sizeRg rfl ⟨_, _, ⟨N3, U3, 0⟩, rfl, dr_end D9.out hOX ⟨by show N3.length ≤ 30; omega, by show U3.length ≤ 31; omega, HS3.out⟩⟩
end Go.Proofs.Ytmnjmghlkiljhaa.rg
/- By hand through a region that draws its order: one operation taken first, wanted or passed over. -/
namespace Go.Proofs.Ytmnjmghlkiljhaa.ce
open Go.RowKit
set_option linter.unusedVariables false
variable {P : Program} {ops : Array Oper} {Q : Exit → Act → World → Prop} {md : Region.Mode} {S : World → Prop}

/-- an operation that is wanted and yields v in every world that meets S -/
theorem takeW (i d : Nat) (v : Value) {op : Op} {ty : TypeId} {pos : String} {after : Array Edge} {g : Option (Nat × Bool)} {tmps : Array Value} {defers : List Deferred} {fuel : Nat} {listed : Array Bool} {w : World}
    (hi : ops[i]? = some ⟨some d, op, ty, pos, after, g⟩) (hs : Region.noSelect ops = true) (hf : Region.free md ops listed i = true) (hr : (Region.ready md ops listed).contains i = true)
    (hQ : ∀ c a w, Q (.panic c) (Act.put a (some d) v) w → Q (.panic c) a w)
    (hw : Region.wanted ⟨some d, op, ty, pos, after, g⟩ (yielded ops tmps) = true) (hy : ∀ w, S w → (execOp (Act.eval ⟨tmps, defers⟩) ⟨some d, op, ty, pos, after, g⟩).run P w = .ok (.value v) w) (hS : S w)
    (h : wpAnyH P md ops Q S fuel (listed.setIfInBounds i true) ⟨tmps.setIfInBounds d v, defers⟩ w) : wpAnyH P md ops Q S (fuel + 1) listed ⟨tmps, defers⟩ w :=
  wpAnyH_take (oi := ⟨some d, op, ty, pos, after, g⟩) (v := v) hi hs hf hr hQ (Or.inl ⟨hw, hy⟩) hS h
/-- an operation that is passed over -/
theorem takeU (i d : Nat) {op : Op} {ty : TypeId} {pos : String} {after : Array Edge} {g : Option (Nat × Bool)} {tmps : Array Value} {defers : List Deferred} {fuel : Nat} {listed : Array Bool} {w : World}
    (hi : ops[i]? = some ⟨some d, op, ty, pos, after, g⟩) (hs : Region.noSelect ops = true) (hf : Region.free md ops listed i = true) (hr : (Region.ready md ops listed).contains i = true)
    (hQ : ∀ c a w, Q (.panic c) (Act.put a (some d) undef) w → Q (.panic c) a w)
    (hw : Region.wanted ⟨some d, op, ty, pos, after, g⟩ (yielded ops tmps) = false) (hS : S w)
    (h : wpAnyH P md ops Q S fuel (listed.setIfInBounds i true) ⟨tmps.setIfInBounds d undef, defers⟩ w) : wpAnyH P md ops Q S (fuel + 1) listed ⟨tmps, defers⟩ w :=
  wpAnyH_take (oi := ⟨some d, op, ty, pos, after, g⟩) (v := undef) hi hs hf hr hQ (Or.inr ⟨hw, rfl⟩) hS h
end Go.Proofs.Ytmnjmghlkiljhaa.ce
/- By hand through a region that draws its order: a struct's variable is laid, a struct is stored. -/
namespace Go.Proofs.Ytmnjmghlkiljhaa.ce
open Go.ChangeShapes Go.WideShapes Go.ChangeAt Go.RowKit
set_option linter.unusedVariables false
variable {P : Program} {ops : Array Oper} {o : Oper} {a : Act} {w : World} {Q : Exit → Act → World → Prop} {K : Act → World → Prop} {E : Prop}

theorem step_alloc_v (hgd : o.guard = none) (t : TypeId) (ho : o.op = .alloc t) (vs : List Value) (hz : ∀ w, (zeroValue t).run P w = .ok (.agg vs.toArray) w)
    (h : ∀ (b : Nat) (w' : World), w.heap.size ≤ b → b < w'.heap.size → Below w.heap.size w w' → VBlk w' b t vs → K (a.put o.dst (.pointer (some ⟨b, 0, none⟩))) w') : if Region.wanted o (yielded ops a.tmps) = true then Oper.wp P o a w K Q else E := by
  refine step_val hgd (v := .pointer (some ⟨w.heap.size, 0, none⟩)) (w' := w.alloc (.cells vs.toArray t)) ?_ (h _ _ (Nat.le_refl _) (by simp) ((Below.refl _ _).alloc (Nat.le_refl _) _) (heap_alloc_new _ _))
  unfold execOp
  simp only [ho, Instr.alloc, Sem.run_bind, hz, Result.andThen_ok]
  rfl
theorem step_store_v (hgd : o.guard = none) (t : TypeId) (x y : Operand) (ho : o.op = .store t x y) (b : Nat) (ys : List Value) (hx : a.eval x = .pointer (some ⟨b, 0, none⟩)) (hy : a.eval y = .agg ys.toArray)
    (hi : (P.info? t).map (·.size) = some ys.length) {t' : TypeId} {vs : List Value} (hb : VBlk w b t' vs) (hn : ys.length = vs.length) (h1 : ∀ v ∈ ys, v.oneCell' = true)
    (h : ∀ w', Only b w w' → VBlk w' b t' ys → K (a.put o.dst undef) w') : if Region.wanted o (yielded ops a.tmps) = true then Oper.wp P o a w K Q else E := by
  have hw : Region.wanted o (yielded ops a.tmps) = true := by simp [Region.wanted, hgd]
  rw [if_pos hw]
  refine wp_store_mid t x y ho b 0 ys.toArray hx hy ?_ (by rw [hi]; simp) (all_oneCell_toArray h1) ?_
  · rw [List.size_toArray, hn]; exact hb.there
  · refine h _ (only_setCells _ _ _ _) ?_
    unfold VBlk
    rw [heap_setCells b t' _ 0 w vs hb (by simp [hn])]
    simp [hn]
/-- an operation that comes up, its parts by name -/
theorem consM {md : Region.Mode} {S : World → Prop} {fuel : Nat} {listed : Array Bool} {tmps : Array Value} {defers : List Deferred} {i : Nat} {dst : Option Tmp} {op : Op} {ty : TypeId} {pos : String} {after : Array Edge} {g : Option (Nat × Bool)} {rs : List Nat} (ho : ops[i]? = some ⟨dst, op, ty, pos, after, g⟩)
    (h : ∀ K' : Act → World → Prop, Shut (∀ a w, S w → (S w → wpAnyH P md ops Q S fuel (listed.setIfInBounds i true) a w) → K' a w) → if Region.wanted ⟨dst, op, ty, pos, after, g⟩ (yielded ops tmps) = true then Oper.wp P ⟨dst, op, ty, pos, after, g⟩ ⟨tmps, defers⟩ w K' Q else K' (Act.put ⟨tmps, defers⟩ dst undef) w)
    (hs : AllReadyH P md ops Q S fuel listed ⟨tmps, defers⟩ w rs) : AllReadyH P md ops Q S fuel listed ⟨tmps, defers⟩ w (i :: rs) := AllReadyH.cons ho h hs
end Go.Proofs.Ytmnjmghlkiljhaa.ce
