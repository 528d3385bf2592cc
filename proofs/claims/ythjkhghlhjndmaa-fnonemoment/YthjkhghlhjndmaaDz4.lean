/- What the laws of chapter 6 draw: a crew and picks. -/
import Derived.Test.YthjkhghlhjndmaaMg32
import Derived.Test.YthjkhghlhjndmaaMg14
namespace Go.Proofs.Ythjkhghlhjndmaa.draw
open Go.ChangeShapes Go.WideShapes Go.ChangeAt Go.RowKit
open Go.Proofs.Ythjkhghlhjndmaa.ce
set_option linter.unusedVariables false

theorem OwnI.type {w : World} {lo hi : Nat} {v : Value} {xs : List Int} (o : OwnI w lo hi v xs) (q : Nat) (hq : v.ownBlock = some q) : (∃ cur, w.heap[q]? = some (.cells cur 2 (0, 0))) ∧ lo ≤ q ∧ q < w.heap.size := by
  rcases o.row.2 with ⟨rfl, -⟩ | ⟨g', cap, cur, rfl, hg', hb, h⟩
  · cases hq
  · cases hq; exact ⟨⟨cur, hb⟩, hg', (Array.getElem?_eq_some_iff.1 hb).1⟩
/-- one number more, and what is turned -/
theorem wpList_append_ig {o : Oper} {a : Act} {w : World} {ops : Array Oper} {rest : List Oper} {Q : Exit → Act → World → Prop} (hgd : o.guard = none) (s x : Operand) (t : TypeId) (ho : o.op = .call { callee := .builtin .append, args := #[s, x], argTypes := #[t, t] }) (ht : Try.prog.underlying t = some (.slice 2))
    (lo hi : Nat) (v : Value) (xs : List Int) (hs : a.eval s = v) (hown : OwnI w lo hi v xs) (hlo : lo ≤ w.heap.size) (b off m c : Nat) (ys : List Int) (hx : a.eval x = .slice (some ⟨b, off, none⟩) m c) (hm : ys.length = m) (hr : w.rangeAt b off (ivs ys)) (hlen : xs.length + m ≤ 1048576)
    (h : ∀ v' w', OwnI w' lo w'.heap.size v' (xs ++ ys) → w.grownBy w' v.ownBlock → wpList Try.prog ops Q rest (a.put o.dst v') w') : wpList Try.prog ops Q (o :: rest) a w := by
  obtain ⟨i0, hi0, hz0, hz1, hz2⟩ := infoI
  subst hm
  refine wpList_append_own _ hgd s x t ho lo 2 i0 _ 1 8 ht hi0 hz0 hz1 hz2 rfl (by decide) v xs.length (ivs xs) hs hown.row ⟨b, off, none⟩ ys.length c (ivs ys) hx (by rw [ivs_len, Nat.mul_one]) (fun j u hj => by rw [Addr.add_mid]; exact hr j u hj) (ivs_one ys) (by unfold maxLen; omega) (by omega) hlo ?_
  intro v' w' h2 h3 h4
  rw [← ivs_append] at h2
  exact h v' w' ⟨by rw [List.length_append]; exact h2, fun g hg => (h2.lt g hg).2⟩ h3
/-- a crew in its variable, and numbers in a row of their own -/
structure Rn (w0 w : World) (b p : Nat) (a0 : Option Addr) (len cap : Nat) (vH : Value) (H : List C) (vD : Value) (ds : List Hd) (vQ : Value) (qs : List Int) : Prop where
  cn : Cn w0 w b p a0 len cap vH H vD ds
  picks : OwnI w w0.heap.size w.heap.size vQ qs
theorem Rn.drawn {w0 w w' : World} {b p : Nat} {a0 : Option Addr} {len cap : Nat} {vH vD vQ : Value} {H : List C} {ds : List Hd} {qs : List Int} (c : Rn w0 w b p a0 len cap vH H vD ds vQ qs) (g : w.grownBy w' (some p)) (hc : Cur w' p a0 len cap) : Rn w0 w' b p a0 len cap vH H vD ds vQ qs := by
  refine ⟨c.cn.drawn g hc, (?_ : OwnI w' w0.heap.size w.heap.size vQ qs).wide (Nat.le_refl _) g.size⟩
  refine ⟨⟨c.picks.row.1, ?_⟩, c.picks.top⟩
  rcases c.picks.row.2 with h | ⟨q, cap, cur, rfl, hq, hb, h⟩
  · exact .inl h
  · exact .inr ⟨q, cap, cur, rfl, hq, by rw [g.block q (Array.getElem?_eq_some_iff.1 hb).1 (fun e => by have := c.cn.pw; cases e; omega)]; exact hb, h⟩
theorem Rn.below {w0 w w' : World} {b p : Nat} {a0 : Option Addr} {len cap : Nat} {vH vD vQ : Value} {H : List C} {ds : List Hd} {qs : List Int} (c : Rn w0 w b p a0 len cap vH H vD ds vQ qs) (hB : Below w.heap.size w w') : Rn w0 w' b p a0 len cap vH H vD ds vQ qs :=
  ⟨c.cn.below hB, (c.picks.below hB (Nat.le_refl _)).wide (Nat.le_refl _) hB.size⟩
theorem other_type {w : World} {k q : Nat} {c1 c2 : Array Value} {t u : TypeId} (h1 : w.heap[k]? = some (.cells c1 t (0, 0))) (h2 : w.heap[q]? = some (.cells c2 u (0, 0))) (h : t ≠ u) : k ≠ q := by
  rintro rfl
  rw [h1] at h2
  simp only [Option.some.injEq, Obj.cells.injEq] at h2
  exact h h2.2.1
theorem Rn.grown {w0 w w' : World} {b p : Nat} {a0 : Option Addr} {len cap : Nat} {vH vD vQ vQ' : Value} {H : List C} {ds : List Hd} {qs qs' : List Int} (c : Rn w0 w b p a0 len cap vH H vD ds vQ qs) (g : w.grownBy w' vQ.ownBlock) (ho : OwnI w' w0.heap.size w'.heap.size vQ' qs') : Rn w0 w' b p a0 len cap vH H vD ds vQ' qs' := by
  have hB0 : Below w0.heap.size w w' := below_grown g c.cn.z (fun k hk => (OwnI.type c.picks k hk).2.1)
  have hne : ∀ k (c1 : Array Value) (t : TypeId), w.heap[k]? = some (.cells c1 t (0, 0)) → t ≠ 2 → some k ≠ vQ.ownBlock := fun k c1 t h1 ht e => by
    obtain ⟨⟨cur, h2⟩, -⟩ := OwnI.type c.picks k e.symm
    exact other_type h1 h2 ht rfl
  have crew' : VBlk w' b 31 [vH, vD] := c.cn.crew.of (g.block b c.cn.crew.lt (fun e => hne b _ _ c.cn.crew (by decide) e))
  have heap' : ce.Own w' w0.heap.size w'.heap.size vH H := (own_keepB c.cn.heap fun k hk => by
    obtain ⟨cur, h1⟩ := own_type c.cn.heap k hk
    exact g.block k (own_lo c.cn.heap k hk).2.2 (hne k _ _ h1 (by decide))).wide (Nat.le_refl _) g.size
  have hands' : OwnH w' w0.heap.size w'.heap.size vD ds := (c.cn.hands.keepB fun k hk => by
    obtain ⟨cur, h1⟩ := ownH_type c.cn.hands k hk
    exact g.block k (c.cn.hands.lo k hk).2.2 (hne k _ _ h1 (by decide))).wide (Nat.le_refl _) g.size
  exact ⟨⟨crew', heap', hands', c.cn.hb, c.cn.db, c.cn.hd, c.cn.blo, cur_below c.cn.cur hB0 c.cn.pw, gb_below c.cn.gb hB0 (Nat.le_refl _), c.cn.pw⟩, ho⟩
theorem made {w : World} {lo b n : Nat} (h : ∃ X, w.ownsRow lo 2 1 (.slice (some ⟨b, 0, none⟩) n n) n X ∧ ∃ xs, X = ivs xs) : ∃ xs, OwnI w lo w.heap.size (.slice (some ⟨b, 0, none⟩) n n) xs ∧ xs.length = n := by
  obtain ⟨X, h1, xs, rfl⟩ := h
  have hl : xs.length = n := by have := h1.1; rw [ivs_len] at this; omega
  exact ⟨xs, ⟨by rw [hl]; exact h1, fun g hg => (h1.lt g hg).2⟩, hl⟩
/-- a crew and picks have been drawn -/
structure Dr6 (w w' : World) (vH : Value) (H : List C) (vD : Value) (ds : List Hd) (vQ : Value) (qs : List Int) : Prop where
  heap : ce.Own w' w.heap.size w'.heap.size vH H
  hands : OwnH w' w.heap.size w'.heap.size vD ds
  picks : OwnI w' w.heap.size w'.heap.size vQ qs
  hl : ds.length ≤ 8
  ql : qs.length ≤ 301
  bel : Below w.heap.size w w'

set_option maxRecDepth 100000 in
set_option maxHeartbeats 4000000 in
theorem drawRan_any (w : World) (a0 : Option Addr) (len cap : Nat) (hcode : CodeAt w a0 len) :
    Calls Try.prog 40 #[.slice a0 len cap] w fun er w' => ∃ vH vD vQ, er = .returned (.tuple #[.agg #[vH, vD], vQ]) ∧ ∃ H ds qs, Dr6 w w' vH H vD ds vQ qs := by
  have HC : Hid (CodeAt w a0 len) := hcode
  clear hcode
  have m1 : Hid True := trivial
  go_enter Try.func40, Try.ntmps40
  go_upto_if 13 with (first | (clear m1; refine wpList_alloc_v rfl 31 rfl _ zeroCr ?_; intro b2 w1 hb2 hw1 hB1 hV1; have hz1 := hB1.size) | (go_at_call 64; refine (new_cur _ _ _ _ (code_at HC.out hB1)).mono ?_; rintro er w2 ⟨p, rfl, hp, hc2, hB2⟩; have hz2 := hB2.size; have hpw := hc2.1) | (go_at_call 67; refine (l6New_any _ p a0 len cap hc2).mono ?_; rintro er w3 ⟨vH, vD, rfl, ds, cr3, hl4, hnew⟩; have hz3 := cr3.gb.size; obtain ⟨gH, cH, rfl, hgH1, hgH2, -⟩ := cr3.heap.form (by simp); obtain ⟨va, vc, rfl⟩ := cr3.hands.len) | (refine wpList_alloc_v rfl 31 rfl _ zeroCr ?_; intro b5 w4 hb5 hw4 hB4 hV4; have hz4 := hB4.size) | (refine wpList_store_v rfl 31 _ _ rfl b5 [.slice (some ⟨gH, 0, none⟩) 1 cH, .slice va ds.length vc] rfl rfl sizeCr hV4 rfl (by simp [Value.oneCell']) ?_; intro w5 hO5 hV5; have hz5 := Nat.le_of_eq hO5.1.symm; have hy5 := Nat.le_of_eq hO5.1; have own5 : ce.Own w5 w2.heap.size w5.heap.size (.slice (some ⟨gH, 0, none⟩) 1 cH) [c0] := ((cr3.heap.below hB4 (Nat.le_refl _)).keep fun j j1 j2 => hO5.2.1 j (by omega)).wide (Nat.le_refl _) (by omega); have hands5 : OwnH w5 w2.heap.size w5.heap.size (.slice va ds.length vc) ds := ((cr3.hands.below hB4 (Nat.le_refl _)).keep fun j j1 j2 => hO5.2.1 j (by omega)).wide (Nat.le_refl _) (by omega); have cn5 : Cn w2 w5 b5 p a0 len cap (.slice (some ⟨gH, 0, none⟩) 1 cH) [c0] (.slice va ds.length vc) ds := ⟨hV5, own5, hands5, fun k hk => apart_hb own5 hV5 k hk, fun k hk => apart_db hands5 hV5 k hk, fun k h1 h2 => apart_hd own5 hands5 k h1 h2, by omega, cur_only (cur_below cr3.cur hB4 cr3.cur.1) hO5 (by have := cr3.cur.1; omega), gb_only (gb_below cr3.gb hB4 (by omega)) hO5 (by omega), hpw⟩) | (go_at_call 68; refine (once_from w5 w5 p a0 len cap _ (by omega) cn5.cur (World.grownBy.refl _ _)).mono ?_; rintro er w6 ⟨y6, rfl, hc6, hg6⟩; have cn6 := cn5.drawn hg6 hc6; have hz6 := hg6.size) | (fail))
  have HV1 : Hid (VBlk w2 b2 31 [.slice none 0 0, .slice none 0 0]) := hV1.below hB2 (by omega)
  have HB2 : Hid (Below w.heap.size w w2) := hB1.trans (hB2.mono hz1)
  have hb22 : b2 < w2.heap.size ∧ b2 ≠ p ∧ w.heap.size ≤ b2 ∧ w.heap.size ≤ p := by omega
  clear cr3 hV4 hB4 hO5 hV5 own5 hands5 cn5 hg6 hc6 hnew hV1
  go_cut [5] (fun s5 wc => s5 = .pointer (some ⟨b5, 0, none⟩) ∧ ∃ vH H vD ds, Cn w2 wc b5 p a0 len cap vH H vD ds ∧ ds.length ≤ 8)
  case first =>
    cases y6 with
    | false =>
      go_wp2
      go_meet
      case rel => exact ⟨rfl, _, _, _, _, cn6, by omega⟩
    | true =>
      go_wp2_with (first | (go_at_call 65; refine (l6DrawAny_any w6 p a0 len cap cn6.cur).mono ?_; rintro er w7 ⟨vH7, vD7, rfl, H7, ds7, cr7, hl8⟩; have hz7 := cr7.gb.size; obtain ⟨aH, cH7, rfl⟩ := own_slice cr7.heap; obtain ⟨vb, vd, rfl⟩ := cr7.hands.len; have cn7 := cn6.drawn cr7.gb cr7.cur) | (refine wpList_store_v rfl 31 _ _ rfl b5 [.slice aH H7.length cH7, .slice vb ds7.length vd] rfl rfl sizeCr cn7.crew rfl (by simp [Value.oneCell']) ?_; intro w8 hO8 hV8; have hz8 := Nat.le_of_eq hO8.1.symm; have hy8 := Nat.le_of_eq hO8.1) | (fail))
      have h26 := cn6.z
      have hb6 := cn6.crew.lt
      have own8 : ce.Own w8 w2.heap.size w8.heap.size (.slice aH H7.length cH7) H7 := (cr7.heap.keep fun j j1 j2 => hO8.2.1 j (by omega)).wide (by omega) (by omega)
      have hands8 : OwnH w8 w2.heap.size w8.heap.size (.slice vb ds7.length vd) ds7 := (cr7.hands.keep fun j j1 j2 => hO8.2.1 j (by omega)).wide (by omega) (by omega)
      have cn8 : Cn w2 w8 b5 p a0 len cap (.slice aH H7.length cH7) H7 (.slice vb ds7.length vd) ds7 := ⟨hV8, own8, hands8, fun k hk => apart_hb own8 hV8 k hk, fun k hk => apart_db hands8 hV8 k hk, fun k h1 h2 => apart_hd own8 hands8 k h1 h2, by omega, cur_only cn7.cur hO8 (by omega), gb_only cn7.gb hO8 (by omega), hpw⟩
      go_meet
      case rel => exact ⟨rfl, _, _, _, _, cn8, hl8⟩
  case rest =>
    obtain ⟨rfl, vH, H, vD, ds, cn, hl8⟩ := hcut
    clear cn6
    have rn0 : Rn w2 (wc.alloc (.cells #[] 2)) b5 p a0 len cap vH H vD ds (.slice (some ⟨wc.heap.size, 0, none⟩) 0 0) [] := ⟨cn.below ((Below.refl _ _).alloc (Nat.le_refl _) _), (ownI_empty wc).wide cn.z (by simp)⟩
    go_wp2_with (first | (go_at_call 73; refine (below_from _ _ p a0 len cap _ (by omega) rn0.cn.cur (World.grownBy.refl _ _)).mono ?_; rintro er w7 ⟨x7, rfl, x70, x71, hc7, hg7⟩; have rn7 := rn0.drawn hg7 hc7) | (fail))
    obtain ⟨m0, rfl⟩ : ∃ m : Nat, x7 = m := ⟨x7.toNat, by omega⟩
    clear rn0 hg7 hc7
    go_loopw [6, 7] (fun vQ n wr => ∃ (m : Nat) (qs : List Int), n = .int .i64 m ∧ qs.length + m ≤ 89 ∧ Rn w2 wr b5 p a0 len cap vH H vD ds vQ qs) (fun _ n _ => (intOf n).toNat)
    case atStart => exact ⟨m0, [], rfl, by simp; omega, rn7⟩
    case round =>
      obtain ⟨m, qs, rfl, hm, rn⟩ := hrel
      obtain ⟨aQ, cQ, rfl⟩ := rn.picks.rd.form
      have RN : Hid (Rn w2 wr b5 p a0 len cap vH H vD ds (.slice aQ qs.length cQ) qs) := rn
      clear rn rn7 cn
      by_cases hpos : 0 < m
      · have hpos' : (0 : Int) < m := by omega
        go_wp2_with (first | (go_at_call 73; refine (below_from wr wr p a0 len cap _ (by omega) RN.out.cn.cur (World.grownBy.refl _ _)).mono ?_; rintro er w8 ⟨x8, rfl, x80, x81, hc8, hg8⟩; have rn8 := RN.out.drawn hg8 hc8) | (at_builtin; have rn9 := rn8.below ((Below.refl _ _).alloc (Nat.le_refl _) (.cells #[.int .i64 x8] 2)); refine wpList_append_ig rfl _ _ 45 rfl Try.underlying45 w2.heap.size _ _ qs rfl rn9.picks rn9.cn.z w8.heap.size 0 1 1 [x8] rfl rfl (one_range w8 x8) (by omega) ?_; intro v10 w10 ho10 hg10; have rn10 := rn9.grown hg10 ho10) | (fail))
        go_roundw
        case rel => exact ⟨m - 1, qs ++ [x8], by congr 1; omega, by simp; omega, rn10⟩
        case measure => simp [intOf]; omega
      · have hpos' : ¬ ((0 : Int) < m) := by omega
        have hq89 : qs.length ≤ 89 := by omega
        clear hm hpos
        go_upto_if 29 with (first | (go_at_call 68; refine (once_from wr wr p a0 len cap _ (by omega) RN.out.cn.cur (World.grownBy.refl _ _)).mono ?_; rintro er w8 ⟨y8, rfl, hc8, hg8⟩; have rn8 := RN.out.drawn hg8 hc8) | (fail))
        go_cut [6] (fun vQ wc => ∃ qs, Rn w2 wc b5 p a0 len cap vH H vD ds vQ qs ∧ qs.length ≤ 301)
        case first =>
          cases y8 with
          | false =>
            go_wp2
            go_meet
            case rel => exact ⟨qs, rn8, by omega⟩
          | true =>
            go_wp2_with (first | (go_at_call 73; refine (below_from w8 w8 p a0 len cap _ (by omega) rn8.cn.cur (World.grownBy.refl _ _)).mono ?_; rintro er w9 ⟨x9, rfl, x90, x91, hc9, hg9⟩; have rn9 := rn8.drawn hg9 hc9; rcases (by omega : x9 = 0 ∨ x9 = 1) with z | z <;> subst z) | (refine wpList_make_i rfl _ _ 45 rfl Try.underlying45 300 (by omega) rfl rfl ?_; intro gA wA hgA1 hgA2 hBA hRA; obtain ⟨xsA, oA, hlA⟩ := made hRA; have rnA : Rn w2 wA b5 p a0 len cap vH H vD ds _ xsA := ⟨rn9.cn.below hBA, (oA.wide rn9.cn.z (Nat.le_refl _))⟩; have hlA' : xsA.length ≤ 301 := (by omega)) | (refine wpList_make_i rfl _ _ 45 rfl Try.underlying45 301 (by omega) rfl rfl ?_; intro gA wA hgA1 hgA2 hBA hRA; obtain ⟨xsA, oA, hlA⟩ := made hRA; have rnA : Rn w2 wA b5 p a0 len cap vH H vD ds _ xsA := ⟨rn9.cn.below hBA, (oA.wide rn9.cn.z (Nat.le_refl _))⟩; have hlA' : xsA.length ≤ 301 := (by omega)) | (fail))
            all_goals (go_meet)
            all_goals exact ⟨_, rnA, hlA'⟩
        case rest =>
          obtain ⟨qs9, rn9, hq301⟩ := hcut
          obtain ⟨aR, cR, rfl⟩ := rn9.picks.rd.form
          obtain ⟨aH, cH9, rfl⟩ := own_slice rn9.cn.heap
          obtain ⟨vb, vd, rfl⟩ := rn9.cn.hands.len
          have cr0 := rn9.cn.crew.cell 0 (by simp)
          have cr1 := rn9.cn.crew.cell 1 (by simp)
          simp only [List.getElem_cons_zero, List.getElem_cons_succ] at cr0 cr1
          have h29 := rn9.cn.z
          rename World => w9
          go_wp2_with (first | (refine wpList_store_v rfl 31 _ _ rfl b2 [.slice aH H.length cH9, .slice vb ds.length vd] rfl rfl sizeCr (HV1.out.of (rn9.cn.gb.block b2 (by omega) (fun q => by cases q; omega))) rfl (by simp [Value.oneCell']) ?_; intro wA hOA hVA; have hzA := hOA.1) | (fail))
          have hB9 : Below w.heap.size w w9 := Below.grown HB2.out rn9.cn.gb (by omega) (fun k hk => by cases hk; omega)
          exact row_cell_tmp rfl rfl rfl hVA Try.underlying31 sizeCr rfl ⟨_, _, _, rfl, H, ds, qs9, (rn9.cn.heap.keep fun j j1 j2 => hOA.2.1 j (by omega)).wide (by omega) (by omega), (rn9.cn.hands.keep fun j j1 j2 => hOA.2.1 j (by omega)).wide (by omega) (by omega), (rn9.picks.keep fun j j1 j2 => hOA.2.1 j (by omega)).wide (by omega) (by omega), hl8, hq301, hB9.trans (hOA.2.2 _ (by omega))⟩
end Go.Proofs.Ythjkhghlhjndmaa.draw
