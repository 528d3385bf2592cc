/- Contract of l5Put: what a hand that puts does where it comes to act. -/
import Derived.Test.YtedaioljkpfiiaaHd1
import Derived.Test.YtedaioljkpfiiaaCeMath
namespace Go.Proofs.Ytedaioljkpfiiaa.ce
open Go.ChangeShapes Go.WideShapes Go.ChangeAt Go.RowKit
set_option linter.unusedVariables false

set_option maxHeartbeats 1000000 in
theorem l5Put_any (H : List C) (d : Hd) (v : Value) (lo q : Nat) (w : World) (mo : Mo w lo q v H d) :
    Calls Try.prog 59 #[v, .pointer (some ⟨q, 0, none⟩)] w fun e w' => ∃ v' H' d', e = .returned v' ∧ Mo w' lo q v' H' d' ∧ Mv lo q w w' := by
  have M : Hid (Mo w lo q v H d) := mo
  have h1 := mo.good.1.1
  have hqlo := mo.qlo
  have hlos := mo.los
  have hf := mo.fits
  obtain ⟨g, cap, rfl, hg1, hg2, -⟩ := mo.own.form h1
  have hl := mo.own.fit
  clear mo
  have hgq : g ≠ q := by omega
  have hqg : q ≠ g := by omega
  obtain ⟨k, x, y, s, l, e, o, t⟩ := d
  obtain ⟨c0, c1, c2, c3, c4, c5, c6, c7⟩ := M.out.hand.cells
  obtain ⟨f0, f1, f2, f3, f4, f5, f6, f7⟩ := M.out.hand.fz
  have ho := hf.own
  have he := hf.here
  simp only at ho he
  have HF : Hid (Fits H.length ⟨k, x, y, s, l, e, o, t⟩) := hf
  clear hf
  by_cases hneg : o < 0
  · have S0 : w.drew.cell? ⟨q, 1, none⟩ = some (.int .i64 x) ∧ w.drew.cell? ⟨q, 2, none⟩ = some (.int .i64 y) ∧ w.drew.cell? ⟨q, 5, none⟩ = some (.int .i64 e) := ⟨c1, c2, c5⟩
    obtain ⟨N, hN⟩ := hid_ex (freshN H x y e)
    obtain ⟨L, hL⟩ := hid_ex (freshH H x y e)
    have two := fresh_two H x y e
    rw [hN.out, hL.out] at two
    by_cases hN1 : N < 0
    · have TW : Hid ((N = -1) ∨ (N = (H.length : Int) ∧ L = H ++ [cell x y e] ∧ heapOk (H ++ [cell x y e]))) := two
      clear two
      go_enter Try.func59, Try.ntmps59
      go_wp2
      go_region_held3 (fun w' => w'.cell? ⟨q, 1, none⟩ = some (.int .i64 x) ∧ w'.cell? ⟨q, 2, none⟩ = some (.int .i64 y) ∧ w'.cell? ⟨q, 5, none⟩ = some (.int .i64 e)) (assumption) (first | (go_at_call 60; refine (specFresh_any H x y e _ w.heap.size w.drew (Nat.le_refl _) M.out.own.rd.drew).mono ?_; rintro er w2 ⟨v2, her, ho2, hB2⟩; rw [hN.out] at her; subst her; have hz2 : w.heap.size ≤ w2.heap.size := hB2.size; have hb2 := M.out.hand.of (hB2.block q (by show q < w.heap.size; omega)); obtain ⟨e0, e1, e2, e3, e4, e5, e6, e7⟩ := hb2.cells; have S2 := And.intro e1 (And.intro e2 e5)) | (fail))
      go_wp2_with (first | (go_at_call 58; refine (l5Done_any _ false q _ hb2).mono ?_; rintro er w3 ⟨rfl, hb3, hO3⟩) | (fail))
      go_ret
      have hz3 := hO3.1
      refine ⟨_, H, _, rfl, ⟨((M.out.own.keep fun k _ h2 => hB2.block k h2).only hO3 hqlo).wide (Nat.le_refl _) (by omega), hb3, hqlo, by omega, M.out.good, ⟨HF.out.kind, .inr (.inr (.inr (.inr rfl))), ⟨by simp, by simp; omega⟩, HF.out.own⟩⟩, ?_⟩
      exact ((Mv.refl _ _ _).drew.trans (Mv.of_below hB2 (by show lo ≤ w.heap.size; omega))).only hO3
    · obtain ⟨eN, eL, hok⟩ := two.resolve_left (by omega)
      have EL : Hid (L = H ++ [cell x y e]) := eL
      have OK : Hid (heapOk (H ++ [cell x y e])) := hok
      have EN : Hid (N = (H.length : Int)) := eN
      clear two eN eL hok
      have hNd : decide (N < 0) = false := decide_eq_false hN1
      go_enter Try.func59, Try.ntmps59
      go_wp2
      go_region_held3 (fun w' => w'.cell? ⟨q, 1, none⟩ = some (.int .i64 x) ∧ w'.cell? ⟨q, 2, none⟩ = some (.int .i64 y) ∧ w'.cell? ⟨q, 5, none⟩ = some (.int .i64 e)) (assumption) (first | (go_at_call 60; refine (specFresh_any H x y e _ w.heap.size w.drew (Nat.le_refl _) M.out.own.rd.drew).mono ?_; rintro er w2 ⟨v2, her, ho2, hB2⟩; rw [hN.out] at her; subst her; rw [hL.out] at ho2; have hz2 : w.heap.size ≤ w2.heap.size := hB2.size; have hb2 := M.out.hand.of (hB2.block q (by show q < w.heap.size; omega)); obtain ⟨e0, e1, e2, e3, e4, e5, e6, e7⟩ := hb2.cells; obtain ⟨j0, j1, j2, j3, j4, j5, j6, j7⟩ := hb2.fz; have S2 := And.intro e1 (And.intro e2 e5)) | (fail))
      go_wp2
      go_ret
      have hb3 := (hb2.set 6 N ⟨k, x, y, s, l, e, N, t⟩ rfl).set 3 3 ⟨k, x, y, 3, l, e, N, t⟩ rfl
      have ho3 : Own ((w2.setCell ⟨q, 6, none⟩ (.int .i64 N)).setCell ⟨q, 3, none⟩ (.int .i64 3)) w.heap.size w2.heap.size v2 L := Own.keep (w := w2) (lo := w.heap.size) ho2 fun k h1 h2 => by
        rw [Below.heap_setCell _ _ _ _ (by show k ≠ q; omega), Below.heap_setCell _ _ _ _ (by show k ≠ q; omega)]
      rw [EL.out] at ho3
      have hkind := HF.out.kind
      simp only at hkind
      refine ⟨_, H ++ [cell x y e], _, rfl, ⟨ho3.wide hlos (by simp), hb3, hqlo, by simp; omega, good_ok OK.out, ⟨hkind, .inr (.inr (.inr (.inl rfl))), ⟨he.1, by rw [snoc_len]; simp; omega⟩, ⟨by simp; omega, by rw [snoc_len, EN.out]; simp; omega⟩⟩⟩, ?_⟩
      exact (((Mv.refl _ _ _).drew.trans (Mv.of_below hB2 (by show lo ≤ w.heap.size; omega))).setQ _ _).setQ _ _
  · obtain ⟨i, rfl⟩ : ∃ i : Nat, o = i := ⟨o.toNat, by omega⟩
    have hil : i < H.length := by omega
    have hil' : (i : Int) < H.length := by omega
    obtain ⟨-, -, d2, -⟩ := M.out.own.cell i hil
    have df := M.out.own.frozen (i * 4 + 2)
    have S0 : w.drew.cell? ⟨q, 6, none⟩ = some (.int .i64 (i : Int)) ∧ w.drew.cell? ⟨q, 5, none⟩ = some (.int .i64 e) := ⟨c6, c5⟩
    go_enter Try.func59, Try.ntmps59
    go_wp2
    have q5 : (w.setCell ⟨g, i * 4 + 2, none⟩ (.int .i64 e)).drew.cell? ⟨q, 5, none⟩ = some (.int .i64 e) := by
      show (w.setCell ⟨g, i * 4 + 2, none⟩ (.int .i64 e)).cell? ⟨q, 5, none⟩ = _
      rw [World.cell?_setCell_other _ _ _ _ (fun z => hgq (congrArg Addr.block z))]; exact c5
    have q6 : (w.setCell ⟨g, i * 4 + 2, none⟩ (.int .i64 e)).drew.cell? ⟨q, 6, none⟩ = some (.int .i64 (i : Int)) := by
      show (w.setCell ⟨g, i * 4 + 2, none⟩ (.int .i64 e)).cell? ⟨q, 6, none⟩ = _
      rw [World.cell?_setCell_other _ _ _ _ (fun z => hgq (congrArg Addr.block z))]; exact c6
    have S1 := And.intro q6 q5
    go_region_held3 (fun w' => w'.cell? ⟨q, 6, none⟩ = some (.int .i64 (i : Int)) ∧ w'.cell? ⟨q, 5, none⟩ = some (.int .i64 e)) (first | assumption | exact S1) (fail)
    go_wp2
    go_ret
    have hb1 : HB (w.setCell ⟨g, i * 4 + 2, none⟩ (.int .i64 e)) q ⟨k, x, y, s, l, e, i, t⟩ := M.out.hand.of (Below.heap_setCell _ _ _ _ hqg)
    have hb2 := hb1.set 3 3 ⟨k, x, y, 3, l, e, i, t⟩ rfl
    have ho1 : Own ((w.setCell ⟨g, i * 4 + 2, none⟩ (.int .i64 e)).setCell ⟨q, 3, none⟩ (.int .i64 3)).drew lo w.heap.size (.slice (some ⟨g, 0, none⟩) H.length cap) (swapH H i e) :=
      (M.out.own.setNext i hil e).keep fun k h1 h2 => Below.heap_setCell _ _ _ _ (by show k ≠ q; omega)
    have hkind := HF.out.kind
    simp only at hkind
    refine ⟨_, swapH H i e, _, rfl, ⟨ho1.wide (Nat.le_refl _) (by simp), hb2.of rfl, hqlo, by simp; omega, good_swapH M.out.good _ _ he, ⟨hkind, .inr (.inr (.inr (.inl rfl))), by rw [swapH_len]; exact he, by rw [swapH_len]; exact ho⟩⟩, ?_⟩
    exact (((Mv.refl lo q w).setG hg1 _ _).setQ _ _).drew

end Go.Proofs.Ytedaioljkpfiiaa.ce
