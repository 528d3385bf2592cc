/- What the laws of chapter 7 draw: a split, whatever the bytes. -/
import Derived.Test.YtbialeffdpmcjaaDv1
namespace Go.Proofs.Ytbialeffdpmcjaa.draw
open Go.ChangeShapes Go.WideShapes Go.ChangeAt Go.RowKit
open Go.Proofs.Ytbialeffdpmcjaa.ce Go.Proofs.Ytbialeffdpmcjaa.sx
set_option linter.unusedVariables false

theorem ways (y n : Int) : (y = 0 ∧ n < 64) ∨ (y = 0 ∧ ¬ n < 64) ∨ y = 1 ∨ ((y == 0) = false ∧ (y == 1) = false) := by
  by_cases h0 : y = 0
  · by_cases h1 : n < 64
    · exact .inl ⟨h0, h1⟩
    · exact .inr (.inl ⟨h0, h1⟩)
  · by_cases h1 : y = 1
    · exact .inr (.inr (.inl h1))
    · exact .inr (.inr (.inr ⟨by simpa using h0, by simpa using h1⟩))
theorem sizeB_two7 {n : Int} (h : sizeB n = true) (h64 : n < 64) : sizeB (2 * n) = true := by
  unfold sizeB at *
  simp only [Bool.or_eq_true, beq_iff_eq] at *
  omega
theorem three (y : Int) (h0 : 0 ≤ y) (h1 : y < 3) : y = 0 ∨ y = 1 ∨ y = 2 := by omega
theorem four (y : Int) (c : Nat) (h0 : 0 ≤ y) (h1 : y < 3) (hc : 1 ≤ c) : y = 0 ∨ y = 1 ∨ (y = 2 ∧ (1 : Int) < (c : Int)) ∨ (y = 2 ∧ c = 1) := by omega
theorem own_only7 {w w' : World} {lo b : Nat} {v : Value} {xs : List Int} (o : OwnI w lo w.heap.size v xs) (hn : v.ownBlock ≠ some b) (h : Only b w w') : OwnI w' lo w'.heap.size v xs := (o.tn hn (Nat.le_refl _) (Tn.only h)).wide (Nat.le_refl _) (Nat.le_of_eq h.1.symm)
theorem rds_at {w w' : World} {hi g off n cap : Nat} {xs : List Int} (r : RdS w hi (.slice (some ⟨g, off, none⟩) n cap) xs) (h : g < w'.heap.size) (e : w'.heap[g]? = w.heap[g]?) : RdI w' w'.heap.size (.slice (some ⟨g, off, none⟩) n cap) xs := by
  obtain ⟨b', off', cap', e', h1, h2, h4, h5⟩ := r.fits
  cases e'
  exact ⟨_, _, rfl, h1, h2, fun _ => ⟨g, off, rfl, h, range_of h5 e⟩⟩
theorem opn_ge : ∀ (f : Nat) (ks : List Int) (b : Int), ks.length ≤ (opn f ks b).length
  | 0, ks, b => Nat.le_refl _
  | f + 1, ks, b => by
    by_cases h0 : 0 < b
    · rw [opn_step h0]
      have h1 := opn_ge f (ins ks (mk b)) (parent b)
      have h2 := ins_len_ge ks (mk b)
      omega
    · rw [opn_stop h0]; exact Nat.le_refl _
theorem opn_small {ks : List Int} (h : ∀ k ∈ ks, k ≤ 65536) (f : Nat) {b : Int} (hb : b < 32768) : ∀ k ∈ opn f ks b, k ≤ 65536 :=
  opn_ind (P := fun ks => ∀ k ∈ ks, k ≤ 65536) (m := 32768) (fun ks b h0 hb hp k hk => by
    rcases (mem_ins _ _ _).1 hk with h | rfl
    · exact hp k h
    · have := mk_bd b; omega) (by omega) f ks b hb h
theorem ins_small {ks : List Int} (h : ∀ k ∈ ks, k ≤ 65536) (x : Int) : ∀ k ∈ ins ks (itk x), k ≤ 65536 := fun k hk => by
  rcases (mem_ins _ _ _).1 hk with h' | rfl
  · exact h k h'
  · have := itk_bd x; omega

set_option maxRecDepth 100000 in
set_option maxHeartbeats 8000000 in
theorem l7Draw_any (w : World) (p : Nat) (a0 : Option Addr) (len cap : Nat) (hc : Cur w p a0 len cap) :
    Calls Try.prog 69 #[.pointer (some ⟨p, 0, none⟩)] w fun e w' => ∃ (n : Int) (v : Value) (ks : List Int), e = .returned (.agg #[.int .i64 n, v]) ∧ 0 ≤ n ∧ n ≤ 128 ∧ ks.length ≤ 3000 ∧ (∀ k ∈ ks, k ≤ 65536) ∧ RdI w' w'.heap.size v ks ∧ Abv w.heap.size v ∧ Cur w' p a0 len cap ∧ w.grownBy w' (some p) := by
  have hp := hc.1
  have m1 : Hid True := trivial
  have m2 : Hid True := trivial
  have m3 : Hid True := trivial
  go_enter Try.func69, Try.ntmps69
  go_wp2_with (first | (clear m1; refine wpList_alloc_v rfl 27 rfl _ zeroSp ?_; intro b2 w1 hb2 hw1 hB1 hV1; have hz1 := hB1.size) | (go_at_call 17; refine (specNewSplit_all _).mono ?_; rintro er w2 ⟨v2, rfl, o2, hB2⟩; have hz2 := hB2.size; obtain ⟨a2, n2, k2, rfl⟩ := own_slice o2) | (clear m2; refine wpList_alloc_v rfl 27 rfl _ zeroSp ?_; intro b3 w3 hb3 hw3 hB3 hV3; have hz3 := hB3.size) | (clear m3; refine wpList_store_v rfl 27 _ _ rfl b3 [.int .i64 1, .slice a2 n2 k2] rfl rfl sizeSp hV3 rfl (by simp [Value.oneCell']) ?_; intro w4 hO4 hV4; have hz4 := hO4.1; have hB23 : Below w.heap.size w w3 := (hB1.trans (hB2.mono hz1)).trans (hB3.mono (by omega)); have hB4 : Below w.heap.size w w4 := hB23.trans (hO4.2.2 _ (by omega)); have hD : Hid (Dm w w4 p a0 len cap b2 b3 1 (.slice a2 n2 k2)) := (⟨cur_below hc hB4 hp, gb_below (World.grownBy.refl _ _) hB4 (Nat.le_refl _), hp, hV4, ((hV1.of (hB2.block b2 hw1)).of (hB3.block b2 (by omega))).of (hO4.2.1 b2 (by omega)), by omega, by omega, by omega⟩ : Dm w w4 p a0 len cap b2 b3 1 (.slice a2 n2 k2)); have hO : Hid (OwnI w4 w.heap.size w4.heap.size (.slice a2 n2 k2) [0]) := ((o2.below hB3 (by omega)).keep fun j j1 j2 => hO4.2.1 j (by omega)).wide (by omega) (by omega); obtain ⟨c0, c1⟩ := sp_cells hV4) | (go_at_call 70; refine (below_from w4 w4 p a0 len cap _ (by omega) hD.out.cur (World.grownBy.refl _ _)).mono ?_; rintro er w5 ⟨x, rfl, hx0, hx1, hc5, hg5⟩; replace hO : Hid (OwnI w5 w.heap.size w5.heap.size (.slice a2 n2 k2) [0]) := own_gb7 hO.out hg5 hD.out.pw; replace hD : Hid (Dm w w5 p a0 len cap b2 b3 1 (.slice a2 n2 k2)) := hD.out.drawn hg5 hc5) | (fail))
  obtain ⟨m, rfl⟩ : ∃ m : Nat, x = m := ⟨x.toNat, by omega⟩
  clear c0 c1 hV1 hV3 hV4 o2 hB1 hB2 hB3 hO4 hc5 hg5 hB4 hB23
  go_loopw [4] (fun q wr => ∃ (m : Nat) (n : Int) (u : Value) (ks : List Int), q = .int .i64 m ∧ m ≤ 15 ∧ Hid (sizeB n = true) ∧ 1 ≤ n ∧ n ≤ 64 ∧ 1 ≤ ks.length ∧ ks.length + 64 * m ≤ 1000 ∧ Hid (∀ k ∈ ks, k ≤ 65536) ∧ Hid (OwnI wr w.heap.size wr.heap.size u ks) ∧ Hid (Dm w wr p a0 len cap b2 b3 n u)) (fun q _ => (intOf q).toNat)
  case atStart => exact ⟨m, 1, _, [0], rfl, by omega, (rfl : sizeB 1 = true), by omega, by omega, by simp, by simp; omega, (fun k hk => by simp at hk; omega : ∀ k ∈ [(0 : Int)], k ≤ 65536), hO, hD⟩
  case round =>
    clear hO hD
    obtain ⟨m, n, u, ks, rfl, hm, hSB, hn1, hn2, hk1, hk2, hK, hO, hD⟩ := hrel
    obtain ⟨c0, c1⟩ := sp_cells hD.out.var
    obtain ⟨ua, un, uc, rfl⟩ := own_slice hO.out
    by_cases h0 : (0 : Int) < (m : Int)
    · obtain ⟨m', rfl⟩ : ∃ m', m = m' + 1 := ⟨m - 1, by omega⟩
      have mA : Hid True := trivial
      have hw2 : wrap64 (2 * n) = 2 * n := IntWalk.wrap64_in _ ⟨by omega, by omega⟩
      go_wp2_with (first | (clear mA; go_at_call 70; refine (below_from wr wr p a0 len cap _ (by omega) hD.out.cur (World.grownBy.refl _ _)).mono ?_; rintro er wa ⟨y, rfl, hy0, hy1, hc_y, hg_y⟩; replace hO : Hid (OwnI wa w.heap.size wa.heap.size (.slice ua un uc) ks) := own_gb7 hO.out hg_y hD.out.pw; replace hD : Hid (Dm w wa p a0 len cap b2 b3 n (.slice ua un uc)) := hD.out.drawn hg_y hc_y; clear c0 c1; obtain ⟨c0, c1⟩ := sp_cells hD.out.var; rcases ways y n with ⟨k0, h64⟩ | ⟨k0, h64⟩ | k1 | ⟨k2, k3⟩) | (refine wpList_store_n rfl _ _ rfl b3 0 (2 * n) rfl (by first | rfl | (simp [go_sem]; omega)) hD.out.var (by simp) ?_; intro w6 hO6 hV6; have ne6 := ownI_ne hO.out hD.out.var; replace hO : Hid (OwnI w6 w.heap.size w6.heap.size (.slice ua un uc) ks) := (hO.out.tn ne6 (Nat.le_refl _) (Tn.only hO6)).wide (Nat.le_refl _) (Nat.le_of_eq hO6.1.symm); replace hD : Hid (Dm w w6 p a0 len cap b2 b3 (2 * n) (.slice ua un uc)) := hD.out.tn (Tn.only hO6) hV6) | (have k1q := k1; clear k1q; go_at_call 70; refine (below_from wa wa p a0 len cap n (by omega) hD.out.cur (World.grownBy.refl _ _)).mono ?_; rintro er wb ⟨x, rfl, hx0, hx1, hc_x, hg_x⟩; replace hO : Hid (OwnI wb w.heap.size wb.heap.size (.slice ua un uc) ks) := own_gb7 hO.out hg_x hD.out.pw; replace hD : Hid (Dm w wb p a0 len cap b2 b3 n (.slice ua un uc)) := hD.out.drawn hg_x hc_x; clear c0 c1; obtain ⟨c0, c1⟩ := sp_cells hD.out.var) | (go_at_call 54; refine (l7Open_any n ks (x) _ b3 w.heap.size _ _ (by have := hD.out.gb.size; omega) (Nat.le_refl _) hk1 (by omega) (by omega) hO.out hD.out.var).mono ?_; rintro er w5 ⟨⟨ur, rfl⟩, v5, o5, hV5, hT5⟩; have hlo5 := opn_len (x).toNat ks (x); have hge5 := opn_ge (x).toNat ks (x); have hD5 : Hid (Dm w w5 p a0 len cap b2 b3 n v5) := hD.out.tn hT5 hV5; have hO5 : Hid (OwnI w5 w.heap.size w5.heap.size v5 (opn (x).toNat ks (x))) := o5; have hK5 : Hid (∀ k ∈ opn (x).toNat ks (x), k ≤ 65536) := opn_small hK.out _ (by omega); clear k1) | (have k2q := k2; clear k2q; go_at_call 70; refine (below_from wa wa p a0 len cap 60 (by omega) hD.out.cur (World.grownBy.refl _ _)).mono ?_; rintro er wb ⟨h, rfl, hx0, hx1, hc_x, hg_x⟩; replace hO : Hid (OwnI wb w.heap.size wb.heap.size (.slice ua un uc) ks) := own_gb7 hO.out hg_x hD.out.pw; replace hD : Hid (Dm w wb p a0 len cap b2 b3 n (.slice ua un uc)) := hD.out.drawn hg_x hc_x; clear c0 c1; obtain ⟨c0, c1⟩ := sp_cells hD.out.var; have hmd := mod_bd h hn1; have eik : keyB h 1 = itk h := (by rw [keyB_yes h 1 (by omega) (by omega)]; rfl)) | (go_at_call 54; refine (l7Open_any n ks (h % n) _ b3 w.heap.size _ _ (by have := hD.out.gb.size; omega) (Nat.le_refl _) hk1 (by omega) (by omega) hO.out hD.out.var).mono ?_; rintro er w5 ⟨⟨ur, rfl⟩, v5, o5, hV5, hT5⟩; have hlo5 := opn_len (h % n).toNat ks (h % n); have hge5 := opn_ge (h % n).toNat ks (h % n); have hD5 : Hid (Dm w w5 p a0 len cap b2 b3 n v5) := hD.out.tn hT5 hV5; have hO5 : Hid (OwnI w5 w.heap.size w5.heap.size v5 (opn (h % n).toNat ks (h % n))) := o5; have hK5 : Hid (∀ k ∈ opn (h % n).toNat ks (h % n), k ≤ 65536) := opn_small hK.out _ (by omega); have mF : Hid True := trivial) | (clear mF; go_at_call 60; refine (specItemKey_any _ _).mono ?_; rintro er wq ⟨rfl, hq⟩; subst wq; rw [eik]) | (go_at_call 61; refine (l7Put_any n (opn (h % n).toNat ks (h % n)) (itk h) _ b3 w.heap.size _ _ (by have := hD5.out.gb.size; omega) (Nat.le_refl _) (by omega) (by omega) hO5.out hD5.out.var).mono ?_; rintro er w6 ⟨v6, rfl, o6, hV6, hT6⟩; have hl6 := ins_len (opn (h % n).toNat ks (h % n)) (itk h); have hg6 := ins_len_ge (opn (h % n).toNat ks (h % n)) (itk h); have hD6 : Hid (Dm w w6 p a0 len cap b2 b3 n v6) := hD5.out.tn hT6 hV6; have hO6 : Hid (OwnI w6 w.heap.size w6.heap.size v6 (ins (opn (h % n).toNat ks (h % n)) (itk h))) := o6; have hK6 : Hid (∀ k ∈ ins (opn (h % n).toNat ks (h % n)) (itk h), k ≤ 65536) := ins_small hK5.out h) | (fail))
      · go_roundw
        case rel => exact ⟨m', 2 * n, _, ks, by go_num, by omega, (sizeB_two7 hSB.out (by omega)), by omega, (sizeB_bd (sizeB_two7 hSB.out (by omega))).2, hk1, by omega, hK, hO, hD⟩
        case measure => simp [intOf]
      · go_roundw
        case rel => exact ⟨m', n, _, ks, by go_num, by omega, hSB, by omega, by omega, hk1, by omega, hK, hO, hD⟩
        case measure => simp [intOf]
      · go_roundw
        case rel => exact ⟨m', n, v5, opn x.toNat ks x, by go_num, by omega, hSB, by omega, by omega, by omega, by omega, hK5, hO5, hD5⟩
        case measure => simp [intOf]
      · go_roundw
        case rel => exact ⟨m', n, v6, ins (opn (h % n).toNat ks (h % n)) (itk h), by go_num, by omega, hSB, by omega, by omega, by omega, by omega, hK6, hO6, hD6⟩
        case measure => simp [intOf]
    · obtain rfl : m = 0 := by omega
      have mO : Hid True := trivial
      have mP : Hid True := trivial
      go_wp2_with (first | (clear mO; go_at_call 71; refine (once_from wr wr p a0 len cap _ (by omega) hD.out.cur (World.grownBy.refl _ _)).mono ?_; rintro er wa ⟨z, rfl, hc_z, hg_z⟩; replace hO : Hid (OwnI wa w.heap.size wa.heap.size (.slice ua un uc) ks) := own_gb7 hO.out hg_z hD.out.pw; replace hD : Hid (Dm w wa p a0 len cap b2 b3 n (.slice ua un uc)) := hD.out.drawn hg_z hc_z; clear c0 c1; obtain ⟨c0, c1⟩ := sp_cells hD.out.var; cases z) | (refine wpList_store_v rfl 27 _ _ rfl b2 [.int .i64 n, .slice ua un uc] rfl rfl sizeSp hD.out.res rfl (by simp [Value.oneCell']) ?_; intro w9 hO9 hV9) | (fail))
      · exact row_retv rfl rfl hV9 Try.underlying27 sizeSp rfl ⟨n, _, ks, rfl, by omega, by omega, by omega, hK.out, (own_only7 hO.out (ownI_ne hO.out hD.out.res) hO9).rd, own_abv hO.out, cur_below hD.out.cur (hO9.2.2 w.heap.size hD.out.lo2) hp, gb_below hD.out.gb (hO9.2.2 w.heap.size hD.out.lo2) (Nat.le_refl _)⟩
      · obtain ⟨g, cq8, e8, hg1, hg2, hg3⟩ := hO.out.form hk1
        cases e8
        have hcp : ks.length ≤ uc ∧ uc ≤ 9223372036854775807 := by
          obtain ⟨a', cap', e, q1, q2, -⟩ := hO.out.rd.fits
          cases e
          unfold maxLen at q2
          omega
        have hcp8 : 1 ≤ uc := by omega
        have i1 : (1 : Int) ≤ (ks.length : Int) := by omega
        have i2 : (ks.length : Int) ≤ (uc : Int) := by omega
        go_wp2_with (first | (clear mP; go_at_call 70; refine (below_from wa wa p a0 len cap _ (by omega) hD.out.cur (World.grownBy.refl _ _)).mono ?_; rintro er wb ⟨y, rfl, hy0, hy1, hc_y, hg_y⟩; replace hO : Hid (OwnI wb w.heap.size wb.heap.size (.slice (some ⟨g, 0, none⟩) ks.length uc) ks) := own_gb7 hO.out hg_y hD.out.pw; replace hD : Hid (Dm w wb p a0 len cap b2 b3 n (.slice (some ⟨g, 0, none⟩) ks.length uc)) := hD.out.drawn hg_y hc_y; clear c0 c1; obtain ⟨c0, c1⟩ := sp_cells hD.out.var; rcases four y uc hy0 hy1 hcp8 with rfl | rfl | ⟨rfl, i3⟩ | ⟨rfl, rfl⟩) | (refine wpList_store_k rfl _ _ rfl b3 1 (some ⟨g, 1, none⟩) (ks.length - 1) (uc - 1) rfl rfl hD.out.var (by simp) ?_; intro w6 hO6 hV6; have ne6 := ownI_ne hO.out hD.out.var; have hD6 : Hid (Dm w w6 p a0 len cap b2 b3 n (.slice (some ⟨g, 1, none⟩) (ks.length - 1) (uc - 1))) := hD.out.tn (Tn.only hO6) hV6; clear c0 c1; obtain ⟨c0, c1⟩ := sp_cells hD6.out.var) | (refine wpList_store_k rfl _ _ rfl b3 1 (some ⟨g, 0, none⟩) (0) (0) rfl rfl hD.out.var (by simp) ?_; intro w6 hO6 hV6; have ne6 := ownI_ne hO.out hD.out.var; have hD6 : Hid (Dm w w6 p a0 len cap b2 b3 n (.slice (some ⟨g, 0, none⟩) (0) (0))) := hD.out.tn (Tn.only hO6) hV6; clear c0 c1; obtain ⟨c0, c1⟩ := sp_cells hD6.out.var) | (refine wpList_store_v rfl 27 _ _ rfl b2 [.int .i64 n, .slice (some ⟨g, 1, none⟩) (ks.length - 1) (uc - 1)] rfl rfl sizeSp hD6.out.res rfl (by simp [Value.oneCell']) ?_; intro w9 hO9 hV9) | (refine wpList_store_v rfl 27 _ _ rfl b2 [.int .i64 n, .slice (some ⟨g, 0, none⟩) 0 0] rfl rfl sizeSp hD6.out.res rfl (by simp [Value.oneCell']) ?_; intro w9 hO9 hV9) | (fail))
        · go_wp2_with (first | (go_at_call 70; refine (below_lit wb wb p a0 len cap [0, 3, 1, 64, 128] _ 5 0 128 rfl (by omega) (by decide) hD.out.cur (World.grownBy.refl _ _)).mono ?_; rintro er wc ⟨xj, nv, rfl, hj0, hj1, hcell, hv0, hv1, hc_x, hg_x⟩; obtain ⟨j, rfl⟩ : ∃ j : Nat, xj = j := ⟨xj.toNat, by omega⟩; rw [Int.toNat_natCast] at hcell; replace hO : Hid (OwnI wc w.heap.size wc.heap.size (.slice (some ⟨g, 0, none⟩) ks.length uc) ks) := own_gb7 hO.out hg_x hD.out.pw; replace hD : Hid (Dm w wc p a0 len cap b2 b3 n (.slice (some ⟨g, 0, none⟩) ks.length uc)) := hD.out.drawn hg_x hc_x; clear c0 c1; obtain ⟨c0, c1⟩ := sp_cells hD.out.var) | (refine wpList_store_n rfl _ _ rfl b3 0 nv rfl rfl hD.out.var (by simp) ?_; intro w6 hO6 hV6; have ne6 := ownI_ne hO.out hD.out.var; replace hO : Hid (OwnI w6 w.heap.size w6.heap.size (.slice (some ⟨g, 0, none⟩) ks.length uc) ks) := (hO.out.tn ne6 (Nat.le_refl _) (Tn.only hO6)).wide (Nat.le_refl _) (Nat.le_of_eq hO6.1.symm); replace hD : Hid (Dm w w6 p a0 len cap b2 b3 nv (.slice (some ⟨g, 0, none⟩) ks.length uc)) := hD.out.tn (Tn.only hO6) hV6; clear c0 c1; obtain ⟨c0, c1⟩ := sp_cells hD.out.var) | (refine wpList_store_v rfl 27 _ _ rfl b2 [.int .i64 nv, .slice (some ⟨g, 0, none⟩) ks.length uc] rfl rfl sizeSp hD.out.res rfl (by simp [Value.oneCell']) ?_; intro w9 hO9 hV9) | (fail))
          exact row_retv rfl rfl hV9 Try.underlying27 sizeSp rfl ⟨nv, _, ks, rfl, by omega, by omega, by omega, hK.out, (own_only7 hO.out (ownI_ne hO.out hD.out.res) hO9).rd, own_abv hO.out, cur_below hD.out.cur (hO9.2.2 w.heap.size hD.out.lo2) hp, gb_below hD.out.gb (hO9.2.2 w.heap.size hD.out.lo2) (Nat.le_refl _)⟩
        · have HKS : Hid (∀ k ∈ ks, k ≤ 65536) := hK
          obtain ⟨X0, hX0⟩ : ∃ Y, wb.drew = Y := ⟨_, rfl⟩
          have hD_X0 : Hid (Dm w X0 p a0 len cap b2 b3 n (.slice (some ⟨g, 0, none⟩) ks.length uc)) := by rw [← hX0]; exact hD.out.drew
          have hO_X0 : Hid (OwnI X0 w.heap.size X0.heap.size (.slice (some ⟨g, 0, none⟩) ks.length uc) ks) := by rw [← hX0]; exact hO.out.below ((Below.refl _ _).drew) (Nat.le_refl _)
          refine wp_region_held_drew (S := fun _ => True) (by kernel_rfl) trivial (fun _ => ?_)
          rw [hX0]
          clear hX0 hO hD c0 c1
          refine takeW 0 55 (.pointer (some ⟨b3, 1, none⟩)) rfl (by kernel_rfl) (by kernel_rfl) (by kernel_rfl) (fun _ _ _ h => h) (by kernel_rfl) (fun w' hS => by go_simp) trivial ?_
          go_frame
          refine takeW 3 58 (.pointer (some ⟨p, 0, none⟩)) rfl (by kernel_rfl) (by kernel_rfl) (by kernel_rfl) (fun _ _ _ h => h) (by kernel_rfl) (fun w' hS => by go_simp) trivial ?_
          go_frame
          refine wpAnyH_ready (rs := [1, 2, 4]) (by kernel_rfl) (by simp) ?_
          refine AllReadyH.cons rfl (fun K hK => ?_) (AllReadyH.cons rfl (fun K hK => ?_) (AllReadyH.cons rfl (fun K hK => ?_) AllReadyH.nil))
          · obtain ⟨c0, c1⟩ := sp_cells hD_X0.out.var
            go_simp
            clear c0 c1
            refine hK.out _ _ trivial (fun _ => ?_)
            try go_frame
            refine wpAnyH_ready (rs := [2, 4]) (by kernel_rfl) (by simp) ?_
            refine AllReadyH.cons rfl (fun K hK => ?_) (AllReadyH.cons rfl (fun K hK => ?_) AllReadyH.nil)
            · go_simp
              have hBx : Below X0.heap.size X0 (X0.alloc (.cells #[.int .i64 (-1), .int .i64 65535, .int .i64 65536, .int .i64 2] 2)) := (Below.refl _ _).alloc (Nat.le_refl _) _
              have hLx := lit4 X0
              have hlx : X0.heap.size < (X0.alloc (.cells #[.int .i64 (-1), .int .i64 65535, .int .i64 65536, .int .i64 2] 2)).heap.size := by simp
              obtain ⟨X1, hX1⟩ : ∃ Y, X0.alloc (.cells #[.int .i64 (-1), .int .i64 65535, .int .i64 65536, .int .i64 2] 2) = Y := ⟨_, rfl⟩
              rw [hX1] at hBx hLx hlx ⊢
              clear hX1
              have hD_X1 : Hid (Dm w X1 p a0 len cap b2 b3 n (.slice (some ⟨g, 0, none⟩) ks.length uc)) := hD_X0.out.below hBx
              have hO_X1 : Hid (OwnI X1 w.heap.size X1.heap.size (.slice (some ⟨g, 0, none⟩) ks.length uc) ks) := own_below7 hO_X0.out hBx
              have hL_X1 : Hid (LitAt X1 X0.heap.size 4) := hLx
              have hl_X1 : X0.heap.size < X1.heap.size := hlx
              clear hBx hLx hlx
              refine hK.out _ _ trivial (fun _ => ?_)
              try go_frame
              refine wpAnyH_ready (rs := [4]) (by kernel_rfl) (by simp) ?_
              refine AllReadyH.cons rfl (fun K hK => ?_) AllReadyH.nil
              go_simp
              go_at_call 70
              refine (below_from X1 X1 p a0 len cap _ (by omega) hD_X1.out.cur (World.grownBy.refl _ _)).mono ?_
              rintro er X2 ⟨xj, rfl, hj0, hj1, hcj, hgj⟩
              obtain ⟨j, rfl⟩ : ∃ j : Nat, xj = j := ⟨xj.toNat, by omega⟩
              have hj4 : (j : Int) < 4 := hj1
              have hD_X2 : Hid (Dm w X2 p a0 len cap b2 b3 n (.slice (some ⟨g, 0, none⟩) ks.length uc)) := hD_X1.out.drawn hgj hcj
              have hO_X2 : Hid (OwnI X2 w.heap.size X2.heap.size (.slice (some ⟨g, 0, none⟩) ks.length uc) ks) := own_gb7 hO_X1.out hgj hD_X1.out.pw
              have hL_X2 : Hid (LitAt X2 X0.heap.size 4) := hL_X1.out.keep (hgj.block _ hl_X1 (fun e => by cases e; have := hD_X0.out.cur.1; omega))
              have hl_X2 : X0.heap.size < X2.heap.size := Nat.lt_of_lt_of_le hl_X1 hgj.size
              refine hK.out _ _ trivial (fun _ => ?_)
              try go_frame
              refine takeW 5 60 (.pointer (some ⟨X0.heap.size, j, none⟩)) rfl (by kernel_rfl) (by kernel_rfl) (by kernel_rfl) (fun _ _ _ h => h) (by kernel_rfl) (fun w' hS => by go_simp; try omega) trivial ?_
              go_frame
              refine wpAnyH_ready (rs := [6]) (by kernel_rfl) (by simp) ?_
              refine AllReadyH.cons rfl (fun K hK => ?_) AllReadyH.nil
              obtain ⟨z, hzc, hz0, hz1⟩ := hL_X2.out j (by omega)
              go_simp
              refine hK.out _ _ trivial (fun _ => ?_)
              try go_frame
              refine wpAnyH_ready (rs := [7]) (by kernel_rfl) (by simp) ?_
              refine AllReadyH.cons rfl (fun K hK => ?_) AllReadyH.nil
              go_simp
              have hBx : Below X2.heap.size X2 (X2.alloc (.cells #[.int .i64 z] 2)) := (Below.refl _ _).alloc (Nat.le_refl _) _
              have hrx := one_range X2 z
              have hlx : X2.heap.size < (X2.alloc (.cells #[.int .i64 z] 2)).heap.size := by simp
              obtain ⟨X3, hX3⟩ : ∃ Y, X2.alloc (.cells #[.int .i64 z] 2) = Y := ⟨_, rfl⟩
              rw [hX3] at hBx hrx hlx ⊢
              clear hX3
              have hD_X3 : Hid (Dm w X3 p a0 len cap b2 b3 n (.slice (some ⟨g, 0, none⟩) ks.length uc)) := hD_X2.out.below hBx
              have hO_X3 : Hid (OwnI X3 w.heap.size X3.heap.size (.slice (some ⟨g, 0, none⟩) ks.length uc) ks) := own_below7 hO_X2.out hBx
              have hr_X3 : Hid (X3.rangeAt X2.heap.size 0 (ivs [z])) := hrx
              clear hBx hrx hlx
              refine hK.out _ _ trivial (fun _ => ?_)
              try go_frame
              refine wpAnyH_ready (rs := [8]) (by kernel_rfl) (by simp) ?_
              refine AllReadyH.cons rfl (fun K hK => ?_) AllReadyH.nil
              refine step_append_i rfl _ _ 22 rfl Try.underlying22 w.heap.size _ _ ks rfl hO_X3.out (by have := hD_X3.out.gb.size; omega) (X2.heap.size) 0 1 1 [z] rfl rfl hr_X3.out (by omega) ?_
              intro v8 X4 o8 hg8
              have hD_X4 : Hid (Dm w X4 p a0 len cap b2 b3 n (.slice (some ⟨g, 0, none⟩) ks.length uc)) := hD_X3.out.grown hO_X3.out (Nat.le_refl _) hg8
              obtain ⟨va, vn, vc, rfl⟩ := own_slice o8
              have hO8 : Hid (OwnI X4 w.heap.size X4.heap.size (.slice va vn vc) (ks ++ [z])) := o8
              clear o8
              refine hK.out _ _ trivial (fun _ => ?_)
              try go_frame
              refine takeW 9 64 (.pointer (some ⟨b3, 1, none⟩)) rfl (by kernel_rfl) (by kernel_rfl) (by kernel_rfl) (fun _ _ _ h => h) (by kernel_rfl) (fun w' hS => by go_simp) trivial ?_
              go_frame
              refine wpAnyH_ready (rs := [10]) (by kernel_rfl) (by simp) ?_
              refine AllReadyH.cons rfl (fun K hK => ?_) AllReadyH.nil
              obtain ⟨c0, c1⟩ := sp_cells hD_X4.out.var
              have f1 := hD_X4.out.var.frozen 1
              go_simp
              have hT := Tn.only (only_set X4 b3 1 (.slice va vn vc))
              have ne8 := ownI_ne hO8.out hD_X4.out.var
              have hO9 : Hid (OwnI (X4.setCell ⟨b3, 1, none⟩ (.slice va vn vc)) w.heap.size (X4.setCell ⟨b3, 1, none⟩ (.slice va vn vc)).heap.size (.slice va vn vc) (ks ++ [z])) := (hO8.out.tn ne8 (Nat.le_refl _) hT).wide (Nat.le_refl _) hT.size
              have hD9 : Hid (Dm w (X4.setCell ⟨b3, 1, none⟩ (.slice va vn vc)) p a0 len cap b2 b3 n (.slice va vn vc)) := hD_X4.out.tn hT (hD_X4.out.var.set 1 (.slice va vn vc))
              obtain ⟨W9, hW9⟩ : ∃ Y, X4.setCell ⟨b3, 1, none⟩ (.slice va vn vc) = Y := ⟨_, rfl⟩
              rw [hW9] at hO9 hD9 ⊢
              clear hW9 c0 c1 f1
              refine hK.out _ _ trivial (fun _ => ?_)
              refine wpAnyH_done (by kernel_rfl) ?_ _
              obtain ⟨c0, c1⟩ := sp_cells hD9.out.var
              go_wp2_with (first | (refine wpList_store_v rfl 27 _ _ rfl b2 [.int .i64 n, .slice va vn vc] rfl rfl sizeSp hD9.out.res rfl (by simp [Value.oneCell']) ?_; intro w9 hO9x hV9) | (fail))
              exact row_retv rfl rfl hV9 Try.underlying27 sizeSp rfl ⟨n, _, ks ++ [z], rfl, by omega, by omega, by simp; omega, fun k hk => (by rcases List.mem_append.1 hk with h | h; (· exact HKS.out k h); (· simp at h; omega)), (own_only7 hO9.out (ownI_ne hO9.out hD9.out.res) hO9x).rd, own_abv hO8.out, cur_below hD9.out.cur (hO9x.2.2 w.heap.size hD9.out.lo2) hp, gb_below hD9.out.gb (hO9x.2.2 w.heap.size hD9.out.lo2) (Nat.le_refl _)⟩
            · go_simp
              go_at_call 70
              refine (below_from X0 X0 p a0 len cap _ (by omega) hD_X0.out.cur (World.grownBy.refl _ _)).mono ?_
              rintro er X5 ⟨xj, rfl, hj0, hj1, hcj, hgj⟩
              obtain ⟨j, rfl⟩ : ∃ j : Nat, xj = j := ⟨xj.toNat, by omega⟩
              have hj4 : (j : Int) < 4 := hj1
              have hD_X5 : Hid (Dm w X5 p a0 len cap b2 b3 n (.slice (some ⟨g, 0, none⟩) ks.length uc)) := hD_X0.out.drawn hgj hcj
              have hO_X5 : Hid (OwnI X5 w.heap.size X5.heap.size (.slice (some ⟨g, 0, none⟩) ks.length uc) ks) := own_gb7 hO_X0.out hgj hD_X0.out.pw
              refine hK.out _ _ trivial (fun _ => ?_)
              try go_frame
              refine wpAnyH_ready (rs := [2]) (by kernel_rfl) (by simp) ?_
              refine AllReadyH.cons rfl (fun K hK => ?_) AllReadyH.nil
              go_simp
              have hBx : Below X5.heap.size X5 (X5.alloc (.cells #[.int .i64 (-1), .int .i64 65535, .int .i64 65536, .int .i64 2] 2)) := (Below.refl _ _).alloc (Nat.le_refl _) _
              have hLx := lit4 X5
              have hlx : X5.heap.size < (X5.alloc (.cells #[.int .i64 (-1), .int .i64 65535, .int .i64 65536, .int .i64 2] 2)).heap.size := by simp
              obtain ⟨X6, hX6⟩ : ∃ Y, X5.alloc (.cells #[.int .i64 (-1), .int .i64 65535, .int .i64 65536, .int .i64 2] 2) = Y := ⟨_, rfl⟩
              rw [hX6] at hBx hLx hlx ⊢
              clear hX6
              have hD_X6 : Hid (Dm w X6 p a0 len cap b2 b3 n (.slice (some ⟨g, 0, none⟩) ks.length uc)) := hD_X5.out.below hBx
              have hO_X6 : Hid (OwnI X6 w.heap.size X6.heap.size (.slice (some ⟨g, 0, none⟩) ks.length uc) ks) := own_below7 hO_X5.out hBx
              have hL_X6 : Hid (LitAt X6 X5.heap.size 4) := hLx
              have hl_X6 : X5.heap.size < X6.heap.size := hlx
              clear hBx hLx hlx
              refine hK.out _ _ trivial (fun _ => ?_)
              try go_frame
              refine takeW 5 60 (.pointer (some ⟨X5.heap.size, j, none⟩)) rfl (by kernel_rfl) (by kernel_rfl) (by kernel_rfl) (fun _ _ _ h => h) (by kernel_rfl) (fun w' hS => by go_simp; try omega) trivial ?_
              go_frame
              refine wpAnyH_ready (rs := [6]) (by kernel_rfl) (by simp) ?_
              refine AllReadyH.cons rfl (fun K hK => ?_) AllReadyH.nil
              obtain ⟨z, hzc, hz0, hz1⟩ := hL_X6.out j (by omega)
              go_simp
              refine hK.out _ _ trivial (fun _ => ?_)
              try go_frame
              refine wpAnyH_ready (rs := [7]) (by kernel_rfl) (by simp) ?_
              refine AllReadyH.cons rfl (fun K hK => ?_) AllReadyH.nil
              go_simp
              have hBx : Below X6.heap.size X6 (X6.alloc (.cells #[.int .i64 z] 2)) := (Below.refl _ _).alloc (Nat.le_refl _) _
              have hrx := one_range X6 z
              have hlx : X6.heap.size < (X6.alloc (.cells #[.int .i64 z] 2)).heap.size := by simp
              obtain ⟨X7, hX7⟩ : ∃ Y, X6.alloc (.cells #[.int .i64 z] 2) = Y := ⟨_, rfl⟩
              rw [hX7] at hBx hrx hlx ⊢
              clear hX7
              have hD_X7 : Hid (Dm w X7 p a0 len cap b2 b3 n (.slice (some ⟨g, 0, none⟩) ks.length uc)) := hD_X6.out.below hBx
              have hO_X7 : Hid (OwnI X7 w.heap.size X7.heap.size (.slice (some ⟨g, 0, none⟩) ks.length uc) ks) := own_below7 hO_X6.out hBx
              have hr_X7 : Hid (X7.rangeAt X6.heap.size 0 (ivs [z])) := hrx
              clear hBx hrx hlx
              refine hK.out _ _ trivial (fun _ => ?_)
              try go_frame
              refine wpAnyH_ready (rs := [8]) (by kernel_rfl) (by simp) ?_
              refine AllReadyH.cons rfl (fun K hK => ?_) AllReadyH.nil
              refine step_append_i rfl _ _ 22 rfl Try.underlying22 w.heap.size _ _ ks rfl hO_X7.out (by have := hD_X7.out.gb.size; omega) (X6.heap.size) 0 1 1 [z] rfl rfl hr_X7.out (by omega) ?_
              intro v8 X8 o8 hg8
              have hD_X8 : Hid (Dm w X8 p a0 len cap b2 b3 n (.slice (some ⟨g, 0, none⟩) ks.length uc)) := hD_X7.out.grown hO_X7.out (Nat.le_refl _) hg8
              obtain ⟨va, vn, vc, rfl⟩ := own_slice o8
              have hO8 : Hid (OwnI X8 w.heap.size X8.heap.size (.slice va vn vc) (ks ++ [z])) := o8
              clear o8
              refine hK.out _ _ trivial (fun _ => ?_)
              try go_frame
              refine takeW 9 64 (.pointer (some ⟨b3, 1, none⟩)) rfl (by kernel_rfl) (by kernel_rfl) (by kernel_rfl) (fun _ _ _ h => h) (by kernel_rfl) (fun w' hS => by go_simp) trivial ?_
              go_frame
              refine wpAnyH_ready (rs := [10]) (by kernel_rfl) (by simp) ?_
              refine AllReadyH.cons rfl (fun K hK => ?_) AllReadyH.nil
              obtain ⟨c0, c1⟩ := sp_cells hD_X8.out.var
              have f1 := hD_X8.out.var.frozen 1
              go_simp
              have hT := Tn.only (only_set X8 b3 1 (.slice va vn vc))
              have ne8 := ownI_ne hO8.out hD_X8.out.var
              have hO9 : Hid (OwnI (X8.setCell ⟨b3, 1, none⟩ (.slice va vn vc)) w.heap.size (X8.setCell ⟨b3, 1, none⟩ (.slice va vn vc)).heap.size (.slice va vn vc) (ks ++ [z])) := (hO8.out.tn ne8 (Nat.le_refl _) hT).wide (Nat.le_refl _) hT.size
              have hD9 : Hid (Dm w (X8.setCell ⟨b3, 1, none⟩ (.slice va vn vc)) p a0 len cap b2 b3 n (.slice va vn vc)) := hD_X8.out.tn hT (hD_X8.out.var.set 1 (.slice va vn vc))
              obtain ⟨W9, hW9⟩ : ∃ Y, X8.setCell ⟨b3, 1, none⟩ (.slice va vn vc) = Y := ⟨_, rfl⟩
              rw [hW9] at hO9 hD9 ⊢
              clear hW9 c0 c1 f1
              refine hK.out _ _ trivial (fun _ => ?_)
              refine wpAnyH_done (by kernel_rfl) ?_ _
              obtain ⟨c0, c1⟩ := sp_cells hD9.out.var
              go_wp2_with (first | (refine wpList_store_v rfl 27 _ _ rfl b2 [.int .i64 n, .slice va vn vc] rfl rfl sizeSp hD9.out.res rfl (by simp [Value.oneCell']) ?_; intro w9 hO9x hV9) | (fail))
              exact row_retv rfl rfl hV9 Try.underlying27 sizeSp rfl ⟨n, _, ks ++ [z], rfl, by omega, by omega, by simp; omega, fun k hk => (by rcases List.mem_append.1 hk with h | h; (· exact HKS.out k h); (· simp at h; omega)), (own_only7 hO9.out (ownI_ne hO9.out hD9.out.res) hO9x).rd, own_abv hO8.out, cur_below hD9.out.cur (hO9x.2.2 w.heap.size hD9.out.lo2) hp, gb_below hD9.out.gb (hO9x.2.2 w.heap.size hD9.out.lo2) (Nat.le_refl _)⟩
          · go_simp
            have hBx : Below X0.heap.size X0 (X0.alloc (.cells #[.int .i64 (-1), .int .i64 65535, .int .i64 65536, .int .i64 2] 2)) := (Below.refl _ _).alloc (Nat.le_refl _) _
            have hLx := lit4 X0
            have hlx : X0.heap.size < (X0.alloc (.cells #[.int .i64 (-1), .int .i64 65535, .int .i64 65536, .int .i64 2] 2)).heap.size := by simp
            obtain ⟨X9, hX9⟩ : ∃ Y, X0.alloc (.cells #[.int .i64 (-1), .int .i64 65535, .int .i64 65536, .int .i64 2] 2) = Y := ⟨_, rfl⟩
            rw [hX9] at hBx hLx hlx ⊢
            clear hX9
            have hD_X9 : Hid (Dm w X9 p a0 len cap b2 b3 n (.slice (some ⟨g, 0, none⟩) ks.length uc)) := hD_X0.out.below hBx
            have hO_X9 : Hid (OwnI X9 w.heap.size X9.heap.size (.slice (some ⟨g, 0, none⟩) ks.length uc) ks) := own_below7 hO_X0.out hBx
            have hL_X9 : Hid (LitAt X9 X0.heap.size 4) := hLx
            have hl_X9 : X0.heap.size < X9.heap.size := hlx
            clear hBx hLx hlx
            refine hK.out _ _ trivial (fun _ => ?_)
            try go_frame
            refine wpAnyH_ready (rs := [1, 4]) (by kernel_rfl) (by simp) ?_
            refine AllReadyH.cons rfl (fun K hK => ?_) (AllReadyH.cons rfl (fun K hK => ?_) AllReadyH.nil)
            · obtain ⟨c0, c1⟩ := sp_cells hD_X9.out.var
              go_simp
              clear c0 c1
              refine hK.out _ _ trivial (fun _ => ?_)
              try go_frame
              refine wpAnyH_ready (rs := [4]) (by kernel_rfl) (by simp) ?_
              refine AllReadyH.cons rfl (fun K hK => ?_) AllReadyH.nil
              go_simp
              go_at_call 70
              refine (below_from X9 X9 p a0 len cap _ (by omega) hD_X9.out.cur (World.grownBy.refl _ _)).mono ?_
              rintro er X10 ⟨xj, rfl, hj0, hj1, hcj, hgj⟩
              obtain ⟨j, rfl⟩ : ∃ j : Nat, xj = j := ⟨xj.toNat, by omega⟩
              have hj4 : (j : Int) < 4 := hj1
              have hD_X10 : Hid (Dm w X10 p a0 len cap b2 b3 n (.slice (some ⟨g, 0, none⟩) ks.length uc)) := hD_X9.out.drawn hgj hcj
              have hO_X10 : Hid (OwnI X10 w.heap.size X10.heap.size (.slice (some ⟨g, 0, none⟩) ks.length uc) ks) := own_gb7 hO_X9.out hgj hD_X9.out.pw
              have hL_X10 : Hid (LitAt X10 X0.heap.size 4) := hL_X9.out.keep (hgj.block _ hl_X9 (fun e => by cases e; have := hD_X0.out.cur.1; omega))
              have hl_X10 : X0.heap.size < X10.heap.size := Nat.lt_of_lt_of_le hl_X9 hgj.size
              refine hK.out _ _ trivial (fun _ => ?_)
              try go_frame
              refine takeW 5 60 (.pointer (some ⟨X0.heap.size, j, none⟩)) rfl (by kernel_rfl) (by kernel_rfl) (by kernel_rfl) (fun _ _ _ h => h) (by kernel_rfl) (fun w' hS => by go_simp; try omega) trivial ?_
              go_frame
              refine wpAnyH_ready (rs := [6]) (by kernel_rfl) (by simp) ?_
              refine AllReadyH.cons rfl (fun K hK => ?_) AllReadyH.nil
              obtain ⟨z, hzc, hz0, hz1⟩ := hL_X10.out j (by omega)
              go_simp
              refine hK.out _ _ trivial (fun _ => ?_)
              try go_frame
              refine wpAnyH_ready (rs := [7]) (by kernel_rfl) (by simp) ?_
              refine AllReadyH.cons rfl (fun K hK => ?_) AllReadyH.nil
              go_simp
              have hBx : Below X10.heap.size X10 (X10.alloc (.cells #[.int .i64 z] 2)) := (Below.refl _ _).alloc (Nat.le_refl _) _
              have hrx := one_range X10 z
              have hlx : X10.heap.size < (X10.alloc (.cells #[.int .i64 z] 2)).heap.size := by simp
              obtain ⟨X11, hX11⟩ : ∃ Y, X10.alloc (.cells #[.int .i64 z] 2) = Y := ⟨_, rfl⟩
              rw [hX11] at hBx hrx hlx ⊢
              clear hX11
              have hD_X11 : Hid (Dm w X11 p a0 len cap b2 b3 n (.slice (some ⟨g, 0, none⟩) ks.length uc)) := hD_X10.out.below hBx
              have hO_X11 : Hid (OwnI X11 w.heap.size X11.heap.size (.slice (some ⟨g, 0, none⟩) ks.length uc) ks) := own_below7 hO_X10.out hBx
              have hr_X11 : Hid (X11.rangeAt X10.heap.size 0 (ivs [z])) := hrx
              clear hBx hrx hlx
              refine hK.out _ _ trivial (fun _ => ?_)
              try go_frame
              refine wpAnyH_ready (rs := [8]) (by kernel_rfl) (by simp) ?_
              refine AllReadyH.cons rfl (fun K hK => ?_) AllReadyH.nil
              refine step_append_i rfl _ _ 22 rfl Try.underlying22 w.heap.size _ _ ks rfl hO_X11.out (by have := hD_X11.out.gb.size; omega) (X10.heap.size) 0 1 1 [z] rfl rfl hr_X11.out (by omega) ?_
              intro v8 X12 o8 hg8
              have hD_X12 : Hid (Dm w X12 p a0 len cap b2 b3 n (.slice (some ⟨g, 0, none⟩) ks.length uc)) := hD_X11.out.grown hO_X11.out (Nat.le_refl _) hg8
              obtain ⟨va, vn, vc, rfl⟩ := own_slice o8
              have hO8 : Hid (OwnI X12 w.heap.size X12.heap.size (.slice va vn vc) (ks ++ [z])) := o8
              clear o8
              refine hK.out _ _ trivial (fun _ => ?_)
              try go_frame
              refine takeW 9 64 (.pointer (some ⟨b3, 1, none⟩)) rfl (by kernel_rfl) (by kernel_rfl) (by kernel_rfl) (fun _ _ _ h => h) (by kernel_rfl) (fun w' hS => by go_simp) trivial ?_
              go_frame
              refine wpAnyH_ready (rs := [10]) (by kernel_rfl) (by simp) ?_
              refine AllReadyH.cons rfl (fun K hK => ?_) AllReadyH.nil
              obtain ⟨c0, c1⟩ := sp_cells hD_X12.out.var
              have f1 := hD_X12.out.var.frozen 1
              go_simp
              have hT := Tn.only (only_set X12 b3 1 (.slice va vn vc))
              have ne8 := ownI_ne hO8.out hD_X12.out.var
              have hO9 : Hid (OwnI (X12.setCell ⟨b3, 1, none⟩ (.slice va vn vc)) w.heap.size (X12.setCell ⟨b3, 1, none⟩ (.slice va vn vc)).heap.size (.slice va vn vc) (ks ++ [z])) := (hO8.out.tn ne8 (Nat.le_refl _) hT).wide (Nat.le_refl _) hT.size
              have hD9 : Hid (Dm w (X12.setCell ⟨b3, 1, none⟩ (.slice va vn vc)) p a0 len cap b2 b3 n (.slice va vn vc)) := hD_X12.out.tn hT (hD_X12.out.var.set 1 (.slice va vn vc))
              obtain ⟨W9, hW9⟩ : ∃ Y, X12.setCell ⟨b3, 1, none⟩ (.slice va vn vc) = Y := ⟨_, rfl⟩
              rw [hW9] at hO9 hD9 ⊢
              clear hW9 c0 c1 f1
              refine hK.out _ _ trivial (fun _ => ?_)
              refine wpAnyH_done (by kernel_rfl) ?_ _
              obtain ⟨c0, c1⟩ := sp_cells hD9.out.var
              go_wp2_with (first | (refine wpList_store_v rfl 27 _ _ rfl b2 [.int .i64 n, .slice va vn vc] rfl rfl sizeSp hD9.out.res rfl (by simp [Value.oneCell']) ?_; intro w9 hO9x hV9) | (fail))
              exact row_retv rfl rfl hV9 Try.underlying27 sizeSp rfl ⟨n, _, ks ++ [z], rfl, by omega, by omega, by simp; omega, fun k hk => (by rcases List.mem_append.1 hk with h | h; (· exact HKS.out k h); (· simp at h; omega)), (own_only7 hO9.out (ownI_ne hO9.out hD9.out.res) hO9x).rd, own_abv hO8.out, cur_below hD9.out.cur (hO9x.2.2 w.heap.size hD9.out.lo2) hp, gb_below hD9.out.gb (hO9x.2.2 w.heap.size hD9.out.lo2) (Nat.le_refl _)⟩
            · go_simp
              go_at_call 70
              refine (below_from X9 X9 p a0 len cap _ (by omega) hD_X9.out.cur (World.grownBy.refl _ _)).mono ?_
              rintro er X13 ⟨xj, rfl, hj0, hj1, hcj, hgj⟩
              obtain ⟨j, rfl⟩ : ∃ j : Nat, xj = j := ⟨xj.toNat, by omega⟩
              have hj4 : (j : Int) < 4 := hj1
              have hD_X13 : Hid (Dm w X13 p a0 len cap b2 b3 n (.slice (some ⟨g, 0, none⟩) ks.length uc)) := hD_X9.out.drawn hgj hcj
              have hO_X13 : Hid (OwnI X13 w.heap.size X13.heap.size (.slice (some ⟨g, 0, none⟩) ks.length uc) ks) := own_gb7 hO_X9.out hgj hD_X9.out.pw
              have hL_X13 : Hid (LitAt X13 X0.heap.size 4) := hL_X9.out.keep (hgj.block _ hl_X9 (fun e => by cases e; have := hD_X0.out.cur.1; omega))
              have hl_X13 : X0.heap.size < X13.heap.size := Nat.lt_of_lt_of_le hl_X9 hgj.size
              refine hK.out _ _ trivial (fun _ => ?_)
              try go_frame
              refine takeW 5 60 (.pointer (some ⟨X0.heap.size, j, none⟩)) rfl (by kernel_rfl) (by kernel_rfl) (by kernel_rfl) (fun _ _ _ h => h) (by kernel_rfl) (fun w' hS => by go_simp; try omega) trivial ?_
              go_frame
              refine wpAnyH_ready (rs := [1, 6]) (by kernel_rfl) (by simp) ?_
              refine AllReadyH.cons rfl (fun K hK => ?_) (AllReadyH.cons rfl (fun K hK => ?_) AllReadyH.nil)
              · obtain ⟨c0, c1⟩ := sp_cells hD_X13.out.var
                go_simp
                clear c0 c1
                refine hK.out _ _ trivial (fun _ => ?_)
                try go_frame
                refine wpAnyH_ready (rs := [6]) (by kernel_rfl) (by simp) ?_
                refine AllReadyH.cons rfl (fun K hK => ?_) AllReadyH.nil
                obtain ⟨z, hzc, hz0, hz1⟩ := hL_X13.out j (by omega)
                go_simp
                refine hK.out _ _ trivial (fun _ => ?_)
                try go_frame
                refine wpAnyH_ready (rs := [7]) (by kernel_rfl) (by simp) ?_
                refine AllReadyH.cons rfl (fun K hK => ?_) AllReadyH.nil
                go_simp
                have hBx : Below X13.heap.size X13 (X13.alloc (.cells #[.int .i64 z] 2)) := (Below.refl _ _).alloc (Nat.le_refl _) _
                have hrx := one_range X13 z
                have hlx : X13.heap.size < (X13.alloc (.cells #[.int .i64 z] 2)).heap.size := by simp
                obtain ⟨X14, hX14⟩ : ∃ Y, X13.alloc (.cells #[.int .i64 z] 2) = Y := ⟨_, rfl⟩
                rw [hX14] at hBx hrx hlx ⊢
                clear hX14
                have hD_X14 : Hid (Dm w X14 p a0 len cap b2 b3 n (.slice (some ⟨g, 0, none⟩) ks.length uc)) := hD_X13.out.below hBx
                have hO_X14 : Hid (OwnI X14 w.heap.size X14.heap.size (.slice (some ⟨g, 0, none⟩) ks.length uc) ks) := own_below7 hO_X13.out hBx
                have hr_X14 : Hid (X14.rangeAt X13.heap.size 0 (ivs [z])) := hrx
                clear hBx hrx hlx
                refine hK.out _ _ trivial (fun _ => ?_)
                try go_frame
                refine wpAnyH_ready (rs := [8]) (by kernel_rfl) (by simp) ?_
                refine AllReadyH.cons rfl (fun K hK => ?_) AllReadyH.nil
                refine step_append_i rfl _ _ 22 rfl Try.underlying22 w.heap.size _ _ ks rfl hO_X14.out (by have := hD_X14.out.gb.size; omega) (X13.heap.size) 0 1 1 [z] rfl rfl hr_X14.out (by omega) ?_
                intro v8 X15 o8 hg8
                have hD_X15 : Hid (Dm w X15 p a0 len cap b2 b3 n (.slice (some ⟨g, 0, none⟩) ks.length uc)) := hD_X14.out.grown hO_X14.out (Nat.le_refl _) hg8
                obtain ⟨va, vn, vc, rfl⟩ := own_slice o8
                have hO8 : Hid (OwnI X15 w.heap.size X15.heap.size (.slice va vn vc) (ks ++ [z])) := o8
                clear o8
                refine hK.out _ _ trivial (fun _ => ?_)
                try go_frame
                refine takeW 9 64 (.pointer (some ⟨b3, 1, none⟩)) rfl (by kernel_rfl) (by kernel_rfl) (by kernel_rfl) (fun _ _ _ h => h) (by kernel_rfl) (fun w' hS => by go_simp) trivial ?_
                go_frame
                refine wpAnyH_ready (rs := [10]) (by kernel_rfl) (by simp) ?_
                refine AllReadyH.cons rfl (fun K hK => ?_) AllReadyH.nil
                obtain ⟨c0, c1⟩ := sp_cells hD_X15.out.var
                have f1 := hD_X15.out.var.frozen 1
                go_simp
                have hT := Tn.only (only_set X15 b3 1 (.slice va vn vc))
                have ne8 := ownI_ne hO8.out hD_X15.out.var
                have hO9 : Hid (OwnI (X15.setCell ⟨b3, 1, none⟩ (.slice va vn vc)) w.heap.size (X15.setCell ⟨b3, 1, none⟩ (.slice va vn vc)).heap.size (.slice va vn vc) (ks ++ [z])) := (hO8.out.tn ne8 (Nat.le_refl _) hT).wide (Nat.le_refl _) hT.size
                have hD9 : Hid (Dm w (X15.setCell ⟨b3, 1, none⟩ (.slice va vn vc)) p a0 len cap b2 b3 n (.slice va vn vc)) := hD_X15.out.tn hT (hD_X15.out.var.set 1 (.slice va vn vc))
                obtain ⟨W9, hW9⟩ : ∃ Y, X15.setCell ⟨b3, 1, none⟩ (.slice va vn vc) = Y := ⟨_, rfl⟩
                rw [hW9] at hO9 hD9 ⊢
                clear hW9 c0 c1 f1
                refine hK.out _ _ trivial (fun _ => ?_)
                refine wpAnyH_done (by kernel_rfl) ?_ _
                obtain ⟨c0, c1⟩ := sp_cells hD9.out.var
                go_wp2_with (first | (refine wpList_store_v rfl 27 _ _ rfl b2 [.int .i64 n, .slice va vn vc] rfl rfl sizeSp hD9.out.res rfl (by simp [Value.oneCell']) ?_; intro w9 hO9x hV9) | (fail))
                exact row_retv rfl rfl hV9 Try.underlying27 sizeSp rfl ⟨n, _, ks ++ [z], rfl, by omega, by omega, by simp; omega, fun k hk => (by rcases List.mem_append.1 hk with h | h; (· exact HKS.out k h); (· simp at h; omega)), (own_only7 hO9.out (ownI_ne hO9.out hD9.out.res) hO9x).rd, own_abv hO8.out, cur_below hD9.out.cur (hO9x.2.2 w.heap.size hD9.out.lo2) hp, gb_below hD9.out.gb (hO9x.2.2 w.heap.size hD9.out.lo2) (Nat.le_refl _)⟩
              · obtain ⟨z, hzc, hz0, hz1⟩ := hL_X13.out j (by omega)
                go_simp
                refine hK.out _ _ trivial (fun _ => ?_)
                try go_frame
                refine wpAnyH_ready (rs := [1, 7]) (by kernel_rfl) (by simp) ?_
                refine AllReadyH.cons rfl (fun K hK => ?_) (AllReadyH.cons rfl (fun K hK => ?_) AllReadyH.nil)
                · obtain ⟨c0, c1⟩ := sp_cells hD_X13.out.var
                  go_simp
                  clear c0 c1
                  refine hK.out _ _ trivial (fun _ => ?_)
                  try go_frame
                  refine wpAnyH_ready (rs := [7]) (by kernel_rfl) (by simp) ?_
                  refine AllReadyH.cons rfl (fun K hK => ?_) AllReadyH.nil
                  go_simp
                  have hBx : Below X13.heap.size X13 (X13.alloc (.cells #[.int .i64 z] 2)) := (Below.refl _ _).alloc (Nat.le_refl _) _
                  have hrx := one_range X13 z
                  have hlx : X13.heap.size < (X13.alloc (.cells #[.int .i64 z] 2)).heap.size := by simp
                  obtain ⟨X16, hX16⟩ : ∃ Y, X13.alloc (.cells #[.int .i64 z] 2) = Y := ⟨_, rfl⟩
                  rw [hX16] at hBx hrx hlx ⊢
                  clear hX16
                  have hD_X16 : Hid (Dm w X16 p a0 len cap b2 b3 n (.slice (some ⟨g, 0, none⟩) ks.length uc)) := hD_X13.out.below hBx
                  have hO_X16 : Hid (OwnI X16 w.heap.size X16.heap.size (.slice (some ⟨g, 0, none⟩) ks.length uc) ks) := own_below7 hO_X13.out hBx
                  have hr_X16 : Hid (X16.rangeAt X13.heap.size 0 (ivs [z])) := hrx
                  clear hBx hrx hlx
                  refine hK.out _ _ trivial (fun _ => ?_)
                  try go_frame
                  refine wpAnyH_ready (rs := [8]) (by kernel_rfl) (by simp) ?_
                  refine AllReadyH.cons rfl (fun K hK => ?_) AllReadyH.nil
                  refine step_append_i rfl _ _ 22 rfl Try.underlying22 w.heap.size _ _ ks rfl hO_X16.out (by have := hD_X16.out.gb.size; omega) (X13.heap.size) 0 1 1 [z] rfl rfl hr_X16.out (by omega) ?_
                  intro v8 X17 o8 hg8
                  have hD_X17 : Hid (Dm w X17 p a0 len cap b2 b3 n (.slice (some ⟨g, 0, none⟩) ks.length uc)) := hD_X16.out.grown hO_X16.out (Nat.le_refl _) hg8
                  obtain ⟨va, vn, vc, rfl⟩ := own_slice o8
                  have hO8 : Hid (OwnI X17 w.heap.size X17.heap.size (.slice va vn vc) (ks ++ [z])) := o8
                  clear o8
                  refine hK.out _ _ trivial (fun _ => ?_)
                  try go_frame
                  refine takeW 9 64 (.pointer (some ⟨b3, 1, none⟩)) rfl (by kernel_rfl) (by kernel_rfl) (by kernel_rfl) (fun _ _ _ h => h) (by kernel_rfl) (fun w' hS => by go_simp) trivial ?_
                  go_frame
                  refine wpAnyH_ready (rs := [10]) (by kernel_rfl) (by simp) ?_
                  refine AllReadyH.cons rfl (fun K hK => ?_) AllReadyH.nil
                  obtain ⟨c0, c1⟩ := sp_cells hD_X17.out.var
                  have f1 := hD_X17.out.var.frozen 1
                  go_simp
                  have hT := Tn.only (only_set X17 b3 1 (.slice va vn vc))
                  have ne8 := ownI_ne hO8.out hD_X17.out.var
                  have hO9 : Hid (OwnI (X17.setCell ⟨b3, 1, none⟩ (.slice va vn vc)) w.heap.size (X17.setCell ⟨b3, 1, none⟩ (.slice va vn vc)).heap.size (.slice va vn vc) (ks ++ [z])) := (hO8.out.tn ne8 (Nat.le_refl _) hT).wide (Nat.le_refl _) hT.size
                  have hD9 : Hid (Dm w (X17.setCell ⟨b3, 1, none⟩ (.slice va vn vc)) p a0 len cap b2 b3 n (.slice va vn vc)) := hD_X17.out.tn hT (hD_X17.out.var.set 1 (.slice va vn vc))
                  obtain ⟨W9, hW9⟩ : ∃ Y, X17.setCell ⟨b3, 1, none⟩ (.slice va vn vc) = Y := ⟨_, rfl⟩
                  rw [hW9] at hO9 hD9 ⊢
                  clear hW9 c0 c1 f1
                  refine hK.out _ _ trivial (fun _ => ?_)
                  refine wpAnyH_done (by kernel_rfl) ?_ _
                  obtain ⟨c0, c1⟩ := sp_cells hD9.out.var
                  go_wp2_with (first | (refine wpList_store_v rfl 27 _ _ rfl b2 [.int .i64 n, .slice va vn vc] rfl rfl sizeSp hD9.out.res rfl (by simp [Value.oneCell']) ?_; intro w9 hO9x hV9) | (fail))
                  exact row_retv rfl rfl hV9 Try.underlying27 sizeSp rfl ⟨n, _, ks ++ [z], rfl, by omega, by omega, by simp; omega, fun k hk => (by rcases List.mem_append.1 hk with h | h; (· exact HKS.out k h); (· simp at h; omega)), (own_only7 hO9.out (ownI_ne hO9.out hD9.out.res) hO9x).rd, own_abv hO8.out, cur_below hD9.out.cur (hO9x.2.2 w.heap.size hD9.out.lo2) hp, gb_below hD9.out.gb (hO9x.2.2 w.heap.size hD9.out.lo2) (Nat.le_refl _)⟩
                · go_simp
                  have hBx : Below X13.heap.size X13 (X13.alloc (.cells #[.int .i64 z] 2)) := (Below.refl _ _).alloc (Nat.le_refl _) _
                  have hrx := one_range X13 z
                  have hlx : X13.heap.size < (X13.alloc (.cells #[.int .i64 z] 2)).heap.size := by simp
                  obtain ⟨X18, hX18⟩ : ∃ Y, X13.alloc (.cells #[.int .i64 z] 2) = Y := ⟨_, rfl⟩
                  rw [hX18] at hBx hrx hlx ⊢
                  clear hX18
                  have hD_X18 : Hid (Dm w X18 p a0 len cap b2 b3 n (.slice (some ⟨g, 0, none⟩) ks.length uc)) := hD_X13.out.below hBx
                  have hO_X18 : Hid (OwnI X18 w.heap.size X18.heap.size (.slice (some ⟨g, 0, none⟩) ks.length uc) ks) := own_below7 hO_X13.out hBx
                  have hr_X18 : Hid (X18.rangeAt X13.heap.size 0 (ivs [z])) := hrx
                  clear hBx hrx hlx
                  refine hK.out _ _ trivial (fun _ => ?_)
                  try go_frame
                  refine wpAnyH_ready (rs := [1]) (by kernel_rfl) (by simp) ?_
                  refine AllReadyH.cons rfl (fun K hK => ?_) AllReadyH.nil
                  obtain ⟨c0, c1⟩ := sp_cells hD_X18.out.var
                  go_simp
                  clear c0 c1
                  refine hK.out _ _ trivial (fun _ => ?_)
                  try go_frame
                  refine wpAnyH_ready (rs := [8]) (by kernel_rfl) (by simp) ?_
                  refine AllReadyH.cons rfl (fun K hK => ?_) AllReadyH.nil
                  refine step_append_i rfl _ _ 22 rfl Try.underlying22 w.heap.size _ _ ks rfl hO_X18.out (by have := hD_X18.out.gb.size; omega) (X13.heap.size) 0 1 1 [z] rfl rfl hr_X18.out (by omega) ?_
                  intro v8 X19 o8 hg8
                  have hD_X19 : Hid (Dm w X19 p a0 len cap b2 b3 n (.slice (some ⟨g, 0, none⟩) ks.length uc)) := hD_X18.out.grown hO_X18.out (Nat.le_refl _) hg8
                  obtain ⟨va, vn, vc, rfl⟩ := own_slice o8
                  have hO8 : Hid (OwnI X19 w.heap.size X19.heap.size (.slice va vn vc) (ks ++ [z])) := o8
                  clear o8
                  refine hK.out _ _ trivial (fun _ => ?_)
                  try go_frame
                  refine takeW 9 64 (.pointer (some ⟨b3, 1, none⟩)) rfl (by kernel_rfl) (by kernel_rfl) (by kernel_rfl) (fun _ _ _ h => h) (by kernel_rfl) (fun w' hS => by go_simp) trivial ?_
                  go_frame
                  refine wpAnyH_ready (rs := [10]) (by kernel_rfl) (by simp) ?_
                  refine AllReadyH.cons rfl (fun K hK => ?_) AllReadyH.nil
                  obtain ⟨c0, c1⟩ := sp_cells hD_X19.out.var
                  have f1 := hD_X19.out.var.frozen 1
                  go_simp
                  have hT := Tn.only (only_set X19 b3 1 (.slice va vn vc))
                  have ne8 := ownI_ne hO8.out hD_X19.out.var
                  have hO9 : Hid (OwnI (X19.setCell ⟨b3, 1, none⟩ (.slice va vn vc)) w.heap.size (X19.setCell ⟨b3, 1, none⟩ (.slice va vn vc)).heap.size (.slice va vn vc) (ks ++ [z])) := (hO8.out.tn ne8 (Nat.le_refl _) hT).wide (Nat.le_refl _) hT.size
                  have hD9 : Hid (Dm w (X19.setCell ⟨b3, 1, none⟩ (.slice va vn vc)) p a0 len cap b2 b3 n (.slice va vn vc)) := hD_X19.out.tn hT (hD_X19.out.var.set 1 (.slice va vn vc))
                  obtain ⟨W9, hW9⟩ : ∃ Y, X19.setCell ⟨b3, 1, none⟩ (.slice va vn vc) = Y := ⟨_, rfl⟩
                  rw [hW9] at hO9 hD9 ⊢
                  clear hW9 c0 c1 f1
                  refine hK.out _ _ trivial (fun _ => ?_)
                  refine wpAnyH_done (by kernel_rfl) ?_ _
                  obtain ⟨c0, c1⟩ := sp_cells hD9.out.var
                  go_wp2_with (first | (refine wpList_store_v rfl 27 _ _ rfl b2 [.int .i64 n, .slice va vn vc] rfl rfl sizeSp hD9.out.res rfl (by simp [Value.oneCell']) ?_; intro w9 hO9x hV9) | (fail))
                  exact row_retv rfl rfl hV9 Try.underlying27 sizeSp rfl ⟨n, _, ks ++ [z], rfl, by omega, by omega, by simp; omega, fun k hk => (by rcases List.mem_append.1 hk with h | h; (· exact HKS.out k h); (· simp at h; omega)), (own_only7 hO9.out (ownI_ne hO9.out hD9.out.res) hO9x).rd, own_abv hO8.out, cur_below hD9.out.cur (hO9x.2.2 w.heap.size hD9.out.lo2) hp, gb_below hD9.out.gb (hO9x.2.2 w.heap.size hD9.out.lo2) (Nat.le_refl _)⟩
          · go_simp
            go_at_call 70
            refine (below_from X0 X0 p a0 len cap _ (by omega) hD_X0.out.cur (World.grownBy.refl _ _)).mono ?_
            rintro er X20 ⟨xj, rfl, hj0, hj1, hcj, hgj⟩
            obtain ⟨j, rfl⟩ : ∃ j : Nat, xj = j := ⟨xj.toNat, by omega⟩
            have hj4 : (j : Int) < 4 := hj1
            have hD_X20 : Hid (Dm w X20 p a0 len cap b2 b3 n (.slice (some ⟨g, 0, none⟩) ks.length uc)) := hD_X0.out.drawn hgj hcj
            have hO_X20 : Hid (OwnI X20 w.heap.size X20.heap.size (.slice (some ⟨g, 0, none⟩) ks.length uc) ks) := own_gb7 hO_X0.out hgj hD_X0.out.pw
            refine hK.out _ _ trivial (fun _ => ?_)
            try go_frame
            refine wpAnyH_ready (rs := [1, 2]) (by kernel_rfl) (by simp) ?_
            refine AllReadyH.cons rfl (fun K hK => ?_) (AllReadyH.cons rfl (fun K hK => ?_) AllReadyH.nil)
            · obtain ⟨c0, c1⟩ := sp_cells hD_X20.out.var
              go_simp
              clear c0 c1
              refine hK.out _ _ trivial (fun _ => ?_)
              try go_frame
              refine wpAnyH_ready (rs := [2]) (by kernel_rfl) (by simp) ?_
              refine AllReadyH.cons rfl (fun K hK => ?_) AllReadyH.nil
              go_simp
              have hBx : Below X20.heap.size X20 (X20.alloc (.cells #[.int .i64 (-1), .int .i64 65535, .int .i64 65536, .int .i64 2] 2)) := (Below.refl _ _).alloc (Nat.le_refl _) _
              have hLx := lit4 X20
              have hlx : X20.heap.size < (X20.alloc (.cells #[.int .i64 (-1), .int .i64 65535, .int .i64 65536, .int .i64 2] 2)).heap.size := by simp
              obtain ⟨X21, hX21⟩ : ∃ Y, X20.alloc (.cells #[.int .i64 (-1), .int .i64 65535, .int .i64 65536, .int .i64 2] 2) = Y := ⟨_, rfl⟩
              rw [hX21] at hBx hLx hlx ⊢
              clear hX21
              have hD_X21 : Hid (Dm w X21 p a0 len cap b2 b3 n (.slice (some ⟨g, 0, none⟩) ks.length uc)) := hD_X20.out.below hBx
              have hO_X21 : Hid (OwnI X21 w.heap.size X21.heap.size (.slice (some ⟨g, 0, none⟩) ks.length uc) ks) := own_below7 hO_X20.out hBx
              have hL_X21 : Hid (LitAt X21 X20.heap.size 4) := hLx
              have hl_X21 : X20.heap.size < X21.heap.size := hlx
              clear hBx hLx hlx
              refine hK.out _ _ trivial (fun _ => ?_)
              try go_frame
              refine takeW 5 60 (.pointer (some ⟨X20.heap.size, j, none⟩)) rfl (by kernel_rfl) (by kernel_rfl) (by kernel_rfl) (fun _ _ _ h => h) (by kernel_rfl) (fun w' hS => by go_simp; try omega) trivial ?_
              go_frame
              refine wpAnyH_ready (rs := [6]) (by kernel_rfl) (by simp) ?_
              refine AllReadyH.cons rfl (fun K hK => ?_) AllReadyH.nil
              obtain ⟨z, hzc, hz0, hz1⟩ := hL_X21.out j (by omega)
              go_simp
              refine hK.out _ _ trivial (fun _ => ?_)
              try go_frame
              refine wpAnyH_ready (rs := [7]) (by kernel_rfl) (by simp) ?_
              refine AllReadyH.cons rfl (fun K hK => ?_) AllReadyH.nil
              go_simp
              have hBx : Below X21.heap.size X21 (X21.alloc (.cells #[.int .i64 z] 2)) := (Below.refl _ _).alloc (Nat.le_refl _) _
              have hrx := one_range X21 z
              have hlx : X21.heap.size < (X21.alloc (.cells #[.int .i64 z] 2)).heap.size := by simp
              obtain ⟨X22, hX22⟩ : ∃ Y, X21.alloc (.cells #[.int .i64 z] 2) = Y := ⟨_, rfl⟩
              rw [hX22] at hBx hrx hlx ⊢
              clear hX22
              have hD_X22 : Hid (Dm w X22 p a0 len cap b2 b3 n (.slice (some ⟨g, 0, none⟩) ks.length uc)) := hD_X21.out.below hBx
              have hO_X22 : Hid (OwnI X22 w.heap.size X22.heap.size (.slice (some ⟨g, 0, none⟩) ks.length uc) ks) := own_below7 hO_X21.out hBx
              have hr_X22 : Hid (X22.rangeAt X21.heap.size 0 (ivs [z])) := hrx
              clear hBx hrx hlx
              refine hK.out _ _ trivial (fun _ => ?_)
              try go_frame
              refine wpAnyH_ready (rs := [8]) (by kernel_rfl) (by simp) ?_
              refine AllReadyH.cons rfl (fun K hK => ?_) AllReadyH.nil
              refine step_append_i rfl _ _ 22 rfl Try.underlying22 w.heap.size _ _ ks rfl hO_X22.out (by have := hD_X22.out.gb.size; omega) (X21.heap.size) 0 1 1 [z] rfl rfl hr_X22.out (by omega) ?_
              intro v8 X23 o8 hg8
              have hD_X23 : Hid (Dm w X23 p a0 len cap b2 b3 n (.slice (some ⟨g, 0, none⟩) ks.length uc)) := hD_X22.out.grown hO_X22.out (Nat.le_refl _) hg8
              obtain ⟨va, vn, vc, rfl⟩ := own_slice o8
              have hO8 : Hid (OwnI X23 w.heap.size X23.heap.size (.slice va vn vc) (ks ++ [z])) := o8
              clear o8
              refine hK.out _ _ trivial (fun _ => ?_)
              try go_frame
              refine takeW 9 64 (.pointer (some ⟨b3, 1, none⟩)) rfl (by kernel_rfl) (by kernel_rfl) (by kernel_rfl) (fun _ _ _ h => h) (by kernel_rfl) (fun w' hS => by go_simp) trivial ?_
              go_frame
              refine wpAnyH_ready (rs := [10]) (by kernel_rfl) (by simp) ?_
              refine AllReadyH.cons rfl (fun K hK => ?_) AllReadyH.nil
              obtain ⟨c0, c1⟩ := sp_cells hD_X23.out.var
              have f1 := hD_X23.out.var.frozen 1
              go_simp
              have hT := Tn.only (only_set X23 b3 1 (.slice va vn vc))
              have ne8 := ownI_ne hO8.out hD_X23.out.var
              have hO9 : Hid (OwnI (X23.setCell ⟨b3, 1, none⟩ (.slice va vn vc)) w.heap.size (X23.setCell ⟨b3, 1, none⟩ (.slice va vn vc)).heap.size (.slice va vn vc) (ks ++ [z])) := (hO8.out.tn ne8 (Nat.le_refl _) hT).wide (Nat.le_refl _) hT.size
              have hD9 : Hid (Dm w (X23.setCell ⟨b3, 1, none⟩ (.slice va vn vc)) p a0 len cap b2 b3 n (.slice va vn vc)) := hD_X23.out.tn hT (hD_X23.out.var.set 1 (.slice va vn vc))
              obtain ⟨W9, hW9⟩ : ∃ Y, X23.setCell ⟨b3, 1, none⟩ (.slice va vn vc) = Y := ⟨_, rfl⟩
              rw [hW9] at hO9 hD9 ⊢
              clear hW9 c0 c1 f1
              refine hK.out _ _ trivial (fun _ => ?_)
              refine wpAnyH_done (by kernel_rfl) ?_ _
              obtain ⟨c0, c1⟩ := sp_cells hD9.out.var
              go_wp2_with (first | (refine wpList_store_v rfl 27 _ _ rfl b2 [.int .i64 n, .slice va vn vc] rfl rfl sizeSp hD9.out.res rfl (by simp [Value.oneCell']) ?_; intro w9 hO9x hV9) | (fail))
              exact row_retv rfl rfl hV9 Try.underlying27 sizeSp rfl ⟨n, _, ks ++ [z], rfl, by omega, by omega, by simp; omega, fun k hk => (by rcases List.mem_append.1 hk with h | h; (· exact HKS.out k h); (· simp at h; omega)), (own_only7 hO9.out (ownI_ne hO9.out hD9.out.res) hO9x).rd, own_abv hO8.out, cur_below hD9.out.cur (hO9x.2.2 w.heap.size hD9.out.lo2) hp, gb_below hD9.out.gb (hO9x.2.2 w.heap.size hD9.out.lo2) (Nat.le_refl _)⟩
            · go_simp
              have hBx : Below X20.heap.size X20 (X20.alloc (.cells #[.int .i64 (-1), .int .i64 65535, .int .i64 65536, .int .i64 2] 2)) := (Below.refl _ _).alloc (Nat.le_refl _) _
              have hLx := lit4 X20
              have hlx : X20.heap.size < (X20.alloc (.cells #[.int .i64 (-1), .int .i64 65535, .int .i64 65536, .int .i64 2] 2)).heap.size := by simp
              obtain ⟨X24, hX24⟩ : ∃ Y, X20.alloc (.cells #[.int .i64 (-1), .int .i64 65535, .int .i64 65536, .int .i64 2] 2) = Y := ⟨_, rfl⟩
              rw [hX24] at hBx hLx hlx ⊢
              clear hX24
              have hD_X24 : Hid (Dm w X24 p a0 len cap b2 b3 n (.slice (some ⟨g, 0, none⟩) ks.length uc)) := hD_X20.out.below hBx
              have hO_X24 : Hid (OwnI X24 w.heap.size X24.heap.size (.slice (some ⟨g, 0, none⟩) ks.length uc) ks) := own_below7 hO_X20.out hBx
              have hL_X24 : Hid (LitAt X24 X20.heap.size 4) := hLx
              have hl_X24 : X20.heap.size < X24.heap.size := hlx
              clear hBx hLx hlx
              refine hK.out _ _ trivial (fun _ => ?_)
              try go_frame
              refine takeW 5 60 (.pointer (some ⟨X20.heap.size, j, none⟩)) rfl (by kernel_rfl) (by kernel_rfl) (by kernel_rfl) (fun _ _ _ h => h) (by kernel_rfl) (fun w' hS => by go_simp; try omega) trivial ?_
              go_frame
              refine wpAnyH_ready (rs := [1, 6]) (by kernel_rfl) (by simp) ?_
              refine AllReadyH.cons rfl (fun K hK => ?_) (AllReadyH.cons rfl (fun K hK => ?_) AllReadyH.nil)
              · obtain ⟨c0, c1⟩ := sp_cells hD_X24.out.var
                go_simp
                clear c0 c1
                refine hK.out _ _ trivial (fun _ => ?_)
                try go_frame
                refine wpAnyH_ready (rs := [6]) (by kernel_rfl) (by simp) ?_
                refine AllReadyH.cons rfl (fun K hK => ?_) AllReadyH.nil
                obtain ⟨z, hzc, hz0, hz1⟩ := hL_X24.out j (by omega)
                go_simp
                refine hK.out _ _ trivial (fun _ => ?_)
                try go_frame
                refine wpAnyH_ready (rs := [7]) (by kernel_rfl) (by simp) ?_
                refine AllReadyH.cons rfl (fun K hK => ?_) AllReadyH.nil
                go_simp
                have hBx : Below X24.heap.size X24 (X24.alloc (.cells #[.int .i64 z] 2)) := (Below.refl _ _).alloc (Nat.le_refl _) _
                have hrx := one_range X24 z
                have hlx : X24.heap.size < (X24.alloc (.cells #[.int .i64 z] 2)).heap.size := by simp
                obtain ⟨X25, hX25⟩ : ∃ Y, X24.alloc (.cells #[.int .i64 z] 2) = Y := ⟨_, rfl⟩
                rw [hX25] at hBx hrx hlx ⊢
                clear hX25
                have hD_X25 : Hid (Dm w X25 p a0 len cap b2 b3 n (.slice (some ⟨g, 0, none⟩) ks.length uc)) := hD_X24.out.below hBx
                have hO_X25 : Hid (OwnI X25 w.heap.size X25.heap.size (.slice (some ⟨g, 0, none⟩) ks.length uc) ks) := own_below7 hO_X24.out hBx
                have hr_X25 : Hid (X25.rangeAt X24.heap.size 0 (ivs [z])) := hrx
                clear hBx hrx hlx
                refine hK.out _ _ trivial (fun _ => ?_)
                try go_frame
                refine wpAnyH_ready (rs := [8]) (by kernel_rfl) (by simp) ?_
                refine AllReadyH.cons rfl (fun K hK => ?_) AllReadyH.nil
                refine step_append_i rfl _ _ 22 rfl Try.underlying22 w.heap.size _ _ ks rfl hO_X25.out (by have := hD_X25.out.gb.size; omega) (X24.heap.size) 0 1 1 [z] rfl rfl hr_X25.out (by omega) ?_
                intro v8 X26 o8 hg8
                have hD_X26 : Hid (Dm w X26 p a0 len cap b2 b3 n (.slice (some ⟨g, 0, none⟩) ks.length uc)) := hD_X25.out.grown hO_X25.out (Nat.le_refl _) hg8
                obtain ⟨va, vn, vc, rfl⟩ := own_slice o8
                have hO8 : Hid (OwnI X26 w.heap.size X26.heap.size (.slice va vn vc) (ks ++ [z])) := o8
                clear o8
                refine hK.out _ _ trivial (fun _ => ?_)
                try go_frame
                refine takeW 9 64 (.pointer (some ⟨b3, 1, none⟩)) rfl (by kernel_rfl) (by kernel_rfl) (by kernel_rfl) (fun _ _ _ h => h) (by kernel_rfl) (fun w' hS => by go_simp) trivial ?_
                go_frame
                refine wpAnyH_ready (rs := [10]) (by kernel_rfl) (by simp) ?_
                refine AllReadyH.cons rfl (fun K hK => ?_) AllReadyH.nil
                obtain ⟨c0, c1⟩ := sp_cells hD_X26.out.var
                have f1 := hD_X26.out.var.frozen 1
                go_simp
                have hT := Tn.only (only_set X26 b3 1 (.slice va vn vc))
                have ne8 := ownI_ne hO8.out hD_X26.out.var
                have hO9 : Hid (OwnI (X26.setCell ⟨b3, 1, none⟩ (.slice va vn vc)) w.heap.size (X26.setCell ⟨b3, 1, none⟩ (.slice va vn vc)).heap.size (.slice va vn vc) (ks ++ [z])) := (hO8.out.tn ne8 (Nat.le_refl _) hT).wide (Nat.le_refl _) hT.size
                have hD9 : Hid (Dm w (X26.setCell ⟨b3, 1, none⟩ (.slice va vn vc)) p a0 len cap b2 b3 n (.slice va vn vc)) := hD_X26.out.tn hT (hD_X26.out.var.set 1 (.slice va vn vc))
                obtain ⟨W9, hW9⟩ : ∃ Y, X26.setCell ⟨b3, 1, none⟩ (.slice va vn vc) = Y := ⟨_, rfl⟩
                rw [hW9] at hO9 hD9 ⊢
                clear hW9 c0 c1 f1
                refine hK.out _ _ trivial (fun _ => ?_)
                refine wpAnyH_done (by kernel_rfl) ?_ _
                obtain ⟨c0, c1⟩ := sp_cells hD9.out.var
                go_wp2_with (first | (refine wpList_store_v rfl 27 _ _ rfl b2 [.int .i64 n, .slice va vn vc] rfl rfl sizeSp hD9.out.res rfl (by simp [Value.oneCell']) ?_; intro w9 hO9x hV9) | (fail))
                exact row_retv rfl rfl hV9 Try.underlying27 sizeSp rfl ⟨n, _, ks ++ [z], rfl, by omega, by omega, by simp; omega, fun k hk => (by rcases List.mem_append.1 hk with h | h; (· exact HKS.out k h); (· simp at h; omega)), (own_only7 hO9.out (ownI_ne hO9.out hD9.out.res) hO9x).rd, own_abv hO8.out, cur_below hD9.out.cur (hO9x.2.2 w.heap.size hD9.out.lo2) hp, gb_below hD9.out.gb (hO9x.2.2 w.heap.size hD9.out.lo2) (Nat.le_refl _)⟩
              · obtain ⟨z, hzc, hz0, hz1⟩ := hL_X24.out j (by omega)
                go_simp
                refine hK.out _ _ trivial (fun _ => ?_)
                try go_frame
                refine wpAnyH_ready (rs := [1, 7]) (by kernel_rfl) (by simp) ?_
                refine AllReadyH.cons rfl (fun K hK => ?_) (AllReadyH.cons rfl (fun K hK => ?_) AllReadyH.nil)
                · obtain ⟨c0, c1⟩ := sp_cells hD_X24.out.var
                  go_simp
                  clear c0 c1
                  refine hK.out _ _ trivial (fun _ => ?_)
                  try go_frame
                  refine wpAnyH_ready (rs := [7]) (by kernel_rfl) (by simp) ?_
                  refine AllReadyH.cons rfl (fun K hK => ?_) AllReadyH.nil
                  go_simp
                  have hBx : Below X24.heap.size X24 (X24.alloc (.cells #[.int .i64 z] 2)) := (Below.refl _ _).alloc (Nat.le_refl _) _
                  have hrx := one_range X24 z
                  have hlx : X24.heap.size < (X24.alloc (.cells #[.int .i64 z] 2)).heap.size := by simp
                  obtain ⟨X27, hX27⟩ : ∃ Y, X24.alloc (.cells #[.int .i64 z] 2) = Y := ⟨_, rfl⟩
                  rw [hX27] at hBx hrx hlx ⊢
                  clear hX27
                  have hD_X27 : Hid (Dm w X27 p a0 len cap b2 b3 n (.slice (some ⟨g, 0, none⟩) ks.length uc)) := hD_X24.out.below hBx
                  have hO_X27 : Hid (OwnI X27 w.heap.size X27.heap.size (.slice (some ⟨g, 0, none⟩) ks.length uc) ks) := own_below7 hO_X24.out hBx
                  have hr_X27 : Hid (X27.rangeAt X24.heap.size 0 (ivs [z])) := hrx
                  clear hBx hrx hlx
                  refine hK.out _ _ trivial (fun _ => ?_)
                  try go_frame
                  refine wpAnyH_ready (rs := [8]) (by kernel_rfl) (by simp) ?_
                  refine AllReadyH.cons rfl (fun K hK => ?_) AllReadyH.nil
                  refine step_append_i rfl _ _ 22 rfl Try.underlying22 w.heap.size _ _ ks rfl hO_X27.out (by have := hD_X27.out.gb.size; omega) (X24.heap.size) 0 1 1 [z] rfl rfl hr_X27.out (by omega) ?_
                  intro v8 X28 o8 hg8
                  have hD_X28 : Hid (Dm w X28 p a0 len cap b2 b3 n (.slice (some ⟨g, 0, none⟩) ks.length uc)) := hD_X27.out.grown hO_X27.out (Nat.le_refl _) hg8
                  obtain ⟨va, vn, vc, rfl⟩ := own_slice o8
                  have hO8 : Hid (OwnI X28 w.heap.size X28.heap.size (.slice va vn vc) (ks ++ [z])) := o8
                  clear o8
                  refine hK.out _ _ trivial (fun _ => ?_)
                  try go_frame
                  refine takeW 9 64 (.pointer (some ⟨b3, 1, none⟩)) rfl (by kernel_rfl) (by kernel_rfl) (by kernel_rfl) (fun _ _ _ h => h) (by kernel_rfl) (fun w' hS => by go_simp) trivial ?_
                  go_frame
                  refine wpAnyH_ready (rs := [10]) (by kernel_rfl) (by simp) ?_
                  refine AllReadyH.cons rfl (fun K hK => ?_) AllReadyH.nil
                  obtain ⟨c0, c1⟩ := sp_cells hD_X28.out.var
                  have f1 := hD_X28.out.var.frozen 1
                  go_simp
                  have hT := Tn.only (only_set X28 b3 1 (.slice va vn vc))
                  have ne8 := ownI_ne hO8.out hD_X28.out.var
                  have hO9 : Hid (OwnI (X28.setCell ⟨b3, 1, none⟩ (.slice va vn vc)) w.heap.size (X28.setCell ⟨b3, 1, none⟩ (.slice va vn vc)).heap.size (.slice va vn vc) (ks ++ [z])) := (hO8.out.tn ne8 (Nat.le_refl _) hT).wide (Nat.le_refl _) hT.size
                  have hD9 : Hid (Dm w (X28.setCell ⟨b3, 1, none⟩ (.slice va vn vc)) p a0 len cap b2 b3 n (.slice va vn vc)) := hD_X28.out.tn hT (hD_X28.out.var.set 1 (.slice va vn vc))
                  obtain ⟨W9, hW9⟩ : ∃ Y, X28.setCell ⟨b3, 1, none⟩ (.slice va vn vc) = Y := ⟨_, rfl⟩
                  rw [hW9] at hO9 hD9 ⊢
                  clear hW9 c0 c1 f1
                  refine hK.out _ _ trivial (fun _ => ?_)
                  refine wpAnyH_done (by kernel_rfl) ?_ _
                  obtain ⟨c0, c1⟩ := sp_cells hD9.out.var
                  go_wp2_with (first | (refine wpList_store_v rfl 27 _ _ rfl b2 [.int .i64 n, .slice va vn vc] rfl rfl sizeSp hD9.out.res rfl (by simp [Value.oneCell']) ?_; intro w9 hO9x hV9) | (fail))
                  exact row_retv rfl rfl hV9 Try.underlying27 sizeSp rfl ⟨n, _, ks ++ [z], rfl, by omega, by omega, by simp; omega, fun k hk => (by rcases List.mem_append.1 hk with h | h; (· exact HKS.out k h); (· simp at h; omega)), (own_only7 hO9.out (ownI_ne hO9.out hD9.out.res) hO9x).rd, own_abv hO8.out, cur_below hD9.out.cur (hO9x.2.2 w.heap.size hD9.out.lo2) hp, gb_below hD9.out.gb (hO9x.2.2 w.heap.size hD9.out.lo2) (Nat.le_refl _)⟩
                · go_simp
                  have hBx : Below X24.heap.size X24 (X24.alloc (.cells #[.int .i64 z] 2)) := (Below.refl _ _).alloc (Nat.le_refl _) _
                  have hrx := one_range X24 z
                  have hlx : X24.heap.size < (X24.alloc (.cells #[.int .i64 z] 2)).heap.size := by simp
                  obtain ⟨X29, hX29⟩ : ∃ Y, X24.alloc (.cells #[.int .i64 z] 2) = Y := ⟨_, rfl⟩
                  rw [hX29] at hBx hrx hlx ⊢
                  clear hX29
                  have hD_X29 : Hid (Dm w X29 p a0 len cap b2 b3 n (.slice (some ⟨g, 0, none⟩) ks.length uc)) := hD_X24.out.below hBx
                  have hO_X29 : Hid (OwnI X29 w.heap.size X29.heap.size (.slice (some ⟨g, 0, none⟩) ks.length uc) ks) := own_below7 hO_X24.out hBx
                  have hr_X29 : Hid (X29.rangeAt X24.heap.size 0 (ivs [z])) := hrx
                  clear hBx hrx hlx
                  refine hK.out _ _ trivial (fun _ => ?_)
                  try go_frame
                  refine wpAnyH_ready (rs := [1]) (by kernel_rfl) (by simp) ?_
                  refine AllReadyH.cons rfl (fun K hK => ?_) AllReadyH.nil
                  obtain ⟨c0, c1⟩ := sp_cells hD_X29.out.var
                  go_simp
                  clear c0 c1
                  refine hK.out _ _ trivial (fun _ => ?_)
                  try go_frame
                  refine wpAnyH_ready (rs := [8]) (by kernel_rfl) (by simp) ?_
                  refine AllReadyH.cons rfl (fun K hK => ?_) AllReadyH.nil
                  refine step_append_i rfl _ _ 22 rfl Try.underlying22 w.heap.size _ _ ks rfl hO_X29.out (by have := hD_X29.out.gb.size; omega) (X24.heap.size) 0 1 1 [z] rfl rfl hr_X29.out (by omega) ?_
                  intro v8 X30 o8 hg8
                  have hD_X30 : Hid (Dm w X30 p a0 len cap b2 b3 n (.slice (some ⟨g, 0, none⟩) ks.length uc)) := hD_X29.out.grown hO_X29.out (Nat.le_refl _) hg8
                  obtain ⟨va, vn, vc, rfl⟩ := own_slice o8
                  have hO8 : Hid (OwnI X30 w.heap.size X30.heap.size (.slice va vn vc) (ks ++ [z])) := o8
                  clear o8
                  refine hK.out _ _ trivial (fun _ => ?_)
                  try go_frame
                  refine takeW 9 64 (.pointer (some ⟨b3, 1, none⟩)) rfl (by kernel_rfl) (by kernel_rfl) (by kernel_rfl) (fun _ _ _ h => h) (by kernel_rfl) (fun w' hS => by go_simp) trivial ?_
                  go_frame
                  refine wpAnyH_ready (rs := [10]) (by kernel_rfl) (by simp) ?_
                  refine AllReadyH.cons rfl (fun K hK => ?_) AllReadyH.nil
                  obtain ⟨c0, c1⟩ := sp_cells hD_X30.out.var
                  have f1 := hD_X30.out.var.frozen 1
                  go_simp
                  have hT := Tn.only (only_set X30 b3 1 (.slice va vn vc))
                  have ne8 := ownI_ne hO8.out hD_X30.out.var
                  have hO9 : Hid (OwnI (X30.setCell ⟨b3, 1, none⟩ (.slice va vn vc)) w.heap.size (X30.setCell ⟨b3, 1, none⟩ (.slice va vn vc)).heap.size (.slice va vn vc) (ks ++ [z])) := (hO8.out.tn ne8 (Nat.le_refl _) hT).wide (Nat.le_refl _) hT.size
                  have hD9 : Hid (Dm w (X30.setCell ⟨b3, 1, none⟩ (.slice va vn vc)) p a0 len cap b2 b3 n (.slice va vn vc)) := hD_X30.out.tn hT (hD_X30.out.var.set 1 (.slice va vn vc))
                  obtain ⟨W9, hW9⟩ : ∃ Y, X30.setCell ⟨b3, 1, none⟩ (.slice va vn vc) = Y := ⟨_, rfl⟩
                  rw [hW9] at hO9 hD9 ⊢
                  clear hW9 c0 c1 f1
                  refine hK.out _ _ trivial (fun _ => ?_)
                  refine wpAnyH_done (by kernel_rfl) ?_ _
                  obtain ⟨c0, c1⟩ := sp_cells hD9.out.var
                  go_wp2_with (first | (refine wpList_store_v rfl 27 _ _ rfl b2 [.int .i64 n, .slice va vn vc] rfl rfl sizeSp hD9.out.res rfl (by simp [Value.oneCell']) ?_; intro w9 hO9x hV9) | (fail))
                  exact row_retv rfl rfl hV9 Try.underlying27 sizeSp rfl ⟨n, _, ks ++ [z], rfl, by omega, by omega, by simp; omega, fun k hk => (by rcases List.mem_append.1 hk with h | h; (· exact HKS.out k h); (· simp at h; omega)), (own_only7 hO9.out (ownI_ne hO9.out hD9.out.res) hO9x).rd, own_abv hO8.out, cur_below hD9.out.cur (hO9x.2.2 w.heap.size hD9.out.lo2) hp, gb_below hD9.out.gb (hO9x.2.2 w.heap.size hD9.out.lo2) (Nat.le_refl _)⟩
        · have R8 := hO.out.rd.start hk1
          have hgb3 : g ≠ b3 := fun e => ownI_ne hO.out hD.out.var (by rw [e]; rfl)
          have hgb2 : g ≠ b2 := fun e => ownI_ne hO.out hD.out.res (by rw [e]; rfl)
          have hgs : g < w9.heap.size := by have h0 := hO.out.top g rfl; have h1 := hO6.1; have h2 := hO9.1; omega
          rcases drop_two R8 hk1 with ⟨hpc, RD⟩ | ⟨hpc, RD⟩
          · have rdx := rds_at RD.out hgs ((hO9.2.1 g hgb2).trans (hO6.2.1 g hgb3))
            exact row_retv rfl rfl hV9 Try.underlying27 sizeSp rfl ⟨n, _, ks.drop 1, rfl, by omega, by omega, by simp; omega, fun k hk => hK.out k (List.mem_of_mem_drop hk), rdx, (fun g9 o9 s9 m9 c9 e9 => by cases e9; exact hg1), cur_below hD6.out.cur (hO9.2.2 w.heap.size hD6.out.lo2) hp, gb_below hD6.out.gb (hO9.2.2 w.heap.size hD6.out.lo2) (Nat.le_refl _)⟩
          · omega
        · have R8 := hO.out.rd.start hk1
          have hgb3 : g ≠ b3 := fun e => ownI_ne hO.out hD.out.var (by rw [e]; rfl)
          have hgb2 : g ≠ b2 := fun e => ownI_ne hO.out hD.out.res (by rw [e]; rfl)
          have hgs : g < w9.heap.size := by have h0 := hO.out.top g rfl; have h1 := hO6.1; have h2 := hO9.1; omega
          rcases drop_two R8 hk1 with ⟨hpc, RD⟩ | ⟨hpc, RD⟩
          · omega
          · have rdx := rds_at RD.out hgs ((hO9.2.1 g hgb2).trans (hO6.2.1 g hgb3))
            exact row_retv rfl rfl hV9 Try.underlying27 sizeSp rfl ⟨n, _, ks.drop 1, rfl, by omega, by omega, by simp; omega, fun k hk => hK.out k (List.mem_of_mem_drop hk), rdx, (fun g9 o9 s9 m9 c9 e9 => by cases e9; exact hg1), cur_below hD6.out.cur (hO9.2.2 w.heap.size hD6.out.lo2) hp, gb_below hD6.out.gb (hO9.2.2 w.heap.size hD6.out.lo2) (Nat.le_refl _)⟩
end Go.Proofs.Ytbialeffdpmcjaa.draw
