/- The walk of the law FnDoubled. -/
import Derived.Test.YtbialeffdpmcjaaLv1
namespace Go.Proofs.Ytbialeffdpmcjaa.lawDb
open Go.ChangeShapes Go.WideShapes Go.ChangeAt Go.RowKit
open Go.Proofs.Ytbialeffdpmcjaa.ce Go.Proofs.Ytbialeffdpmcjaa.sx Go.Proofs.Ytbialeffdpmcjaa.draw
set_option linter.unusedVariables false

theorem three_ways (n : Int) (ks : List Int) (N : Int) (hN : dbN n ks = N) : (¬ splitB n ks = true ∧ Hid (dbB n ks = false)) ∨ (splitB n ks = true ∧ Hid (n = 64) ∧ Hid (dbB n ks = false)) ∨ (splitB n ks = true ∧ n ≠ 64 ∧ Hid (dbB n ks = true) ∧ (N != 2 * n) = false) := by
  subst hN
  unfold Hid dbB dbN
  by_cases h : splitB n ks = true
  · by_cases h6 : n = 64
    · exact .inr (.inl ⟨h, h6, by rw [h6]; simp⟩)
    · exact .inr (.inr ⟨h, h6, by rw [h]; simpa using h6, by rw [if_pos h, if_neg h6]; simp⟩)
  · exact .inl ⟨h, by rw [show splitB n ks = false by simpa using h]; rfl⟩
/-- what the loop keeps: two splits in their variables, all below M -/
structure LD (w W : World) (M b3 b4 : Nat) (n : Int) (vs vx : Value) (ks : List Int) : Prop where
  c3 : SV W b3 27 (.int .i64 n) vs
  c4 : SV W b4 27 (.int .i64 (2 * n)) vx
  rs : RdI W M vs ks
  rx : RdI W M vx ks
  low : Below w.heap.size w W
  l3 : b3 < M
  l4 : b4 < M
  m : M ≤ W.heap.size
theorem LD.below {w W W' : World} {M B b3 b4 : Nat} {n : Int} {vs vx : Value} {ks : List Int} (h : LD w W M b3 b4 n vs vx ks) (hB : Below B W W') (hM : M ≤ B) (hw : w.heap.size ≤ M := by omega) : LD w W' M b3 b4 n vs vx ks :=
  ⟨h.c3.below hB (by have := h.l3; omega), h.c4.below hB (by have := h.l4; omega), h.rs.below hB hM, h.rx.below hB hM, h.low.trans (hB.mono (by omega)), h.l3, h.l4, Nat.le_trans h.m hB.size⟩
theorem LD.shift {w W : World} {M b3 b4 : Nat} {n : Int} {vs vx : Value} {ks : List Int} (h : LD w W M b3 b4 n vs vx ks) (hM : M ≤ W.heap.size) : LD w W W.heap.size b3 b4 n vs vx ks :=
  ⟨h.c3, h.c4, h.rs.wide hM, h.rx.wide hM, h.low, by have := h.l3; omega, by have := h.l4; omega, Nat.le_refl _⟩
theorem LD.cells {w W : World} {M b3 b4 : Nat} {n : Int} {vs vx : Value} {ks : List Int} (h : LD w W M b3 b4 n vs vx ks) : W.cell? ⟨b3, 0, none⟩ = some (.int .i64 n) ∧ W.cell? ⟨b3, 1, none⟩ = some vs ∧ W.cell? ⟨b4, 0, none⟩ = some (.int .i64 (2 * n)) ∧ W.cell? ⟨b4, 1, none⟩ = some vx := ⟨h.c3.cells.1, h.c3.cells.2, h.c4.cells.1, h.c4.cells.2⟩

set_option maxRecDepth 100000 in
set_option maxHeartbeats 1600000 in
theorem walk (a0 : Option Addr) (len cap : Nat) (w : World) (hl : len ≤ 4096) (hcode0 : CodeAt w a0 len) :
    Calls Try.prog 11 #[.slice a0 len cap] w fun e w' => e = .returned (.bool true) ∧ Below w.heap.size w w' := by
  have hC : Hid (CodeAt w a0 len) := hcode0
  clear hcode0
  have hl' : ¬ (4096 : Int) < (len : Int) := by omega
  go_enter Try.func11, Try.ntmps11
  have mk1 : Hid True := trivial
  have mk2 : Hid True := trivial
  have mk3 : Hid True := trivial
  have mk4 : Hid True := trivial
  have mk5 : Hid True := trivial
  have mk6 : Hid True := trivial
  have mk7 : Hid True := trivial
  have mk8 : Hid True := trivial
  have mk9 : Hid True := trivial
  have mk10 : Hid True := trivial
  go_wp2_with (first | (go_at_call 34; go_in) | (clear mk1; go_at_call 44; refine (draw.drawDoubled_any w a0 len cap hC.out).mono ?_; rintro er w1 ⟨n, v, ks, rfl, hn0, hn1, hlk, hkk, rd, ab, hB1⟩; have hz1 : w.heap.size ≤ w1.heap.size := hB1.size; have hB := hB1; have hzw := hB.size; obtain ⟨va, vc, rfl⟩ := rd.form; have rs : RdK w1 w1.heap.size (.slice va ks.length vc) ks := ⟨rd⟩; clear rd ab; have K63 : Hid (∀ k ∈ ks, k ≤ 9223372036854775807) := (fun k hk => by have := hkk k hk; omega); clear hkk; obtain ⟨N, hN⟩ := hid_ex (dbN n ks); obtain ⟨L, hL⟩ := hid_ex (dbK n ks); rcases three_ways n ks N hN.out with ⟨hok, hZ⟩ | ⟨hok, h64, hZ⟩ | ⟨hok, h64, hZ, hNe⟩) | (clear mk2; refine wpList_alloc_v rfl 27 rfl _ zeroSp ?_; intro b3 w2 hb3 hwb3 hB2 hVb3; have hz2 : w1.heap.size ≤ w2.heap.size := hB2.size; replace rs := rs.below hB2 (by omega); replace hB := hB.trans (hB2.mono (by omega)); replace hzw := hB.size; have c3 : SV w2 b3 27 (.int .i64 0) (.slice none 0 0) := ⟨hVb3⟩; clear hVb3; obtain ⟨c30, c31⟩ := c3.cells) | (clear mk3; refine wpList_store_v rfl 27 _ _ rfl b3 [.int .i64 n, .slice va ks.length vc] rfl rfl sizeSp c3.blk rfl (by simp [Value.oneCell']) ?_; intro w3 hO3 hVb3; have hz3 : w2.heap.size ≤ w3.heap.size := (Nat.le_of_eq hO3.1.symm); replace rs := rs.keep (w' := w3) (fun k g1 g2 => hO3.2.1 k (by omega)); replace hB := hB.trans (hO3.2.2 _ (by omega)); replace hzw := hB.size; replace c3 : SV w3 b3 27 (.int .i64 n) (.slice va ks.length vc) := ⟨hVb3⟩; clear hVb3; clear c30 c31; obtain ⟨c30, c31⟩ := c3.cells) | (clear mk4; go_at_call 26; refine (implDoubled_all n ks K63.out _ w1.heap.size _ (by omega) rs.rd).mono ?_; rintro er w4 ⟨vx, he, ox, hB4⟩; have hz4 : w3.heap.size ≤ w4.heap.size := hB4.size; replace rs := rs.below hB4 (by omega); replace c3 := c3.below hB4 (by omega); replace hB := hB.trans (hB4.mono (by omega)); replace hzw := hB.size; clear c30 c31; obtain ⟨c30, c31⟩ := c3.cells; rw [hN.out, hZ.out] at he; subst he; rw [hL.out] at ox; obtain ⟨Ax, Nx, Kx, rfl⟩ := own_slice ox) | (clear mk5; refine wpList_alloc_v rfl 27 rfl _ zeroSp ?_; intro b4 w5 hb4 hwb4 hB5 hVb4; have hz5 : w4.heap.size ≤ w5.heap.size := hB5.size; replace rs := rs.below hB5 (by omega); replace ox := ox.below hB5 (by omega); replace c3 := c3.below hB5 (by omega); replace hB := hB.trans (hB5.mono (by omega)); replace hzw := hB.size; clear c30 c31; obtain ⟨c30, c31⟩ := c3.cells; have c4 : SV w5 b4 27 (.int .i64 0) (.slice none 0 0) := ⟨hVb4⟩; clear hVb4; obtain ⟨c40, c41⟩ := c4.cells) | (clear mk6; refine wpList_store_v rfl 27 _ _ rfl b4 [.int .i64 N, .slice Ax Nx Kx] rfl rfl sizeSp c4.blk rfl (by simp [Value.oneCell']) ?_; intro w6 hO6 hVb4; have hz6 : w5.heap.size ≤ w6.heap.size := (Nat.le_of_eq hO6.1.symm); replace rs := rs.keep (w' := w6) (fun k g1 g2 => hO6.2.1 k (by omega)); replace ox := ox.keep (w' := w6) (fun k g1 g2 => hO6.2.1 k (by omega)); replace c3 := c3.keep (w' := w6) (fun k g1 g2 => hO6.2.1 k (by omega)); replace hB := hB.trans (hO6.2.2 _ (by omega)); replace hzw := hB.size; clear c30 c31; obtain ⟨c30, c31⟩ := c3.cells; replace c4 : SV w6 b4 27 (.int .i64 N) (.slice Ax Nx Kx) := ⟨hVb4⟩; clear hVb4; clear c40 c41; obtain ⟨c40, c41⟩ := c4.cells) | (clear mk7; go_at_call 25; refine (specDoubled_all n ks K63.out _ w1.heap.size _ (by omega) rs.rd).mono ?_; rintro er w7 ⟨vy, he, oy, hB7⟩; have hz7 : w6.heap.size ≤ w7.heap.size := hB7.size; replace rs := rs.below hB7 (by omega); replace ox := ox.below hB7 (by omega); replace c3 := c3.below hB7 (by omega); replace c4 := c4.below hB7 (by omega); replace hB := hB.trans (hB7.mono (by omega)); replace hzw := hB.size; clear c30 c31; obtain ⟨c30, c31⟩ := c3.cells; clear c40 c41; obtain ⟨c40, c41⟩ := c4.cells; rw [hN.out, hZ.out] at he; subst he; rw [hL.out] at oy; obtain ⟨Ay, Ny, Ky, rfl⟩ := own_slice oy) | (clear mk8; refine wpList_alloc_v rfl 27 rfl _ zeroSp ?_; intro b6 w8 hb6 hwb6 hB8 hVb6; have hz8 : w7.heap.size ≤ w8.heap.size := hB8.size; replace rs := rs.below hB8 (by omega); replace ox := ox.below hB8 (by omega); replace oy := oy.below hB8 (by omega); replace c3 := c3.below hB8 (by omega); replace c4 := c4.below hB8 (by omega); replace hB := hB.trans (hB8.mono (by omega)); replace hzw := hB.size; clear c30 c31; obtain ⟨c30, c31⟩ := c3.cells; clear c40 c41; obtain ⟨c40, c41⟩ := c4.cells; have c6 : SV w8 b6 27 (.int .i64 0) (.slice none 0 0) := ⟨hVb6⟩; clear hVb6; obtain ⟨c60, c61⟩ := c6.cells) | (clear mk9; refine wpList_store_v rfl 27 _ _ rfl b6 [.int .i64 N, .slice Ay Ny Ky] rfl rfl sizeSp c6.blk rfl (by simp [Value.oneCell']) ?_; intro w9 hO9 hVb6; have hz9 : w8.heap.size ≤ w9.heap.size := (Nat.le_of_eq hO9.1.symm); replace rs := rs.keep (w' := w9) (fun k g1 g2 => hO9.2.1 k (by omega)); replace ox := ox.keep (w' := w9) (fun k g1 g2 => hO9.2.1 k (by omega)); replace oy := oy.keep (w' := w9) (fun k g1 g2 => hO9.2.1 k (by omega)); replace c3 := c3.keep (w' := w9) (fun k g1 g2 => hO9.2.1 k (by omega)); replace c4 := c4.keep (w' := w9) (fun k g1 g2 => hO9.2.1 k (by omega)); replace hB := hB.trans (hO9.2.2 _ (by omega)); replace hzw := hB.size; clear c30 c31; obtain ⟨c30, c31⟩ := c3.cells; clear c40 c41; obtain ⟨c40, c41⟩ := c4.cells; replace c6 : SV w9 b6 27 (.int .i64 N) (.slice Ay Ny Ky) := ⟨hVb6⟩; clear hVb6; clear c60 c61; obtain ⟨c60, c61⟩ := c6.cells) | (clear mk10; go_at_call 39; refine (likeSplit_any N L _ _ w4.heap.size w7.heap.size _ (by omega) (by omega) ox.rd oy.rd).mono ?_; rintro er w10 ⟨rfl, hB10⟩; have hz10 : w9.heap.size ≤ w10.heap.size := hB10.size; replace rs := rs.below hB10 (by omega); replace ox := ox.below hB10 (by omega); replace oy := oy.below hB10 (by omega); replace c3 := c3.below hB10 (by omega); replace c4 := c4.below hB10 (by omega); replace c6 := c6.below hB10 (by omega); replace hB := hB.trans (hB10.mono (by omega)); replace hzw := hB.size; clear c30 c31; obtain ⟨c30, c31⟩ := c3.cells; clear c40 c41; obtain ⟨c40, c41⟩ := c4.cells; clear c60 c61; obtain ⟨c60, c61⟩ := c6.cells) | (fail))
  · have HK : Hid (splitB n ks = false) := by unfold Hid; simpa using hok
    have eN : 0 = N := by rw [← hN.out]; exact (if_neg hok).symm
    have eL : [] = L := by rw [← hL.out]; exact (if_neg hok).symm
    clear hN hL
    subst eN
    subst eL
    clear hok
    have mk11 : Hid True := trivial
    have mk12 : Hid True := trivial
    go_wp2_with (first | (clear mk11; go_at_call 13; refine (specSplitOk_any n ks _ w1.heap.size _ (by omega) rs.rd).mono ?_; rintro er w11 ⟨rfl, hB11⟩; have hz11 : w10.heap.size ≤ w11.heap.size := hB11.size; replace rs := rs.below hB11 (by omega); replace ox := ox.below hB11 (by omega); replace oy := oy.below hB11 (by omega); replace c3 := c3.below hB11 (by omega); replace c4 := c4.below hB11 (by omega); replace c6 := c6.below hB11 (by omega); replace hB := hB.trans (hB11.mono (by omega)); replace hzw := hB.size; clear c30 c31; obtain ⟨c30, c31⟩ := c3.cells; clear c40 c41; obtain ⟨c40, c41⟩ := c4.cells; clear c60 c61; obtain ⟨c60, c61⟩ := c6.cells; rw [HK.out]) | (clear mk12; go_at_call 39; refine (likeSplit_any 0 [] _ _ w4.heap.size 0 _ (by omega) (Nat.zero_le _) ox.rd (rdi_none _ _)).mono ?_; rintro er w12 ⟨rfl, hB12⟩; have hz12 : w11.heap.size ≤ w12.heap.size := hB12.size; replace rs := rs.below hB12 (by omega); replace ox := ox.below hB12 (by omega); replace oy := oy.below hB12 (by omega); replace c3 := c3.below hB12 (by omega); replace c4 := c4.below hB12 (by omega); replace c6 := c6.below hB12 (by omega); replace hB := hB.trans (hB12.mono (by omega)); replace hzw := hB.size; clear c30 c31; obtain ⟨c30, c31⟩ := c3.cells; clear c40 c41; obtain ⟨c40, c41⟩ := c4.cells; clear c60 c61; obtain ⟨c60, c61⟩ := c6.cells) | (fail))
    go_ret
    exact ⟨rfl, hB⟩
  · have HK : Hid (splitB n ks = true) := hok
    have eN : n = N := by rw [← hN.out]; unfold dbN; rw [if_pos hok, if_pos h64.out]
    have eL : ks = L := by rw [← hL.out]; exact (if_pos hok).symm
    clear hN hL
    subst eN
    subst eL
    have h64b : (n == 64) = true := by simpa using h64.out
    clear hok h64
    have mk11 : Hid True := trivial
    have mk12 : Hid True := trivial
    go_wp2_with (first | (clear mk11; go_at_call 13; refine (specSplitOk_any n ks _ w1.heap.size _ (by omega) rs.rd).mono ?_; rintro er w11 ⟨rfl, hB11⟩; have hz11 : w10.heap.size ≤ w11.heap.size := hB11.size; replace rs := rs.below hB11 (by omega); replace ox := ox.below hB11 (by omega); replace oy := oy.below hB11 (by omega); replace c3 := c3.below hB11 (by omega); replace c4 := c4.below hB11 (by omega); replace c6 := c6.below hB11 (by omega); replace hB := hB.trans (hB11.mono (by omega)); replace hzw := hB.size; clear c30 c31; obtain ⟨c30, c31⟩ := c3.cells; clear c40 c41; obtain ⟨c40, c41⟩ := c4.cells; clear c60 c61; obtain ⟨c60, c61⟩ := c6.cells; rw [HK.out]) | (clear mk12; go_at_call 39; refine (likeSplit_any n ks _ _ w4.heap.size w1.heap.size _ (by omega) (by omega) ox.rd rs.rd).mono ?_; rintro er w12 ⟨rfl, hB12⟩; have hz12 : w11.heap.size ≤ w12.heap.size := hB12.size; replace rs := rs.below hB12 (by omega); replace ox := ox.below hB12 (by omega); replace oy := oy.below hB12 (by omega); replace c3 := c3.below hB12 (by omega); replace c4 := c4.below hB12 (by omega); replace c6 := c6.below hB12 (by omega); replace hB := hB.trans (hB12.mono (by omega)); replace hzw := hB.size; clear c30 c31; obtain ⟨c30, c31⟩ := c3.cells; clear c40 c41; obtain ⟨c40, c41⟩ := c4.cells; clear c60 c61; obtain ⟨c60, c61⟩ := c6.cells) | (fail))
    go_ret
    exact ⟨rfl, hB⟩
  · have HK : Hid (splitB n ks = true) := hok
    have OK := splitB_iff.1 hok
    have hn := OK.bd
    have h2ok := double_ok OK h64
    have HK2 : Hid (splitB (2 * n) ks = true) := splitB_iff.2 h2ok
    have eN : 2 * n = N := by rw [← hN.out]; unfold dbN; rw [if_pos hok, if_neg h64]
    have eL : ks = L := by rw [← hL.out]; exact (if_pos hok).symm
    clear hN hL
    subst eN
    subst eL
    have hw : wrap64 (2 * n) = 2 * n := IntWalk.wrap64_in _ ⟨by omega, by omega⟩
    have hww : ((2 * n) != (2 * n)) = false := by simp
    have HT : Hid (∀ b : Int, 0 ≤ b → b < n → beL n ks b = beL (2 * n) ks b ++ beL (2 * n) ks (b + n)) := fun b h0 h1 => behind_two OK h64 h0 h1
    clear hok OK h2ok
    have mk11 : Hid True := trivial
    have mk12 : Hid True := trivial
    go_wp2_with (first | (clear mk11; go_at_call 40; refine (likeInts_any ks _ _ w4.heap.size w1.heap.size _ (by omega) (by omega) ox.rd rs.rd).mono ?_; rintro er w11 ⟨rfl, hB11⟩; have hz11 : w10.heap.size ≤ w11.heap.size := hB11.size; replace rs := rs.below hB11 (by omega); replace ox := ox.below hB11 (by omega); replace oy := oy.below hB11 (by omega); replace c3 := c3.below hB11 (by omega); replace c4 := c4.below hB11 (by omega); replace c6 := c6.below hB11 (by omega); replace hB := hB.trans (hB11.mono (by omega)); replace hzw := hB.size; clear c30 c31; obtain ⟨c30, c31⟩ := c3.cells; clear c40 c41; obtain ⟨c40, c41⟩ := c4.cells; clear c60 c61; obtain ⟨c60, c61⟩ := c6.cells) | (clear mk12; go_at_call 15; refine (implSplitOk_any (2 * n) ks K63.out _ w4.heap.size _ (by omega) ox.rd).mono ?_; rintro er w12 ⟨rfl, hB12⟩; have hz12 : w11.heap.size ≤ w12.heap.size := hB12.size; replace rs := rs.below hB12 (by omega); replace ox := ox.below hB12 (by omega); replace oy := oy.below hB12 (by omega); replace c3 := c3.below hB12 (by omega); replace c4 := c4.below hB12 (by omega); replace c6 := c6.below hB12 (by omega); replace hB := hB.trans (hB12.mono (by omega)); replace hzw := hB.size; clear c30 c31; obtain ⟨c30, c31⟩ := c3.cells; clear c40 c41; obtain ⟨c40, c41⟩ := c4.cells; clear c60 c61; obtain ⟨c60, c61⟩ := c6.cells; rw [HK2.out]) | (fail))
    have hS : Hid (LD w w12 w12.heap.size b3 b4 n (.slice va ks.length vc) (.slice Ax Nx Kx) ks) := (⟨c3, c4, rs.rd.wide (by omega), ox.rd.wide (by omega), hB, by omega, by omega, Nat.le_refl _⟩ : LD w w12 w12.heap.size b3 b4 n (.slice va ks.length vc) (.slice Ax Nx Kx) ks)
    clear c3 c4 c6 oy rs ox c30 c31 c40 c41 c60 c61
    go_loopw [8] (fun q wr => ∃ b : Int, q = .int .i64 b ∧ 0 ≤ b ∧ b ≤ n ∧ Hid (LD w wr wr.heap.size b3 b4 n (.slice va ks.length vc) (.slice Ax Nx Kx) ks)) (fun q _ => (n - intOf q).toNat)
    case atStart => exact ⟨0, rfl, by omega, by omega, hS⟩
    case round =>
      clear hS
      obtain ⟨b, rfl, hb0, hb1, hS⟩ := hrel
      have hwr : w.heap.size ≤ wr.heap.size := hS.out.low.size
      obtain ⟨c30, c31, c40, c41⟩ := hS.out.cells
      by_cases hlt : b < n
      · obtain ⟨A, hA⟩ := hid_ex (beL n ks b)
        have hl1 := beL_len (2 * n) ks b
        have hl2 := beL_len (2 * n) ks (b + n)
        obtain ⟨B1, hB1⟩ := hid_ex (beL (2 * n) ks b)
        obtain ⟨B2, hB2⟩ := hid_ex (beL (2 * n) ks (b + n))
        rw [hB1.out] at hl1
        rw [hB2.out] at hl2
        have eAB : Hid (A = B1 ++ B2) := by unfold Hid; rw [← hA.out, ← hB1.out, ← hB2.out]; exact HT.out b hb0 hlt
        have hws : IntKind.i64.wrap (b + n) = b + n := by rw [IntKind.wrap_i64]; omega
        have hwt : wrap64 (b + n) = b + n := IntWalk.wrap64_in _ ⟨by omega, by omega⟩
        go_wp2
        clear c30 c31 c40 c41
        obtain ⟨X0, hX0⟩ : ∃ Y, wr.drew = Y := ⟨_, rfl⟩
        have hD_X0 : Hid (LD w X0 wr.heap.size b3 b4 n (.slice va ks.length vc) (.slice Ax Nx Kx) ks) := by rw [← hX0]; exact hS.out.below ((Below.refl _ _).drew) (Nat.le_refl _)
        have hM_X0 : wr.heap.size ≤ X0.heap.size := by rw [← hX0]; exact Nat.le_refl _
        obtain ⟨c30, c31, c40, c41⟩ := hS.out.cells
        refine wp_region_held_drew (S := fun w' => (w'.cell? ⟨b3, 0, none⟩ = some (.int .i64 n) ∧ w'.cell? ⟨b3, 1, none⟩ = some (.slice va ks.length vc) ∧ w'.cell? ⟨b4, 0, none⟩ = some (.int .i64 (2 * n)) ∧ w'.cell? ⟨b4, 1, none⟩ = some (.slice Ax Nx Kx))) (by kernel_rfl) ⟨c30, c31, c40, c41⟩ (fun _ => ?_)
        rw [hX0]
        clear hX0 c30 c31 c40 c41
        refine takeW 0 77 (.agg #[.int .i64 n, .slice va ks.length vc]) rfl (by kernel_rfl) (by kernel_rfl) (by kernel_rfl) (fun _ _ _ h => h) (by kernel_rfl) (fun w' hS => by obtain ⟨z0, z1, z2, z3⟩ := hS; go_simp) hD_X0.out.cells ?_
        go_frame
        refine takeW 1 78 (.int .i64 b) rfl (by kernel_rfl) (by kernel_rfl) (by kernel_rfl) (fun _ _ _ h => h) (by kernel_rfl) (fun w' hS => by go_simp) hD_X0.out.cells ?_
        go_frame
        refine takeW 4 81 (.agg #[.int .i64 (2 * n), .slice Ax Nx Kx]) rfl (by kernel_rfl) (by kernel_rfl) (by kernel_rfl) (fun _ _ _ h => h) (by kernel_rfl) (fun w' hS => by obtain ⟨z0, z1, z2, z3⟩ := hS; go_simp) hD_X0.out.cells ?_
        go_frame
        refine takeW 5 82 (.int .i64 b) rfl (by kernel_rfl) (by kernel_rfl) (by kernel_rfl) (fun _ _ _ h => h) (by kernel_rfl) (fun w' hS => by go_simp) hD_X0.out.cells ?_
        go_frame
        refine takeW 8 85 (.agg #[.int .i64 (2 * n), .slice Ax Nx Kx]) rfl (by kernel_rfl) (by kernel_rfl) (by kernel_rfl) (fun _ _ _ h => h) (by kernel_rfl) (fun w' hS => by obtain ⟨z0, z1, z2, z3⟩ := hS; go_simp) hD_X0.out.cells ?_
        go_frame
        refine takeW 9 86 (.int .i64 b) rfl (by kernel_rfl) (by kernel_rfl) (by kernel_rfl) (fun _ _ _ h => h) (by kernel_rfl) (fun w' hS => by go_simp) hD_X0.out.cells ?_
        go_frame
        refine takeW 10 87 (.pointer (some ⟨b3, 0, none⟩)) rfl (by kernel_rfl) (by kernel_rfl) (by kernel_rfl) (fun _ _ _ h => h) (by kernel_rfl) (fun w' hS => by go_simp) hD_X0.out.cells ?_
        go_frame
        refine takeW 11 88 (.int .i64 n) rfl (by kernel_rfl) (by kernel_rfl) (by kernel_rfl) (fun _ _ _ h => h) (by kernel_rfl) (fun w' hS => by obtain ⟨z0, z1, z2, z3⟩ := hS; go_simp) hD_X0.out.cells ?_
        go_frame
        refine takeW 12 89 (.int .i64 (b + n)) rfl (by kernel_rfl) (by kernel_rfl) (by kernel_rfl) (fun _ _ _ h => h) (by kernel_rfl) (fun w' hS => by go_simp) hD_X0.out.cells ?_
        go_frame
        refine wpAnyH_ready (rs := [2, 3]) (by kernel_rfl) (by simp) ?_
        refine AllReadyH.cons rfl (fun K hK => ?_) (AllReadyH.cons rfl (fun K hK => ?_) AllReadyH.nil)
        · go_simp
          go_at_call 28
          refine (implBehind_all (n) ks K63.out _ wr.heap.size X0 (by omega) hD_X0.out.rs (b)).mono ?_
          rintro er X1 ⟨va7, rfl, oa, hB_X1⟩
          rw [hA.out] at oa
          obtain ⟨ava7, nva7, kva7, rfl⟩ := own_slice oa
          have hz_X1 : X0.heap.size ≤ X1.heap.size := hB_X1.size
          have hD_X1 : Hid (LD w X1 wr.heap.size b3 b4 n (.slice va ks.length vc) (.slice Ax Nx Kx) ks) := hD_X0.out.below hB_X1 (by omega)
          have hM_X1 : wr.heap.size ≤ X1.heap.size := by omega
          refine hK.out _ _ hD_X1.out.cells (fun _ => ?_)
          try go_frame
          refine wpAnyH_ready (rs := [3, 6]) (by kernel_rfl) (by simp) ?_
          refine AllReadyH.cons rfl (fun K hK => ?_) (AllReadyH.cons rfl (fun K hK => ?_) AllReadyH.nil)
          · go_simp
            have hB_X2 : Below X1.heap.size X1 (X1.alloc (.cells #[] 2)) := (Below.refl _ _).alloc (Nat.le_refl _) _
            obtain ⟨g, hg⟩ : ∃ g, X1.heap.size = g := ⟨_, rfl⟩
            obtain ⟨X2, hX2⟩ : ∃ Y, X1.alloc (.cells #[] 2) = Y := ⟨_, rfl⟩
            rw [hX2] at hB_X2 ⊢
            clear hX2
            have hz_X2 : X1.heap.size ≤ X2.heap.size := hB_X2.size
            have hD_X2 : Hid (LD w X2 wr.heap.size b3 b4 n (.slice va ks.length vc) (.slice Ax Nx Kx) ks) := hD_X1.out.below hB_X2 (by omega)
            have hM_X2 : wr.heap.size ≤ X2.heap.size := by omega
            replace oa := oa.below hB_X2 (by omega)
            rw [hg]
            clear hg
            refine hK.out _ _ hD_X2.out.cells (fun _ => ?_)
            try go_frame
            refine wpAnyH_ready (rs := [6]) (by kernel_rfl) (by simp) ?_
            refine AllReadyH.cons rfl (fun K hK => ?_) AllReadyH.nil
            go_simp
            go_at_call 28
            refine (implBehind_all (2 * n) ks K63.out _ wr.heap.size X2 (by omega) hD_X2.out.rx (b)).mono ?_
            rintro er X3 ⟨vb, rfl, ob, hB_X3⟩
            rw [hB1.out] at ob
            obtain ⟨avb, nvb, kvb, rfl⟩ := own_slice ob
            have hz_X3 : X2.heap.size ≤ X3.heap.size := hB_X3.size
            have hD_X3 : Hid (LD w X3 wr.heap.size b3 b4 n (.slice va ks.length vc) (.slice Ax Nx Kx) ks) := hD_X2.out.below hB_X3 (by omega)
            have hM_X3 : wr.heap.size ≤ X3.heap.size := by omega
            replace oa := oa.below hB_X3 (by omega)
            refine hK.out _ _ hD_X3.out.cells (fun _ => ?_)
            try go_frame
            refine wpAnyH_ready (rs := [7]) (by kernel_rfl) (by simp) ?_
            refine AllReadyH.cons rfl (fun K hK => ?_) AllReadyH.nil
            refine step_append_o rfl _ _ 22 rfl Try.underlying22 g X3.heap.size X3.heap.size _ [] rfl (.inl ⟨rfl, rfl⟩) (Nat.le_refl _) _ _ _ B1 rfl ob (by simp; omega) ?_
            intro ve X4 oe hB_X4
            rw [List.nil_append] at oe
            obtain ⟨ae, ne, ke, rfl⟩ := outI_slice oe
            clear ob
            have hz_X4 : X3.heap.size ≤ X4.heap.size := hB_X4.size
            have hD_X4 : Hid (LD w X4 wr.heap.size b3 b4 n (.slice va ks.length vc) (.slice Ax Nx Kx) ks) := hD_X3.out.below hB_X4 (by omega)
            have hM_X4 : wr.heap.size ≤ X4.heap.size := by omega
            replace oa := oa.below hB_X4 (by omega)
            refine hK.out _ _ hD_X4.out.cells (fun _ => ?_)
            try go_frame
            refine wpAnyH_ready (rs := [13]) (by kernel_rfl) (by simp) ?_
            refine AllReadyH.cons rfl (fun K hK => ?_) AllReadyH.nil
            go_simp
            go_at_call 28
            refine (implBehind_all (2 * n) ks K63.out _ wr.heap.size X4 (by omega) hD_X4.out.rx (b + n)).mono ?_
            rintro er X5 ⟨vd, rfl, od, hB_X5⟩
            rw [hB2.out] at od
            obtain ⟨avd, nvd, kvd, rfl⟩ := own_slice od
            have hz_X5 : X4.heap.size ≤ X5.heap.size := hB_X5.size
            have hD_X5 : Hid (LD w X5 wr.heap.size b3 b4 n (.slice va ks.length vc) (.slice Ax Nx Kx) ks) := hD_X4.out.below hB_X5 (by omega)
            have hM_X5 : wr.heap.size ≤ X5.heap.size := by omega
            replace oa := oa.below hB_X5 (by omega)
            replace oe := oe.below hB_X5 (Nat.le_refl _)
            refine hK.out _ _ hD_X5.out.cells (fun _ => ?_)
            try go_frame
            refine wpAnyH_ready (rs := [14]) (by kernel_rfl) (by simp) ?_
            refine AllReadyH.cons rfl (fun K hK => ?_) AllReadyH.nil
            refine step_append_o rfl _ _ 22 rfl Try.underlying22 g X3.heap.size _ _ B1 rfl oe (by omega) _ _ _ B2 rfl od (by omega) ?_
            intro vf X6 of hB_X6
            obtain ⟨af, nf, kf, rfl⟩ := outI_slice of
            clear od oe
            have hz_X6 : X5.heap.size ≤ X6.heap.size := hB_X6.size
            have hD_X6 : Hid (LD w X6 wr.heap.size b3 b4 n (.slice va ks.length vc) (.slice Ax Nx Kx) ks) := hD_X5.out.below hB_X6 (by omega)
            have hM_X6 : wr.heap.size ≤ X6.heap.size := by omega
            replace oa := oa.below hB_X6 (by omega)
            refine hK.out _ _ hD_X6.out.cells (fun _ => ?_)
            try go_frame
            refine wpAnyH_ready (rs := [15]) (by kernel_rfl) (by simp) ?_
            refine AllReadyH.cons rfl (fun K hK => ?_) AllReadyH.nil
            go_simp
            go_at_call 40
            rw [eAB.out] at oa
            refine (likeInts_any (B1 ++ B2) _ _ _ X6.heap.size X6 (by omega) (Nat.le_refl _) oa.rd (outI_rd of)).mono ?_
            rintro er X7 ⟨rfl, hB_X7⟩
            clear oa of
            have hz_X7 : X6.heap.size ≤ X7.heap.size := hB_X7.size
            have hD_X7 : Hid (LD w X7 wr.heap.size b3 b4 n (.slice va ks.length vc) (.slice Ax Nx Kx) ks) := hD_X6.out.below hB_X7 (by omega)
            have hM_X7 : wr.heap.size ≤ X7.heap.size := by omega
            refine hK.out _ _ hD_X7.out.cells (fun _ => ?_)
            try go_frame
            refine takeW 16 93 (.bool false) rfl (by kernel_rfl) (by kernel_rfl) (by kernel_rfl) (fun _ _ _ h => h) (by kernel_rfl) (fun w' hS => by go_simp) hD_X7.out.cells ?_
            go_frame
            refine wpAnyH_done (by kernel_rfl) ?_ _
            go_wp2
            go_roundw
            case rel => exact ⟨b + 1, by go_num, by omega, by omega, hD_X7.out.shift (by omega)⟩
            case measure => simp [intOf]; omega
          · go_simp
            go_at_call 28
            refine (implBehind_all (2 * n) ks K63.out _ wr.heap.size X1 (by omega) hD_X1.out.rx (b)).mono ?_
            rintro er X8 ⟨vb, rfl, ob, hB_X8⟩
            rw [hB1.out] at ob
            obtain ⟨avb, nvb, kvb, rfl⟩ := own_slice ob
            have hz_X8 : X1.heap.size ≤ X8.heap.size := hB_X8.size
            have hD_X8 : Hid (LD w X8 wr.heap.size b3 b4 n (.slice va ks.length vc) (.slice Ax Nx Kx) ks) := hD_X1.out.below hB_X8 (by omega)
            have hM_X8 : wr.heap.size ≤ X8.heap.size := by omega
            replace oa := oa.below hB_X8 (by omega)
            refine hK.out _ _ hD_X8.out.cells (fun _ => ?_)
            try go_frame
            refine wpAnyH_ready (rs := [3]) (by kernel_rfl) (by simp) ?_
            refine AllReadyH.cons rfl (fun K hK => ?_) AllReadyH.nil
            go_simp
            have hB_X9 : Below X8.heap.size X8 (X8.alloc (.cells #[] 2)) := (Below.refl _ _).alloc (Nat.le_refl _) _
            obtain ⟨g, hg⟩ : ∃ g, X8.heap.size = g := ⟨_, rfl⟩
            obtain ⟨X9, hX9⟩ : ∃ Y, X8.alloc (.cells #[] 2) = Y := ⟨_, rfl⟩
            rw [hX9] at hB_X9 ⊢
            clear hX9
            have hz_X9 : X8.heap.size ≤ X9.heap.size := hB_X9.size
            have hD_X9 : Hid (LD w X9 wr.heap.size b3 b4 n (.slice va ks.length vc) (.slice Ax Nx Kx) ks) := hD_X8.out.below hB_X9 (by omega)
            have hM_X9 : wr.heap.size ≤ X9.heap.size := by omega
            replace oa := oa.below hB_X9 (by omega)
            replace ob := ob.below hB_X9 (by omega)
            rw [hg]
            clear hg
            refine hK.out _ _ hD_X9.out.cells (fun _ => ?_)
            try go_frame
            refine wpAnyH_ready (rs := [7]) (by kernel_rfl) (by simp) ?_
            refine AllReadyH.cons rfl (fun K hK => ?_) AllReadyH.nil
            refine step_append_o rfl _ _ 22 rfl Try.underlying22 g X9.heap.size X9.heap.size _ [] rfl (.inl ⟨rfl, rfl⟩) (Nat.le_refl _) _ _ _ B1 rfl ob (by simp; omega) ?_
            intro ve X10 oe hB_X10
            rw [List.nil_append] at oe
            obtain ⟨ae, ne, ke, rfl⟩ := outI_slice oe
            clear ob
            have hz_X10 : X9.heap.size ≤ X10.heap.size := hB_X10.size
            have hD_X10 : Hid (LD w X10 wr.heap.size b3 b4 n (.slice va ks.length vc) (.slice Ax Nx Kx) ks) := hD_X9.out.below hB_X10 (by omega)
            have hM_X10 : wr.heap.size ≤ X10.heap.size := by omega
            replace oa := oa.below hB_X10 (by omega)
            refine hK.out _ _ hD_X10.out.cells (fun _ => ?_)
            try go_frame
            refine wpAnyH_ready (rs := [13]) (by kernel_rfl) (by simp) ?_
            refine AllReadyH.cons rfl (fun K hK => ?_) AllReadyH.nil
            go_simp
            go_at_call 28
            refine (implBehind_all (2 * n) ks K63.out _ wr.heap.size X10 (by omega) hD_X10.out.rx (b + n)).mono ?_
            rintro er X11 ⟨vd, rfl, od, hB_X11⟩
            rw [hB2.out] at od
            obtain ⟨avd, nvd, kvd, rfl⟩ := own_slice od
            have hz_X11 : X10.heap.size ≤ X11.heap.size := hB_X11.size
            have hD_X11 : Hid (LD w X11 wr.heap.size b3 b4 n (.slice va ks.length vc) (.slice Ax Nx Kx) ks) := hD_X10.out.below hB_X11 (by omega)
            have hM_X11 : wr.heap.size ≤ X11.heap.size := by omega
            replace oa := oa.below hB_X11 (by omega)
            replace oe := oe.below hB_X11 (Nat.le_refl _)
            refine hK.out _ _ hD_X11.out.cells (fun _ => ?_)
            try go_frame
            refine wpAnyH_ready (rs := [14]) (by kernel_rfl) (by simp) ?_
            refine AllReadyH.cons rfl (fun K hK => ?_) AllReadyH.nil
            refine step_append_o rfl _ _ 22 rfl Try.underlying22 g X9.heap.size _ _ B1 rfl oe (by omega) _ _ _ B2 rfl od (by omega) ?_
            intro vf X12 of hB_X12
            obtain ⟨af, nf, kf, rfl⟩ := outI_slice of
            clear od oe
            have hz_X12 : X11.heap.size ≤ X12.heap.size := hB_X12.size
            have hD_X12 : Hid (LD w X12 wr.heap.size b3 b4 n (.slice va ks.length vc) (.slice Ax Nx Kx) ks) := hD_X11.out.below hB_X12 (by omega)
            have hM_X12 : wr.heap.size ≤ X12.heap.size := by omega
            replace oa := oa.below hB_X12 (by omega)
            refine hK.out _ _ hD_X12.out.cells (fun _ => ?_)
            try go_frame
            refine wpAnyH_ready (rs := [15]) (by kernel_rfl) (by simp) ?_
            refine AllReadyH.cons rfl (fun K hK => ?_) AllReadyH.nil
            go_simp
            go_at_call 40
            rw [eAB.out] at oa
            refine (likeInts_any (B1 ++ B2) _ _ _ X12.heap.size X12 (by omega) (Nat.le_refl _) oa.rd (outI_rd of)).mono ?_
            rintro er X13 ⟨rfl, hB_X13⟩
            clear oa of
            have hz_X13 : X12.heap.size ≤ X13.heap.size := hB_X13.size
            have hD_X13 : Hid (LD w X13 wr.heap.size b3 b4 n (.slice va ks.length vc) (.slice Ax Nx Kx) ks) := hD_X12.out.below hB_X13 (by omega)
            have hM_X13 : wr.heap.size ≤ X13.heap.size := by omega
            refine hK.out _ _ hD_X13.out.cells (fun _ => ?_)
            try go_frame
            refine takeW 16 93 (.bool false) rfl (by kernel_rfl) (by kernel_rfl) (by kernel_rfl) (fun _ _ _ h => h) (by kernel_rfl) (fun w' hS => by go_simp) hD_X13.out.cells ?_
            go_frame
            refine wpAnyH_done (by kernel_rfl) ?_ _
            go_wp2
            go_roundw
            case rel => exact ⟨b + 1, by go_num, by omega, by omega, hD_X13.out.shift (by omega)⟩
            case measure => simp [intOf]; omega
        · go_simp
          have hB_X14 : Below X0.heap.size X0 (X0.alloc (.cells #[] 2)) := (Below.refl _ _).alloc (Nat.le_refl _) _
          obtain ⟨g, hg⟩ : ∃ g, X0.heap.size = g := ⟨_, rfl⟩
          obtain ⟨X14, hX14⟩ : ∃ Y, X0.alloc (.cells #[] 2) = Y := ⟨_, rfl⟩
          rw [hX14] at hB_X14 ⊢
          clear hX14
          have hz_X14 : X0.heap.size ≤ X14.heap.size := hB_X14.size
          have hD_X14 : Hid (LD w X14 wr.heap.size b3 b4 n (.slice va ks.length vc) (.slice Ax Nx Kx) ks) := hD_X0.out.below hB_X14 (by omega)
          have hM_X14 : wr.heap.size ≤ X14.heap.size := by omega
          rw [hg]
          clear hg
          refine hK.out _ _ hD_X14.out.cells (fun _ => ?_)
          try go_frame
          refine wpAnyH_ready (rs := [2]) (by kernel_rfl) (by simp) ?_
          refine AllReadyH.cons rfl (fun K hK => ?_) AllReadyH.nil
          go_simp
          go_at_call 28
          refine (implBehind_all (n) ks K63.out _ wr.heap.size X14 (by omega) hD_X14.out.rs (b)).mono ?_
          rintro er X15 ⟨va7, rfl, oa, hB_X15⟩
          rw [hA.out] at oa
          obtain ⟨ava7, nva7, kva7, rfl⟩ := own_slice oa
          have hz_X15 : X14.heap.size ≤ X15.heap.size := hB_X15.size
          have hD_X15 : Hid (LD w X15 wr.heap.size b3 b4 n (.slice va ks.length vc) (.slice Ax Nx Kx) ks) := hD_X14.out.below hB_X15 (by omega)
          have hM_X15 : wr.heap.size ≤ X15.heap.size := by omega
          refine hK.out _ _ hD_X15.out.cells (fun _ => ?_)
          try go_frame
          refine wpAnyH_ready (rs := [6]) (by kernel_rfl) (by simp) ?_
          refine AllReadyH.cons rfl (fun K hK => ?_) AllReadyH.nil
          go_simp
          go_at_call 28
          refine (implBehind_all (2 * n) ks K63.out _ wr.heap.size X15 (by omega) hD_X15.out.rx (b)).mono ?_
          rintro er X16 ⟨vb, rfl, ob, hB_X16⟩
          rw [hB1.out] at ob
          obtain ⟨avb, nvb, kvb, rfl⟩ := own_slice ob
          have hz_X16 : X15.heap.size ≤ X16.heap.size := hB_X16.size
          have hD_X16 : Hid (LD w X16 wr.heap.size b3 b4 n (.slice va ks.length vc) (.slice Ax Nx Kx) ks) := hD_X15.out.below hB_X16 (by omega)
          have hM_X16 : wr.heap.size ≤ X16.heap.size := by omega
          replace oa := oa.below hB_X16 (by omega)
          refine hK.out _ _ hD_X16.out.cells (fun _ => ?_)
          try go_frame
          refine wpAnyH_ready (rs := [7]) (by kernel_rfl) (by simp) ?_
          refine AllReadyH.cons rfl (fun K hK => ?_) AllReadyH.nil
          refine step_append_o rfl _ _ 22 rfl Try.underlying22 g X16.heap.size X16.heap.size _ [] rfl (.inl ⟨rfl, rfl⟩) (Nat.le_refl _) _ _ _ B1 rfl ob (by simp; omega) ?_
          intro ve X17 oe hB_X17
          rw [List.nil_append] at oe
          obtain ⟨ae, ne, ke, rfl⟩ := outI_slice oe
          clear ob
          have hz_X17 : X16.heap.size ≤ X17.heap.size := hB_X17.size
          have hD_X17 : Hid (LD w X17 wr.heap.size b3 b4 n (.slice va ks.length vc) (.slice Ax Nx Kx) ks) := hD_X16.out.below hB_X17 (by omega)
          have hM_X17 : wr.heap.size ≤ X17.heap.size := by omega
          replace oa := oa.below hB_X17 (by omega)
          refine hK.out _ _ hD_X17.out.cells (fun _ => ?_)
          try go_frame
          refine wpAnyH_ready (rs := [13]) (by kernel_rfl) (by simp) ?_
          refine AllReadyH.cons rfl (fun K hK => ?_) AllReadyH.nil
          go_simp
          go_at_call 28
          refine (implBehind_all (2 * n) ks K63.out _ wr.heap.size X17 (by omega) hD_X17.out.rx (b + n)).mono ?_
          rintro er X18 ⟨vd, rfl, od, hB_X18⟩
          rw [hB2.out] at od
          obtain ⟨avd, nvd, kvd, rfl⟩ := own_slice od
          have hz_X18 : X17.heap.size ≤ X18.heap.size := hB_X18.size
          have hD_X18 : Hid (LD w X18 wr.heap.size b3 b4 n (.slice va ks.length vc) (.slice Ax Nx Kx) ks) := hD_X17.out.below hB_X18 (by omega)
          have hM_X18 : wr.heap.size ≤ X18.heap.size := by omega
          replace oa := oa.below hB_X18 (by omega)
          replace oe := oe.below hB_X18 (Nat.le_refl _)
          refine hK.out _ _ hD_X18.out.cells (fun _ => ?_)
          try go_frame
          refine wpAnyH_ready (rs := [14]) (by kernel_rfl) (by simp) ?_
          refine AllReadyH.cons rfl (fun K hK => ?_) AllReadyH.nil
          refine step_append_o rfl _ _ 22 rfl Try.underlying22 g X16.heap.size _ _ B1 rfl oe (by omega) _ _ _ B2 rfl od (by omega) ?_
          intro vf X19 of hB_X19
          obtain ⟨af, nf, kf, rfl⟩ := outI_slice of
          clear od oe
          have hz_X19 : X18.heap.size ≤ X19.heap.size := hB_X19.size
          have hD_X19 : Hid (LD w X19 wr.heap.size b3 b4 n (.slice va ks.length vc) (.slice Ax Nx Kx) ks) := hD_X18.out.below hB_X19 (by omega)
          have hM_X19 : wr.heap.size ≤ X19.heap.size := by omega
          replace oa := oa.below hB_X19 (by omega)
          refine hK.out _ _ hD_X19.out.cells (fun _ => ?_)
          try go_frame
          refine wpAnyH_ready (rs := [15]) (by kernel_rfl) (by simp) ?_
          refine AllReadyH.cons rfl (fun K hK => ?_) AllReadyH.nil
          go_simp
          go_at_call 40
          rw [eAB.out] at oa
          refine (likeInts_any (B1 ++ B2) _ _ _ X19.heap.size X19 (by omega) (Nat.le_refl _) oa.rd (outI_rd of)).mono ?_
          rintro er X20 ⟨rfl, hB_X20⟩
          clear oa of
          have hz_X20 : X19.heap.size ≤ X20.heap.size := hB_X20.size
          have hD_X20 : Hid (LD w X20 wr.heap.size b3 b4 n (.slice va ks.length vc) (.slice Ax Nx Kx) ks) := hD_X19.out.below hB_X20 (by omega)
          have hM_X20 : wr.heap.size ≤ X20.heap.size := by omega
          refine hK.out _ _ hD_X20.out.cells (fun _ => ?_)
          try go_frame
          refine takeW 16 93 (.bool false) rfl (by kernel_rfl) (by kernel_rfl) (by kernel_rfl) (fun _ _ _ h => h) (by kernel_rfl) (fun w' hS => by go_simp) hD_X20.out.cells ?_
          go_frame
          refine wpAnyH_done (by kernel_rfl) ?_ _
          go_wp2
          go_roundw
          case rel => exact ⟨b + 1, by go_num, by omega, by omega, hD_X20.out.shift (by omega)⟩
          case measure => simp [intOf]; omega
      · go_wp2
        go_ret
        exact ⟨rfl, hS.out.low⟩
end Go.Proofs.Ytbialeffdpmcjaa.lawDb
