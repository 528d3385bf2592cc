/- The walk of the law FnSketch. -/
import Derived.Test.YtgdoclaifnnpgaaDraw3
import Derived.Test.YtgdoclaifnnpgaaSkMath
import Derived.Test.YtgdoclaifnnpgaaLike1
namespace Go.Proofs.Ytgdoclaifnnpgaa.lawSk
open Go.ChangeShapes Go.WideShapes Go.ChangeAt Go.RowKit
open Go.Proofs.Ytgdoclaifnnpgaa.sk Go.Proofs.Ytgdoclaifnnpgaa.draw
set_option linter.unusedVariables false

/-- two variables that hold a sketch each -/
structure Two (w : World) (H b3 b5 : Nat) (v x : Value) (n m : Int) (R X : List (List Int)) : Prop where
  hH : H ≤ w.heap.size
  sv : VBlk w b3 27 [v, .int .i64 n]
  xv : VBlk w b5 27 [x, .int .i64 m]
  l3 : b3 < H
  l5 : b5 < H
  rs : Rd w 0 H v R
  rx : Rd w 0 H x X
theorem Two.below {w w' : World} {H b3 b5 : Nat} {v x : Value} {n m : Int} {R X : List (List Int)} (h : Two w H b3 b5 v x n m R X) (hB : Below w.heap.size w w') : Two w' H b3 b5 v x n m R X := by
  have h1 := h.hH; have h2 := hB.size; have h3 := h.l3; have h5 := h.l5
  exact ⟨by omega, h.sv.below hB (by omega), h.xv.below hB (by omega), h.l3, h.l5, h.rs.below hB h1, h.rx.below hB h1⟩
theorem Two.drew {w : World} {H b3 b5 : Nat} {v x : Value} {n m : Int} {R X : List (List Int)} (h : Two w H b3 b5 v x n m R X) : Two w.drew H b3 b5 v x n m R X :=
  ⟨h.hH, h.sv, h.xv, h.l3, h.l5, h.rs.keep (fun _ _ _ => rfl), h.rx.keep (fun _ _ _ => rfl)⟩
theorem Two.cells {w : World} {H b3 b5 : Nat} {v x : Value} {n m : Int} {R X : List (List Int)} (h : Two w H b3 b5 v x n m R X) :
    w.cell? ⟨b3, 0, none⟩ = some v ∧ w.cell? ⟨b3, 1, none⟩ = some (.int .i64 n) ∧ w.cell? ⟨b5, 0, none⟩ = some x ∧ w.cell? ⟨b5, 1, none⟩ = some (.int .i64 m) := by
  have c0 := h.sv.cell 0 (by simp)
  have c1 := h.sv.cell 1 (by simp)
  have d0 := h.xv.cell 0 (by simp)
  have d1 := h.xv.cell 1 (by simp)
  exact ⟨c0, c1, d0, d1⟩

theorem step {w a b : World} (h : Below w.heap.size w a) (k : Below a.heap.size a b) : Below w.heap.size w b := h.trans (k.mono h.size)

set_option maxRecDepth 100000 in
set_option maxHeartbeats 4000000 in
theorem walk (a0 : Option Addr) (len cap : Nat) (w : World) (hl : len ≤ 4096) (hcode : CodeAt w a0 len) :
    Calls Try.prog 8 #[.slice a0 len cap] w fun e w' => e = .returned (.bool true) ∧ Below w.heap.size w w' := by
  have m1 : Hid True := trivial
  have hC : Hid (CodeAt w a0 len) := hcode
  clear hcode
  have hl' : ¬ (4096 : Int) < (len : Int) := by omega
  go_enter Try.func8, Try.ntmps8
  go_upto_region 7 with (first | (go_at_call 25; go_in) | (go_at_call 26; refine (drawAdded_any _ _ _ _ hC.out).mono ?_; rintro e w1 ⟨v, adds, R, s, rfl, hs, hrd, hB1⟩; obtain ⟨va, vn, vc, rfl⟩ := hrd.form) | (clear m1; refine wpList_alloc_v rfl 27 rfl _ zero27 ?_; intro b3 w2 hb3 hw2 hB2 hV2) | (refine wpList_store_v rfl 27 _ _ rfl b3 [.slice va vn vc, .int .i64 adds] rfl rfl size27 hV2 rfl (by simp [Value.oneCell']) ?_; intro w3 hO3 hV3; have hc0 := hV3.cell 0 (by simp); have hc1 := hV3.cell 1 (by simp); simp only [List.getElem_cons_zero, List.getElem_cons_succ] at hc0 hc1; have h1 := hB1.size; have h2 := hB2.size; have h3 := hO3.1; have hrd3 := (hrd.below hB2 (Nat.le_refl _)).below (hO3.2.2 w1.heap.size hb3) (Nat.le_refl _)) | (go_at_call 22; refine (implAdded_any R adds s (by omega) _ _ w1.heap.size (by omega) (hrd3.wide (Nat.zero_le _) (Nat.le_refl _))).mono ?_; rintro e w4 ⟨x, rfl, hox, hB4⟩; obtain ⟨xa, xn, xc, rfl⟩ := hox.form) | (refine wpList_alloc_v rfl 27 rfl _ zero27 ?_; intro b5 w5 hb5 hw5 hB5 hV5) | (refine wpList_store_v rfl 27 _ _ rfl b5 [.slice xa xn xc, .int .i64 (addedN R adds)] rfl rfl size27 hV5 rfl (by simp [Value.oneCell']) ?_; intro w6 hO6 hV6; have h4 := hB4.size; have h5 := hB5.size; have h6 := hO6.1; have hT6 : Hid (Two w6 w6.heap.size b3 b5 (.slice va vn vc) (.slice xa xn xc) adds (addedN R adds) R (addedR R adds s)) := ⟨Nat.le_refl _, ((hV3.below hB4 (by omega)).below hB5 (by omega)).of (hO6.2.1 _ (by omega)), hV6, by omega, by omega, (((hrd3.below hB4 (by omega)).below hB5 (by omega)).below (hO6.2.2 w4.heap.size hb5) (by omega)).wide (by omega) (by omega), ((hox.rd.below hB5 (Nat.le_refl _)).below (hO6.2.2 w4.heap.size hb5) (Nat.le_refl _)).wide (by omega) (by omega)⟩; have hB6 : Below w.heap.size w w6 := ((((hB1.trans (hB2.mono h1)).trans (hO3.2.2 _ (by omega))).trans (hB4.mono (by omega))).trans (hB5.mono (by omega))).trans (hO6.2.2 _ (by omega)); obtain ⟨e0, e1, e2, e3⟩ := hT6.out.cells) | (go_at_call 24; refine (implEstimate_any R adds s (by omega) _ _ w6.heap.size (Nat.le_refl _) hT6.out.rs).mono ?_; rintro e w7 ⟨rfl, hB7⟩; have h7 := hB7.size; have hT7 := hT6.out.below hB7; have hB67 := hB6.trans (hB7.mono (by omega))) | (go_at_call 27; refine (drawPlaceOf_any _ _ _ _ (code_below' hC.out hB67)).mono ?_; rintro e w8 ⟨r, row, rfl, hr, hB8⟩; have hT8 : Hid _ := hT7.below hB8; have hB := hB67.trans (hB8.mono (by omega))) | (fail))
  have hH : w6.heap.size ≤ w8.heap.size := hT8.out.hH
  obtain ⟨H, hHH⟩ : ∃ H, Hid (H = w6.heap.size) := ⟨_, rfl⟩
  rw [← hHH.out] at hT8 hH
  clear hHH hT6 hT7 e0 e1 e2 e3 hc0 hc1 hV2 hV3 hV5 hV6 hrd hrd3 hox hO3 hO6 hB1 hB2 hB4 hB5 hB6 hB7 hB8 hB67 h1 h2 h3 h4 h5 h6 h7 hb3 hw2 hb5 hw5
  have hneE : (estA R adds s != estA R adds s) = false := by simp
  have hneO : (decide (skOk R adds) != decide (skOk R adds)) = false := by simp
  have hneP : (place.placeAns r row != place.placeAns r row) = false := by simp
  obtain ⟨X, hX⟩ : ∃ X, Hid (X = addedR R adds s) := ⟨_, rfl⟩
  obtain ⟨N, hN⟩ : ∃ N, Hid (N = addedN R adds) := ⟨_, rfl⟩
  rw [← hX.out, ← hN.out] at hT8
  have m2 : Hid True := trivial
  go_cut [65] (fun q wc => q = .bool false ∧ Hid (Two wc H b3 b5 (.slice va vn vc) (.slice xa xn xc) adds N R X) ∧ Below w.heap.size w wc)
  case first =>
    have hT9 : Hid (Two w8.drew H b3 b5 (.slice va vn vc) (.slice xa xn xc) adds N R X) := hT8.out.drew
    have sT9 := hT9.out.cells
    have sT8 := hT8.out.cells
    have hsz : w.heap.size ≤ w8.heap.size := hB.size
    go_region_held3 (fun w' => w'.cell? ⟨b3, 0, none⟩ = some (.slice va vn vc) ∧ w'.cell? ⟨b3, 1, none⟩ = some (.int .i64 adds) ∧ w'.cell? ⟨b5, 0, none⟩ = some (.slice xa xn xc) ∧ w'.cell? ⟨b5, 1, none⟩ = some (.int .i64 N)) (assumption) (first | (go_at_call 21; refine (specAdded_any R adds s (by omega) _ _ H hT9.out.hH hT9.out.rs).mono ?_; rintro e wA ⟨y, rfl, hoy, hBA⟩; obtain ⟨ya, yn, yc, rfl⟩ := hoy.form; rw [← hX.out] at hoy; have hoA : Hid (Own wA w8.heap.size wA.heap.size (.slice ya yn yc) X) := hoy; clear hoy; rw [← hN.out]; have hTA : Hid _ := hT9.out.below hBA; have shTA := hTA.out.cells) | (clear m2; go_at_call 28; refine (likeSketch_any X N _ _ _ 0 H w8.heap.size wA.heap.size hTA.out.hH (Nat.le_refl _) hTA.out.rx hoA.out.rd).mono ?_; rintro e wB ⟨rfl, hBB⟩; have hTB : Hid _ := hTA.out.below hBB; have shTB := hTB.out.cells) | (go_at_call 23; refine (specEstimate_any R adds s (by omega) _ _ H hTB.out.hH hTB.out.rs).mono ?_; rintro e wC ⟨rfl, hBC⟩; have hTC : Hid _ := hTB.out.below hBC; have shTC := hTC.out.cells) | (go_at_call 13; refine (implSketchOk_any R adds _ _ H hTC.out.hH hTC.out.rs).mono ?_; rintro e wD ⟨rfl, hBD⟩; have hTD : Hid _ := hTC.out.below hBD; have shTD := hTD.out.cells) | (go_at_call 11; refine (specSketchOk_any R adds _ _ H hTD.out.hH hTD.out.rs).mono ?_; rintro e wE ⟨rfl, hBE⟩; have hTE : Hid _ := hTD.out.below hBE; have shTE := hTE.out.cells) | (go_at_call 20; refine (place.impl_any _ _ (by omega) _).mono ?_; rintro e wF ⟨rfl, hOF⟩; have hBF := hOF.below; have hTF : Hid _ := hTE.out.below hBF; have shTF := hTF.out.cells) | (go_at_call 19; refine (place.spec_any _ _ (by omega) _).mono ?_; rintro e wG ⟨rfl, hOG⟩; have hBG := hOG.below; have hTG : Hid _ := hTF.out.below hBG; have shTG := hTG.out.cells) | (go_at_call 16; refine (implNewSketch_any _).mono ?_; rintro e wH ⟨z, rfl, hoz, hBH⟩; have hTH : Hid _ := hTG.out.below hBH; have shTH := hTH.out.cells) | (go_at_call 15; refine (specNewSketch_any _).mono ?_; rintro e wI ⟨z', rfl, hoz', hBI⟩; have hTI : Hid _ := hTH.out.below hBI; have shTI := hTI.out.cells) | (go_at_call 28; refine (likeSketch_any zeros 0 _ _ _ wG.heap.size wH.heap.size wH.heap.size wI.heap.size hBI.size (Nat.le_refl _) (hoz.rd.below hBI (Nat.le_refl _)) hoz'.rd).mono ?_; rintro e wJ ⟨rfl, hBJ⟩; have hTJ : Hid _ := hTI.out.below hBJ; have shTJ := hTJ.out.cells) | (fail))
    go_wp2
    go_meet
    case rel =>
      exact ⟨rfl, hTJ, step (step (step (step (step (step (step (step (step (step hB.drew hBA) hBB) hBC) hBD) hBE) hBF) hBG) hBH) hBI) hBJ⟩
  case rest =>
    obtain ⟨rfl, hT, hBc⟩ := hcut
    obtain ⟨c0, c1, c2, c3⟩ := hT.out.cells
    clear hT8 hB hneE hneO hneP
    by_cases hok : skOk R adds
    · have hd : decide (skOk R adds) = true := decide_eq_true hok
      have hOk : Hid (skOk R adds) := hok
      have hokX : Hid (skOk X N) := by unfold Hid; rw [hX.out, hN.out]; exact added_ok hok
      have hdX : decide (skOk X N) = true := decide_eq_true hokX.out
      clear hok
      go_upto_region 14 with (first | (go_at_call 11; refine (specSketchOk_any R adds _ _ H hT.out.hH hT.out.rs).mono ?_; rintro e wE ⟨rfl, hBE⟩; have hTE : Hid _ := hT.out.below hBE; obtain ⟨e0, e1, e2, e3⟩ := hTE.out.cells) | (go_at_call 13; refine (implSketchOk_any X N _ _ H hTE.out.hH hTE.out.rx).mono ?_; rintro e wF ⟨rfl, hBF⟩; have hTF : Hid _ := hTE.out.below hBF) | (fail))
      have hBn := (Below.refl wF.heap.size wF).alloc (Nat.le_refl _) (.cells #[.string ⟨#[97]⟩, .string ⟨#[98]⟩, .string ⟨#[99]⟩, .string ⟨#[100, 100]⟩, .string ⟨#[101, 49]⟩, .string ⟨#[102, 45]⟩, .string ⟨#[103]⟩, .string ⟨#[104]⟩] 9)
      have hTN : Hid _ := hTF.out.below hBn
      have hVN : VBlk (wF.alloc (.cells #[.string ⟨#[97]⟩, .string ⟨#[98]⟩, .string ⟨#[99]⟩, .string ⟨#[100, 100]⟩, .string ⟨#[101, 49]⟩, .string ⟨#[102, 45]⟩, .string ⟨#[103]⟩, .string ⟨#[104]⟩] 9)) wF.heap.size 9 (names.map Value.string) := heap_alloc_new _ _
      have hBN := step (step (step hBc hBE) hBF) hBn
      obtain ⟨bn, hbn⟩ : ∃ bn, Hid (bn = wF.heap.size) := ⟨_, rfl⟩
      rw [← hbn.out] at hVN ⊢
      obtain ⟨wN, hwN⟩ : ∃ wN, Hid (wN = wF.alloc (.cells #[.string ⟨#[97]⟩, .string ⟨#[98]⟩, .string ⟨#[99]⟩, .string ⟨#[100, 100]⟩, .string ⟨#[101, 49]⟩, .string ⟨#[102, 45]⟩, .string ⟨#[103]⟩, .string ⟨#[104]⟩] 9)) := ⟨_, rfl⟩
      rw [← hwN.out] at hVN hTN hBN ⊢
      clear hwN hbn hBn hBF hBE hTF hTE e0 e1 e2 e3 c0 c1 c2 c3 hT hBc
      have hn8 : Hid (names.length = 8) := rfl
      go_wp2
      go_loopw [10] (fun q wr => ∃ i : Nat, i ≤ 8 ∧ q = .int .i64 i ∧ Hid (Two wr H b3 b5 (.slice va vn vc) (.slice xa xn xc) adds N R X) ∧ VBlk wr bn 9 (names.map Value.string) ∧ Below w.heap.size w wr) (fun q _ => 8 - (intOf q).toNat)
      case atStart => exact ⟨0, by omega, rfl, hTN, hVN, hBN⟩
      case round =>
        clear hTN hVN hBN
        obtain ⟨i, hi8, rfl, hT, hV, hBr⟩ := hrel
        by_cases hlt : i < 8
        · have hin : i < names.length := by rw [hn8.out]; exact hlt
          have hcell := hV.cell i (by rw [List.length_map]; exact hin)
          rw [List.getElem_map] at hcell
          obtain ⟨key, hkey⟩ : ∃ key, names[i] = key := ⟨_, rfl⟩
          have hks : key.size ≤ 2 := by rw [← hkey]; exact names_small _ (List.getElem_mem hin)
          rw [hkey] at hcell
          clear hkey hin
          have hlt' : (i : Int) < 8 := by omega
          obtain ⟨c0, c1, c2, c3⟩ := hT.out.cells
          have hbn := hV.lt
          go_upto_region 17 with (fail)
          go_region_held3 (fun w' => w'.cell? ⟨b3, 0, none⟩ = some (.slice va vn vc) ∧ w'.cell? ⟨b3, 1, none⟩ = some (.int .i64 adds) ∧ w'.cell? ⟨bn, i, none⟩ = some (.string key)) (first | assumption | exact ⟨c0, c1, hcell⟩) (first | (go_at_call 24; refine (implEstimate_any R adds key (by omega) _ _ H hT.out.drew.hH hT.out.drew.rs).mono ?_; rintro e w1 ⟨rfl, hB1⟩; have hT1 : Hid _ := hT.out.drew.below hB1; have hV1 := VBlk.below (w := wr.drew) hV hB1 hbn; obtain ⟨d0, d1, d2, d3⟩ := hT1.out.cells; have hcell1 : w1.cell? ⟨bn, i, none⟩ = some (.string key) := (by rw [hB1.cell (by show bn < wr.heap.size; exact hbn)]; exact hcell); have hs1 : w1.cell? ⟨b3, 0, none⟩ = some (.slice va vn vc) ∧ w1.cell? ⟨b3, 1, none⟩ = some (.int .i64 adds) ∧ w1.cell? ⟨bn, i, none⟩ = some (.string key) := ⟨d0, d1, hcell1⟩) | (fail))
          have hbn1 := hV1.lt
          go_upto_region 18 with (fail)
          go_region_held3 (fun w' => w'.cell? ⟨b5, 0, none⟩ = some (.slice xa xn xc) ∧ w'.cell? ⟨b5, 1, none⟩ = some (.int .i64 N) ∧ w'.cell? ⟨bn, i, none⟩ = some (.string key)) (first | assumption | exact ⟨d2, d3, hcell1⟩) (first | (go_at_call 24; refine (implEstimate_any X N key (by omega) _ _ H hT1.out.drew.hH hT1.out.drew.rx).mono ?_; rintro e w2 ⟨rfl, hB2⟩; have hT2 : Hid _ := hT1.out.drew.below hB2; have hV2 := VBlk.below (w := w1.drew) hV1 hB2 hbn1; obtain ⟨f0, f1, f2, f3⟩ := hT2.out.cells; have hcell2 : w2.cell? ⟨bn, i, none⟩ = some (.string key) := (by rw [hB2.cell (by show bn < w1.heap.size; exact hbn1)]; exact hcell1); have hs2 : w2.cell? ⟨b5, 0, none⟩ = some (.slice xa xn xc) ∧ w2.cell? ⟨b5, 1, none⟩ = some (.int .i64 N) ∧ w2.cell? ⟨bn, i, none⟩ = some (.string key) := ⟨f2, f3, hcell2⟩) | (fail))
          have hR4 := hOk.out.four
          have hRs := hOk.out.small
          have eP : estA R adds key = estN key R 4 := by simp [estA, hOk.out]
          have eQ : estA X N key = estN key X 4 := by simp [estA, hokX.out]
          have bP := est_bd hR4 hRs key
          have bQ := est_bd hokX.out.four hokX.out.small key
          have hB12 := step (step hBr.drew hB1).drew hB2
          by_cases h159 : adds = 159
          · have hN0 : N = 0 := by rw [hN.out]; unfold addedN; rw [if_pos hOk.out, if_pos h159]
            have hXe : X = halfR (addR s R) := by rw [hX.out]; unfold addedR; rw [if_pos hOk.out, if_pos h159]
            have hh := est_half (addR_four (key := s) hR4) key
            have ha := (est_add hR4 hRs s key).1
            rw [← hXe] at hh
            rw [eP, eQ]
            obtain ⟨P, hP⟩ : ∃ P, estN key R 4 = P := ⟨_, rfl⟩
            obtain ⟨Q, hQ⟩ : ∃ Q, estN key X 4 = Q := ⟨_, rfl⟩
            rw [hP] at bP ha ⊢
            rw [hQ] at bQ hh ⊢
            have hge : ¬ Q < P / 2 := by omega
            clear ha hh hP hQ eP eQ hXe
            subst hN0
            go_wp2
            go_roundw
            case rel => exact ⟨i + 1, by omega, by go_num, hT2, hV2, hB12⟩
            case measure => simp [intOf]; omega
          · have hN1 : N = adds + 1 := by rw [hN.out]; unfold addedN; rw [if_pos hOk.out, if_neg h159]
            have hXe : X = addR s R := by rw [hX.out]; unfold addedR; rw [if_pos hOk.out, if_neg h159]
            have had := hOk.out.2.1
            have hNz : ¬ N = 0 := by omega
            obtain ⟨ha, hb⟩ := est_add hR4 hRs s key
            rw [← hXe] at ha hb
            rw [eP, eQ]
            obtain ⟨P, hP⟩ : ∃ P, estN key R 4 = P := ⟨_, rfl⟩
            obtain ⟨Q, hQ⟩ : ∃ Q, estN key X 4 = Q := ⟨_, rfl⟩
            rw [hP] at bP ha hb ⊢
            rw [hQ] at bQ ha hb ⊢
            have hge : ¬ Q < P := by omega
            clear hP hQ eP eQ hXe hN1
            by_cases hks2 : key.toList = s.toList
            · have hks3 : key = s := bytes_inj (by rw [← ByteArray.toList_eq, ← ByteArray.toList_eq]; exact hks2)
              have hQ' := hb hks3.symm
              by_cases hp15 : P < 15
              · have hQe : Q = P + 1 := by omega
                clear hb hQ' ha hge
                subst hQe
                go_wp2
                go_roundw
                case rel => exact ⟨i + 1, by omega, by go_num, hT2, hV2, hB12⟩
                case measure => simp [intOf]; omega
              · have hPe : P = 15 := by omega
                have hQe : Q = 15 := by omega
                clear hb hQ' ha hge
                subst hPe hQe
                go_wp2
                go_roundw
                case rel => exact ⟨i + 1, by omega, by go_num, hT2, hV2, hB12⟩
                case measure => simp [intOf]; omega
            · clear hb
              go_wp2
              go_roundw
              case rel => exact ⟨i + 1, by omega, by go_num, hT2, hV2, hB12⟩
              case measure => simp [intOf]; omega
        · have hadd := hOk.out.2.1
          have hfin : N = (adds + 1) % 160 := by
            rw [hN.out]; unfold addedN; rw [if_pos hOk.out]
            split <;> omega
          obtain ⟨c0, c1, c2, c3⟩ := hT.out.cells
          go_wp2
          go_ret
          exact ⟨rfl, hBr⟩
    · have hd : decide (skOk R adds) = false := decide_eq_false hok
      have hX0 : Hid (X = []) := by unfold Hid; rw [hX.out]; simp [addedR, hok]
      have hN0 : Hid (N = 0) := by unfold Hid; rw [hN.out]; simp [addedN, hok]
      have hE0 : estA R adds s = -1 := by simp [estA, hok]
      have hX0' := hX0.out
      have hN0' := hN0.out
      clear hX0 hN0 hX hN
      subst hX0' hN0'
      go_upto_region 10 with (first | (go_at_call 11; refine (specSketchOk_any R adds _ _ H hT.out.hH hT.out.rs).mono ?_; rintro e wE ⟨rfl, hBE⟩; have hTE : Hid _ := hT.out.below hBE; obtain ⟨e0, e1, e2, e3⟩ := hTE.out.cells) | (fail))
      go_wp2_with (first | (go_at_call 28; refine (likeSketch_any [] 0 (.slice xa xn xc) (.slice none 0 0) wE 0 H 0 0 hTE.out.hH (Nat.zero_le _) hTE.out.rx ⟨by simp, none, 0, rfl, .inl rfl⟩).mono ?_; rintro e wF ⟨rfl, hBF⟩) | (fail))
      go_ret
      exact ⟨rfl, step (step hBc hBE) hBF⟩
end Go.Proofs.Ytgdoclaifnnpgaa.lawSk
