/- The walk of the law FnItems. -/
import Derived.Test.YtmaelhcmnjjkoaaIo4
import Derived.Test.YtmaelhcmnjjkoaaDe5
namespace Go.Proofs.Ytmaelhcmnjjkoaa.lawIt
open Go.ChangeShapes Go.WideShapes Go.ChangeAt Go.RowKit
open Go.Proofs.Ytmaelhcmnjjkoaa.ce Go.Proofs.Ytmaelhcmnjjkoaa.ro Go.Proofs.Ytmaelhcmnjjkoaa.rg Go.Proofs.Ytmaelhcmnjjkoaa.draw
set_option linter.unusedVariables false

theorem sm_of {q : List It} (h : ∀ x ∈ q, SmI x) : Sm q := fun i hi => ⟨Nat.le_trans (h i hi).1 (by omega), Nat.le_trans (h i hi).2 (by omega)⟩

set_option maxRecDepth 100000 in
set_option maxHeartbeats 8000000 in
theorem walk (a0 : Option Addr) (len cap : Nat) (w : World) (hl : len ≤ 4096) (hcode0 : CodeAt w a0 len) :
    Calls Try.prog 9 #[.slice a0 len cap] w fun e w' => e = .returned (.bool true) ∧ Below w.heap.size w w' := by
  have HC : Hid (CodeAt w a0 len) := hcode0
  clear hcode0
  have hl' : ¬ (4096 : Int) < (len : Int) := by omega
  have hB : Below w.heap.size w w := Below.refl _ _
  have hzw := hB.size
  go_enter Try.func9, Try.ntmps9
  have mk1 : Hid True := trivial
  have mk2 : Hid True := trivial
  have mk3 : Hid True := trivial
  have mk4 : Hid True := trivial
  have mk5 : Hid True := trivial
  have mk6 : Hid True := trivial
  have mk7 : Hid True := trivial
  have mk8 : Hid True := trivial
  have mk9 : Hid True := trivial
  have mk10 : Hid True := trivial
  have mk11 : Hid True := trivial
  have mk12 : Hid True := trivial
  have mk13 : Hid True := trivial
  go_upto_region 10 with (first | (clear mk1; go_at_call 27; go_in) | (clear mk2; go_at_call 28; refine (drawItemOk_any _ _ _ _ HC.out).mono ?_; rintro er w1 ⟨N, B, F, C, U, rfl, hN, hBs, hB1⟩; have hz1 : w.heap.size ≤ w1.heap.size := hB1.size; replace hB := hB.trans (hB1.mono (by omega)); replace hzw := hB.size; obtain ⟨z1, hZ1⟩ := hid_ex (wtI ⟨N, F, B, C, U⟩); obtain ⟨z2, hZ2⟩ := hid_ex (itemB ⟨N, F, B, C, U⟩)) | (clear mk3; refine wpList_alloc_v rfl 26 rfl _ zeroIt ?_; intro b3 w2 hb3 hwb3 hB2 V3; have hz2 : w1.heap.size ≤ w2.heap.size := hB2.size; replace hB := hB.trans (hB2.mono (by omega)); replace hzw := hB.size) | (clear mk4; refine wpList_store_v rfl 26 _ _ rfl b3 [.string N, .int .i64 F, .string B, .int .i64 C, .int .i64 U] rfl rfl sizeIt V3 rfl (ic_one ⟨N, F, B, C, U⟩) ?_; intro w3 hO3 V3x; have hz3 : w2.heap.size ≤ w3.heap.size := (Nat.le_of_eq hO3.1.symm); have hy3 : w3.heap.size ≤ w2.heap.size := (Nat.le_of_eq hO3.1); replace hB := hB.trans (hO3.2.2 _ (by omega)); replace hzw := hB.size; clear V3; have V3 := V3x; clear V3x) | (clear mk5; refine wpList_load_r rfl 26 _ rfl b3 0 [.string N, .int .i64 F, .string B, .int .i64 C, .int .i64 U] rfl _ Try.underlying26 rfl sizeIt V3.range ?_) | (clear mk6; go_at_call 15; refine (implWeightOf_any N B F C U _ hZ1 (by omega) (by omega) _).mono ?_; rintro er w4 ⟨rfl, hB4⟩; have hz4 : w3.heap.size ≤ w4.heap.size := hB4.size; replace hB := hB.trans (hB4.mono (by omega)); replace hzw := hB.size; replace V3 := vblk_grow V3 hB4) | (clear mk7; go_at_call 29; refine (drawOverAt_any _ _ _ _ (codei_below HC.out hB)).mono ?_; rintro er w5 ⟨N2, B2, F2, C2, U2, now, rfl, hN2, hBs2, hB5⟩; have hz5 : w4.heap.size ≤ w5.heap.size := hB5.size; replace hB := hB.trans (hB5.mono (by omega)); replace hzw := hB.size; replace V3 := vblk_grow V3 hB5; obtain ⟨z3, hZ3⟩ := hid_ex (overB ⟨N2, F2, B2, C2, U2⟩ now)) | (clear mk8; refine wpList_alloc_v rfl 26 rfl _ zeroIt ?_; intro b5 w6 hb5 hwb5 hB6 V5; have hz6 : w5.heap.size ≤ w6.heap.size := hB6.size; replace hB := hB.trans (hB6.mono (by omega)); replace hzw := hB.size; replace V3 := vblk_grow V3 hB6) | (clear mk9; refine wpList_store_v rfl 26 _ _ rfl b5 [.string N2, .int .i64 F2, .string B2, .int .i64 C2, .int .i64 U2] rfl rfl sizeIt V5 rfl (ic_one ⟨N2, F2, B2, C2, U2⟩) ?_; intro w7 hO7 V5x; have hz7 : w6.heap.size ≤ w7.heap.size := (Nat.le_of_eq hO7.1.symm); have hy7 : w7.heap.size ≤ w6.heap.size := (Nat.le_of_eq hO7.1); replace hB := hB.trans (hO7.2.2 _ (by omega)); replace hzw := hB.size; replace V3 := vblk_only V3 hO7 (by omega); clear V5; have V5 := V5x; clear V5x) | (clear mk10; go_at_call 30; refine (drawHeavy_any _ _ _ _ (codei_below HC.out hB)).mono ?_; rintro er w8 ⟨vb, q, rfl, ⟨ob, sq, lq, hB8⟩⟩; have hz8 : w7.heap.size ≤ w8.heap.size := hB8.size; replace hB := hB.trans (hB8.mono (by omega)); replace hzw := hB.size; replace V3 := vblk_grow V3 hB8; replace V5 := vblk_grow V5 hB8; obtain ⟨Ab, Nb, Kb, rfl⟩ := ob.slice; have HSb : Hid (Sm q) := (sm_of sq); clear sq; obtain ⟨z4, hZ4⟩ := hid_ex (heavyI q); obtain ⟨z5, hZ5⟩ := hid_ex (bookB q)) | (clear mk11; go_at_call 26; refine (implHeavy_any q _ _ ob.rd HSb.out).mono ?_; rintro er w9 ⟨he, hB9⟩; have hz9 : w8.heap.size ≤ w9.heap.size := hB9.size; replace ob := ob.grow hB9; replace hB := hB.trans (hB9.mono (by omega)); replace hzw := hB.size; replace V3 := vblk_grow V3 hB9; replace V5 := vblk_grow V5 hB9; rw [hZ4.out] at he; subst he) | (clear mk12; go_at_call 31; refine (drawFindItem_any _ _ _ _ (codei_below HC.out hB)).mono ?_; rintro er w10 ⟨vr, r, s, rfl, hss, ⟨oo, sr, lr, hB10⟩⟩; have hz10 : w9.heap.size ≤ w10.heap.size := hB10.size; replace ob := ob.grow hB10; replace hB := hB.trans (hB10.mono (by omega)); replace hzw := hB.size; replace V3 := vblk_grow V3 hB10; replace V5 := vblk_grow V5 hB10; obtain ⟨Ar, Nr, Kr, rfl⟩ := oo.slice; clear sr; obtain ⟨z6, hZ6⟩ := hid_ex (findI r s)) | (clear mk13; go_at_call 24; refine (implFindItem_any r s _ _ oo.rd).mono ?_; rintro er w11 ⟨he, hB11⟩; have hz11 : w10.heap.size ≤ w11.heap.size := hB11.size; replace ob := ob.grow hB11; replace oo := oo.grow hB11; replace hB := hB.trans (hB11.mono (by omega)); replace hzw := hB.size; replace V3 := vblk_grow V3 hB11; replace V5 := vblk_grow V5 hB11; rw [hZ6.out] at he; subst he) | (fail))
  have e1 : (z1 != z1) = false := by simp
  have e2 : (z2 != z2) = false := by simp
  have e3 : (z3 != z3) = false := by simp
  have e4 : (z4 != z4) = false := by simp
  have e5 : (z5 != z5) = false := by simp
  have e6 : (z6 != z6) = false := by simp
  have hBd : Below w11.heap.size w11 w11.drew := (Below.refl _ _).drew
  have hzd : w11.drew.heap.size ≤ w11.heap.size := Nat.le_refl _
  have hzd2 : w11.heap.size ≤ w11.drew.heap.size := Nat.le_refl _
  replace ob := ob.grow hBd
  replace oo := oo.grow hBd
  replace V3 := vblk_grow V3 hBd
  replace V5 := vblk_grow V5 hBd
  replace hB := hB.trans (hBd.mono (by omega))
  replace hzw := hB.size
  have S1 : (w11.drew.cell? ⟨b3, 0, none⟩ = some (.string N) ∧ w11.drew.cell? ⟨b3, 1, none⟩ = some (.int .i64 F) ∧ w11.drew.cell? ⟨b3, 2, none⟩ = some (.string B) ∧ w11.drew.cell? ⟨b3, 3, none⟩ = some (.int .i64 C) ∧ w11.drew.cell? ⟨b3, 4, none⟩ = some (.int .i64 U)) ∧ (w11.drew.cell? ⟨b5, 0, none⟩ = some (.string N2) ∧ w11.drew.cell? ⟨b5, 1, none⟩ = some (.int .i64 F2) ∧ w11.drew.cell? ⟨b5, 2, none⟩ = some (.string B2) ∧ w11.drew.cell? ⟨b5, 3, none⟩ = some (.int .i64 C2) ∧ w11.drew.cell? ⟨b5, 4, none⟩ = some (.int .i64 U2)) := And.intro (cells5 V3) (cells5 V5)
  have mk14 : Hid True := trivial
  have mk15 : Hid True := trivial
  have mk16 : Hid True := trivial
  have mk17 : Hid True := trivial
  have mk18 : Hid True := trivial
  have mk19 : Hid True := trivial
  have mk20 : Hid True := trivial
  have mk21 : Hid True := trivial
  have mk22 : Hid True := trivial
  go_region_held3 (fun w' => (w'.cell? ⟨b3, 0, none⟩ = some (.string N) ∧ w'.cell? ⟨b3, 1, none⟩ = some (.int .i64 F) ∧ w'.cell? ⟨b3, 2, none⟩ = some (.string B) ∧ w'.cell? ⟨b3, 3, none⟩ = some (.int .i64 C) ∧ w'.cell? ⟨b3, 4, none⟩ = some (.int .i64 U)) ∧ (w'.cell? ⟨b5, 0, none⟩ = some (.string N2) ∧ w'.cell? ⟨b5, 1, none⟩ = some (.int .i64 F2) ∧ w'.cell? ⟨b5, 2, none⟩ = some (.string B2) ∧ w'.cell? ⟨b5, 3, none⟩ = some (.int .i64 C2) ∧ w'.cell? ⟨b5, 4, none⟩ = some (.int .i64 U2))) (first | with_reducible assumption | with_reducible exact S1 | (fail)) (first | (clear mk14; go_at_call 14; refine (specWeightOf_any N B F C U _ hZ1 (by omega) (by omega) _).mono ?_; rintro er w12 ⟨rfl, hB12⟩; have hz12 : w11.drew.heap.size ≤ w12.heap.size := hB12.size; replace ob := ob.grow hB12; replace oo := oo.grow hB12; replace hB := hB.trans (hB12.mono (by omega)); replace hzw := hB.size; replace V3 := vblk_grow V3 hB12; replace V5 := vblk_grow V5 hB12; have S2 : (w12.cell? ⟨b3, 0, none⟩ = some (.string N) ∧ w12.cell? ⟨b3, 1, none⟩ = some (.int .i64 F) ∧ w12.cell? ⟨b3, 2, none⟩ = some (.string B) ∧ w12.cell? ⟨b3, 3, none⟩ = some (.int .i64 C) ∧ w12.cell? ⟨b3, 4, none⟩ = some (.int .i64 U)) ∧ (w12.cell? ⟨b5, 0, none⟩ = some (.string N2) ∧ w12.cell? ⟨b5, 1, none⟩ = some (.int .i64 F2) ∧ w12.cell? ⟨b5, 2, none⟩ = some (.string B2) ∧ w12.cell? ⟨b5, 3, none⟩ = some (.int .i64 C2) ∧ w12.cell? ⟨b5, 4, none⟩ = some (.int .i64 U2)) := And.intro (cells5 V3) (cells5 V5)) | (clear mk15; go_at_call 13; refine (implItemOk_any N B F C U _ hZ2 (by omega) (by omega) _).mono ?_; rintro er w13 ⟨rfl, hB13⟩; have hz13 : w12.heap.size ≤ w13.heap.size := hB13.size; replace ob := ob.grow hB13; replace oo := oo.grow hB13; replace hB := hB.trans (hB13.mono (by omega)); replace hzw := hB.size; replace V3 := vblk_grow V3 hB13; replace V5 := vblk_grow V5 hB13; have S3 : (w13.cell? ⟨b3, 0, none⟩ = some (.string N) ∧ w13.cell? ⟨b3, 1, none⟩ = some (.int .i64 F) ∧ w13.cell? ⟨b3, 2, none⟩ = some (.string B) ∧ w13.cell? ⟨b3, 3, none⟩ = some (.int .i64 C) ∧ w13.cell? ⟨b3, 4, none⟩ = some (.int .i64 U)) ∧ (w13.cell? ⟨b5, 0, none⟩ = some (.string N2) ∧ w13.cell? ⟨b5, 1, none⟩ = some (.int .i64 F2) ∧ w13.cell? ⟨b5, 2, none⟩ = some (.string B2) ∧ w13.cell? ⟨b5, 3, none⟩ = some (.int .i64 C2) ∧ w13.cell? ⟨b5, 4, none⟩ = some (.int .i64 U2)) := And.intro (cells5 V3) (cells5 V5)) | (clear mk16; go_at_call 11; refine (specItemOk_any N B F C U _ hZ2 (by omega) (by omega) _).mono ?_; rintro er w14 ⟨rfl, hB14⟩; have hz14 : w13.heap.size ≤ w14.heap.size := hB14.size; replace ob := ob.grow hB14; replace oo := oo.grow hB14; replace hB := hB.trans (hB14.mono (by omega)); replace hzw := hB.size; replace V3 := vblk_grow V3 hB14; replace V5 := vblk_grow V5 hB14; have S4 : (w14.cell? ⟨b3, 0, none⟩ = some (.string N) ∧ w14.cell? ⟨b3, 1, none⟩ = some (.int .i64 F) ∧ w14.cell? ⟨b3, 2, none⟩ = some (.string B) ∧ w14.cell? ⟨b3, 3, none⟩ = some (.int .i64 C) ∧ w14.cell? ⟨b3, 4, none⟩ = some (.int .i64 U)) ∧ (w14.cell? ⟨b5, 0, none⟩ = some (.string N2) ∧ w14.cell? ⟨b5, 1, none⟩ = some (.int .i64 F2) ∧ w14.cell? ⟨b5, 2, none⟩ = some (.string B2) ∧ w14.cell? ⟨b5, 3, none⟩ = some (.int .i64 C2) ∧ w14.cell? ⟨b5, 4, none⟩ = some (.int .i64 U2)) := And.intro (cells5 V3) (cells5 V5)) | (clear mk17; go_at_call 17; refine (implOverAt_any N2 B2 F2 C2 U2 now _ hZ3 _).mono ?_; rintro er w15 ⟨rfl, hB15⟩; have hz15 : w14.heap.size ≤ w15.heap.size := hB15.size; replace ob := ob.grow hB15; replace oo := oo.grow hB15; replace hB := hB.trans (hB15.mono (by omega)); replace hzw := hB.size; replace V3 := vblk_grow V3 hB15; replace V5 := vblk_grow V5 hB15; have S5 : (w15.cell? ⟨b3, 0, none⟩ = some (.string N) ∧ w15.cell? ⟨b3, 1, none⟩ = some (.int .i64 F) ∧ w15.cell? ⟨b3, 2, none⟩ = some (.string B) ∧ w15.cell? ⟨b3, 3, none⟩ = some (.int .i64 C) ∧ w15.cell? ⟨b3, 4, none⟩ = some (.int .i64 U)) ∧ (w15.cell? ⟨b5, 0, none⟩ = some (.string N2) ∧ w15.cell? ⟨b5, 1, none⟩ = some (.int .i64 F2) ∧ w15.cell? ⟨b5, 2, none⟩ = some (.string B2) ∧ w15.cell? ⟨b5, 3, none⟩ = some (.int .i64 C2) ∧ w15.cell? ⟨b5, 4, none⟩ = some (.int .i64 U2)) := And.intro (cells5 V3) (cells5 V5)) | (clear mk18; go_at_call 16; refine (specOverAt_any N2 B2 F2 C2 U2 now _ hZ3 _).mono ?_; rintro er w16 ⟨rfl, hB16⟩; have hz16 : w15.heap.size ≤ w16.heap.size := hB16.size; replace ob := ob.grow hB16; replace oo := oo.grow hB16; replace hB := hB.trans (hB16.mono (by omega)); replace hzw := hB.size; replace V3 := vblk_grow V3 hB16; replace V5 := vblk_grow V5 hB16; have S6 : (w16.cell? ⟨b3, 0, none⟩ = some (.string N) ∧ w16.cell? ⟨b3, 1, none⟩ = some (.int .i64 F) ∧ w16.cell? ⟨b3, 2, none⟩ = some (.string B) ∧ w16.cell? ⟨b3, 3, none⟩ = some (.int .i64 C) ∧ w16.cell? ⟨b3, 4, none⟩ = some (.int .i64 U)) ∧ (w16.cell? ⟨b5, 0, none⟩ = some (.string N2) ∧ w16.cell? ⟨b5, 1, none⟩ = some (.int .i64 F2) ∧ w16.cell? ⟨b5, 2, none⟩ = some (.string B2) ∧ w16.cell? ⟨b5, 3, none⟩ = some (.int .i64 C2) ∧ w16.cell? ⟨b5, 4, none⟩ = some (.int .i64 U2)) := And.intro (cells5 V3) (cells5 V5)) | (clear mk19; go_at_call 25; refine (specHeavy_any q _ _ ob.rd HSb.out).mono ?_; rintro er w17 ⟨he, hB17⟩; have hz17 : w16.heap.size ≤ w17.heap.size := hB17.size; replace ob := ob.grow hB17; replace oo := oo.grow hB17; replace hB := hB.trans (hB17.mono (by omega)); replace hzw := hB.size; replace V3 := vblk_grow V3 hB17; replace V5 := vblk_grow V5 hB17; rw [hZ4.out] at he; subst he; have S7 : (w17.cell? ⟨b3, 0, none⟩ = some (.string N) ∧ w17.cell? ⟨b3, 1, none⟩ = some (.int .i64 F) ∧ w17.cell? ⟨b3, 2, none⟩ = some (.string B) ∧ w17.cell? ⟨b3, 3, none⟩ = some (.int .i64 C) ∧ w17.cell? ⟨b3, 4, none⟩ = some (.int .i64 U)) ∧ (w17.cell? ⟨b5, 0, none⟩ = some (.string N2) ∧ w17.cell? ⟨b5, 1, none⟩ = some (.int .i64 F2) ∧ w17.cell? ⟨b5, 2, none⟩ = some (.string B2) ∧ w17.cell? ⟨b5, 3, none⟩ = some (.int .i64 C2) ∧ w17.cell? ⟨b5, 4, none⟩ = some (.int .i64 U2)) := And.intro (cells5 V3) (cells5 V5)) | (clear mk20; go_at_call 21; refine (implBookOk_any q _ _ ob.rd HSb.out).mono ?_; rintro er w18 ⟨he, hB18⟩; have hz18 : w17.heap.size ≤ w18.heap.size := hB18.size; replace ob := ob.grow hB18; replace oo := oo.grow hB18; replace hB := hB.trans (hB18.mono (by omega)); replace hzw := hB.size; replace V3 := vblk_grow V3 hB18; replace V5 := vblk_grow V5 hB18; rw [hZ5.out] at he; subst he; have S8 : (w18.cell? ⟨b3, 0, none⟩ = some (.string N) ∧ w18.cell? ⟨b3, 1, none⟩ = some (.int .i64 F) ∧ w18.cell? ⟨b3, 2, none⟩ = some (.string B) ∧ w18.cell? ⟨b3, 3, none⟩ = some (.int .i64 C) ∧ w18.cell? ⟨b3, 4, none⟩ = some (.int .i64 U)) ∧ (w18.cell? ⟨b5, 0, none⟩ = some (.string N2) ∧ w18.cell? ⟨b5, 1, none⟩ = some (.int .i64 F2) ∧ w18.cell? ⟨b5, 2, none⟩ = some (.string B2) ∧ w18.cell? ⟨b5, 3, none⟩ = some (.int .i64 C2) ∧ w18.cell? ⟨b5, 4, none⟩ = some (.int .i64 U2)) := And.intro (cells5 V3) (cells5 V5)) | (clear mk21; go_at_call 19; refine (specBookOk_any q _ _ ob.rd HSb.out).mono ?_; rintro er w19 ⟨he, hB19⟩; have hz19 : w18.heap.size ≤ w19.heap.size := hB19.size; replace ob := ob.grow hB19; replace oo := oo.grow hB19; replace hB := hB.trans (hB19.mono (by omega)); replace hzw := hB.size; replace V3 := vblk_grow V3 hB19; replace V5 := vblk_grow V5 hB19; rw [hZ5.out] at he; subst he; have S9 : (w19.cell? ⟨b3, 0, none⟩ = some (.string N) ∧ w19.cell? ⟨b3, 1, none⟩ = some (.int .i64 F) ∧ w19.cell? ⟨b3, 2, none⟩ = some (.string B) ∧ w19.cell? ⟨b3, 3, none⟩ = some (.int .i64 C) ∧ w19.cell? ⟨b3, 4, none⟩ = some (.int .i64 U)) ∧ (w19.cell? ⟨b5, 0, none⟩ = some (.string N2) ∧ w19.cell? ⟨b5, 1, none⟩ = some (.int .i64 F2) ∧ w19.cell? ⟨b5, 2, none⟩ = some (.string B2) ∧ w19.cell? ⟨b5, 3, none⟩ = some (.int .i64 C2) ∧ w19.cell? ⟨b5, 4, none⟩ = some (.int .i64 U2)) := And.intro (cells5 V3) (cells5 V5)) | (clear mk22; go_at_call 23; refine (specFindItem_any r s _ _ oo.rd).mono ?_; rintro er wq ⟨he, hq⟩; subst wq; rw [hZ6.out] at he; subst he) | (fail))
  clear S1 hBd
  clear V3 V5 e1 e2 e3 e4 e5 e6
  go_upto_region 12 with (fail)
  go_cut [87] from 77 to 87 (fun u wc => u = .bool false ∧ w19 = wc)
  case first =>
    by_cases hat : 0 ≤ z6
    · obtain ⟨k, hk, ek, en⟩ := findI_at (b := r) (s := s) (by rw [hZ6.out]; exact hat)
      rw [hZ6.out] at ek
      subst ek
      obtain ⟨bk, off, e', hbk, rg⟩ := rd_item rfl rfl oo.rd k hk
      have d0 := (rng5 rg).1
      rw [en] at d0
      subst e'
      have hkn : (k : Int) < (Nr : Int) := by have := oo.rd.cap.1; omega
      have hss2 : (s.toList == s.toList) = true := by simp
      clear rg en hat
      go_wp2
      go_meet
      case rel => exact ⟨rfl, rfl⟩
    · have hat2 : decide (z6 ≥ 0) = false := decide_eq_false hat
      go_wp2
      go_meet
      case rel => exact ⟨rfl, rfl⟩
  case rest =>
    obtain ⟨rfl, rfl⟩ := hcut
    clear oo hZ6
    cases z5 with
    | false =>
      have e4 : z4 = -1 := by rw [← hZ4.out]; exact heavy_no hZ5.out
      subst e4
      go_wp2_with (first | (go_at_call 19; refine (specBookOk_any q _ _ ob.rd HSb.out).mono ?_; rintro e w50 ⟨he, hB50⟩; rw [hZ5.out] at he; subst he) | (fail))
      go_ret
      exact ⟨rfl, hB.trans (hB50.mono hzw)⟩
    | true =>
      have HOK : Hid (BOk q) := bookB_iff.1 hZ5.out
      have E4 : Hid (z4 = (sumW q : Int)) := by unfold Hid; rw [← hZ4.out]; exact heavy_yes hZ5.out
      have hnq : Hid (Nb = q.length) := ob.rd.cap.1
      have hnq1 : Nb ≤ q.length := Nat.le_of_eq hnq.out
      have hnq2 : q.length ≤ Nb := Nat.le_of_eq hnq.out.symm
      go_wp2_with (first | (go_at_call 19; refine (specBookOk_any q _ _ ob.rd HSb.out).mono ?_; rintro e w50 ⟨he, hB50⟩; rw [hZ5.out] at he; subst he) | (fail))
      have RB : Hid (Rd encIt w50 (.slice Ab Nb Kb) q) := ob.rd.grow hB50
      have hBw : Below w.heap.size w w50 := hB.trans (hB50.mono hzw)
      have hzw5 := hBw.size
      have hl2 := RB.out.len
      clear ob hB
      go_loopw [12, 13] (fun n p wr => ∃ (i : Nat) (m : Nat), i ≤ q.length ∧ p = .int .i64 i ∧ n = .int .i64 m ∧ Hid (m = sumW (q.take i)) ∧ m ≤ 1680 ∧ Hid (Below w50.heap.size w50 wr)) (fun _ p _ => q.length - (intOf p).toNat)
      case atStart => exact ⟨0, 0, by omega, rfl, rfl, rfl, by omega, Below.refl _ _⟩
      case round =>
        obtain ⟨i, m, hi1, rfl, rfl, hm, hm2, hBr⟩ := hrel
        have hzr := hBr.out.size
        by_cases hlt : i < q.length
        · obtain ⟨bk, off, rfl, hb, rg0⟩ := rd_item rfl rfl (RB.out.grow hBr.out) i hlt
          have hlt' : (i : Int) < (Nb : Int) := by omega
          have hsz := HSb.out q[i] (List.getElem_mem hlt)
          have hn := sumW_next hlt
          have hn2 := sumW_small HOK.out (i + 1)
          have hok1 := wtI_yes (HOK.out.1 q[i] (List.getElem_mem hlt))
          have hfs := findI_self HOK.out hlt
          obtain ⟨z, hz⟩ := hid_ex (q[i])
          rw [hz.out] at rg0 hsz hn hok1 hfs
          obtain ⟨N3, F3, B3, C3, U3⟩ := z
          obtain ⟨hN3, hB3⟩ := hsz
          dsimp only at hN3 hB3 hfs
          have HF : Hid (findI q N3 = (i : Int)) := hfs
          have rg : Hid (wr.rangeAt bk (off + i * 5) [.string N3, .int .i64 F3, .string B3, .int .i64 C3, .int .i64 U3]) := rg0
          obtain ⟨x, hx⟩ := hid_ex (wtI ⟨N3, F3, B3, C3, U3⟩)
          obtain ⟨m2, hm3⟩ : ∃ m2 : Nat, Hid (m2 = sumW (q.take (i + 1))) := ⟨_, rfl⟩
          have hw : (m : Int) + x = m2 := by
            rw [← hx.out, hok1, hm.out, hm3.out, hn]
            simp
          have hmb : m2 ≤ 1680 := by rw [hm3.out]; exact hn2
          have hwr : IntKind.i64.wrap ((m : Int) + x) = (m2 : Int) := by rw [hw, IntKind.wrap_i64]; omega
          have hii : ((i : Int) != (i : Int)) = false := by simp
          clear rg0 hn hn2 hw hok1 hfs
          go_wp2_with (first | (refine wpList_load_r rfl 26 _ rfl bk (off + i * 5) [.string N3, .int .i64 F3, .string B3, .int .i64 C3, .int .i64 U3] rfl _ Try.underlying26 rfl sizeIt rg.out ?_) | (go_at_call 15; refine (implWeightOf_any N3 B3 F3 C3 U3 _ hx hN3 hB3 _).mono ?_; rintro e w51 ⟨rfl, hB51⟩; have hz51 := hB51.size; have hBr2 := hBr.out.trans (hB51.mono hzr); have d0 := (rng5 (range_of rg.out (hB51.block bk hb))).1) | (go_at_call 24; refine (implFindItem_any q N3 _ _ (RB.out.grow hBr2)).mono ?_; rintro e w52 ⟨he, hB52⟩; rw [HF.out] at he; subst he) | (fail))
          go_roundw
          case rel => exact ⟨i + 1, m2, by omega, by go_num, rfl, hm3, hmb, hBr2.trans (hB52.mono (by omega))⟩
          case measure => simp [intOf]; omega
        · have hlt' : ¬ (i : Int) < (Nb : Int) := by omega
          have hm4 : z4 = (m : Int) := by
            have := hm.out
            rw [List.take_of_length_le (by omega)] at this
            rw [E4.out, this]
          subst hm4
          have hmm : ((m : Int) == (m : Int)) = true := by simp
          clear hm
          go_wp2
          go_ret
          exact ⟨rfl, hBw.trans (hBr.out.mono hzw5)⟩
end Go.Proofs.Ytmaelhcmnjjkoaa.lawIt
