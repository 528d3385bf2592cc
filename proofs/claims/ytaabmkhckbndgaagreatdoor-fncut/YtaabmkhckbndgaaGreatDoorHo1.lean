/- Contracts: a line's words are read, the program's. -/
import Derived.Test.YtaabmkhckbndgaaGreatDoorMg13
import Derived.Test.YtaabmkhckbndgaaGreatDoorMg07
import Derived.Test.YtaabmkhckbndgaaGreatDoorLn1
import Derived.Deep.DeepCutAuto
import Derived.Deep.RegionHeld3
import Derived.BigQuiet
namespace Go.Proofs.YtaabmkhckbndgaaGreatDoor.cm
open Go.ChangeShapes Go.WideShapes Go.ChangeAt Go.RowKit
open Go.Deep Go.Joins
open Go.Proofs.YtaabmkhckbndgaaGreatDoor.ce Go.Proofs.YtaabmkhckbndgaaGreatDoor.ro Go.Proofs.YtaabmkhckbndgaaGreatDoor.rg
set_option linter.unusedVariables false

/-- while the words are read: the answer's variable, what is told of the verb, the reader, the command -/
structure Ho (w wr : World) (b4 b7 b8 b9 : Nat) (ps cs : List Value) (s : Rs) : Prop where
  V4 : VBlk wr b4 25 [.int .i64 0, .string ⟨#[]⟩, .int .i64 0, .int .i64 0, .string ⟨#[]⟩, .int .i64 0, .int .i64 0, .bool false]
  V7 : VBlk wr b7 81 ps
  R : Rr w wr b8 s
  V9 : VBlk wr b9 25 cs
  b : Below w.heap.size w wr
  l4 : w.heap.size ≤ b4
  l8 : w.heap.size ≤ b8
  l9 : w.heap.size ≤ b9
  n4 : b4 ≠ b8
  n7 : b7 ≠ b8
  n9 : b9 ≠ b8
  m4 : b4 ≠ b9
  m7 : b7 ≠ b9
theorem Ho.read {w wr w' : World} {b4 b7 b8 b9 : Nat} {ps cs : List Value} {s s' : Rs} (h : Ho w wr b4 b7 b8 b9 ps cs s) (hO : Ob b8 wr w') (hR : Rr w w' b8 s') : Ho w w' b4 b7 b8 b9 ps cs s' :=
  ⟨hO.vblk h.V4 h.n4, hO.vblk h.V7 h.n7, hR, hO.vblk h.V9 h.n9, h.b.trans (hO.low _ h.l8 h.b.size), h.l4, h.l8, h.l9, h.n4, h.n7, h.n9, h.m4, h.m7⟩
theorem Rr.other {w0 w w' : World} {b b' : Nat} {s : Rs} (h : Rr w0 w b s) (hO : Only b' w w') (hn : b ≠ b') (hl : w0.heap.size ≤ b') : Rr w0 w' b s := by
  obtain ⟨L, h1, h2, h3⟩ := h
  exact ⟨L, h1, h2.keep (hO.2.2 _ hl) (hO.2.1 b hn), h3⟩
theorem Ho.set {w wr : World} {b4 b7 b8 b9 : Nat} {ps cs : List Value} {s : Rs} (h : Ho w wr b4 b7 b8 b9 ps cs s) (j : Nat) (x : Value) : Ho w (wr.setCell ⟨b9, j, none⟩ x) b4 b7 b8 b9 ps (cs.set j x) s :=
  ⟨vblk_only h.V4 (only_set wr b9 j x) h.m4, vblk_only h.V7 (only_set wr b9 j x) h.m7, h.R.other (only_set wr b9 j x) h.n9.symm h.l9, h.V9.set j x, h.b.trans ((only_set wr b9 j x).2.2 _ h.l9), h.l4, h.l8, h.l9, h.n4, h.n7, h.n9, h.m4, h.m7⟩
theorem Ho.grow {w wr w' : World} {b4 b7 b8 b9 : Nat} {ps cs : List Value} {s : Rs} (h : Ho w wr b4 b7 b8 b9 ps cs s) (hb : Below wr.heap.size wr w') : Ho w w' b4 b7 b8 b9 ps cs s :=
  ⟨vblk_grow h.V4 hb, vblk_grow h.V7 hb, h.R.grow hb, vblk_grow h.V9 hb, h.b.trans (hb.mono h.b.size), h.l4, h.l8, h.l9, h.n4, h.n7, h.n9, h.m4, h.m7⟩

set_option maxRecDepth 100000 in
set_option maxHeartbeats 2000000 in
theorem headOf_any (v : Int) (v0 : 1 ≤ v) (v1 : v ≤ 13) (L : List ByteArray) (vs : Value) (w : World) (en : EnvR w) (r : Rd encS w vs L) (hs : ∀ x ∈ L, x.size ≤ 1048576) :
    Calls Tryz.prog 117 #[.int .i64 v, vs] w fun e w' => e = .returned (.tuple #[.agg (csCm (headC v (L.map bs))).toArray, .int .i64 (hS v (L.map bs)).1, .bool (headOk v (L.map bs))]) ∧ Below w.heap.size w w' := by
  have EN : Hid (EnvR w) := en
  have RR : Hid (Rd encS w vs L) := r
  have HS : Hid (∀ x ∈ L, x.size ≤ 1048576) := hs
  obtain ⟨ws, hws⟩ := hid_ex (L.map bs)
  rw [hws.out]
  obtain ⟨A, cap, rfl⟩ := r.form
  obtain ⟨F, eF⟩ := hid_ex (hF v ws).1
  obtain ⟨U, eU⟩ := hid_ex (hU v ws).1
  obtain ⟨SZ, eSZ⟩ := hid_ex (hS v ws).1
  obtain ⟨C, eC⟩ := hid_ex (hC v ws).1
  obtain ⟨D, eD⟩ := hid_ex (hD v ws).1
  obtain ⟨Q, eQ⟩ := hid_ex (hQ v ws).1
  have m1 : Hid True := trivial
  have m2 : Hid True := trivial
  clear en r hs
  go_enter Tryz.func117, Tryz.ntmps117
  go_upto_region 4 with (first | (clear m1; refine wpList_alloc_v rfl 25 rfl _ zeroCm ?_; intro b4 w1 hb4 hw4 hB1 V4; have hz1 := hB1.size) | (go_at_call 55; refine (partsOf_any v v0 v1 _).mono ?_; rintro er w2 ⟨rfl, hB2⟩; dsimp only [ptv]; have hz2 := hB2.size; have bP := bAl w2 (.cells #[.bool (pN v), .bool (full v), .bool (pU v), .bool (sized v), .bool (pC v), .bool (stepV v), .bool (pQ v)] 81); have bR := bAl (w2.alloc (.cells #[.bool (pN v), .bool (full v), .bool (pU v), .bool (sized v), .bool (pC v), .bool (stepV v), .bool (pQ v)] 81)) (.cells #[.slice A L.length cap, .bool false] 164)) | (clear m2; refine wpList_alloc_v rfl 25 rfl _ zeroCm ?_; intro b9 w3 hb9 hw9 hB3 V9; have hz3 := hB3.size) | (refine wpList_store_v rfl 25 _ _ rfl b9 [.int .i64 v, .string ⟨#[]⟩, .int .i64 0, .int .i64 0, .string ⟨#[]⟩, .int .i64 0, .int .i64 0, .bool false] rfl rfl sizeCm V9 rfl (oneCs v ⟨#[]⟩ 0 0 ⟨#[]⟩ 0 0 false) ?_; intro w4 hO4 V9b) | (fail))
  have SL : Ho w w4 b4 w2.heap.size (w2.heap.size + 1) b9 [.bool (pN v), .bool (full v), .bool (pU v), .bool (sized v), .bool (pC v), .bool (stepV v), .bool (pQ v)] [.int .i64 v, .string ⟨#[]⟩, .int .i64 0, .int .i64 0, .string ⟨#[]⟩, .int .i64 0, .int .i64 0, .bool false] ⟨ws, false⟩ := by
    have e1 : (w2.alloc (.cells #[.bool (pN v), .bool (full v), .bool (pU v), .bool (sized v), .bool (pC v), .bool (stepV v), .bool (pQ v)] 81)).heap.size = w2.heap.size + 1 := by simp
    have e2 : ((w2.alloc (.cells #[.bool (pN v), .bool (full v), .bool (pU v), .bool (sized v), .bool (pC v), .bool (stepV v), .bool (pQ v)] 81)).alloc (.cells #[.slice A L.length cap, .bool false] 164)).heap.size = w2.heap.size + 1 + 1 := by simp
    have l4 := V4.lt
    have hb9' : w2.heap.size + 1 + 1 ≤ b9 := by rw [← e2]; exact hb9
    have VP := vblk_grow (vblk_grow (vblk_new w2 #[.bool (pN v), .bool (full v), .bool (pU v), .bool (sized v), .bool (pC v), .bool (stepV v), .bool (pQ v)] 81) bR) hB3
    have VR := vblk_new (w2.alloc (.cells #[.bool (pN v), .bool (full v), .bool (pU v), .bool (sized v), .bool (pC v), .bool (stepV v), .bool (pQ v)] 81)) #[.slice A L.length cap, .bool false] 164
    rw [e1] at VR
    have VR3 := vblk_grow VR hB3
    have hb3 : Below w.heap.size w w3 := (((hB1.trans (hB2.mono hz1)).trans (bP.mono (by omega))).trans (bR.mono (by rw [e1]; omega))).trans (hB3.mono (by rw [e2]; omega))
    have hb4 : Below w.heap.size w w4 := hb3.trans (hO4.2.2 _ (by omega))
    have V4c := vblk_only (vblk_grow (vblk_grow (vblk_grow (vblk_grow V4 hB2) bP) bR) hB3) hO4 (by omega)
    exact ⟨V4c, vblk_only VP hO4 (by omega), ⟨L, hws.out, ⟨⟨A, L.length, cap, vblk_only VR3 hO4 (by omega), RR.out⟩, hb4, by omega⟩, HS.out⟩, V9b, hb4, by assumption, by omega, by omega, by omega, by omega, by omega, by omega, by omega⟩
  have hlt7 : w2.heap.size < w4.heap.size := SL.V7.lt
  clear V4 V9 V9b hO4 hB1 hB2 hB3 bP bR hz1 hz2 hz3 hb9 hw9 hb4 hw4
  generalize w2.heap.size + 1 = b8 at SL ⊢
  generalize w2.heap.size = b7 at SL hlt7 ⊢
  have S0 : Hid (Ho w w4 b4 b7 b8 b9 [.bool (pN v), .bool (full v), .bool (pU v), .bool (sized v), .bool (pC v), .bool (stepV v), .bool (pQ v)] [.int .i64 v, .string ⟨#[]⟩, .int .i64 0, .int .i64 0, .string ⟨#[]⟩, .int .i64 0, .int .i64 0, .bool false] ⟨ws, false⟩) := SL
  clear SL
  obtain ⟨d0, d1, d2, d3, d4, d5, d6⟩ := cells7 S0.out.V7
  have k1 : Hid True := trivial
  have k2 : Hid True := trivial
  have k3 : Hid True := trivial
  have k4 : Hid True := trivial
  have k5 : Hid True := trivial
  have k6 : Hid True := trivial
  have k7 : Hid True := trivial
  go_upto_region 11 with (first | (clear k1; go_at_call 174; refine (nameR (pN v) S0.out.R).mono ?_; rintro er w5 ⟨nm, rfl, hnm, hnms, hR5, hO5⟩; have T5 := S0.out.read hO5 hR5; have q5 := T5.V9.cell 1 (by simp); have f5 := T5.V9.frozen 1; have S5 : Hid (Ho w (w5.setCell ⟨b9, 1, none⟩ (.string nm)) b4 b7 b8 b9 [.bool (pN v), .bool (full v), .bool (pU v), .bool (sized v), .bool (pC v), .bool (stepV v), .bool (pQ v)] [.int .i64 v, .string nm, .int .i64 0, .int .i64 0, .string ⟨#[]⟩, .int .i64 0, .int .i64 0, .bool false] (hA v ws).2) := T5.set 1 (.string nm); obtain ⟨d0, d1, d2, d3, d4, d5, d6⟩ := cells7 S5.out.V7; have HN : Hid (bs nm = (hA v ws).1) := hnm; clear T5 hnm hR5 hO5) | (clear k2; go_at_call 130; refine (numberR (full v) EN.out S5.out.R).mono ?_; rintro er w6 ⟨rfl, hR6, hO6⟩; rw [show (numF (full v) (hA v ws).2).1 = F from eF.out]; have T6 := S5.out.read hO6 hR6; clear d0 d1 d2 d3 d4 d5 d6; have q6 := T6.V9.cell 2 (by simp); have f6 := T6.V9.frozen 2; have S6 : Hid (Ho w (w6.setCell ⟨b9, 2, none⟩ (.int .i64 F)) b4 b7 b8 b9 [.bool (pN v), .bool (full v), .bool (pU v), .bool (sized v), .bool (pC v), .bool (stepV v), .bool (pQ v)] [.int .i64 v, .string nm, .int .i64 F, .int .i64 0, .string ⟨#[]⟩, .int .i64 0, .int .i64 0, .bool false] (hF v ws).2) := T6.set 2 (.int .i64 F); obtain ⟨d0, d1, d2, d3, d4, d5, d6⟩ := cells7 S6.out.V7; clear T6 hR6 hO6) | (clear k3; go_at_call 130; refine (numberR (pU v) EN.out S6.out.R).mono ?_; rintro er w7 ⟨rfl, hR7, hO7⟩; rw [show (numF (pU v) (hF v ws).2).1 = U from eU.out]; have T7 := S6.out.read hO7 hR7; clear d0 d1 d2 d3 d4 d5 d6; have q7 := T7.V9.cell 3 (by simp); have f7 := T7.V9.frozen 3; have S7 : Hid (Ho w (w7.setCell ⟨b9, 3, none⟩ (.int .i64 U)) b4 b7 b8 b9 [.bool (pN v), .bool (full v), .bool (pU v), .bool (sized v), .bool (pC v), .bool (stepV v), .bool (pQ v)] [.int .i64 v, .string nm, .int .i64 F, .int .i64 U, .string ⟨#[]⟩, .int .i64 0, .int .i64 0, .bool false] (hU v ws).2) := T7.set 3 (.int .i64 U); obtain ⟨d0, d1, d2, d3, d4, d5, d6⟩ := cells7 S7.out.V7; clear T7 hR7 hO7) | (clear k4; go_at_call 130; refine (numberR (sized v) EN.out S7.out.R).mono ?_; rintro er w8 ⟨rfl, hR8, hO8⟩; rw [show (numF (sized v) (hU v ws).2).1 = SZ from eSZ.out]; have T8 := S7.out.read hO8 hR8; clear d0 d1 d2 d3 d4 d5 d6; have S8 : Hid (Ho w w8 b4 b7 b8 b9 [.bool (pN v), .bool (full v), .bool (pU v), .bool (sized v), .bool (pC v), .bool (stepV v), .bool (pQ v)] [.int .i64 v, .string nm, .int .i64 F, .int .i64 U, .string ⟨#[]⟩, .int .i64 0, .int .i64 0, .bool false] (hS v ws).2) := T8; obtain ⟨d0, d1, d2, d3, d4, d5, d6⟩ := cells7 S8.out.V7; clear T8 hR8 hO8) | (clear k5; go_at_call 130; refine (numberR (pC v) EN.out S8.out.R).mono ?_; rintro er w9 ⟨rfl, hR9, hO9⟩; rw [show (numF (pC v) (hS v ws).2).1 = C from eC.out]; have T9 := S8.out.read hO9 hR9; clear d0 d1 d2 d3 d4 d5 d6; have q9 := T9.V9.cell 5 (by simp); have f9 := T9.V9.frozen 5; have S9 : Hid (Ho w (w9.setCell ⟨b9, 5, none⟩ (.int .i64 C)) b4 b7 b8 b9 [.bool (pN v), .bool (full v), .bool (pU v), .bool (sized v), .bool (pC v), .bool (stepV v), .bool (pQ v)] [.int .i64 v, .string nm, .int .i64 F, .int .i64 U, .string ⟨#[]⟩, .int .i64 C, .int .i64 0, .bool false] (hC v ws).2) := T9.set 5 (.int .i64 C); obtain ⟨d0, d1, d2, d3, d4, d5, d6⟩ := cells7 S9.out.V7; clear T9 hR9 hO9) | (clear k6; go_at_call 130; refine (numberR (stepV v) EN.out S9.out.R).mono ?_; rintro er w10 ⟨rfl, hR10, hO10⟩; rw [show (numF (stepV v) (hC v ws).2).1 = D from eD.out]; have T10 := S9.out.read hO10 hR10; clear d0 d1 d2 d3 d4 d5 d6; have q10 := T10.V9.cell 6 (by simp); have f10 := T10.V9.frozen 6; have S10 : Hid (Ho w (w10.setCell ⟨b9, 6, none⟩ (.int .i64 D)) b4 b7 b8 b9 [.bool (pN v), .bool (full v), .bool (pU v), .bool (sized v), .bool (pC v), .bool (stepV v), .bool (pQ v)] [.int .i64 v, .string nm, .int .i64 F, .int .i64 U, .string ⟨#[]⟩, .int .i64 C, .int .i64 D, .bool false] (hD v ws).2) := T10.set 6 (.int .i64 D); obtain ⟨d0, d1, d2, d3, d4, d5, d6⟩ := cells7 S10.out.V7; clear T10 hR10 hO10) | (clear k7; go_at_call 175; refine (quietR (pQ v) S10.out.R).mono ?_; rintro er w11 ⟨rfl, hR11, hO11⟩; rw [show (quietF (pQ v) (hD v ws).2).1 = Q from eQ.out]; have T11 := S10.out.read hO11 hR11; have q11 := T11.V9.cell 7 (by simp); have f11 := T11.V9.frozen 7; have S11 : Hid (Ho w (w11.setCell ⟨b9, 7, none⟩ (.bool Q)) b4 b7 b8 b9 [.bool (pN v), .bool (full v), .bool (pU v), .bool (sized v), .bool (pC v), .bool (stepV v), .bool (pQ v)] [.int .i64 v, .string nm, .int .i64 F, .int .i64 U, .string ⟨#[]⟩, .int .i64 C, .int .i64 D, .bool Q] (hQ v ws).2) := T11.set 7 (.bool Q); clear T11 hR11 hO11) | (fail))
  obtain ⟨wz, hwz⟩ := hid_ex (w11.setCell ⟨b9, 7, none⟩ (.bool Q))
  rw [hwz.out] at S11
  rw [hwz.out]
  have SE : Hid (Ho w wz b4 b7 b8 b9 [.bool (pN v), .bool (full v), .bool (pU v), .bool (sized v), .bool (pC v), .bool (stepV v), .bool (pQ v)] [.int .i64 v, .string nm, .int .i64 F, .int .i64 U, .string ⟨#[]⟩, .int .i64 C, .int .i64 D, .bool Q] (hQ v ws).2) := S11
  clear S11 hwz
  have enm : nm = tx (hA v ws).1 := by rw [← HN.out, tx_bs]
  have ehc : Hid (headC v ws = ⟨v, nm, F, U, emp, C, D, Q⟩) := by
    unfold Hid headC
    rw [eF.out, eU.out, eC.out, eD.out, eQ.out, enm]
  obtain ⟨y1, hy1⟩ := hid_ex (!(hQ v ws).2.x && (hQ v ws).2.l.isEmpty)
  obtain ⟨y2, hy2⟩ := hid_ex (cmdB ⟨v, nm, F, U, ⟨#[]⟩, C, D, Q⟩)
  obtain ⟨y3, hy3⟩ := hid_ex (decide (0 ≤ SZ) && decide (SZ ≤ 64))
  have ehk : Hid (headOk v ws = (y1 && y2 && y3)) := by
    unfold Hid headOk
    rw [hy1.out, ehc.out, eSZ.out, hy3.out]
    rw [show cmdB ⟨v, nm, F, U, emp, C, D, Q⟩ = y2 from hy2.out]
  clear enm
  have SEd : Ho w wz.drew b4 b7 b8 b9 [.bool (pN v), .bool (full v), .bool (pU v), .bool (sized v), .bool (pC v), .bool (stepV v), .bool (pQ v)] [.int .i64 v, .string nm, .int .i64 F, .int .i64 U, .string ⟨#[]⟩, .int .i64 C, .int .i64 D, .bool Q] (hQ v ws).2 := SE.out.grow (Below.refl _ _).drew
  have H0 : wz.drew.cell? ⟨b9, 0, none⟩ = some (.int .i64 v) ∧ wz.drew.cell? ⟨b9, 1, none⟩ = some (.string nm) ∧ wz.drew.cell? ⟨b9, 2, none⟩ = some (.int .i64 F) ∧ wz.drew.cell? ⟨b9, 3, none⟩ = some (.int .i64 U) ∧ wz.drew.cell? ⟨b9, 4, none⟩ = some (.string ⟨#[]⟩) ∧ wz.drew.cell? ⟨b9, 5, none⟩ = some (.int .i64 C) ∧ wz.drew.cell? ⟨b9, 6, none⟩ = some (.int .i64 D) ∧ wz.drew.cell? ⟨b9, 7, none⟩ = some (.bool Q) := cellsCm SEd.V9
  have hem : (⟨#[]⟩ : ByteArray).size ≤ 9223372036854775807 := by decide
  have fin : ∀ (wx : World), Ho w wx b4 b7 b8 b9 [.bool (pN v), .bool (full v), .bool (pU v), .bool (sized v), .bool (pC v), .bool (stepV v), .bool (pQ v)] [.int .i64 v, .string nm, .int .i64 F, .int .i64 U, .string ⟨#[]⟩, .int .i64 C, .int .i64 D, .bool Q] (hQ v ws).2 → VBlk ((((((((wx.setCell ⟨b4, 0, none⟩ (.int .i64 v)).setCell ⟨b4, 1, none⟩ (.string nm)).setCell ⟨b4, 2, none⟩ (.int .i64 F)).setCell ⟨b4, 3, none⟩ (.int .i64 U)).setCell ⟨b4, 4, none⟩ (.string ⟨#[]⟩)).setCell ⟨b4, 5, none⟩ (.int .i64 C)).setCell ⟨b4, 6, none⟩ (.int .i64 D)).setCell ⟨b4, 7, none⟩ (.bool Q)) b4 25 [.int .i64 v, .string nm, .int .i64 F, .int .i64 U, .string ⟨#[]⟩, .int .i64 C, .int .i64 D, .bool Q] ∧ Below w.heap.size w ((((((((wx.setCell ⟨b4, 0, none⟩ (.int .i64 v)).setCell ⟨b4, 1, none⟩ (.string nm)).setCell ⟨b4, 2, none⟩ (.int .i64 F)).setCell ⟨b4, 3, none⟩ (.int .i64 U)).setCell ⟨b4, 4, none⟩ (.string ⟨#[]⟩)).setCell ⟨b4, 5, none⟩ (.int .i64 C)).setCell ⟨b4, 6, none⟩ (.int .i64 D)).setCell ⟨b4, 7, none⟩ (.bool Q)) := fun wx h => ⟨st8 h.V4 (.int .i64 v) (.string nm) (.int .i64 F) (.int .i64 U) (.string ⟨#[]⟩) (.int .i64 C) (.int .i64 D) (.bool Q), h.b.trans ((st8o wx b4 (.int .i64 v) (.string nm) (.int .i64 F) (.int .i64 U) (.string ⟨#[]⟩) (.int .i64 C) (.int .i64 D) (.bool Q)).2.2 _ h.l4)⟩
  cases y1 with
  | false =>
    refine wp_region_held_drew (S := fun w' => w'.cell? ⟨b9, 0, none⟩ = some (.int .i64 v) ∧ w'.cell? ⟨b9, 1, none⟩ = some (.string nm) ∧ w'.cell? ⟨b9, 2, none⟩ = some (.int .i64 F) ∧ w'.cell? ⟨b9, 3, none⟩ = some (.int .i64 U) ∧ w'.cell? ⟨b9, 4, none⟩ = some (.string ⟨#[]⟩) ∧ w'.cell? ⟨b9, 5, none⟩ = some (.int .i64 C) ∧ w'.cell? ⟨b9, 6, none⟩ = some (.int .i64 D) ∧ w'.cell? ⟨b9, 7, none⟩ = some (.bool Q)) (by kernel_rfl) (H0) (fun hHeld => ?_)
    refine wpAnyH_take (i := 0) (oi := { dst := some 44, op := Op.load 25 (Operand.tmp 9), type := 25, pos := "l11_command.go:185", after := #[], guard := none }) (v := ?_) rfl (by kernel_rfl) (by kernel_rfl) (by kernel_rfl) (fun _ _ _ h => h) (Or.inl ⟨by rfl, ?_⟩) (by assumption) ?_
    rotate_left 1
    · intro w' hSw
      (try dsimp only at hSw)
      go_simp
      (try with_reducible rfl)
    (try simp only [Act.put, List.setIfInBounds_toArray, List.set_cons_zero, List.set_cons_succ])
    refine wpAnyH_take (i := 1) (oi := { dst := some 45, op := Op.move (Operand.tmp 10), type := 2, pos := "l11_command.go:185", after := #[{ on := 11, ground := Ground.gcOnly Departure.lateStores }], guard := none }) (v := ?_) rfl (by kernel_rfl) (by kernel_rfl) (by kernel_rfl) (fun _ _ _ h => h) (Or.inl ⟨by rfl, ?_⟩) (by assumption) ?_
    rotate_left 1
    · intro w' hSw
      (try dsimp only at hSw)
      go_simp
      (try with_reducible rfl)
    (try simp only [Act.put, List.setIfInBounds_toArray, List.set_cons_zero, List.set_cons_succ])
    refine wpAnyH_ready (rs := [2]) (by kernel_rfl) (by simp) ?_
    refine AllReadyH.cons (o := { dst := some 46, op := Op.call { callee := Callee.value (Operand.func 176), args := #[Operand.tmp 8], argTypes := #[164] }, type := 4, pos := "l11_command.go:185", after := #[], guard := none }) rfl (fun KC hKC => ?_) AllReadyH.nil
    go_simp
    go_at_call 176
    refine (allRightR false hy1 SEd.R).mono ?_
    rintro er wq ⟨rfl, hq⟩
    subst wq
    refine hKC.out _ _ (H0) (fun hHeld2 => ?_)
    clear hKC KC hHeld
    have hHeld := hHeld2
    clear hHeld2
    (try simp only [Act.put, List.setIfInBounds_toArray, List.set_cons_zero, List.set_cons_succ])
    refine wpAnyH_take (i := 3) (oi := { dst := some 47, op := Op.move (Operand.tmp 46), type := 4, pos := "l11_command.go:185", after := #[{ on := 2, ground := Ground.data }, { on := 2, ground := Ground.chain }], guard := none }) (v := ?_) rfl (by kernel_rfl) (by kernel_rfl) (by kernel_rfl) (fun _ _ _ h => h) (Or.inl ⟨by rfl, ?_⟩) (by assumption) ?_
    rotate_left 1
    · intro w' hSw
      (try dsimp only at hSw)
      go_simp
      (try with_reducible rfl)
    (try simp only [Act.put, List.setIfInBounds_toArray, List.set_cons_zero, List.set_cons_succ])
    refine wpAnyH_take (i := 4) (oi := { dst := some 48, op := Op.load 25 (Operand.tmp 9), type := 25, pos := "l11_command.go:185", after := #[{ on := 3, ground := Ground.guard }], guard := some (3, true) }) (v := undef) rfl (by kernel_rfl) (by kernel_rfl) (by kernel_rfl) (fun _ _ _ h => h) (Or.inr ⟨by rfl, rfl⟩) (by assumption) ?_
    (try simp only [Act.put, List.setIfInBounds_toArray, List.set_cons_zero, List.set_cons_succ])
    refine wpAnyH_take (i := 5) (oi := { dst := some 49, op := Op.call { callee := Callee.value (Operand.func 16), args := #[Operand.tmp 48], argTypes := #[25] }, type := 4, pos := "l11_command.go:185", after := #[{ on := 4, ground := Ground.data }, { on := 3, ground := Ground.chain }, { on := 3, ground := Ground.guard }], guard := some (3, true) }) (v := undef) rfl (by kernel_rfl) (by kernel_rfl) (by kernel_rfl) (fun _ _ _ h => h) (Or.inr ⟨by rfl, rfl⟩) (by assumption) ?_
    (try simp only [Act.put, List.setIfInBounds_toArray, List.set_cons_zero, List.set_cons_succ])
    refine wpAnyH_take (i := 6) (oi := { dst := some 50, op := Op.pick (Operand.tmp 47) (Operand.tmp 49) (Operand.const (Value.bool false)), type := 4, pos := "l11_command.go:185", after := #[{ on := 3, ground := Ground.data }, { on := 5, ground := Ground.data }], guard := none }) (v := ?_) rfl (by kernel_rfl) (by kernel_rfl) (by kernel_rfl) (fun _ _ _ h => h) (Or.inl ⟨by rfl, ?_⟩) (by assumption) ?_
    rotate_left 1
    · intro w' hSw
      (try dsimp only at hSw)
      go_simp
      (try with_reducible rfl)
    (try simp only [Act.put, List.setIfInBounds_toArray, List.set_cons_zero, List.set_cons_succ])
    refine wpAnyH_take (i := 7) (oi := { dst := some 51, op := Op.move (Operand.tmp 50), type := 4, pos := "l11_command.go:185", after := #[{ on := 6, ground := Ground.data }, { on := 5, ground := Ground.chain }], guard := none }) (v := ?_) rfl (by kernel_rfl) (by kernel_rfl) (by kernel_rfl) (fun _ _ _ h => h) (Or.inl ⟨by rfl, ?_⟩) (by assumption) ?_
    rotate_left 1
    · intro w' hSw
      (try dsimp only at hSw)
      go_simp
      (try with_reducible rfl)
    (try simp only [Act.put, List.setIfInBounds_toArray, List.set_cons_zero, List.set_cons_succ])
    refine wpAnyH_take (i := 8) (oi := { dst := some 52, op := Op.move (Operand.tmp 10), type := 2, pos := "l11_command.go:185", after := #[{ on := 7, ground := Ground.guard }], guard := some (7, true) }) (v := undef) rfl (by kernel_rfl) (by kernel_rfl) (by kernel_rfl) (fun _ _ _ h => h) (Or.inr ⟨by rfl, rfl⟩) (by assumption) ?_
    (try simp only [Act.put, List.setIfInBounds_toArray, List.set_cons_zero, List.set_cons_succ])
    refine wpAnyH_take (i := 9) (oi := { dst := some 53, op := Op.call { callee := Callee.value (Operand.func 63), args := #[Operand.tmp 52, Operand.const (Value.int IntKind.i64 0), Operand.const (Value.int IntKind.i64 64)], argTypes := #[2, 2, 2] }, type := 4, pos := "l11_command.go:185", after := #[{ on := 8, ground := Ground.data }, { on := 7, ground := Ground.chain }, { on := 7, ground := Ground.guard }], guard := some (7, true) }) (v := undef) rfl (by kernel_rfl) (by kernel_rfl) (by kernel_rfl) (fun _ _ _ h => h) (Or.inr ⟨by rfl, rfl⟩) (by assumption) ?_
    (try simp only [Act.put, List.setIfInBounds_toArray, List.set_cons_zero, List.set_cons_succ])
    refine wpAnyH_take (i := 10) (oi := { dst := some 54, op := Op.pick (Operand.tmp 51) (Operand.tmp 53) (Operand.const (Value.bool false)), type := 4, pos := "l11_command.go:185", after := #[{ on := 7, ground := Ground.data }, { on := 9, ground := Ground.data }, { on := 12, ground := Ground.gcOnly Departure.lateStores }], guard := none }) (v := ?_) rfl (by kernel_rfl) (by kernel_rfl) (by kernel_rfl) (fun _ _ _ h => h) (Or.inl ⟨by rfl, ?_⟩) (by assumption) ?_
    rotate_left 1
    · intro w' hSw
      (try dsimp only at hSw)
      go_simp
      (try with_reducible rfl)
    (try simp only [Act.put, List.setIfInBounds_toArray, List.set_cons_zero, List.set_cons_succ])
    refine wpAnyH_ready (rs := [11]) (by kernel_rfl) (by simp) ?_
    refine AllReadyH.cons (o := { dst := none, op := Op.store 25 (Operand.tmp 4) (Operand.tmp 44), type := 0, pos := "l11_command.go:185", after := #[{ on := 0, ground := Ground.data }, { on := 9, ground := Ground.chain }, { on := 0, ground := Ground.phase }, { on := 1, ground := Ground.textOnly Departure.lateStores }, { on := 2, ground := Ground.textOnly Departure.lateStoresUnsure }, { on := 3, ground := Ground.textOnly Departure.lateStores }, { on := 4, ground := Ground.textOnly Departure.lateStores }, { on := 5, ground := Ground.textOnly Departure.lateStoresUnsure }, { on := 6, ground := Ground.textOnly Departure.lateStores }, { on := 7, ground := Ground.textOnly Departure.lateStores }, { on := 8, ground := Ground.textOnly Departure.lateStores }, { on := 9, ground := Ground.textOnly Departure.lateStoresUnsure }, { on := 10, ground := Ground.textOnly Departure.lateStores }], guard := none }) rfl (fun KC hKC => ?_) AllReadyH.nil
    refine step_store_v rfl 25 _ _ rfl b4 [.int .i64 v, .string nm, .int .i64 F, .int .i64 U, .string ⟨#[]⟩, .int .i64 C, .int .i64 D, .bool Q] rfl rfl sizeCm SEd.V4 rfl (oneCs v nm F U ⟨#[]⟩ C D Q) ?_
    intro w9 hO9 V9
    refine hKC.out _ _ (cellsCm (vblk_only SEd.V9 hO9 (fun e => SEd.m4 e.symm))) (fun hHeld2 => ?_)
    clear hKC KC hHeld
    have hHeld := hHeld2
    clear hHeld2
    (try simp only [Act.put])
    refine wpAnyH_take (i := 12) (oi := { dst := some 5, op := Op.assign (Operand.tmp 45), type := 2, pos := "l11_command.go:185", after := #[{ on := 1, ground := Ground.data }, { on := 11, ground := Ground.chain }, { on := 0, ground := Ground.phase }, { on := 1, ground := Ground.phase }, { on := 2, ground := Ground.textOnly Departure.lateStoresUnsure }, { on := 3, ground := Ground.textOnly Departure.lateStores }, { on := 4, ground := Ground.textOnly Departure.lateStores }, { on := 5, ground := Ground.textOnly Departure.lateStoresUnsure }, { on := 6, ground := Ground.textOnly Departure.lateStores }, { on := 7, ground := Ground.textOnly Departure.lateStores }, { on := 8, ground := Ground.textOnly Departure.lateStores }, { on := 9, ground := Ground.textOnly Departure.lateStoresUnsure }, { on := 10, ground := Ground.textOnly Departure.lateStores }, { on := 11, ground := Ground.phase }], guard := none }) (v := ?_) rfl (by kernel_rfl) (by kernel_rfl) (by kernel_rfl) (fun _ _ _ h => h) (Or.inl ⟨by rfl, ?_⟩) (by assumption) ?_
    rotate_left 1
    · intro w' hSw
      (try dsimp only at hSw)
      go_simp
      (try with_reducible rfl)
    (try simp only [Act.put, List.setIfInBounds_toArray, List.set_cons_zero, List.set_cons_succ])
    refine wpAnyH_take (i := 13) (oi := { dst := some 6, op := Op.assign (Operand.tmp 54), type := 4, pos := "l11_command.go:185", after := #[{ on := 10, ground := Ground.data }, { on := 12, ground := Ground.chain }, { on := 0, ground := Ground.phase }, { on := 1, ground := Ground.phase }, { on := 2, ground := Ground.phase }, { on := 3, ground := Ground.phase }, { on := 4, ground := Ground.phase }, { on := 5, ground := Ground.phase }, { on := 6, ground := Ground.phase }, { on := 7, ground := Ground.phase }, { on := 8, ground := Ground.phase }, { on := 9, ground := Ground.phase }, { on := 10, ground := Ground.phase }, { on := 11, ground := Ground.phase }, { on := 12, ground := Ground.phase }], guard := none }) (v := ?_) rfl (by kernel_rfl) (by kernel_rfl) (by kernel_rfl) (fun _ _ _ h => h) (Or.inl ⟨by rfl, ?_⟩) (by assumption) ?_
    rotate_left 1
    · intro w' hSw
      (try dsimp only at hSw)
      go_simp
      (try with_reducible rfl)
    (try simp only [Act.put, List.setIfInBounds_toArray, List.set_cons_zero, List.set_cons_succ])
    refine wpAnyH_done (by kernel_rfl) ?_ _
    go_wp2
    exact row_ctt rfl rfl rfl rfl V9 Tryz.underlying25 sizeCm rfl ⟨by rw [ehc.out, eSZ.out, ehk.out]; rfl, SEd.b.trans (hO9.2.2 _ SEd.l4)⟩
  | true =>
    cases y2 with
    | false =>
      refine wp_region_held_drew (S := fun w' => w'.cell? ⟨b9, 0, none⟩ = some (.int .i64 v) ∧ w'.cell? ⟨b9, 1, none⟩ = some (.string nm) ∧ w'.cell? ⟨b9, 2, none⟩ = some (.int .i64 F) ∧ w'.cell? ⟨b9, 3, none⟩ = some (.int .i64 U) ∧ w'.cell? ⟨b9, 4, none⟩ = some (.string ⟨#[]⟩) ∧ w'.cell? ⟨b9, 5, none⟩ = some (.int .i64 C) ∧ w'.cell? ⟨b9, 6, none⟩ = some (.int .i64 D) ∧ w'.cell? ⟨b9, 7, none⟩ = some (.bool Q)) (by kernel_rfl) (H0) (fun hHeld => ?_)
      refine wpAnyH_take (i := 0) (oi := { dst := some 44, op := Op.load 25 (Operand.tmp 9), type := 25, pos := "l11_command.go:185", after := #[], guard := none }) (v := ?_) rfl (by kernel_rfl) (by kernel_rfl) (by kernel_rfl) (fun _ _ _ h => h) (Or.inl ⟨by rfl, ?_⟩) (by assumption) ?_
      rotate_left 1
      · intro w' hSw
        (try dsimp only at hSw)
        go_simp
        (try with_reducible rfl)
      (try simp only [Act.put, List.setIfInBounds_toArray, List.set_cons_zero, List.set_cons_succ])
      refine wpAnyH_take (i := 1) (oi := { dst := some 45, op := Op.move (Operand.tmp 10), type := 2, pos := "l11_command.go:185", after := #[{ on := 11, ground := Ground.gcOnly Departure.lateStores }], guard := none }) (v := ?_) rfl (by kernel_rfl) (by kernel_rfl) (by kernel_rfl) (fun _ _ _ h => h) (Or.inl ⟨by rfl, ?_⟩) (by assumption) ?_
      rotate_left 1
      · intro w' hSw
        (try dsimp only at hSw)
        go_simp
        (try with_reducible rfl)
      (try simp only [Act.put, List.setIfInBounds_toArray, List.set_cons_zero, List.set_cons_succ])
      refine wpAnyH_ready (rs := [2]) (by kernel_rfl) (by simp) ?_
      refine AllReadyH.cons (o := { dst := some 46, op := Op.call { callee := Callee.value (Operand.func 176), args := #[Operand.tmp 8], argTypes := #[164] }, type := 4, pos := "l11_command.go:185", after := #[], guard := none }) rfl (fun KC hKC => ?_) AllReadyH.nil
      go_simp
      go_at_call 176
      refine (allRightR true hy1 SEd.R).mono ?_
      rintro er wq ⟨rfl, hq⟩
      subst wq
      refine hKC.out _ _ (H0) (fun hHeld2 => ?_)
      clear hKC KC hHeld
      have hHeld := hHeld2
      clear hHeld2
      (try simp only [Act.put, List.setIfInBounds_toArray, List.set_cons_zero, List.set_cons_succ])
      refine wpAnyH_take (i := 3) (oi := { dst := some 47, op := Op.move (Operand.tmp 46), type := 4, pos := "l11_command.go:185", after := #[{ on := 2, ground := Ground.data }, { on := 2, ground := Ground.chain }], guard := none }) (v := ?_) rfl (by kernel_rfl) (by kernel_rfl) (by kernel_rfl) (fun _ _ _ h => h) (Or.inl ⟨by rfl, ?_⟩) (by assumption) ?_
      rotate_left 1
      · intro w' hSw
        (try dsimp only at hSw)
        go_simp
        (try with_reducible rfl)
      (try simp only [Act.put, List.setIfInBounds_toArray, List.set_cons_zero, List.set_cons_succ])
      refine wpAnyH_take (i := 4) (oi := { dst := some 48, op := Op.load 25 (Operand.tmp 9), type := 25, pos := "l11_command.go:185", after := #[{ on := 3, ground := Ground.guard }], guard := some (3, true) }) (v := ?_) rfl (by kernel_rfl) (by kernel_rfl) (by kernel_rfl) (fun _ _ _ h => h) (Or.inl ⟨by rfl, ?_⟩) (by assumption) ?_
      rotate_left 1
      · intro w' hSw
        (try dsimp only at hSw)
        go_simp
        (try with_reducible rfl)
      (try simp only [Act.put, List.setIfInBounds_toArray, List.set_cons_zero, List.set_cons_succ])
      refine wpAnyH_ready (rs := [5]) (by kernel_rfl) (by simp) ?_
      refine AllReadyH.cons (o := { dst := some 49, op := Op.call { callee := Callee.value (Operand.func 16), args := #[Operand.tmp 48], argTypes := #[25] }, type := 4, pos := "l11_command.go:185", after := #[{ on := 4, ground := Ground.data }, { on := 3, ground := Ground.chain }, { on := 3, ground := Ground.guard }], guard := some (3, true) }) rfl (fun KC hKC => ?_) AllReadyH.nil
      go_simp
      go_at_call 16
      refine (implCmdOk_any v nm ⟨#[]⟩ F U C D Q false hy2 (by omega) hem _).mono ?_
      rintro er w6' ⟨rfl, hB6'⟩
      have S6' := SEd.grow hB6'
      refine hKC.out _ _ (cellsCm S6'.V9) (fun hHeld2 => ?_)
      clear hKC KC hHeld
      have hHeld := hHeld2
      clear hHeld2
      (try simp only [Act.put, List.setIfInBounds_toArray, List.set_cons_zero, List.set_cons_succ])
      refine wpAnyH_take (i := 6) (oi := { dst := some 50, op := Op.pick (Operand.tmp 47) (Operand.tmp 49) (Operand.const (Value.bool false)), type := 4, pos := "l11_command.go:185", after := #[{ on := 3, ground := Ground.data }, { on := 5, ground := Ground.data }], guard := none }) (v := ?_) rfl (by kernel_rfl) (by kernel_rfl) (by kernel_rfl) (fun _ _ _ h => h) (Or.inl ⟨by rfl, ?_⟩) (by assumption) ?_
      rotate_left 1
      · intro w' hSw
        (try dsimp only at hSw)
        go_simp
        (try with_reducible rfl)
      (try simp only [Act.put, List.setIfInBounds_toArray, List.set_cons_zero, List.set_cons_succ])
      refine wpAnyH_take (i := 7) (oi := { dst := some 51, op := Op.move (Operand.tmp 50), type := 4, pos := "l11_command.go:185", after := #[{ on := 6, ground := Ground.data }, { on := 5, ground := Ground.chain }], guard := none }) (v := ?_) rfl (by kernel_rfl) (by kernel_rfl) (by kernel_rfl) (fun _ _ _ h => h) (Or.inl ⟨by rfl, ?_⟩) (by assumption) ?_
      rotate_left 1
      · intro w' hSw
        (try dsimp only at hSw)
        go_simp
        (try with_reducible rfl)
      (try simp only [Act.put, List.setIfInBounds_toArray, List.set_cons_zero, List.set_cons_succ])
      refine wpAnyH_take (i := 8) (oi := { dst := some 52, op := Op.move (Operand.tmp 10), type := 2, pos := "l11_command.go:185", after := #[{ on := 7, ground := Ground.guard }], guard := some (7, true) }) (v := undef) rfl (by kernel_rfl) (by kernel_rfl) (by kernel_rfl) (fun _ _ _ h => h) (Or.inr ⟨by rfl, rfl⟩) (by assumption) ?_
      (try simp only [Act.put, List.setIfInBounds_toArray, List.set_cons_zero, List.set_cons_succ])
      refine wpAnyH_take (i := 9) (oi := { dst := some 53, op := Op.call { callee := Callee.value (Operand.func 63), args := #[Operand.tmp 52, Operand.const (Value.int IntKind.i64 0), Operand.const (Value.int IntKind.i64 64)], argTypes := #[2, 2, 2] }, type := 4, pos := "l11_command.go:185", after := #[{ on := 8, ground := Ground.data }, { on := 7, ground := Ground.chain }, { on := 7, ground := Ground.guard }], guard := some (7, true) }) (v := undef) rfl (by kernel_rfl) (by kernel_rfl) (by kernel_rfl) (fun _ _ _ h => h) (Or.inr ⟨by rfl, rfl⟩) (by assumption) ?_
      (try simp only [Act.put, List.setIfInBounds_toArray, List.set_cons_zero, List.set_cons_succ])
      refine wpAnyH_take (i := 10) (oi := { dst := some 54, op := Op.pick (Operand.tmp 51) (Operand.tmp 53) (Operand.const (Value.bool false)), type := 4, pos := "l11_command.go:185", after := #[{ on := 7, ground := Ground.data }, { on := 9, ground := Ground.data }, { on := 12, ground := Ground.gcOnly Departure.lateStores }], guard := none }) (v := ?_) rfl (by kernel_rfl) (by kernel_rfl) (by kernel_rfl) (fun _ _ _ h => h) (Or.inl ⟨by rfl, ?_⟩) (by assumption) ?_
      rotate_left 1
      · intro w' hSw
        (try dsimp only at hSw)
        go_simp
        (try with_reducible rfl)
      (try simp only [Act.put, List.setIfInBounds_toArray, List.set_cons_zero, List.set_cons_succ])
      refine wpAnyH_ready (rs := [11]) (by kernel_rfl) (by simp) ?_
      refine AllReadyH.cons (o := { dst := none, op := Op.store 25 (Operand.tmp 4) (Operand.tmp 44), type := 0, pos := "l11_command.go:185", after := #[{ on := 0, ground := Ground.data }, { on := 9, ground := Ground.chain }, { on := 0, ground := Ground.phase }, { on := 1, ground := Ground.textOnly Departure.lateStores }, { on := 2, ground := Ground.textOnly Departure.lateStoresUnsure }, { on := 3, ground := Ground.textOnly Departure.lateStores }, { on := 4, ground := Ground.textOnly Departure.lateStores }, { on := 5, ground := Ground.textOnly Departure.lateStoresUnsure }, { on := 6, ground := Ground.textOnly Departure.lateStores }, { on := 7, ground := Ground.textOnly Departure.lateStores }, { on := 8, ground := Ground.textOnly Departure.lateStores }, { on := 9, ground := Ground.textOnly Departure.lateStoresUnsure }, { on := 10, ground := Ground.textOnly Departure.lateStores }], guard := none }) rfl (fun KC hKC => ?_) AllReadyH.nil
      refine step_store_v rfl 25 _ _ rfl b4 [.int .i64 v, .string nm, .int .i64 F, .int .i64 U, .string ⟨#[]⟩, .int .i64 C, .int .i64 D, .bool Q] rfl rfl sizeCm S6'.V4 rfl (oneCs v nm F U ⟨#[]⟩ C D Q) ?_
      intro w9 hO9 V9
      refine hKC.out _ _ (cellsCm (vblk_only S6'.V9 hO9 (fun e => S6'.m4 e.symm))) (fun hHeld2 => ?_)
      clear hKC KC hHeld
      have hHeld := hHeld2
      clear hHeld2
      (try simp only [Act.put])
      refine wpAnyH_take (i := 12) (oi := { dst := some 5, op := Op.assign (Operand.tmp 45), type := 2, pos := "l11_command.go:185", after := #[{ on := 1, ground := Ground.data }, { on := 11, ground := Ground.chain }, { on := 0, ground := Ground.phase }, { on := 1, ground := Ground.phase }, { on := 2, ground := Ground.textOnly Departure.lateStoresUnsure }, { on := 3, ground := Ground.textOnly Departure.lateStores }, { on := 4, ground := Ground.textOnly Departure.lateStores }, { on := 5, ground := Ground.textOnly Departure.lateStoresUnsure }, { on := 6, ground := Ground.textOnly Departure.lateStores }, { on := 7, ground := Ground.textOnly Departure.lateStores }, { on := 8, ground := Ground.textOnly Departure.lateStores }, { on := 9, ground := Ground.textOnly Departure.lateStoresUnsure }, { on := 10, ground := Ground.textOnly Departure.lateStores }, { on := 11, ground := Ground.phase }], guard := none }) (v := ?_) rfl (by kernel_rfl) (by kernel_rfl) (by kernel_rfl) (fun _ _ _ h => h) (Or.inl ⟨by rfl, ?_⟩) (by assumption) ?_
      rotate_left 1
      · intro w' hSw
        (try dsimp only at hSw)
        go_simp
        (try with_reducible rfl)
      (try simp only [Act.put, List.setIfInBounds_toArray, List.set_cons_zero, List.set_cons_succ])
      refine wpAnyH_take (i := 13) (oi := { dst := some 6, op := Op.assign (Operand.tmp 54), type := 4, pos := "l11_command.go:185", after := #[{ on := 10, ground := Ground.data }, { on := 12, ground := Ground.chain }, { on := 0, ground := Ground.phase }, { on := 1, ground := Ground.phase }, { on := 2, ground := Ground.phase }, { on := 3, ground := Ground.phase }, { on := 4, ground := Ground.phase }, { on := 5, ground := Ground.phase }, { on := 6, ground := Ground.phase }, { on := 7, ground := Ground.phase }, { on := 8, ground := Ground.phase }, { on := 9, ground := Ground.phase }, { on := 10, ground := Ground.phase }, { on := 11, ground := Ground.phase }, { on := 12, ground := Ground.phase }], guard := none }) (v := ?_) rfl (by kernel_rfl) (by kernel_rfl) (by kernel_rfl) (fun _ _ _ h => h) (Or.inl ⟨by rfl, ?_⟩) (by assumption) ?_
      rotate_left 1
      · intro w' hSw
        (try dsimp only at hSw)
        go_simp
        (try with_reducible rfl)
      (try simp only [Act.put, List.setIfInBounds_toArray, List.set_cons_zero, List.set_cons_succ])
      refine wpAnyH_done (by kernel_rfl) ?_ _
      go_wp2
      exact row_ctt rfl rfl rfl rfl V9 Tryz.underlying25 sizeCm rfl ⟨by rw [ehc.out, eSZ.out, ehk.out]; rfl, S6'.b.trans (hO9.2.2 _ S6'.l4)⟩
    | true =>
      go_region_held3 (fun w' => w'.cell? ⟨b9, 0, none⟩ = some (.int .i64 v) ∧ w'.cell? ⟨b9, 1, none⟩ = some (.string nm) ∧ w'.cell? ⟨b9, 2, none⟩ = some (.int .i64 F) ∧ w'.cell? ⟨b9, 3, none⟩ = some (.int .i64 U) ∧ w'.cell? ⟨b9, 4, none⟩ = some (.string ⟨#[]⟩) ∧ w'.cell? ⟨b9, 5, none⟩ = some (.int .i64 C) ∧ w'.cell? ⟨b9, 6, none⟩ = some (.int .i64 D) ∧ w'.cell? ⟨b9, 7, none⟩ = some (.bool Q)) (first | with_reducible assumption | with_reducible exact H0 | (fail)) (first | (go_at_call 176; refine (allRightR true hy1 SEd.R).mono ?_; rintro er wq ⟨rfl, hq⟩; subst wq) | (go_at_call 16; refine (implCmdOk_any v nm ⟨#[]⟩ F U C D Q true hy2 (by omega) hem _).mono ?_; rintro er w6' ⟨rfl, hB6'⟩; have S6' := SEd.grow hB6'; have H6 : w6'.cell? ⟨b9, 0, none⟩ = some (.int .i64 v) ∧ w6'.cell? ⟨b9, 1, none⟩ = some (.string nm) ∧ w6'.cell? ⟨b9, 2, none⟩ = some (.int .i64 F) ∧ w6'.cell? ⟨b9, 3, none⟩ = some (.int .i64 U) ∧ w6'.cell? ⟨b9, 4, none⟩ = some (.string ⟨#[]⟩) ∧ w6'.cell? ⟨b9, 5, none⟩ = some (.int .i64 C) ∧ w6'.cell? ⟨b9, 6, none⟩ = some (.int .i64 D) ∧ w6'.cell? ⟨b9, 7, none⟩ = some (.bool Q) := cellsCm S6'.V9; obtain ⟨z0, z1, z2', z3, z4, z5, z6, z7⟩ := cellsCm S6'.V4; obtain ⟨y0', y1', y2', y3', y4', y5', y6', y7'⟩ := frozCm S6'.V4; have H9 : ((((((((w6'.setCell ⟨b4, 0, none⟩ (.int .i64 v)).setCell ⟨b4, 1, none⟩ (.string nm)).setCell ⟨b4, 2, none⟩ (.int .i64 F)).setCell ⟨b4, 3, none⟩ (.int .i64 U)).setCell ⟨b4, 4, none⟩ (.string ⟨#[]⟩)).setCell ⟨b4, 5, none⟩ (.int .i64 C)).setCell ⟨b4, 6, none⟩ (.int .i64 D)).setCell ⟨b4, 7, none⟩ (.bool Q)).cell? ⟨b9, 0, none⟩ = some (.int .i64 v) ∧ ((((((((w6'.setCell ⟨b4, 0, none⟩ (.int .i64 v)).setCell ⟨b4, 1, none⟩ (.string nm)).setCell ⟨b4, 2, none⟩ (.int .i64 F)).setCell ⟨b4, 3, none⟩ (.int .i64 U)).setCell ⟨b4, 4, none⟩ (.string ⟨#[]⟩)).setCell ⟨b4, 5, none⟩ (.int .i64 C)).setCell ⟨b4, 6, none⟩ (.int .i64 D)).setCell ⟨b4, 7, none⟩ (.bool Q)).cell? ⟨b9, 1, none⟩ = some (.string nm) ∧ ((((((((w6'.setCell ⟨b4, 0, none⟩ (.int .i64 v)).setCell ⟨b4, 1, none⟩ (.string nm)).setCell ⟨b4, 2, none⟩ (.int .i64 F)).setCell ⟨b4, 3, none⟩ (.int .i64 U)).setCell ⟨b4, 4, none⟩ (.string ⟨#[]⟩)).setCell ⟨b4, 5, none⟩ (.int .i64 C)).setCell ⟨b4, 6, none⟩ (.int .i64 D)).setCell ⟨b4, 7, none⟩ (.bool Q)).cell? ⟨b9, 2, none⟩ = some (.int .i64 F) ∧ ((((((((w6'.setCell ⟨b4, 0, none⟩ (.int .i64 v)).setCell ⟨b4, 1, none⟩ (.string nm)).setCell ⟨b4, 2, none⟩ (.int .i64 F)).setCell ⟨b4, 3, none⟩ (.int .i64 U)).setCell ⟨b4, 4, none⟩ (.string ⟨#[]⟩)).setCell ⟨b4, 5, none⟩ (.int .i64 C)).setCell ⟨b4, 6, none⟩ (.int .i64 D)).setCell ⟨b4, 7, none⟩ (.bool Q)).cell? ⟨b9, 3, none⟩ = some (.int .i64 U) ∧ ((((((((w6'.setCell ⟨b4, 0, none⟩ (.int .i64 v)).setCell ⟨b4, 1, none⟩ (.string nm)).setCell ⟨b4, 2, none⟩ (.int .i64 F)).setCell ⟨b4, 3, none⟩ (.int .i64 U)).setCell ⟨b4, 4, none⟩ (.string ⟨#[]⟩)).setCell ⟨b4, 5, none⟩ (.int .i64 C)).setCell ⟨b4, 6, none⟩ (.int .i64 D)).setCell ⟨b4, 7, none⟩ (.bool Q)).cell? ⟨b9, 4, none⟩ = some (.string ⟨#[]⟩) ∧ ((((((((w6'.setCell ⟨b4, 0, none⟩ (.int .i64 v)).setCell ⟨b4, 1, none⟩ (.string nm)).setCell ⟨b4, 2, none⟩ (.int .i64 F)).setCell ⟨b4, 3, none⟩ (.int .i64 U)).setCell ⟨b4, 4, none⟩ (.string ⟨#[]⟩)).setCell ⟨b4, 5, none⟩ (.int .i64 C)).setCell ⟨b4, 6, none⟩ (.int .i64 D)).setCell ⟨b4, 7, none⟩ (.bool Q)).cell? ⟨b9, 5, none⟩ = some (.int .i64 C) ∧ ((((((((w6'.setCell ⟨b4, 0, none⟩ (.int .i64 v)).setCell ⟨b4, 1, none⟩ (.string nm)).setCell ⟨b4, 2, none⟩ (.int .i64 F)).setCell ⟨b4, 3, none⟩ (.int .i64 U)).setCell ⟨b4, 4, none⟩ (.string ⟨#[]⟩)).setCell ⟨b4, 5, none⟩ (.int .i64 C)).setCell ⟨b4, 6, none⟩ (.int .i64 D)).setCell ⟨b4, 7, none⟩ (.bool Q)).cell? ⟨b9, 6, none⟩ = some (.int .i64 D) ∧ ((((((((w6'.setCell ⟨b4, 0, none⟩ (.int .i64 v)).setCell ⟨b4, 1, none⟩ (.string nm)).setCell ⟨b4, 2, none⟩ (.int .i64 F)).setCell ⟨b4, 3, none⟩ (.int .i64 U)).setCell ⟨b4, 4, none⟩ (.string ⟨#[]⟩)).setCell ⟨b4, 5, none⟩ (.int .i64 C)).setCell ⟨b4, 6, none⟩ (.int .i64 D)).setCell ⟨b4, 7, none⟩ (.bool Q)).cell? ⟨b9, 7, none⟩ = some (.bool Q) := cellsCm (vblk_only S6'.V9 (st8o w6' b4 (.int .i64 v) (.string nm) (.int .i64 F) (.int .i64 U) (.string ⟨#[]⟩) (.int .i64 C) (.int .i64 D) (.bool Q)) (fun e => S6'.m4 e.symm))) | (go_at_call 63; refine (within_is SZ 0 64 y3 hy3.out _).mono ?_; rintro er wq ⟨rfl, hq⟩; subst wq) | (fail))
      go_wp2
      exact row_ctt rfl rfl rfl rfl (fin _ S6').1 Tryz.underlying25 sizeCm rfl ⟨by rw [ehc.out, eSZ.out, ehk.out]; simp only [Bool.true_and]; rfl, (fin _ S6').2⟩
end Go.Proofs.YtaabmkhckbndgaaGreatDoor.cm
