/- The walk of the law FnOneMoment. -/
import Derived.Test.YthjkhghlhjndmaaMg40
import Derived.Test.YthjkhghlhjndmaaDz4
import Derived.Test.YthjkhghlhjndmaaMg32
import Derived.Test.YthjkhghlhjndmaaMg22
import Derived.Test.YthjkhghlhjndmaaMg18
import Derived.Deep.DeepCutAuto
namespace Go.Proofs.Ythjkhghlhjndmaa.lawOm
open Go.ChangeShapes Go.WideShapes Go.ChangeAt Go.RowKit
open Go.Proofs.Ythjkhghlhjndmaa.ce Go.Proofs.Ythjkhghlhjndmaa.draw Go.Proofs.Ythjkhghlhjndmaa.lawRn
set_option linter.unusedVariables false

theorem rdH_one (w : World) (d : Hd) (vs : List Value) (e : vs = hv d) : RdH (w.alloc (.cells vs.toArray 58)) (w.heap.size + 1) (.slice (some ⟨w.heap.size, 0, none⟩) 1 1) [d] := by
  subst e
  have h : VBlk (w.alloc (.cells (hv d).toArray 58)) w.heap.size 58 (hvs [d]) := by rw [hvs_single]; exact heap_alloc_new _ _
  exact ⟨_, 1, rfl, Nat.le_refl _, by unfold maxLen; omega, fun _ => ⟨_, 0, rfl, Nat.lt_succ_self _, h.range⟩⟩

/-- what a slot holds -/
def tmOf (T : Array Value) (n : Nat) : Value := T.toList.getD n undef
structure InvO (wb : World) (b9 gB gS gM : Nat) (aQ : Option Addr) (cQ : Nat) (La : Option Addr) (Lc : Nat) (qs : List Int) (es : List Hd) (a' : Act) (w' : World) : Prop where
  ex : ∃ (i : Nat) (vH vD : Value) (H2 : List C) (d2 : List Hd) (B S M : List Bool), i ≤ qs.length ∧ Hid (Om wb w' b9 gB gS gM es.length vH H2 vD d2 B S M) ∧ Hid (Mom H2 d2 B S M) ∧ a'.tmps = #[tmOf a'.tmps 0, tmOf a'.tmps 1, tmOf a'.tmps 2, tmOf a'.tmps 3, .slice aQ qs.length cQ, .slice La es.length Lc, tmOf a'.tmps 6, tmOf a'.tmps 7, tmOf a'.tmps 8, .pointer (some ⟨b9, 0, none⟩), tmOf a'.tmps 10, tmOf a'.tmps 11, tmOf a'.tmps 12, .slice (some ⟨gB, 0, none⟩) es.length es.length, .slice (some ⟨gS, 0, none⟩) es.length es.length, .slice (some ⟨gM, 0, none⟩) es.length es.length, .int .i64 (i : Int), tmOf a'.tmps 17, tmOf a'.tmps 18, tmOf a'.tmps 19, tmOf a'.tmps 20, tmOf a'.tmps 21, tmOf a'.tmps 22, tmOf a'.tmps 23, tmOf a'.tmps 24, tmOf a'.tmps 25, tmOf a'.tmps 26, tmOf a'.tmps 27, tmOf a'.tmps 28, tmOf a'.tmps 29, tmOf a'.tmps 30, tmOf a'.tmps 31, tmOf a'.tmps 32, tmOf a'.tmps 33, tmOf a'.tmps 34, tmOf a'.tmps 35, tmOf a'.tmps 36, tmOf a'.tmps 37, tmOf a'.tmps 38, tmOf a'.tmps 39, tmOf a'.tmps 40, tmOf a'.tmps 41, tmOf a'.tmps 42, tmOf a'.tmps 43, tmOf a'.tmps 44, tmOf a'.tmps 45, tmOf a'.tmps 46, tmOf a'.tmps 47, tmOf a'.tmps 48, tmOf a'.tmps 49, tmOf a'.tmps 50, tmOf a'.tmps 51, tmOf a'.tmps 52, tmOf a'.tmps 53, tmOf a'.tmps 54, tmOf a'.tmps 55, tmOf a'.tmps 56, tmOf a'.tmps 57, tmOf a'.tmps 58, tmOf a'.tmps 59, tmOf a'.tmps 60, tmOf a'.tmps 61, tmOf a'.tmps 62, tmOf a'.tmps 63, tmOf a'.tmps 64, tmOf a'.tmps 65, tmOf a'.tmps 66, tmOf a'.tmps 67, tmOf a'.tmps 68, tmOf a'.tmps 69, tmOf a'.tmps 70, tmOf a'.tmps 71, tmOf a'.tmps 72, tmOf a'.tmps 73, tmOf a'.tmps 74, tmOf a'.tmps 75, tmOf a'.tmps 76, tmOf a'.tmps 77, tmOf a'.tmps 78, tmOf a'.tmps 79, tmOf a'.tmps 80, tmOf a'.tmps 81, tmOf a'.tmps 82, tmOf a'.tmps 83, tmOf a'.tmps 84, tmOf a'.tmps 85, tmOf a'.tmps 86, tmOf a'.tmps 87, tmOf a'.tmps 88, tmOf a'.tmps 89, tmOf a'.tmps 90, tmOf a'.tmps 91, tmOf a'.tmps 92, tmOf a'.tmps 93, tmOf a'.tmps 94, tmOf a'.tmps 95, tmOf a'.tmps 96, tmOf a'.tmps 97, tmOf a'.tmps 98, tmOf a'.tmps 99, tmOf a'.tmps 100, tmOf a'.tmps 101, tmOf a'.tmps 102, tmOf a'.tmps 103, tmOf a'.tmps 104, tmOf a'.tmps 105, tmOf a'.tmps 106, tmOf a'.tmps 107, tmOf a'.tmps 108, tmOf a'.tmps 109, tmOf a'.tmps 110, tmOf a'.tmps 111, tmOf a'.tmps 112, tmOf a'.tmps 113, tmOf a'.tmps 114, tmOf a'.tmps 115, tmOf a'.tmps 116, tmOf a'.tmps 117, tmOf a'.tmps 118, tmOf a'.tmps 119, tmOf a'.tmps 120, tmOf a'.tmps 121, tmOf a'.tmps 122, tmOf a'.tmps 123, tmOf a'.tmps 124, tmOf a'.tmps 125, tmOf a'.tmps 126, tmOf a'.tmps 127, tmOf a'.tmps 128, tmOf a'.tmps 129, tmOf a'.tmps 130, tmOf a'.tmps 131, tmOf a'.tmps 132, tmOf a'.tmps 133, tmOf a'.tmps 134, tmOf a'.tmps 135, tmOf a'.tmps 136, tmOf a'.tmps 137, tmOf a'.tmps 138, tmOf a'.tmps 139, tmOf a'.tmps 140, tmOf a'.tmps 141, tmOf a'.tmps 142, tmOf a'.tmps 143, tmOf a'.tmps 144, tmOf a'.tmps 145, tmOf a'.tmps 146, tmOf a'.tmps 147, tmOf a'.tmps 148, tmOf a'.tmps 149, tmOf a'.tmps 150, tmOf a'.tmps 151, tmOf a'.tmps 152, tmOf a'.tmps 153, tmOf a'.tmps 154, tmOf a'.tmps 155, tmOf a'.tmps 156, tmOf a'.tmps 157, tmOf a'.tmps 158, tmOf a'.tmps 159, tmOf a'.tmps 160, tmOf a'.tmps 161, tmOf a'.tmps 162, tmOf a'.tmps 163, tmOf a'.tmps 164, tmOf a'.tmps 165, tmOf a'.tmps 166, tmOf a'.tmps 167, tmOf a'.tmps 168, tmOf a'.tmps 169, tmOf a'.tmps 170, tmOf a'.tmps 171, tmOf a'.tmps 172, tmOf a'.tmps 173, tmOf a'.tmps 174, tmOf a'.tmps 175, tmOf a'.tmps 176, tmOf a'.tmps 177, tmOf a'.tmps 178, tmOf a'.tmps 179, tmOf a'.tmps 180, tmOf a'.tmps 181, tmOf a'.tmps 182, tmOf a'.tmps 183, tmOf a'.tmps 184, tmOf a'.tmps 185, tmOf a'.tmps 186, tmOf a'.tmps 187, tmOf a'.tmps 188, tmOf a'.tmps 189, tmOf a'.tmps 190, tmOf a'.tmps 191, tmOf a'.tmps 192, tmOf a'.tmps 193, tmOf a'.tmps 194, tmOf a'.tmps 195, tmOf a'.tmps 196, tmOf a'.tmps 197, tmOf a'.tmps 198, tmOf a'.tmps 199, tmOf a'.tmps 200, tmOf a'.tmps 201, tmOf a'.tmps 202, tmOf a'.tmps 203, tmOf a'.tmps 204, tmOf a'.tmps 205, tmOf a'.tmps 206, tmOf a'.tmps 207, tmOf a'.tmps 208, tmOf a'.tmps 209, tmOf a'.tmps 210, tmOf a'.tmps 211, tmOf a'.tmps 212, tmOf a'.tmps 213, tmOf a'.tmps 214, tmOf a'.tmps 215, tmOf a'.tmps 216, tmOf a'.tmps 217, tmOf a'.tmps 218, tmOf a'.tmps 219, tmOf a'.tmps 220, tmOf a'.tmps 221, tmOf a'.tmps 222, tmOf a'.tmps 223, tmOf a'.tmps 224, tmOf a'.tmps 225, tmOf a'.tmps 226, tmOf a'.tmps 227, tmOf a'.tmps 228, tmOf a'.tmps 229, tmOf a'.tmps 230, tmOf a'.tmps 231, tmOf a'.tmps 232, tmOf a'.tmps 233, tmOf a'.tmps 234, tmOf a'.tmps 235, tmOf a'.tmps 236, tmOf a'.tmps 237, tmOf a'.tmps 238, tmOf a'.tmps 239, tmOf a'.tmps 240, tmOf a'.tmps 241, tmOf a'.tmps 242, tmOf a'.tmps 243, tmOf a'.tmps 244, tmOf a'.tmps 245, tmOf a'.tmps 246, tmOf a'.tmps 247, tmOf a'.tmps 248, tmOf a'.tmps 249, tmOf a'.tmps 250, tmOf a'.tmps 251, tmOf a'.tmps 252, tmOf a'.tmps 253, tmOf a'.tmps 254, tmOf a'.tmps 255, tmOf a'.tmps 256, tmOf a'.tmps 257, tmOf a'.tmps 258, tmOf a'.tmps 259, tmOf a'.tmps 260, tmOf a'.tmps 261, tmOf a'.tmps 262, tmOf a'.tmps 263, tmOf a'.tmps 264, tmOf a'.tmps 265, tmOf a'.tmps 266, tmOf a'.tmps 267, tmOf a'.tmps 268, tmOf a'.tmps 269, tmOf a'.tmps 270, tmOf a'.tmps 271, tmOf a'.tmps 272, tmOf a'.tmps 273, tmOf a'.tmps 274, tmOf a'.tmps 275, tmOf a'.tmps 276, tmOf a'.tmps 277, tmOf a'.tmps 278, tmOf a'.tmps 279, tmOf a'.tmps 280, tmOf a'.tmps 281, tmOf a'.tmps 282, tmOf a'.tmps 283, tmOf a'.tmps 284, tmOf a'.tmps 285, tmOf a'.tmps 286, tmOf a'.tmps 287, tmOf a'.tmps 288, tmOf a'.tmps 289, tmOf a'.tmps 290, tmOf a'.tmps 291, tmOf a'.tmps 292, tmOf a'.tmps 293, tmOf a'.tmps 294, tmOf a'.tmps 295, tmOf a'.tmps 296, tmOf a'.tmps 297, tmOf a'.tmps 298, tmOf a'.tmps 299, tmOf a'.tmps 300, tmOf a'.tmps 301, tmOf a'.tmps 302, tmOf a'.tmps 303, tmOf a'.tmps 304, tmOf a'.tmps 305, tmOf a'.tmps 306, tmOf a'.tmps 307, tmOf a'.tmps 308, tmOf a'.tmps 309, tmOf a'.tmps 310, tmOf a'.tmps 311, tmOf a'.tmps 312, tmOf a'.tmps 313, tmOf a'.tmps 314, tmOf a'.tmps 315, tmOf a'.tmps 316, tmOf a'.tmps 317, tmOf a'.tmps 318, tmOf a'.tmps 319, tmOf a'.tmps 320, tmOf a'.tmps 321, tmOf a'.tmps 322, tmOf a'.tmps 323, tmOf a'.tmps 324, tmOf a'.tmps 325, tmOf a'.tmps 326, tmOf a'.tmps 327, tmOf a'.tmps 328, tmOf a'.tmps 329, tmOf a'.tmps 330, tmOf a'.tmps 331, tmOf a'.tmps 332, tmOf a'.tmps 333, tmOf a'.tmps 334, tmOf a'.tmps 335, tmOf a'.tmps 336, tmOf a'.tmps 337, tmOf a'.tmps 338, tmOf a'.tmps 339, tmOf a'.tmps 340, tmOf a'.tmps 341, tmOf a'.tmps 342, tmOf a'.tmps 343, tmOf a'.tmps 344, tmOf a'.tmps 345, tmOf a'.tmps 346, tmOf a'.tmps 347, tmOf a'.tmps 348, tmOf a'.tmps 349, tmOf a'.tmps 350, tmOf a'.tmps 351, tmOf a'.tmps 352, tmOf a'.tmps 353, tmOf a'.tmps 354, tmOf a'.tmps 355, tmOf a'.tmps 356, tmOf a'.tmps 357, tmOf a'.tmps 358, tmOf a'.tmps 359, tmOf a'.tmps 360, tmOf a'.tmps 361, tmOf a'.tmps 362, tmOf a'.tmps 363, tmOf a'.tmps 364, tmOf a'.tmps 365, tmOf a'.tmps 366, tmOf a'.tmps 367, tmOf a'.tmps 368, tmOf a'.tmps 369, tmOf a'.tmps 370, tmOf a'.tmps 371, tmOf a'.tmps 372, tmOf a'.tmps 373, tmOf a'.tmps 374, tmOf a'.tmps 375, tmOf a'.tmps 376, tmOf a'.tmps 377, tmOf a'.tmps 378, tmOf a'.tmps 379, tmOf a'.tmps 380] ∧ a'.defers = []
def muO (qs : List Int) (a' : Act) : Nat := qs.length - (intOf (tmOf a'.tmps 16)).toNat
theorem mu_lt {qs : List Int} {a1 a0 : Act} (i : Nat) (h1 : tmOf a1.tmps 16 = .int .i64 ((i + 1 : Nat) : Int)) (h0 : tmOf a0.tmps 16 = .int .i64 (i : Int)) (hi : i < qs.length) : muO qs a1 < muO qs a0 := by
  unfold muO
  rw [h1, h0]
  simp only [intOf, Int.toNat_natCast]
  omega
theorem lives_others {H H' : List C} {d d' : Hd} (h : Lives H d H' d') (h5 : d.step ≠ 5) (a : Int) (ha : a ≠ d.key) : a ∈ living H' ↔ a ∈ living H := by
  by_cases c : d'.step = 5 ∧ d'.told = 1 ∧ d.kind ≠ 3
  · exact (h.yes h5 c.1 c.2.1 c.2.2).1 a ha
  · rw [h.no (fun q => c q.2)]
theorem made_b {w : World} {lo l b n : Nat} (h : ∃ X, w.ownsRow lo 4 1 (.slice (some ⟨b, 0, none⟩) n n) n X ∧ X = bvs (List.replicate n false)) (hl : l ≤ lo) : OwnB w l w.heap.size (.slice (some ⟨b, 0, none⟩) n n) (List.replicate n false) := by
  obtain ⟨X, h1, rfl⟩ := h
  have o : OwnB w lo w.heap.size (.slice (some ⟨b, 0, none⟩) n n) (List.replicate n false) := ⟨by rw [List.length_replicate]; exact h1, fun g hg => (h1.lt g hg).2⟩
  exact o.wide hl (Nat.le_refl _)

set_option maxRecDepth 100000 in
set_option maxHeartbeats 16000000 in
theorem walk (a0 : Option Addr) (len cap : Nat) (w : World) (hl : len ≤ 4096) (hcode0 : CodeAt w a0 len) :
    Calls Try.prog 9 #[.slice a0 len cap] w fun e w' => e = .returned (.bool true) ∧ Below w.heap.size w w' := by
  have hC : Hid (CodeAt w a0 len) := hcode0
  clear hcode0
  have hl' : ¬ (4096 : Int) < (len : Int) := by omega
  go_enter Try.func9, Try.ntmps9
  have mk1 : Hid True := trivial
  have mk2 : Hid True := trivial
  have mk3 : Hid True := trivial
  go_wp2_with (first | (go_at_call 33; go_in) | (clear mk1; go_at_call 40; refine (drawRan_any _ a0 len cap hC.out).mono ?_; rintro er w1 ⟨vcH, vcD, vQ, rfl, H, ds, qs, drc⟩; have hB1 := drc.bel; have ocH := drc.heap; have ocD := drc.hands; have oQ := drc.picks; have hl8 := drc.hl; have hq301 := drc.ql; clear drc; have hz1 : w.heap.size ≤ w1.heap.size := hB1.size; have hB := hB1; have hzw := hB.size; obtain ⟨Ac, Kc, rfl⟩ := ocH.rd.form; obtain ⟨Dc, Mc, rfl⟩ := ocD.rd.form; obtain ⟨aQ, cQ, rfl⟩ := oQ.rd.form) | (clear mk2; refine wpList_alloc_v rfl 31 rfl _ zeroCr ?_; intro b3 w2 hb3 hwb3 hB2 hVb3; have hz2 : w1.heap.size ≤ w2.heap.size := hB2.size; replace ocH := ocH.below hB2 (by omega); replace ocD := ocD.below hB2 (by omega); replace oQ := oQ.below hB2 (by omega); replace hB := hB.trans (hB2.mono (by omega)); replace hzw := hB.size) | (clear mk3; refine wpList_store_v rfl 31 _ _ rfl b3 [.slice Ac H.length Kc, .slice Dc ds.length Mc] rfl rfl sizeCr hVb3 rfl (by simp [Value.oneCell']) ?_; intro w3 hO3 hNb3; have hz3 : w2.heap.size ≤ w3.heap.size := (Nat.le_of_eq hO3.1.symm); replace ocH := ocH.keep (w' := w3) (fun k g1 g2 => hO3.2.1 k (by omega)); replace ocD := ocD.keep (w' := w3) (fun k g1 g2 => hO3.2.1 k (by omega)); replace oQ := oQ.keep (w' := w3) (fun k g1 g2 => hO3.2.1 k (by omega)); replace hB := hB.trans (hO3.2.2 _ (by omega)); replace hzw := hB.size; have cc : CV w3 b3 31 (.slice Ac H.length Kc) (.slice Dc ds.length Mc) := ⟨hNb3⟩; clear hVb3 hNb3; obtain ⟨cc0, cc1⟩ := cc.cells) | (fail))
  have hB0e : Below w3.heap.size w3 (w3.alloc (.cells #[] 58)) := (Below.refl _ _).alloc (Nat.le_refl _) _
  have HB0 : Hid (Below w.heap.size w w3) := hB
  have RCD : Hid (RdH w3 w1.heap.size (.slice Dc ds.length Mc) ds) := ocD.rd
  have CC : Hid (CV w3 b3 31 (.slice Ac H.length Kc) (.slice Dc ds.length Mc)) := cc
  have RQ : Hid (RdI w3 w1.heap.size (.slice aQ qs.length cQ) qs) := oQ.rd
  have lc := cc.lt
  have sc : w1.heap.size ≤ w3.heap.size := by omega
  have sw : w.heap.size ≤ w3.heap.size := by omega
  have hlq : qs.length ≤ 301 := hq301
  have oL0 : Hid (OwnH (w3.alloc (.cells #[] 58)) w3.heap.size (w3.alloc (.cells #[] 58)).heap.size (.slice (some ⟨w3.heap.size, 0, none⟩) 0 0) []) := (ownH_lit w3).wide (Nat.le_refl _) (by simp)
  clear cc cc0 cc1 ocH ocD oQ hB
  go_loopw [5, 6] (fun vL vi wr => ∃ (i : Nat) (es : List Hd), i ≤ ds.length ∧ vi = .int .i64 i ∧ es.length = i ∧ Hid (∀ d ∈ es, FreshD d) ∧ Hid (OwnH wr w3.heap.size wr.heap.size vL es) ∧ Below w3.heap.size w3 wr) (fun _ vi _ => ds.length - (intOf vi).toNat)
  case atStart => exact ⟨0, [], by omega, rfl, rfl, (fun d hd => (by cases hd)), oL0, hB0e⟩
  case round =>
    obtain ⟨i, es, hi1, rfl, hel, FE, OL, hBr⟩ := hrel
    have hbr := hBr.size
    clear oL0 hB0e
    obtain ⟨La, Lc, rfl⟩ := OL.out.len
    rw [hel] at OL
    obtain ⟨p0, p1⟩ := (CC.out.below hBr (by omega)).cells
    by_cases hlt : i < ds.length
    · have hlt' : (i : Int) < (ds.length : Int) := by omega
      obtain ⟨d, hd⟩ := hid_ex (ds[i])
      obtain ⟨k, x, y, s, l, e, o, t⟩ := d
      obtain ⟨cb, coff, rfl, hcb, d0, d1, d2, d3, d4, d5, d6, d7⟩ := (RCD.out.below hBr sc).cell i hlt hd.out
      obtain ⟨⟨kN, xN, yN, sN, lN, eN, oN, tN⟩, hnd⟩ := hid_ex (newD k x y)
      obtain ⟨zb, hzb⟩ := hid_ex (asksB k x)
      have S0 : (wr.drew.cell? ⟨b3, 0, none⟩ = some (.slice Ac H.length Kc) ∧ wr.drew.cell? ⟨b3, 1, none⟩ = some (.slice (some ⟨cb, coff, none⟩) ds.length Mc) ∧ wr.drew.cell? ⟨cb, coff + i * 8, none⟩ = some (.int .i64 k) ∧ wr.drew.cell? ⟨cb, coff + i * 8 + 1, none⟩ = some (.int .i64 x) ∧ wr.drew.cell? ⟨cb, coff + i * 8 + 2, none⟩ = some (.int .i64 y)) := ⟨p0, p1, d0, d1, d2⟩
      go_wp2
      clear d3 d4 d5 d6 d7
      refine wp_region_held_drew (S := fun w' => (w'.cell? ⟨b3, 0, none⟩ = some (.slice Ac H.length Kc) ∧ w'.cell? ⟨b3, 1, none⟩ = some (.slice (some ⟨cb, coff, none⟩) ds.length Mc) ∧ w'.cell? ⟨cb, coff + i * 8, none⟩ = some (.int .i64 k) ∧ w'.cell? ⟨cb, coff + i * 8 + 1, none⟩ = some (.int .i64 x) ∧ w'.cell? ⟨cb, coff + i * 8 + 2, none⟩ = some (.int .i64 y))) (by kernel_rfl) S0 (fun hHeld => ?_)
      refine takeW 0 47 (.pointer (some ⟨b3, 1, none⟩)) rfl (by kernel_rfl) (by kernel_rfl) (by kernel_rfl) (fun _ _ _ h => h) (by kernel_rfl) (fun w' hS => by go_simp) hHeld ?_
      go_frame
      refine takeW 1 48 (.slice (some ⟨cb, coff, none⟩) ds.length Mc) rfl (by kernel_rfl) (by kernel_rfl) (by kernel_rfl) (fun _ _ _ h => h) (by kernel_rfl) (fun w' hS => by obtain ⟨t0, t1, t2, t3, t4⟩ := hS; go_simp) hHeld ?_
      go_frame
      refine takeW 2 49 (.int .i64 (i : Int)) rfl (by kernel_rfl) (by kernel_rfl) (by kernel_rfl) (fun _ _ _ h => h) (by kernel_rfl) (fun w' hS => by go_simp) hHeld ?_
      go_frame
      refine takeW 3 50 (.pointer (some ⟨cb, coff + i * 8, none⟩)) rfl (by kernel_rfl) (by kernel_rfl) (by kernel_rfl) (fun _ _ _ h => h) (by kernel_rfl) (fun w' hS => by go_simp) hHeld ?_
      go_frame
      refine takeW 4 51 (.pointer (some ⟨cb, coff + i * 8, none⟩)) rfl (by kernel_rfl) (by kernel_rfl) (by kernel_rfl) (fun _ _ _ h => h) (by kernel_rfl) (fun w' hS => by go_simp) hHeld ?_
      go_frame
      refine takeW 5 52 (.int .i64 k) rfl (by kernel_rfl) (by kernel_rfl) (by kernel_rfl) (fun _ _ _ h => h) (by kernel_rfl) (fun w' hS => by obtain ⟨t0, t1, t2, t3, t4⟩ := hS; go_simp) hHeld ?_
      go_frame
      refine takeW 6 53 (.pointer (some ⟨b3, 1, none⟩)) rfl (by kernel_rfl) (by kernel_rfl) (by kernel_rfl) (fun _ _ _ h => h) (by kernel_rfl) (fun w' hS => by go_simp) hHeld ?_
      go_frame
      refine takeW 7 54 (.slice (some ⟨cb, coff, none⟩) ds.length Mc) rfl (by kernel_rfl) (by kernel_rfl) (by kernel_rfl) (fun _ _ _ h => h) (by kernel_rfl) (fun w' hS => by obtain ⟨t0, t1, t2, t3, t4⟩ := hS; go_simp) hHeld ?_
      go_frame
      refine takeW 8 55 (.int .i64 (i : Int)) rfl (by kernel_rfl) (by kernel_rfl) (by kernel_rfl) (fun _ _ _ h => h) (by kernel_rfl) (fun w' hS => by go_simp) hHeld ?_
      go_frame
      refine takeW 9 56 (.pointer (some ⟨cb, coff + i * 8, none⟩)) rfl (by kernel_rfl) (by kernel_rfl) (by kernel_rfl) (fun _ _ _ h => h) (by kernel_rfl) (fun w' hS => by go_simp) hHeld ?_
      go_frame
      refine takeW 10 57 (.pointer (some ⟨cb, coff + i * 8 + 1, none⟩)) rfl (by kernel_rfl) (by kernel_rfl) (by kernel_rfl) (fun _ _ _ h => h) (by kernel_rfl) (fun w' hS => by go_simp) hHeld ?_
      go_frame
      refine takeW 11 58 (.int .i64 x) rfl (by kernel_rfl) (by kernel_rfl) (by kernel_rfl) (fun _ _ _ h => h) (by kernel_rfl) (fun w' hS => by obtain ⟨t0, t1, t2, t3, t4⟩ := hS; go_simp) hHeld ?_
      go_frame
      refine takeW 12 59 (.pointer (some ⟨b3, 1, none⟩)) rfl (by kernel_rfl) (by kernel_rfl) (by kernel_rfl) (fun _ _ _ h => h) (by kernel_rfl) (fun w' hS => by go_simp) hHeld ?_
      go_frame
      refine takeW 13 60 (.slice (some ⟨cb, coff, none⟩) ds.length Mc) rfl (by kernel_rfl) (by kernel_rfl) (by kernel_rfl) (fun _ _ _ h => h) (by kernel_rfl) (fun w' hS => by obtain ⟨t0, t1, t2, t3, t4⟩ := hS; go_simp) hHeld ?_
      go_frame
      refine takeW 14 61 (.int .i64 (i : Int)) rfl (by kernel_rfl) (by kernel_rfl) (by kernel_rfl) (fun _ _ _ h => h) (by kernel_rfl) (fun w' hS => by go_simp) hHeld ?_
      go_frame
      refine takeW 15 62 (.pointer (some ⟨cb, coff + i * 8, none⟩)) rfl (by kernel_rfl) (by kernel_rfl) (by kernel_rfl) (fun _ _ _ h => h) (by kernel_rfl) (fun w' hS => by go_simp) hHeld ?_
      go_frame
      refine takeW 16 63 (.pointer (some ⟨cb, coff + i * 8 + 2, none⟩)) rfl (by kernel_rfl) (by kernel_rfl) (by kernel_rfl) (fun _ _ _ h => h) (by kernel_rfl) (fun w' hS => by go_simp) hHeld ?_
      go_frame
      refine takeW 17 64 (.int .i64 y) rfl (by kernel_rfl) (by kernel_rfl) (by kernel_rfl) (fun _ _ _ h => h) (by kernel_rfl) (fun w' hS => by obtain ⟨t0, t1, t2, t3, t4⟩ := hS; go_simp) hHeld ?_
      go_frame
      refine wpAnyH_ready (rs := [18, 22]) (by kernel_rfl) (by simp) ?_
      refine AllReadyH.cons rfl (fun K hK => ?_) (consM rfl (fun K hK => ?_) AllReadyH.nil)
      · go_simp
        go_at_call 41
        refine (specNewHand_any k x y wr.drew).mono ?_
        rintro er wa2 ⟨he, hB2⟩
        rw [hnd.out, hzb.out] at he
        subst he
        dsimp only [hv]
        have hz2 : wr.heap.size ≤ wa2.heap.size := hB2.size
        have S2 : (wa2.cell? ⟨b3, 0, none⟩ = some (.slice Ac H.length Kc) ∧ wa2.cell? ⟨b3, 1, none⟩ = some (.slice (some ⟨cb, coff, none⟩) ds.length Mc) ∧ wa2.cell? ⟨cb, coff + i * 8, none⟩ = some (.int .i64 k) ∧ wa2.cell? ⟨cb, coff + i * 8 + 1, none⟩ = some (.int .i64 x) ∧ wa2.cell? ⟨cb, coff + i * 8 + 2, none⟩ = some (.int .i64 y)) := by rw [hB2.cell (by show b3 < wr.heap.size; omega), hB2.cell (by show b3 < wr.heap.size; omega), hB2.cell (by show cb < wr.heap.size; omega), hB2.cell (by show cb < wr.heap.size; omega), hB2.cell (by show cb < wr.heap.size; omega)]; exact S0
        refine hK.out _ _ S2 (fun _ => ?_)
        try go_frame
        refine takeW 19 46 (.tuple #[.agg #[.int .i64 kN, .int .i64 xN, .int .i64 yN, .int .i64 sN, .int .i64 lN, .int .i64 eN, .int .i64 oN, .int .i64 tN], .bool zb]) rfl (by kernel_rfl) (by kernel_rfl) (by kernel_rfl) (fun _ _ _ h => h) (by kernel_rfl) (fun w' hS => by go_simp) S2 ?_
        go_frame
        refine takeW 20 66 (.agg #[.int .i64 kN, .int .i64 xN, .int .i64 yN, .int .i64 sN, .int .i64 lN, .int .i64 eN, .int .i64 oN, .int .i64 tN]) rfl (by kernel_rfl) (by kernel_rfl) (by kernel_rfl) (fun _ _ _ h => h) (by kernel_rfl) (fun w' hS => by go_simp) S2 ?_
        go_frame
        refine takeW 21 67 (.bool zb) rfl (by kernel_rfl) (by kernel_rfl) (by kernel_rfl) (fun _ _ _ h => h) (by kernel_rfl) (fun w' hS => by go_simp) S2 ?_
        go_frame
        refine wpAnyH_ready (rs := [22]) (by kernel_rfl) (by simp) ?_
        refine consM rfl (fun K3 hK3 => ?_) AllReadyH.nil
        refine step_alloc_v (a := ⟨_, []⟩) rfl 58 rfl _ zeroH ?_
        intro b7 wa3 hb7' hw3 hB3 hV3
        have hz3 := hB3.size
        have S3 : (wa3.cell? ⟨b3, 0, none⟩ = some (.slice Ac H.length Kc) ∧ wa3.cell? ⟨b3, 1, none⟩ = some (.slice (some ⟨cb, coff, none⟩) ds.length Mc) ∧ wa3.cell? ⟨cb, coff + i * 8, none⟩ = some (.int .i64 k) ∧ wa3.cell? ⟨cb, coff + i * 8 + 1, none⟩ = some (.int .i64 x) ∧ wa3.cell? ⟨cb, coff + i * 8 + 2, none⟩ = some (.int .i64 y)) := by rw [hB3.cell (by show b3 < wa2.heap.size; omega), hB3.cell (by show b3 < wa2.heap.size; omega), hB3.cell (by show cb < wa2.heap.size; omega), hB3.cell (by show cb < wa2.heap.size; omega), hB3.cell (by show cb < wa2.heap.size; omega)]; exact S2
        refine hK3.out _ _ S3 (fun _ => ?_)
        try go_frame
        have hBw3 : Below wr.heap.size wr wa3 := ((Below.refl wr.heap.size wr).drew.trans hB2).trans (hB3.mono (by omega))
        have hb7w : wr.heap.size ≤ b7 := by first | omega | exact hb7'
        have hb7z : b7 < wa3.heap.size := hV3.lt
        refine wpAnyH_ready (rs := [23]) (by kernel_rfl) (by simp) ?_
        refine AllReadyH.cons rfl (fun K4 hK4 => ?_) AllReadyH.nil
        refine step_store_v rfl 58 _ _ rfl b7 (hv ⟨kN, xN, yN, sN, lN, eN, oN, tN⟩) rfl rfl sizeH hV3 rfl (hv_one _) ?_
        intro wa4 hO4 hV4
        have hz4 := Nat.le_of_eq hO4.1.symm
        have hy4 := Nat.le_of_eq hO4.1
        have S4 : (wa4.cell? ⟨b3, 0, none⟩ = some (.slice Ac H.length Kc) ∧ wa4.cell? ⟨b3, 1, none⟩ = some (.slice (some ⟨cb, coff, none⟩) ds.length Mc) ∧ wa4.cell? ⟨cb, coff + i * 8, none⟩ = some (.int .i64 k) ∧ wa4.cell? ⟨cb, coff + i * 8 + 1, none⟩ = some (.int .i64 x) ∧ wa4.cell? ⟨cb, coff + i * 8 + 2, none⟩ = some (.int .i64 y)) := by rw [cell_only hO4 (by omega), cell_only hO4 (by omega), cell_only hO4 (by omega), cell_only hO4 (by omega), cell_only hO4 (by omega)]; exact S3
        refine hK4.out _ _ S4 (fun _ => ?_)
        try go_frame
        refine takeW 24 8 (.bool zb) rfl (by kernel_rfl) (by kernel_rfl) (by kernel_rfl) (fun _ _ _ h => h) (by kernel_rfl) (fun w' hS => by go_simp) S4 ?_
        go_frame
        have hb7 : HB wa4 b7 ⟨kN, xN, yN, sN, lN, eN, oN, tN⟩ := ⟨hV4⟩
        have hBw4 : Below wr.heap.size wr wa4 := hBw3.trans (hO4.2.2 _ hb7w)
        have hBW4 : Below w3.heap.size w3 wa4 := hBr.trans (hBw4.mono (by omega))
        refine wpAnyH_done (by kernel_rfl) ?_ _
        cases zb with
        | false =>
          go_wp2
          go_ret
          exact ⟨rfl, HB0.out.trans ((hBW4).mono sw)⟩
        | true =>
          have FR : Hid (FreshD ⟨kN, xN, yN, sN, lN, eN, oN, tN⟩) := by unfold Hid; rw [← hnd.out]; exact fresh_new hzb.out
          obtain ⟨c0', c1', c2', c3', c4', c5', c6', c7'⟩ := hb7.cells
          go_wp2_with (first | (at_builtin; obtain ⟨wX, hwX⟩ : ∃ wX, wX = wa4.alloc (.cells #[.int .i64 kN, .int .i64 xN, .int .i64 yN, .int .i64 sN, .int .i64 lN, .int .i64 eN, .int .i64 oN, .int .i64 tN] 58) := ⟨_, rfl⟩; have hBX : Below wa4.heap.size wa4 wX := (by rw [hwX]; exact (Below.refl _ _).alloc (Nat.le_refl _) _); have one : RdH wX (wa4.heap.size + 1) (.slice (some ⟨wa4.heap.size, 0, none⟩) 1 1) [⟨kN, xN, yN, sN, lN, eN, oN, tN⟩] := (by rw [hwX]; exact rdH_one wa4 _ _ rfl); rw [← hwX]; have oLX : OwnH wX w3.heap.size wX.heap.size (.slice La i Lc) es := (((OL.out.keep fun j j1 j2 => (hBw4).block j j2).wide (Nat.le_refl _) (by omega)).below hBX (Nat.le_refl _)).wide (Nat.le_refl _) hBX.size; refine wpList_append_hh rfl _ _ 29 rfl Try.underlying29 w3.heap.size wX.heap.size (.slice La i Lc) es rfl oLX (by have := hBX.size; omega) [⟨kN, xN, yN, sN, lN, eN, oN, tN⟩] (some ⟨wa4.heap.size, 0, none⟩) 1 rfl (wa4.heap.size + 1) one (fun n c q => by cases q) (by simp; omega) ?_; intro v9 wa9 ho9 hg9) | (fail))
          have hB9 : Below w3.heap.size w3 wa9 := Below.grown ((hBW4).trans (hBX.mono (by omega))) hg9 (by have := hBX.size; omega) (fun k hk => (oLX.lo k hk).1)
          have FR2 : Hid (∀ d ∈ es ++ [⟨kN, xN, yN, sN, lN, eN, oN, tN⟩], FreshD d) := fun d hd => by
            rcases List.mem_append.1 hd with q | q
            · exact FE.out d q
            · rw [List.mem_singleton.1 q]; exact FR.out
          have HO9 : Hid (OwnH wa9 w3.heap.size wa9.heap.size v9 (es ++ [⟨kN, xN, yN, sN, lN, eN, oN, tN⟩])) := ho9
          go_roundw
          case rel => exact ⟨i + 1, es ++ [⟨kN, xN, yN, sN, lN, eN, oN, tN⟩], by omega, by go_num, by simp; omega, FR2, HO9, hB9⟩
          case measure => simp [intOf]; omega
      · refine step_alloc_v (a := ⟨_, []⟩) rfl 58 rfl _ zeroH ?_
        intro b7 wa2 hb7' hw2 hB2 hV2
        have hz2 : wr.heap.size ≤ wa2.heap.size := hB2.size
        have S2 : (wa2.cell? ⟨b3, 0, none⟩ = some (.slice Ac H.length Kc) ∧ wa2.cell? ⟨b3, 1, none⟩ = some (.slice (some ⟨cb, coff, none⟩) ds.length Mc) ∧ wa2.cell? ⟨cb, coff + i * 8, none⟩ = some (.int .i64 k) ∧ wa2.cell? ⟨cb, coff + i * 8 + 1, none⟩ = some (.int .i64 x) ∧ wa2.cell? ⟨cb, coff + i * 8 + 2, none⟩ = some (.int .i64 y)) := by rw [hB2.cell (by show b3 < wr.heap.size; omega), hB2.cell (by show b3 < wr.heap.size; omega), hB2.cell (by show cb < wr.heap.size; omega), hB2.cell (by show cb < wr.heap.size; omega), hB2.cell (by show cb < wr.heap.size; omega)]; exact S0
        refine hK.out _ _ S2 (fun _ => ?_)
        try go_frame
        refine wpAnyH_ready (rs := [18]) (by kernel_rfl) (by simp) ?_
        refine AllReadyH.cons rfl (fun K3 hK3 => ?_) AllReadyH.nil
        go_simp
        go_at_call 41
        refine (specNewHand_any k x y wa2).mono ?_
        rintro er wa3 ⟨he, hB3⟩
        rw [hnd.out, hzb.out] at he
        subst he
        dsimp only [hv]
        have hz3 : wa2.heap.size ≤ wa3.heap.size := hB3.size
        have S3 : (wa3.cell? ⟨b3, 0, none⟩ = some (.slice Ac H.length Kc) ∧ wa3.cell? ⟨b3, 1, none⟩ = some (.slice (some ⟨cb, coff, none⟩) ds.length Mc) ∧ wa3.cell? ⟨cb, coff + i * 8, none⟩ = some (.int .i64 k) ∧ wa3.cell? ⟨cb, coff + i * 8 + 1, none⟩ = some (.int .i64 x) ∧ wa3.cell? ⟨cb, coff + i * 8 + 2, none⟩ = some (.int .i64 y)) := by rw [hB3.cell (by show b3 < wa2.heap.size; omega), hB3.cell (by show b3 < wa2.heap.size; omega), hB3.cell (by show cb < wa2.heap.size; omega), hB3.cell (by show cb < wa2.heap.size; omega), hB3.cell (by show cb < wa2.heap.size; omega)]; exact S2
        refine hK3.out _ _ S3 (fun _ => ?_)
        try go_frame
        refine takeW 19 46 (.tuple #[.agg #[.int .i64 kN, .int .i64 xN, .int .i64 yN, .int .i64 sN, .int .i64 lN, .int .i64 eN, .int .i64 oN, .int .i64 tN], .bool zb]) rfl (by kernel_rfl) (by kernel_rfl) (by kernel_rfl) (fun _ _ _ h => h) (by kernel_rfl) (fun w' hS => by go_simp) S3 ?_
        go_frame
        refine takeW 20 66 (.agg #[.int .i64 kN, .int .i64 xN, .int .i64 yN, .int .i64 sN, .int .i64 lN, .int .i64 eN, .int .i64 oN, .int .i64 tN]) rfl (by kernel_rfl) (by kernel_rfl) (by kernel_rfl) (fun _ _ _ h => h) (by kernel_rfl) (fun w' hS => by go_simp) S3 ?_
        go_frame
        refine takeW 21 67 (.bool zb) rfl (by kernel_rfl) (by kernel_rfl) (by kernel_rfl) (fun _ _ _ h => h) (by kernel_rfl) (fun w' hS => by go_simp) S3 ?_
        go_frame
        have hV3 := hV2.below hB3 hw2
        have hBw3 : Below wr.heap.size wr wa3 := ((Below.refl wr.heap.size wr).drew.trans hB2).trans (hB3.mono (by omega))
        have hb7w : wr.heap.size ≤ b7 := by first | omega | exact hb7'
        have hb7z : b7 < wa3.heap.size := hV3.lt
        refine wpAnyH_ready (rs := [23]) (by kernel_rfl) (by simp) ?_
        refine AllReadyH.cons rfl (fun K4 hK4 => ?_) AllReadyH.nil
        refine step_store_v rfl 58 _ _ rfl b7 (hv ⟨kN, xN, yN, sN, lN, eN, oN, tN⟩) rfl rfl sizeH hV3 rfl (hv_one _) ?_
        intro wa4 hO4 hV4
        have hz4 := Nat.le_of_eq hO4.1.symm
        have hy4 := Nat.le_of_eq hO4.1
        have S4 : (wa4.cell? ⟨b3, 0, none⟩ = some (.slice Ac H.length Kc) ∧ wa4.cell? ⟨b3, 1, none⟩ = some (.slice (some ⟨cb, coff, none⟩) ds.length Mc) ∧ wa4.cell? ⟨cb, coff + i * 8, none⟩ = some (.int .i64 k) ∧ wa4.cell? ⟨cb, coff + i * 8 + 1, none⟩ = some (.int .i64 x) ∧ wa4.cell? ⟨cb, coff + i * 8 + 2, none⟩ = some (.int .i64 y)) := by rw [cell_only hO4 (by omega), cell_only hO4 (by omega), cell_only hO4 (by omega), cell_only hO4 (by omega), cell_only hO4 (by omega)]; exact S3
        refine hK4.out _ _ S4 (fun _ => ?_)
        try go_frame
        refine takeW 24 8 (.bool zb) rfl (by kernel_rfl) (by kernel_rfl) (by kernel_rfl) (fun _ _ _ h => h) (by kernel_rfl) (fun w' hS => by go_simp) S4 ?_
        go_frame
        have hb7 : HB wa4 b7 ⟨kN, xN, yN, sN, lN, eN, oN, tN⟩ := ⟨hV4⟩
        have hBw4 : Below wr.heap.size wr wa4 := hBw3.trans (hO4.2.2 _ hb7w)
        have hBW4 : Below w3.heap.size w3 wa4 := hBr.trans (hBw4.mono (by omega))
        refine wpAnyH_done (by kernel_rfl) ?_ _
        cases zb with
        | false =>
          go_wp2
          go_ret
          exact ⟨rfl, HB0.out.trans ((hBW4).mono sw)⟩
        | true =>
          have FR : Hid (FreshD ⟨kN, xN, yN, sN, lN, eN, oN, tN⟩) := by unfold Hid; rw [← hnd.out]; exact fresh_new hzb.out
          obtain ⟨c0', c1', c2', c3', c4', c5', c6', c7'⟩ := hb7.cells
          go_wp2_with (first | (at_builtin; obtain ⟨wX, hwX⟩ : ∃ wX, wX = wa4.alloc (.cells #[.int .i64 kN, .int .i64 xN, .int .i64 yN, .int .i64 sN, .int .i64 lN, .int .i64 eN, .int .i64 oN, .int .i64 tN] 58) := ⟨_, rfl⟩; have hBX : Below wa4.heap.size wa4 wX := (by rw [hwX]; exact (Below.refl _ _).alloc (Nat.le_refl _) _); have one : RdH wX (wa4.heap.size + 1) (.slice (some ⟨wa4.heap.size, 0, none⟩) 1 1) [⟨kN, xN, yN, sN, lN, eN, oN, tN⟩] := (by rw [hwX]; exact rdH_one wa4 _ _ rfl); rw [← hwX]; have oLX : OwnH wX w3.heap.size wX.heap.size (.slice La i Lc) es := (((OL.out.keep fun j j1 j2 => (hBw4).block j j2).wide (Nat.le_refl _) (by omega)).below hBX (Nat.le_refl _)).wide (Nat.le_refl _) hBX.size; refine wpList_append_hh rfl _ _ 29 rfl Try.underlying29 w3.heap.size wX.heap.size (.slice La i Lc) es rfl oLX (by have := hBX.size; omega) [⟨kN, xN, yN, sN, lN, eN, oN, tN⟩] (some ⟨wa4.heap.size, 0, none⟩) 1 rfl (wa4.heap.size + 1) one (fun n c q => by cases q) (by simp; omega) ?_; intro v9 wa9 ho9 hg9) | (fail))
          have hB9 : Below w3.heap.size w3 wa9 := Below.grown ((hBW4).trans (hBX.mono (by omega))) hg9 (by have := hBX.size; omega) (fun k hk => (oLX.lo k hk).1)
          have FR2 : Hid (∀ d ∈ es ++ [⟨kN, xN, yN, sN, lN, eN, oN, tN⟩], FreshD d) := fun d hd => by
            rcases List.mem_append.1 hd with q | q
            · exact FE.out d q
            · rw [List.mem_singleton.1 q]; exact FR.out
          have HO9 : Hid (OwnH wa9 w3.heap.size wa9.heap.size v9 (es ++ [⟨kN, xN, yN, sN, lN, eN, oN, tN⟩])) := ho9
          go_roundw
          case rel => exact ⟨i + 1, es ++ [⟨kN, xN, yN, sN, lN, eN, oN, tN⟩], by omega, by go_num, by simp; omega, FR2, HO9, hB9⟩
          case measure => simp [intOf]; omega
    · have hlt' : ¬ ((i : Int) < (ds.length : Int)) := by omega
      have hi8 : es.length ≤ 8 := by omega
      as_aux_lemma =>
        subst hel
        rename World => wb
        have oL := OL.out
        have nl := oL.nilOk
        have hB := HB0.out.trans (hBr.mono sw)
        have hzw := hB.size
        obtain ⟨m, hm⟩ := hid_ex (nwB es)
        obtain ⟨Lx, hLx⟩ := hid_ex (nwH es)
        obtain ⟨Ex, hEx⟩ := hid_ex (nwD es)
        have hmm : (m != m) = false := by simp
        have mk1 : Hid True := trivial
        have mk2 : Hid True := trivial
        have mk3 : Hid True := trivial
        have mk4 : Hid True := trivial
        have mk5 : Hid True := trivial
        have mk6 : Hid True := trivial
        have mk7 : Hid True := trivial
        go_upto_if 94 with (first | (clear mk1; go_at_call 19; refine (implNewCrew_all es _ wb.heap.size _ (by omega) oL.rd nl).mono ?_; rintro er w21 ⟨vxH, vxD, he, oxH, oxD, hB21⟩; have hz21 : wb.heap.size ≤ w21.heap.size := hB21.size; replace oL := oL.below hB21 (by omega); replace hB := hB.trans (hB21.mono (by omega)); replace hzw := hB.size; rw [hm.out] at he; subst he; rw [hLx.out] at oxH; rw [hEx.out] at oxD; obtain ⟨Ax, Kx, rfl⟩ := oxH.rd.form; obtain ⟨Dx, Mx, rfl⟩ := oxD.rd.form) | (clear mk2; refine wpList_alloc_v rfl 31 rfl _ zeroCr ?_; intro b9 w22 hb9 hwb9 hB22 hVb9; have hz22 : w21.heap.size ≤ w22.heap.size := hB22.size; replace oL := oL.below hB22 (by omega); replace oxH := oxH.below hB22 (by omega); replace oxD := oxD.below hB22 (by omega); replace hB := hB.trans (hB22.mono (by omega)); replace hzw := hB.size) | (clear mk3; refine wpList_store_v rfl 31 _ _ rfl b9 [.slice Ax Lx.length Kx, .slice Dx Ex.length Mx] rfl rfl sizeCr hVb9 rfl (by simp [Value.oneCell']) ?_; intro w23 hO23 hNb9; have hz23 : w22.heap.size ≤ w23.heap.size := (Nat.le_of_eq hO23.1.symm); replace oL := oL.keep (w' := w23) (fun k g1 g2 => hO23.2.1 k (by omega)); replace oxH := oxH.keep (w' := w23) (fun k g1 g2 => hO23.2.1 k (by omega)); replace oxD := oxD.keep (w' := w23) (fun k g1 g2 => hO23.2.1 k (by omega)); replace hB := hB.trans (hO23.2.2 _ (by omega)); replace hzw := hB.size; have cx : CV w23 b9 31 (.slice Ax Lx.length Kx) (.slice Dx Ex.length Mx) := ⟨hNb9⟩; clear hVb9 hNb9; obtain ⟨cx0, cx1⟩ := cx.cells) | (clear mk4; go_at_call 17; refine (specNewCrew_all es _ wb.heap.size _ (by omega) oL.rd nl).mono ?_; rintro er w24 ⟨vyH, vyD, he, oyH, oyD, hB24⟩; have hz24 : w23.heap.size ≤ w24.heap.size := hB24.size; replace oL := oL.below hB24 (by omega); replace oxH := oxH.below hB24 (by omega); replace oxD := oxD.below hB24 (by omega); replace cx := cx.below hB24 (by omega); replace hB := hB.trans (hB24.mono (by omega)); replace hzw := hB.size; clear cx0 cx1; obtain ⟨cx0, cx1⟩ := cx.cells; rw [hm.out] at he; subst he; rw [hLx.out] at oyH; rw [hEx.out] at oyD; obtain ⟨Ay, Ky, rfl⟩ := oyH.rd.form; obtain ⟨Dy, My, rfl⟩ := oyD.rd.form) | (clear mk5; refine wpList_alloc_v rfl 31 rfl _ zeroCr ?_; intro b11 w25 hb11 hwb11 hB25 hVb11; have hz25 : w24.heap.size ≤ w25.heap.size := hB25.size; replace oL := oL.below hB25 (by omega); replace oxH := oxH.below hB25 (by omega); replace oxD := oxD.below hB25 (by omega); replace oyH := oyH.below hB25 (by omega); replace oyD := oyD.below hB25 (by omega); replace cx := cx.below hB25 (by omega); replace hB := hB.trans (hB25.mono (by omega)); replace hzw := hB.size; clear cx0 cx1; obtain ⟨cx0, cx1⟩ := cx.cells) | (clear mk6; refine wpList_store_v rfl 31 _ _ rfl b11 [.slice Ay Lx.length Ky, .slice Dy Ex.length My] rfl rfl sizeCr hVb11 rfl (by simp [Value.oneCell']) ?_; intro w26 hO26 hNb11; have hz26 : w25.heap.size ≤ w26.heap.size := (Nat.le_of_eq hO26.1.symm); replace oL := oL.keep (w' := w26) (fun k g1 g2 => hO26.2.1 k (by omega)); replace oxH := oxH.keep (w' := w26) (fun k g1 g2 => hO26.2.1 k (by omega)); replace oxD := oxD.keep (w' := w26) (fun k g1 g2 => hO26.2.1 k (by omega)); replace oyH := oyH.keep (w' := w26) (fun k g1 g2 => hO26.2.1 k (by omega)); replace oyD := oyD.keep (w' := w26) (fun k g1 g2 => hO26.2.1 k (by omega)); replace cx := cx.keep (w' := w26) (fun k g1 g2 => hO26.2.1 k (by omega)); replace hB := hB.trans (hO26.2.2 _ (by omega)); replace hzw := hB.size; clear cx0 cx1; obtain ⟨cx0, cx1⟩ := cx.cells; have cy : CV w26 b11 31 (.slice Ay Lx.length Ky) (.slice Dy Ex.length My) := ⟨hNb11⟩; clear hVb11 hNb11; obtain ⟨cy0, cy1⟩ := cy.cells) | (clear mk7; go_at_call 37; refine (likeCrew_any Lx Ex _ _ _ _ w21.heap.size w24.heap.size _ (by omega) (by omega) oxH.rd oxD.rd oyH.rd oyD.rd).mono ?_; rintro er w27 ⟨rfl, hB27⟩; have hz27 : w26.heap.size ≤ w27.heap.size := hB27.size; replace oL := oL.below hB27 (by omega); replace oxH := oxH.below hB27 (by omega); replace oxD := oxD.below hB27 (by omega); replace oyH := oyH.below hB27 (by omega); replace oyD := oyD.below hB27 (by omega); replace cx := cx.below hB27 (by omega); replace cy := cy.below hB27 (by omega); replace hB := hB.trans (hB27.mono (by omega)); replace hzw := hB.size; clear cx0 cx1; obtain ⟨cx0, cx1⟩ := cx.cells; clear cy0 cy1; obtain ⟨cy0, cy1⟩ := cy.cells) | (fail))
        clear hmm
        cases m with
        | false =>
          as_aux_lemma =>
            have h4 : (4 : Int) < (es.length : Int) := by have := new_many FE.out hm.out; omega
            go_wp2
            go_ret
            exact ⟨rfl, hB⟩
        | true =>
        as_aux_lemma =>
          have NO : Hid (NewOk es) := by
            by_cases q : NewOk es
            · exact q
            · have := hm.out; rw [(nw_no q).1] at this; cases this
          have eL : Hid (Lx = [c0]) := by unfold Hid; rw [← hLx.out]; exact (nw_yes NO.out).2.1
          have eE : Hid (Ex = es) := by unfold Hid; rw [← hEx.out]; exact (nw_yes NO.out).2.2
          have hl4 : es.length ≤ 4 := NO.out.1.le
          have hBw : Below wb.heap.size wb w27 := (((((hB21.trans (hB22.mono (by omega))).trans (hO23.2.2 _ (by omega))).trans (hB24.mono (by omega))).trans (hB25.mono (by omega))).trans (hO26.2.2 _ (by omega))).trans (hB27.mono (by omega))
          have kB : Hid True := trivial
          have kS : Hid True := trivial
          have kM : Hid True := trivial
          clear oyH oyD cy cy0 cy1 cx0 cx1
          go_wp2_with (first | (clear kB; refine wpList_make_b rfl _ _ 65 rfl Try.underlying65 es.length (by omega) rfl rfl ?_; intro gB w31 hgB hglB hB31 hXB; have hz31 := hB31.size; have obB : OwnB w31 wb.heap.size w31.heap.size (.slice (some ⟨gB, 0, none⟩) es.length es.length) (List.replicate es.length false) := made_b hXB (by omega); replace oxH := oxH.below hB31 (by omega); replace oxD := oxD.below hB31 (by omega); replace cx := cx.below hB31 (by omega); replace hB := hB.trans (hB31.mono (by omega)); replace hBw := hBw.trans (hB31.mono (by omega))) | (clear kS; refine wpList_make_b rfl _ _ 65 rfl Try.underlying65 es.length (by omega) rfl rfl ?_; intro gS w32 hgS hglS hB32 hXS; have hz32 := hB32.size; have obS : OwnB w32 wb.heap.size w32.heap.size (.slice (some ⟨gS, 0, none⟩) es.length es.length) (List.replicate es.length false) := made_b hXS (by omega); replace obB := (obB.below hB32 (Nat.le_refl _)).wide (Nat.le_refl _) hz32; replace oxH := oxH.below hB32 (by omega); replace oxD := oxD.below hB32 (by omega); replace cx := cx.below hB32 (by omega); replace hB := hB.trans (hB32.mono (by omega)); replace hBw := hBw.trans (hB32.mono (by omega))) | (clear kM; refine wpList_make_b rfl _ _ 65 rfl Try.underlying65 es.length (by omega) rfl rfl ?_; intro gM w33 hgM hglM hB33 hXM; have hz33 := hB33.size; have obM : OwnB w33 wb.heap.size w33.heap.size (.slice (some ⟨gM, 0, none⟩) es.length es.length) (List.replicate es.length false) := made_b hXM (by omega); replace obB := (obB.below hB33 (Nat.le_refl _)).wide (Nat.le_refl _) hz33; replace obS := (obS.below hB33 (Nat.le_refl _)).wide (Nat.le_refl _) hz33; replace oxH := oxH.below hB33 (by omega); replace oxD := oxD.below hB33 (by omega); replace cx := cx.below hB33 (by omega); replace hB := hB.trans (hB33.mono (by omega)); replace hBw := hBw.trans (hB33.mono (by omega))) | (fail))
          have om0 : Hid (Om wb w33 b9 gB gS gM es.length (.slice Ax Lx.length Kx) Lx (.slice Dx Ex.length Mx) Ex (List.replicate es.length false) (List.replicate es.length false) (List.replicate es.length false)) := ⟨⟨cx, oxH.wide (by omega) (by omega), oxD.wide (by omega) (by omega)⟩, obB, obS, obM, by omega, by omega, by omega, by rw [eE.out], by omega, hBw⟩
          have mom0 : Hid (Mom Lx Ex (List.replicate es.length false) (List.replicate es.length false) (List.replicate es.length false)) := by
            unfold Hid
            rw [eL.out, eE.out]
            exact mom_new NO.out.1 NO.out.2 (by simp) (by simp) (by simp) (by simp)
          have RQ2 : Hid (RdI wb w1.heap.size (.slice aQ qs.length cQ) qs) := RQ.out.below hBr sc
          have HBB : Hid (Below w.heap.size w wb) := HB0.out.trans (hBr.mono sw)
          have sq : w1.heap.size ≤ wb.heap.size ∧ w.heap.size ≤ wb.heap.size := by omega
          clear oxH oxD cx obB obS obM oL OL FE hLx hEx hBr hm
          refine wp_loop (InvO wb b9 gB gS gM aQ cQ La Lc qs es) (fun a' _ => muO qs a') ?_ ?_
          · exact ⟨⟨0, _, _, Lx, Ex, _, _, _, by omega, om0, mom0, (by kernel_rfl), rfl⟩⟩
          · intro a' wr hinv
            obtain ⟨⟨i, vH, vD, H2, d2, B, S, M, hi1, OM, MO, htm, hdf⟩⟩ := hinv
            obtain ⟨f, hfr⟩ : ∃ f : Nat → Value, a' = { tmps := #[f 0, f 1, f 2, f 3, .slice aQ qs.length cQ, .slice La es.length Lc, f 6, f 7, f 8, .pointer (some ⟨b9, 0, none⟩), f 10, f 11, f 12, .slice (some ⟨gB, 0, none⟩) es.length es.length, .slice (some ⟨gS, 0, none⟩) es.length es.length, .slice (some ⟨gM, 0, none⟩) es.length es.length, .int .i64 (i : Int), f 17, f 18, f 19, f 20, f 21, f 22, f 23, f 24, f 25, f 26, f 27, f 28, f 29, f 30, f 31, f 32, f 33, f 34, f 35, f 36, f 37, f 38, f 39, f 40, f 41, f 42, f 43, f 44, f 45, f 46, f 47, f 48, f 49, f 50, f 51, f 52, f 53, f 54, f 55, f 56, f 57, f 58, f 59, f 60, f 61, f 62, f 63, f 64, f 65, f 66, f 67, f 68, f 69, f 70, f 71, f 72, f 73, f 74, f 75, f 76, f 77, f 78, f 79, f 80, f 81, f 82, f 83, f 84, f 85, f 86, f 87, f 88, f 89, f 90, f 91, f 92, f 93, f 94, f 95, f 96, f 97, f 98, f 99, f 100, f 101, f 102, f 103, f 104, f 105, f 106, f 107, f 108, f 109, f 110, f 111, f 112, f 113, f 114, f 115, f 116, f 117, f 118, f 119, f 120, f 121, f 122, f 123, f 124, f 125, f 126, f 127, f 128, f 129, f 130, f 131, f 132, f 133, f 134, f 135, f 136, f 137, f 138, f 139, f 140, f 141, f 142, f 143, f 144, f 145, f 146, f 147, f 148, f 149, f 150, f 151, f 152, f 153, f 154, f 155, f 156, f 157, f 158, f 159, f 160, f 161, f 162, f 163, f 164, f 165, f 166, f 167, f 168, f 169, f 170, f 171, f 172, f 173, f 174, f 175, f 176, f 177, f 178, f 179, f 180, f 181, f 182, f 183, f 184, f 185, f 186, f 187, f 188, f 189, f 190, f 191, f 192, f 193, f 194, f 195, f 196, f 197, f 198, f 199, f 200, f 201, f 202, f 203, f 204, f 205, f 206, f 207, f 208, f 209, f 210, f 211, f 212, f 213, f 214, f 215, f 216, f 217, f 218, f 219, f 220, f 221, f 222, f 223, f 224, f 225, f 226, f 227, f 228, f 229, f 230, f 231, f 232, f 233, f 234, f 235, f 236, f 237, f 238, f 239, f 240, f 241, f 242, f 243, f 244, f 245, f 246, f 247, f 248, f 249, f 250, f 251, f 252, f 253, f 254, f 255, f 256, f 257, f 258, f 259, f 260, f 261, f 262, f 263, f 264, f 265, f 266, f 267, f 268, f 269, f 270, f 271, f 272, f 273, f 274, f 275, f 276, f 277, f 278, f 279, f 280, f 281, f 282, f 283, f 284, f 285, f 286, f 287, f 288, f 289, f 290, f 291, f 292, f 293, f 294, f 295, f 296, f 297, f 298, f 299, f 300, f 301, f 302, f 303, f 304, f 305, f 306, f 307, f 308, f 309, f 310, f 311, f 312, f 313, f 314, f 315, f 316, f 317, f 318, f 319, f 320, f 321, f 322, f 323, f 324, f 325, f 326, f 327, f 328, f 329, f 330, f 331, f 332, f 333, f 334, f 335, f 336, f 337, f 338, f 339, f 340, f 341, f 342, f 343, f 344, f 345, f 346, f 347, f 348, f 349, f 350, f 351, f 352, f 353, f 354, f 355, f 356, f 357, f 358, f 359, f 360, f 361, f 362, f 363, f 364, f 365, f 366, f 367, f 368, f 369, f 370, f 371, f 372, f 373, f 374, f 375, f 376, f 377, f 378, f 379, f 380], defers := [] } := by
              obtain ⟨T, D⟩ := a'
              simp only at htm hdf
              subst hdf
              exact ⟨tmOf T, congrArg (fun X => Act.mk X []) htm⟩
            clear htm hdf
            subst hfr
            rename World => wt
            clear om0 mom0
            have hbt := OM.out.bel.size
            obtain ⟨hA, hK, rfl⟩ := OM.out.yv.heap.rd.form
            obtain ⟨hD, hM, rfl⟩ := OM.out.yv.hands.rd.form
            have LN : Hid (d2.length = es.length) := OM.out.len
            obtain ⟨c90, c91⟩ := OM.out.yv.cv.cells
            by_cases hlt : i < qs.length
            · have hlt' : (i : Int) < (qs.length : Int) := by omega
              obtain ⟨bq, oq, rfl, hbq, gq⟩ := (RQ2.out.below OM.out.bel sq.1).cell i hlt
              obtain ⟨q, hq9⟩ := hid_ex qs[i]
              rw [hq9.out] at gq
              by_cases hr : 0 ≤ q ∧ q < (es.length : Int)
              case neg =>
                by_cases h0 : q < 0
                · clear hr
                  as_aux_lemma =>
                    go_wp2
                    exact ⟨⟨⟨i + 1, _, _, H2, d2, B, S, M, by omega, OM, MO, (by kernel_rfl), rfl⟩⟩, mu_lt i (by kernel_rfl) (by kernel_rfl) hlt⟩
                · have h1 : q ≥ (es.length : Int) := by omega
                  have h1' : (es.length : Int) ≤ q := by omega
                  clear hr
                  as_aux_lemma =>
                    go_wp2
                    exact ⟨⟨⟨i + 1, _, _, H2, d2, B, S, M, by omega, OM, MO, (by kernel_rfl), rfl⟩⟩, mu_lt i (by kernel_rfl) (by kernel_rfl) hlt⟩
              obtain ⟨pk, rfl⟩ : ∃ pk : Nat, q = pk := ⟨q.toNat, by omega⟩
              have hpe : (pk : Int) < (es.length : Int) := hr.2
              have hpn : ¬ ((pk : Int) < 0) := by omega
              have hpg : ¬ ((pk : Int) ≥ (es.length : Int)) := by omega
              have hpd : pk < d2.length := by rw [LN.out]; omega
              have hpd' : (pk : Int) < (d2.length : Int) := by omega
              clear hr
              obtain ⟨dd, hdd⟩ := hid_ex (d2[pk])
              obtain ⟨k, x, y, s, l, e, o, t⟩ := dd
              obtain ⟨cb, coff, rfl, hcb, f0, f1, f2, f3, f4, f5, f6, f7⟩ := OM.out.yv.hands.rd.cell pk hpd hdd.out
              clear f0 f1 f2 f4 f5 f6 f7
              by_cases h5 : s = 5
              · have g5 : (s == 5) = true := by simp [h5]
                clear h5
                as_aux_lemma =>
                  go_wp2
                  exact ⟨⟨⟨i + 1, _, _, H2, d2, B, S, M, by omega, OM, MO, (by kernel_rfl), rfl⟩⟩, mu_lt i (by kernel_rfl) (by kernel_rfl) hlt⟩
              · have g5 : (s == 5) = false := by simp [h5]
                have H5 : Hid (s ≠ 5) := h5
                clear h5
                as_aux_lemma =>
                  have ok : Hid (CrewOk H2 d2) := MO.out.crew
                  obtain ⟨LV, hLV⟩ := hid_ex (living H2)
                  have hLL : Hid (livingL H2 = LV) := by unfold Hid; rw [← hLV.out]; exact if_pos ok.out.heap
                  have lB : B.length = es.length := by rw [MO.out.lenB]; exact LN.out
                  have lS : S.length = es.length := by rw [MO.out.lenS]; exact LN.out
                  have lM : M.length = es.length := by rw [MO.out.lenM]; exact LN.out
                  have wB := (ownB_type OM.out.ob gB rfl).2.2
                  have wS := (ownB_type OM.out.os gS rfl).2.2
                  have wM := (ownB_type OM.out.om gM rfl).2.2
                  obtain ⟨B1, hB1⟩ := hid_ex (B.set pk true)
                  obtain ⟨LS, hLS⟩ := hid_ex (sawL H2 d2 B1 S)
                  obtain ⟨LM, hLM⟩ := hid_ex (missL H2 d2 B1 M)
                  have lB1 : B1.length = es.length := by rw [← hB1.out, List.length_set]; exact lB
                  have lLS : LS.length = es.length := by rw [← hLS.out, sawL_len]; exact LN.out
                  have lLM : LM.length = es.length := by rw [← hLM.out, missL_len]; exact LN.out
                  go_wp2_with (first | (go_at_call 42; refine (specLiving_any H2 _ wt.heap.size _ (Nat.le_refl _) OM.out.yv.heap.rd).mono ?_; rintro er wl ⟨vW, rfl, oW, hBl⟩; rw [hLL.out] at oW; have hzl := hBl.size; obtain ⟨aW, cW, rfl⟩ := oW.rd.form; have om1 := OM.out.below hBl) | (refine wpList_store_b rfl _ _ rfl gB pk true rfl rfl om1.ob (by omega) ?_; intro wm hOm obm; rw [hB1.out] at obm; have om2 : Hid (Om wb wm b9 gB gS gM es.length (.slice hA H2.length hK) H2 (.slice (some ⟨cb, coff, none⟩) d2.length hM) d2 B1 S M) := om1.setB hOm obm; have oW2 : Hid (OwnI wm wt.heap.size wl.heap.size (.slice aW LV.length cW) LV) := oW.keep fun a a1 a2 => hOm.2.1 a (by omega)) | (fail))
                  have om3 : Hid (Om wb wm b9 gB gS gM es.length (.slice hA H2.length hK) H2 (.slice (some ⟨cb, coff, none⟩) d2.length hM) d2 B1 (mixL 0 LS S) (mixL 0 LM M)) := by unfold Hid; rw [mix_zero, mix_zero]; exact om2
                  have hwlm : wl.heap.size ≤ wm.heap.size := Nat.le_of_eq hOm.1.symm
                  clear om1 om2 oW hBl hOm obm c90 c91 f3 gq OM
                  go_loopw [19] (fun v' ws => ∃ j : Nat, j ≤ es.length ∧ v' = .int .i64 j ∧ Hid (Om wb ws b9 gB gS gM es.length (.slice hA H2.length hK) H2 (.slice (some ⟨cb, coff, none⟩) d2.length hM) d2 B1 (mixL j LS S) (mixL j LM M)) ∧ Hid (OwnI ws wt.heap.size wl.heap.size (.slice aW LV.length cW) LV) ∧ wl.heap.size ≤ ws.heap.size) (fun v' _ => es.length - (intOf v').toNat)
                  case atStart => exact ⟨0, by omega, rfl, om3, oW2, hwlm⟩
                  case round =>
                    obtain ⟨j, hj1, rfl, OJ, OWJ, hwls⟩ := hrel
                    rename World => ws
                    clear om3 oW2
                    obtain ⟨c90, c91⟩ := OJ.out.yv.cv.cells
                    by_cases hj : j < es.length
                    · have hj' : (j : Int) < (es.length : Int) := by omega
                      have hjd : j < d2.length := by rw [LN.out]; exact hj
                      have hjd' : (j : Int) < (d2.length : Int) := by omega
                      obtain ⟨dj, hdj⟩ := hid_ex (d2[j])
                      obtain ⟨k3, x3, y3, s3, l3, e3, o3, t3⟩ := dj
                      obtain ⟨bj, hbj⟩ := hid_ex (B1[j]'(by rw [lB1]; exact hj))
                      obtain ⟨sj, hsj⟩ := hid_ex (S[j]'(by rw [lS]; exact hj))
                      obtain ⟨mj, hmj⟩ := hid_ex (M[j]'(by rw [lM]; exact hj))
                      have hLSj : Hid (LS[j]'(by rw [lLS]; exact hj) = (sj || (bj && decide (s3 ≠ 5) && decide (x3 ∈ LV)))) := by
                        unfold Hid
                        have e8 := hLS.out
                        subst e8
                        rw [sawL_at hjd (by rw [lB1]; exact hj) (by rw [lS]; exact hj), hsj.out, hbj.out, hdj.out, hLV.out]
                      have hLMj : Hid (LM[j]'(by rw [lLM]; exact hj) = (mj || (bj && decide (s3 ≠ 5) && decide (x3 ∉ LV)))) := by
                        unfold Hid
                        have e8 := hLM.out
                        subst e8
                        rw [missL_at hjd (by rw [lB1]; exact hj) (by rw [lM]; exact hj), hmj.out, hbj.out, hdj.out, hLV.out]
                      obtain ⟨bb, bo, eb, hbb, cB⟩ := OJ.out.ob.rd.cell j (by rw [lB1]; exact hj)
                      cases eb
                      rw [Nat.zero_add, hbj.out] at cB
                      cases bj with
                      | false =>
                        have e1 : Hid (mixL j LS S = mixL (j + 1) LS S) := mix_same (by rw [lLS, lS]) (by rw [lS]; exact hj) (by rw [hLSj.out]; simp [hsj.out])
                        have e2 : Hid (mixL j LM M = mixL (j + 1) LM M) := mix_same (by rw [lLM, lM]) (by rw [lM]; exact hj) (by rw [hLMj.out]; simp [hmj.out])
                        rw [e1.out, e2.out] at OJ
                        as_aux_lemma =>
                          go_wp2
                          go_roundw
                          case rel => exact ⟨j + 1, by omega, by go_num, OJ, OWJ, hwls⟩
                          case measure => simp [intOf]; omega
                      | true =>
                      obtain ⟨cb2, coff2, e9', hcb2, r0, r1, r2, r3, r4, r5, r6, r7⟩ := OJ.out.yv.hands.rd.cell j hjd hdj.out
                      cases e9'
                      clear r0 r2 r4 r5 r6 r7
                      by_cases s35 : s3 = 5
                      · have g3 : (s3 != 5) = false := by simp [s35]
                        have s3n : decide (s3 ≠ 5) = false := by simp [s35]
                        clear s35
                        have e1 : Hid (mixL j LS S = mixL (j + 1) LS S) := mix_same (by rw [lLS, lS]) (by rw [lS]; exact hj) (by rw [hLSj.out]; simp [hsj.out, s3n])
                        have e2 : Hid (mixL j LM M = mixL (j + 1) LM M) := mix_same (by rw [lLM, lM]) (by rw [lM]; exact hj) (by rw [hLMj.out]; simp [hmj.out, s3n])
                        rw [e1.out, e2.out] at OJ
                        as_aux_lemma =>
                          go_wp2
                          go_roundw
                          case rel => exact ⟨j + 1, by omega, by go_num, OJ, OWJ, hwls⟩
                          case measure => simp [intOf]; omega
                      · have g3 : (s3 != 5) = true := by simp [s35]
                        have s3n : decide (s3 ≠ 5) = true := by simp [s35]
                        obtain ⟨yh, hyh⟩ := hid_ex (decide (x3 ∈ LV))
                        have hyh2 : Hid (decide (x3 ∉ LV) = !yh) := by unfold Hid; rw [← hyh.out]; exact decide_not
                        obtain ⟨bs1, so1, es1', hbs1, cS⟩ := OJ.out.os.rd.cell j (by rw [mix_len (by rw [lLS, lS]) (by omega), lS]; exact hj)
                        cases es1'
                        rw [Nat.zero_add, mix_at (by rw [lLS, lS]) (by rw [lS]; exact hj), hsj.out] at cS
                        have mS : Hid True := trivial
                        have mM : Hid True := trivial
                        clear s35
                        rcases sj with _ | _ <;> rcases mj with _ | _
                        · skip
                          as_aux_lemma =>
                            have es1 : LS[j]'(by rw [lLS]; exact hj) = yh := by rw [hLSj.out]; simp [s3n, hyh.out]
                            have em1 : LM[j]'(by rw [lLM]; exact hj) = (!yh) := by rw [hLMj.out]; simp [s3n, hyh2.out]
                            have st1 : Hid ((mixL j LS S).set j yh = mixL (j + 1) LS S) := by unfold Hid; rw [← es1]; exact mix_set (by rw [lLS, lS]) (by rw [lS]; exact hj)
                            have st2 : Hid ((mixL j LM M).set j (!yh) = mixL (j + 1) LM M) := by unfold Hid; rw [← em1]; exact mix_set (by rw [lLM, lM]) (by rw [lM]; exact hj)
                            clear es1 em1 s3n
                            go_wp2_with (first | (go_at_call 43; refine (hasInt_any LV x3 _ wl.heap.size _ OWJ.out.rd).mono ?_; rintro er wq ⟨he, hq⟩; subst wq; rw [hyh.out] at he; subst he) | (clear mS; refine wpList_store_b rfl _ _ rfl gS j yh rfl rfl OJ.out.os (by rw [mix_len (by rw [lLS, lS]) (by omega), lS]; exact hj) ?_; intro wu hOu obu; have omu := OJ.out.setS hOu obu; rw [st1.out] at omu; have oWu : OwnI wu wt.heap.size wl.heap.size (.slice aW LV.length cW) LV := OWJ.out.keep fun a a1 a2 => hOu.2.1 a (by omega); obtain ⟨bm2, om2', em2, hbm2, cm2⟩ := omu.om.rd.cell j (by rw [mix_len (by rw [lLM, lM]) (by omega), lM]; exact hj); cases em2; rw [Nat.zero_add] at cm2; rw [mix_at (by rw [lLM, lM]) (by rw [lM]; exact hj), hmj.out] at cm2; clear cS) | (clear mM; refine wpList_store_b rfl _ _ rfl gM j (!yh) rfl rfl omu.om (by rw [mix_len (by rw [lLM, lM]) (by omega), lM]; exact hj) ?_; intro wv hOv obv; have omv := omu.setM hOv obv; rw [st2.out] at omv; have oWv : OwnI wv wt.heap.size wl.heap.size (.slice aW LV.length cW) LV := oWu.keep fun a a1 a2 => hOv.2.1 a (by omega)) | (fail))
                            have OMV : Hid (Om wb wv b9 gB gS gM es.length (.slice hA H2.length hK) H2 (.slice (some ⟨cb, coff, none⟩) d2.length hM) d2 B1 (mixL (j + 1) LS S) (mixL (j + 1) LM M)) := omv
                            have OWV : Hid (OwnI wv wt.heap.size wl.heap.size (.slice aW LV.length cW) LV) := oWv
                            go_roundw
                            case rel => exact ⟨j + 1, by omega, by go_num, OMV, OWV, by have := hOu.1; have := hOv.1; omega⟩
                            case measure => simp [intOf]; omega
                        · skip
                          as_aux_lemma =>
                            have es1 : LS[j]'(by rw [lLS]; exact hj) = yh := by rw [hLSj.out]; simp [s3n, hyh.out]
                            have em1 : LM[j]'(by rw [lLM]; exact hj) = true := by rw [hLMj.out]; simp [s3n, hyh2.out]
                            have st1 : Hid ((mixL j LS S).set j yh = mixL (j + 1) LS S) := by unfold Hid; rw [← es1]; exact mix_set (by rw [lLS, lS]) (by rw [lS]; exact hj)
                            have st2 : Hid ((mixL j LM M).set j true = mixL (j + 1) LM M) := by unfold Hid; rw [← em1]; exact mix_set (by rw [lLM, lM]) (by rw [lM]; exact hj)
                            clear es1 em1 s3n
                            go_wp2_with (first | (go_at_call 43; refine (hasInt_any LV x3 _ wl.heap.size _ OWJ.out.rd).mono ?_; rintro er wq ⟨he, hq⟩; subst wq; rw [hyh.out] at he; subst he) | (clear mS; refine wpList_store_b rfl _ _ rfl gS j yh rfl rfl OJ.out.os (by rw [mix_len (by rw [lLS, lS]) (by omega), lS]; exact hj) ?_; intro wu hOu obu; have omu := OJ.out.setS hOu obu; rw [st1.out] at omu; have oWu : OwnI wu wt.heap.size wl.heap.size (.slice aW LV.length cW) LV := OWJ.out.keep fun a a1 a2 => hOu.2.1 a (by omega); obtain ⟨bm2, om2', em2, hbm2, cm2⟩ := omu.om.rd.cell j (by rw [mix_len (by rw [lLM, lM]) (by omega), lM]; exact hj); cases em2; rw [Nat.zero_add] at cm2; rw [mix_at (by rw [lLM, lM]) (by rw [lM]; exact hj), hmj.out] at cm2; clear cS) | (clear mM; refine wpList_store_b rfl _ _ rfl gM j true rfl rfl omu.om (by rw [mix_len (by rw [lLM, lM]) (by omega), lM]; exact hj) ?_; intro wv hOv obv; have omv := omu.setM hOv obv; rw [st2.out] at omv; have oWv : OwnI wv wt.heap.size wl.heap.size (.slice aW LV.length cW) LV := oWu.keep fun a a1 a2 => hOv.2.1 a (by omega)) | (fail))
                            have OMV : Hid (Om wb wv b9 gB gS gM es.length (.slice hA H2.length hK) H2 (.slice (some ⟨cb, coff, none⟩) d2.length hM) d2 B1 (mixL (j + 1) LS S) (mixL (j + 1) LM M)) := omv
                            have OWV : Hid (OwnI wv wt.heap.size wl.heap.size (.slice aW LV.length cW) LV) := oWv
                            go_roundw
                            case rel => exact ⟨j + 1, by omega, by go_num, OMV, OWV, by have := hOu.1; have := hOv.1; omega⟩
                            case measure => simp [intOf]; omega
                        · skip
                          as_aux_lemma =>
                            have es1 : LS[j]'(by rw [lLS]; exact hj) = true := by rw [hLSj.out]; simp [s3n, hyh.out]
                            have em1 : LM[j]'(by rw [lLM]; exact hj) = (!yh) := by rw [hLMj.out]; simp [s3n, hyh2.out]
                            have st1 : Hid ((mixL j LS S).set j true = mixL (j + 1) LS S) := by unfold Hid; rw [← es1]; exact mix_set (by rw [lLS, lS]) (by rw [lS]; exact hj)
                            have st2 : Hid ((mixL j LM M).set j (!yh) = mixL (j + 1) LM M) := by unfold Hid; rw [← em1]; exact mix_set (by rw [lLM, lM]) (by rw [lM]; exact hj)
                            clear es1 em1 s3n
                            go_wp2_with (first | (go_at_call 43; refine (hasInt_any LV x3 _ wl.heap.size _ OWJ.out.rd).mono ?_; rintro er wq ⟨he, hq⟩; subst wq; rw [hyh.out] at he; subst he) | (clear mS; refine wpList_store_b rfl _ _ rfl gS j true rfl rfl OJ.out.os (by rw [mix_len (by rw [lLS, lS]) (by omega), lS]; exact hj) ?_; intro wu hOu obu; have omu := OJ.out.setS hOu obu; rw [st1.out] at omu; have oWu : OwnI wu wt.heap.size wl.heap.size (.slice aW LV.length cW) LV := OWJ.out.keep fun a a1 a2 => hOu.2.1 a (by omega); obtain ⟨bm2, om2', em2, hbm2, cm2⟩ := omu.om.rd.cell j (by rw [mix_len (by rw [lLM, lM]) (by omega), lM]; exact hj); cases em2; rw [Nat.zero_add] at cm2; rw [mix_at (by rw [lLM, lM]) (by rw [lM]; exact hj), hmj.out] at cm2; clear cS) | (clear mM; refine wpList_store_b rfl _ _ rfl gM j (!yh) rfl rfl omu.om (by rw [mix_len (by rw [lLM, lM]) (by omega), lM]; exact hj) ?_; intro wv hOv obv; have omv := omu.setM hOv obv; rw [st2.out] at omv; have oWv : OwnI wv wt.heap.size wl.heap.size (.slice aW LV.length cW) LV := oWu.keep fun a a1 a2 => hOv.2.1 a (by omega)) | (fail))
                            have OMV : Hid (Om wb wv b9 gB gS gM es.length (.slice hA H2.length hK) H2 (.slice (some ⟨cb, coff, none⟩) d2.length hM) d2 B1 (mixL (j + 1) LS S) (mixL (j + 1) LM M)) := omv
                            have OWV : Hid (OwnI wv wt.heap.size wl.heap.size (.slice aW LV.length cW) LV) := oWv
                            go_roundw
                            case rel => exact ⟨j + 1, by omega, by go_num, OMV, OWV, by have := hOu.1; have := hOv.1; omega⟩
                            case measure => simp [intOf]; omega
                        · skip
                          as_aux_lemma =>
                            have es1 : LS[j]'(by rw [lLS]; exact hj) = true := by rw [hLSj.out]; simp [s3n, hyh.out]
                            have em1 : LM[j]'(by rw [lLM]; exact hj) = true := by rw [hLMj.out]; simp [s3n, hyh2.out]
                            have st1 : Hid ((mixL j LS S).set j true = mixL (j + 1) LS S) := by unfold Hid; rw [← es1]; exact mix_set (by rw [lLS, lS]) (by rw [lS]; exact hj)
                            have st2 : Hid ((mixL j LM M).set j true = mixL (j + 1) LM M) := by unfold Hid; rw [← em1]; exact mix_set (by rw [lLM, lM]) (by rw [lM]; exact hj)
                            clear es1 em1 s3n
                            go_wp2_with (first | (go_at_call 43; refine (hasInt_any LV x3 _ wl.heap.size _ OWJ.out.rd).mono ?_; rintro er wq ⟨he, hq⟩; subst wq; rw [hyh.out] at he; subst he) | (clear mS; refine wpList_store_b rfl _ _ rfl gS j true rfl rfl OJ.out.os (by rw [mix_len (by rw [lLS, lS]) (by omega), lS]; exact hj) ?_; intro wu hOu obu; have omu := OJ.out.setS hOu obu; rw [st1.out] at omu; have oWu : OwnI wu wt.heap.size wl.heap.size (.slice aW LV.length cW) LV := OWJ.out.keep fun a a1 a2 => hOu.2.1 a (by omega); obtain ⟨bm2, om2', em2, hbm2, cm2⟩ := omu.om.rd.cell j (by rw [mix_len (by rw [lLM, lM]) (by omega), lM]; exact hj); cases em2; rw [Nat.zero_add] at cm2; rw [mix_at (by rw [lLM, lM]) (by rw [lM]; exact hj), hmj.out] at cm2; clear cS) | (clear mM; refine wpList_store_b rfl _ _ rfl gM j true rfl rfl omu.om (by rw [mix_len (by rw [lLM, lM]) (by omega), lM]; exact hj) ?_; intro wv hOv obv; have omv := omu.setM hOv obv; rw [st2.out] at omv; have oWv : OwnI wv wt.heap.size wl.heap.size (.slice aW LV.length cW) LV := oWu.keep fun a a1 a2 => hOv.2.1 a (by omega)) | (fail))
                            have OMV : Hid (Om wb wv b9 gB gS gM es.length (.slice hA H2.length hK) H2 (.slice (some ⟨cb, coff, none⟩) d2.length hM) d2 B1 (mixL (j + 1) LS S) (mixL (j + 1) LM M)) := omv
                            have OWV : Hid (OwnI wv wt.heap.size wl.heap.size (.slice aW LV.length cW) LV) := oWv
                            go_roundw
                            case rel => exact ⟨j + 1, by omega, by go_num, OMV, OWV, by have := hOu.1; have := hOv.1; omega⟩
                            case measure => simp [intOf]; omega
                    · have hj' : ¬ ((j : Int) < (es.length : Int)) := by omega
                      have ej : j = es.length := by omega
                      subst ej
                      have e1 : mixL es.length LS S = LS := by
                        have := mix_full (L := LS) (S := S) (by rw [lLS, lS])
                        rw [lLS] at this
                        exact this
                      have e2 : mixL es.length LM M = LM := by
                        have := mix_full (L := LM) (S := M) (by rw [lLM, lM])
                        rw [lLM] at this
                        exact this
                      rw [e1, e2] at OJ
                      clear e1 e2
                      as_aux_lemma =>
                        have okd : OkH H2 ⟨k, x, y, s, l, e, o, t⟩ := by rw [← hdd.out]; exact ok.out.hands _ (List.getElem_mem hpd)
                        have hpz : 0 ≤ (pk : Int) ∧ (pk : Int) < (d2.length : Int) := by omega
                        have h5' : (d2[pk]).step ≠ 5 := by rw [hdd.out]; exact H5.out
                        obtain ⟨⟨P1, ⟨k9, x9, y9, s9, l9, e9, o9, t9⟩⟩, hMV⟩ := hid_ex (ce.move H2 ⟨k, x, y, s, l, e, o, t⟩)
                        have pH : Hid (pickHZ H2 d2 (pk : Int) = P1) := by unfold Hid pickHZ; rw [dif_pos hpz]; simp only [Int.toNat_natCast]; unfold pickH; rw [if_neg h5', hdd.out, hMV.out]
                        have pD : Hid (pickDZ H2 d2 (pk : Int) = d2.set pk ⟨k9, x9, y9, s9, l9, e9, o9, t9⟩) := by unfold Hid pickDZ; rw [dif_pos hpz]; simp only [Int.toNat_natCast]; unfold pickD; rw [if_neg h5', hdd.out, hMV.out]
                        have KP : Keeps H2 ⟨k, x, y, s, l, e, o, t⟩ P1 ⟨k9, x9, y9, s9, l9, e9, o9, t9⟩ := by have := move_keeps ok.out.heap okd; rw [hMV.out] at this; exact this
                        have LI : Lives H2 ⟨k, x, y, s, l, e, o, t⟩ P1 ⟨k9, x9, y9, s9, l9, e9, o9, t9⟩ := by have := move_lives ok.out.heap okd; rw [hMV.out] at this; exact this
                        have hk9 : k9 = k := KP.kind
                        have hx9 : x9 = x := KP.key
                        have hkr : 1 ≤ k9 ∧ k9 ≤ 3 := KP.hand.kind
                        obtain ⟨P2, hP2⟩ := hid_ex (d2.set pk ⟨k9, x9, y9, s9, l9, e9, o9, t9⟩)
                        obtain ⟨P3, hP3⟩ := hid_ex (pickBZ d2 (pk : Int))
                        obtain ⟨LW, hLW⟩ := hid_ex (living P1)
                        have MN : Hid (Mom P1 P2 B1 LS LM) := by
                          have := mom_pick MO.out pk hpd h5'
                          rw [hdd.out, hMV.out, hB1.out, hLS.out, hLM.out] at this
                          dsimp only at this
                          rw [hP2.out] at this
                          exact this
                        have SAY : Hid (s9 = 5 → (k9 = 1 → t9 ≠ 1 → LS[pk]? = some true) ∧ (k9 = 2 → t9 ≠ 1 → LM[pk]? = some true) ∧ (k9 = 3 → (t9 = 1 → LS[pk]? = some true) ∧ (t9 ≠ 1 → LM[pk]? = some true))) := by
                          intro h9
                          have := mom_says MO.out pk hpd h5' (by rw [hdd.out, hMV.out]; exact h9)
                          rw [hdd.out, hMV.out, hB1.out, hLS.out, hLM.out] at this
                          rw [hk9]
                          exact this
                        have OTH : Hid (∀ a, a ≠ x9 → (a ∈ LW ↔ a ∈ LV)) := by
                          intro a ha
                          rw [← hLW.out, ← hLV.out]
                          exact lives_others LI H5.out a (by rw [← hx9]; exact ha)
                        have YES : Hid (s9 = 5 → t9 = 1 → (k9 = 1 → x9 ∉ LV ∧ x9 ∈ LW) ∧ (k9 = 2 → x9 ∈ LV ∧ x9 ∉ LW)) := by
                          intro h9 ht
                          rw [← hLW.out, ← hLV.out, hk9, hx9]
                          refine ⟨fun q => (LI.yes H5.out h9 ht (by show k ≠ 3; omega)).2.1 q, fun q => (LI.yes H5.out h9 ht (by show k ≠ 3; omega)).2.2 q⟩
                        have NOT : Hid (¬ (s9 = 5 ∧ t9 = 1 ∧ k9 ≠ 3) → LW = LV) := by
                          intro q
                          rw [← hLW.out, ← hLV.out]
                          exact LI.no (fun z => q ⟨z.2.1, z.2.2.1, by rw [hk9]; exact z.2.2.2⟩)
                        have hLL2 : Hid (livingL P1 = LW) := by unfold Hid; rw [← hLW.out]; exact if_pos MN.out.crew.heap
                        have lP2 : Hid (P2.length = es.length) := by unfold Hid; rw [← hP2.out, List.length_set]; exact LN.out
                        have hpP : pk < P2.length := by rw [lP2.out]; omega
                        have hpP' : (pk : Int) < (P2.length : Int) := by omega
                        have EP : Hid (P2[pk] = ⟨k9, x9, y9, s9, l9, e9, o9, t9⟩) := by
                          have e8 := hP2.out
                          subst e8
                          exact List.getElem_set_self _
                        have hb9s := OJ.out.yv.cv.lt
                        clear okd hpz h5' KP LI hk9 hx9
                        have mv1 : Hid True := trivial
                        have mv2 : Hid True := trivial
                        have mv3 : Hid True := trivial
                        have mv4 : Hid True := trivial
                        have mv5 : Hid True := trivial
                        go_wp2_with (first | (go_at_call 25; refine (implPicked_any H2 d2 _ _ ws.heap.size ws (Nat.le_refl _) OJ.out.yv.heap.rd OJ.out.yv.hands.rd _ ok.out).mono ?_; rintro er wp ⟨vH2, vD2, he, oH2, oD2, hBp⟩; rw [hP3.out] at he; subst he; rw [pH.out] at oH2; rw [pD.out, hP2.out] at oD2; have hzp := hBp.size; obtain ⟨A2, K2, rfl⟩ := oH2.rd.form; obtain ⟨D2, M2, rfl⟩ := oD2.rd.form; obtain ⟨db, doff, eD, hdb, -⟩ := oD2.rd.cell pk hpP EP.out; cases eD) | (clear mv1; refine wpList_alloc_v rfl 31 rfl _ zeroCr ?_; intro b21 wq hb21 hwq hBq hVq; have hzq := hBq.size) | (clear mv2; refine wpList_store_v rfl 31 _ _ rfl b21 [.slice A2 P1.length K2, .slice (some ⟨db, doff, none⟩) P2.length M2] rfl rfl sizeCr hVq rfl (by simp [Value.oneCell']) ?_; intro wo hOo hVo; have hzo := Nat.le_of_eq hOo.1.symm; have hyo := Nat.le_of_eq hOo.1; have oH3 : ce.Own wo ws.heap.size wp.heap.size (.slice A2 P1.length K2) P1 := (oH2.below hBq (Nat.le_refl _)).keep fun a a1 a2 => hOo.2.1 a (by omega); have oD3 : OwnH wo ws.heap.size wp.heap.size (.slice (some ⟨db, doff, none⟩) P2.length M2) P2 := (oD2.below hBq (Nat.le_refl _)).keep fun a a1 a2 => hOo.2.1 a (by omega); have cv3 : CV wo b21 31 (.slice A2 P1.length K2) (.slice (some ⟨db, doff, none⟩) P2.length M2) := ⟨hVo⟩; obtain ⟨v30, v31⟩ := cv3.cells; have hBo : Below ws.heap.size ws wo := (hBp.trans (hBq.mono (by omega))).trans (hOo.2.2 _ (by omega))) | (clear mv3; go_at_call 42; refine (specLiving_any P1 _ wp.heap.size _ (by omega) oH3.rd).mono ?_; rintro er wn ⟨vN, rfl, oN, hBn⟩; rw [hLL2.out] at oN; have hzn := hBn.size; obtain ⟨aN, cN, rfl⟩ := oN.rd.form; replace oH3 := oH3.below hBn (by omega); replace oD3 := oD3.below hBn (by omega); replace cv3 := cv3.below hBn (by omega); clear v30 v31; obtain ⟨v30, v31⟩ := cv3.cells; obtain ⟨db2, doff2, eD2, hdb2, q0, q1, q2, q3, q4, q5, q6, q7⟩ := oD3.rd.cell pk hpP EP.out; cases eD2) | (clear mv4; refine wpList_alloc_v rfl 58 rfl _ zeroH ?_; intro b24 wg hb24 hwg hBg hVg; have hzg := hBg.size) | (clear mv5; refine wpList_store_v rfl 58 _ _ rfl b24 (hv ⟨k9, x9, y9, s9, l9, e9, o9, t9⟩) rfl rfl sizeH hVg rfl (hv_one _) ?_; intro wz hOz hVz; have hzz := Nat.le_of_eq hOz.1.symm; have hyz := Nat.le_of_eq hOz.1; have hb24z : HB wz b24 ⟨k9, x9, y9, s9, l9, e9, o9, t9⟩ := ⟨hVz⟩; clear q0 q1 q2 q3 q4 q5 q6 q7; obtain ⟨z0, z1, z2, z3, z4, z5, z6, z7⟩ := hb24z.cells) | (fail))
                        have hBnz : Below wn.heap.size wn wz := hBg.trans (hOz.2.2 _ hb24)
                        have hBz : Below ws.heap.size ws wz := (hBo.trans (hBn.mono (by omega))).trans (hBnz.mono (by omega))
                        have OMZ : Hid (Om wb wz b9 gB gS gM es.length (.slice hA H2.length hK) H2 (.slice (some ⟨cb, coff, none⟩) d2.length hM) d2 B1 LS LM) := OJ.out.below hBz
                        have OWZ : Hid (RdI wz wl.heap.size (.slice aW LV.length cW) LV) := (OWJ.out.below hBz hwls).rd
                        have ONZ : Hid (RdI wz wn.heap.size (.slice aN LW.length cN) LW) := (oN.below hBnz (Nat.le_refl _)).rd
                        have OHZ : Hid (ce.Own wz ws.heap.size wp.heap.size (.slice A2 P1.length K2) P1) := oH3.below hBnz (by omega)
                        have ODZ : Hid (OwnH wz ws.heap.size wp.heap.size (.slice (some ⟨db, doff, none⟩) P2.length M2) P2) := oD3.below hBnz (by omega)
                        have CVZ : Hid (CV wz b21 31 (.slice A2 P1.length K2) (.slice (some ⟨db, doff, none⟩) P2.length M2)) := cv3.below hBnz (by omega)
                        have HBZ : Hid (HB wz b24 ⟨k9, x9, y9, s9, l9, e9, o9, t9⟩) := hb24z
                        have wbs0 : wb.heap.size ≤ ws.heap.size := OJ.out.bel.size
                        have hlV := OWZ.out.len
                        have hlW := ONZ.out.len
                        have swz : ws.heap.size ≤ wz.heap.size ∧ wp.heap.size ≤ wz.heap.size := by omega
                        have b21z := CVZ.out.lt
                        clear z0 z1 z2 z3 z4 z5 z6 z7 v30 v31 oH2 oD2 oH3 oD3 cv3 oN hb24z hVz hOz hVg hBg hBnz hBn hBo hVo hOo hVq hBq hBp c90 c91 OJ OWJ
                        go_loopw [26] (fun v' wu => ∃ j : Nat, j ≤ LV.length ∧ v' = .int .i64 j ∧ wu = wz) (fun v' _ => LV.length - (intOf v').toNat)
                        case atStart => first | exact ⟨0, by omega, rfl, rfl⟩ | exact ⟨0, by omega, rfl, trivial⟩
                        case round =>
                          obtain ⟨j, hj1, rfl, hwu⟩ := hrel
                          obtain rfl : wz = wr := hwu.symm
                          by_cases hj : j < LV.length
                          · have hj' : (j : Int) < (LV.length : Int) := by omega
                            obtain ⟨bw, ow, eW, hbw, gw⟩ := OWZ.out.cell j hj
                            cases eW
                            obtain ⟨av, hav⟩ := hid_ex (LV[j])
                            rw [hav.out] at gw
                            by_cases ha : av = x9
                            · have ga : (av != x9) = false := by simp [ha]
                              clear ha
                              as_aux_lemma =>
                                go_wp2
                                go_roundw
                                case rel => first | exact ⟨j + 1, by omega, by go_num, rfl⟩ | exact ⟨j + 1, by omega, by go_num, trivial⟩
                                case measure => simp [intOf]; omega
                            · have ga : (av != x9) = true := by simp [ha]
                              have HH : Hid (decide (av ∈ LW) = true) := decide_eq_true ((OTH.out av ha).2 (by rw [← hav.out]; exact List.getElem_mem hj))
                              clear ha
                              as_aux_lemma =>
                                go_wp2_with (first | (go_at_call 43; refine (hasInt_any LW av _ _ _ ONZ.out).mono ?_; rintro er wq ⟨he, hq⟩; subst wq; rw [HH.out] at he; subst he) | (fail))
                                go_roundw
                                case rel => first | exact ⟨j + 1, by omega, by go_num, rfl⟩ | exact ⟨j + 1, by omega, by go_num, trivial⟩
                                case measure => simp [intOf]; omega
                          · have hj' : ¬ ((j : Int) < (LV.length : Int)) := by omega
                            clear hj hj1
                            as_aux_lemma =>
                              go_wp2
                              go_loopw [27] (fun v' wu => ∃ j : Nat, j ≤ LW.length ∧ v' = .int .i64 j ∧ wu = wz) (fun v' _ => LW.length - (intOf v').toNat)
                              case atStart => first | exact ⟨0, by omega, rfl, rfl⟩ | exact ⟨0, by omega, rfl, trivial⟩
                              case round =>
                                obtain ⟨j, hj1, rfl, hwu⟩ := hrel
                                obtain rfl : wz = wr := hwu.symm
                                by_cases hj : j < LW.length
                                · have hj' : (j : Int) < (LW.length : Int) := by omega
                                  obtain ⟨bw, ow, eW, hbw, gw⟩ := ONZ.out.cell j hj
                                  cases eW
                                  obtain ⟨av, hav⟩ := hid_ex (LW[j])
                                  rw [hav.out] at gw
                                  by_cases ha : av = x9
                                  · have ga : (av != x9) = false := by simp [ha]
                                    clear ha
                                    as_aux_lemma =>
                                      go_wp2
                                      go_roundw
                                      case rel => first | exact ⟨j + 1, by omega, by go_num, rfl⟩ | exact ⟨j + 1, by omega, by go_num, trivial⟩
                                      case measure => simp [intOf]; omega
                                  · have ga : (av != x9) = true := by simp [ha]
                                    have HH : Hid (decide (av ∈ LV) = true) := decide_eq_true ((OTH.out av ha).1 (by rw [← hav.out]; exact List.getElem_mem hj))
                                    clear ha
                                    as_aux_lemma =>
                                      go_wp2_with (first | (go_at_call 43; refine (hasInt_any LV av _ _ _ OWZ.out).mono ?_; rintro er wq ⟨he, hq⟩; subst wq; rw [HH.out] at he; subst he) | (fail))
                                      go_roundw
                                      case rel => first | exact ⟨j + 1, by omega, by go_num, rfl⟩ | exact ⟨j + 1, by omega, by go_num, trivial⟩
                                      case measure => simp [intOf]; omega
                                · have hj' : ¬ ((j : Int) < (LW.length : Int)) := by omega
                                  clear hj hj1
                                  as_aux_lemma =>
                                    have KB : Hid (crewB P1 P2 = true) := crewB_true MN.out.crew
                                    obtain ⟨v30, v31⟩ := CVZ.out.cells
                                    obtain ⟨z0, z1, z2, z3, z4, z5, z6, z7⟩ := HBZ.out.cells
                                    have hpl : pk < LS.length := by rw [lLS]; omega
                                    have hpm : pk < LM.length := by rw [lLM]; omega
                                    obtain ⟨bs1, so1, es1', hbs1, cS⟩ := OMZ.out.os.rd.cell pk hpl
                                    cases es1'
                                    obtain ⟨bm1, mo1, em1', hbm1, cM⟩ := OMZ.out.om.rd.cell pk hpm
                                    cases em1'
                                    rw [Nat.zero_add] at cS cM
                                    have LSv : ∀ b, LS[pk]? = some b → LS[pk] = b := fun b q => by rw [List.getElem?_eq_getElem hpl] at q; exact Option.some.inj q
                                    have LMv : ∀ b, LM[pk]? = some b → LM[pk] = b := fun b q => by rw [List.getElem?_eq_getElem hpm] at q; exact Option.some.inj q
                                    have wbs : wb.heap.size ≤ ws.heap.size := wbs0
                                    have n1 : Hid True := trivial
                                    have n2 : Hid True := trivial
                                    clear z1 z2 z4 z5 z6
                                    obtain ⟨w1b, hw1⟩ := hid_ex (decide (x9 ∈ LV))
                                    obtain ⟨w2b, hw2⟩ := hid_ex (decide (x9 ∈ LW))
                                    have SAY' := SAY.out
                                    have YES' := YES.out
                                    have NOT' := NOT.out
                                    by_cases f1 : s9 = 5
                                    case neg =>
                                      have g1 : (s9 == 5) = false := by simp [f1]
                                      have eW : w2b = w1b := by rw [← hw1.out, ← hw2.out, NOT.out (fun z => f1 z.1)]
                                      subst eW
                                      have hww : (w2b != w2b) = false := by simp
                                      clear f1
                                      as_aux_lemma =>
                                        clear SAY' YES' NOT' LSv LMv SAY YES NOT OTH
                                        go_wp2_with (first | (clear n1; go_at_call 43; refine (hasInt_any LV x9 _ _ _ OWZ.out).mono ?_; rintro er wq ⟨he, hq⟩; subst wq; rw [hw1.out] at he; subst he) | (clear n2; go_at_call 43; refine (hasInt_any LW x9 _ _ _ ONZ.out).mono ?_; rintro er wq ⟨he, hq⟩; subst wq; rw [hw2.out] at he; subst he) | (go_at_call 12; refine (specCrewOk_any P1 P2 _ _ wp.heap.size _ (by omega) OHZ.out.rd ODZ.out.rd).mono ?_; rintro er wK ⟨he, hBK⟩; rw [KB.out] at he; subst he; have hzK := hBK.size; have cvK := CVZ.out.below hBK (by omega); clear v30 v31; obtain ⟨v30, v31⟩ := cvK.cells; have omK := OMZ.out.below hBK; have oHK : ce.Own wK wb.heap.size wK.heap.size (.slice A2 P1.length K2) P1 := (OHZ.out.below hBK (by omega)).wide wbs (by omega); have oDK : OwnH wK wb.heap.size wK.heap.size (.slice (some ⟨db, doff, none⟩) P2.length M2) P2 := (ODZ.out.below hBK (by omega)).wide wbs (by omega)) | (refine wpList_store_v rfl 31 _ _ rfl b9 [.slice A2 P1.length K2, .slice (some ⟨db, doff, none⟩) P2.length M2] rfl rfl sizeCr omK.yv.cv.blk rfl (by simp [Value.oneCell']) ?_; intro wy hOy hVy) | (fail))
                                        have yy : Yv wb wy b9 (.slice A2 P1.length K2) P1 (.slice (some ⟨db, doff, none⟩) P2.length M2) P2 := yv_stored oHK oDK (Nat.le_refl _) omK.yv.cv.blk hOy hVy
                                        have OMY : Hid (Om wb wy b9 gB gS gM es.length (.slice A2 P1.length K2) P1 (.slice (some ⟨db, doff, none⟩) P2.length M2) P2 B1 LS LM) := omK.setY hOy yy lP2.out
                                        exact ⟨⟨⟨i + 1, _, _, P1, P2, B1, LS, LM, by omega, OMY, MN, (by kernel_rfl), rfl⟩⟩, mu_lt i (by kernel_rfl) (by kernel_rfl) hlt⟩
                                    have g1 : (s9 == 5) = true := by simp [f1]
                                    rcases (by omega : k9 = 1 ∨ k9 = 2 ∨ k9 = 3) with fk | fk | fk <;> by_cases ft : t9 = 1
                                    · have yy := (YES' f1 ft).1 fk
                                      obtain rfl : w1b = false := by rw [← hw1.out]; exact decide_eq_false yy.1
                                      obtain rfl : w2b = true := by rw [← hw2.out]; exact decide_eq_true yy.2
                                      clear yy
                                      have gk1 : (k9 == 1) = true := by simp [fk]
                                      have gk2 : (k9 == 2) = false := by simp [fk]
                                      have gk3 : (k9 == 3) = false := by simp [fk]
                                      have gt : (t9 == 1) = true := by simp [ft]
                                      clear fk ft f1
                                      as_aux_lemma =>
                                        clear SAY' YES' NOT' LSv LMv SAY YES NOT OTH
                                        go_wp2_with (first | (clear n1; go_at_call 43; refine (hasInt_any LV x9 _ _ _ OWZ.out).mono ?_; rintro er wq ⟨he, hq⟩; subst wq; rw [hw1.out] at he; subst he) | (clear n2; go_at_call 43; refine (hasInt_any LW x9 _ _ _ ONZ.out).mono ?_; rintro er wq ⟨he, hq⟩; subst wq; rw [hw2.out] at he; subst he) | (go_at_call 12; refine (specCrewOk_any P1 P2 _ _ wp.heap.size _ (by omega) OHZ.out.rd ODZ.out.rd).mono ?_; rintro er wK ⟨he, hBK⟩; rw [KB.out] at he; subst he; have hzK := hBK.size; have cvK := CVZ.out.below hBK (by omega); clear v30 v31; obtain ⟨v30, v31⟩ := cvK.cells; have omK := OMZ.out.below hBK; have oHK : ce.Own wK wb.heap.size wK.heap.size (.slice A2 P1.length K2) P1 := (OHZ.out.below hBK (by omega)).wide wbs (by omega); have oDK : OwnH wK wb.heap.size wK.heap.size (.slice (some ⟨db, doff, none⟩) P2.length M2) P2 := (ODZ.out.below hBK (by omega)).wide wbs (by omega)) | (refine wpList_store_v rfl 31 _ _ rfl b9 [.slice A2 P1.length K2, .slice (some ⟨db, doff, none⟩) P2.length M2] rfl rfl sizeCr omK.yv.cv.blk rfl (by simp [Value.oneCell']) ?_; intro wy hOy hVy) | (fail))
                                        have yy : Yv wb wy b9 (.slice A2 P1.length K2) P1 (.slice (some ⟨db, doff, none⟩) P2.length M2) P2 := yv_stored oHK oDK (Nat.le_refl _) omK.yv.cv.blk hOy hVy
                                        have OMY : Hid (Om wb wy b9 gB gS gM es.length (.slice A2 P1.length K2) P1 (.slice (some ⟨db, doff, none⟩) P2.length M2) P2 B1 LS LM) := omK.setY hOy yy lP2.out
                                        exact ⟨⟨⟨i + 1, _, _, P1, P2, B1, LS, LM, by omega, OMY, MN, (by kernel_rfl), rfl⟩⟩, mu_lt i (by kernel_rfl) (by kernel_rfl) hlt⟩
                                    · have ev := LSv true ((SAY' f1).1 fk ft)
                                      rw [ev] at cS
                                      have eW : w2b = w1b := by rw [← hw1.out, ← hw2.out, NOT.out (fun z => ft z.2.1)]
                                      subst eW
                                      have hww : (w2b != w2b) = false := by simp
                                      have gk1 : (k9 == 1) = true := by simp [fk]
                                      have gk2 : (k9 == 2) = false := by simp [fk]
                                      have gk3 : (k9 == 3) = false := by simp [fk]
                                      have gt : (t9 == 1) = false := by simp [ft]
                                      clear ev
                                      clear fk ft f1
                                      as_aux_lemma =>
                                        clear SAY' YES' NOT' LSv LMv SAY YES NOT OTH
                                        go_wp2_with (first | (clear n1; go_at_call 43; refine (hasInt_any LV x9 _ _ _ OWZ.out).mono ?_; rintro er wq ⟨he, hq⟩; subst wq; rw [hw1.out] at he; subst he) | (clear n2; go_at_call 43; refine (hasInt_any LW x9 _ _ _ ONZ.out).mono ?_; rintro er wq ⟨he, hq⟩; subst wq; rw [hw2.out] at he; subst he) | (go_at_call 12; refine (specCrewOk_any P1 P2 _ _ wp.heap.size _ (by omega) OHZ.out.rd ODZ.out.rd).mono ?_; rintro er wK ⟨he, hBK⟩; rw [KB.out] at he; subst he; have hzK := hBK.size; have cvK := CVZ.out.below hBK (by omega); clear v30 v31; obtain ⟨v30, v31⟩ := cvK.cells; have omK := OMZ.out.below hBK; have oHK : ce.Own wK wb.heap.size wK.heap.size (.slice A2 P1.length K2) P1 := (OHZ.out.below hBK (by omega)).wide wbs (by omega); have oDK : OwnH wK wb.heap.size wK.heap.size (.slice (some ⟨db, doff, none⟩) P2.length M2) P2 := (ODZ.out.below hBK (by omega)).wide wbs (by omega)) | (refine wpList_store_v rfl 31 _ _ rfl b9 [.slice A2 P1.length K2, .slice (some ⟨db, doff, none⟩) P2.length M2] rfl rfl sizeCr omK.yv.cv.blk rfl (by simp [Value.oneCell']) ?_; intro wy hOy hVy) | (fail))
                                        have yy : Yv wb wy b9 (.slice A2 P1.length K2) P1 (.slice (some ⟨db, doff, none⟩) P2.length M2) P2 := yv_stored oHK oDK (Nat.le_refl _) omK.yv.cv.blk hOy hVy
                                        have OMY : Hid (Om wb wy b9 gB gS gM es.length (.slice A2 P1.length K2) P1 (.slice (some ⟨db, doff, none⟩) P2.length M2) P2 B1 LS LM) := omK.setY hOy yy lP2.out
                                        exact ⟨⟨⟨i + 1, _, _, P1, P2, B1, LS, LM, by omega, OMY, MN, (by kernel_rfl), rfl⟩⟩, mu_lt i (by kernel_rfl) (by kernel_rfl) hlt⟩
                                    · have yy := (YES' f1 ft).2 fk
                                      obtain rfl : w1b = true := by rw [← hw1.out]; exact decide_eq_true yy.1
                                      obtain rfl : w2b = false := by rw [← hw2.out]; exact decide_eq_false yy.2
                                      clear yy
                                      have gk1 : (k9 == 1) = false := by simp [fk]
                                      have gk2 : (k9 == 2) = true := by simp [fk]
                                      have gk3 : (k9 == 3) = false := by simp [fk]
                                      have gt : (t9 == 1) = true := by simp [ft]
                                      clear fk ft f1
                                      as_aux_lemma =>
                                        clear SAY' YES' NOT' LSv LMv SAY YES NOT OTH
                                        go_wp2_with (first | (clear n1; go_at_call 43; refine (hasInt_any LV x9 _ _ _ OWZ.out).mono ?_; rintro er wq ⟨he, hq⟩; subst wq; rw [hw1.out] at he; subst he) | (clear n2; go_at_call 43; refine (hasInt_any LW x9 _ _ _ ONZ.out).mono ?_; rintro er wq ⟨he, hq⟩; subst wq; rw [hw2.out] at he; subst he) | (go_at_call 12; refine (specCrewOk_any P1 P2 _ _ wp.heap.size _ (by omega) OHZ.out.rd ODZ.out.rd).mono ?_; rintro er wK ⟨he, hBK⟩; rw [KB.out] at he; subst he; have hzK := hBK.size; have cvK := CVZ.out.below hBK (by omega); clear v30 v31; obtain ⟨v30, v31⟩ := cvK.cells; have omK := OMZ.out.below hBK; have oHK : ce.Own wK wb.heap.size wK.heap.size (.slice A2 P1.length K2) P1 := (OHZ.out.below hBK (by omega)).wide wbs (by omega); have oDK : OwnH wK wb.heap.size wK.heap.size (.slice (some ⟨db, doff, none⟩) P2.length M2) P2 := (ODZ.out.below hBK (by omega)).wide wbs (by omega)) | (refine wpList_store_v rfl 31 _ _ rfl b9 [.slice A2 P1.length K2, .slice (some ⟨db, doff, none⟩) P2.length M2] rfl rfl sizeCr omK.yv.cv.blk rfl (by simp [Value.oneCell']) ?_; intro wy hOy hVy) | (fail))
                                        have yy : Yv wb wy b9 (.slice A2 P1.length K2) P1 (.slice (some ⟨db, doff, none⟩) P2.length M2) P2 := yv_stored oHK oDK (Nat.le_refl _) omK.yv.cv.blk hOy hVy
                                        have OMY : Hid (Om wb wy b9 gB gS gM es.length (.slice A2 P1.length K2) P1 (.slice (some ⟨db, doff, none⟩) P2.length M2) P2 B1 LS LM) := omK.setY hOy yy lP2.out
                                        exact ⟨⟨⟨i + 1, _, _, P1, P2, B1, LS, LM, by omega, OMY, MN, (by kernel_rfl), rfl⟩⟩, mu_lt i (by kernel_rfl) (by kernel_rfl) hlt⟩
                                    · have ev := LMv true ((SAY' f1).2.1 fk ft)
                                      rw [ev] at cM
                                      have eW : w2b = w1b := by rw [← hw1.out, ← hw2.out, NOT.out (fun z => ft z.2.1)]
                                      subst eW
                                      have hww : (w2b != w2b) = false := by simp
                                      have gk1 : (k9 == 1) = false := by simp [fk]
                                      have gk2 : (k9 == 2) = true := by simp [fk]
                                      have gk3 : (k9 == 3) = false := by simp [fk]
                                      have gt : (t9 == 1) = false := by simp [ft]
                                      clear ev
                                      clear fk ft f1
                                      as_aux_lemma =>
                                        clear SAY' YES' NOT' LSv LMv SAY YES NOT OTH
                                        go_wp2_with (first | (clear n1; go_at_call 43; refine (hasInt_any LV x9 _ _ _ OWZ.out).mono ?_; rintro er wq ⟨he, hq⟩; subst wq; rw [hw1.out] at he; subst he) | (clear n2; go_at_call 43; refine (hasInt_any LW x9 _ _ _ ONZ.out).mono ?_; rintro er wq ⟨he, hq⟩; subst wq; rw [hw2.out] at he; subst he) | (go_at_call 12; refine (specCrewOk_any P1 P2 _ _ wp.heap.size _ (by omega) OHZ.out.rd ODZ.out.rd).mono ?_; rintro er wK ⟨he, hBK⟩; rw [KB.out] at he; subst he; have hzK := hBK.size; have cvK := CVZ.out.below hBK (by omega); clear v30 v31; obtain ⟨v30, v31⟩ := cvK.cells; have omK := OMZ.out.below hBK; have oHK : ce.Own wK wb.heap.size wK.heap.size (.slice A2 P1.length K2) P1 := (OHZ.out.below hBK (by omega)).wide wbs (by omega); have oDK : OwnH wK wb.heap.size wK.heap.size (.slice (some ⟨db, doff, none⟩) P2.length M2) P2 := (ODZ.out.below hBK (by omega)).wide wbs (by omega)) | (refine wpList_store_v rfl 31 _ _ rfl b9 [.slice A2 P1.length K2, .slice (some ⟨db, doff, none⟩) P2.length M2] rfl rfl sizeCr omK.yv.cv.blk rfl (by simp [Value.oneCell']) ?_; intro wy hOy hVy) | (fail))
                                        have yy : Yv wb wy b9 (.slice A2 P1.length K2) P1 (.slice (some ⟨db, doff, none⟩) P2.length M2) P2 := yv_stored oHK oDK (Nat.le_refl _) omK.yv.cv.blk hOy hVy
                                        have OMY : Hid (Om wb wy b9 gB gS gM es.length (.slice A2 P1.length K2) P1 (.slice (some ⟨db, doff, none⟩) P2.length M2) P2 B1 LS LM) := omK.setY hOy yy lP2.out
                                        exact ⟨⟨⟨i + 1, _, _, P1, P2, B1, LS, LM, by omega, OMY, MN, (by kernel_rfl), rfl⟩⟩, mu_lt i (by kernel_rfl) (by kernel_rfl) hlt⟩
                                    · have ev := LSv true (((SAY' f1).2.2 fk).1 ft)
                                      rw [ev] at cS
                                      have eW : w2b = w1b := by rw [← hw1.out, ← hw2.out, NOT.out (fun z => z.2.2 fk)]
                                      subst eW
                                      have hww : (w2b != w2b) = false := by simp
                                      have gk1 : (k9 == 1) = false := by simp [fk]
                                      have gk2 : (k9 == 2) = false := by simp [fk]
                                      have gk3 : (k9 == 3) = true := by simp [fk]
                                      have gt : (t9 == 1) = true := by simp [ft]
                                      clear ev
                                      clear fk ft f1
                                      as_aux_lemma =>
                                        clear SAY' YES' NOT' LSv LMv SAY YES NOT OTH
                                        go_wp2_with (first | (clear n1; go_at_call 43; refine (hasInt_any LV x9 _ _ _ OWZ.out).mono ?_; rintro er wq ⟨he, hq⟩; subst wq; rw [hw1.out] at he; subst he) | (clear n2; go_at_call 43; refine (hasInt_any LW x9 _ _ _ ONZ.out).mono ?_; rintro er wq ⟨he, hq⟩; subst wq; rw [hw2.out] at he; subst he) | (go_at_call 12; refine (specCrewOk_any P1 P2 _ _ wp.heap.size _ (by omega) OHZ.out.rd ODZ.out.rd).mono ?_; rintro er wK ⟨he, hBK⟩; rw [KB.out] at he; subst he; have hzK := hBK.size; have cvK := CVZ.out.below hBK (by omega); clear v30 v31; obtain ⟨v30, v31⟩ := cvK.cells; have omK := OMZ.out.below hBK; have oHK : ce.Own wK wb.heap.size wK.heap.size (.slice A2 P1.length K2) P1 := (OHZ.out.below hBK (by omega)).wide wbs (by omega); have oDK : OwnH wK wb.heap.size wK.heap.size (.slice (some ⟨db, doff, none⟩) P2.length M2) P2 := (ODZ.out.below hBK (by omega)).wide wbs (by omega)) | (refine wpList_store_v rfl 31 _ _ rfl b9 [.slice A2 P1.length K2, .slice (some ⟨db, doff, none⟩) P2.length M2] rfl rfl sizeCr omK.yv.cv.blk rfl (by simp [Value.oneCell']) ?_; intro wy hOy hVy) | (fail))
                                        have yy : Yv wb wy b9 (.slice A2 P1.length K2) P1 (.slice (some ⟨db, doff, none⟩) P2.length M2) P2 := yv_stored oHK oDK (Nat.le_refl _) omK.yv.cv.blk hOy hVy
                                        have OMY : Hid (Om wb wy b9 gB gS gM es.length (.slice A2 P1.length K2) P1 (.slice (some ⟨db, doff, none⟩) P2.length M2) P2 B1 LS LM) := omK.setY hOy yy lP2.out
                                        exact ⟨⟨⟨i + 1, _, _, P1, P2, B1, LS, LM, by omega, OMY, MN, (by kernel_rfl), rfl⟩⟩, mu_lt i (by kernel_rfl) (by kernel_rfl) hlt⟩
                                    · have ev := LMv true (((SAY' f1).2.2 fk).2 ft)
                                      rw [ev] at cM
                                      have eW : w2b = w1b := by rw [← hw1.out, ← hw2.out, NOT.out (fun z => ft z.2.1)]
                                      subst eW
                                      have hww : (w2b != w2b) = false := by simp
                                      have gk1 : (k9 == 1) = false := by simp [fk]
                                      have gk2 : (k9 == 2) = false := by simp [fk]
                                      have gk3 : (k9 == 3) = true := by simp [fk]
                                      have gt : (t9 == 1) = false := by simp [ft]
                                      clear ev
                                      clear fk ft f1
                                      as_aux_lemma =>
                                        clear SAY' YES' NOT' LSv LMv SAY YES NOT OTH
                                        go_wp2_with (first | (clear n1; go_at_call 43; refine (hasInt_any LV x9 _ _ _ OWZ.out).mono ?_; rintro er wq ⟨he, hq⟩; subst wq; rw [hw1.out] at he; subst he) | (clear n2; go_at_call 43; refine (hasInt_any LW x9 _ _ _ ONZ.out).mono ?_; rintro er wq ⟨he, hq⟩; subst wq; rw [hw2.out] at he; subst he) | (go_at_call 12; refine (specCrewOk_any P1 P2 _ _ wp.heap.size _ (by omega) OHZ.out.rd ODZ.out.rd).mono ?_; rintro er wK ⟨he, hBK⟩; rw [KB.out] at he; subst he; have hzK := hBK.size; have cvK := CVZ.out.below hBK (by omega); clear v30 v31; obtain ⟨v30, v31⟩ := cvK.cells; have omK := OMZ.out.below hBK; have oHK : ce.Own wK wb.heap.size wK.heap.size (.slice A2 P1.length K2) P1 := (OHZ.out.below hBK (by omega)).wide wbs (by omega); have oDK : OwnH wK wb.heap.size wK.heap.size (.slice (some ⟨db, doff, none⟩) P2.length M2) P2 := (ODZ.out.below hBK (by omega)).wide wbs (by omega)) | (refine wpList_store_v rfl 31 _ _ rfl b9 [.slice A2 P1.length K2, .slice (some ⟨db, doff, none⟩) P2.length M2] rfl rfl sizeCr omK.yv.cv.blk rfl (by simp [Value.oneCell']) ?_; intro wy hOy hVy) | (fail))
                                        have yy : Yv wb wy b9 (.slice A2 P1.length K2) P1 (.slice (some ⟨db, doff, none⟩) P2.length M2) P2 := yv_stored oHK oDK (Nat.le_refl _) omK.yv.cv.blk hOy hVy
                                        have OMY : Hid (Om wb wy b9 gB gS gM es.length (.slice A2 P1.length K2) P1 (.slice (some ⟨db, doff, none⟩) P2.length M2) P2 B1 LS LM) := omK.setY hOy yy lP2.out
                                        exact ⟨⟨⟨i + 1, _, _, P1, P2, B1, LS, LM, by omega, OMY, MN, (by kernel_rfl), rfl⟩⟩, mu_lt i (by kernel_rfl) (by kernel_rfl) hlt⟩
            · have hlt' : ¬ ((i : Int) < (qs.length : Int)) := by omega
              go_wp2
              go_ret
              exact ⟨rfl, HBB.out.trans (OM.out.bel.mono sq.2)⟩
end Go.Proofs.Ythjkhghlhjndmaa.lawOm
