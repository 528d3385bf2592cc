/- The walk of the law FnCounted. -/
import Derived.Test.YtgdoclaifnnpgaaLawSk
import Derived.Test.YtgdoclaifnnpgaaPick1
namespace Go.Proofs.Ytgdoclaifnnpgaa.lawCnt
open Go.ChangeShapes Go.WideShapes Go.ChangeAt Go.RowKit
open Go.Proofs.Ytgdoclaifnnpgaa.sk Go.Proofs.Ytgdoclaifnnpgaa.draw Go.Proofs.Ytgdoclaifnnpgaa.lawSk
set_option linter.unusedVariables false

/-- the sketch under way, the names, and how often each was added -/
structure Cn (w : World) (lo hi b7 bn bc : Nat) (x : Value) (m : Int) (X : List (List Int)) (cs : List Int) : Prop where
  xv : VBlk w b7 27 [x, .int .i64 m]
  nm : VBlk w bn 9 (names.map Value.string)
  ct : Blk w bc 2 cs
  rx : Rd w lo hi x X
  hh : hi ≤ w.heap.size
  lb : bc < lo
  l7 : b7 < lo ∨ hi ≤ b7
theorem Cn.below {w w' : World} {lo hi b7 bn bc : Nat} {x : Value} {m : Int} {X : List (List Int)} {cs : List Int} (h : Cn w lo hi b7 bn bc x m X cs) (hB : Below w.heap.size w w') : Cn w' lo hi b7 bn bc x m X cs :=
  ⟨h.xv.below hB h.xv.lt, h.nm.below hB h.nm.lt, h.ct.below hB h.ct.lt, h.rx.below hB h.hh, Nat.le_trans h.hh hB.size, h.lb, h.l7⟩
theorem Cn.drew {w : World} {lo hi b7 bn bc : Nat} {x : Value} {m : Int} {X : List (List Int)} {cs : List Int} (h : Cn w lo hi b7 bn bc x m X cs) : Cn w.drew lo hi b7 bn bc x m X cs :=
  ⟨h.xv, h.nm, h.ct, h.rx.keep (fun _ _ _ => rfl), h.hh, h.lb, h.l7⟩
theorem Cn.cells {w : World} {lo hi b7 bn bc : Nat} {x : Value} {m : Int} {X : List (List Int)} {cs : List Int} (h : Cn w lo hi b7 bn bc x m X cs) (k : Nat) (hk : k < names.length) :
    w.cell? ⟨b7, 0, none⟩ = some x ∧ w.cell? ⟨b7, 1, none⟩ = some (.int .i64 m) ∧ w.cell? ⟨bn, k, none⟩ = some (.string names[k]) := by
  have c0 := h.xv.cell 0 (by simp)
  have c1 := h.xv.cell 1 (by simp)
  have c2 := h.nm.cell k (by rw [List.length_map]; exact hk)
  rw [List.getElem_map] at c2
  exact ⟨c0, c1, c2⟩
/-- the sketch is stored anew -/
theorem Cn.store {w w' : World} {lo hi b7 bn bc : Nat} {x x' : Value} {m m' : Int} {X X' : List (List Int)} {cs : List Int} (h : Cn w lo hi b7 bn bc x m X cs) (hB : Below w.heap.size w w') (ho : Own w' w.heap.size w'.heap.size x' X') (n1 : b7 ≠ bn) (n2 : b7 ≠ bc) :
    Cn ((w'.setCell ⟨b7, 0, none⟩ x').setCell ⟨b7, 1, none⟩ (.int .i64 m')) w.heap.size w'.heap.size b7 bn bc x' m' X' cs := by
  have k := h.below hB
  have hz : ∀ j, j ≠ b7 → ((w'.setCell ⟨b7, 0, none⟩ x').setCell ⟨b7, 1, none⟩ (.int .i64 m')).heap[j]? = w'.heap[j]? := fun j hj => by rw [heap_setCell_other _ _ _ _ hj, heap_setCell_other _ _ _ _ hj]
  have l1 := h.xv.lt
  have l2 := h.ct.lt
  exact ⟨(k.xv.set 0 _).set 1 _, k.nm.of (hz _ (fun e => n1 e.symm)), k.ct.of (hz _ (fun e => n2 e.symm)), ho.rd.keep (fun j g1 g2 => hz j (by omega)), by simp, l2, .inl l1⟩
/-- one count is raised -/
theorem Cn.count {w : World} {lo hi b7 bn bc : Nat} {x : Value} {m : Int} {X : List (List Int)} {cs : List Int} (h : Cn w lo hi b7 bn bc x m X cs) (k : Nat) (y : Int) (n1 : bc ≠ bn) (n2 : b7 ≠ bc) :
    Cn (w.setCell ⟨bc, k, none⟩ (.int .i64 y)) lo hi b7 bn bc x m X (cs.set k y) := by
  have hz : ∀ j, j ≠ bc → (w.setCell ⟨bc, k, none⟩ (.int .i64 y)).heap[j]? = w.heap[j]? := fun j hj => heap_setCell_other _ _ _ _ hj
  have l2 := h.lb
  exact ⟨h.xv.of (hz _ n2), h.nm.of (hz _ (fun e => n1 e.symm)), h.ct.set k y, h.rx.keep (fun j g1 g2 => hz j (by omega)), by simpa using h.hh, h.lb, h.l7⟩

/-- each name is told at least as often as it was added, up to 15 -/
def Told (cs : List Int) (i : Nat) (X : List (List Int)) : Prop :=
  cs.length = 8 ∧ (∀ c ∈ cs, 0 ≤ c ∧ c ≤ i) ∧ ∀ k (h : k < cs.length) (h' : k < names.length), min 15 cs[k] ≤ estN names[k] X 4
theorem told_zero (X : List (List Int)) (h4 : Four X) (hs : Small X) : Told (List.replicate 8 0) 0 X := by
  refine ⟨by simp, fun c hc => ?_, fun k h h' => ?_⟩
  · have := List.eq_of_mem_replicate hc; omega
  · have := est_bd h4 hs names[k]
    simp only [List.getElem_replicate]
    omega
theorem Told.add {cs : List Int} {i : Nat} {X : List (List Int)} (h : Told cs i X) (h4 : Four X) (hs : Small X) (k : Nat) (hk : k < cs.length) (hk' : k < names.length) :
    Told (cs.set k (cs[k] + 1)) (i + 1) (addR names[k] X) := by
  obtain ⟨h1, h2, h3⟩ := h
  refine ⟨by simp [h1], fun c hc => ?_, fun j hj hj' => ?_⟩
  · rcases List.mem_or_eq_of_mem_set hc with g | g
    · have := h2 c g; omega
    · have := h2 _ (List.getElem_mem hk); omega
  · have hj1 : j < cs.length := by simpa using hj
    obtain ⟨a, b⟩ := est_add h4 hs names[k] names[j]
    have h0 := h3 j hj1 hj'
    rw [List.getElem_set]
    split
    · rename_i e
      subst e
      have := b rfl
      omega
    · omega

set_option maxRecDepth 100000 in
set_option maxHeartbeats 4000000 in
theorem walk (a0 : Option Addr) (len cap : Nat) (w : World) (hl : len ≤ 4096) (hcode : CodeAt w a0 len) :
    Calls Try.prog 9 #[.slice a0 len cap] w fun e w' => e = .returned (.bool true) ∧ Below w.heap.size w w' := by
  have hC : Hid (CodeAt w a0 len) := hcode
  clear hcode
  have hl' : ¬ (4096 : Int) < (len : Int) := by omega
  go_enter Try.func9, Try.ntmps9
  go_upto_region 4 with (first | (go_at_call 25; go_in) | (go_at_call 29; refine (drawEstimate_any _ _ _ _ hC.out).mono ?_; rintro e w1 ⟨v, adds, R, s, rfl, hs, hrd, hB1⟩; obtain ⟨va, vn, vc, rfl⟩ := hrd.form) | (refine wpList_alloc_v rfl 27 rfl _ zero27 ?_; intro b3 w2 hb3 hw2 hB2 hV2) | (refine wpList_store_v rfl 27 _ _ rfl b3 [.slice va vn vc, .int .i64 adds] rfl rfl size27 hV2 rfl (by simp [Value.oneCell']) ?_; intro w3 hO3 hV3) | (fail))
  have h1 := hB1.size
  have h2 := hB2.size
  have h3 := hO3.1
  have hB3 : Below w.heap.size w w3 := (hB1.trans (hB2.mono h1)).trans (hO3.2.2 _ (by omega))
  have hT3 : Hid (Two w3 w3.heap.size b3 b3 (.slice va vn vc) (.slice va vn vc) adds adds R R) := ⟨Nat.le_refl _, hV3, hV3, by omega, by omega, ((hrd.below hB2 (Nat.le_refl _)).below (hO3.2.2 w1.heap.size hb3) (Nat.le_refl _)).wide (by omega) (by omega), ((hrd.below hB2 (Nat.le_refl _)).below (hO3.2.2 w1.heap.size hb3) (Nat.le_refl _)).wide (by omega) (by omega)⟩
  obtain ⟨c0, c1, -, -⟩ := hT3.out.cells
  have hneE : (estA R adds s != estA R adds s) = false := by simp
  have hS3 : w3.cell? ⟨b3, 0, none⟩ = some (.slice va vn vc) ∧ w3.cell? ⟨b3, 1, none⟩ = some (.int .i64 adds) := ⟨c0, c1⟩
  clear hrd hV2 hV3 hO3 hB1 hB2 h1 h2 h3 hb3 hw2
  go_region_held3 (fun w' => w'.cell? ⟨b3, 0, none⟩ = some (.slice va vn vc) ∧ w'.cell? ⟨b3, 1, none⟩ = some (.int .i64 adds)) (assumption) (first | (go_at_call 24; refine (implEstimate_any R adds s (by omega) _ _ w3.heap.size hT3.out.drew.hH hT3.out.drew.rs).mono ?_; rintro e wA ⟨rfl, hBA⟩; have hTA : Hid _ := hT3.out.drew.below hBA; obtain ⟨d0, d1, -, -⟩ := hTA.out.cells; have hSA : wA.cell? ⟨b3, 0, none⟩ = some (.slice va vn vc) ∧ wA.cell? ⟨b3, 1, none⟩ = some (.int .i64 adds) := ⟨d0, d1⟩) | (go_at_call 23; refine (specEstimate_any R adds s (by omega) _ _ w3.heap.size hTA.out.hH hTA.out.rs).mono ?_; rintro e wB ⟨rfl, hBB⟩; have hTB : Hid _ := hTA.out.below hBB; obtain ⟨f0, f1, -, -⟩ := hTB.out.cells; have hSB : wB.cell? ⟨b3, 0, none⟩ = some (.slice va vn vc) ∧ wB.cell? ⟨b3, 1, none⟩ = some (.int .i64 adds) := ⟨f0, f1⟩) | (fail))
  have hBw : Below w.heap.size w wB := lawSk.step (lawSk.step hB3.drew hBA) hBB
  clear hBA hBB hTA hTB hT3 hB3 c0 c1 d0 d1 f0 f1
  go_upto_region 7 with (fail)
  have hBn := (Below.refl wB.heap.size wB).alloc (Nat.le_refl _) (.cells #[.string ⟨#[97]⟩, .string ⟨#[98]⟩, .string ⟨#[99]⟩, .string ⟨#[100, 100]⟩, .string ⟨#[101, 49]⟩, .string ⟨#[102, 45]⟩, .string ⟨#[103]⟩, .string ⟨#[104]⟩] 9)
  have hVN : VBlk (wB.alloc (.cells #[.string ⟨#[97]⟩, .string ⟨#[98]⟩, .string ⟨#[99]⟩, .string ⟨#[100, 100]⟩, .string ⟨#[101, 49]⟩, .string ⟨#[102, 45]⟩, .string ⟨#[103]⟩, .string ⟨#[104]⟩] 9)) wB.heap.size 9 (names.map Value.string) := heap_alloc_new _ _
  have hBN := lawSk.step hBw hBn
  obtain ⟨wN, hwN⟩ : ∃ wN, Hid (wN = wB.alloc (.cells #[.string ⟨#[97]⟩, .string ⟨#[98]⟩, .string ⟨#[99]⟩, .string ⟨#[100, 100]⟩, .string ⟨#[101, 49]⟩, .string ⟨#[102, 45]⟩, .string ⟨#[103]⟩, .string ⟨#[104]⟩] 9)) := ⟨_, rfl⟩
  have hwb := hBw.size
  rw [← hwN.out] at hVN hBN ⊢
  obtain ⟨bn, hbn⟩ : ∃ bn, Hid (bn = wB.heap.size) := ⟨_, rfl⟩
  rw [← hbn.out] at hVN hwb ⊢
  clear hwN hbn hBn hBw hSA hSB hS3 hneE
  go_wp2_with (first | (refine wpList_make rfl 46 2 _ _ rfl (.int .i64 0) 8 8 Try.underlying46 info2 rfl rfl rfl (by omega) (by omega) ?_; intro bc wM hbc hwM hBM hVM) | (go_at_call 16; refine (implNewSketch_any _).mono ?_; rintro e wS ⟨x, rfl, hox, hBS⟩; obtain ⟨xa, xn, xc, rfl⟩ := hox.form) | (refine wpList_alloc_v rfl 27 rfl _ zero27 ?_; intro b7 w7 hb7 hw7 hB7 hV7) | (refine wpList_store_v rfl 27 _ _ rfl b7 [.slice xa xn xc, .int .i64 0] rfl rfl size27 hV7 rfl (by simp [Value.oneCell']) ?_; intro w8 hO8 hV8) | (fail))
  have m1 := hBM.size
  have m2 := hBS.size
  have m3 := hB7.size
  have m4 := hO8.1
  have m5 := hVN.lt
  have m6 := hVM.lt
  have hB8 : Below w.heap.size w w8 := (lawSk.step (lawSk.step (lawSk.step hBN hBM) hBS) hB7).trans (hO8.2.2 _ (by have := hBN.size; omega))
  have hK : Hid (Cn w8 wM.heap.size wS.heap.size b7 bn bc (.slice xa xn xc) 0 zeros (List.replicate 8 0)) :=
    ⟨hV8, (((hVN.below hBM m5).below hBS (by omega)).below hB7 (by omega)).of (hO8.2.1 _ (by omega)), (((hVM.ints).below hBS hwM).below hB7 (by omega)).of (hO8.2.1 _ (by omega)), (hox.rd.below hB7 (Nat.le_refl _)).keep (fun k g1 g2 => hO8.2.1 k (by omega)), by omega, hwM, .inr hb7⟩
  have n1 : b7 ≠ bn := by omega
  have n2 : b7 ≠ bc := by omega
  have n3 : bc ≠ bn := by omega
  have l7 : w.heap.size ≤ b7 := by have := hBN.size; omega
  have lc : w.heap.size ≤ bc := by have := hBN.size; omega
  have hZ : Hid (Told (List.replicate 8 0) 0 zeros ∧ skOk zeros 0) := ⟨told_zero _ zeros_four zeros_small, zeros_four.1, by omega, zeros_four.2, zeros_small⟩
  have hn8 : Hid (names.length = 8) := rfl
  clear m1 m2 m3 m4 m5 m6 hO8 hV8 hV7 hB7 hox hBS hVM hBM hVN hBN hbc hwM hb7 hw7 hwb
  go_loopw [8] (fun q wr => ∃ (i lo hi : Nat) (x : Value) (X : List (List Int)) (cs : List Int), i ≤ 150 ∧ q = .int .i64 i ∧ (∃ a n c, x = .slice a n c) ∧ Hid (Cn wr lo hi b7 bn bc x i X cs) ∧ Hid (Told cs i X ∧ skOk X i) ∧ Below w.heap.size w wr) (fun q _ => 150 - (intOf q).toNat)
  case atStart => exact ⟨0, _, _, _, _, _, by omega, rfl, ⟨_, _, _, rfl⟩, hK, hZ, hB8⟩
  case round =>
    clear hK hZ hB8
    obtain ⟨i, lo, hi, x, X, cs, hi150, rfl, ⟨ya, yn, yc, rfl⟩, hK, hZ, hBr⟩ := hrel
    go_upto_if 32 with (first | (go_at_call 30; refine (pick_any _ _ _ _ _ _ hl (by omega) (by omega) (by omega) (by omega) (code_below' hC.out hBr)).mono ?_; rintro e wq ⟨r, rfl, hr0, hr1, hwq⟩; subst wq) | (fail))
    by_cases hlt : (i : Int) < r
    · go_upto_region 13 with (first | (go_at_call 30; refine (pick_any _ _ _ _ _ _ hl (by omega) (by omega) (by omega) (by omega) (code_below' hC.out hBr)).mono ?_; rintro e wq ⟨k, rfl, hk0, hk1, hwq⟩; subst wq; obtain ⟨k, rfl⟩ : ∃ n : Nat, k = n := ⟨k.toNat, by omega⟩) | (fail))
      have hkn : k < names.length := by rw [hn8.out]; omega
      obtain ⟨c0, c1, c2⟩ := hK.out.cells k hkn
      have hkl : k < cs.length := by rw [hZ.out.1.1]; omega
      obtain ⟨key, hkey⟩ : ∃ key, names[k] = key := ⟨_, rfl⟩
      have hks : key.size ≤ 2 := by rw [← hkey]; exact names_small _ (List.getElem_mem hkn)
      rw [hkey] at c2
      have hkey' : Hid (names[k] = key) := hkey
      clear hkey
      obtain ⟨c, hc0⟩ : ∃ c, cs[k] = c := ⟨_, rfl⟩
      have hc : Hid (cs[k] = c) := hc0
      clear hc0
      have hcb : 0 ≤ c ∧ c ≤ i := by rw [← hc.out]; exact hZ.out.1.2.1 _ (List.getElem_mem hkl)
      have hN : Hid (addedN X i = (i : Int) + 1) := by unfold Hid addedN; rw [if_pos hZ.out.2, if_neg (by omega)]
      have hX : Hid (addedR X i key = addR key X) := by unfold Hid addedR; rw [if_pos hZ.out.2, if_neg (by omega)]
      have hsz := hBr.size
      go_region_law (first | (go_simp; go_at_call 22; refine (implAdded_any X i key (by omega) _ _ hi hK.out.drew.hh (hK.out.drew.rx.wide (Nat.zero_le _) (Nat.le_refl _))).mono ?_; rintro e w5 ⟨x', rfl, hox, hB5⟩; obtain ⟨za, zn, zc, rfl⟩ := hox.form; rw [hX.out] at hox; rw [hN.out]; have hox' : Hid (Own w5 wr.heap.size w5.heap.size (.slice za zn zc) (addR key X)) := hox; clear hox; have hK5 := hK.out.drew.below hB5; have e0 := hK5.xv.cell 0 (by simp); have e1 := hK5.xv.cell 1 (by simp); have f0 := hK5.xv.frozen 0; have f1 := hK5.xv.frozen 1; simp only [List.getElem_cons_zero, List.getElem_cons_succ] at e0 e1; dsimp only) | (fail))
      all_goals
        have hK6 : Hid (Cn ((w5.setCell ⟨b7, 0, none⟩ (.slice za zn zc)).setCell ⟨b7, 1, none⟩ (.int .i64 ((i : Int) + 1))) wr.heap.size w5.heap.size b7 bn bc (.slice za zn zc) ((i : Int) + 1) (addR key X) cs) := hK.out.drew.store hB5 hox'.out n1 n2
        have hB6 : Below w.heap.size w ((w5.setCell ⟨b7, 0, none⟩ (.slice za zn zc)).setCell ⟨b7, 1, none⟩ (.int .i64 ((i : Int) + 1))) := ((lawSk.step hBr.drew hB5).setCell l7 _).setCell l7 _
        obtain ⟨w6, hw6⟩ : ∃ w6, Hid (w6 = (w5.setCell ⟨b7, 0, none⟩ (.slice za zn zc)).setCell ⟨b7, 1, none⟩ (.int .i64 ((i : Int) + 1))) := ⟨_, rfl⟩
        rw [← hw6.out] at hK6 hB6 ⊢
        have g0 := hK6.out.ct.cell k hkl
        rw [hc.out] at g0
        have g1 := hK6.out.ct.frozen k
        have hk8 : (k : Int) < 8 := hk1
        go_wp2
        go_roundw
        case rel =>
          have ht := hZ.out.1.add hZ.out.2.four hZ.out.2.small k hkl hkn
          rw [hc.out, hkey'.out] at ht
          have hs' := added_ok (key := key) hZ.out.2
          rw [hX.out, hN.out] at hs'
          exact ⟨i + 1, _, _, _, _, _, by omega, by go_num, ⟨_, _, _, rfl⟩, hK6.out.count k (c + 1) n3 n2, ⟨ht, hs'⟩, hB6.setCell lc _⟩
        case measure => simp [intOf]; omega
    · have hZd : decide (skOk X (i : Int)) = true := decide_eq_true hZ.out.2
      go_wp2
      go_loopw [10] (fun q wz => ∃ k : Nat, k ≤ 8 ∧ q = .int .i64 k ∧ Hid (Cn wz lo hi b7 bn bc (.slice ya yn yc) i X cs) ∧ Below w.heap.size w wz) (fun q _ => 8 - (intOf q).toNat)
      case atStart => exact ⟨0, by omega, rfl, hK, hBr⟩
      case round =>
        clear hK hBr
        obtain ⟨k, hk8, rfl, hK, hBr⟩ := hrel
        by_cases hk : k < 8
        · have hkn : k < names.length := by rw [hn8.out]; omega
          obtain ⟨c0, c1, c2⟩ := hK.out.cells k hkn
          have hkl : k < cs.length := by rw [hZ.out.1.1]; omega
          obtain ⟨c, hc0⟩ : ∃ c, cs[k] = c := ⟨_, rfl⟩
          have hc : Hid (cs[k] = c) := hc0
          clear hc0
          have hcb : 0 ≤ c ∧ c ≤ i := by rw [← hc.out]; exact hZ.out.1.2.1 _ (List.getElem_mem hkl)
          have hle := hZ.out.1.2.2 k hkl hkn
          rw [hc.out] at hle
          obtain ⟨key, hkey⟩ : ∃ key, names[k] = key := ⟨_, rfl⟩
          have hks : key.size ≤ 2 := by rw [← hkey]; exact names_small _ (List.getElem_mem hkn)
          rw [hkey] at c2 hle
          clear hkey
          have eP : estA X i key = estN key X 4 := by unfold estA; rw [if_pos hZ.out.2]
          rw [← eP] at hle
          clear eP
          have g0 := hK.out.ct.cell k hkl
          rw [hc.out] at g0
          have hk8' : (k : Int) < 8 := by omega
          have hS0 : wr.cell? ⟨b7, 0, none⟩ = some (.slice ya yn yc) ∧ wr.cell? ⟨b7, 1, none⟩ = some (.int .i64 i) ∧ wr.cell? ⟨bn, k, none⟩ = some (.string key) := ⟨c0, c1, c2⟩
          have hbnl := hK.out.nm.lt
          by_cases h15 : 15 < c
          · go_upto_region 21 with (fail)
            go_region_held3 (fun w' => w'.cell? ⟨b7, 0, none⟩ = some (.slice ya yn yc) ∧ w'.cell? ⟨b7, 1, none⟩ = some (.int .i64 i) ∧ w'.cell? ⟨bn, k, none⟩ = some (.string key)) (assumption) (first | (go_at_call 24; refine (implEstimate_any X i key (by omega) _ _ hi hK.out.drew.hh (hK.out.drew.rx.wide (Nat.zero_le _) (Nat.le_refl _))).mono ?_; rintro e w2 ⟨rfl, hB2⟩; have hK2 : Hid _ := hK.out.drew.below hB2; have hS2 : w2.cell? ⟨b7, 0, none⟩ = some (.slice ya yn yc) ∧ w2.cell? ⟨b7, 1, none⟩ = some (.int .i64 i) ∧ w2.cell? ⟨bn, k, none⟩ = some (.string key) := (by obtain ⟨j0, j1, j2⟩ := hK2.out.cells k hkn; exact ⟨j0, j1, by rw [hB2.cell (by show bn < wr.heap.size; exact hbnl)]; exact c2⟩)) | (fail))
            have hge : ¬ estA X i key < 15 := by omega
            obtain ⟨P, hP⟩ : ∃ P, estA X i key = P := ⟨_, rfl⟩
            rw [hP] at hge ⊢
            clear hle hP
            go_wp2
            go_roundw
            case rel => exact ⟨k + 1, by omega, by go_num, hK2, lawSk.step hBr.drew hB2⟩
            case measure => simp [intOf]; omega
          · go_upto_region 21 with (fail)
            go_region_held3 (fun w' => w'.cell? ⟨b7, 0, none⟩ = some (.slice ya yn yc) ∧ w'.cell? ⟨b7, 1, none⟩ = some (.int .i64 i) ∧ w'.cell? ⟨bn, k, none⟩ = some (.string key)) (assumption) (first | (go_at_call 24; refine (implEstimate_any X i key (by omega) _ _ hi hK.out.drew.hh (hK.out.drew.rx.wide (Nat.zero_le _) (Nat.le_refl _))).mono ?_; rintro e w2 ⟨rfl, hB2⟩; have hK2 : Hid _ := hK.out.drew.below hB2; have hS2 : w2.cell? ⟨b7, 0, none⟩ = some (.slice ya yn yc) ∧ w2.cell? ⟨b7, 1, none⟩ = some (.int .i64 i) ∧ w2.cell? ⟨bn, k, none⟩ = some (.string key) := (by obtain ⟨j0, j1, j2⟩ := hK2.out.cells k hkn; exact ⟨j0, j1, by rw [hB2.cell (by show bn < wr.heap.size; exact hbnl)]; exact c2⟩)) | (fail))
            have hge : ¬ estA X i key < c := by omega
            obtain ⟨P, hP⟩ : ∃ P, estA X i key = P := ⟨_, rfl⟩
            rw [hP] at hge ⊢
            clear hle hP
            go_wp2
            go_roundw
            case rel => exact ⟨k + 1, by omega, by go_num, hK2, lawSk.step hBr.drew hB2⟩
            case measure => simp [intOf]; omega
        · have c0 := hK.out.xv.cell 0 (by simp)
          have c1 := hK.out.xv.cell 1 (by simp)
          simp only [List.getElem_cons_zero, List.getElem_cons_succ] at c0 c1
          go_wp2_with (first | (go_at_call 11; refine (specSketchOk_any X i _ _ hi hK.out.hh (hK.out.rx.wide (Nat.zero_le _) (Nat.le_refl _))).mono ?_; rintro e wE ⟨rfl, hBE⟩) | (fail))
          go_ret
          exact ⟨rfl, lawSk.step hBr hBE⟩
end Go.Proofs.Ytgdoclaifnnpgaa.lawCnt
