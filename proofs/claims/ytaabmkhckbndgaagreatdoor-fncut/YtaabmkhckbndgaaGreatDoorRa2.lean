/- Contracts: the only reply that can stand at the beginning, as the program takes it. -/
import Derived.Test.YtaabmkhckbndgaaGreatDoorRa1
import Derived.Deep.DeepCutAuto
import Derived.Lib.MinMax
import Derived.Deep.RegionHeld3
import Derived.BigQuiet
namespace Go.Proofs.YtaabmkhckbndgaaGreatDoor.cm
open Go.ChangeShapes Go.WideShapes Go.ChangeAt Go.RowKit
open Go.Deep Go.Joins
open Go.Proofs.YtaabmkhckbndgaaGreatDoor.ce Go.Proofs.YtaabmkhckbndgaaGreatDoor.ro Go.Proofs.YtaabmkhckbndgaaGreatDoor.rg
set_option linter.unusedVariables false

theorem shape_line {t a u : List UInt8} (ht : t = a ++ 10 :: u) (ha : 10 ∉ a) (hl : a.length ≤ 100) {h : List UInt8} {ws : List (List UInt8)} (hs : splitL 32 a = h :: ws) : shapeF t = shapeW h ws u := by
  have el : lineOf t = a := by rw [ht]; exact lineOf_app ha u
  have h10 : 10 ∈ t.take 101 := by
    rw [ht, List.take_append, List.take_of_length_le (by omega)]
    obtain ⟨k, hk⟩ : ∃ k, 101 - a.length = k + 1 := ⟨100 - a.length, by omega⟩
    rw [hk, List.take_succ_cons]
    simp
  have ed : t.drop (a.length + 1) = u := by
    rw [ht, List.drop_append, List.drop_eq_nil_of_le (by omega), show a.length + 1 - a.length = 1 by omega]
    rfl
  unfold shapeF
  rw [if_pos h10, el, hs, ed]
  rfl
set_option maxRecDepth 100000 in
set_option maxHeartbeats 2000000 in
theorem shapeFrom_any (s : ByteArray) (hs : s.size ≤ 1048576) (w : World) (en : EnvX w) (X : Value) (hX : Hid (svO (shapeF (bs s)) = X)) :
    Calls Tryz.prog 81 #[.string s] w fun e w' => e = .returned X ∧ Below w.heap.size w w' := by
  have EN : Hid (EnvX w) := en
  clear en
  obtain ⟨mm, hmm0⟩ := EN.out.n.ml
  have hmm : Hid (w.cell? ⟨2, 0, none⟩ = some (.int .i64 mm)) := hmm0
  clear hmm0
  obtain ⟨q, hq⟩ := hid_ex (s.extract 0 (min (s.size : Int) 101).toNat)
  have hqe : s.extract 0 (min (s.size : Int) 101).toNat = q := hq.out
  have hqb : Hid (bs q = (bs s).take 101) := by
    unfold Hid
    rw [← hq.out, bs_extract, List.drop_zero, Nat.sub_zero]
    by_cases h : s.size ≤ 101
    · rw [List.take_of_length_le (by rw [bs_len]; omega), List.take_of_length_le (by rw [bs_len]; omega)]
    · rw [show (min (s.size : Int) 101).toNat = 101 by omega]
  have hqs : q.size ≤ 101 ∧ q.size ≤ s.size ∧ (q.size ≤ 100 → q.size = s.size) := by
    have := congrArg List.length hqb.out
    rw [bs_len, List.length_take, bs_len] at this
    omega
  clear hq
  by_cases h10 : 10 ∈ bs q
  · obtain ⟨a, b, hab, hna, hcy⟩ : ∃ a b, bs q = a ++ 10 :: b ∧ 10 ∉ a ∧ Lib.cut (bs q) [10] = (a, b, true) := by
      rcases cut_line (bs q) with ⟨n, -⟩ | x
      · exact absurd h10 n
      · exact x
    have hcut : Hid (Lib.cut (bs q) [10] = (a, b, true)) := hcy
    obtain ⟨ln, hln⟩ := hid_ex (tx a)
    have ela : (⟨a.toArray⟩ : ByteArray) = ln := hln.out
    have hbl : Hid (bs ln = a) := by unfold Hid; rw [← hln.out, bs_tx]
    have hal : a.length ≤ 100 := by have := congrArg List.length hab; rw [bs_len] at this; simp at this; omega
    have hlsz : Hid (ln.size = a.length) := by unfold Hid; rw [← hln.out, tx_size]
    have hlns : ln.size ≤ 1000 := by have := hlsz.out; omega
    obtain ⟨u, hu⟩ : ∃ u, bs s = a ++ 10 :: u := ⟨b ++ (bs s).drop 101, by have := List.take_append_drop 101 (bs s); rw [← hqb.out, hab] at this; have e := this.symm; rw [List.append_assoc, List.cons_append] at e; exact e⟩
    have hsl : s.size = a.length + 1 + u.length := by have := congrArg List.length hu; rw [bs_len] at this; simp at this; omega
    obtain ⟨h, ws, hsp⟩ : ∃ h ws, splitL 32 (bs ln) = h :: ws := by
      cases e : splitL 32 (bs ln) with
      | nil => exact absurd e (splitL_ne _ _)
      | cons h ws => exact ⟨h, ws, rfl⟩
    have HSP : Hid (splitL 32 (bs ln) = h :: ws) := hsp
    rw [shape_line hu hna hal (h := h) (ws := ws) (by rw [← hbl.out]; exact hsp)] at hX
    obtain ⟨v, hv0⟩ := hid_ex (kindOf h)
    have hv : Hid (kindOf (bs (tx h)) = v) := by unfold Hid; rw [bs_tx]; exact hv0.out
    have hvb := kindOf_bd h
    rw [hv0.out] at hvb
    unfold shapeW at hX
    rw [hv0.out] at hX
    obtain ⟨bh, hbh⟩ := hid_ex (a.length + 1)
    have ebh : IntKind.i64.wrap ((ln.size : Int) + 1) = (bh : Int) := by rw [IntKind.wrap_i64]; have := hlsz.out; have := hbh.out; omega
    have hbs : (bh : Int) ≤ (s.size : Int) := by have := hbh.out; omega
    obtain ⟨fo, hfo0⟩ := hid_ex (s.extract bh s.size)
    have hfe : s.extract bh s.size = fo := hfo0.out
    have hfs : fo.size ≤ 1048576 := by rw [← hfo0.out, ByteArray.size_extract]; omega
    have hfo : Hid (bs fo = u) := by
      unfold Hid
      rw [← hfo0.out, bs_extract, List.take_of_length_le (by rw [List.length_drop, bs_len]; omega), hu, ← hbh.out, List.drop_append, List.drop_eq_nil_of_le (by omega), show a.length + 1 - a.length = 1 by omega]
      rfl
    clear h10 hab hcy hu hsp hsl hal hna hfo0
    by_cases z0 : v = 0
    · subst z0
      have eX : X = .nilIface := by rw [← hX.out]; rfl
      subst eX
      clear hX
      go_enter Tryz.func81, Tryz.ntmps81
      go_wp2_with (first | (go_at_call 114; refine (Tryz.strings_Cut q ⟨#[10]⟩ mm _ (by omega) hmm.out).mono ?_; rintro er w3 ⟨rfl, nd, rfl⟩; rw [show Lib.cut q.data.toList (⟨#[10]⟩ : ByteArray).data.toList = _ from hcut.out]; dsimp only; rw [ela]; have hBd : Below w.heap.size w (w.drewN nd) := bdN (Below.refl _ _) nd) | (go_at_call 115; refine (split_is ln h _ HSP mm _ hlns (cell_grow hBd (World.block_lt_of_cell? w _ hmm.out) hmm.out)).mono ?_; rintro er w4 ⟨g, rfl, c0, RR, hB4⟩; have hB4' : Below w.heap.size w w4 := hBd.trans (hB4.mono hBd.size)) | (go_at_call 129; refine (kindOf_any (tx h) _ hv _ (EN.out.p.grow hB4')).mono ?_; rintro er wq ⟨rfl, hq⟩; subst wq) | (fail))
      go_ret
      exact ⟨rfl, hB4'⟩
    · have hz0 : (v == 0) = false := by simpa using z0
      rw [if_neg z0] at hX
      by_cases z6 : v = 6
      · subst z6
        obtain ⟨m, hnm⟩ := hid_ex (numF true ⟨ws, false⟩).1
        have eX : X = .iface 158 (.int .i64 m) := by rw [← hX.out, if_pos rfl, hnm.out]; rfl
        subst eX
        clear hX z0
        rcases ws with _ | ⟨y2, ws2⟩
        · skip
          have R1 : ∀ (w' : World) (g : Nat), Rd encS w' (.slice (some ⟨g, 0, none⟩) 1 1) (tx h :: [].map tx) → Hid (Rd encS w' (.slice (some ⟨g, 0, none⟩) 0 0) ([].map tx)) := fun w' g r => by
            rcases r.rest 1 (by simp) with ⟨hlt, -⟩ | ⟨-, -, -, R2⟩
            · exact absurd hlt (by decide)
            · exact R2
          go_enter Tryz.func81, Tryz.ntmps81
          go_wp2_with (first | (go_at_call 114; refine (Tryz.strings_Cut q ⟨#[10]⟩ mm _ (by omega) hmm.out).mono ?_; rintro er w3 ⟨rfl, nd, rfl⟩; rw [show Lib.cut q.data.toList (⟨#[10]⟩ : ByteArray).data.toList = _ from hcut.out]; dsimp only; rw [ela]; have hBd : Below w.heap.size w (w.drewN nd) := bdN (Below.refl _ _) nd) | (go_at_call 115; refine (split_is ln h _ HSP mm _ hlns (cell_grow hBd (World.block_lt_of_cell? w _ hmm.out) hmm.out)).mono ?_; rintro er w4 ⟨g, rfl, c0, RR, hB4⟩; have hB4' : Below w.heap.size w w4 := hBd.trans (hB4.mono hBd.size); have R2 := R1 _ _ RR.out) | (go_at_call 129; refine (kindOf_any (tx h) _ hv _ (EN.out.p.grow hB4')).mono ?_; rintro er wq ⟨rfl, hq⟩; subst wq) | (refine wpList_alloc_v rfl 164 rfl _ zeroWd ?_; intro b8 w5 hb8 hw8 hB5 V5; have hz5 := hB5.size) | (refine wpList_store_v rfl 164 _ _ rfl b8 [.slice (some ⟨g, 0, none⟩) 0 0, .bool false] rfl rfl sizeWd V5 rfl (oneWd _ _ _ _) ?_; intro w6 hO6 V6; have hB46 : Below w4.heap.size w4 w6 := hB5.trans (hO6.2.2 _ hb8); have R0 : Hid (Rr w4 w6 b8 ⟨([].map tx).map bs, false⟩) := rr_new V6 R2.out hB46 hb8 (sizes HSP hlns)) | (go_at_call 130; refine (numberN true (EN.out.n.grow hB4') R0.out).mono ?_; rintro e w7 ⟨rfl, hr7, hO7⟩; rw [(map_tx []).out, hnm.out]) | (fail))
          go_ret
          exact ⟨rfl, (hB4'.trans (hB46.mono hB4'.size)).trans (hO7.low _ (by have := hB4'.size; omega) (Nat.le_trans hB4'.size hB46.size))⟩
        · skip
          have hkk : ¬ ws2.length + 1 + 1 = 1 := by omega
          have R1 : ∀ (w' : World) (g : Nat), Rd encS w' (.slice (some ⟨g, 0, none⟩) (ws2.length + 1 + 1) (ws2.length + 1 + 1)) (tx h :: (y2 :: ws2).map tx) → Hid (Rd encS w' (.slice (some ⟨g, 1, none⟩) (ws2.length + 1) (ws2.length + 1)) ((y2 :: ws2).map tx)) := fun w' g r => by
            rcases r.rest 1 (by simp) with ⟨-, R2⟩ | ⟨hk, -⟩
            · have := R2.out
              rw [show 0 + 1 * encS.k = 1 from rfl] at this
              simpa [Hid] using this
            · exact absurd hk (by omega)
          have hi0 : (0 : Int) < ((ws2.length + 1 + 1 : Nat) : Int) := by omega
          have hi1 : (1 : Int) ≤ ((ws2.length + 1 + 1 : Nat) : Int) := by omega
          go_enter Tryz.func81, Tryz.ntmps81
          go_wp2_with (first | (go_at_call 114; refine (Tryz.strings_Cut q ⟨#[10]⟩ mm _ (by omega) hmm.out).mono ?_; rintro er w3 ⟨rfl, nd, rfl⟩; rw [show Lib.cut q.data.toList (⟨#[10]⟩ : ByteArray).data.toList = _ from hcut.out]; dsimp only; rw [ela]; have hBd : Below w.heap.size w (w.drewN nd) := bdN (Below.refl _ _) nd) | (go_at_call 115; refine (split_is ln h _ HSP mm _ hlns (cell_grow hBd (World.block_lt_of_cell? w _ hmm.out) hmm.out)).mono ?_; rintro er w4 ⟨g, rfl, c0, RR, hB4⟩; have hB4' : Below w.heap.size w w4 := hBd.trans (hB4.mono hBd.size); have R2 := R1 _ _ RR.out) | (go_at_call 129; refine (kindOf_any (tx h) _ hv _ (EN.out.p.grow hB4')).mono ?_; rintro er wq ⟨rfl, hq⟩; subst wq) | (refine wpList_alloc_v rfl 164 rfl _ zeroWd ?_; intro b8 w5 hb8 hw8 hB5 V5; have hz5 := hB5.size) | (refine wpList_store_v rfl 164 _ _ rfl b8 [.slice (some ⟨g, 1, none⟩) (ws2.length + 1) (ws2.length + 1), .bool false] rfl rfl sizeWd V5 rfl (oneWd _ _ _ _) ?_; intro w6 hO6 V6; have hB46 : Below w4.heap.size w4 w6 := hB5.trans (hO6.2.2 _ hb8); have R0 : Hid (Rr w4 w6 b8 ⟨((y2 :: ws2).map tx).map bs, false⟩) := rr_new V6 R2.out hB46 hb8 (sizes HSP hlns)) | (go_at_call 130; refine (numberN true (EN.out.n.grow hB4') R0.out).mono ?_; rintro e w7 ⟨rfl, hr7, hO7⟩; rw [(map_tx (y2 :: ws2)).out, hnm.out]) | (fail))
          go_ret
          exact ⟨rfl, (hB4'.trans (hB46.mono hB4'.size)).trans (hO7.low _ (by have := hB4'.size; omega) (Nat.le_trans hB4'.size hB46.size))⟩
      · have hz6 : (v == 6) = false := by simpa using z6
        rw [if_neg z6] at hX
        by_cases z5 : v = 5
        · subst z5
          rw [if_pos rfl] at hX
          clear z0 z6
          rcases ws with _ | ⟨y2, ws2⟩
          · skip
            have R1 : ∀ (w' : World) (g : Nat), Rd encS w' (.slice (some ⟨g, 0, none⟩) 1 1) (tx h :: [].map tx) → Hid (Rd encS w' (.slice (some ⟨g, 0, none⟩) 0 0) ([].map tx)) := fun w' g r => by
              rcases r.rest 1 (by simp) with ⟨hlt, -⟩ | ⟨-, -, -, R2⟩
              · exact absurd hlt (by decide)
              · exact R2
            go_enter Tryz.func81, Tryz.ntmps81
            go_upto_region 14 with (first | (go_at_call 114; refine (Tryz.strings_Cut q ⟨#[10]⟩ mm _ (by omega) hmm.out).mono ?_; rintro er w3 ⟨rfl, nd, rfl⟩; rw [show Lib.cut q.data.toList (⟨#[10]⟩ : ByteArray).data.toList = _ from hcut.out]; dsimp only; rw [ela]; have hBd : Below w.heap.size w (w.drewN nd) := bdN (Below.refl _ _) nd) | (go_at_call 115; refine (split_is ln h _ HSP mm _ hlns (cell_grow hBd (World.block_lt_of_cell? w _ hmm.out) hmm.out)).mono ?_; rintro er w4 ⟨g, rfl, c0, RR, hB4⟩; have hB4' : Below w.heap.size w w4 := hBd.trans (hB4.mono hBd.size); have R2 := R1 _ _ RR.out) | (go_at_call 129; refine (kindOf_any (tx h) _ hv _ (EN.out.p.grow hB4')).mono ?_; rintro er wq ⟨rfl, hq⟩; subst wq) | (fail))
            go_region_with (first | (go_at_call 131; refine (valueFrom_any ([].map tx) _ fo hfs _ ((EN.out.grow hB4').grow (Below.refl _ _).drew) (R2.out.grow (Below.refl _ _).drew) (sizes HSP hlns) X (by unfold Hid; rw [(map_tx []).out, hfo.out]; exact hX.out)).mono ?_; rintro e w7 ⟨rfl, hB7⟩) | (fail))
            all_goals
              go_wp2
              go_ret
              exact ⟨rfl, (hB4'.drew.trans (hB7.mono hB4'.size))⟩
          · skip
            have hkk : ¬ ws2.length + 1 + 1 = 1 := by omega
            have R1 : ∀ (w' : World) (g : Nat), Rd encS w' (.slice (some ⟨g, 0, none⟩) (ws2.length + 1 + 1) (ws2.length + 1 + 1)) (tx h :: (y2 :: ws2).map tx) → Hid (Rd encS w' (.slice (some ⟨g, 1, none⟩) (ws2.length + 1) (ws2.length + 1)) ((y2 :: ws2).map tx)) := fun w' g r => by
              rcases r.rest 1 (by simp) with ⟨-, R2⟩ | ⟨hk, -⟩
              · have := R2.out
                rw [show 0 + 1 * encS.k = 1 from rfl] at this
                simpa [Hid] using this
              · exact absurd hk (by omega)
            have hi0 : (0 : Int) < ((ws2.length + 1 + 1 : Nat) : Int) := by omega
            have hi1 : (1 : Int) ≤ ((ws2.length + 1 + 1 : Nat) : Int) := by omega
            go_enter Tryz.func81, Tryz.ntmps81
            go_upto_region 14 with (first | (go_at_call 114; refine (Tryz.strings_Cut q ⟨#[10]⟩ mm _ (by omega) hmm.out).mono ?_; rintro er w3 ⟨rfl, nd, rfl⟩; rw [show Lib.cut q.data.toList (⟨#[10]⟩ : ByteArray).data.toList = _ from hcut.out]; dsimp only; rw [ela]; have hBd : Below w.heap.size w (w.drewN nd) := bdN (Below.refl _ _) nd) | (go_at_call 115; refine (split_is ln h _ HSP mm _ hlns (cell_grow hBd (World.block_lt_of_cell? w _ hmm.out) hmm.out)).mono ?_; rintro er w4 ⟨g, rfl, c0, RR, hB4⟩; have hB4' : Below w.heap.size w w4 := hBd.trans (hB4.mono hBd.size); have R2 := R1 _ _ RR.out) | (go_at_call 129; refine (kindOf_any (tx h) _ hv _ (EN.out.p.grow hB4')).mono ?_; rintro er wq ⟨rfl, hq⟩; subst wq) | (fail))
            go_region_with (first | (go_at_call 131; refine (valueFrom_any ((y2 :: ws2).map tx) _ fo hfs _ ((EN.out.grow hB4').grow (Below.refl _ _).drew) (R2.out.grow (Below.refl _ _).drew) (sizes HSP hlns) X (by unfold Hid; rw [(map_tx (y2 :: ws2)).out, hfo.out]; exact hX.out)).mono ?_; rintro e w7 ⟨rfl, hB7⟩) | (fail))
            all_goals
              go_wp2
              go_ret
              exact ⟨rfl, (hB4'.drew.trans (hB7.mono hB4'.size))⟩
        · have hz5 : (v == 5) = false := by simpa using z5
          have eX : X = .iface 156 (.int .i64 v) := by
            rw [← hX.out, if_neg z5]
            show shV ⟨v, emp, 0, emp, 0, 0⟩ = _
            unfold shV
            rw [if_neg (show ¬ v = 5 from z5), if_neg (show ¬ v = 6 from z6)]
          subst eX
          clear hX z0 z5 z6
          go_enter Tryz.func81, Tryz.ntmps81
          go_wp2_with (first | (go_at_call 114; refine (Tryz.strings_Cut q ⟨#[10]⟩ mm _ (by omega) hmm.out).mono ?_; rintro er w3 ⟨rfl, nd, rfl⟩; rw [show Lib.cut q.data.toList (⟨#[10]⟩ : ByteArray).data.toList = _ from hcut.out]; dsimp only; rw [ela]; have hBd : Below w.heap.size w (w.drewN nd) := bdN (Below.refl _ _) nd) | (go_at_call 115; refine (split_is ln h _ HSP mm _ hlns (cell_grow hBd (World.block_lt_of_cell? w _ hmm.out) hmm.out)).mono ?_; rintro er w4 ⟨g, rfl, c0, RR, hB4⟩; have hB4' : Below w.heap.size w w4 := hBd.trans (hB4.mono hBd.size)) | (go_at_call 129; refine (kindOf_any (tx h) _ hv _ (EN.out.p.grow hB4')).mono ?_; rintro er wq ⟨rfl, hq⟩; subst wq) | (fail))
          go_ret
          exact ⟨rfl, hB4'⟩
  · have hcut : Hid (Lib.cut (bs q) [10] = (bs q, [], false)) := cut_no h10
    have eqq : (⟨(bs q).toArray⟩ : ByteArray) = q := tx_bs q
    have eX : X = .nilIface := by
      rw [← hX.out]
      unfold shapeF
      rw [if_neg (by rw [← hqb.out]; exact h10)]
      rfl
    subst eX
    clear h10 hX
    go_enter Tryz.func81, Tryz.ntmps81
    go_wp2_with (first | (go_at_call 114; refine (Tryz.strings_Cut q ⟨#[10]⟩ mm _ (by omega) hmm.out).mono ?_; rintro er w3 ⟨rfl, nd, rfl⟩; rw [show Lib.cut q.data.toList (⟨#[10]⟩ : ByteArray).data.toList = _ from hcut.out]; dsimp only; rw [eqq]; have hBd : Below w.heap.size w (w.drewN nd) := bdN (Below.refl _ _) nd) | (fail))
    go_ret
    exact ⟨rfl, hBd⟩
end Go.Proofs.YtaabmkhckbndgaaGreatDoor.cm
