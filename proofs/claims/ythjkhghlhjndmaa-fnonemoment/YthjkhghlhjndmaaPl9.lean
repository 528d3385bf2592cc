/- The program's played: the walk. -/
import Derived.Test.YthjkhghlhjndmaaMg15
namespace Go.Proofs.Ythjkhghlhjndmaa.ce
open Go.ChangeShapes Go.WideShapes Go.ChangeAt Go.RowKit
set_option linter.unusedVariables false

set_option maxRecDepth 100000 in
set_option maxHeartbeats 4000000 in
theorem pass_walk (w0 : World) (b4 b7 : Nat) (m : Int) (hm : 1 ≤ m) (hm2 : m ≤ 1000) (H : List C) (k x y l e o t : Int) (hok : heapOk H) (ok : OkH H ⟨k, x, y, 1, l, e, o, t⟩) (w : World) (v u1 u3 u5 u6 u8 u9 u10 u11 u12 u13 u14 u15 u16 u17 u18 u19 u20 u21 u22 u23 u24 u25 u26 u27 u28 u29 u30 u31 u32 u33 u34 u35 u36 u37 u38 u39 u40 u41 u42 u43 u44 u45 u46 u47 u48 u49 u50 u51 u52 u53 u54 u55 u56 u57 u58 u59 u60 u61 u62 u63 u64 u65 u66 u67 u68 u69 u70 u71 u72 u73 u74 u75 u76 u77 u78 u79 u80 u81 u82 u83 u84 u85 u86 u87 u88 u89 u90 u91 u92 u93 u94 u95 u96 u97 u98 u99 u100 u101 u102 u103 u104 u105 u106 u107 u108 u109 u110 u111 u112 u113 u114 u115 u116 u117 u118 u119 u120 u121 u122 u123 u124 u125 u126 u127 u128 u129 u130 u131 u132 u133 u134 u135 u136 u137 u138 u139 u140 u141 u142 u143 u144 : Value) (pm : Pm w0 w b4 b7 v H ⟨k, x, y, 1, l, e, o, t⟩) (Q : Exit → Act → World → Prop)
    (hnext : ∀ (w' : World) (v u1 u3 u5 u6 u8 u9 u10 u11 u12 u13 u14 u15 u16 u17 u18 u19 u20 u21 u22 u23 u24 u25 u26 u27 u28 u29 u30 u31 u32 u33 u34 u35 u36 u37 u38 u39 u40 u41 u42 u43 u44 u45 u46 u47 u48 u49 u50 u51 u52 u53 u54 u55 u56 u57 u58 u59 u60 u61 u62 u63 u64 u65 u66 u67 u68 u69 u70 u71 u72 u73 u74 u75 u76 u77 u78 u79 u80 u81 u82 u83 u84 u85 u86 u87 u88 u89 u90 u91 u92 u93 u94 u95 u96 u97 u98 u99 u100 u101 u102 u103 u104 u105 u106 u107 u108 u109 u110 u111 u112 u113 u114 u115 u116 u117 u118 u119 u120 u121 u122 u123 u124 u125 u126 u127 u128 u129 u130 u131 u132 u133 u134 u135 u136 u137 u138 u139 u140 u141 u142 u143 u144 : Value), Pm w0 w' b4 b7 v (moveW H ⟨k, x, y, 1, l, e, o, t⟩).1 (moveW H ⟨k, x, y, 1, l, e, o, t⟩).2 → Scoped Try.prog body Q (.goto 0) { tmps := #[v, u1, .int .i64 (m - 1), u3, .pointer (some ⟨b4, 0, none⟩), u5, u6, .pointer (some ⟨b7, 0, none⟩), u8, u9, u10, u11, u12, u13, u14, u15, u16, u17, u18, u19, u20, u21, u22, u23, u24, u25, u26, u27, u28, u29, u30, u31, u32, u33, u34, u35, u36, u37, u38, u39, u40, u41, u42, u43, u44, u45, u46, u47, u48, u49, u50, u51, u52, u53, u54, u55, u56, u57, u58, u59, u60, u61, u62, u63, u64, u65, u66, u67, u68, u69, u70, u71, u72, u73, u74, u75, u76, u77, u78, u79, u80, u81, u82, u83, u84, u85, u86, u87, u88, u89, u90, u91, u92, u93, u94, u95, u96, u97, u98, u99, u100, u101, u102, u103, u104, u105, u106, u107, u108, u109, u110, u111, u112, u113, u114, u115, u116, u117, u118, u119, u120, u121, u122, u123, u124, u125, u126, u127, u128, u129, u130, u131, u132, u133, u134, u135, u136, u137, u138, u139, u140, u141, u142, u143, u144], defers := [] } w')
    (rest : Code) (hr : findLabel body 0 = some (.seq .skip rest)) :
    rest.wp Try.prog (Scoped Try.prog body Q) { tmps := #[v, u1, .int .i64 m, u3, .pointer (some ⟨b4, 0, none⟩), u5, u6, .pointer (some ⟨b7, 0, none⟩), u8, u9, u10, u11, u12, u13, u14, u15, u16, u17, u18, u19, u20, u21, u22, u23, u24, u25, u26, u27, u28, u29, u30, u31, u32, u33, u34, u35, u36, u37, u38, u39, u40, u41, u42, u43, u44, u45, u46, u47, u48, u49, u50, u51, u52, u53, u54, u55, u56, u57, u58, u59, u60, u61, u62, u63, u64, u65, u66, u67, u68, u69, u70, u71, u72, u73, u74, u75, u76, u77, u78, u79, u80, u81, u82, u83, u84, u85, u86, u87, u88, u89, u90, u91, u92, u93, u94, u95, u96, u97, u98, u99, u100, u101, u102, u103, u104, u105, u106, u107, u108, u109, u110, u111, u112, u113, u114, u115, u116, u117, u118, u119, u120, u121, u122, u123, u124, u125, u126, u127, u128, u129, u130, u131, u132, u133, u134, u135, u136, u137, u138, u139, u140, u141, u142, u143, u144], defers := [] } w := by
  obtain rfl := (Code.seq.inj (Option.some.inj ((rfl : findLabel body 0 = some (.seq .skip _)).symm.trans hr))).2
  clear hr
  have hm1 : ¬ m - 1 < 0 := by omega
  have NX : Hid (∀ (w' : World) (v u1 u3 u5 u6 u8 u9 u10 u11 u12 u13 u14 u15 u16 u17 u18 u19 u20 u21 u22 u23 u24 u25 u26 u27 u28 u29 u30 u31 u32 u33 u34 u35 u36 u37 u38 u39 u40 u41 u42 u43 u44 u45 u46 u47 u48 u49 u50 u51 u52 u53 u54 u55 u56 u57 u58 u59 u60 u61 u62 u63 u64 u65 u66 u67 u68 u69 u70 u71 u72 u73 u74 u75 u76 u77 u78 u79 u80 u81 u82 u83 u84 u85 u86 u87 u88 u89 u90 u91 u92 u93 u94 u95 u96 u97 u98 u99 u100 u101 u102 u103 u104 u105 u106 u107 u108 u109 u110 u111 u112 u113 u114 u115 u116 u117 u118 u119 u120 u121 u122 u123 u124 u125 u126 u127 u128 u129 u130 u131 u132 u133 u134 u135 u136 u137 u138 u139 u140 u141 u142 u143 u144 : Value), Pm w0 w' b4 b7 v (moveW H ⟨k, x, y, 1, l, e, o, t⟩).1 (moveW H ⟨k, x, y, 1, l, e, o, t⟩).2 → Scoped Try.prog body Q (.goto 0) { tmps := #[v, u1, .int .i64 (m - 1), u3, .pointer (some ⟨b4, 0, none⟩), u5, u6, .pointer (some ⟨b7, 0, none⟩), u8, u9, u10, u11, u12, u13, u14, u15, u16, u17, u18, u19, u20, u21, u22, u23, u24, u25, u26, u27, u28, u29, u30, u31, u32, u33, u34, u35, u36, u37, u38, u39, u40, u41, u42, u43, u44, u45, u46, u47, u48, u49, u50, u51, u52, u53, u54, u55, u56, u57, u58, u59, u60, u61, u62, u63, u64, u65, u66, u67, u68, u69, u70, u71, u72, u73, u74, u75, u76, u77, u78, u79, u80, u81, u82, u83, u84, u85, u86, u87, u88, u89, u90, u91, u92, u93, u94, u95, u96, u97, u98, u99, u100, u101, u102, u103, u104, u105, u106, u107, u108, u109, u110, u111, u112, u113, u114, u115, u116, u117, u118, u119, u120, u121, u122, u123, u124, u125, u126, u127, u128, u129, u130, u131, u132, u133, u134, u135, u136, u137, u138, u139, u140, u141, u142, u143, u144], defers := [] } w') := hnext
  have PM : Hid (Pm w0 w b4 b7 v H ⟨k, x, y, 1, l, e, o, t⟩) := pm
  have hb := pm.hand
  have h1 := hok.1.1
  obtain ⟨lo, o1, o2, o3⟩ := pm.own
  obtain ⟨g, cap, rfl, hg1, hg2, -⟩ := o3.form h1
  have R := o3.rd
  have ng1 : g ≠ b4 := by omega
  have ng2 : b4 ≠ g := by omega
  have CE : Hid (∀ (i : Nat) (hi : i < H.length), _) := fun i hi => o3.cell i hi
  obtain ⟨c0, c1, c2, c3, c4, c5, c6, c7⟩ := hb.cells
  obtain ⟨f0, f1, f2, f3, f4, f5, f6, f7⟩ := hb.fz
  clear hnext pm
  have ht : t = 0 := told_of ok (by simp)
  subst ht
  have hw := (ok.way (by simp)).2.2
  have hlh : has H l := (ok.way (by simp)).1
  simp only [] at hw
  have RR : Hid (Rd w w.heap.size (.slice (some ⟨g, 0, none⟩) H.length cap) H) := R
  clear R
  rcases hw with rfl | he1
  · have MV : Hid (moveW H ⟨k, x, y, 1, l, -1, o, 0⟩ = (H, ⟨k, x, y, 2, l, -1, o, 0⟩)) := by unfold Hid moveW; rw [if_pos (.inl rfl)]
    rw [MV.out] at NX
    clear hok ok o3 hb CE hlh
    go_wp2
    go_step3
    refine scoped_goto rfl ?_
    go_wp2
    try go_frame
    go_big_quiet (fail)
    have PMN : Pm w0 (w.drewN nq) b4 b7 (.slice (some ⟨g, 0, none⟩) H.length cap) H ⟨k, x, y, 1, l, -1, o, 0⟩ := PM.out.drewN nq
    have hg2N : g < (w.drewN nq).heap.size := hg2
    obtain ⟨W, hW⟩ : ∃ W, w.drewN nq = W := ⟨_, rfl⟩
    rw [hW] at PMN hg2N ⊢
    clear c0 c1 c2 c3 c4 c5 c6 c7 f0 f1 f2 f3 f4 f5 f6 f7 PM hW
    have PM : Hid (Pm w0 W b4 b7 (.slice (some ⟨g, 0, none⟩) H.length cap) H ⟨k, x, y, 1, l, -1, o, 0⟩) := PMN
    have hb := PMN.hand
    clear PMN
    obtain ⟨c0, c1, c2, c3, c4, c5, c6, c7⟩ := hb.cells
    obtain ⟨f0, f1, f2, f3, f4, f5, f6, f7⟩ := hb.fz
    go_wp2_with (first | (refine wpList_store_f rfl _ _ rfl b4 3 2 rfl rfl ⟨k, x, y, 2, l, -1, o, 0⟩ (by omega) hb rfl ?_; intro w2 hO2 hb2; have p2 := PM.out.turn hO2 hb2) | (fail))
    go_step3
    exact NX.out _ _ _ _ _ _ _ _ _ _ _ _ _ _ _ _ _ _ _ _ _ _ _ _ _ _ _ _ _ _ _ _ _ _ _ _ _ _ _ _ _ _ _ _ _ _ _ _ _ _ _ _ _ _ _ _ _ _ _ _ _ _ _ _ _ _ _ _ _ _ _ _ _ _ _ _ _ _ _ _ _ _ _ _ _ _ _ _ _ _ _ _ _ _ _ _ _ _ _ _ _ _ _ _ _ _ _ _ _ _ _ _ _ _ _ _ _ _ _ _ _ _ _ _ _ _ _ _ _ _ _ _ _ _ _ _ _ _ _ _ _ _ _ (p2)
  obtain ⟨i, rfl⟩ : ∃ i : Nat, e = i := ⟨e.toNat, by omega⟩
  have hi1 : i < H.length := by omega
  have hi1' : (i : Int) < H.length := by omega
  have hin : ((i : Int) == -1) = false := by simp
  have en := nth_nat H i hi1
  obtain ⟨e0, -, e2, e3⟩ := CE.out i hi1
  obtain ⟨q, hq⟩ := hid_ex (H[i])
  rw [hq.out] at e0 e2 e3
  have en2 : Hid (nth H (i : Int) = q) := by unfold Hid; rw [en, hq.out]
  clear en
  cases hg : q.gone with
  | true =>
    rw [hg] at e3
    have hst : ¬ stops H ⟨k, x, y, 1, l, (i : Int), o, 0⟩ := by
      rintro (z | z)
      · have z : (i : Int) = -1 := z; omega
      · have z1 : (nth H (i : Int)).gone = false := z.1; rw [en2.out, hg] at z1; cases z1
    by_cases hsw : swapOk H l (i : Int) q.next
    · have SB : Hid (swappedB H l (i : Int) q.next = true) := by unfold Hid swappedB; rw [if_pos hok]; exact decide_eq_true hsw
      have SH : Hid (swappedH H l (i : Int) q.next = swapH H l q.next) := by unfold Hid swappedH swap1; rw [if_pos hok, if_pos hsw]
      have MV : Hid (moveW H ⟨k, x, y, 1, l, (i : Int), o, 0⟩ = (swapH H l q.next, ⟨k, x, y, 1, l, q.next, o, 0⟩)) := by unfold Hid moveW; rw [if_neg hst, if_pos (by show (nth H (i : Int)).gone = true; rw [en2.out]; exact hg), if_pos (by show swapOk H l (i : Int) (nth H (i : Int)).next; rw [en2.out]; exact hsw)]; simp only [en2.out]
      rw [MV.out] at NX
      have hli : l.toNat ≠ i := fun z => by
        have z1 := hsw.1.2.1
        rw [show l = (i : Int) by have := hlh.1; omega, en2.out, hg] at z1; cases z1
      have hil : i < (swapH H l q.next).length := by rw [swapH_len]; exact hi1
      have hil0 : 1 ≤ (swapH H l q.next).length := by rw [swapH_len]; exact h1
      have hle : Hid ((swapH H l q.next).length = H.length) := swapH_len _ _ _
      have eni : Hid ((swapH H l q.next)[i].next = q.next) := by unfold Hid; have z : (swapH H l q.next)[i] = H[i] := (by simp [swapH, hli]); rw [z, hq.out]
      clear hok ok o3 hb CE hlh hsw hst hli
      go_wp2
      go_step3
      refine scoped_goto rfl ?_
      go_wp2
      try go_frame
      go_big_quiet (fail)
      have PMN : Pm w0 (w.drewN nq) b4 b7 (.slice (some ⟨g, 0, none⟩) H.length cap) H ⟨k, x, y, 1, l, (i : Int), o, 0⟩ := PM.out.drewN nq
      have e2N : (w.drewN nq).cell? ⟨g, i * 4 + 2, none⟩ = some (.int .i64 q.next) := e2
      have e3N : (w.drewN nq).cell? ⟨g, i * 4 + 3, none⟩ = some (.bool true) := e3
      have hg2N : g < (w.drewN nq).heap.size := hg2
      obtain ⟨W, hW⟩ : ∃ W, w.drewN nq = W := ⟨_, rfl⟩
      rw [hW] at PMN hg2N e2N e3N ⊢
      clear c0 c1 c2 c3 c4 c5 c6 c7 f0 f1 f2 f3 f4 f5 f6 f7 PM hW
      clear e2
      have e2 := e2N
      clear e2N
      clear e3
      have e3 := e3N
      clear e3N
      have PM : Hid (Pm w0 W b4 b7 (.slice (some ⟨g, 0, none⟩) H.length cap) H ⟨k, x, y, 1, l, (i : Int), o, 0⟩) := PMN
      have hb := PMN.hand
      clear PMN
      obtain ⟨c0, c1, c2, c3, c4, c5, c6, c7⟩ := hb.cells
      obtain ⟨f0, f1, f2, f3, f4, f5, f6, f7⟩ := hb.fz
      have RW : Hid (Rd W W.heap.size (.slice (some ⟨g, 0, none⟩) H.length cap) H) := PM.out.rd
      clear RR
      go_wp2
      have S0 : W.drew.cell? ⟨b4, 4, none⟩ = some (.int .i64 l) ∧ W.drew.cell? ⟨b4, 5, none⟩ = some (.int .i64 (i : Int)) ∧ W.drew.cell? ⟨g, i * 4 + 2, none⟩ = some (.int .i64 q.next) := ⟨c4, c5, e2⟩
      go_region_held3 (fun w' => w'.cell? ⟨b4, 4, none⟩ = some (.int .i64 l) ∧ w'.cell? ⟨b4, 5, none⟩ = some (.int .i64 (i : Int)) ∧ w'.cell? ⟨g, i * 4 + 2, none⟩ = some (.int .i64 q.next)) (first | assumption | exact S0 | (fail)) (first | (go_at_call 131; refine (implSwapped_any H l (i : Int) q.next _ W.heap.size W.drew (Nat.le_refl _) RW.out.drew).mono ?_; rintro er w1 ⟨v', he, hO', hB1⟩; rw [SB.out] at he; rw [SH.out] at hO'; subst he; have p1 : Pm w0 w1 b4 b7 v' (swapH H l q.next) ⟨k, x, y, 1, l, (i : Int), o, 0⟩ := PM.out.drew.fresh hB1 hO'; have S1 := And.intro p1.hand.cells.2.2.2.2.1 (And.intro p1.hand.cells.2.2.2.2.2.1 ((World.cell?_of_block (w := W.drew) (w' := w1) (a := ⟨g, i * 4 + 2, none⟩) (hB1.block g hg2N)).trans e2))) | (fail))
      obtain ⟨g1, cap1, rfl, hg11, hg12, -⟩ := hO'.form hil0
      obtain ⟨-, -, d2, -⟩ := hO'.cell i hil
      rw [eni.out] at d2
      have hb1 := p1.hand
      clear c0 c1 c2 c3 c4 c5 c6 c7 hb
      obtain ⟨c0, c1, c2, c3, c4, c5, c6, c7⟩ := hb1.cells
      have hi2' : (i : Int) < ((swapH H l q.next).length : Int) := by rw [hle.out]; exact hi1'
      go_wp2_with (first | (refine wpList_store_f rfl _ _ rfl b4 5 q.next rfl rfl ⟨k, x, y, 1, l, q.next, o, 0⟩ (by omega) hb1 rfl ?_; intro w2 hO2 hb2; have p2 := p1.turn hO2 hb2) | (fail))
      go_step3
      exact NX.out _ _ _ _ _ _ _ _ _ _ _ _ _ _ _ _ _ _ _ _ _ _ _ _ _ _ _ _ _ _ _ _ _ _ _ _ _ _ _ _ _ _ _ _ _ _ _ _ _ _ _ _ _ _ _ _ _ _ _ _ _ _ _ _ _ _ _ _ _ _ _ _ _ _ _ _ _ _ _ _ _ _ _ _ _ _ _ _ _ _ _ _ _ _ _ _ _ _ _ _ _ _ _ _ _ _ _ _ _ _ _ _ _ _ _ _ _ _ _ _ _ _ _ _ _ _ _ _ _ _ _ _ _ _ _ _ _ _ _ _ _ _ _ (p2)
    · have SB : Hid (swappedB H l (i : Int) q.next = false) := by unfold Hid swappedB; rw [if_pos hok]; exact decide_eq_false hsw
      have SH : Hid (swappedH H l (i : Int) q.next = H) := by unfold Hid swappedH swap1; rw [if_pos hok, if_neg hsw]
      have MV : Hid (moveW H ⟨k, x, y, 1, l, (i : Int), o, 0⟩ = (H, ⟨k, x, y, 0, -1, -1, o, 0⟩)) := by unfold Hid moveW; rw [if_neg hst, if_pos (by show (nth H (i : Int)).gone = true; rw [en2.out]; exact hg), if_neg (by show ¬ swapOk H l (i : Int) (nth H (i : Int)).next; rw [en2.out]; exact hsw)]; rfl
      rw [MV.out] at NX
      clear hok ok o3 hb CE hlh hsw hst
      go_wp2
      go_step3
      refine scoped_goto rfl ?_
      go_wp2
      try go_frame
      go_big_quiet (fail)
      have PMN : Pm w0 (w.drewN nq) b4 b7 (.slice (some ⟨g, 0, none⟩) H.length cap) H ⟨k, x, y, 1, l, (i : Int), o, 0⟩ := PM.out.drewN nq
      have e2N : (w.drewN nq).cell? ⟨g, i * 4 + 2, none⟩ = some (.int .i64 q.next) := e2
      have e3N : (w.drewN nq).cell? ⟨g, i * 4 + 3, none⟩ = some (.bool true) := e3
      have hg2N : g < (w.drewN nq).heap.size := hg2
      obtain ⟨W, hW⟩ : ∃ W, w.drewN nq = W := ⟨_, rfl⟩
      rw [hW] at PMN hg2N e2N e3N ⊢
      clear c0 c1 c2 c3 c4 c5 c6 c7 f0 f1 f2 f3 f4 f5 f6 f7 PM hW
      clear e2
      have e2 := e2N
      clear e2N
      clear e3
      have e3 := e3N
      clear e3N
      have PM : Hid (Pm w0 W b4 b7 (.slice (some ⟨g, 0, none⟩) H.length cap) H ⟨k, x, y, 1, l, (i : Int), o, 0⟩) := PMN
      have hb := PMN.hand
      clear PMN
      obtain ⟨c0, c1, c2, c3, c4, c5, c6, c7⟩ := hb.cells
      obtain ⟨f0, f1, f2, f3, f4, f5, f6, f7⟩ := hb.fz
      have RW : Hid (Rd W W.heap.size (.slice (some ⟨g, 0, none⟩) H.length cap) H) := PM.out.rd
      clear RR
      go_wp2
      have S0 : W.drew.cell? ⟨b4, 4, none⟩ = some (.int .i64 l) ∧ W.drew.cell? ⟨b4, 5, none⟩ = some (.int .i64 (i : Int)) ∧ W.drew.cell? ⟨g, i * 4 + 2, none⟩ = some (.int .i64 q.next) := ⟨c4, c5, e2⟩
      go_region_held3 (fun w' => w'.cell? ⟨b4, 4, none⟩ = some (.int .i64 l) ∧ w'.cell? ⟨b4, 5, none⟩ = some (.int .i64 (i : Int)) ∧ w'.cell? ⟨g, i * 4 + 2, none⟩ = some (.int .i64 q.next)) (first | assumption | exact S0 | (fail)) (first | (go_at_call 131; refine (implSwapped_any H l (i : Int) q.next _ W.heap.size W.drew (Nat.le_refl _) RW.out.drew).mono ?_; rintro er w1 ⟨v', he, hO', hB1⟩; rw [SB.out] at he; rw [SH.out] at hO'; subst he; have p1 : Pm w0 w1 b4 b7 v' H ⟨k, x, y, 1, l, (i : Int), o, 0⟩ := PM.out.drew.fresh hB1 hO'; have S1 := And.intro p1.hand.cells.2.2.2.2.1 (And.intro p1.hand.cells.2.2.2.2.2.1 ((World.cell?_of_block (w := W.drew) (w' := w1) (a := ⟨g, i * 4 + 2, none⟩) (hB1.block g hg2N)).trans e2))) | (fail))
      clear c0 c1 c2 c3 c4 c5 c6 c7 hb
      go_wp2
      go_step3
      refine scoped_goto rfl ?_
      obtain ⟨c0, c1, c2, c3, c4, c5, c6, c7⟩ := p1.hand.cells
      go_wp2_with (first | (go_at_call 134; refine (rested_any ⟨k, x, y, 1, l, (i : Int), o, 0⟩ 0 0 _).mono ?_; rintro er w2 ⟨rfl, hB2⟩; dsimp only [restD, hv]; have p2 := p1.call hB2) | (refine wpList_store_v rfl 58 _ _ rfl b4 (hv ⟨k, x, y, 0, -1, -1, o, 0⟩) rfl rfl sizeH p2.hand.blk rfl (hv_one _) ?_; intro w3 hO3 hV3; have p3 := p2.turn hO3 (d' := ⟨k, x, y, 0, -1, -1, o, 0⟩) ⟨hV3⟩) | (fail))
      go_step3
      exact NX.out _ _ _ _ _ _ _ _ _ _ _ _ _ _ _ _ _ _ _ _ _ _ _ _ _ _ _ _ _ _ _ _ _ _ _ _ _ _ _ _ _ _ _ _ _ _ _ _ _ _ _ _ _ _ _ _ _ _ _ _ _ _ _ _ _ _ _ _ _ _ _ _ _ _ _ _ _ _ _ _ _ _ _ _ _ _ _ _ _ _ _ _ _ _ _ _ _ _ _ _ _ _ _ _ _ _ _ _ _ _ _ _ _ _ _ _ _ _ _ _ _ _ _ _ _ _ _ _ _ _ _ _ _ _ _ _ _ _ _ _ _ _ _ (p3)
  | false =>
    rw [hg] at e3
    by_cases hkx : q.key ≥ x
    · have gk : decide (q.key ≥ x) = true := decide_eq_true hkx
      have MV : Hid (moveW H ⟨k, x, y, 1, l, (i : Int), o, 0⟩ = (H, ⟨k, x, y, 2, l, (i : Int), o, 0⟩)) := by unfold Hid moveW; rw [if_pos (.inr ⟨by show (nth H (i : Int)).gone = false; rw [en2.out]; exact hg, by show x ≤ (nth H (i : Int)).key; rw [en2.out]; exact hkx⟩)]
      rw [MV.out] at NX
      clear hok ok o3 hb CE hlh
      go_wp2
      go_step3
      refine scoped_goto rfl ?_
      go_wp2
      try go_frame
      go_big_quiet (fail)
      have PMN : Pm w0 (w.drewN nq) b4 b7 (.slice (some ⟨g, 0, none⟩) H.length cap) H ⟨k, x, y, 1, l, (i : Int), o, 0⟩ := PM.out.drewN nq
      have hg2N : g < (w.drewN nq).heap.size := hg2
      obtain ⟨W, hW⟩ : ∃ W, w.drewN nq = W := ⟨_, rfl⟩
      rw [hW] at PMN hg2N ⊢
      clear c0 c1 c2 c3 c4 c5 c6 c7 f0 f1 f2 f3 f4 f5 f6 f7 PM hW
      have PM : Hid (Pm w0 W b4 b7 (.slice (some ⟨g, 0, none⟩) H.length cap) H ⟨k, x, y, 1, l, (i : Int), o, 0⟩) := PMN
      have hb := PMN.hand
      clear PMN
      obtain ⟨c0, c1, c2, c3, c4, c5, c6, c7⟩ := hb.cells
      obtain ⟨f0, f1, f2, f3, f4, f5, f6, f7⟩ := hb.fz
      go_wp2_with (first | (refine wpList_store_f rfl _ _ rfl b4 3 2 rfl rfl ⟨k, x, y, 2, l, (i : Int), o, 0⟩ (by omega) hb rfl ?_; intro w2 hO2 hb2; have p2 := PM.out.turn hO2 hb2) | (fail))
      go_step3
      exact NX.out _ _ _ _ _ _ _ _ _ _ _ _ _ _ _ _ _ _ _ _ _ _ _ _ _ _ _ _ _ _ _ _ _ _ _ _ _ _ _ _ _ _ _ _ _ _ _ _ _ _ _ _ _ _ _ _ _ _ _ _ _ _ _ _ _ _ _ _ _ _ _ _ _ _ _ _ _ _ _ _ _ _ _ _ _ _ _ _ _ _ _ _ _ _ _ _ _ _ _ _ _ _ _ _ _ _ _ _ _ _ _ _ _ _ _ _ _ _ _ _ _ _ _ _ _ _ _ _ _ _ _ _ _ _ _ _ _ _ _ _ _ _ _ (p2)
    · have gk : decide (q.key ≥ x) = false := decide_eq_false hkx
      have hst : ¬ stops H ⟨k, x, y, 1, l, (i : Int), o, 0⟩ := by
        rintro (z | z)
        · have z : (i : Int) = -1 := z; omega
        · have z1 : x ≤ (nth H (i : Int)).key := z.2; rw [en2.out] at z1; exact hkx z1
      have hng : ¬ (nth H (i : Int)).gone = true := by rw [en2.out, hg]; simp
      have MV : Hid (moveW H ⟨k, x, y, 1, l, (i : Int), o, 0⟩ = (H, ⟨k, x, y, 1, (i : Int), q.next, o, 0⟩)) := by unfold Hid moveW; rw [if_neg hst, if_neg hng]; simp only [en2.out]
      rw [MV.out] at NX
      clear hok ok o3 hb CE hlh hst hng
      go_wp2
      go_step3
      refine scoped_goto rfl ?_
      go_wp2
      try go_frame
      go_big_quiet (fail)
      have PMN : Pm w0 (w.drewN nq) b4 b7 (.slice (some ⟨g, 0, none⟩) H.length cap) H ⟨k, x, y, 1, l, (i : Int), o, 0⟩ := PM.out.drewN nq
      have e2N : (w.drewN nq).cell? ⟨g, i * 4 + 2, none⟩ = some (.int .i64 q.next) := e2
      have e3N : (w.drewN nq).cell? ⟨g, i * 4 + 3, none⟩ = some (.bool false) := e3
      have hg2N : g < (w.drewN nq).heap.size := hg2
      obtain ⟨W, hW⟩ : ∃ W, w.drewN nq = W := ⟨_, rfl⟩
      rw [hW] at PMN hg2N e2N e3N ⊢
      clear c0 c1 c2 c3 c4 c5 c6 c7 f0 f1 f2 f3 f4 f5 f6 f7 PM hW
      clear e2
      have e2 := e2N
      clear e2N
      clear e3
      have e3 := e3N
      clear e3N
      have PM : Hid (Pm w0 W b4 b7 (.slice (some ⟨g, 0, none⟩) H.length cap) H ⟨k, x, y, 1, l, (i : Int), o, 0⟩) := PMN
      have hb := PMN.hand
      clear PMN
      obtain ⟨c0, c1, c2, c3, c4, c5, c6, c7⟩ := hb.cells
      obtain ⟨f0, f1, f2, f3, f4, f5, f6, f7⟩ := hb.fz
      have HBH : Hid (HB W b4 ⟨k, x, y, 1, l, (i : Int), o, 0⟩) := hb
      clear hb
      go_wp2
      go_region
      go_wp2
      go_step3
      have t1 := PM.out.turn (only_set W b4 4 (.int .i64 (i : Int))) (HBH.out.set 4 (i : Int) ⟨k, x, y, 1, (i : Int), (i : Int), o, 0⟩ rfl)
      have t2 := t1.turn (only_set _ b4 5 (.int .i64 q.next)) (t1.hand.set 5 q.next ⟨k, x, y, 1, (i : Int), q.next, o, 0⟩ rfl)
      exact NX.out _ _ _ _ _ _ _ _ _ _ _ _ _ _ _ _ _ _ _ _ _ _ _ _ _ _ _ _ _ _ _ _ _ _ _ _ _ _ _ _ _ _ _ _ _ _ _ _ _ _ _ _ _ _ _ _ _ _ _ _ _ _ _ _ _ _ _ _ _ _ _ _ _ _ _ _ _ _ _ _ _ _ _ _ _ _ _ _ _ _ _ _ _ _ _ _ _ _ _ _ _ _ _ _ _ _ _ _ _ _ _ _ _ _ _ _ _ _ _ _ _ _ _ _ _ _ _ _ _ _ _ _ _ _ _ _ _ _ _ _ _ _ _ (t2.drew)
end Go.Proofs.Ythjkhghlhjndmaa.ce
