/- The program's played: the link and the mark. -/
import Derived.Test.YthjkhghlhjndmaaMg15
namespace Go.Proofs.Ythjkhghlhjndmaa.ce
open Go.ChangeShapes Go.WideShapes Go.ChangeAt Go.RowKit
set_option linter.unusedVariables false

set_option maxRecDepth 100000 in
set_option maxHeartbeats 4000000 in
theorem pass_link (w0 : World) (b4 b7 : Nat) (m : Int) (hm : 1 ≤ m) (hm2 : m ≤ 1000) (H : List C) (k x y l e o t : Int) (hok : heapOk H) (ok : OkH H ⟨k, x, y, 3, l, e, o, t⟩) (w : World) (v u1 u3 u5 u6 u8 u9 u10 u11 u12 u13 u14 u15 u16 u17 u18 u19 u20 u21 u22 u23 u24 u25 u26 u27 u28 u29 u30 u31 u32 u33 u34 u35 u36 u37 u38 u39 u40 u41 u42 u43 u44 u45 u46 u47 u48 u49 u50 u51 u52 u53 u54 u55 u56 u57 u58 u59 u60 u61 u62 u63 u64 u65 u66 u67 u68 u69 u70 u71 u72 u73 u74 u75 u76 u77 u78 u79 u80 u81 u82 u83 u84 u85 u86 u87 u88 u89 u90 u91 u92 u93 u94 u95 u96 u97 u98 u99 u100 u101 u102 u103 u104 u105 u106 u107 u108 u109 u110 u111 u112 u113 u114 u115 u116 u117 u118 u119 u120 u121 u122 u123 u124 u125 u126 u127 u128 u129 u130 u131 u132 u133 u134 u135 u136 u137 u138 u139 u140 u141 u142 u143 u144 : Value) (pm : Pm w0 w b4 b7 v H ⟨k, x, y, 3, l, e, o, t⟩) (Q : Exit → Act → World → Prop)
    (hnext : ∀ (w' : World) (v u1 u3 u5 u6 u8 u9 u10 u11 u12 u13 u14 u15 u16 u17 u18 u19 u20 u21 u22 u23 u24 u25 u26 u27 u28 u29 u30 u31 u32 u33 u34 u35 u36 u37 u38 u39 u40 u41 u42 u43 u44 u45 u46 u47 u48 u49 u50 u51 u52 u53 u54 u55 u56 u57 u58 u59 u60 u61 u62 u63 u64 u65 u66 u67 u68 u69 u70 u71 u72 u73 u74 u75 u76 u77 u78 u79 u80 u81 u82 u83 u84 u85 u86 u87 u88 u89 u90 u91 u92 u93 u94 u95 u96 u97 u98 u99 u100 u101 u102 u103 u104 u105 u106 u107 u108 u109 u110 u111 u112 u113 u114 u115 u116 u117 u118 u119 u120 u121 u122 u123 u124 u125 u126 u127 u128 u129 u130 u131 u132 u133 u134 u135 u136 u137 u138 u139 u140 u141 u142 u143 u144 : Value), Pm w0 w' b4 b7 v (moveL H ⟨k, x, y, 3, l, e, o, t⟩).1 (moveL H ⟨k, x, y, 3, l, e, o, t⟩).2 → Scoped Try.prog body Q (.goto 0) { tmps := #[v, u1, .int .i64 (m - 1), u3, .pointer (some ⟨b4, 0, none⟩), u5, u6, .pointer (some ⟨b7, 0, none⟩), u8, u9, u10, u11, u12, u13, u14, u15, u16, u17, u18, u19, u20, u21, u22, u23, u24, u25, u26, u27, u28, u29, u30, u31, u32, u33, u34, u35, u36, u37, u38, u39, u40, u41, u42, u43, u44, u45, u46, u47, u48, u49, u50, u51, u52, u53, u54, u55, u56, u57, u58, u59, u60, u61, u62, u63, u64, u65, u66, u67, u68, u69, u70, u71, u72, u73, u74, u75, u76, u77, u78, u79, u80, u81, u82, u83, u84, u85, u86, u87, u88, u89, u90, u91, u92, u93, u94, u95, u96, u97, u98, u99, u100, u101, u102, u103, u104, u105, u106, u107, u108, u109, u110, u111, u112, u113, u114, u115, u116, u117, u118, u119, u120, u121, u122, u123, u124, u125, u126, u127, u128, u129, u130, u131, u132, u133, u134, u135, u136, u137, u138, u139, u140, u141, u142, u143, u144], defers := [] } w')
    (rest : Code) (hr : findLabel body 0 = some (.seq .skip rest)) :
    rest.wp Try.prog (Scoped Try.prog body Q) { tmps := #[v, u1, .int .i64 m, u3, .pointer (some ⟨b4, 0, none⟩), u5, u6, .pointer (some ⟨b7, 0, none⟩), u8, u9, u10, u11, u12, u13, u14, u15, u16, u17, u18, u19, u20, u21, u22, u23, u24, u25, u26, u27, u28, u29, u30, u31, u32, u33, u34, u35, u36, u37, u38, u39, u40, u41, u42, u43, u44, u45, u46, u47, u48, u49, u50, u51, u52, u53, u54, u55, u56, u57, u58, u59, u60, u61, u62, u63, u64, u65, u66, u67, u68, u69, u70, u71, u72, u73, u74, u75, u76, u77, u78, u79, u80, u81, u82, u83, u84, u85, u86, u87, u88, u89, u90, u91, u92, u93, u94, u95, u96, u97, u98, u99, u100, u101, u102, u103, u104, u105, u106, u107, u108, u109, u110, u111, u112, u113, u114, u115, u116, u117, u118, u119, u120, u121, u122, u123, u124, u125, u126, u127, u128, u129, u130, u131, u132, u133, u134, u135, u136, u137, u138, u139, u140, u141, u142, u143, u144], defers := [] } w := by
  obtain rfl := (Code.seq.inj (Option.some.inj ((rfl : findLabel body 0 = some (.seq .skip _)).symm.trans hr))).2
  clear hr
  have hm1 : ¬ m - 1 < 0 := by omega
  have NX : Hid (∀ (w' : World) (v u1 u3 u5 u6 u8 u9 u10 u11 u12 u13 u14 u15 u16 u17 u18 u19 u20 u21 u22 u23 u24 u25 u26 u27 u28 u29 u30 u31 u32 u33 u34 u35 u36 u37 u38 u39 u40 u41 u42 u43 u44 u45 u46 u47 u48 u49 u50 u51 u52 u53 u54 u55 u56 u57 u58 u59 u60 u61 u62 u63 u64 u65 u66 u67 u68 u69 u70 u71 u72 u73 u74 u75 u76 u77 u78 u79 u80 u81 u82 u83 u84 u85 u86 u87 u88 u89 u90 u91 u92 u93 u94 u95 u96 u97 u98 u99 u100 u101 u102 u103 u104 u105 u106 u107 u108 u109 u110 u111 u112 u113 u114 u115 u116 u117 u118 u119 u120 u121 u122 u123 u124 u125 u126 u127 u128 u129 u130 u131 u132 u133 u134 u135 u136 u137 u138 u139 u140 u141 u142 u143 u144 : Value), Pm w0 w' b4 b7 v (moveL H ⟨k, x, y, 3, l, e, o, t⟩).1 (moveL H ⟨k, x, y, 3, l, e, o, t⟩).2 → Scoped Try.prog body Q (.goto 0) { tmps := #[v, u1, .int .i64 (m - 1), u3, .pointer (some ⟨b4, 0, none⟩), u5, u6, .pointer (some ⟨b7, 0, none⟩), u8, u9, u10, u11, u12, u13, u14, u15, u16, u17, u18, u19, u20, u21, u22, u23, u24, u25, u26, u27, u28, u29, u30, u31, u32, u33, u34, u35, u36, u37, u38, u39, u40, u41, u42, u43, u44, u45, u46, u47, u48, u49, u50, u51, u52, u53, u54, u55, u56, u57, u58, u59, u60, u61, u62, u63, u64, u65, u66, u67, u68, u69, u70, u71, u72, u73, u74, u75, u76, u77, u78, u79, u80, u81, u82, u83, u84, u85, u86, u87, u88, u89, u90, u91, u92, u93, u94, u95, u96, u97, u98, u99, u100, u101, u102, u103, u104, u105, u106, u107, u108, u109, u110, u111, u112, u113, u114, u115, u116, u117, u118, u119, u120, u121, u122, u123, u124, u125, u126, u127, u128, u129, u130, u131, u132, u133, u134, u135, u136, u137, u138, u139, u140, u141, u142, u143, u144], defers := [] } w') := hnext
  have PM : Hid (Pm w0 w b4 b7 v H ⟨k, x, y, 3, l, e, o, t⟩) := pm
  have hb := pm.hand
  have h1 := hok.1.1
  obtain ⟨lo, o1, o2, o3⟩ := pm.own
  obtain ⟨g, cap, rfl, hg1, hg2, -⟩ := o3.form h1
  have R := o3.rd
  have ng1 : g ≠ b4 := by omega
  have ng2 : b4 ≠ g := by omega
  have CE : Hid (∀ (i : Nat) (hi : i < H.length), _) := fun i hi => o3.cell i hi
  obtain ⟨c0, c1, c2, c3, c4, c5, c6, c7⟩ := hb.cells
  obtain ⟨f0, f1, f2, f3, f4, f5, f6, f7⟩ := hb.fz
  clear hnext pm
  have ht : t = 0 := told_of ok (by simp)
  subst ht
  have RR : Hid (Rd w w.heap.size (.slice (some ⟨g, 0, none⟩) H.length cap) H) := R
  clear R
  by_cases hsw : swapOk H l e o
  · have SB : Hid (swappedB H l e o = true) := by unfold Hid swappedB; rw [if_pos hok]; exact decide_eq_true hsw
    have SH : Hid (swappedH H l e o = swapH H l o) := by unfold Hid swappedH swap1; rw [if_pos hok, if_pos hsw]
    have MV : Hid (moveL H ⟨k, x, y, 3, l, e, o, 0⟩ = (swapH H l o, ⟨k, x, y, 5, -1, -1, o, 1⟩)) := by unfold Hid moveL; rw [if_pos hsw]; rfl
    rw [MV.out] at NX
    clear hok ok o3 hb CE hsw
    go_wp2
    go_step3
    refine scoped_goto rfl ?_
    go_wp2_with (first | (go_at_call 131; refine (implSwapped_any H l e o _ w.heap.size w (Nat.le_refl _) RR.out).mono ?_; rintro er w1 ⟨v', he, hO', hB1⟩; rw [SB.out] at he; rw [SH.out] at hO'; subst he; have p1 : Pm w0 w1 b4 b7 v' (swapH H l o) ⟨k, x, y, 3, l, e, o, 0⟩ := PM.out.fresh hB1 hO') | (fail))
    clear c0 c1 c2 c3 c4 c5 c6 c7
    go_step3
    refine scoped_goto rfl ?_
    obtain ⟨c0, c1, c2, c3, c4, c5, c6, c7⟩ := p1.hand.cells
    go_wp2_with (first | (go_at_call 134; refine (rested_any ⟨k, x, y, 3, l, e, o, 0⟩ 5 1 _).mono ?_; rintro er w2 ⟨rfl, hB2⟩; dsimp only [restD, hv]; have p2 := p1.call hB2) | (refine wpList_store_v rfl 58 _ _ rfl b4 (hv ⟨k, x, y, 5, -1, -1, o, 1⟩) rfl rfl sizeH p2.hand.blk rfl (hv_one _) ?_; intro w3 hO3 hV3; have p3 := p2.turn hO3 (d' := ⟨k, x, y, 5, -1, -1, o, 1⟩) ⟨hV3⟩) | (fail))
    go_step3
    exact NX.out _ _ _ _ _ _ _ _ _ _ _ _ _ _ _ _ _ _ _ _ _ _ _ _ _ _ _ _ _ _ _ _ _ _ _ _ _ _ _ _ _ _ _ _ _ _ _ _ _ _ _ _ _ _ _ _ _ _ _ _ _ _ _ _ _ _ _ _ _ _ _ _ _ _ _ _ _ _ _ _ _ _ _ _ _ _ _ _ _ _ _ _ _ _ _ _ _ _ _ _ _ _ _ _ _ _ _ _ _ _ _ _ _ _ _ _ _ _ _ _ _ _ _ _ _ _ _ _ _ _ _ _ _ _ _ _ _ _ _ _ _ _ _ (p3)
  · have SB : Hid (swappedB H l e o = false) := by unfold Hid swappedB; rw [if_pos hok]; exact decide_eq_false hsw
    have SH : Hid (swappedH H l e o = H) := by unfold Hid swappedH swap1; rw [if_pos hok, if_neg hsw]
    have MV : Hid (moveL H ⟨k, x, y, 3, l, e, o, 0⟩ = (H, ⟨k, x, y, 0, -1, -1, o, 0⟩)) := by unfold Hid moveL; rw [if_neg hsw]; rfl
    rw [MV.out] at NX
    clear hok ok o3 hb CE hsw
    go_wp2
    go_step3
    refine scoped_goto rfl ?_
    go_wp2_with (first | (go_at_call 131; refine (implSwapped_any H l e o _ w.heap.size w (Nat.le_refl _) RR.out).mono ?_; rintro er w1 ⟨v', he, hO', hB1⟩; rw [SB.out] at he; rw [SH.out] at hO'; subst he; have p1 : Pm w0 w1 b4 b7 v' H ⟨k, x, y, 3, l, e, o, 0⟩ := PM.out.fresh hB1 hO') | (fail))
    clear c0 c1 c2 c3 c4 c5 c6 c7
    go_step3
    refine scoped_goto rfl ?_
    obtain ⟨c0, c1, c2, c3, c4, c5, c6, c7⟩ := p1.hand.cells
    go_wp2_with (first | (go_at_call 134; refine (rested_any ⟨k, x, y, 3, l, e, o, 0⟩ 0 0 _).mono ?_; rintro er w2 ⟨rfl, hB2⟩; dsimp only [restD, hv]; have p2 := p1.call hB2) | (refine wpList_store_v rfl 58 _ _ rfl b4 (hv ⟨k, x, y, 0, -1, -1, o, 0⟩) rfl rfl sizeH p2.hand.blk rfl (hv_one _) ?_; intro w3 hO3 hV3; have p3 := p2.turn hO3 (d' := ⟨k, x, y, 0, -1, -1, o, 0⟩) ⟨hV3⟩) | (fail))
    go_step3
    exact NX.out _ _ _ _ _ _ _ _ _ _ _ _ _ _ _ _ _ _ _ _ _ _ _ _ _ _ _ _ _ _ _ _ _ _ _ _ _ _ _ _ _ _ _ _ _ _ _ _ _ _ _ _ _ _ _ _ _ _ _ _ _ _ _ _ _ _ _ _ _ _ _ _ _ _ _ _ _ _ _ _ _ _ _ _ _ _ _ _ _ _ _ _ _ _ _ _ _ _ _ _ _ _ _ _ _ _ _ _ _ _ _ _ _ _ _ _ _ _ _ _ _ _ _ _ _ _ _ _ _ _ _ _ _ _ _ _ _ _ _ _ _ _ _ (p3)

set_option maxRecDepth 100000 in
set_option maxHeartbeats 4000000 in
theorem pass_mark (w0 : World) (b4 b7 : Nat) (m : Int) (hm : 1 ≤ m) (hm2 : m ≤ 1000) (H : List C) (k x y l e o t : Int) (hok : heapOk H) (ok : OkH H ⟨k, x, y, 4, l, e, o, t⟩) (w : World) (v u1 u3 u5 u6 u8 u9 u10 u11 u12 u13 u14 u15 u16 u17 u18 u19 u20 u21 u22 u23 u24 u25 u26 u27 u28 u29 u30 u31 u32 u33 u34 u35 u36 u37 u38 u39 u40 u41 u42 u43 u44 u45 u46 u47 u48 u49 u50 u51 u52 u53 u54 u55 u56 u57 u58 u59 u60 u61 u62 u63 u64 u65 u66 u67 u68 u69 u70 u71 u72 u73 u74 u75 u76 u77 u78 u79 u80 u81 u82 u83 u84 u85 u86 u87 u88 u89 u90 u91 u92 u93 u94 u95 u96 u97 u98 u99 u100 u101 u102 u103 u104 u105 u106 u107 u108 u109 u110 u111 u112 u113 u114 u115 u116 u117 u118 u119 u120 u121 u122 u123 u124 u125 u126 u127 u128 u129 u130 u131 u132 u133 u134 u135 u136 u137 u138 u139 u140 u141 u142 u143 u144 : Value) (pm : Pm w0 w b4 b7 v H ⟨k, x, y, 4, l, e, o, t⟩) (Q : Exit → Act → World → Prop)
    (hnext : ∀ (w' : World) (v u1 u3 u5 u6 u8 u9 u10 u11 u12 u13 u14 u15 u16 u17 u18 u19 u20 u21 u22 u23 u24 u25 u26 u27 u28 u29 u30 u31 u32 u33 u34 u35 u36 u37 u38 u39 u40 u41 u42 u43 u44 u45 u46 u47 u48 u49 u50 u51 u52 u53 u54 u55 u56 u57 u58 u59 u60 u61 u62 u63 u64 u65 u66 u67 u68 u69 u70 u71 u72 u73 u74 u75 u76 u77 u78 u79 u80 u81 u82 u83 u84 u85 u86 u87 u88 u89 u90 u91 u92 u93 u94 u95 u96 u97 u98 u99 u100 u101 u102 u103 u104 u105 u106 u107 u108 u109 u110 u111 u112 u113 u114 u115 u116 u117 u118 u119 u120 u121 u122 u123 u124 u125 u126 u127 u128 u129 u130 u131 u132 u133 u134 u135 u136 u137 u138 u139 u140 u141 u142 u143 u144 : Value), Pm w0 w' b4 b7 v (moveM H ⟨k, x, y, 4, l, e, o, t⟩).1 (moveM H ⟨k, x, y, 4, l, e, o, t⟩).2 → Scoped Try.prog body Q (.goto 0) { tmps := #[v, u1, .int .i64 (m - 1), u3, .pointer (some ⟨b4, 0, none⟩), u5, u6, .pointer (some ⟨b7, 0, none⟩), u8, u9, u10, u11, u12, u13, u14, u15, u16, u17, u18, u19, u20, u21, u22, u23, u24, u25, u26, u27, u28, u29, u30, u31, u32, u33, u34, u35, u36, u37, u38, u39, u40, u41, u42, u43, u44, u45, u46, u47, u48, u49, u50, u51, u52, u53, u54, u55, u56, u57, u58, u59, u60, u61, u62, u63, u64, u65, u66, u67, u68, u69, u70, u71, u72, u73, u74, u75, u76, u77, u78, u79, u80, u81, u82, u83, u84, u85, u86, u87, u88, u89, u90, u91, u92, u93, u94, u95, u96, u97, u98, u99, u100, u101, u102, u103, u104, u105, u106, u107, u108, u109, u110, u111, u112, u113, u114, u115, u116, u117, u118, u119, u120, u121, u122, u123, u124, u125, u126, u127, u128, u129, u130, u131, u132, u133, u134, u135, u136, u137, u138, u139, u140, u141, u142, u143, u144], defers := [] } w')
    (rest : Code) (hr : findLabel body 0 = some (.seq .skip rest)) :
    rest.wp Try.prog (Scoped Try.prog body Q) { tmps := #[v, u1, .int .i64 m, u3, .pointer (some ⟨b4, 0, none⟩), u5, u6, .pointer (some ⟨b7, 0, none⟩), u8, u9, u10, u11, u12, u13, u14, u15, u16, u17, u18, u19, u20, u21, u22, u23, u24, u25, u26, u27, u28, u29, u30, u31, u32, u33, u34, u35, u36, u37, u38, u39, u40, u41, u42, u43, u44, u45, u46, u47, u48, u49, u50, u51, u52, u53, u54, u55, u56, u57, u58, u59, u60, u61, u62, u63, u64, u65, u66, u67, u68, u69, u70, u71, u72, u73, u74, u75, u76, u77, u78, u79, u80, u81, u82, u83, u84, u85, u86, u87, u88, u89, u90, u91, u92, u93, u94, u95, u96, u97, u98, u99, u100, u101, u102, u103, u104, u105, u106, u107, u108, u109, u110, u111, u112, u113, u114, u115, u116, u117, u118, u119, u120, u121, u122, u123, u124, u125, u126, u127, u128, u129, u130, u131, u132, u133, u134, u135, u136, u137, u138, u139, u140, u141, u142, u143, u144], defers := [] } w := by
  obtain rfl := (Code.seq.inj (Option.some.inj ((rfl : findLabel body 0 = some (.seq .skip _)).symm.trans hr))).2
  clear hr
  have hm1 : ¬ m - 1 < 0 := by omega
  have NX : Hid (∀ (w' : World) (v u1 u3 u5 u6 u8 u9 u10 u11 u12 u13 u14 u15 u16 u17 u18 u19 u20 u21 u22 u23 u24 u25 u26 u27 u28 u29 u30 u31 u32 u33 u34 u35 u36 u37 u38 u39 u40 u41 u42 u43 u44 u45 u46 u47 u48 u49 u50 u51 u52 u53 u54 u55 u56 u57 u58 u59 u60 u61 u62 u63 u64 u65 u66 u67 u68 u69 u70 u71 u72 u73 u74 u75 u76 u77 u78 u79 u80 u81 u82 u83 u84 u85 u86 u87 u88 u89 u90 u91 u92 u93 u94 u95 u96 u97 u98 u99 u100 u101 u102 u103 u104 u105 u106 u107 u108 u109 u110 u111 u112 u113 u114 u115 u116 u117 u118 u119 u120 u121 u122 u123 u124 u125 u126 u127 u128 u129 u130 u131 u132 u133 u134 u135 u136 u137 u138 u139 u140 u141 u142 u143 u144 : Value), Pm w0 w' b4 b7 v (moveM H ⟨k, x, y, 4, l, e, o, t⟩).1 (moveM H ⟨k, x, y, 4, l, e, o, t⟩).2 → Scoped Try.prog body Q (.goto 0) { tmps := #[v, u1, .int .i64 (m - 1), u3, .pointer (some ⟨b4, 0, none⟩), u5, u6, .pointer (some ⟨b7, 0, none⟩), u8, u9, u10, u11, u12, u13, u14, u15, u16, u17, u18, u19, u20, u21, u22, u23, u24, u25, u26, u27, u28, u29, u30, u31, u32, u33, u34, u35, u36, u37, u38, u39, u40, u41, u42, u43, u44, u45, u46, u47, u48, u49, u50, u51, u52, u53, u54, u55, u56, u57, u58, u59, u60, u61, u62, u63, u64, u65, u66, u67, u68, u69, u70, u71, u72, u73, u74, u75, u76, u77, u78, u79, u80, u81, u82, u83, u84, u85, u86, u87, u88, u89, u90, u91, u92, u93, u94, u95, u96, u97, u98, u99, u100, u101, u102, u103, u104, u105, u106, u107, u108, u109, u110, u111, u112, u113, u114, u115, u116, u117, u118, u119, u120, u121, u122, u123, u124, u125, u126, u127, u128, u129, u130, u131, u132, u133, u134, u135, u136, u137, u138, u139, u140, u141, u142, u143, u144], defers := [] } w') := hnext
  have PM : Hid (Pm w0 w b4 b7 v H ⟨k, x, y, 4, l, e, o, t⟩) := pm
  have hb := pm.hand
  have h1 := hok.1.1
  obtain ⟨lo, o1, o2, o3⟩ := pm.own
  obtain ⟨g, cap, rfl, hg1, hg2, -⟩ := o3.form h1
  have R := o3.rd
  have ng1 : g ≠ b4 := by omega
  have ng2 : b4 ≠ g := by omega
  have CE : Hid (∀ (i : Nat) (hi : i < H.length), _) := fun i hi => o3.cell i hi
  obtain ⟨c0, c1, c2, c3, c4, c5, c6, c7⟩ := hb.cells
  obtain ⟨f0, f1, f2, f3, f4, f5, f6, f7⟩ := hb.fz
  clear hnext pm
  have ht : t = 0 := told_of ok (by simp)
  subst ht
  have hmk := (ok.mark rfl).1
  have hkx : 1 ≤ x ∧ x ≤ 65535 := ok.key
  have hw := (ok.way (by simp)).2.2
  simp only [] at hw hmk
  have he1 : 1 ≤ e ∧ e < (H.length : Int) := by
    rcases hw with q | q
    · rw [q] at hmk; simp [there] at hmk; omega
    · exact q
  obtain ⟨i, rfl⟩ : ∃ i : Nat, e = i := ⟨e.toNat, by omega⟩
  have hi1 : i < H.length := by omega
  have hi1' : (i : Int) < H.length := by omega
  have en := nth_nat H i hi1
  obtain ⟨-, -, e2, -⟩ := CE.out i hi1
  obtain ⟨q, hq⟩ := hid_ex (H[i].next)
  rw [hq.out] at e2
  have RR : Hid (Rd w w.heap.size (.slice (some ⟨g, 0, none⟩) H.length cap) H) := R
  clear R hmk hkx hw
  have S0 : w.drew.cell? ⟨b4, 5, none⟩ = some (.int .i64 (i : Int)) ∧ w.drew.cell? ⟨g, i * 4 + 2, none⟩ = some (.int .i64 q) := ⟨c5, e2⟩
  cases hg : (nth H (i : Int)).gone with
  | false =>
    have hso : strikeOk H (i : Int) q := ⟨by omega, ⟨⟨by omega, he1.2⟩, hg, by rw [en, hq.out]⟩⟩
    have SB : Hid (struckB H (i : Int) q = true) := by unfold Hid struckB; rw [if_pos hok]; exact decide_eq_true hso
    have SH : Hid (struckH H (i : Int) q = strike1 H (i : Int) q) := by unfold Hid struckH; rw [if_pos hok]
    have MV : Hid (moveM H ⟨k, x, y, 4, l, (i : Int), o, 0⟩ = (strike1 H (i : Int) q, ⟨k, x, y, 5, -1, -1, o, 1⟩)) := by unfold Hid moveM; rw [if_neg (by simp [hg])]; simp [doneD, en, hq.out]
    rw [MV.out] at NX
    clear hok ok o3 hb CE hso hg en
    go_wp2
    go_step3
    refine scoped_goto rfl ?_
    go_wp2
    go_region_held3 (fun w' => w'.cell? ⟨b4, 5, none⟩ = some (.int .i64 (i : Int)) ∧ w'.cell? ⟨g, i * 4 + 2, none⟩ = some (.int .i64 q)) (first | assumption | exact S0 | (fail)) (first | (go_at_call 133; refine (implStruck_any H (i : Int) q _ w.heap.size w.drew (Nat.le_refl _) RR.out.drew).mono ?_; rintro er w1 ⟨v', he, hO', hB1⟩; rw [SB.out] at he; rw [SH.out] at hO'; subst he; have p1 : Pm w0 w1 b4 b7 v' (strike1 H (i : Int) q) ⟨k, x, y, 4, l, (i : Int), o, 0⟩ := PM.out.drew.fresh hB1 hO'; have S1 := And.intro p1.hand.cells.2.2.2.2.2.1 ((World.cell?_of_block (w := w.drew) (w' := w1) (a := ⟨g, i * 4 + 2, none⟩) (hB1.block g hg2)).trans e2)) | (fail))
    clear c0 c1 c2 c3 c4 c5 c6 c7
    go_wp2
    go_step3
    refine scoped_goto rfl ?_
    obtain ⟨c0, c1, c2, c3, c4, c5, c6, c7⟩ := p1.hand.cells
    go_wp2_with (first | (go_at_call 134; refine (rested_any ⟨k, x, y, 4, l, (i : Int), o, 0⟩ 5 1 _).mono ?_; rintro er w2 ⟨rfl, hB2⟩; dsimp only [restD, hv]; have p2 := p1.call hB2) | (refine wpList_store_v rfl 58 _ _ rfl b4 (hv ⟨k, x, y, 5, -1, -1, o, 1⟩) rfl rfl sizeH p2.hand.blk rfl (hv_one _) ?_; intro w3 hO3 hV3; have p3 := p2.turn hO3 (d' := ⟨k, x, y, 5, -1, -1, o, 1⟩) ⟨hV3⟩) | (fail))
    go_step3
    exact NX.out _ _ _ _ _ _ _ _ _ _ _ _ _ _ _ _ _ _ _ _ _ _ _ _ _ _ _ _ _ _ _ _ _ _ _ _ _ _ _ _ _ _ _ _ _ _ _ _ _ _ _ _ _ _ _ _ _ _ _ _ _ _ _ _ _ _ _ _ _ _ _ _ _ _ _ _ _ _ _ _ _ _ _ _ _ _ _ _ _ _ _ _ _ _ _ _ _ _ _ _ _ _ _ _ _ _ _ _ _ _ _ _ _ _ _ _ _ _ _ _ _ _ _ _ _ _ _ _ _ _ _ _ _ _ _ _ _ _ _ _ _ _ _ (p3)
  | true =>
    have hso : ¬ strikeOk H (i : Int) q := fun z => by have := z.2.2.1; rw [hg] at this; cases this
    have SB : Hid (struckB H (i : Int) q = false) := by unfold Hid struckB; rw [if_pos hok]; exact decide_eq_false hso
    have SH : Hid (struckH H (i : Int) q = H) := by unfold Hid struckH strike1; rw [if_pos hok, if_neg hso]
    have MV : Hid (moveM H ⟨k, x, y, 4, l, (i : Int), o, 0⟩ = (H, ⟨k, x, y, 0, -1, -1, o, 0⟩)) := by unfold Hid moveM; rw [if_pos hg]; rfl
    rw [MV.out] at NX
    clear hok ok o3 hb CE hso hg en
    go_wp2
    go_step3
    refine scoped_goto rfl ?_
    go_wp2
    go_region_held3 (fun w' => w'.cell? ⟨b4, 5, none⟩ = some (.int .i64 (i : Int)) ∧ w'.cell? ⟨g, i * 4 + 2, none⟩ = some (.int .i64 q)) (first | assumption | exact S0 | (fail)) (first | (go_at_call 133; refine (implStruck_any H (i : Int) q _ w.heap.size w.drew (Nat.le_refl _) RR.out.drew).mono ?_; rintro er w1 ⟨v', he, hO', hB1⟩; rw [SB.out] at he; rw [SH.out] at hO'; subst he; have p1 : Pm w0 w1 b4 b7 v' H ⟨k, x, y, 4, l, (i : Int), o, 0⟩ := PM.out.drew.fresh hB1 hO'; have S1 := And.intro p1.hand.cells.2.2.2.2.2.1 ((World.cell?_of_block (w := w.drew) (w' := w1) (a := ⟨g, i * 4 + 2, none⟩) (hB1.block g hg2)).trans e2)) | (fail))
    clear c0 c1 c2 c3 c4 c5 c6 c7
    go_wp2
    go_step3
    obtain ⟨c0, c1, c2, c3, c4, c5, c6, c7⟩ := p1.hand.cells
    go_wp2_with (first | (go_at_call 134; refine (rested_any ⟨k, x, y, 4, l, (i : Int), o, 0⟩ 0 0 _).mono ?_; rintro er w2 ⟨rfl, hB2⟩; dsimp only [restD, hv]; have p2 := p1.call hB2) | (refine wpList_store_v rfl 58 _ _ rfl b4 (hv ⟨k, x, y, 0, -1, -1, o, 0⟩) rfl rfl sizeH p2.hand.blk rfl (hv_one _) ?_; intro w3 hO3 hV3; have p3 := p2.turn hO3 (d' := ⟨k, x, y, 0, -1, -1, o, 0⟩) ⟨hV3⟩) | (fail))
    go_step3
    exact NX.out _ _ _ _ _ _ _ _ _ _ _ _ _ _ _ _ _ _ _ _ _ _ _ _ _ _ _ _ _ _ _ _ _ _ _ _ _ _ _ _ _ _ _ _ _ _ _ _ _ _ _ _ _ _ _ _ _ _ _ _ _ _ _ _ _ _ _ _ _ _ _ _ _ _ _ _ _ _ _ _ _ _ _ _ _ _ _ _ _ _ _ _ _ _ _ _ _ _ _ _ _ _ _ _ _ _ _ _ _ _ _ _ _ _ _ _ _ _ _ _ _ _ _ _ _ _ _ _ _ _ _ _ _ _ _ _ _ _ _ _ _ _ _ (p3)
end Go.Proofs.Ythjkhghlhjndmaa.ce
