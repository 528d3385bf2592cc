/- Contracts: what stands at the beginning, as the program takes it for a reply. -/
import Derived.Test.YtaabmkhckbndgaaGreatDoorMg17
import Derived.Test.YtaabmkhckbndgaaGreatDoorMg20
import Derived.Test.YtaabmkhckbndgaaGreatDoorMg23
import Derived.Test.YtaabmkhckbndgaaGreatDoorFc1
import Derived.Deep.DeepCutAuto
import Derived.Lib.MinMax
import Derived.Deep.RegionHeld3
import Derived.BigQuiet
namespace Go.Proofs.YtaabmkhckbndgaaGreatDoor.cm
open Go.ChangeShapes Go.WideShapes Go.ChangeAt Go.RowKit
open Go.Deep Go.Joins
open Go.Proofs.YtaabmkhckbndgaaGreatDoor.ce Go.Proofs.YtaabmkhckbndgaaGreatDoor.ro Go.Proofs.YtaabmkhckbndgaaGreatDoor.rg
set_option linter.unusedVariables false

/-- what those who read replies read -/
structure EnvX (w : World) : Prop where
  p : EnvP w
  n : EnvN w
theorem EnvX.grow {w w' : World} (h : EnvX w) (hb : Below w.heap.size w w') : EnvX w' := ⟨h.p.grow hb, h.n.grow hb⟩
theorem kindOf_at {h : List UInt8} {j : Nat} (hj : j < 12) (e : kinds[j]'hj = h) (hn : ∀ i (hi : i < j), kinds[i]'(Nat.lt_trans hi hj) ≠ h) : kindOf h = (j : Int) + 1 := by
  unfold kindOf
  have : kinds.findIdx? (· == h) = some j := by
    rw [List.findIdx?_eq_some_iff_getElem]
    exact ⟨hj, by simpa using e, fun i hi => by
      have := hn i hi
      simp only [Bool.not_eq_true, beq_eq_false_iff_ne, ne_eq]
      exact this⟩
  rw [this]
  rfl
theorem kindOf_none {h : List UInt8} (hn : ∀ i (hi : i < 12), kinds[i]'hi ≠ h) : kindOf h = 0 := by
  unfold kindOf
  have : kinds.findIdx? (· == h) = none := by
    rw [List.findIdx?_eq_none_iff]
    intro x hx
    obtain ⟨i, hi, rfl⟩ := List.mem_iff_getElem.1 hx
    simpa using hn i hi
  rw [this]
  rfl
theorem kws_get {i : Nat} (hi : i < 12) : kws[i + 1]'(by show i + 1 < 13; omega) = tx (kinds[i]'hi) := by
  unfold kws
  rw [List.getElem_cons_succ, List.getElem_map]
  rfl
set_option maxHeartbeats 1000000 in
theorem kindOf_any (s : ByteArray) (v : Int) (hv : Hid (kindOf (bs s) = v)) (w : World) (en : EnvP w) : Calls Tryz.prog 129 #[.string s] w fun e w' => e = .returned (.int .i64 v) ∧ w' = w := by
  have EN : Hid (EnvP w) := en
  clear en
  go_enter Tryz.func129, Tryz.ntmps129
  go_wp2
  go_loop [3] (fun q => ∃ j : Nat, j ≤ 12 ∧ q = .int .i64 ((j + 1 : Nat) : Int) ∧ Hid (∀ i (hi : i < j) (h12 : i < 12), kinds[i]'h12 ≠ bs s)) (fun q => 13 - (intOf q).toNat)
  case atStart => exact ⟨0, by omega, rfl, fun i hi => by omega⟩
  case round =>
    obtain ⟨j, hj, rfl, hn⟩ := hrel
    by_cases hlt : j < 12
    · have dk := EN.out.wd (j + 1) (by show j + 1 < 13; omega)
      rw [kws_get hlt] at dk
      obtain ⟨x, hx⟩ := hid_ex (tx (kinds[j]'hlt))
      rw [hx.out] at dk
      obtain ⟨p, hp⟩ := hid_ex (j + 1)
      rw [hp.out] at dk ⊢
      have hp13 : (p : Int) < 13 := by have := hp.out; omega
      have hp12 : (p : Int) ≤ 12 := by have := hp.out; omega
      have hxe : (x.toList == s.toList) = decide (kinds[j]'hlt = bs s) := by rw [← hx.out]; exact tx_eq
      by_cases e : kinds[j]'hlt = bs s
      · rw [decide_eq_true e] at hxe
        have ev : v = (p : Int) := by rw [← hv.out, kindOf_at hlt e (fun i hi => hn.out i hi (by omega)), ← hp.out]; push_cast; rfl
        subst ev
        clear e
        go_wp2
        go_ret
        exact ⟨rfl, rfl⟩
      · rw [decide_eq_false e] at hxe
        have HE : Hid (kinds[j]'hlt ≠ bs s) := e
        clear e
        go_wp2
        go_round
        case rel => exact ⟨j + 1, by omega, by have := hp.out; go_num, fun i hi h12 => by
          by_cases q : i = j
          · subst q; exact HE.out
          · exact hn.out i (by omega) h12⟩
        case measure => have := hp.out; simp [intOf]; omega
    · have hj12 : ¬ (((j + 1 : Nat) : Int) ≤ 12) := by omega
      have ev : v = 0 := by rw [← hv.out, kindOf_none (fun i hi => hn.out i (by omega) hi)]
      subst ev
      obtain ⟨p, hp⟩ := hid_ex (j + 1)
      rw [hp.out] at hj12 ⊢
      go_wp2
      go_ret
      exact ⟨rfl, rfl⟩
theorem sizeWd : (Tryz.prog.info? 164).map (·.size) = some 2 := by kernel_rfl
theorem zeroWd (w : World) : (zeroValue 164).run Tryz.prog w = .ok (.agg [Value.slice none 0 0, .bool false].toArray) w := Tryz.zeroValue164 w
/-- what a shape is in Go -/
def svO : Option Rp → Value
  | none => .nilIface
  | some r => shV r
theorem rr_left {w0 w : World} {b : Nat} {s : Rs} (h : Rr w0 w b s) : ∃ a n k, w.cell? ⟨b, 0, none⟩ = some (.slice a n k) ∧ n = s.l.length := by
  obtain ⟨L, h1, h2, h3⟩ := h
  obtain ⟨a, n, k, V, r⟩ := h2.v
  refine ⟨a, n, k, V.cell 0 (by simp), ?_⟩
  rw [← h1, List.length_map]
  exact r.cap.1
theorem rr_new {w0 w : World} {b : Nat} {L : List ByteArray} {a : Option Addr} {n k : Nat} (V : VBlk w b 164 [.slice a n k, .bool false]) (r : Rd encS w0 (.slice a n k) L) (hb : Below w0.heap.size w0 w) (hl : w0.heap.size ≤ b) (hs : ∀ y ∈ L, y.size ≤ 1048576) : Rr w0 w b ⟨L.map bs, false⟩ := ⟨L, rfl, ⟨⟨a, n, k, V, r⟩, hb, hl⟩, hs⟩
theorem oneWd (a : Option Addr) (n k : Nat) (x : Bool) : ∀ v ∈ [Value.slice a n k, .bool x], v.oneCell' = true := by
  intro v hv
  simp only [List.mem_cons, List.not_mem_nil, or_false] at hv
  rcases hv with rfl | rfl <;> rfl
set_option maxRecDepth 10000 in
set_option maxHeartbeats 2000000 in
theorem valueFrom_any (L : List ByteArray) (vs : Value) (q : ByteArray) (hq : q.size ≤ 1048576) (w : World) (en : EnvX w) (r : Rd encS w vs L) (hs : ∀ y ∈ L, y.size ≤ 1048576) (X : Value) (hX : Hid (svO (valF (L.map bs) (bs q)) = X)) :
    Calls Tryz.prog 131 #[vs, .string q] w fun e w' => e = .returned X ∧ Below w.heap.size w w' := by
  obtain ⟨a, cap, rfl⟩ := r.form
  have RR : Hid (Rd encS w (.slice a L.length cap) L) := r
  have HS : Hid (∀ y ∈ L, y.size ≤ 1048576) := hs
  have EN : Hid (EnvX w) := en
  clear r hs en
  obtain ⟨ws, hws⟩ := hid_ex (L.map bs)
  obtain ⟨⟨n0, s1⟩, e0⟩ := hid_ex (wordF ⟨ws, false⟩)
  obtain ⟨⟨fl, s2⟩, e1⟩ := hid_ex (numF true s1)
  obtain ⟨⟨sz, s3⟩, e2⟩ := hid_ex (numF true s2)
  obtain ⟨t, ht⟩ := hid_ex (!s3.l.isEmpty)
  obtain ⟨⟨ca, s4⟩, e3⟩ := hid_ex (numF t s3)
  have hv : Hid (valF ws (bs q) = if 0 ≤ sz ∧ sz ≤ min 64 (q.size : Int) then some ⟨5, tx n0, fl, tx ((bs q).take sz.toNat), ca, 0⟩ else none) := by
    unfold Hid valF
    rw [e0.out]
    dsimp only
    rw [e1.out]
    dsimp only
    rw [e2.out]
    dsimp only
    rw [ht.out, e3.out, bs_len]
  rw [hws.out, hv.out] at hX
  have f1 : Hid ((numF true s1).1 = fl) := by unfold Hid; rw [e1.out]
  have g1 : Hid ((numF true s1).2 = s2) := by unfold Hid; rw [e1.out]
  have f2 : Hid ((numF true s2).1 = sz) := by unfold Hid; rw [e2.out]
  have g2 : Hid ((numF true s2).2 = s3) := by unfold Hid; rw [e2.out]
  have f3 : Hid ((numF t s3).1 = ca) := by unfold Hid; rw [e3.out]
  have k1 : Hid True := trivial
  have k2 : Hid True := trivial
  have k3 : Hid True := trivial
  have k4 : Hid True := trivial
  have hbd : -1000000000 < sz ∧ sz < 1000000000 := by
    rw [← f2.out]
    unfold numF
    exact rdF_bd _
  go_enter Tryz.func131, Tryz.ntmps131
  go_upto_region 5 with (first | (refine wpList_alloc_v rfl 164 rfl _ zeroWd ?_; intro b5 w1 hb5 hw5 hB1 V1) | (refine wpList_store_v rfl 164 _ _ rfl b5 [.slice a L.length cap, .bool false] rfl rfl sizeWd V1 rfl (oneWd _ _ _ _) ?_; intro w2 hO2 V2; have hB2 : Below w.heap.size w w2 := hB1.trans (hO2.2.2 _ hb5); have R0 : Hid (Rr w w2 b5 ⟨L.map bs, false⟩) := rr_new V2 RR.out hB2 hb5 HS.out) | (go_at_call 180; refine (wordR R0.out).mono ?_; rintro e w3 ⟨z, rfl, hz, hzs, hr3, hO3⟩; rw [hws.out, e0.out] at hz hr3; have HZ : Hid (bs z = n0) := hz; have R3 : Hid (Rr w w3 b5 s1) := hr3; clear hz hr3) | (clear k1; go_at_call 130; refine (numberN true EN.out.n R3.out).mono ?_; rintro e w4 ⟨rfl, hr4, hO4⟩; rw [f1.out]; have R4 : Hid (Rr w w4 b5 (numF true s1).2) := hr4; clear hr4) | (clear k2; go_at_call 130; refine (numberN true EN.out.n (by have := R4.out; rw [g1.out] at this; exact this)).mono ?_; rintro e w5 ⟨rfl, hr5, hO5⟩; rw [f2.out]; have R5 : Hid (Rr w w5 b5 (numF true s2).2) := hr5; clear hr5) | (fail))
  rw [g2.out] at R5
  obtain ⟨a5, n5, c5, d5, hn5⟩ := rr_left R5.out
  have hB5 : Below w.heap.size w w5 := by
    have h3 := hO3.low w.heap.size hb5 hB2.size
    have h4 := hO4.low w.heap.size hb5 (Nat.le_trans hB2.size hO3.size)
    have h5' := hO5.low w.heap.size hb5 (Nat.le_trans (Nat.le_trans hB2.size hO3.size) hO4.size)
    exact ((hB2.trans h3).trans h4).trans h5'
  have hgt : decide (0 < n5) = t := by
    rw [← ht.out]
    cases e : s3.l with
    | nil => rw [e] at hn5; simp [hn5]
    | cons x y => rw [e] at hn5; simp at hn5; simp; omega
  clear hn5 ht
  have hin : ∃ y, (decide ((0 : Int) ≤ sz) && decide (sz ≤ min 64 (q.size : Int))) = y := ⟨_, rfl⟩
  obtain ⟨y, hy⟩ := hin
  have HY : Hid ((decide ((0 : Int) ≤ sz) && decide (sz ≤ min 64 (q.size : Int))) = y) := hy
  cases y with
  | false =>
    have eX : X = .nilIface := by
      rw [← hX.out, if_neg]
      · rfl
      · intro h
        simp [h.1, h.2] at hy
    subst eX
    clear hy hX
    go_wp2_with (first | (clear k3; go_at_call 130; refine (numberN t EN.out.n R5.out).mono ?_; rintro e w6 ⟨rfl, hr6, hO6⟩; rw [f3.out]; have R6 : Hid (Rr w w6 b5 (numF t s3).2) := hr6; clear hr6) | (go_at_call 63; refine (with_is _ _ _ false HY.out _).mono ?_; rintro e wq ⟨rfl, hq⟩; subst wq) | (fail))
    go_ret
    exact ⟨rfl, hB5.trans (hO6.low _ hb5 hB5.size)⟩
  | true =>
    have hyy : 0 ≤ sz ∧ sz ≤ min 64 (q.size : Int) := by simpa using hy
    obtain ⟨k, rfl⟩ : ∃ k : Nat, sz = k := ⟨sz.toNat, by omega⟩
    have hkq : k ≤ q.size := by omega
    obtain ⟨x, hx⟩ := hid_ex (q.extract 0 k)
    have hxe : q.extract 0 k = x := hx.out
    have hxs : x.size ≤ 1048576 := by rw [← hx.out, ByteArray.size_extract]; omega
    have hxt : Hid (tx ((bs q).take k) = x) := by
      unfold Hid
      rw [← hx.out, ← tx_bs (q.extract 0 k), bs_extract, List.drop_zero, Nat.sub_zero]
    have hzt : Hid (tx n0 = z) := by unfold Hid; rw [← HZ.out, tx_bs]
    have eX : X = .iface 160 (.agg #[.string z, .int .i64 fl, .string x, .int .i64 ca]) := by
      rw [← hX.out, if_pos hyy, hzt.out, Int.toNat_natCast, hxt.out]
      rfl
    subst eX
    clear hy hX hyy
    have hk0 : (0 : Int) ≤ (k : Int) := by omega
    have hk1 : (k : Int) ≤ (q.size : Int) := by omega
    go_upto_region 8 with (first | (clear k3; go_at_call 130; refine (numberN t EN.out.n R5.out).mono ?_; rintro e w6 ⟨rfl, hr6, hO6⟩; rw [f3.out]; have R6 : Hid (Rr w w6 b5 (numF t s3).2) := hr6; clear hr6) | (go_at_call 63; refine (with_is _ _ _ true HY.out _).mono ?_; rintro e wq ⟨rfl, hq⟩; subst wq) | (fail))
    go_region_with (first | (clear k4; go_at_call 177; refine (clone_is z _ hzs).mono ?_; rintro e w7 ⟨rfl, hB7⟩) | (go_at_call 177; refine (clone_is x _ hxs).mono ?_; rintro e w8 ⟨rfl, hB8⟩) | (fail))
    all_goals
      go_wp2
      go_ret
      have hB6 := hB5.trans (hO6.low _ hb5 hB5.size)
      exact ⟨rfl, (hB6.drew.trans (hB7.mono hB6.size)).trans (hB8.mono (Nat.le_trans hB6.size hB7.size))⟩
end Go.Proofs.YtaabmkhckbndgaaGreatDoor.cm
