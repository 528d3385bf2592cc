/- Contracts: commands one behind the other, both sides. -/
import Derived.Test.YtefmndjoailemaaDoorCa1
import Derived.Test.YtefmndjoailemaaDoorCt1
import Derived.Test.YtefmndjoailemaaDoorRcCm
import Derived.Test.YtefmndjoailemaaDoorRi1
import Derived.Deep.DeepCutAuto
import Derived.OwnWalk
namespace Go.Proofs.YtefmndjoailemaaDoor.cm
open Go.ChangeShapes Go.WideShapes Go.ChangeAt Go.RowKit
open Go.Proofs.YtefmndjoailemaaDoor.ce Go.Proofs.YtefmndjoailemaaDoor.ro Go.Proofs.YtefmndjoailemaaDoor.rg
set_option linter.unusedVariables false

theorem cmds_lens (n : Nat) : ∀ t : List UInt8, t.length ≤ n → (cmdsL t).1.length ≤ t.length ∧ (cmdsL t).2.1.length ≤ t.length := by
  induction n with
  | zero =>
    intro t ht
    by_cases hk : (cmdOf t).2.2 = 1
    · rw [cmds_stop hk]; simp
    · have := (cmd_codes (t := t) (c := (cmdOf t).1) (m := (cmdOf t).2.1) (k := (cmdOf t).2.2) rfl).2.2.2 hk
      omega
  | succ n ih =>
    intro t ht
    by_cases hk : (cmdOf t).2.2 = 1
    · rw [cmds_stop hk]; simp
    · have hm := (cmd_codes (t := t) (c := (cmdOf t).1) (m := (cmdOf t).2.1) (k := (cmdOf t).2.2) rfl).2.2.2 hk
      rw [cmds_step hk]
      have h := ih (t.drop (cmdOf t).2.1) (by rw [List.length_drop]; omega)
      rw [List.length_drop] at h
      refine ⟨?_, by show (cmdsL (t.drop (cmdOf t).2.1)).2.1.length + 1 ≤ t.length; omega⟩
      show ((if (cmdOf t).2.2 = 0 then [(cmdOf t).1] else []) ++ (cmdsL (t.drop (cmdOf t).2.1)).1).length ≤ t.length
      rw [List.length_append]
      split <;> simp <;> omega
/-- while commands are read: those so far, their codes, the place -/
structure Cmg (w wr : World) (s : ByteArray) (p : Nat) (vo vc : Value) (G : List Cm) (K : List Int) : Prop where
  oo : Own encCm wr w.heap.size wr.heap.size vo G
  oc : Own encN wr w.heap.size wr.heap.size vc K
  b : Below w.heap.size w wr
  eq : cmdsL (bs s) = (G ++ (cmdsL ((bs s).drop p)).1, K ++ (cmdsL ((bs s).drop p)).2.1, p + (cmdsL ((bs s).drop p)).2.2)
  le : p ≤ s.size
  lg : G.length ≤ p
  lk : K.length ≤ p
theorem Cmg.size {w wr : World} {s : ByteArray} {p : Nat} {vo vc : Value} {G : List Cm} {K : List Int} (h : Cmg w wr s p vo vc G K) : w.heap.size ≤ wr.heap.size := h.b.size
theorem Cmg.grow {w wr w' : World} {s : ByteArray} {p : Nat} {vo vc : Value} {G : List Cm} {K : List Int} (h : Cmg w wr s p vo vc G K) (hb : Below wr.heap.size wr w') : Cmg w w' s p vo vc G K :=
  ⟨(h.oo.grow hb).top, (h.oc.grow hb).top, h.b.trans (hb.mono h.b.size), h.eq, h.le, h.lg, h.lk⟩
theorem Cmg.only {w wr w' : World} {s : ByteArray} {p b : Nat} {vo vc : Value} {G : List Cm} {K : List Int} {wq : World} {vs : List Value} (h : Cmg w wr s p vo vc G K) (hb : Below wr.heap.size wr wq) (hl : wr.heap.size ≤ b) (ho : Only b wq w') : Cmg w w' s p vo vc G K :=
  h.grow (hb.trans (ho.2.2 _ hl))
/-- the rows while one step is done -/
structure Cmr (w wr : World) (vo vc : Value) (G : List Cm) (K : List Int) : Prop where
  oo : Own encCm wr w.heap.size wr.heap.size vo G
  oc : Own encN wr w.heap.size wr.heap.size vc K
  b : Below w.heap.size w wr
theorem Cmr.grow {w wr w' : World} {vo vc : Value} {G : List Cm} {K : List Int} (h : Cmr w wr vo vc G K) (hb : Below wr.heap.size wr w') : Cmr w w' vo vc G K := ⟨(h.oo.grow hb).top, (h.oc.grow hb).top, h.b.trans (hb.mono h.b.size)⟩
theorem Cmr.size {w wr : World} {vo vc : Value} {G : List Cm} {K : List Int} (h : Cmr w wr vo vc G K) : w.heap.size ≤ wr.heap.size := h.b.size
theorem Cmr.appO {w wr w' : World} {vo vc v' : Value} {G G' : List Cm} {K : List Int} (h : Cmr w wr vo vc G K) (hT : Ty w.heap.size encCm.t wr w') (o' : Own encCm w' w.heap.size w'.heap.size v' G') : Cmr w w' v' vc G' K := ⟨o', (hT.own h.oc (by decide)).top, h.b.trans hT.low⟩
theorem Cmr.appC {w wr w' : World} {vo vc v' : Value} {G : List Cm} {K K' : List Int} (h : Cmr w wr vo vc G K) (hT : Ty w.heap.size encN.t wr w') (o' : Own encN w' w.heap.size w'.heap.size v' K') : Cmr w w' vo v' G K' := ⟨(hT.own h.oo (by decide)).top, o', h.b.trans hT.low⟩
/-- one step further -/
theorem cmg_next {w wr w' : World} {s : ByteArray} {p T : Nat} {vo vc vo' vc' : Value} {G : List Cm} {K : List Int} {c : Cm} {k : Int} (h : Cmg w wr s p vo vc G K) (hc : cmdOf ((bs s).drop p) = (c, T, k)) (hk : k ≠ 1) (r : Cmr w w' vo' vc' (G ++ (if k = 0 then [c] else [])) (K ++ [k])) :
    Cmg w w' s (p + T) vo' vc' (G ++ (if k = 0 then [c] else [])) (K ++ [k]) ∧ 1 ≤ T ∧ p + T ≤ s.size := by
  have hm := (cmd_codes hc).2.2.2 hk
  rw [List.length_drop, bs_len] at hm
  refine ⟨⟨r.oo, r.oc, r.b, ?_, by omega, ?_, ?_⟩, hm.1, by omega⟩
  · have e := cmds_step (t := (bs s).drop p) (by rw [hc]; exact hk)
    rw [hc] at e
    rw [h.eq, e, List.drop_drop]
    simp [Nat.add_assoc]
  · have := h.lg
    rw [List.length_append]
    split <;> simp <;> omega
  · have := h.lk
    simp
    omega
/-- what Cmds tells -/
def PostC (s : ByteArray) (w : World) (e : Ending) (w' : World) : Prop := ∃ vo vc, e = .returned (.tuple #[vo, vc, .int .i64 ((cmdsL (bs s)).2.2 : Nat)]) ∧ Own encCm w' w.heap.size w'.heap.size vo (cmdsL (bs s)).1 ∧ Own encN w' w.heap.size w'.heap.size vc (cmdsL (bs s)).2.1 ∧ Below w.heap.size w w'
set_option maxRecDepth 100000 in
set_option maxHeartbeats 2000000 in
theorem specCmds_any (s : ByteArray) (hs : s.size ≤ 1048576) (w : World) :
    Calls Tryd.prog 6 #[.string s] w fun e w' => PostC s w e w' := by
  go_enter Tryd.func6, Tryd.ntmps6
  go_wp2
  go_loopw [5, 6, 7] (fun vo vc vp wr => ∃ (p : Nat) (ao : Option Addr) (no ko : Nat) (ac : Option Addr) (nc kc : Nat) (G : List Cm) (K : List Int), vp = .int .i64 p ∧ vo = .slice ao no ko ∧ vc = .slice ac nc kc ∧ Hid (Cmg w wr s p (.slice ao no ko) (.slice ac nc kc) G K)) (fun _ _ vp _ => s.size - (intOf vp).toNat)
  case atStart => exact ⟨0, _, _, _, _, _, _, [], [], rfl, rfl, rfl, own_zero _ _ _ _ _, own_zero _ _ _ _ _, (by first | exact Below.refl _ _ | exact (bAl _ _).trans ((bAl _ _).mono (by simp))), by simp, Nat.zero_le _, Nat.le_refl _, Nat.le_refl _⟩
  case round =>
    obtain ⟨p, ao, no, ko, ac, nc, kc, G, K, rfl, rfl, rfl, MG⟩ := hrel
    have hp := MG.out.le
    have k1 : Hid True := trivial
    have k2 : Hid True := trivial
    have k3 : Hid True := trivial
    have k4 : Hid True := trivial
    obtain ⟨⟨⟨V, N, F, U, B, C, D, Q⟩, T, k⟩, hC⟩ := hid_ex (cmdOf ((bs s).drop p))
    have hA : Hid (atF s (p : Int) = (⟨V, N, F, U, B, C, D, Q⟩, (p : Int) + (T : Int), k)) := by unfold Hid; rw [atF_nat hp, hC.out]
    have hcd := (cmd_codes hC.out).1
    by_cases h1 : k = 1
    · subst h1
      clear hcd
      go_wp2_with (first | (go_at_call 21; refine (specCmdAt_any s (p : Int) hs _).mono ?_; rintro er u1 ⟨rfl, hB1⟩; rw [hA.out]; dsimp only [csCm]) | (clear k1; refine wpList_alloc_v rfl 43 rfl _ zeroCm ?_; intro b8 u2 hb8 hw8 hB2 V8; have hz2 := hB2.size) | (clear k2; refine wpList_store_v rfl 43 _ _ rfl b8 [.int .i64 V, .string N, .int .i64 F, .int .i64 U, .string B, .int .i64 C, .int .i64 D, .bool Q] rfl rfl sizeCm V8 rfl (oneCs V N F U B C D Q) ?_; intro u3 hO3 V9; have hz1 := hB1.size; have MR : Hid (Cmr w u3 (.slice ao no ko) (.slice ac nc kc) G K) := (⟨MG.out.oo, MG.out.oc, MG.out.b⟩ : Cmr w wr (.slice ao no ko) (.slice ac nc kc) G K).grow ((hB1.trans (hB2.mono hz1)).trans (hO3.2.2 _ (by omega)))) | (fail))
      go_ret3
      have e := MG.out.eq
      rw [cmds_stop (t := (bs s).drop p) (by rw [hC.out])] at e
      simp only [List.append_nil, Nat.add_zero] at e
      refine ⟨.slice ao no ko, .slice ac nc kc, ?_, ?_, ?_, MR.out.b⟩
      · rw [e]; rfl
      · rw [e]; exact MR.out.oo
      · rw [e]; exact MR.out.oc
    · by_cases h0 : k = 0
      · subst h0
        clear hcd h1
        go_wp2_with (first | (go_at_call 21; refine (specCmdAt_any s (p : Int) hs _).mono ?_; rintro er u1 ⟨rfl, hB1⟩; rw [hA.out]; dsimp only [csCm]) | (clear k1; refine wpList_alloc_v rfl 43 rfl _ zeroCm ?_; intro b8 u2 hb8 hw8 hB2 V8; have hz2 := hB2.size) | (clear k2; refine wpList_store_v rfl 43 _ _ rfl b8 [.int .i64 V, .string N, .int .i64 F, .int .i64 U, .string B, .int .i64 C, .int .i64 D, .bool Q] rfl rfl sizeCm V8 rfl (oneCs V N F U B C D Q) ?_; intro u3 hO3 V9; have hz1 := hB1.size; have MR : Hid (Cmr w u3 (.slice ao no ko) (.slice ac nc kc) G K) := (⟨MG.out.oo, MG.out.oc, MG.out.b⟩ : Cmr w wr (.slice ao no ko) (.slice ac nc kc) G K).grow ((hB1.trans (hB2.mono hz1)).trans (hO3.2.2 _ (by omega)))) | (clear k3; refine wpList_load_r rfl 43 _ rfl b8 0 [.int .i64 V, .string N, .int .i64 F, .int .i64 U, .string B, .int .i64 C, .int .i64 D, .bool Q] rfl _ Tryd.underlying43 rfl sizeCm V9.range ?_) | (clear k4; at_builtin; refine wpList_append_g infoCm rfl _ _ 22 rfl Tryd.underlying22 w.heap.size _ _ G rfl (MR.out.grow (bAl _ _)).oo (by have := MR.out.size; simp; omega) _ [⟨V, N, F, U, B, C, D, Q⟩] rfl (rd_new (E := encCm) _ ⟨V, N, F, U, B, C, D, Q⟩ #[.int .i64 V, .string N, .int .i64 F, .int .i64 U, .string B, .int .i64 C, .int .i64 D, .bool Q] rfl) (by have := MG.out.lg; have := MG.out.le; simp; omega) ?_; intro v4 u4 o4 hT4; have MR4 : Hid (Cmr w u4 v4 (.slice ac nc kc) (G ++ [⟨V, N, F, U, B, C, D, Q⟩]) K) := (MR.out.grow (bAl _ _)).appO hT4 o4; obtain ⟨a4, n4, c4, rfl⟩ := o4.slice) | (at_builtin; refine wpList_append_g infoN rfl _ _ 23 rfl Tryd.underlying23 w.heap.size _ _ K rfl (MR4.out.grow (bAl _ _)).oc (by have := MR4.out.size; simp; omega) _ [0] rfl (rd_new (E := encN) _ 0 #[.int .i64 0] rfl) (by have := MG.out.lk; have := MG.out.le; simp; omega) ?_; intro v5 u5 o5 hT5; have MR5 := (MR4.out.grow (bAl _ _)).appC hT5 o5; obtain ⟨a5, n5, c5, rfl⟩ := o5.slice) | (fail))
        obtain ⟨MN, hT1, hT2⟩ := cmg_next MG.out hC.out (by decide) (by simpa using MR5)
        go_roundw
        case rel => exact ⟨p + T, _, _, _, _, _, _, _, _, by push_cast; rfl, rfl, rfl, MN⟩
        case measure => simp [intOf]; omega
      · have e1 : (k == 1) = false := by simpa using h1
        have e0 : (k == 0) = false := by simpa using h0
        have HK : Hid (k ≠ 1 ∧ k ≠ 0) := ⟨h1, h0⟩
        clear hcd h1 h0
        go_wp2_with (first | (go_at_call 21; refine (specCmdAt_any s (p : Int) hs _).mono ?_; rintro er u1 ⟨rfl, hB1⟩; rw [hA.out]; dsimp only [csCm]) | (clear k1; refine wpList_alloc_v rfl 43 rfl _ zeroCm ?_; intro b8 u2 hb8 hw8 hB2 V8; have hz2 := hB2.size) | (clear k2; refine wpList_store_v rfl 43 _ _ rfl b8 [.int .i64 V, .string N, .int .i64 F, .int .i64 U, .string B, .int .i64 C, .int .i64 D, .bool Q] rfl rfl sizeCm V8 rfl (oneCs V N F U B C D Q) ?_; intro u3 hO3 V9; have hz1 := hB1.size; have MR : Hid (Cmr w u3 (.slice ao no ko) (.slice ac nc kc) G K) := (⟨MG.out.oo, MG.out.oc, MG.out.b⟩ : Cmr w wr (.slice ao no ko) (.slice ac nc kc) G K).grow ((hB1.trans (hB2.mono hz1)).trans (hO3.2.2 _ (by omega)))) | (at_builtin; refine wpList_append_g infoN rfl _ _ 23 rfl Tryd.underlying23 w.heap.size _ _ K rfl (MR.out.grow (bAl _ _)).oc (by have := MR.out.size; simp; omega) _ [k] rfl (rd_new (E := encN) _ k #[.int .i64 k] rfl) (by have := MG.out.lk; have := MG.out.le; simp; omega) ?_; intro v5 u5 o5 hT5; have MR5 := (MR.out.grow (bAl _ _)).appC hT5 o5; obtain ⟨a5, n5, c5, rfl⟩ := o5.slice) | (fail))
        obtain ⟨MN, hT1, hT2⟩ := cmg_next MG.out hC.out HK.out.1 (by rw [if_neg HK.out.2, List.append_nil]; exact MR5)
        go_roundw
        case rel => exact ⟨p + T, _, _, _, _, _, _, _, _, by push_cast; rfl, rfl, rfl, MN⟩
        case measure => simp [intOf]; omega
set_option maxRecDepth 100000 in
set_option maxHeartbeats 2000000 in
theorem implCmds_any (s : ByteArray) (hs : s.size ≤ 1048576) (w : World) (en : EnvR w) :
    Calls Tryd.prog 7 #[.string s] w fun e w' => PostC s w e w' := by
  have EN : Hid (EnvR w) := en
  clear en
  go_enter Tryd.func7, Tryd.ntmps7
  go_wp2
  go_loopw [5, 6, 7] (fun vo vc vp wr => ∃ (p : Nat) (ao : Option Addr) (no ko : Nat) (ac : Option Addr) (nc kc : Nat) (G : List Cm) (K : List Int), vp = .int .i64 p ∧ vo = .slice ao no ko ∧ vc = .slice ac nc kc ∧ Hid (Cmg w wr s p (.slice ao no ko) (.slice ac nc kc) G K)) (fun _ _ vp _ => s.size - (intOf vp).toNat)
  case atStart => exact ⟨0, _, _, _, _, _, _, [], [], rfl, rfl, rfl, own_zero _ _ _ _ _, own_zero _ _ _ _ _, (by first | exact Below.refl _ _ | exact (bAl _ _).trans ((bAl _ _).mono (by simp))), by simp, Nat.zero_le _, Nat.le_refl _, Nat.le_refl _⟩
  case round =>
    obtain ⟨p, ao, no, ko, ac, nc, kc, G, K, rfl, rfl, rfl, MG⟩ := hrel
    have hp := MG.out.le
    have k1 : Hid True := trivial
    have k2 : Hid True := trivial
    have k3 : Hid True := trivial
    have k4 : Hid True := trivial
    obtain ⟨⟨⟨V, N, F, U, B, C, D, Q⟩, T, k⟩, hC⟩ := hid_ex (cmdOf ((bs s).drop p))
    have hA : Hid (atF s (p : Int) = (⟨V, N, F, U, B, C, D, Q⟩, (p : Int) + (T : Int), k)) := by unfold Hid; rw [atF_nat hp, hC.out]
    have hcd := (cmd_codes hC.out).1
    by_cases h1 : k = 1
    · subst h1
      clear hcd
      go_wp2_with (first | (go_at_call 22; refine (implCmdAt_any s (p : Int) hs _ (EN.out.grow MG.out.b)).mono ?_; rintro er u1 ⟨rfl, hB1⟩; rw [hA.out]; dsimp only [csCm]) | (clear k1; refine wpList_alloc_v rfl 43 rfl _ zeroCm ?_; intro b8 u2 hb8 hw8 hB2 V8; have hz2 := hB2.size) | (clear k2; refine wpList_store_v rfl 43 _ _ rfl b8 [.int .i64 V, .string N, .int .i64 F, .int .i64 U, .string B, .int .i64 C, .int .i64 D, .bool Q] rfl rfl sizeCm V8 rfl (oneCs V N F U B C D Q) ?_; intro u3 hO3 V9; have hz1 := hB1.size; have MR : Hid (Cmr w u3 (.slice ao no ko) (.slice ac nc kc) G K) := (⟨MG.out.oo, MG.out.oc, MG.out.b⟩ : Cmr w wr (.slice ao no ko) (.slice ac nc kc) G K).grow ((hB1.trans (hB2.mono hz1)).trans (hO3.2.2 _ (by omega)))) | (fail))
      go_ret3
      have e := MG.out.eq
      rw [cmds_stop (t := (bs s).drop p) (by rw [hC.out])] at e
      simp only [List.append_nil, Nat.add_zero] at e
      refine ⟨.slice ao no ko, .slice ac nc kc, ?_, ?_, ?_, MR.out.b⟩
      · rw [e]; rfl
      · rw [e]; exact MR.out.oo
      · rw [e]; exact MR.out.oc
    · by_cases h0 : k = 0
      · subst h0
        clear hcd h1
        go_wp2_with (first | (go_at_call 22; refine (implCmdAt_any s (p : Int) hs _ (EN.out.grow MG.out.b)).mono ?_; rintro er u1 ⟨rfl, hB1⟩; rw [hA.out]; dsimp only [csCm]) | (clear k1; refine wpList_alloc_v rfl 43 rfl _ zeroCm ?_; intro b8 u2 hb8 hw8 hB2 V8; have hz2 := hB2.size) | (clear k2; refine wpList_store_v rfl 43 _ _ rfl b8 [.int .i64 V, .string N, .int .i64 F, .int .i64 U, .string B, .int .i64 C, .int .i64 D, .bool Q] rfl rfl sizeCm V8 rfl (oneCs V N F U B C D Q) ?_; intro u3 hO3 V9; have hz1 := hB1.size; have MR : Hid (Cmr w u3 (.slice ao no ko) (.slice ac nc kc) G K) := (⟨MG.out.oo, MG.out.oc, MG.out.b⟩ : Cmr w wr (.slice ao no ko) (.slice ac nc kc) G K).grow ((hB1.trans (hB2.mono hz1)).trans (hO3.2.2 _ (by omega)))) | (clear k3; refine wpList_load_r rfl 43 _ rfl b8 0 [.int .i64 V, .string N, .int .i64 F, .int .i64 U, .string B, .int .i64 C, .int .i64 D, .bool Q] rfl _ Tryd.underlying43 rfl sizeCm V9.range ?_) | (clear k4; at_builtin; refine wpList_append_g infoCm rfl _ _ 22 rfl Tryd.underlying22 w.heap.size _ _ G rfl (MR.out.grow (bAl _ _)).oo (by have := MR.out.size; simp; omega) _ [⟨V, N, F, U, B, C, D, Q⟩] rfl (rd_new (E := encCm) _ ⟨V, N, F, U, B, C, D, Q⟩ #[.int .i64 V, .string N, .int .i64 F, .int .i64 U, .string B, .int .i64 C, .int .i64 D, .bool Q] rfl) (by have := MG.out.lg; have := MG.out.le; simp; omega) ?_; intro v4 u4 o4 hT4; have MR4 : Hid (Cmr w u4 v4 (.slice ac nc kc) (G ++ [⟨V, N, F, U, B, C, D, Q⟩]) K) := (MR.out.grow (bAl _ _)).appO hT4 o4; obtain ⟨a4, n4, c4, rfl⟩ := o4.slice) | (at_builtin; refine wpList_append_g infoN rfl _ _ 23 rfl Tryd.underlying23 w.heap.size _ _ K rfl (MR4.out.grow (bAl _ _)).oc (by have := MR4.out.size; simp; omega) _ [0] rfl (rd_new (E := encN) _ 0 #[.int .i64 0] rfl) (by have := MG.out.lk; have := MG.out.le; simp; omega) ?_; intro v5 u5 o5 hT5; have MR5 := (MR4.out.grow (bAl _ _)).appC hT5 o5; obtain ⟨a5, n5, c5, rfl⟩ := o5.slice) | (fail))
        obtain ⟨MN, hT1, hT2⟩ := cmg_next MG.out hC.out (by decide) (by simpa using MR5)
        go_roundw
        case rel => exact ⟨p + T, _, _, _, _, _, _, _, _, by push_cast; rfl, rfl, rfl, MN⟩
        case measure => simp [intOf]; omega
      · have e1 : (k == 1) = false := by simpa using h1
        have e0 : (k == 0) = false := by simpa using h0
        have HK : Hid (k ≠ 1 ∧ k ≠ 0) := ⟨h1, h0⟩
        clear hcd h1 h0
        go_wp2_with (first | (go_at_call 22; refine (implCmdAt_any s (p : Int) hs _ (EN.out.grow MG.out.b)).mono ?_; rintro er u1 ⟨rfl, hB1⟩; rw [hA.out]; dsimp only [csCm]) | (clear k1; refine wpList_alloc_v rfl 43 rfl _ zeroCm ?_; intro b8 u2 hb8 hw8 hB2 V8; have hz2 := hB2.size) | (clear k2; refine wpList_store_v rfl 43 _ _ rfl b8 [.int .i64 V, .string N, .int .i64 F, .int .i64 U, .string B, .int .i64 C, .int .i64 D, .bool Q] rfl rfl sizeCm V8 rfl (oneCs V N F U B C D Q) ?_; intro u3 hO3 V9; have hz1 := hB1.size; have MR : Hid (Cmr w u3 (.slice ao no ko) (.slice ac nc kc) G K) := (⟨MG.out.oo, MG.out.oc, MG.out.b⟩ : Cmr w wr (.slice ao no ko) (.slice ac nc kc) G K).grow ((hB1.trans (hB2.mono hz1)).trans (hO3.2.2 _ (by omega)))) | (at_builtin; refine wpList_append_g infoN rfl _ _ 23 rfl Tryd.underlying23 w.heap.size _ _ K rfl (MR.out.grow (bAl _ _)).oc (by have := MR.out.size; simp; omega) _ [k] rfl (rd_new (E := encN) _ k #[.int .i64 k] rfl) (by have := MG.out.lk; have := MG.out.le; simp; omega) ?_; intro v5 u5 o5 hT5; have MR5 := (MR.out.grow (bAl _ _)).appC hT5 o5; obtain ⟨a5, n5, c5, rfl⟩ := o5.slice) | (fail))
        obtain ⟨MN, hT1, hT2⟩ := cmg_next MG.out hC.out HK.out.1 (by rw [if_neg HK.out.2, List.append_nil]; exact MR5)
        go_roundw
        case rel => exact ⟨p + T, _, _, _, _, _, _, _, _, by push_cast; rfl, rfl, rfl, MN⟩
        case measure => simp [intOf]; omega
end Go.Proofs.YtefmndjoailemaaDoor.cm
