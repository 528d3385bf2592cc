/- A heap of things in memory: the library's up. -/
import Derived.Test.YtmnjmghlkiljhaaWh2
namespace Go.Proofs.Ytmnjmghlkiljhaa.rg
open Go.ChangeShapes Go.WideShapes Go.ChangeAt Go.RowKit
open Go.Deep Go.Joins
open Go.Proofs.Ytmnjmghlkiljhaa.ce Go.Proofs.Ytmnjmghlkiljhaa.ro
set_option linter.unusedVariables false
set_option linter.unusedSimpArgs false

/-- nothing that was there is turned but the block g -/
structure Ob (g : Nat) (w w' : World) : Prop where
  os : w'.os = w.os
  tape : w'.tape = w.tape
  output : w'.output = w.output
  size : w.heap.size ≤ w'.heap.size
  keep : ∀ k, k < w.heap.size → k ≠ g → w'.heap[k]? = w.heap[k]?
theorem Ob.refl (g : Nat) (w : World) : Ob g w w := ⟨rfl, rfl, rfl, Nat.le_refl _, fun _ _ _ => rfl⟩
theorem Ob.trans {g : Nat} {x y z : World} (h : Ob g x y) (k : Ob g y z) : Ob g x z :=
  ⟨k.os.trans h.os, k.tape.trans h.tape, k.output.trans h.output, Nat.le_trans h.size k.size, fun j h1 h2 => (k.keep j (Nat.lt_of_lt_of_le h1 h.size) h2).trans (h.keep j h1 h2)⟩
theorem Ob.of_below {g : Nat} {w w' : World} (h : Below w.heap.size w w') : Ob g w w' := ⟨h.os, h.tape, h.output, h.size, fun k hk _ => h.block k hk⟩
theorem Ob.of_only {g : Nat} {w w' : World} (h : Only g w w') : Ob g w w' := by
  have h0 := h.2.2 0 (Nat.zero_le _)
  exact ⟨h0.os, h0.tape, h0.output, h0.size, fun k _ hn => h.2.1 k hn⟩
theorem Ob.below {g B : Nat} {w w' : World} (h : Ob g w w') (h1 : B ≤ g) (h2 : B ≤ w.heap.size) : Below B w w' := ⟨h.os, h.tape, h.output, h.size, fun k hk => h.keep k (by omega) (by omega)⟩
/-- a heap in memory: the variable b, the row g -/
structure Hq (w : World) (b g cap : Nat) (xs : List It) : Prop where
  V : VBlk w b 102 [.slice (some ⟨g, 0, none⟩) xs.length cap]
  r : RowAt encIt w g cap xs
  l : xs.length ≤ 1000000
theorem Hq.ne {w : World} {b g cap : Nat} {xs : List It} (h : Hq w b g cap xs) : b ≠ g := by
  intro e
  subst e
  obtain ⟨cur, hb, -⟩ := h.r.blk
  have := h.V.symm.trans hb
  simp at this
  exact absurd this.2 (by decide)
theorem Hq.below {w w' : World} {b g cap : Nat} {xs : List It} (h : Hq w b g cap xs) (hB : Below w.heap.size w w') : Hq w' b g cap xs := ⟨vblk_grow h.V hB, h.r.grow hB, h.l⟩
theorem Hq.ob {w w' : World} {b g cap : Nat} {xs ys : List It} (h : Hq w b g cap xs) (hO : Ob g w w') (r : RowAt encIt w' g cap ys) (hl : ys.length = xs.length) : Hq w' b g cap ys :=
  ⟨by rw [hl]; exact h.V.of (hO.keep b h.V.lt h.ne), r, by rw [hl]; exact h.l⟩
theorem meth_of (name : String) (F : FuncId) (b g L cap : Nat) (w : World) (V : VBlk w b 102 [.slice (some ⟨g, 0, none⟩) L cap])
    (h : ∃ (T : TypeInfo) (m : Method), (∀ w, (typeInfo 106).run Try.prog w = .ok T w) ∧ T.methods.find? (·.name == name) = some m ∧ m.path = #[] ∧ m.func = some (F, false)) : (method 287 106 (.pointer (some ⟨b, 0, none⟩)) name).run Try.prog w = .ok (F, .slice (some ⟨g, 0, none⟩) L cap) w := by
  have c := V.cell 0 (by simp)
  have hl : (loadVar 102 ⟨b, 0, none⟩).run Try.prog w = .ok (.slice (some ⟨g, 0, none⟩) L cap) w := by go_simp
  obtain ⟨T, m, hT, hm, hp, hf⟩ := h
  have hu : ∀ w, (underlying 106).run Try.prog w = .ok (.pointer 102) w := fun w => by kernel_rfl
  have hw : ∀ (s : String) (w : World), (Builtin.ssaWrapNilChk_ #[106] 106 #[.pointer (some ⟨b, 0, none⟩), strVal "", strVal s]).run Try.prog w = .ok (.pointer (some ⟨b, 0, none⟩)) w := fun s w => rfl
  unfold method
  simp [Sem.run_bind, hT, hm, hp, hf, follow, receiverAt, Place.get, hu, hw, asAddr, hl, Result.andThen]
set_option maxRecDepth 100000 in
theorem less_of (b g L cap : Nat) (w : World) (V : VBlk w b 102 [.slice (some ⟨g, 0, none⟩) L cap]) : (method 287 106 (.pointer (some ⟨b, 0, none⟩)) "Less").run Try.prog w = .ok (162, .slice (some ⟨g, 0, none⟩) L cap) w :=
  meth_of "Less" _ b g L cap w V ⟨_, _, fun w => rfl, rfl, by kernel_rfl, by kernel_rfl⟩
set_option maxRecDepth 100000 in
theorem swap_of (b g L cap : Nat) (w : World) (V : VBlk w b 102 [.slice (some ⟨g, 0, none⟩) L cap]) : (method 287 106 (.pointer (some ⟨b, 0, none⟩)) "Swap").run Try.prog w = .ok (163, .slice (some ⟨g, 0, none⟩) L cap) w :=
  meth_of "Swap" _ b g L cap w V ⟨_, _, fun w => rfl, rfl, by kernel_rfl, by kernel_rfl⟩
set_option maxRecDepth 100000 in
theorem lenq_of (b g L cap : Nat) (w : World) (V : VBlk w b 102 [.slice (some ⟨g, 0, none⟩) L cap]) : (method 287 106 (.pointer (some ⟨b, 0, none⟩)) "Len").run Try.prog w = .ok (75, .slice (some ⟨g, 0, none⟩) L cap) w :=
  meth_of "Len" _ b g L cap w V ⟨_, _, fun w => rfl, rfl, by kernel_rfl, by kernel_rfl⟩
set_option maxRecDepth 100000 in
theorem pop_of (b : Nat) (w : World) : (method 287 106 (.pointer (some ⟨b, 0, none⟩)) "Pop").run Try.prog w = .ok (165, .pointer (some ⟨b, 0, none⟩)) w := by kernel_rfl
set_option maxRecDepth 100000 in
theorem push_of (b : Nat) (w : World) : (method 287 106 (.pointer (some ⟨b, 0, none⟩)) "Push").run Try.prog w = .ok (166, .pointer (some ⟨b, 0, none⟩)) w := by kernel_rfl
set_option maxRecDepth 100000 in
set_option maxHeartbeats 4000000 in
theorem up_any (n b g cap : Nat) (xs : List It) (hn : xs.length = n) (j0 : Nat) (hj0 : j0 < n) (hu : Up n j0 xs) (w : World) (H : Hq w b g cap xs) :
    Calls Try.prog 141 #[.iface 106 (.pointer (some ⟨b, 0, none⟩)), .int .i64 j0] w fun e w' => (∃ u, e = .returned u) ∧ ∃ ys, ys.Perm xs ∧ Hp n ys ∧ Hq w' b g cap ys ∧ Ob g w w' := by
  go_enter Try.func141, Try.ntmps141
  go_wp2_with (fail)
  go_loopw [1] (fun v wr => ∃ (j : Nat) (ys : List It), v = .int .i64 j ∧ j < n ∧ ys.length = n ∧ Hid (Up n j ys) ∧ Hid (ys.Perm xs) ∧ Hid (Hq wr b g cap ys) ∧ Hid (Ob g w wr)) (fun v _ => (intOf v).toNat)
  case atStart => exact ⟨j0, xs, rfl, hj0, hn, hu, List.Perm.refl _, H, Ob.refl _ _⟩
  case round =>
    obtain ⟨j, ys, rfl, hj, hyl, HU, HP, HQ, HO⟩ := hrel
    have hjl : j < ys.length := by omega
    have hcf : ∀ (args : Array Value) (w : World), (callFunc 162 args).run Try.prog w = .ok (.enter 162 args) w := fun args w => by kernel_rfl
    have hcs : ∀ (args : Array Value) (w : World), (callFunc 163 args).run Try.prog w = .ok (.enter 163 args) w := fun args w => by kernel_rfl
    by_cases h0 : j = 0
    · subst h0
      go_wp2
      go_end0
      exact ⟨⟨_, rfl⟩, ys, HP.out, up_end HU.out hjl (.inl rfl), HQ.out, HO.out⟩
    · have hp : par j < j := by unfold par; omega
      have hV := HQ.out.V
      have hw1 : wrap64 ((wrap64 ((j : Int) - 1)).tdiv 2) = ((par j : Nat) : Int) := by
        have := HQ.out.l
        rw [IntWalk.wrap64_in ((j : Int) - 1) ⟨by omega, by omega⟩, Int.tdiv_eq_ediv_of_nonneg (by omega), IntWalk.wrap64_in _ ⟨by omega, by omega⟩]
        unfold par
        omega
      have hd : ((j : Int) - 1) / 2 = ((par j : Nat) : Int) := by unfold par; omega
      have hne : (((par j : Nat) : Int) == (j : Int)) = false := by simp; omega
      have hnl : n ≤ 1000000 := by have := HQ.out.l; omega
      have hM := less_of b g _ cap wr hV
      obtain ⟨y, hy⟩ := hid_ex (earB ys[j] (ys[par j]'(by omega)))
      cases y with
      | false =>
        go_wp2_with (first | (go_at_call 162; rw [hd]; refine (less_any ys g n cap wr HQ.out.r hyl.symm hnl j (par j) hj (by omega) false hy).mono ?_; rintro e w3 ⟨rfl, hB3⟩) | (fail))
        go_end0
        exact ⟨⟨_, rfl⟩, ys, HP.out, up_end HU.out hjl (.inr fun q => by have := earB_iff.2 q; rw [hy.out] at this; cases this), HQ.out.below hB3, HO.out.trans (Ob.of_below hB3)⟩
      | true =>
        go_wp2_with (first | (go_at_call 162; rw [hd]; refine (less_any ys g n cap wr HQ.out.r hyl.symm hnl j (par j) hj (by omega) true hy).mono ?_; rintro e w3 ⟨rfl, hB3⟩; have Q3 := HQ.out.below hB3; have hS := swap_of b g _ cap w3 Q3.V) | (go_at_call 163; (try rw [hd]); refine (swap_any ys g n cap w3 Q3.r hyl.symm hnl (par j) j (by omega) hj).mono ?_; rintro e w4 ⟨⟨u4, rfl⟩, r4, hO4⟩; have O4 := Ob.of_only hO4; have Q4 := Q3.ob O4 r4 (swp_len _ _ _)) | (fail))
        go_roundw
        case rel => exact ⟨par j, swp ys (par j) j, rfl, by omega, by rw [swp_len]; exact hyl, up_step HU.out hjl (by omega) hj (by omega) (earB_iff.1 hy.out), (swp_perm _ _ _).trans HP.out, Q4, (HO.out.trans (Ob.of_below hB3)).trans O4⟩
        case measure => simp [intOf]; omega
end Go.Proofs.Ytmnjmghlkiljhaa.rg
