/- Contracts: the reply at a place, at whatever text, the program's. -/
import Derived.Test.YtaabmkhckbndgaaGreatDoorMg28
namespace Go.Proofs.YtaabmkhckbndgaaGreatDoor.cm
open Go.ChangeShapes Go.WideShapes Go.ChangeAt Go.RowKit
open Go.Proofs.YtaabmkhckbndgaaGreatDoor.ce Go.Proofs.YtaabmkhckbndgaaGreatDoor.ro Go.Proofs.YtaabmkhckbndgaaGreatDoor.rg
set_option linter.unusedVariables false

theorem show_le {r : Rp} (h : POk r) : (showR r).length ≤ 1000 := by
  have h1 := lineR_len h
  have h2 : (tailR r).length ≤ 65 := by
    unfold tailR
    split
    · have := h.b1
      simp [bs_len]
      omega
    · simp
  unfold showR
  simp
  omega
theorem rep_no {t : List UInt8} {r : Rp} (h : shapeF t = some r) (hb : repB r = false) : repL t = none := by rw [repL_shape, h, Option.bind_some, if_neg (by rw [hb]; simp)]
theorem rep_nopre {t : List UInt8} {r : Rp} (h : shapeF t = some r) {z : ByteArray} (hz : tx (showR r) = z) (hp : (bs z).isPrefixOf t = false) : repL t = none := by
  rw [repL_shape, h, Option.bind_some, if_neg]
  rintro ⟨-, h2⟩
  rw [← hz, bs_tx, ← Bool.not_eq_true, List.isPrefixOf_iff_prefix] at hp
  exact hp h2
theorem rep_pre {t : List UInt8} {r : Rp} (h : shapeF t = some r) (hb : repB r = true) {z : ByteArray} (hz : tx (showR r) = z) (hp : (bs z).isPrefixOf t = true) : repL t = some r := by
  rw [repL_shape, h, Option.bind_some, if_pos]
  refine ⟨hb, ?_⟩
  rw [← hz, bs_tx, List.isPrefixOf_iff_prefix] at hp
  exact hp
theorem emB_emp : emB emp = true := emB_iff.2 rfl
theorem implReplyAt_any (s : ByteArray) (p : Int) (hs : s.size ≤ 1048576) (w : World) (en : EnvX w) :
    Calls Tryz.prog 27 #[.string s, .int .i64 p] w fun e w' => PostR (atR s p) w e w' := by
  obtain ⟨X, hX⟩ := hid_ex (atR s p)
  rw [hX.out]
  by_cases hin : 0 ≤ p ∧ p ≤ s.size
  · obtain ⟨p, rfl⟩ : ∃ n : Nat, p = n := ⟨p.toNat, by omega⟩
    have hp : p ≤ s.size := by omega
    obtain ⟨q, hq⟩ := hid_ex (s.extract p s.size)
    have hqb : bs q = (bs s).drop p := by rw [← hq.out, bs_extract, List.take_of_length_le (by rw [List.length_drop, bs_len]; omega)]
    have hqs : q.size ≤ 1048576 := by rw [← hq.out, ByteArray.size_extract]; omega
    have hnone : repL (bs q) = none → Hid (X = (Rp.zero, -1)) := fun h => hX.out.symm.trans (atR_none (by rw [← hqb]; exact h))
    have hsome : ∀ r, repL (bs q) = some r → X = (r, (p : Int) + (showR r).length) := fun r h => hX.out.symm.trans (atR_some hp (by rw [← hqb]; exact h))
    cases ho : shapeF (bs q) with
    | none => exact ra_nil s p hp hs q hq.out hqs X (hnone (by rw [repL_shape, ho]; rfl)) (by unfold Hid; rw [ho]; rfl) w en
    | some r =>
      have fm := shape_fm ho
      have hsN : r.N.size ≤ 9223372036854775807 := by have := fm.sN; rw [bs_len] at this; omega
      have hsB : r.B.size ≤ 9223372036854775807 := by have := fm.sB; rw [bs_len] at this; omega
      have hO : Hid (svO (shapeF (bs q)) = shV r) := by unfold Hid; rw [ho]; rfl
      obtain ⟨z, hz⟩ := hid_ex (tx (showR r))
      have hk : Hid (z.size = (showR r).length) := by unfold Hid; rw [← hz.out, tx_size]
      cases hb : repB r with
      | false =>
        have hn := hnone (rep_no ho hb)
        obtain ⟨K, N, F, B, C, M⟩ := r
        rcases fm.k with ⟨e1, e2⟩ | ⟨e1, e2, e3, e4, e5⟩ | ⟨h5, h6, h0, h1, e2, e3, e4, e5, e6⟩
        · dsimp only at e1 e2
          subst e1 e2
          refine ra_val_no s p hp hs q hq.out hqs N F B C hsN hsB ?_ X hn hO w en
          rw [rep_val] at hb
          simpa [Hid] using hb
        · dsimp only at e1 e2 e3 e4 e5
          subst e1 e2 e3 e4 e5
          refine ra_num_no s p hp hs q hq.out hqs M ?_ X hn hO w en
          rw [rep_num, emB_emp] at hb
          simpa [Hid] using hb
        · dsimp only at h5 h6 h0 h1 e2 e3 e4 e5 e6
          subst e2 e3 e4 e5 e6
          rw [rep_bare h0 h1 h5 h6, emB_emp] at hb
          simp at hb
      | true =>
        have ok := repB_iff.1 hb
        have hk1 := show_le ok
        have SHN : Hid (∀ w', EnvP w' → Calls Tryz.prog 76 #[shV r] w' fun e w2 => e = .returned (.string z) ∧ Below w'.heap.size w' w2) := fun w' en' => by
          obtain ⟨K, N, F, B, C, M⟩ := r
          have := shown_any K N F B C M ok w' en'
          rw [hz.out] at this
          exact this
        cases hp2 : (bs z).isPrefixOf (bs q) with
        | false =>
          have hn := hnone (rep_nopre ho hz.out hp2)
          obtain ⟨K, N, F, B, C, M⟩ := r
          rcases fm.k with ⟨e1, e2⟩ | ⟨e1, e2, e3, e4, e5⟩ | ⟨h5, h6, h0, h1, e2, e3, e4, e5, e6⟩
          · dsimp only at e1 e2
            subst e1 e2
            refine ra_val_pre s p hp hs q hq.out hqs N F B C hsN hsB ?_ z SHN hp2 X hn hO w en
            rw [rep_val] at hb
            simpa [Hid] using hb
          · dsimp only at e1 e2 e3 e4 e5
            subst e1 e2 e3 e4 e5
            refine ra_num_pre s p hp hs q hq.out hqs M ?_ z SHN hp2 X hn hO w en
            rw [rep_num, emB_emp] at hb
            simpa [Hid] using hb
          · dsimp only at h5 h6 h0 h1 e2 e3 e4 e5 e6
            subst e2 e3 e4 e5 e6
            have e : shV ⟨K, emp, 0, emp, 0, 0⟩ = .iface 156 (.int .i64 K) := by
              unfold shV
              rw [if_neg (show ¬ K = 5 from h5), if_neg (show ¬ K = 6 from h6)]
            rw [e] at SHN hO
            exact ra_bare_pre s p hp hs q hq.out hqs K z SHN hp2 X hn hO w en
        | true =>
          have hx : Hid (X = (r, (p : Int) + ((showR r).length : Nat))) := hsome r (rep_pre ho hb hz.out hp2)
          obtain ⟨K, N, F, B, C, M⟩ := r
          rcases fm.k with ⟨e1, e2⟩ | ⟨e1, e2, e3, e4, e5⟩ | ⟨h5, h6, h0, h1, e2, e3, e4, e5, e6⟩
          · dsimp only at e1 e2
            subst e1 e2
            refine ra_val_yes s p hp hs q hq.out hqs N F B C hsN hsB ?_ z SHN hp2 _ hk (by omega) X hx hO w en
            rw [rep_val] at hb
            simpa [Hid] using hb
          · dsimp only at e1 e2 e3 e4 e5
            subst e1 e2 e3 e4 e5
            refine ra_num_yes s p hp hs q hq.out hqs M ?_ z SHN hp2 _ hk (by omega) X hx hO w en
            rw [rep_num, emB_emp] at hb
            simpa [Hid] using hb
          · dsimp only at h5 h6 h0 h1 e2 e3 e4 e5 e6
            subst e2 e3 e4 e5 e6
            have e : shV ⟨K, emp, 0, emp, 0, 0⟩ = .iface 156 (.int .i64 K) := by
              unfold shV
              rw [if_neg (show ¬ K = 5 from h5), if_neg (show ¬ K = 6 from h6)]
            rw [e] at SHN hO
            exact ra_bare_yes s p hp hs q hq.out hqs K z SHN hp2 _ hk (by omega) X hx hO w en
  · have hd : (decide ((0 : Int) ≤ p) && decide (p ≤ (s.size : Int))) = false := by
      by_cases h0 : 0 ≤ p
      · rw [decide_eq_false (show ¬ p ≤ (s.size : Int) from fun q => hin ⟨h0, q⟩), Bool.and_false]
      · rw [decide_eq_false h0, Bool.false_and]
    have hout : Hid (X = (Rp.zero, -1)) := hX.out.symm.trans (atR_out hin)
    clear hX hin
    go_enter Tryz.func27, Tryz.ntmps27
    go_wp2_with (first | (refine wpList_alloc_v rfl 42 rfl _ zeroRp ?_; intro b4 w1 hb4 hw4 hB1 V4; have hz1 := hB1.size) | (go_at_call 63; refine (with_is _ _ _ false hd _).mono ?_; rintro er wq ⟨rfl, hq⟩; subst wq) | (refine wpList_store_v rfl 42 _ _ rfl b4 [.int .i64 0, .string ⟨#[]⟩, .int .i64 0, .string ⟨#[]⟩, .int .i64 0, .int .i64 0] rfl rfl sizeRp V4 rfl (oneRs 0 ⟨#[]⟩ 0 ⟨#[]⟩ 0 0) ?_; intro w9 hO9 V9) | (fail))
    exact row_ct rfl rfl rfl V9 Tryz.underlying42 sizeRp rfl ⟨by rw [hout.out]; rfl, hB1.trans (hO9.2.2 _ hb4)⟩
end Go.Proofs.YtaabmkhckbndgaaGreatDoor.cm
