/- Contracts: the program's closures that find doors; SplitOk, the program's: what it answers is splitB. -/
import Derived.Test.YtbialeffdpmcjaaSy2
import Derived.Laws.EntriesVeiled
namespace Go.Proofs.Ytbialeffdpmcjaa.sx
open Go.ChangeShapes Go.WideShapes Go.ChangeAt Go.RowKit
open Go.Proofs.Ytbialeffdpmcjaa.ce
set_option linter.unusedVariables false

def door (n b : Int) : Int := if 0 ≤ b ∧ b < n then b else -1
def hdoor (n h : Int) : Int := if 0 ≤ h ∧ h ≤ 32767 then h % n else -1
theorem mkf : ∀ (fn : Fn) (first cap : Array Value) (w : World), (Instr.makeFunc fn first cap).run Try.prog w = .ok (.func fn first cap) w := fun _ _ _ _ => rfl

theorem byNumber_any (n : Int) (w : World) : Calls Try.prog 55 #[.int .i64 n] w fun e w' => e = .returned (.func (.func 83) #[] #[.pointer (some ⟨w.heap.size, 0, none⟩)]) ∧ w' = w.alloc (.cells #[.int .i64 n] 2) := by
  have hmf := mkf
  go_enter Try.func55, Try.ntmps55
  go_wp2
  go_ret
  exact ⟨rfl, rfl⟩
theorem byHash_any (n : Int) (w : World) : Calls Try.prog 62 #[.int .i64 n] w fun e w' => e = .returned (.func (.func 86) #[] #[.pointer (some ⟨w.heap.size, 0, none⟩)]) ∧ w' = w.alloc (.cells #[.int .i64 n] 2) := by
  have hmf := mkf
  go_enter Try.func62, Try.ntmps62
  go_wp2
  go_ret
  exact ⟨rfl, rfl⟩
theorem byNumber1_any (n b : Int) (B : Nat) (w : World) (hc : w.cell? ⟨B, 0, none⟩ = some (.int .i64 n)) :
    Calls Try.prog 83 #[.int .i64 b, .pointer (some ⟨B, 0, none⟩)] w fun e w' => e = .returned (.int .i64 (door n b)) ∧ w' = w := by
  unfold door
  by_cases h0 : 0 ≤ b
  · by_cases h1 : b < n
    · rw [if_pos ⟨h0, h1⟩]
      go_enter Try.func83, Try.ntmps83
      go_wp2
      go_ret
      exact ⟨rfl, rfl⟩
    · rw [if_neg (by omega)]
      have h2 : n ≤ b := by omega
      go_enter Try.func83, Try.ntmps83
      go_wp2
      go_ret
      exact ⟨rfl, rfl⟩
  · rw [if_neg (by omega)]
    go_enter Try.func83, Try.ntmps83
    go_wp2
    go_ret
    exact ⟨rfl, rfl⟩
theorem byHash1_any (n h : Int) (hn : 1 ≤ n) (B : Nat) (w : World) (hc : w.cell? ⟨B, 0, none⟩ = some (.int .i64 n)) :
    Calls Try.prog 86 #[.int .i64 h, .pointer (some ⟨B, 0, none⟩)] w fun e w' => e = .returned (.int .i64 (hdoor n h)) ∧ w' = w := by
  unfold hdoor
  by_cases h0 : 0 ≤ h
  · by_cases h1 : h ≤ 32767
    · rw [if_pos ⟨h0, h1⟩]
      have e1 : decide (h < 32768) = true := decide_eq_true (by omega)
      go_enter Try.func86, Try.ntmps86
      go_wp2_with go_in
      go_ret
      exact ⟨rfl, rfl⟩
    · rw [if_neg (by omega)]
      have e1 : decide (h < 32768) = false := decide_eq_false (by omega)
      go_enter Try.func86, Try.ntmps86
      go_wp2_with go_in
      go_ret
      exact ⟨rfl, rfl⟩
  · rw [if_neg (by omega)]
    go_enter Try.func86, Try.ntmps86
    go_wp2_with go_in
    go_ret
    exact ⟨rfl, rfl⟩
theorem numberOf_any (k : Int) (h0 : 0 ≤ k) (h1 : k ≤ 9223372036854775807) (w : World) : Calls Try.prog 67 #[.int .i64 k] w fun e w' => e = .returned (.int .i64 (turn (k / 2) 15)) ∧ w' = w := by
  go_enter Try.func67, Try.ntmps67
  go_wp2_with (go_at_call 90; refine (implTurned_any _ _ _).mono ?_; rintro e w' ⟨rfl, rfl⟩)
  go_ret
  exact ⟨rfl, rfl⟩
def itemB (k : Int) : Bool := decide (k ≤ 65535) && k % 2 == 1
theorem isItem_any (k : Int) (h0 : 0 ≤ k) (w : World) : Calls Try.prog 52 #[.int .i64 k] w fun e w' => e = .returned (.bool (itemB k)) ∧ w' = w := by
  by_cases h1 : k ≤ 65535
  · have e1 : decide (k < 65536) = true := decide_eq_true (by omega)
    have e2 : bits BinOp.and IntKind.i64 k 1 = k % 2 := and1_i64 k h0 (by omega)
    have e : itemB k = (k % 2 == 1) := by unfold itemB; rw [decide_eq_true h1]; rfl
    rw [e]
    go_enter Try.func52, Try.ntmps52
    go_wp2_with go_in
    go_ret
    exact ⟨by first | rfl | simp [e2], rfl⟩
  · have e1 : decide (k < 65536) = false := decide_eq_false (by omega)
    have e : itemB k = false := by unfold itemB; rw [decide_eq_false h1]; rfl
    rw [e]
    go_enter Try.func52, Try.ntmps52
    go_wp2_with go_in
    go_ret
    exact ⟨rfl, rfl⟩
theorem byKey_any (n : Int) (w : World) : Calls Try.prog 51 #[.int .i64 n] w fun e w' => ∃ B1 B2 : Nat, e = .returned (.func (.func 78) #[] #[.pointer (some ⟨B2, 0, none⟩)]) ∧ w'.cell? ⟨B1, 0, none⟩ = some (.int .i64 n) ∧ w'.cell? ⟨B2, 0, none⟩ = some (.func (.func 83) #[] #[.pointer (some ⟨B1, 0, none⟩)]) ∧ Below w.heap.size w w' := by
  have hmf := mkf
  go_enter Try.func51, Try.ntmps51
  go_wp2_with (go_at_call 55; refine (byNumber_any _ _).mono ?_; rintro e w' ⟨rfl, rfl⟩)
  go_ret
  refine ⟨w.heap.size, w.heap.size + 1, rfl, ?_, ?_, ?_⟩
  · simp
  · simp
  · exact (((Below.refl _ w).alloc (Nat.le_refl _) _).alloc (by simp) _)
theorem byKey1_any (n k : Int) (h0 : 0 ≤ k) (h1 : k ≤ 9223372036854775807) (B1 B2 : Nat) (w : World) (hc1 : w.cell? ⟨B1, 0, none⟩ = some (.int .i64 n)) (hc2 : w.cell? ⟨B2, 0, none⟩ = some (.func (.func 83) #[] #[.pointer (some ⟨B1, 0, none⟩)])) :
    Calls Try.prog 78 #[.int .i64 k, .pointer (some ⟨B2, 0, none⟩)] w fun e w' => e = .returned (.int .i64 (door n (turn (k / 2) 15))) ∧ ∃ q, w' = w.drewN q := by
  go_enter Try.func78, Try.ntmps78
  go_wp2
  go_big_quiet (first | (go_at_call 67; exact Calls.quiet_of_same (numberOf_any _ h0 h1 _)) | (go_at_call 83; exact Calls.quiet_of_same (byNumber1_any n _ B1 _ (by rw [World.cell?_drewN]; exact hc1))) | (fail))
  go_wp2
  go_ret
  exact ⟨rfl, _, rfl⟩

theorem sizeRight_is {n : Int} {z : Bool} (h : sizeB n = z) (w : World) : Calls Try.prog 49 #[.int .i64 n] w fun e w' => e = .returned (.bool z) ∧ w' = w := by rw [← h]; exact sizeRight_any n w
theorem okK_impl (n k : Int) (h0 : 0 ≤ k) : okK n k = (itemB k || door n (turn (k / 2) 15) != -1) := by
  by_cases h1 : k ≤ 65535
  · rw [okK_split n k h0 h1, turn_half k h0 h1]
    unfold itemB door
    rw [decide_eq_true h1]
    have := rv15 (k / 2)
    by_cases h : rv (k / 2) 15 < n
    · rw [if_pos ⟨this.1, h⟩, decide_eq_true h]
      have : (rv (k / 2) 15 != -1) = true := by simp; omega
      rw [this]; simp
    · rw [if_neg (by omega), decide_eq_false h]; simp
  · have e1 : okK n k = false := by unfold okK; rw [decide_eq_false h1]; simp
    have e2 : itemB k = false := by unfold itemB; rw [decide_eq_false h1]; rfl
    rw [e1, e2, turn15_no _ (by omega)]
    unfold door
    rw [if_neg (by omega)]
    rfl
theorem keyB00 : keyB 0 0 = 0 := by rw [keyB_yes 0 0 (by omega) (by omega), rv_zero]; rfl

set_option maxRecDepth 100000 in
set_option maxHeartbeats 4000000 in
theorem implSplitOk_any (n : Int) (ks : List Int) (hb63 : ∀ k ∈ ks, k ≤ 9223372036854775807) (v : Value) (hi : Nat) (w : World) (hh : hi ≤ w.heap.size) (r : RdI w hi v ks) :
    Calls Try.prog 15 #[.agg #[.int .i64 n, v]] w fun e w' => e = .returned (.bool (splitB n ks)) ∧ Below w.heap.size w w' := by
  have hl := r.len
  obtain ⟨a, cap, rfl⟩ := r.form
  have R : Hid (RdI w hi (.slice a ks.length cap) ks) := r
  clear r
  have K63 : Hid (∀ k ∈ ks, k ≤ 9223372036854775807) := hb63
  clear hb63
  obtain ⟨z, hz⟩ := hid_ex (splitB n ks)
  rw [hz.out]
  have BX : Hid True := trivial
  have e00 := keyB00
  cases hs : sizeB n with
  | false =>
    have ez : z = false := by rw [← hz.out]; simp [splitB, hs]
    subst ez
    go_enter Try.func15, Try.ntmps15
    go_wp2_with (first | (clear BX; refine wpList_box_v rfl 27 _ rfl [.int .i64 n, .slice a ks.length cap] rfl ?_; intro b1 w1 hb1 hw1 hB1 hV1; obtain ⟨c0, c1⟩ := sp_cells hV1) | (fail))
    go_big_quiet (first | (go_at_call 49; exact Calls.quiet_of_same (sizeRight_is hs _)) | (go_at_call 50; exact Calls.quiet_of_same (implMarkKey_any _ _)) | (fail))
    go_wp2
    go_ret
    exact ⟨rfl, hB1.trans (below_drewN _ _)⟩
  | true =>
    by_cases h0 : ks.length = 0
    · have ez : z = false := by
        have := List.eq_nil_of_length_eq_zero h0
        rw [← hz.out]; simp [splitB, this]
      subst ez
      have h0' : ((ks.length : Int) == 0) = true := by simp [h0]
      go_enter Try.func15, Try.ntmps15
      go_wp2_with (first | (clear BX; refine wpList_box_v rfl 27 _ rfl [.int .i64 n, .slice a ks.length cap] rfl ?_; intro b1 w1 hb1 hw1 hB1 hV1; obtain ⟨c0, c1⟩ := sp_cells hV1) | (fail))
      go_big_quiet (first | (go_at_call 49; exact Calls.quiet_of_same (sizeRight_is hs _)) | (go_at_call 50; exact Calls.quiet_of_same (implMarkKey_any _ _)) | (fail))
      go_wp2
      go_ret
      exact ⟨rfl, hB1.trans (below_drewN _ _)⟩
    · have h0' : ((ks.length : Int) == 0) = false := by rw [beq_eq_false_iff_ne]; omega
      have hl0 : 0 < ks.length := by omega
      have hl0' : (0 : Int) < (ks.length : Int) := by omega
      obtain ⟨k0, hk0⟩ := hid_ex (ks[0])
      have eh : ks.head? = some k0 := by rw [List.head?_eq_getElem?, List.getElem?_eq_getElem hl0, hk0.out]
      obtain ⟨b, off, rfl, hbh, d0⟩ := R.out.cell 0 hl0
      rw [hk0.out, Nat.add_zero] at d0
      by_cases hk : k0 = 0
      · have hk' : (k0 != 0) = false := by simp [hk]
        have hZ : Hid (okFrom n (lastOf ks 0) (ks.drop 0) = z) := by
          unfold Hid
          rw [← hz.out]
          simp [splitB, hs, eh, hk, lastOf]
        clear eh
        go_enter Try.func15, Try.ntmps15
        go_wp2_with (first | (clear BX; refine wpList_box_v rfl 27 _ rfl [.int .i64 n, .slice (some ⟨b, off, none⟩) ks.length cap] rfl ?_; intro b1 w1 hb1 hw1 hB1 hV1; obtain ⟨c0, c1⟩ := sp_cells hV1; have d1 : w1.cell? ⟨b, off, none⟩ = some (.int .i64 k0) := (by rw [hB1.cell (by show b < w.heap.size; omega)]; exact d0)) | (fail))
        go_big_quiet (first | (go_at_call 49; exact Calls.quiet_of_same (sizeRight_is hs _)) | (go_at_call 50; exact Calls.quiet_of_same (implMarkKey_any _ _)) | (fail))
        clear d1 d0
        have hV2 : VBlk (w1.drewN nq) b1 27 [.int .i64 n, .slice (some ⟨b, off, none⟩) ks.length cap] := hV1.of rfl
        go_wp2_with (first | (go_at_call 51; refine (byKey_any _ _).mono ?_; rintro e w3 ⟨B1, B2, rfl, e1, e2, hB2⟩; have hz1 := hB1.size; have hB3 : Below w.heap.size w w3 := (hB1.trans (below_drewN _ _)).trans (hB2.mono hz1); have hV3 : VBlk w3 b1 27 [.int .i64 n, .slice (some ⟨b, off, none⟩) ks.length cap] := hV2.of (hB2.block b1 hw1); clear c0 c1; obtain ⟨c0, c1⟩ := sp_cells hV3) | (fail))
        go_loopw [4, 31] (fun la p wr => ∃ i : Nat, la = .int .i64 (lastOf ks i) ∧ p = .int .i64 i ∧ i ≤ ks.length ∧ Hid (okFrom n (lastOf ks i) (ks.drop i) = z) ∧ Hid (-1 ≤ lastOf ks i) ∧ ∃ q, wr = w3.drewN q) (fun _ p _ => ks.length + 1 - (intOf p).toNat)
        case atStart => exact ⟨0, rfl, rfl, by omega, hZ, (by show (-1 : Int) ≤ -1; omega), 0, rfl⟩
        case round =>
          obtain ⟨i, rfl, rfl, hi1, hF, hy0, q, rfl⟩ := hrel
          by_cases hlt : i < ks.length
          · have hlt' : (i : Int) < (ks.length : Int) := by omega
            obtain ⟨b', off', e', hb', d1⟩ := (R.out.below hB3 hh).cell i hlt
            cases e'
            rw [drop_ok n ks i hlt] at hF
            have hnext : Hid (lastOf ks (i + 1) = ks[i]) := by unfold Hid; simp [lastOf, hlt]
            have hk1 := K63.out ks[i] (List.getElem_mem hlt)
            obtain ⟨k, hkk⟩ := hid_ex (ks[i])
            rw [hkk.out] at d1 hF hnext hk1
            obtain ⟨y, hy⟩ := hid_ex (lastOf ks i)
            rw [hy.out] at hF hy0 ⊢
            have hym := hy0.out
            by_cases hky : k ≤ y
            · have ez : z = false := by rw [← hF.out, decide_eq_false (show ¬ y < k by omega)]; rfl
              subst ez
              go_wp2_with (first | (go_at_call 52; refine (isItem_any _ hk0 _).mono ?_; rintro e w' ⟨rfl, rfl⟩; rw [hI]) | (go_at_call 78; refine (byKey1_any n _ hk0 hk1 B1 B2 _ (by rw [World.cell?_drewN]; exact e1) (by rw [World.cell?_drewN]; exact e2)).mono ?_; rintro e w' ⟨rfl, q', rfl⟩; rw [hD]) | (fail))
              go_ret
              exact ⟨rfl, hB3.trans (below_drewN _ _)⟩
            · have hk0 : 0 ≤ k := by omega
              have HO : Hid (okK n k = (itemB k || door n (turn (k / 2) 15) != -1)) := okK_impl n k hk0
              rw [decide_eq_true (show y < k by omega), Bool.true_and] at hF
              obtain ⟨d, hD⟩ : ∃ d, door n (turn (k / 2) 15) = d := ⟨_, rfl⟩
              rw [hD] at HO
              cases hI : itemB k with
              | true =>
                have hG : Hid (okFrom n (lastOf ks (i + 1)) (ks.drop (i + 1)) = z) := by unfold Hid; rw [← hF.out, HO.out, hI]; simp
                go_wp2_with (first | (go_at_call 52; refine (isItem_any _ hk0 _).mono ?_; rintro e w' ⟨rfl, rfl⟩; rw [hI]) | (go_at_call 78; refine (byKey1_any n _ hk0 hk1 B1 B2 _ (by rw [World.cell?_drewN]; exact e1) (by rw [World.cell?_drewN]; exact e2)).mono ?_; rintro e w' ⟨rfl, q', rfl⟩; rw [hD]) | (fail))
                go_roundw
                case rel => exact ⟨i + 1, by rw [hnext.out], by go_num, by omega, hG, by unfold Hid; rw [hnext.out]; omega, _, rfl⟩
                case measure => simp [intOf]; omega
              | false =>
                by_cases hd : d = -1
                · subst hd
                  have ez : z = false := by rw [← hF.out, HO.out, hI]; rfl
                  subst ez
                  go_wp2_with (first | (go_at_call 52; refine (isItem_any _ hk0 _).mono ?_; rintro e w' ⟨rfl, rfl⟩; rw [hI]) | (go_at_call 78; refine (byKey1_any n _ hk0 hk1 B1 B2 _ (by rw [World.cell?_drewN]; exact e1) (by rw [World.cell?_drewN]; exact e2)).mono ?_; rintro e w' ⟨rfl, q', rfl⟩; rw [hD]) | (fail))
                  go_ret
                  exact ⟨rfl, hB3.trans (below_drewN _ _)⟩
                · have hd' : (d == -1) = false := by simpa using hd
                  have hG : Hid (okFrom n (lastOf ks (i + 1)) (ks.drop (i + 1)) = z) := by unfold Hid; rw [← hF.out, HO.out, hI]; simp [hd]
                  go_wp2_with (first | (go_at_call 52; refine (isItem_any _ hk0 _).mono ?_; rintro e w' ⟨rfl, rfl⟩; rw [hI]) | (go_at_call 78; refine (byKey1_any n _ hk0 hk1 B1 B2 _ (by rw [World.cell?_drewN]; exact e1) (by rw [World.cell?_drewN]; exact e2)).mono ?_; rintro e w' ⟨rfl, q', rfl⟩; rw [hD]) | (fail))
                  go_roundw
                  case rel => exact ⟨i + 1, by rw [hnext.out], by go_num, by omega, hG, by unfold Hid; rw [hnext.out]; omega, _, rfl⟩
                  case measure => simp [intOf]; omega
          · have hlt' : ¬ (i : Int) < (ks.length : Int) := by omega
            have ez : z = true := by rw [← hF.out, List.drop_eq_nil_of_le (by omega)]; rfl
            subst ez
            go_wp2
            go_ret
            exact ⟨rfl, hB3.trans (below_drewN _ _)⟩
      · have hk' : (k0 != 0) = true := by simpa using hk
        have ez : z = false := by rw [← hz.out]; simp [splitB, eh, hk]
        subst ez
        clear eh
        go_enter Try.func15, Try.ntmps15
        go_wp2_with (first | (clear BX; refine wpList_box_v rfl 27 _ rfl [.int .i64 n, .slice (some ⟨b, off, none⟩) ks.length cap] rfl ?_; intro b1 w1 hb1 hw1 hB1 hV1; obtain ⟨c0, c1⟩ := sp_cells hV1; have d1 : w1.cell? ⟨b, off, none⟩ = some (.int .i64 k0) := (by rw [hB1.cell (by show b < w.heap.size; omega)]; exact d0)) | (fail))
        go_big_quiet (first | (go_at_call 49; exact Calls.quiet_of_same (sizeRight_is hs _)) | (go_at_call 50; exact Calls.quiet_of_same (implMarkKey_any _ _)) | (fail))
        go_wp2
        go_ret
        exact ⟨rfl, hB1.trans (below_drewN _ _)⟩
end Go.Proofs.Ytbialeffdpmcjaa.sx
