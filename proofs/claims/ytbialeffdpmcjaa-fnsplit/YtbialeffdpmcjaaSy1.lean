/- Splits in memory: a variable that holds one, slices of numbers that begin somewhere; copies; the sizes. -/
import Derived.Test.YtbialeffdpmcjaaIn1
import Derived.Test.YtbialeffdpmcjaaHd1
import Derived.Test.YtbialeffdpmcjaaSx0
import Derived.Test.YtbialeffdpmcjaaParent1b
import Derived.Lib.SliceRun
namespace Go.Proofs.Ytbialeffdpmcjaa.sx
open Go.ChangeShapes Go.WideShapes Go.ChangeAt Go.RowKit
open Go.Proofs.Ytbialeffdpmcjaa.ce
set_option linter.unusedVariables false

/-- a variable that holds a split -/
structure SV (w : World) (b : Nat) (t : TypeId) (u v : Value) : Prop where
  blk : VBlk w b t [u, v]
theorem SV.keep {w w' : World} {b : Nat} {t : TypeId} {u v : Value} (h : SV w b t u v) (s : ∀ k, b ≤ k → k < b + 1 → w'.heap[k]? = w.heap[k]?) : SV w' b t u v := ⟨h.blk.of (s b (Nat.le_refl _) (Nat.lt_succ_self _))⟩
theorem SV.below {w w' : World} {B b : Nat} {t : TypeId} {u v : Value} (h : SV w b t u v) (hb : Below B w w') (hlt : b + 1 ≤ B) : SV w' b t u v := h.keep fun k _ h2 => hb.block k (by omega)
theorem SV.drew {w : World} {b : Nat} {t : TypeId} {u v : Value} (h : SV w b t u v) : SV w.drew b t u v := ⟨h.blk⟩
theorem SV.lt {w : World} {b : Nat} {t : TypeId} {u v : Value} (h : SV w b t u v) : b < w.heap.size := h.blk.lt
theorem SV.cells {w : World} {b : Nat} {t : TypeId} {u v : Value} (h : SV w b t u v) : w.cell? ⟨b, 0, none⟩ = some u ∧ w.cell? ⟨b, 1, none⟩ = some v := ⟨h.blk.cell 0 (by simp), h.blk.cell 1 (by simp)⟩
theorem sp_cells {w : World} {b : Nat} {t : TypeId} {u v : Value} (h : VBlk w b t [u, v]) : w.cell? ⟨b, 0, none⟩ = some u ∧ w.cell? ⟨b, 1, none⟩ = some v := ⟨h.cell 0 (by simp), h.cell 1 (by simp)⟩
theorem sizeSp : (Try.prog.info? 27).map (·.size) = some 2 := by kernel_rfl
theorem zeroSp (w : World) : (zeroValue 27).run Try.prog w = .ok (.agg [Value.int .i64 0, .slice none 0 0].toArray) w := Try.zeroValue27 w

/-- the numbers xs are read at a slice that begins somewhere -/
structure RdS (w : World) (hi : Nat) (v : Value) (xs : List Int) : Prop where
  fits : ∃ b off cap, v = .slice (some ⟨b, off, none⟩) xs.length cap ∧ xs.length ≤ cap ∧ cap ≤ maxLen ∧ b < hi ∧ w.rangeAt b off (ivs xs)
theorem _root_.Go.Proofs.Ytbialeffdpmcjaa.ce.RdI.start {w : World} {hi : Nat} {v : Value} {xs : List Int} (r : RdI w hi v xs) (h : 1 ≤ xs.length) : RdS w hi v xs := by
  obtain ⟨a, cap, e, h1, h2, h3⟩ := r.fits
  obtain ⟨b, off, rfl, h4, h5⟩ := h3 (by intro e; subst e; simp at h)
  exact ⟨b, off, cap, e, h1, h2, h4, h5⟩
theorem RdS.rd {w : World} {hi : Nat} {v : Value} {xs : List Int} (r : RdS w hi v xs) : RdI w hi v xs := by
  obtain ⟨b, off, cap, e, h1, h2, h4, h5⟩ := r.fits
  exact ⟨_, cap, e, h1, h2, fun _ => ⟨b, off, rfl, h4, h5⟩⟩
theorem RdS.keep {w w' : World} {hi : Nat} {v : Value} {xs : List Int} (r : RdS w hi v xs) (s : ∀ k, k < hi → w'.heap[k]? = w.heap[k]?) : RdS w' hi v xs := by
  obtain ⟨b, off, cap, e, h1, h2, h4, h5⟩ := r.fits
  exact ⟨b, off, cap, e, h1, h2, h4, range_of h5 (s b h4)⟩
theorem RdS.below {w w' : World} {hi B : Nat} {v : Value} {xs : List Int} (r : RdS w hi v xs) (hb : Below B w w') (hB : hi ≤ B) : RdS w' hi v xs := r.keep fun k hk => hb.block k (by omega)
theorem range_take {w : World} {b off : Nat} {xs : List Int} (h : w.rangeAt b off (ivs xs)) (k : Nat) : w.rangeAt b off (ivs (xs.take k)) := fun j u hj => by
  refine h j u ?_
  unfold ivs at hj ⊢
  rw [List.map_take, List.getElem?_take] at hj
  split at hj
  · exact hj
  · cases hj
theorem range_drop {w : World} {b off : Nat} {xs : List Int} (h : w.rangeAt b off (ivs xs)) (k : Nat) : w.rangeAt b (off + k) (ivs (xs.drop k)) := fun j u hj => by
  have := h (k + j) u (by unfold ivs at hj ⊢; rw [List.map_drop, List.getElem?_drop] at hj; exact hj)
  rw [Nat.add_assoc]
  exact this
theorem RdS.take {w : World} {hi : Nat} {b off n cap : Nat} {xs : List Int} (r : RdS w hi (.slice (some ⟨b, off, none⟩) n cap) xs) (k : Nat) (hk : k ≤ xs.length) : RdS w hi (.slice (some ⟨b, off, none⟩) k cap) (xs.take k) := by
  obtain ⟨b', off', cap', e, h1, h2, h4, h5⟩ := r.fits
  cases e
  exact ⟨b, off, cap, by rw [List.length_take, Nat.min_eq_left hk], by rw [List.length_take]; omega, h2, h4, range_take h5 k⟩
theorem RdS.drop {w : World} {hi : Nat} {b off n cap : Nat} {xs : List Int} (r : RdS w hi (.slice (some ⟨b, off, none⟩) n cap) xs) (k : Nat) (hk : k ≤ xs.length) : RdS w hi (.slice (some ⟨b, off + k, none⟩) (n - k) (cap - k)) (xs.drop k) := by
  obtain ⟨b', off', cap', e, h1, h2, h4, h5⟩ := r.fits
  cases e
  exact ⟨b, off + k, cap - k, by rw [List.length_drop], by rw [List.length_drop]; omega, by omega, h4, range_drop h5 k⟩
theorem RdS.form {w : World} {hi : Nat} {v : Value} {xs : List Int} (r : RdS w hi v xs) : ∃ b off cap, v = .slice (some ⟨b, off, none⟩) xs.length cap ∧ xs.length ≤ cap ∧ cap ≤ 9223372036854775807 ∧ b < hi := by
  obtain ⟨b, off, cap, e, h1, h2, h4, h5⟩ := r.fits
  exact ⟨b, off, cap, e, h1, by unfold maxLen at h2; exact h2, h4⟩
theorem RdS.range {w : World} {hi b off n cap : Nat} {xs : List Int} (r : RdS w hi (.slice (some ⟨b, off, none⟩) n cap) xs) : w.rangeAt b off (ivs xs) ∧ b < hi ∧ n = xs.length := by
  obtain ⟨b', off', cap', e, h1, h2, h4, h5⟩ := r.fits
  cases e
  exact ⟨h5, h4, rfl⟩
theorem RdS.cell {w : World} {hi b off n cap : Nat} {xs : List Int} (r : RdS w hi (.slice (some ⟨b, off, none⟩) n cap) xs) (i : Nat) (hi' : i < xs.length) : w.cell? ⟨b, off + i, none⟩ = some (.int .i64 xs[i]) := r.range.1 i _ (ivs_get xs i hi')
theorem RdS.wide {w : World} {hi hi' : Nat} {v : Value} {xs : List Int} (r : RdS w hi v xs) (hh : hi ≤ hi') : RdS w hi' v xs := by
  obtain ⟨b, off, cap, e, h1, h2, h4, h5⟩ := r.fits
  exact ⟨b, off, cap, e, h1, h2, by omega, h5⟩

theorem l1Copy_any (xs : List Int) (v : Value) (hi : Nat) (w : World) (hh : hi ≤ w.heap.size) (r : RdS w hi v xs) (h2 : xs.length ≤ 1048576) :
    Calls Try.prog 81 #[v] w fun e w' => ∃ v', e = .returned v' ∧ OwnI w' w.heap.size w'.heap.size v' xs ∧ Below w.heap.size w w' := by
  have hBa : Below w.heap.size w (w.alloc (.cells #[] 2)) := (Below.refl _ _).alloc (Nat.le_refl _) _
  have r1 := r.below hBa hh
  obtain ⟨b, off, cap, rfl, h3, h4, h5⟩ := r.form
  obtain ⟨q1, q2, q3⟩ := r1.range
  clear r r1
  go_enter Try.func81, Try.ntmps81
  go_wp2_with (first | (at_builtin; refine wpList_append_i rfl _ _ 22 rfl Try.underlying22 w.heap.size _ _ [] rfl (ownI_empty w) (by simp) b off xs.length cap xs rfl rfl q1 (by simp; omega) ?_; intro v' w2 hO2 hB2) | (fail))
  go_ret
  exact ⟨_, rfl, by simpa using hO2, hBa.trans hB2⟩

theorem clone_any (xs : List Int) (v : Value) (hi : Nat) (w : World) (hh : hi ≤ w.heap.size) (r : RdS w hi v xs) (h2 : xs.length ≤ 1048576) :
    Calls Try.prog 84 #[v] w fun e w' => ∃ v', e = .returned v' ∧ OwnI w' w.heap.size w'.heap.size v' xs ∧ Below w.heap.size w w' := by
  have hBa : Below w.heap.size w (w.alloc (.cells #[] 2)) := (Below.refl _ _).alloc (Nat.le_refl _) _
  have r1 := r.below hBa hh
  obtain ⟨b, off, cap, rfl, h3, h4, h5⟩ := r.form
  obtain ⟨q1, q2, q3⟩ := r1.range
  clear r r1
  have hnil : ∀ W, (binOp .eql 22 (.slice (some ⟨b, off, none⟩) xs.length cap) (.slice none 0 0)).run Try.prog W = .ok (.bool false) W := fun W => by rw [Lib.run_eql_slice_nil W _ _ _ _ _ _ _ Try.underlying22]; rfl
  go_enter Try.func84, Try.ntmps84
  go_wp2_with (first | (at_builtin; refine wpList_append_i rfl _ _ 22 rfl Try.underlying22 w.heap.size _ _ [] rfl (ownI_empty w) (by simp) b off xs.length cap xs rfl rfl q1 (by simp; omega) ?_; intro v' w2 hO2 hB2) | (fail))
  go_ret
  exact ⟨_, rfl, by simpa using hO2, hBa.trans hB2⟩

theorem l7Size_any (n : Int) (w : World) : Calls Try.prog 46 #[.int .i64 n] w fun e w' => e = .returned (.bool (sizeB n)) ∧ w' = w := by
  obtain ⟨z, hz⟩ := hid_ex (sizeB n)
  rw [hz.out]
  go_enter Try.func46, Try.ntmps46
  go_wp2
  go_loop [3] (fun v => ∃ k : Int, v = .int .i64 k ∧ Hid (k = 1 ∨ k = 2 ∨ k = 4 ∨ k = 8 ∨ k = 16 ∨ k = 32 ∨ k = 64 ∨ k = 128) ∧ Hid (sizeB n = true → k ≤ n)) (fun v => (128 - intOf v).toNat)
  case atStart => exact ⟨1, rfl, .inl rfl, fun h => (sizeB_bd h).1⟩
  case round =>
    obtain ⟨k, rfl, hk, hn⟩ := hrel
    by_cases h1 : k ≤ 64
    · by_cases h2 : n = k
      · have h3 : (n == k) = true := by simpa using h2
        have ez : z = true := by
          rw [← hz.out]
          have := hk.out
          unfold sizeB
          simp only [Bool.or_eq_true, beq_iff_eq]
          omega
        subst ez
        go_wp2
        go_ret
        exact ⟨rfl, rfl⟩
      · have h3 : (n == k) = false := by simpa using h2
        have h4 : Hid (2 * k = 1 ∨ 2 * k = 2 ∨ 2 * k = 4 ∨ 2 * k = 8 ∨ 2 * k = 16 ∨ 2 * k = 32 ∨ 2 * k = 64 ∨ 2 * k = 128) := by have := hk.out; unfold Hid; omega
        have h5 : Hid (sizeB n = true → 2 * k ≤ n) := fun h => by
          have a := hn.out h
          have b := hk.out
          unfold sizeB at h
          simp only [Bool.or_eq_true, beq_iff_eq] at h
          omega
        have h6 : 1 ≤ k := by have := hk.out; omega
        go_wp2
        go_round
        case rel => exact ⟨2 * k, by go_num, h4, h5⟩
        case measure => simp [intOf]; omega
    · have ez : z = false := by
        rw [← hz.out]
        have := hk.out
        cases h : sizeB n with
        | false => rfl
        | true =>
          have a := hn.out h
          have b := sizeB_bd h
          omega
      subst ez
      go_wp2
      go_ret
      exact ⟨rfl, rfl⟩

theorem topFrom_size (n : Int) (h1 : 1 ≤ n) (h2 : n ≤ 64) : (topFrom n 15 1 == n) = sizeB n := by
  have h : ∀ m : Fin 65, 1 ≤ m.val → (topFrom (m.val : Int) 15 1 == (m.val : Int)) = sizeB (m.val : Int) := by decide
  have := h ⟨n.toNat, by omega⟩ (by show 1 ≤ n.toNat; omega)
  rw [show ((n.toNat : Nat) : Int) = n by omega] at this
  exact this
theorem sizeRight_any (n : Int) (w : World) : Calls Try.prog 49 #[.int .i64 n] w fun e w' => e = .returned (.bool (sizeB n)) ∧ w' = w := by
  by_cases h1 : 1 ≤ n
  · by_cases h2 : n ≤ 64
    · have ht := topFrom_size n h1 h2
      obtain ⟨t, hT⟩ := hid_ex (topFrom n 15 1)
      rw [hT.out] at ht
      rw [← ht]
      clear ht
      go_enter Try.func49, Try.ntmps49
      go_wp2_with (first | (go_at_call 75; refine (highest _ h1 (by omega) _).mono ?_; rintro e w' ⟨rfl, rfl⟩; rw [hT.out]) | (fail))
      go_ret
      exact ⟨rfl, rfl⟩
    · have e : sizeB n = false := by cases h : sizeB n with | false => rfl | true => have := sizeB_bd h; omega
      rw [e]
      go_enter Try.func49, Try.ntmps49
      go_wp2
      go_ret
      exact ⟨rfl, rfl⟩
  · have e : sizeB n = false := by cases h : sizeB n with | false => rfl | true => have := sizeB_bd h; omega
    rw [e]
    go_enter Try.func49, Try.ntmps49
    go_wp2
    go_ret
    exact ⟨rfl, rfl⟩
end Go.Proofs.Ytbialeffdpmcjaa.sx
