/- The laws' marks on lists of Item. -/
import Derived.Test.YtmnjmghlkiljhaaIo1
import Derived.Test.YtmnjmghlkiljhaaMk0
import Derived.Deep.RegionHeld3
import Derived.BigQuiet
namespace Go.Proofs.Ytmnjmghlkiljhaa.rg
open Go.ChangeShapes Go.WideShapes Go.ChangeAt Go.RowKit
open Go.Deep Go.Joins
open Go.Proofs.Ytmnjmghlkiljhaa.ce Go.Proofs.Ytmnjmghlkiljhaa.ro
set_option linter.unusedVariables false

/-- what is marked from m on -/
def mkIt (m : Nat) : It := ⟨mtx (m), (((m + 1 : Nat)) : Int), mtx (m + 2), (((m + 3 : Nat)) : Int), (((m + 4 : Nat)) : Int)⟩
def mksIt (k n : Nat) : List It := (List.range n).map fun i => mkIt (k + 5 * i)
theorem mksIt_len (k n : Nat) : (mksIt k n).length = n := by simp [mksIt]
theorem mksIt_succ (k n : Nat) : mksIt k (n + 1) = mksIt k n ++ [mkIt (k + 5 * n)] := by simp [mksIt, List.range_succ]
theorem mksIt_get (k n i : Nat) (h : i < (mksIt k n).length) : (mksIt k n)[i] = mkIt (k + 5 * i) := by simp [mksIt]
theorem sizeIt_s : (Try.prog.info? 9).map (·.size) = some 1 := by kernel_rfl
theorem sizeIt_i : (Try.prog.info? 2).map (·.size) = some 1 := by kernel_rfl
theorem rdIt_of {α : Type} {E : Enc α} {w : World} {n cap : Nat} {a : Option Addr} {xs : List α} (r : Rd E w (.slice a n cap) xs) (i : Nat) (hi : i < xs.length) :
    ∃ b off, a = some ⟨b, off, none⟩ ∧ b < w.heap.size ∧ ∀ j v, (E.put xs[i])[j]? = some v → w.cell? ⟨b, off + i * E.k + j, none⟩ = some v := by
  obtain ⟨b, off, e, h1, h2⟩ := r.start (by omega)
  refine ⟨b, off, e, h1, fun j v hv => ?_⟩
  have hj : j < E.k := by have := (List.getElem?_eq_some_iff.1 hv).1; rw [E.len] at this; exact this
  have := E.row_get xs i j hi hj
  rw [hv] at this
  have := h2 _ _ this
  rw [Nat.add_assoc]
  exact this
theorem heldIt_grow {w w' : World} {b off i : Nat} {c0 c1 c2 c3 c4 : Value} (hB : Below w.heap.size w w') (hb : b < w.heap.size) (h : w.cell? ⟨b, off + i * 5, none⟩ = some c0 ∧ w.cell? ⟨b, off + i * 5 + 1, none⟩ = some c1 ∧ w.cell? ⟨b, off + i * 5 + 2, none⟩ = some c2 ∧ w.cell? ⟨b, off + i * 5 + 3, none⟩ = some c3 ∧ w.cell? ⟨b, off + i * 5 + 4, none⟩ = some c4) : w'.cell? ⟨b, off + i * 5, none⟩ = some c0 ∧ w'.cell? ⟨b, off + i * 5 + 1, none⟩ = some c1 ∧ w'.cell? ⟨b, off + i * 5 + 2, none⟩ = some c2 ∧ w'.cell? ⟨b, off + i * 5 + 3, none⟩ = some c3 ∧ w'.cell? ⟨b, off + i * 5 + 4, none⟩ = some c4 := by
  have g : ∀ p v, w.cell? ⟨b, p, none⟩ = some v → w'.cell? ⟨b, p, none⟩ = some v := fun p v hv => (World.cell?_of_block (w := w) (w' := w') (a := ⟨b, p, none⟩) (hB.block b hb)).trans hv
  obtain ⟨h0, h1, h2, h3, h4⟩ := h
  exact ⟨g _ _ h0, g _ _ h1, g _ _ h2, g _ _ h3, g _ _ h4⟩
set_option maxRecDepth 10000 in
set_option maxHeartbeats 4000000 in
theorem markIts_any (xs : List It) (v : Value) (lo hi : Nat) (k : Nat) (hk : 1 ≤ k) (hk2 : k + 5 * xs.length ≤ 16000000) (mm : Nat) (hmm : mm = k + 5 * xs.length) (w : World) (own : Own encIt w lo hi v xs) (hlo : lo ≤ w.heap.size) :
    Calls Try.prog 43 #[v, .int .i64 k] w fun e w' => e = .returned (.int .i64 mm) ∧ Own encIt w' lo hi v (mksIt k xs.length) ∧ Within lo hi w w' ∧ Ty lo encIt.t w w' := by
  obtain ⟨a, cap, rfl⟩ := own.rd.form
  have O0 : Hid (Mkd encIt w w lo hi (.slice a xs.length cap) xs) := ⟨own, Within.refl _ _ _, Ty.refl _ _ _, hlo⟩
  have HMM : Hid (mm = k + 5 * xs.length) := hmm
  clear own hmm
  go_enter Try.func43, Try.ntmps43
  go_wp2
  go_loopw [1, 5] (fun q v' wr => ∃ i m : Nat, i ≤ xs.length ∧ v' = .int .i64 i ∧ q = .int .i64 m ∧ Hid (m = k + 5 * i) ∧ Hid (Mkd encIt w wr lo hi (.slice a xs.length cap) (mksIt k i ++ xs.drop i))) (fun _ v' _ => xs.length - (intOf v').toNat)
  case atStart => exact ⟨0, k, by omega, rfl, rfl, rfl, by unfold Hid; simpa [mksIt] using O0.out⟩
  case round =>
    obtain ⟨i, m, hi1, rfl, rfl, hm, O⟩ := hrel
    by_cases hlt : i < xs.length
    · have hlt' : (i : Int) < (xs.length : Int) := by omega
      have hm1 : 1 ≤ m ∧ m ≤ 16000000 := by have := hm.out; omega
      have hAl : (mksIt k i).length = i := mksIt_len k i
      have MM := O.out
      rw [List.drop_eq_getElem_cons hlt] at MM
      obtain ⟨g, c2, e1, -, -⟩ := MM.o.form (by rw [List.length_append, List.length_cons]; omega)
      have hag : a = some ⟨g, 0, none⟩ := by injection e1
      subst hag
      obtain ⟨x, hx⟩ := hid_ex xs[i]
      rw [hx.out] at MM
      obtain ⟨x0, x1, x2, x3, x4⟩ := x
      clear O e1 hx
      obtain ⟨m1, hm1⟩ := hid_ex (m + 1)
      have e1 : IntKind.i64.wrap ((m : Int) + 1) = (m1 : Int) := by have := hm1.out; rw [IntKind.wrap_i64]; omega
      have g1 : 1 ≤ m1 ∧ m1 ≤ 16000100 := by have := hm1.out; omega
      obtain ⟨z0, hz0⟩ := hid_ex (mtx m)
      obtain ⟨m2, hm2⟩ := hid_ex (m + 2)
      have e2 : IntKind.i64.wrap ((m1 : Int) + 1) = (m2 : Int) := by have := hm2.out; have := hm1.out; rw [IntKind.wrap_i64]; omega
      have g2 : 1 ≤ m2 ∧ m2 ≤ 16000100 := by have := hm2.out; omega
      obtain ⟨m3, hm3⟩ := hid_ex (m + 3)
      have e3 : IntKind.i64.wrap ((m2 : Int) + 1) = (m3 : Int) := by have := hm3.out; have := hm2.out; rw [IntKind.wrap_i64]; omega
      have g3 : 1 ≤ m3 ∧ m3 ≤ 16000100 := by have := hm3.out; omega
      obtain ⟨z2, hz2⟩ := hid_ex (mtx m2)
      obtain ⟨m4, hm4⟩ := hid_ex (m + 4)
      have e4 : IntKind.i64.wrap ((m3 : Int) + 1) = (m4 : Int) := by have := hm4.out; have := hm3.out; rw [IntKind.wrap_i64]; omega
      have g4 : 1 ≤ m4 ∧ m4 ≤ 16000100 := by have := hm4.out; omega
      have e5 : IntKind.i64.wrap ((m4 : Int) + 1) = ((m + 5 : Nat) : Int) := by have := hm4.out; rw [IntKind.wrap_i64]; omega
      have HMK : Hid (((⟨z0, (m1 : Int), z2, (m3 : Int), (m4 : Int)⟩) : It) = mkIt m) := by
        unfold Hid mkIt
        have q1 := hm1.out; have q2 := hm2.out; have q3 := hm3.out; have q4 := hm4.out; have p0 := hz0.out; have p2 := hz2.out
        subst q1 q2 q3 q4
        subst p0 p2
        rfl
      replace MM : Hid (Mkd encIt w wr lo hi (.slice (some ⟨g, 0, none⟩) xs.length cap) (mksIt k i ++ ⟨x0, x1, x2, x3, x4⟩ :: xs.drop (i + 1))) := MM
      have HMI : Hid (m = k + 5 * i) := hm
      have tk0 : Hid True := trivial
      have sk0 : Hid True := trivial
      have sk1 : Hid True := trivial
      have tk2 : Hid True := trivial
      have sk2 : Hid True := trivial
      have sk3 : Hid True := trivial
      have sk4 : Hid True := trivial
      replace MM := MM.out
      go_wp2_with (first | (clear tk0; go_at_call 85; refine (markText_any m (by omega) (by omega) _).mono ?_; rintro e u0 ⟨rfl, hBu0⟩; rw [hz0.out]; replace MM := MM.grow hBu0; clear hBu0) | (clear sk0; refine wpList_store_f (E := encIt) (A := mksIt k i) (B := xs.drop (i + 1)) (z := ⟨x0, x1, x2, x3, x4⟩) rfl 9 _ _ rfl MM i 0 hAl (show 0 < 5 by decide) (.string z0) ⟨z0, x1, x2, x3, x4⟩ rfl rfl sizeIt_s rfl rfl ?_; clear MM; intro w0 MM) | (clear sk1; refine wpList_store_f (E := encIt) (A := mksIt k i) (B := xs.drop (i + 1)) (z := ⟨z0, x1, x2, x3, x4⟩) rfl 2 _ _ rfl MM i 1 hAl (show 1 < 5 by decide) (.int .i64 (m1 : Int)) ⟨z0, (m1 : Int), x2, x3, x4⟩ rfl rfl sizeIt_i rfl rfl ?_; clear MM; intro w1 MM) | (clear tk2; go_at_call 85; refine (markText_any m2 (by omega) (by omega) _).mono ?_; rintro e u2 ⟨rfl, hBu2⟩; rw [hz2.out]; replace MM := MM.grow hBu2; clear hBu2) | (clear sk2; refine wpList_store_f (E := encIt) (A := mksIt k i) (B := xs.drop (i + 1)) (z := ⟨z0, (m1 : Int), x2, x3, x4⟩) rfl 9 _ _ rfl MM i 2 hAl (show 2 < 5 by decide) (.string z2) ⟨z0, (m1 : Int), z2, x3, x4⟩ rfl rfl sizeIt_s rfl rfl ?_; clear MM; intro w2 MM) | (clear sk3; refine wpList_store_f (E := encIt) (A := mksIt k i) (B := xs.drop (i + 1)) (z := ⟨z0, (m1 : Int), z2, x3, x4⟩) rfl 2 _ _ rfl MM i 3 hAl (show 3 < 5 by decide) (.int .i64 (m3 : Int)) ⟨z0, (m1 : Int), z2, (m3 : Int), x4⟩ rfl rfl sizeIt_i rfl rfl ?_; clear MM; intro w3 MM) | (clear sk4; refine wpList_store_f (E := encIt) (A := mksIt k i) (B := xs.drop (i + 1)) (z := ⟨z0, (m1 : Int), z2, (m3 : Int), x4⟩) rfl 2 _ _ rfl MM i 4 hAl (show 4 < 5 by decide) (.int .i64 (m4 : Int)) ⟨z0, (m1 : Int), z2, (m3 : Int), (m4 : Int)⟩ rfl rfl sizeIt_i rfl rfl ?_; clear MM; intro w4 MM) | (fail))
      go_roundw
      case rel =>
        rw [HMK.out, HMI.out] at MM
        refine ⟨i + 1, m + 5, by omega, by go_num, by go_num, by have := HMI.out; unfold Hid; omega, ?_⟩
        unfold Hid
        rw [mksIt_succ, List.append_assoc]
        exact MM
      case measure => simp [intOf]; omega
    · have hlt' : ¬ (i : Int) < (xs.length : Int) := by omega
      have o2 := O.out
      rw [show i = xs.length by omega, List.drop_length, List.append_nil] at o2
      have hm3 : m = mm := by have h1 := hm.out; have h2 := HMM.out; have hix : i = xs.length := (by omega); rw [hix] at h1; omega
      subst hm3
      clear O
      go_wp2
      go_ret
      exact ⟨rfl, o2.o, o2.wi, o2.ty⟩

end Go.Proofs.Ytmnjmghlkiljhaa.rg
