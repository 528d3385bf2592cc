/- The laws' marks on lists of Cmd. -/
import Derived.Test.YtefmndjoailemaaDoorRcCm
import Derived.Test.YtefmndjoailemaaDoorMk0
import Derived.Deep.RegionHeld3
import Derived.BigQuiet
namespace Go.Proofs.YtefmndjoailemaaDoor.rg
open Go.ChangeShapes Go.WideShapes Go.ChangeAt Go.RowKit
open Go.Deep Go.Joins
open Go.Proofs.YtefmndjoailemaaDoor.ce Go.Proofs.YtefmndjoailemaaDoor.ro
set_option linter.unusedVariables false

/-- what is marked from m on -/
def mkCm (m : Nat) : cm.Cm := ⟨(((m : Nat)) : Int), mtx (m + 1), (((m + 2 : Nat)) : Int), (((m + 3 : Nat)) : Int), mtx (m + 4), (((m + 5 : Nat)) : Int), (((m + 6 : Nat)) : Int), ((((m + 7 : Nat) : Int) % 3) == 0)⟩
def mksCm (k n : Nat) : List cm.Cm := (List.range n).map fun i => mkCm (k + 8 * i)
theorem mksCm_len (k n : Nat) : (mksCm k n).length = n := by simp [mksCm]
theorem mksCm_succ (k n : Nat) : mksCm k (n + 1) = mksCm k n ++ [mkCm (k + 8 * n)] := by simp [mksCm, List.range_succ]
theorem mksCm_get (k n i : Nat) (h : i < (mksCm k n).length) : (mksCm k n)[i] = mkCm (k + 8 * i) := by simp [mksCm]
theorem sizeCm_i : (Tryd.prog.info? 2).map (·.size) = some 1 := by kernel_rfl
theorem sizeCm_s : (Tryd.prog.info? 9).map (·.size) = some 1 := by kernel_rfl
theorem sizeCm_b : (Tryd.prog.info? 4).map (·.size) = some 1 := by kernel_rfl
theorem rdCm_of {α : Type} {E : Enc α} {w : World} {n cap : Nat} {a : Option Addr} {xs : List α} (r : Rd E w (.slice a n cap) xs) (i : Nat) (hi : i < xs.length) :
    ∃ b off, a = some ⟨b, off, none⟩ ∧ b < w.heap.size ∧ ∀ j v, (E.put xs[i])[j]? = some v → w.cell? ⟨b, off + i * E.k + j, none⟩ = some v := by
  obtain ⟨b, off, e, h1, h2⟩ := r.start (by omega)
  refine ⟨b, off, e, h1, fun j v hv => ?_⟩
  have hj : j < E.k := by have := (List.getElem?_eq_some_iff.1 hv).1; rw [E.len] at this; exact this
  have := E.row_get xs i j hi hj
  rw [hv] at this
  have := h2 _ _ this
  rw [Nat.add_assoc]
  exact this
theorem heldCm_grow {w w' : World} {b off i : Nat} {c0 c1 c2 c3 c4 c5 c6 c7 : Value} (hB : Below w.heap.size w w') (hb : b < w.heap.size) (h : w.cell? ⟨b, off + i * 8, none⟩ = some c0 ∧ w.cell? ⟨b, off + i * 8 + 1, none⟩ = some c1 ∧ w.cell? ⟨b, off + i * 8 + 2, none⟩ = some c2 ∧ w.cell? ⟨b, off + i * 8 + 3, none⟩ = some c3 ∧ w.cell? ⟨b, off + i * 8 + 4, none⟩ = some c4 ∧ w.cell? ⟨b, off + i * 8 + 5, none⟩ = some c5 ∧ w.cell? ⟨b, off + i * 8 + 6, none⟩ = some c6 ∧ w.cell? ⟨b, off + i * 8 + 7, none⟩ = some c7) : w'.cell? ⟨b, off + i * 8, none⟩ = some c0 ∧ w'.cell? ⟨b, off + i * 8 + 1, none⟩ = some c1 ∧ w'.cell? ⟨b, off + i * 8 + 2, none⟩ = some c2 ∧ w'.cell? ⟨b, off + i * 8 + 3, none⟩ = some c3 ∧ w'.cell? ⟨b, off + i * 8 + 4, none⟩ = some c4 ∧ w'.cell? ⟨b, off + i * 8 + 5, none⟩ = some c5 ∧ w'.cell? ⟨b, off + i * 8 + 6, none⟩ = some c6 ∧ w'.cell? ⟨b, off + i * 8 + 7, none⟩ = some c7 := by
  have g : ∀ p v, w.cell? ⟨b, p, none⟩ = some v → w'.cell? ⟨b, p, none⟩ = some v := fun p v hv => (World.cell?_of_block (w := w) (w' := w') (a := ⟨b, p, none⟩) (hB.block b hb)).trans hv
  obtain ⟨h0, h1, h2, h3, h4, h5, h6, h7⟩ := h
  exact ⟨g _ _ h0, g _ _ h1, g _ _ h2, g _ _ h3, g _ _ h4, g _ _ h5, g _ _ h6, g _ _ h7⟩
set_option maxRecDepth 10000 in
set_option maxHeartbeats 4000000 in
theorem markCms_any (xs : List cm.Cm) (v : Value) (lo hi : Nat) (k : Nat) (hk : 1 ≤ k) (hk2 : k + 8 * xs.length ≤ 16000000) (mm : Nat) (hmm : mm = k + 8 * xs.length) (w : World) (own : Own encCm w lo hi v xs) (hlo : lo ≤ w.heap.size) :
    Calls Tryd.prog 10 #[v, .int .i64 k] w fun e w' => e = .returned (.int .i64 mm) ∧ Own encCm w' lo hi v (mksCm k xs.length) ∧ Within lo hi w w' ∧ Ty lo encCm.t w w' := by
  obtain ⟨a, cap, rfl⟩ := own.rd.form
  have O0 : Hid (Mkd encCm w w lo hi (.slice a xs.length cap) xs) := ⟨own, Within.refl _ _ _, Ty.refl _ _ _, hlo⟩
  have HMM : Hid (mm = k + 8 * xs.length) := hmm
  clear own hmm
  go_enter Tryd.func10, Tryd.ntmps10
  go_wp2
  go_loopw [1, 5] (fun q v' wr => ∃ i m : Nat, i ≤ xs.length ∧ v' = .int .i64 i ∧ q = .int .i64 m ∧ Hid (m = k + 8 * i) ∧ Hid (Mkd encCm w wr lo hi (.slice a xs.length cap) (mksCm k i ++ xs.drop i))) (fun _ v' _ => xs.length - (intOf v').toNat)
  case atStart => exact ⟨0, k, by omega, rfl, rfl, rfl, by unfold Hid; simpa [mksCm] using O0.out⟩
  case round =>
    obtain ⟨i, m, hi1, rfl, rfl, hm, O⟩ := hrel
    by_cases hlt : i < xs.length
    · have hlt' : (i : Int) < (xs.length : Int) := by omega
      have hm1 : 1 ≤ m ∧ m ≤ 16000000 := by have := hm.out; omega
      have hAl : (mksCm k i).length = i := mksCm_len k i
      have MM := O.out
      rw [List.drop_eq_getElem_cons hlt] at MM
      obtain ⟨g, c2, e1, -, -⟩ := MM.o.form (by rw [List.length_append, List.length_cons]; omega)
      have hag : a = some ⟨g, 0, none⟩ := by injection e1
      subst hag
      obtain ⟨x, hx⟩ := hid_ex xs[i]
      rw [hx.out] at MM
      obtain ⟨x0, x1, x2, x3, x4, x5, x6, x7⟩ := x
      clear O e1 hx
      obtain ⟨m1, hm1⟩ := hid_ex (m + 1)
      have e1 : IntKind.i64.wrap ((m : Int) + 1) = (m1 : Int) := by have := hm1.out; rw [IntKind.wrap_i64]; omega
      have g1 : 1 ≤ m1 ∧ m1 ≤ 16000100 := by have := hm1.out; omega
      obtain ⟨m2, hm2⟩ := hid_ex (m + 2)
      have e2 : IntKind.i64.wrap ((m1 : Int) + 1) = (m2 : Int) := by have := hm2.out; have := hm1.out; rw [IntKind.wrap_i64]; omega
      have g2 : 1 ≤ m2 ∧ m2 ≤ 16000100 := by have := hm2.out; omega
      obtain ⟨z1, hz1⟩ := hid_ex (mtx m1)
      obtain ⟨m3, hm3⟩ := hid_ex (m + 3)
      have e3 : IntKind.i64.wrap ((m2 : Int) + 1) = (m3 : Int) := by have := hm3.out; have := hm2.out; rw [IntKind.wrap_i64]; omega
      have g3 : 1 ≤ m3 ∧ m3 ≤ 16000100 := by have := hm3.out; omega
      obtain ⟨m4, hm4⟩ := hid_ex (m + 4)
      have e4 : IntKind.i64.wrap ((m3 : Int) + 1) = (m4 : Int) := by have := hm4.out; have := hm3.out; rw [IntKind.wrap_i64]; omega
      have g4 : 1 ≤ m4 ∧ m4 ≤ 16000100 := by have := hm4.out; omega
      obtain ⟨m5, hm5⟩ := hid_ex (m + 5)
      have e5 : IntKind.i64.wrap ((m4 : Int) + 1) = (m5 : Int) := by have := hm5.out; have := hm4.out; rw [IntKind.wrap_i64]; omega
      have g5 : 1 ≤ m5 ∧ m5 ≤ 16000100 := by have := hm5.out; omega
      obtain ⟨z4, hz4⟩ := hid_ex (mtx m4)
      obtain ⟨m6, hm6⟩ := hid_ex (m + 6)
      have e6 : IntKind.i64.wrap ((m5 : Int) + 1) = (m6 : Int) := by have := hm6.out; have := hm5.out; rw [IntKind.wrap_i64]; omega
      have g6 : 1 ≤ m6 ∧ m6 ≤ 16000100 := by have := hm6.out; omega
      obtain ⟨m7, hm7⟩ := hid_ex (m + 7)
      have e7 : IntKind.i64.wrap ((m6 : Int) + 1) = (m7 : Int) := by have := hm7.out; have := hm6.out; rw [IntKind.wrap_i64]; omega
      have g7 : 1 ≤ m7 ∧ m7 ≤ 16000100 := by have := hm7.out; omega
      obtain ⟨z7, hz7⟩ := hid_ex (((m7 : Int) % 3) == 0)
      have hq7 : (((m7 : Int) % 3) == 0) = z7 := hz7.out
      have e8 : IntKind.i64.wrap ((m7 : Int) + 1) = ((m + 8 : Nat) : Int) := by have := hm7.out; rw [IntKind.wrap_i64]; omega
      have HMK : Hid (((⟨(m : Int), z1, (m2 : Int), (m3 : Int), z4, (m5 : Int), (m6 : Int), z7⟩) : cm.Cm) = mkCm m) := by
        unfold Hid mkCm
        have q1 := hm1.out; have q2 := hm2.out; have q3 := hm3.out; have q4 := hm4.out; have q5 := hm5.out; have q6 := hm6.out; have q7 := hm7.out; have p1 := hz1.out; have p4 := hz4.out; have p7 := hz7.out
        subst q1 q2 q3 q4 q5 q6 q7
        subst p1 p4 p7
        rfl
      replace MM : Hid (Mkd encCm w wr lo hi (.slice (some ⟨g, 0, none⟩) xs.length cap) (mksCm k i ++ ⟨x0, x1, x2, x3, x4, x5, x6, x7⟩ :: xs.drop (i + 1))) := MM
      have HMI : Hid (m = k + 8 * i) := hm
      have sk0 : Hid True := trivial
      have tk1 : Hid True := trivial
      have sk1 : Hid True := trivial
      have sk2 : Hid True := trivial
      have sk3 : Hid True := trivial
      have tk4 : Hid True := trivial
      have sk4 : Hid True := trivial
      have sk5 : Hid True := trivial
      have sk6 : Hid True := trivial
      have sk7 : Hid True := trivial
      replace MM := MM.out
      go_wp2_with (first | (clear sk0; refine wpList_store_f (E := encCm) (A := mksCm k i) (B := xs.drop (i + 1)) (z := ⟨x0, x1, x2, x3, x4, x5, x6, x7⟩) rfl 2 _ _ rfl MM i 0 hAl (show 0 < 8 by decide) (.int .i64 (m : Int)) ⟨(m : Int), x1, x2, x3, x4, x5, x6, x7⟩ rfl rfl sizeCm_i rfl rfl ?_; clear MM; intro w0 MM) | (clear tk1; go_at_call 24; refine (markText_any m1 (by omega) (by omega) _).mono ?_; rintro e u1 ⟨rfl, hBu1⟩; rw [hz1.out]; replace MM := MM.grow hBu1; clear hBu1) | (clear sk1; refine wpList_store_f (E := encCm) (A := mksCm k i) (B := xs.drop (i + 1)) (z := ⟨(m : Int), x1, x2, x3, x4, x5, x6, x7⟩) rfl 9 _ _ rfl MM i 1 hAl (show 1 < 8 by decide) (.string z1) ⟨(m : Int), z1, x2, x3, x4, x5, x6, x7⟩ rfl rfl sizeCm_s rfl rfl ?_; clear MM; intro w1 MM) | (clear sk2; refine wpList_store_f (E := encCm) (A := mksCm k i) (B := xs.drop (i + 1)) (z := ⟨(m : Int), z1, x2, x3, x4, x5, x6, x7⟩) rfl 2 _ _ rfl MM i 2 hAl (show 2 < 8 by decide) (.int .i64 (m2 : Int)) ⟨(m : Int), z1, (m2 : Int), x3, x4, x5, x6, x7⟩ rfl rfl sizeCm_i rfl rfl ?_; clear MM; intro w2 MM) | (clear sk3; refine wpList_store_f (E := encCm) (A := mksCm k i) (B := xs.drop (i + 1)) (z := ⟨(m : Int), z1, (m2 : Int), x3, x4, x5, x6, x7⟩) rfl 2 _ _ rfl MM i 3 hAl (show 3 < 8 by decide) (.int .i64 (m3 : Int)) ⟨(m : Int), z1, (m2 : Int), (m3 : Int), x4, x5, x6, x7⟩ rfl rfl sizeCm_i rfl rfl ?_; clear MM; intro w3 MM) | (clear tk4; go_at_call 24; refine (markText_any m4 (by omega) (by omega) _).mono ?_; rintro e u4 ⟨rfl, hBu4⟩; rw [hz4.out]; replace MM := MM.grow hBu4; clear hBu4) | (clear sk4; refine wpList_store_f (E := encCm) (A := mksCm k i) (B := xs.drop (i + 1)) (z := ⟨(m : Int), z1, (m2 : Int), (m3 : Int), x4, x5, x6, x7⟩) rfl 9 _ _ rfl MM i 4 hAl (show 4 < 8 by decide) (.string z4) ⟨(m : Int), z1, (m2 : Int), (m3 : Int), z4, x5, x6, x7⟩ rfl rfl sizeCm_s rfl rfl ?_; clear MM; intro w4 MM) | (clear sk5; refine wpList_store_f (E := encCm) (A := mksCm k i) (B := xs.drop (i + 1)) (z := ⟨(m : Int), z1, (m2 : Int), (m3 : Int), z4, x5, x6, x7⟩) rfl 2 _ _ rfl MM i 5 hAl (show 5 < 8 by decide) (.int .i64 (m5 : Int)) ⟨(m : Int), z1, (m2 : Int), (m3 : Int), z4, (m5 : Int), x6, x7⟩ rfl rfl sizeCm_i rfl rfl ?_; clear MM; intro w5 MM) | (clear sk6; refine wpList_store_f (E := encCm) (A := mksCm k i) (B := xs.drop (i + 1)) (z := ⟨(m : Int), z1, (m2 : Int), (m3 : Int), z4, (m5 : Int), x6, x7⟩) rfl 2 _ _ rfl MM i 6 hAl (show 6 < 8 by decide) (.int .i64 (m6 : Int)) ⟨(m : Int), z1, (m2 : Int), (m3 : Int), z4, (m5 : Int), (m6 : Int), x7⟩ rfl rfl sizeCm_i rfl rfl ?_; clear MM; intro w6 MM) | (clear sk7; refine wpList_store_f (E := encCm) (A := mksCm k i) (B := xs.drop (i + 1)) (z := ⟨(m : Int), z1, (m2 : Int), (m3 : Int), z4, (m5 : Int), (m6 : Int), x7⟩) rfl 4 _ _ rfl MM i 7 hAl (show 7 < 8 by decide) (.bool z7) ⟨(m : Int), z1, (m2 : Int), (m3 : Int), z4, (m5 : Int), (m6 : Int), z7⟩ rfl rfl sizeCm_b rfl rfl ?_; clear MM; intro w7 MM) | (fail))
      go_roundw
      case rel =>
        rw [HMK.out, HMI.out] at MM
        refine ⟨i + 1, m + 8, by omega, by go_num, by go_num, by have := HMI.out; unfold Hid; omega, ?_⟩
        unfold Hid
        rw [mksCm_succ, List.append_assoc]
        exact MM
      case measure => simp [intOf]; omega
    · have hlt' : ¬ (i : Int) < (xs.length : Int) := by omega
      have o2 := O.out
      rw [show i = xs.length by omega, List.drop_length, List.append_nil] at o2
      have hm3 : m = mm := by have h1 := hm.out; have h2 := HMM.out; have hix : i = xs.length := (by omega); rw [hix] at h1; omega
      subst hm3
      clear O
      go_wp2
      go_ret
      exact ⟨rfl, o2.o, o2.wi, o2.ty⟩

set_option maxRecDepth 10000 in
set_option maxHeartbeats 4000000 in
theorem heldCms_any (n : Nat) (v : Value) (k : Nat) (hk : 1 ≤ k) (hk2 : k + 8 * n ≤ 16000000) (mm : Nat) (hmm : mm = k + 8 * n) (w : World) (r : Rd encCm w v (mksCm k n)) :
    Calls Tryd.prog 12 #[v, .int .i64 k] w fun e w' => e = .returned (.int .i64 mm) ∧ Below w.heap.size w w' := by
  obtain ⟨a, cap, rfl⟩ := r.form
  rw [mksCm_len] at r ⊢
  have R : Hid (Rd encCm w (.slice a n cap) (mksCm k n)) := r
  have HMM : Hid (mm = k + 8 * n) := hmm
  clear r hmm
  go_enter Tryd.func12, Tryd.ntmps12
  go_wp2
  go_loopw [1, 5] (fun q v' wr => ∃ i m : Nat, i ≤ n ∧ v' = .int .i64 i ∧ q = .int .i64 m ∧ Hid (m = k + 8 * i) ∧ Below w.heap.size w wr) (fun _ v' _ => n - (intOf v').toNat)
  case atStart => exact ⟨0, k, by omega, rfl, rfl, rfl, Below.refl _ _⟩
  case round =>
    obtain ⟨i, m, hi1, rfl, rfl, hm, hB⟩ := hrel
    by_cases hlt : i < n
    · have hil : i < (mksCm k n).length := by rw [mksCm_len]; exact hlt
      have hlt' : (i : Int) < (n : Int) := by omega
      have hm1 : 1 ≤ m ∧ m ≤ 16000000 := by have := hm.out; omega
      obtain ⟨b, off, e1, hb, hr⟩ := rdCm_of (R.out.grow hB) i hil
      subst e1
      rw [mksCm_get, ← hm.out] at hr
      obtain ⟨m1, hm1⟩ := hid_ex (m + 1)
      have e1 : IntKind.i64.wrap ((m : Int) + 1) = (m1 : Int) := by have := hm1.out; rw [IntKind.wrap_i64]; omega
      have g1 : 1 ≤ m1 ∧ m1 ≤ 16000100 := by have := hm1.out; omega
      obtain ⟨m2, hm2⟩ := hid_ex (m + 2)
      have e2 : IntKind.i64.wrap ((m1 : Int) + 1) = (m2 : Int) := by have := hm2.out; have := hm1.out; rw [IntKind.wrap_i64]; omega
      have g2 : 1 ≤ m2 ∧ m2 ≤ 16000100 := by have := hm2.out; omega
      obtain ⟨z1, hz1⟩ := hid_ex (mtx m1)
      obtain ⟨m3, hm3⟩ := hid_ex (m + 3)
      have e3 : IntKind.i64.wrap ((m2 : Int) + 1) = (m3 : Int) := by have := hm3.out; have := hm2.out; rw [IntKind.wrap_i64]; omega
      have g3 : 1 ≤ m3 ∧ m3 ≤ 16000100 := by have := hm3.out; omega
      obtain ⟨m4, hm4⟩ := hid_ex (m + 4)
      have e4 : IntKind.i64.wrap ((m3 : Int) + 1) = (m4 : Int) := by have := hm4.out; have := hm3.out; rw [IntKind.wrap_i64]; omega
      have g4 : 1 ≤ m4 ∧ m4 ≤ 16000100 := by have := hm4.out; omega
      obtain ⟨m5, hm5⟩ := hid_ex (m + 5)
      have e5 : IntKind.i64.wrap ((m4 : Int) + 1) = (m5 : Int) := by have := hm5.out; have := hm4.out; rw [IntKind.wrap_i64]; omega
      have g5 : 1 ≤ m5 ∧ m5 ≤ 16000100 := by have := hm5.out; omega
      obtain ⟨z4, hz4⟩ := hid_ex (mtx m4)
      obtain ⟨m6, hm6⟩ := hid_ex (m + 6)
      have e6 : IntKind.i64.wrap ((m5 : Int) + 1) = (m6 : Int) := by have := hm6.out; have := hm5.out; rw [IntKind.wrap_i64]; omega
      have g6 : 1 ≤ m6 ∧ m6 ≤ 16000100 := by have := hm6.out; omega
      obtain ⟨m7, hm7⟩ := hid_ex (m + 7)
      have e7 : IntKind.i64.wrap ((m6 : Int) + 1) = (m7 : Int) := by have := hm7.out; have := hm6.out; rw [IntKind.wrap_i64]; omega
      have g7 : 1 ≤ m7 ∧ m7 ≤ 16000100 := by have := hm7.out; omega
      obtain ⟨z7, hz7⟩ := hid_ex (((m7 : Int) % 3) == 0)
      have hq7 : (((m7 : Int) % 3) == 0) = z7 := hz7.out
      have e8 : IntKind.i64.wrap ((m7 : Int) + 1) = ((m + 8 : Nat) : Int) := by have := hm7.out; rw [IntKind.wrap_i64]; omega
      have HMK : Hid (((⟨(m : Int), z1, (m2 : Int), (m3 : Int), z4, (m5 : Int), (m6 : Int), z7⟩) : cm.Cm) = mkCm m) := by
        unfold Hid mkCm
        have q1 := hm1.out; have q2 := hm2.out; have q3 := hm3.out; have q4 := hm4.out; have q5 := hm5.out; have q6 := hm6.out; have q7 := hm7.out; have p1 := hz1.out; have p4 := hz4.out; have p7 := hz7.out
        subst q1 q2 q3 q4 q5 q6 q7
        subst p1 p4 p7
        rfl
      rw [← HMK.out] at hr
      have SS : Hid (wr.cell? ⟨b, off + i * 8, none⟩ = some (.int .i64 (m : Int)) ∧ wr.cell? ⟨b, off + i * 8 + 1, none⟩ = some (.string z1) ∧ wr.cell? ⟨b, off + i * 8 + 2, none⟩ = some (.int .i64 (m2 : Int)) ∧ wr.cell? ⟨b, off + i * 8 + 3, none⟩ = some (.int .i64 (m3 : Int)) ∧ wr.cell? ⟨b, off + i * 8 + 4, none⟩ = some (.string z4) ∧ wr.cell? ⟨b, off + i * 8 + 5, none⟩ = some (.int .i64 (m5 : Int)) ∧ wr.cell? ⟨b, off + i * 8 + 6, none⟩ = some (.int .i64 (m6 : Int)) ∧ wr.cell? ⟨b, off + i * 8 + 7, none⟩ = some (.bool z7)) := ⟨hr 0 _ rfl, hr 1 _ rfl, hr 2 _ rfl, hr 3 _ rfl, hr 4 _ rfl, hr 5 _ rfl, hr 6 _ rfl, hr 7 _ rfl⟩
      clear hr HMK
      obtain ⟨d0, d1, d2, d3, d4, d5, d6, d7⟩ := SS.out
      have hze1 : (z1.toList == z1.toList) = true := by simp
      have hze4 : (z4.toList == z4.toList) = true := by simp
      have hze7 : (z7 != z7) = false := by simp
      have S1 : wr.drew.cell? ⟨b, off + i * 8, none⟩ = some (.int .i64 (m : Int)) ∧ wr.drew.cell? ⟨b, off + i * 8 + 1, none⟩ = some (.string z1) ∧ wr.drew.cell? ⟨b, off + i * 8 + 2, none⟩ = some (.int .i64 (m2 : Int)) ∧ wr.drew.cell? ⟨b, off + i * 8 + 3, none⟩ = some (.int .i64 (m3 : Int)) ∧ wr.drew.cell? ⟨b, off + i * 8 + 4, none⟩ = some (.string z4) ∧ wr.drew.cell? ⟨b, off + i * 8 + 5, none⟩ = some (.int .i64 (m5 : Int)) ∧ wr.drew.cell? ⟨b, off + i * 8 + 6, none⟩ = some (.int .i64 (m6 : Int)) ∧ wr.drew.cell? ⟨b, off + i * 8 + 7, none⟩ = some (.bool z7) := SS.out
      go_wp2
      go_region_held3 (fun w' => w'.cell? ⟨b, off + i * 8, none⟩ = some (.int .i64 (m : Int)) ∧ w'.cell? ⟨b, off + i * 8 + 1, none⟩ = some (.string z1) ∧ w'.cell? ⟨b, off + i * 8 + 2, none⟩ = some (.int .i64 (m2 : Int)) ∧ w'.cell? ⟨b, off + i * 8 + 3, none⟩ = some (.int .i64 (m3 : Int)) ∧ w'.cell? ⟨b, off + i * 8 + 4, none⟩ = some (.string z4) ∧ w'.cell? ⟨b, off + i * 8 + 5, none⟩ = some (.int .i64 (m5 : Int)) ∧ w'.cell? ⟨b, off + i * 8 + 6, none⟩ = some (.int .i64 (m6 : Int)) ∧ w'.cell? ⟨b, off + i * 8 + 7, none⟩ = some (.bool z7)) (first | with_reducible assumption | with_reducible exact S1 | (fail)) (first | (go_at_call 24; refine (markText_any m1 (by omega) (by omega) wr.drew).mono ?_; rintro e w1 ⟨rfl, hB1⟩; rw [hz1.out]; have T1 : w1.cell? ⟨b, off + i * 8, none⟩ = some (.int .i64 (m : Int)) ∧ w1.cell? ⟨b, off + i * 8 + 1, none⟩ = some (.string z1) ∧ w1.cell? ⟨b, off + i * 8 + 2, none⟩ = some (.int .i64 (m2 : Int)) ∧ w1.cell? ⟨b, off + i * 8 + 3, none⟩ = some (.int .i64 (m3 : Int)) ∧ w1.cell? ⟨b, off + i * 8 + 4, none⟩ = some (.string z4) ∧ w1.cell? ⟨b, off + i * 8 + 5, none⟩ = some (.int .i64 (m5 : Int)) ∧ w1.cell? ⟨b, off + i * 8 + 6, none⟩ = some (.int .i64 (m6 : Int)) ∧ w1.cell? ⟨b, off + i * 8 + 7, none⟩ = some (.bool z7) := heldCm_grow hB1 hb S1) | (fail))
      replace hB := hB.drew.trans (hB1.mono hB.size)
      replace hb := Nat.lt_of_lt_of_le hb hB1.size
      clear SS
      have SS : Hid (w1.cell? ⟨b, off + i * 8, none⟩ = some (.int .i64 (m : Int)) ∧ w1.cell? ⟨b, off + i * 8 + 1, none⟩ = some (.string z1) ∧ w1.cell? ⟨b, off + i * 8 + 2, none⟩ = some (.int .i64 (m2 : Int)) ∧ w1.cell? ⟨b, off + i * 8 + 3, none⟩ = some (.int .i64 (m3 : Int)) ∧ w1.cell? ⟨b, off + i * 8 + 4, none⟩ = some (.string z4) ∧ w1.cell? ⟨b, off + i * 8 + 5, none⟩ = some (.int .i64 (m5 : Int)) ∧ w1.cell? ⟨b, off + i * 8 + 6, none⟩ = some (.int .i64 (m6 : Int)) ∧ w1.cell? ⟨b, off + i * 8 + 7, none⟩ = some (.bool z7)) := T1
      clear S1 T1 hB1 d0 d1 d2 d3 d4 d5 d6 d7
      obtain ⟨d0, d1, d2, d3, d4, d5, d6, d7⟩ := SS.out
      have S2 : w1.drew.cell? ⟨b, off + i * 8, none⟩ = some (.int .i64 (m : Int)) ∧ w1.drew.cell? ⟨b, off + i * 8 + 1, none⟩ = some (.string z1) ∧ w1.drew.cell? ⟨b, off + i * 8 + 2, none⟩ = some (.int .i64 (m2 : Int)) ∧ w1.drew.cell? ⟨b, off + i * 8 + 3, none⟩ = some (.int .i64 (m3 : Int)) ∧ w1.drew.cell? ⟨b, off + i * 8 + 4, none⟩ = some (.string z4) ∧ w1.drew.cell? ⟨b, off + i * 8 + 5, none⟩ = some (.int .i64 (m5 : Int)) ∧ w1.drew.cell? ⟨b, off + i * 8 + 6, none⟩ = some (.int .i64 (m6 : Int)) ∧ w1.drew.cell? ⟨b, off + i * 8 + 7, none⟩ = some (.bool z7) := SS.out
      go_wp2
      go_region_held3 (fun w' => w'.cell? ⟨b, off + i * 8, none⟩ = some (.int .i64 (m : Int)) ∧ w'.cell? ⟨b, off + i * 8 + 1, none⟩ = some (.string z1) ∧ w'.cell? ⟨b, off + i * 8 + 2, none⟩ = some (.int .i64 (m2 : Int)) ∧ w'.cell? ⟨b, off + i * 8 + 3, none⟩ = some (.int .i64 (m3 : Int)) ∧ w'.cell? ⟨b, off + i * 8 + 4, none⟩ = some (.string z4) ∧ w'.cell? ⟨b, off + i * 8 + 5, none⟩ = some (.int .i64 (m5 : Int)) ∧ w'.cell? ⟨b, off + i * 8 + 6, none⟩ = some (.int .i64 (m6 : Int)) ∧ w'.cell? ⟨b, off + i * 8 + 7, none⟩ = some (.bool z7)) (first | with_reducible assumption | with_reducible exact S2 | (fail)) (first | (go_at_call 24; refine (markText_any m4 (by omega) (by omega) w1.drew).mono ?_; rintro e w2 ⟨rfl, hB2⟩; rw [hz4.out]; have T2 : w2.cell? ⟨b, off + i * 8, none⟩ = some (.int .i64 (m : Int)) ∧ w2.cell? ⟨b, off + i * 8 + 1, none⟩ = some (.string z1) ∧ w2.cell? ⟨b, off + i * 8 + 2, none⟩ = some (.int .i64 (m2 : Int)) ∧ w2.cell? ⟨b, off + i * 8 + 3, none⟩ = some (.int .i64 (m3 : Int)) ∧ w2.cell? ⟨b, off + i * 8 + 4, none⟩ = some (.string z4) ∧ w2.cell? ⟨b, off + i * 8 + 5, none⟩ = some (.int .i64 (m5 : Int)) ∧ w2.cell? ⟨b, off + i * 8 + 6, none⟩ = some (.int .i64 (m6 : Int)) ∧ w2.cell? ⟨b, off + i * 8 + 7, none⟩ = some (.bool z7) := heldCm_grow hB2 hb S2) | (fail))
      replace hB := hB.drew.trans (hB2.mono hB.size)
      replace hb := Nat.lt_of_lt_of_le hb hB2.size
      clear SS
      have SS : Hid (w2.cell? ⟨b, off + i * 8, none⟩ = some (.int .i64 (m : Int)) ∧ w2.cell? ⟨b, off + i * 8 + 1, none⟩ = some (.string z1) ∧ w2.cell? ⟨b, off + i * 8 + 2, none⟩ = some (.int .i64 (m2 : Int)) ∧ w2.cell? ⟨b, off + i * 8 + 3, none⟩ = some (.int .i64 (m3 : Int)) ∧ w2.cell? ⟨b, off + i * 8 + 4, none⟩ = some (.string z4) ∧ w2.cell? ⟨b, off + i * 8 + 5, none⟩ = some (.int .i64 (m5 : Int)) ∧ w2.cell? ⟨b, off + i * 8 + 6, none⟩ = some (.int .i64 (m6 : Int)) ∧ w2.cell? ⟨b, off + i * 8 + 7, none⟩ = some (.bool z7)) := T2
      clear S2 T2 hB2 d0 d1 d2 d3 d4 d5 d6 d7
      obtain ⟨d0, d1, d2, d3, d4, d5, d6, d7⟩ := SS.out
      go_wp2
      go_roundw
      case rel => exact ⟨i + 1, m + 8, by omega, by go_num, by go_num, by have := hm.out; unfold Hid; omega, hB⟩
      case measure => simp [intOf]; omega
    · have hlt' : ¬ (i : Int) < (n : Int) := by omega
      have hm3 : m = mm := by have h1 := hm.out; have h2 := HMM.out; have hix : i = n := (by omega); rw [hix] at h1; omega
      subst hm3
      go_wp2
      go_ret
      exact ⟨rfl, hB⟩
end Go.Proofs.YtefmndjoailemaaDoor.rg
