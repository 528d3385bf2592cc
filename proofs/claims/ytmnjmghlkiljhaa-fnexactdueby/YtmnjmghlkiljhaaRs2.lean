/- Contracts of the laws' marks on rows of texts and of truths. -/
import Derived.Test.YtmnjmghlkiljhaaRs1
namespace Go.Proofs.Ytmnjmghlkiljhaa.rg
open Go.ChangeShapes Go.WideShapes Go.ChangeAt Go.RowKit
open Go.Proofs.Ytmnjmghlkiljhaa.ce Go.Proofs.Ytmnjmghlkiljhaa.ro
set_option linter.unusedVariables false

theorem own_ty {α : Type} {E : Enc α} {w : World} {lo hi g n cap : Nat} {xs : List α} (o : Own E w lo hi (.slice (some ⟨g, 0, none⟩) n cap) xs) (h : 1 ≤ xs.length) (j : Nat) (x : Value) : Ty lo E.t w (w.setCell ⟨g, j, none⟩ x) := by
  rcases o.row with ⟨rfl, -⟩ | ⟨g2, cap2, cur, e2, hg, hb, -⟩
  · simp at h
  · cases e2
    exact ⟨(only_set w g j x).2.2 _ hg.1, fun k cur' t' f hk hn => (only_set w g j x).2.1 k fun e => by
      rw [e, hb] at hk
      simp at hk
      exact hn hk.2.1.symm⟩
theorem own_lo {α : Type} {E : Enc α} {w : World} {lo hi n cap : Nat} {a : Option Addr} {xs : List α} (o : Own E w lo hi (.slice a n cap) xs) (h : 1 ≤ xs.length) : lo ≤ w.heap.size := by
  obtain ⟨g, c, e, h1, h2, h3⟩ := o.form h
  omega
def dig (d : Nat) : ByteArray := ⟨#[UInt8.ofNat (48 + d)]⟩
/-- what markText tells -/
def mgo : Nat → Nat → ByteArray → ByteArray
  | 0, _, out => ⟨#[109]⟩ ++ out
  | f + 1, k, out => if k = 0 then ⟨#[109]⟩ ++ out else mgo f (k / 10) (dig (k % 10) ++ out)
theorem mgo_zero (f : Nat) (out : ByteArray) : mgo f 0 out = ⟨#[109]⟩ ++ out := by cases f <;> simp [mgo]
theorem mgo_step {f k : Nat} (h : 0 < k) (out : ByteArray) : mgo (f + 1) k out = mgo f (k / 10) (dig (k % 10) ++ out) := by
  simp only [mgo]
  rw [if_neg (by omega)]
def mtx (k : Nat) : ByteArray := mgo k k ⟨#[]⟩
theorem dig_conv (d : Nat) (h1 : d ≤ 9) (w : World) : (convert 22 9 (Value.slice (some { block := w.heap.size, off := 0 }) 1 1)).run Try.prog (w.alloc (Obj.cells #[Value.int IntKind.u8 (48 + (d : Int))] 5)) = .ok (.string (dig d)) (w.alloc (Obj.cells #[Value.int IntKind.u8 (48 + (d : Int))] 5)) :=
  run_convert_bytes_back (P := Try.prog) (w.alloc (Obj.cells #[Value.int IntKind.u8 (48 + (d : Int))] 5)) 22 9 5 ⟨w.heap.size, 0, none⟩ 1 [UInt8.ofNat (48 + d)] Try.underlying22 Try.underlying5 Try.underlying9 (fun j hj => by
    have hj0 : j = 0 := by simpa using hj
    subst hj0
    have e : (((UInt8.ofNat (48 + d)).toNat : Nat) : Int) = 48 + d := by
      rw [UInt8.toNat_ofNat']; omega
    simp only [List.getElem_cons_zero, e]
    show (w.alloc _).cell? ⟨w.heap.size, 0, none⟩ = _
    rw [cell_of_row _ _ 0 _ _ _ (heap_alloc_new w _)]; rfl)

theorem markText_any (k : Nat) (h0 : 1 ≤ k) (h1 : k ≤ 16777216) (w : World) :
    Calls Try.prog 85 #[.int .i64 k] w fun e w' => e = .returned (.string (mtx k)) ∧ Below w.heap.size w w' := by
  obtain ⟨C, hC⟩ := hid_ex (mtx k)
  rw [hC.out]
  have hk0 : ¬ (k : Int) ≤ 0 := by omega
  go_enter Try.func85, Try.ntmps85
  go_wp2
  go_loopw [0, 3] (fun v s wr => ∃ (q f : Nat) (out : ByteArray), v = .int .i64 q ∧ s = .string out ∧ q ≤ 16777216 ∧ Hid (q ≤ f) ∧ Hid (mgo f q out = C) ∧ out.size + q ≤ 16777216 ∧ Below w.heap.size w wr) (fun v _ _ => (intOf v).toNat)
  case atStart => exact ⟨k, k, ⟨#[]⟩, rfl, rfl, h1, Nat.le_refl _, hC, by show 0 + k ≤ 16777216; omega, Below.refl _ _⟩
  case round =>
    obtain ⟨q, f, out, rfl, rfl, hq1, hqf, hM, hsz, hB⟩ := hrel
    by_cases hq : 0 < q
    · have hq' : (0 : Int) < (q : Int) := by omega
      obtain ⟨f', rfl⟩ : ∃ f', f = f' + 1 := ⟨f - 1, by have := hqf.out; omega⟩
      have hM2 : Hid (mgo f' (q / 10) (dig (q % 10) ++ out) = C) := by unfold Hid; rw [← hM.out, mgo_step hq]
      have hqf2 : Hid (q / 10 ≤ f') := by have := hqf.out; unfold Hid; omega
      obtain ⟨d, hd⟩ := hid_ex (q % 10)
      have hd9 : d ≤ 9 := by have := hd.out; omega
      rw [hd.out] at hM2
      have hcv := dig_conv d hd9 wr
      have hds : (dig d).size = 1 := rfl
      have hmod : (q : Int) % 10 = (d : Int) := by have := hd.out; omega
      obtain ⟨q2, hq2⟩ := hid_ex (q / 10)
      rw [hq2.out] at hM2 hqf2
      have hq3 : q2 < q := by have := hq2.out; omega
      have hdiv : (q : Int) / 10 = (q2 : Int) := by have := hq2.out; omega
      have hout : (dig d ++ out).size = 1 + out.size := by rw [ByteArray.size_append]; rfl
      go_wp2
      go_roundw
      case rel => exact ⟨q2, f', dig d ++ out, rfl, rfl, by omega, hqf2, hM2, by omega, hB.alloc hB.size _⟩
      case measure => simp [intOf]; omega
    · have hq' : ¬ (0 : Int) < (q : Int) := by omega
      have eq0 : q = 0 := by omega
      have hM3 := hM.out
      rw [eq0, mgo_zero] at hM3
      subst hM3
      go_wp2
      go_ret
      exact ⟨rfl, hB⟩

def smarks (k n : Nat) : List ByteArray := (List.range n).map fun j => mtx (k + j)
theorem smarks_len (k n : Nat) : (smarks k n).length = n := by simp [smarks]
theorem smarks_succ (k n : Nat) : smarks k (n + 1) = smarks k n ++ [mtx (k + n)] := by simp [smarks, List.range_succ]
theorem smarks_get (k n i : Nat) (h : i < (smarks k n).length) : (smarks k n)[i] = mtx (k + i) := by simp [smarks]
theorem markTexts_any (xs : List ByteArray) (v : Value) (lo hi : Nat) (k : Nat) (hk : 1 ≤ k) (hk2 : k + xs.length ≤ 8000000) (mm : Nat) (hmm : mm = k + xs.length) (w : World) (own : Own encS w lo hi v xs) :
    Calls Try.prog 44 #[v, .int .i64 k] w fun e w' => e = .returned (.int .i64 mm) ∧ Own encS w' lo hi v (smarks k xs.length) ∧ Within lo hi w w' ∧ Ty lo 9 w w' := by
  obtain ⟨a, cap, rfl⟩ := own.rd.form
  have O0 : Hid (Own encS w lo hi (.slice a xs.length cap) xs) := own
  have HMM : Hid (mm = k + xs.length) := hmm
  clear own hmm
  go_enter Try.func44, Try.ntmps44
  go_wp2
  go_loopw [1, 5] (fun q v' wr => ∃ i m : Nat, i ≤ xs.length ∧ v' = .int .i64 i ∧ q = .int .i64 m ∧ Hid (m = k + i) ∧ Hid (Own encS wr lo hi (.slice a xs.length cap) (smarks k i ++ xs.drop i)) ∧ Hid (Within lo hi w wr) ∧ Hid (Ty lo 9 w wr)) (fun _ v' _ => xs.length - (intOf v').toNat)
  case atStart => exact ⟨0, k, by omega, rfl, rfl, rfl, by unfold Hid; simpa [smarks] using O0.out, Within.refl _ _ _, Ty.refl _ _ _⟩
  case round =>
    obtain ⟨i, m, hi1, rfl, rfl, hm, O, hW, hY⟩ := hrel
    by_cases hlt : i < xs.length
    · have hil : i < (smarks k i ++ xs.drop i).length := by simp [smarks_len]; omega
      obtain ⟨g, e1, hg, d0, f0⟩ := ownS_cell O.out i hil
      subst e1
      have hlt' : (i : Int) < (xs.length : Int) := by omega
      have hm1 : 1 ≤ m ∧ m ≤ 8000000 := by have := hm.out; omega
      have hel : mtx m = mtx (k + i) := by rw [hm.out]
      obtain ⟨z, hzz⟩ := hid_ex (mtx m)
      have hset : Hid ((smarks k i ++ xs.drop i).set i z = smarks k (i + 1) ++ xs.drop (i + 1)) := by
        unfold Hid
        rw [List.set_append_right _ _ (by rw [smarks_len]; omega), smarks_len, Nat.sub_self, List.drop_eq_getElem_cons hlt, List.set_cons_zero, smarks_succ, ← hel, hzz.out]
        simp
      clear hel
      clear d0 f0
      go_wp2_with (first | (go_at_call 85; refine (markText_any m (by omega) (by omega) _).mono ?_; rintro e w2 ⟨rfl, hB2⟩; rw [hzz.out]; obtain ⟨g', e', -, d0, f0⟩ := ownS_cell (O.out.grow hB2) i hil; cases e'; have O2 := O.out.grow hB2; have hz2 := hB2.size) | (fail))
      go_roundw
      case rel =>
        have h1 := ownS_set O2 i hil z
        rw [hset.out] at h1
        exact ⟨i + 1, m + 1, by omega, by go_num, by go_num, by have := hm.out; unfold Hid; omega, h1, (hW.out.trans (Within.of_below hB2 (Nat.le_refl _))).setCell hg.1 hg.2 _, (hY.out.trans (Ty.of_below hB2 (own_lo O.out (by omega)))).trans (own_ty O2 (by omega) _ _)⟩
      case measure => simp [intOf]; omega
    · have hlt' : ¬ (i : Int) < (xs.length : Int) := by omega
      have o2 := O.out
      rw [show i = xs.length by omega, List.drop_length, List.append_nil] at o2
      have hm3 : m = mm := by have := hm.out; have := HMM.out; omega
      subst hm3
      clear O
      go_wp2
      go_ret
      exact ⟨rfl, o2, hW.out, hY.out⟩

theorem heldTexts_any (n : Nat) (v : Value) (k : Nat) (hk : 1 ≤ k) (hk2 : k + n ≤ 8000000) (mm : Nat) (hmm : mm = k + n) (w : World) (r : Rd encS w v (smarks k n)) :
    Calls Try.prog 45 #[v, .int .i64 k] w fun e w' => e = .returned (.int .i64 mm) ∧ Below w.heap.size w w' := by
  obtain ⟨a, cap, rfl⟩ := r.form
  rw [smarks_len] at r ⊢
  have R : Hid (Rd encS w (.slice a n cap) (smarks k n)) := r
  have HMM : Hid (mm = k + n) := hmm
  clear r hmm
  go_enter Try.func45, Try.ntmps45
  go_wp2
  go_loopw [1, 5] (fun q v' wr => ∃ i m : Nat, i ≤ n ∧ v' = .int .i64 i ∧ q = .int .i64 m ∧ Hid (m = k + i) ∧ Below w.heap.size w wr) (fun _ v' _ => n - (intOf v').toNat)
  case atStart => exact ⟨0, k, by omega, rfl, rfl, rfl, Below.refl _ _⟩
  case round =>
    obtain ⟨i, m, hi1, rfl, rfl, hm, hB⟩ := hrel
    by_cases hlt : i < n
    · have hil : i < (smarks k n).length := by rw [smarks_len]; exact hlt
      obtain ⟨b, off, rfl, hb, d0⟩ := rdS_cell (R.out.grow hB) i hil
      rw [smarks_get] at d0
      have hlt' : (i : Int) < (n : Int) := by omega
      have hm1 : 1 ≤ m ∧ m ≤ 8000000 := by have := hm.out; omega
      rw [← hm.out] at d0
      obtain ⟨z, hzz⟩ := hid_ex (mtx m)
      rw [hzz.out] at d0
      have hze : (z.toList == z.toList) = true := by simp
      have S1 : wr.drew.cell? ⟨b, off + i, none⟩ = some (.string z) := d0
      go_wp2
      go_region_held3 (fun w' => w'.cell? ⟨b, off + i, none⟩ = some (.string z)) (first | assumption | exact d0) (first | (go_at_call 85; refine (markText_any m (by omega) (by omega) wr.drew).mono ?_; rintro e w2 ⟨rfl, hB2⟩; rw [hzz.out]; have hB3 : Below w.heap.size w w2 := hB.drew.trans (hB2.mono hB.size); have S2 : w2.cell? ⟨b, off + i, none⟩ = some (.string z) := (World.cell?_of_block (w := wr.drew) (w' := w2) (a := ⟨b, off + i, none⟩) (hB2.block b hb)).trans d0) | (fail))
      go_wp2
      go_roundw
      case rel => exact ⟨i + 1, m + 1, by omega, by go_num, by go_num, by have := hm.out; unfold Hid; omega, hB3⟩
      case measure => simp [intOf]; omega
    · have hlt' : ¬ (i : Int) < (n : Int) := by omega
      have hm3 : m = mm := by have := hm.out; have := HMM.out; omega
      subst hm3
      go_wp2
      go_ret
      exact ⟨rfl, hB⟩

def bmarks (k n : Nat) : List Bool := (List.range n).map fun j => ((((k + j : Nat) : Int) % 3) == 0)
theorem bmarks_len (k n : Nat) : (bmarks k n).length = n := by simp [bmarks]
theorem bmarks_succ (k n : Nat) : bmarks k (n + 1) = bmarks k n ++ [((((k + n : Nat) : Int) % 3) == 0)] := by simp [bmarks, List.range_succ]
theorem bmarks_get (k n i : Nat) (h : i < (bmarks k n).length) : (bmarks k n)[i] = ((((k + i : Nat) : Int) % 3) == 0) := by simp [bmarks]
end Go.Proofs.Ytmnjmghlkiljhaa.rg
