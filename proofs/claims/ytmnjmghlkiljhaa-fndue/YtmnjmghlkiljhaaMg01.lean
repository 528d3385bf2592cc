/- Texts laid together: Rs2 Draw1 DrawS Re1 DrawText De1. -/
import Derived.Test.YtmnjmghlkiljhaaMg00
import Derived.Test.YtmnjmghlkiljhaaRows
import Derived.WalkKit
import Derived.ProofKit
import Derived.OpenShut
import Derived.Below
import Derived.OwnWalk
import Derived.Deep.QuietTactic
import Derived.BigQuiet
import Derived.Deep.LoopGhost
import Derived.Laws.IdiomStrings
import Derived.Deep.DeepCutAuto
/- Contracts of the laws' marks on rows of texts and of truths. -/
namespace Go.Proofs.Ytmnjmghlkiljhaa.rg
open Go.ChangeShapes Go.WideShapes Go.ChangeAt Go.RowKit
open Go.Proofs.Ytmnjmghlkiljhaa.ce Go.Proofs.Ytmnjmghlkiljhaa.ro
set_option linter.unusedVariables false

theorem own_ty {α : Type} {E : Enc α} {w : World} {lo hi g n cap : Nat} {xs : List α} (o : Own E w lo hi (.slice (some ⟨g, 0, none⟩) n cap) xs) (h : 1 ≤ xs.length) (j : Nat) (x : Value) : Ty lo E.t w (w.setCell ⟨g, j, none⟩ x) := by
  rcases o.row with ⟨rfl, -⟩ | ⟨g2, cap2, cur, e2, hg, hb, -⟩
  · simp at h
  · cases e2
    exact ⟨(only_set w g j x).2.2 _ hg.1, fun k cur' t' f hk hn => (only_set w g j x).2.1 k fun e => by
      rw [e, hb] at hk
      simp at hk
      exact hn hk.2.1.symm⟩
theorem own_lo {α : Type} {E : Enc α} {w : World} {lo hi n cap : Nat} {a : Option Addr} {xs : List α} (o : Own E w lo hi (.slice a n cap) xs) (h : 1 ≤ xs.length) : lo ≤ w.heap.size := by
  obtain ⟨g, c, e, h1, h2, h3⟩ := o.form h
  omega
def dig (d : Nat) : ByteArray := ⟨#[UInt8.ofNat (48 + d)]⟩
/-- what markText tells -/
def mgo : Nat → Nat → ByteArray → ByteArray
  | 0, _, out => ⟨#[109]⟩ ++ out
  | f + 1, k, out => if k = 0 then ⟨#[109]⟩ ++ out else mgo f (k / 10) (dig (k % 10) ++ out)
theorem mgo_zero (f : Nat) (out : ByteArray) : mgo f 0 out = ⟨#[109]⟩ ++ out := by cases f <;> simp [mgo]
theorem mgo_step {f k : Nat} (h : 0 < k) (out : ByteArray) : mgo (f + 1) k out = mgo f (k / 10) (dig (k % 10) ++ out) := by
  simp only [mgo]
  rw [if_neg (by omega)]
def mtx (k : Nat) : ByteArray := mgo k k ⟨#[]⟩
theorem dig_conv (d : Nat) (h1 : d ≤ 9) (w : World) : (convert 22 9 (Value.slice (some { block := w.heap.size, off := 0 }) 1 1)).run Try.prog (w.alloc (Obj.cells #[Value.int IntKind.u8 (48 + (d : Int))] 5)) = .ok (.string (dig d)) (w.alloc (Obj.cells #[Value.int IntKind.u8 (48 + (d : Int))] 5)) :=
  run_convert_bytes_back (P := Try.prog) (w.alloc (Obj.cells #[Value.int IntKind.u8 (48 + (d : Int))] 5)) 22 9 5 ⟨w.heap.size, 0, none⟩ 1 [UInt8.ofNat (48 + d)] Try.underlying22 Try.underlying5 Try.underlying9 (fun j hj => by
    have hj0 : j = 0 := by simpa using hj
    subst hj0
    have e : (((UInt8.ofNat (48 + d)).toNat : Nat) : Int) = 48 + d := by
      rw [UInt8.toNat_ofNat']; omega
    simp only [List.getElem_cons_zero, e]
    show (w.alloc _).cell? ⟨w.heap.size, 0, none⟩ = _
    rw [cell_of_row _ _ 0 _ _ _ (heap_alloc_new w _)]; rfl)

theorem markText_any (k : Nat) (h0 : 1 ≤ k) (h1 : k ≤ 16777216) (w : World) :
    Calls Try.prog 85 #[.int .i64 k] w fun e w' => e = .returned (.string (mtx k)) ∧ Below w.heap.size w w' := by
  obtain ⟨C, hC⟩ := hid_ex (mtx k)
  rw [hC.out]
  have hk0 : ¬ (k : Int) ≤ 0 := by omega
  go_enter Try.func85, Try.ntmps85
  go_wp2
  go_loopw [0, 3] (fun v s wr => ∃ (q f : Nat) (out : ByteArray), v = .int .i64 q ∧ s = .string out ∧ q ≤ 16777216 ∧ Hid (q ≤ f) ∧ Hid (mgo f q out = C) ∧ out.size + q ≤ 16777216 ∧ Below w.heap.size w wr) (fun v _ _ => (intOf v).toNat)
  case atStart => exact ⟨k, k, ⟨#[]⟩, rfl, rfl, h1, Nat.le_refl _, hC, by show 0 + k ≤ 16777216; omega, Below.refl _ _⟩
  case round =>
    obtain ⟨q, f, out, rfl, rfl, hq1, hqf, hM, hsz, hB⟩ := hrel
    by_cases hq : 0 < q
    · have hq' : (0 : Int) < (q : Int) := by omega
      obtain ⟨f', rfl⟩ : ∃ f', f = f' + 1 := ⟨f - 1, by have := hqf.out; omega⟩
      have hM2 : Hid (mgo f' (q / 10) (dig (q % 10) ++ out) = C) := by unfold Hid; rw [← hM.out, mgo_step hq]
      have hqf2 : Hid (q / 10 ≤ f') := by have := hqf.out; unfold Hid; omega
      obtain ⟨d, hd⟩ := hid_ex (q % 10)
      have hd9 : d ≤ 9 := by have := hd.out; omega
      rw [hd.out] at hM2
      have hcv := dig_conv d hd9 wr
      have hds : (dig d).size = 1 := rfl
      have hmod : (q : Int) % 10 = (d : Int) := by have := hd.out; omega
      obtain ⟨q2, hq2⟩ := hid_ex (q / 10)
      rw [hq2.out] at hM2 hqf2
      have hq3 : q2 < q := by have := hq2.out; omega
      have hdiv : (q : Int) / 10 = (q2 : Int) := by have := hq2.out; omega
      have hout : (dig d ++ out).size = 1 + out.size := by rw [ByteArray.size_append]; rfl
      go_wp2
      go_roundw
      case rel => exact ⟨q2, f', dig d ++ out, rfl, rfl, by omega, hqf2, hM2, by omega, hB.alloc hB.size _⟩
      case measure => simp [intOf]; omega
    · have hq' : ¬ (0 : Int) < (q : Int) := by omega
      have eq0 : q = 0 := by omega
      have hM3 := hM.out
      rw [eq0, mgo_zero] at hM3
      subst hM3
      go_wp2
      go_ret
      exact ⟨rfl, hB⟩

def smarks (k n : Nat) : List ByteArray := (List.range n).map fun j => mtx (k + j)
theorem smarks_len (k n : Nat) : (smarks k n).length = n := by simp [smarks]
theorem smarks_succ (k n : Nat) : smarks k (n + 1) = smarks k n ++ [mtx (k + n)] := by simp [smarks, List.range_succ]
theorem smarks_get (k n i : Nat) (h : i < (smarks k n).length) : (smarks k n)[i] = mtx (k + i) := by simp [smarks]
theorem markTexts_any (xs : List ByteArray) (v : Value) (lo hi : Nat) (k : Nat) (hk : 1 ≤ k) (hk2 : k + xs.length ≤ 8000000) (mm : Nat) (hmm : mm = k + xs.length) (w : World) (own : Own encS w lo hi v xs) :
    Calls Try.prog 44 #[v, .int .i64 k] w fun e w' => e = .returned (.int .i64 mm) ∧ Own encS w' lo hi v (smarks k xs.length) ∧ Within lo hi w w' ∧ Ty lo 9 w w' := by
  obtain ⟨a, cap, rfl⟩ := own.rd.form
  have O0 : Hid (Own encS w lo hi (.slice a xs.length cap) xs) := own
  have HMM : Hid (mm = k + xs.length) := hmm
  clear own hmm
  go_enter Try.func44, Try.ntmps44
  go_wp2
  go_loopw [1, 5] (fun q v' wr => ∃ i m : Nat, i ≤ xs.length ∧ v' = .int .i64 i ∧ q = .int .i64 m ∧ Hid (m = k + i) ∧ Hid (Own encS wr lo hi (.slice a xs.length cap) (smarks k i ++ xs.drop i)) ∧ Hid (Within lo hi w wr) ∧ Hid (Ty lo 9 w wr)) (fun _ v' _ => xs.length - (intOf v').toNat)
  case atStart => exact ⟨0, k, by omega, rfl, rfl, rfl, by unfold Hid; simpa [smarks] using O0.out, Within.refl _ _ _, Ty.refl _ _ _⟩
  case round =>
    obtain ⟨i, m, hi1, rfl, rfl, hm, O, hW, hY⟩ := hrel
    by_cases hlt : i < xs.length
    · have hil : i < (smarks k i ++ xs.drop i).length := by simp [smarks_len]; omega
      obtain ⟨g, e1, hg, d0, f0⟩ := ownS_cell O.out i hil
      subst e1
      have hlt' : (i : Int) < (xs.length : Int) := by omega
      have hm1 : 1 ≤ m ∧ m ≤ 8000000 := by have := hm.out; omega
      have hel : mtx m = mtx (k + i) := by rw [hm.out]
      obtain ⟨z, hzz⟩ := hid_ex (mtx m)
      have hset : Hid ((smarks k i ++ xs.drop i).set i z = smarks k (i + 1) ++ xs.drop (i + 1)) := by
        unfold Hid
        rw [List.set_append_right _ _ (by rw [smarks_len]; omega), smarks_len, Nat.sub_self, List.drop_eq_getElem_cons hlt, List.set_cons_zero, smarks_succ, ← hel, hzz.out]
        simp
      clear hel
      clear d0 f0
      go_wp2_with (first | (go_at_call 85; refine (markText_any m (by omega) (by omega) _).mono ?_; rintro e w2 ⟨rfl, hB2⟩; rw [hzz.out]; obtain ⟨g', e', -, d0, f0⟩ := ownS_cell (O.out.grow hB2) i hil; cases e'; have O2 := O.out.grow hB2; have hz2 := hB2.size) | (fail))
      go_roundw
      case rel =>
        have h1 := ownS_set O2 i hil z
        rw [hset.out] at h1
        exact ⟨i + 1, m + 1, by omega, by go_num, by go_num, by have := hm.out; unfold Hid; omega, h1, (hW.out.trans (Within.of_below hB2 (Nat.le_refl _))).setCell hg.1 hg.2 _, (hY.out.trans (Ty.of_below hB2 (own_lo O.out (by omega)))).trans (own_ty O2 (by omega) _ _)⟩
      case measure => simp [intOf]; omega
    · have hlt' : ¬ (i : Int) < (xs.length : Int) := by omega
      have o2 := O.out
      rw [show i = xs.length by omega, List.drop_length, List.append_nil] at o2
      have hm3 : m = mm := by have := hm.out; have := HMM.out; omega
      subst hm3
      clear O
      go_wp2
      go_ret
      exact ⟨rfl, o2, hW.out, hY.out⟩

theorem heldTexts_any (n : Nat) (v : Value) (k : Nat) (hk : 1 ≤ k) (hk2 : k + n ≤ 8000000) (mm : Nat) (hmm : mm = k + n) (w : World) (r : Rd encS w v (smarks k n)) :
    Calls Try.prog 45 #[v, .int .i64 k] w fun e w' => e = .returned (.int .i64 mm) ∧ Below w.heap.size w w' := by
  obtain ⟨a, cap, rfl⟩ := r.form
  rw [smarks_len] at r ⊢
  have R : Hid (Rd encS w (.slice a n cap) (smarks k n)) := r
  have HMM : Hid (mm = k + n) := hmm
  clear r hmm
  go_enter Try.func45, Try.ntmps45
  go_wp2
  go_loopw [1, 5] (fun q v' wr => ∃ i m : Nat, i ≤ n ∧ v' = .int .i64 i ∧ q = .int .i64 m ∧ Hid (m = k + i) ∧ Below w.heap.size w wr) (fun _ v' _ => n - (intOf v').toNat)
  case atStart => exact ⟨0, k, by omega, rfl, rfl, rfl, Below.refl _ _⟩
  case round =>
    obtain ⟨i, m, hi1, rfl, rfl, hm, hB⟩ := hrel
    by_cases hlt : i < n
    · have hil : i < (smarks k n).length := by rw [smarks_len]; exact hlt
      obtain ⟨b, off, rfl, hb, d0⟩ := rdS_cell (R.out.grow hB) i hil
      rw [smarks_get] at d0
      have hlt' : (i : Int) < (n : Int) := by omega
      have hm1 : 1 ≤ m ∧ m ≤ 8000000 := by have := hm.out; omega
      rw [← hm.out] at d0
      obtain ⟨z, hzz⟩ := hid_ex (mtx m)
      rw [hzz.out] at d0
      have hze : (z.toList == z.toList) = true := by simp
      have S1 : wr.drew.cell? ⟨b, off + i, none⟩ = some (.string z) := d0
      go_wp2
      go_region_held3 (fun w' => w'.cell? ⟨b, off + i, none⟩ = some (.string z)) (first | assumption | exact d0) (first | (go_at_call 85; refine (markText_any m (by omega) (by omega) wr.drew).mono ?_; rintro e w2 ⟨rfl, hB2⟩; rw [hzz.out]; have hB3 : Below w.heap.size w w2 := hB.drew.trans (hB2.mono hB.size); have S2 : w2.cell? ⟨b, off + i, none⟩ = some (.string z) := (World.cell?_of_block (w := wr.drew) (w' := w2) (a := ⟨b, off + i, none⟩) (hB2.block b hb)).trans d0) | (fail))
      go_wp2
      go_roundw
      case rel => exact ⟨i + 1, m + 1, by omega, by go_num, by go_num, by have := hm.out; unfold Hid; omega, hB3⟩
      case measure => simp [intOf]; omega
    · have hlt' : ¬ (i : Int) < (n : Int) := by omega
      have hm3 : m = mm := by have := hm.out; have := HMM.out; omega
      subst hm3
      go_wp2
      go_ret
      exact ⟨rfl, hB⟩

def bmarks (k n : Nat) : List Bool := (List.range n).map fun j => ((((k + j : Nat) : Int) % 3) == 0)
theorem bmarks_len (k n : Nat) : (bmarks k n).length = n := by simp [bmarks]
theorem bmarks_succ (k n : Nat) : bmarks k (n + 1) = bmarks k n ++ [((((k + n : Nat) : Int) % 3) == 0)] := by simp [bmarks, List.range_succ]
theorem bmarks_get (k n i : Nat) (h : i < (bmarks k n).length) : (bmarks k n)[i] = ((((k + i : Nat) : Int) % 3) == 0) := by simp [bmarks]
end Go.Proofs.Ytmnjmghlkiljhaa.rg
/- Contracts of the model's drawing functions: whatever the bytes, each call returns a number within its bounds, writes to the cursor's own block alone, and leaves the cursor well formed. -/
namespace Go.Proofs.Ytmnjmghlkiljhaa.draw
open Go.ChangeShapes Go.WideShapes Go.ChangeAt Go.RowKit
set_option linter.unusedVariables false

/-- the bytes of the code, as they lie in memory -/
def CodeAt (w : World) (a0 : Option Addr) (len : Nat) : Prop :=
  len ≤ 9223372036854775806 ∧ (len = 0 ∨ ∃ b off, a0 = some ⟨b, off, none⟩ ∧ b < w.heap.size ∧ ∀ k, k < len → ∃ c : Int, w.cell? ⟨b, off + k, none⟩ = some (.int .u8 c) ∧ 0 ≤ c ∧ c ≤ 255)

/-- a cursor over the code lies in block p -/
def Cur (w : World) (p : Nat) (a0 : Option Addr) (len cap : Nat) : Prop :=
  p < w.heap.size ∧ CodeAt w a0 len ∧ (∀ b off, a0 = some ⟨b, off, none⟩ → len = 0 ∨ b < p) ∧
  ∃ (i : Nat) (h : Int), i ≤ len ∧ w.cell? ⟨p, 0, none⟩ = some (.slice a0 len cap) ∧ w.cell? ⟨p, 1, none⟩ = some (.int .i64 i) ∧ w.cell? ⟨p, 2, none⟩ = some (.int .i64 h) ∧
    w.frozen? ⟨p, 1, none⟩ = false ∧ w.frozen? ⟨p, 2, none⟩ = false

theorem gb_set (w : World) (a : Addr) (v : Value) : w.grownBy (w.setCell a v) (some a.block) :=
  ⟨rfl, rfl, rfl, by simp, fun k hk hne => Below.heap_setCell _ _ _ _ (fun h => hne (by rw [h]))⟩
theorem gb_drewN {w w' : World} {r : Option Nat} (h : w.grownBy w' r) (n : Nat) : w.grownBy (w'.drewN n) r := ⟨h.os, h.tape, h.output, h.size, h.block⟩
theorem gb_trans {w w1 w2 : World} {r : Option Nat} (h : w.grownBy w1 r) (k : w1.grownBy w2 r) : w.grownBy w2 r :=
  ⟨k.os.trans h.os, k.tape.trans h.tape, k.output.trans h.output, Nat.le_trans h.size k.size, fun i hi hn => (k.block i (Nat.lt_of_lt_of_le hi h.size) hn).trans (h.block i hi hn)⟩
theorem gb_cell {w w' : World} {p : Nat} (h : w.grownBy w' (some p)) {b : Nat} (hb : b < w.heap.size) (hne : b ≠ p) (o : Nat) : w'.cell? ⟨b, o, none⟩ = w.cell? ⟨b, o, none⟩ :=
  World.cell?_of_block (h.block b hb (fun e => hne (by cases e; rfl)))

theorem code_kept {w w' : World} {a0 : Option Addr} {len p : Nat} (h : CodeAt w a0 len) (hb : ∀ b off, a0 = some ⟨b, off, none⟩ → len = 0 ∨ b < p) (g : w.grownBy w' (some p)) : CodeAt w' a0 len := by
  refine ⟨h.1, ?_⟩
  rcases h.2 with h0 | ⟨b, off, e, hl, hc⟩
  · exact .inl h0
  rcases hb b off e with h0 | hbp
  · exact .inl h0
  · refine .inr ⟨b, off, e, Nat.lt_of_lt_of_le hl g.size, fun k hk => ?_⟩
    obtain ⟨c, hcell, h1, h2⟩ := hc k hk
    exact ⟨c, by rw [gb_cell g hl (by omega)]; exact hcell, h1, h2⟩

/-- a low byte, whatever number it is taken of -/
theorem and255 (x : Int) : 0 ≤ bits .and .i64 x 255 ∧ bits .and .i64 x 255 ≤ 255 := by
  have h : bits .and .i64 x 255 = IntKind.i64.wrap (((BitVec.ofInt 64 x).toNat &&& 255 : Nat) : Int) := by
    unfold bits
    simp only [BitVec.toNat_and]
    rfl
  have g : (BitVec.ofInt 64 x).toNat &&& 255 ≤ 255 := Nat.and_le_right
  rw [h, IntKind.wrap_i64]
  omega

set_option maxHeartbeats 1000000 in
theorem byte_end (w : World) (p : Nat) (a0 : Option Addr) (len cap i : Nat) (h : Int) (hi : ¬ i < len)
    (c0 : w.cell? ⟨p, 0, none⟩ = some (.slice a0 len cap)) (c1 : w.cell? ⟨p, 1, none⟩ = some (.int .i64 i)) (c2 : w.cell? ⟨p, 2, none⟩ = some (.int .i64 h))
    (f1 : w.frozen? ⟨p, 1, none⟩ = false) (f2 : w.frozen? ⟨p, 2, none⟩ = false) :
    Calls Try.prog 118 #[.pointer (some ⟨p, 0, none⟩)] w fun e w' => ∃ x h' : Int, e = .returned (.int .i64 x) ∧ 0 ≤ x ∧ x ≤ 255 ∧ ∃ n, w' = (w.setCell ⟨p, 2, none⟩ (.int .i64 h')).drewN n := by
  go_enter Try.func118, Try.ntmps118
  go_wp2
  go_quiet (fail)
  go_wp2
  go_quiet (fail)
  go_wp2
  go_ret
  exact ⟨_, wrap64 (wrap64 (h * 6364136223846793005) + 1442695040888963407), rfl, (and255 _).1, (and255 _).2, _, World.drewN_drewN _ _ _⟩

set_option maxHeartbeats 1000000 in
theorem byte_in (w : World) (p b off : Nat) (len cap i : Nat) (h c : Int) (hi : i < len) (hl : len ≤ 9223372036854775806) (hbp : b < p)
    (c0 : w.cell? ⟨p, 0, none⟩ = some (.slice (some ⟨b, off, none⟩) len cap)) (c1 : w.cell? ⟨p, 1, none⟩ = some (.int .i64 i)) (c2 : w.cell? ⟨p, 2, none⟩ = some (.int .i64 h))
    (f1 : w.frozen? ⟨p, 1, none⟩ = false) (f2 : w.frozen? ⟨p, 2, none⟩ = false) (hc : w.cell? ⟨b, off + i, none⟩ = some (.int .u8 c)) (h1 : 0 ≤ c) (h2 : c ≤ 255) :
    Calls Try.prog 118 #[.pointer (some ⟨p, 0, none⟩)] w fun e w' => ∃ x h' : Int, e = .returned (.int .i64 x) ∧ 0 ≤ x ∧ x ≤ 255 ∧ ∃ n, w' = ((w.setCell ⟨p, 2, none⟩ (.int .i64 h')).drewN n).setCell ⟨p, 1, none⟩ (.int .i64 ((i : Int) + 1)) := by
  have hlt : (i : Int) < (len : Int) := by omega
  have hne : b ≠ p := by omega
  have hnp : p ≠ b := by omega
  go_enter Try.func118, Try.ntmps118
  go_wp2
  go_quiet (fail)
  go_wp2
  go_quiet (fail)
  go_wp2
  go_quiet (fail)
  go_wp2
  go_ret
  exact ⟨_, wrap64 (wrap64 (h * 6364136223846793005) + 1442695040888963407), rfl, (and255 _).1, (and255 _).2, _, rfl⟩

theorem byte_any (w : World) (p : Nat) (a0 : Option Addr) (len cap : Nat) (hc : Cur w p a0 len cap) :
    Calls Try.prog 118 #[.pointer (some ⟨p, 0, none⟩)] w fun e w' => ∃ x : Int, e = .returned (.int .i64 x) ∧ 0 ≤ x ∧ x ≤ 255 ∧ Cur w' p a0 len cap ∧ w.grownBy w' (some p) := by
  obtain ⟨hp, hcode, hb, i, h, hi, c0, c1, c2, f1, f2⟩ := hc
  by_cases hlt : i < len
  · rcases hcode.2 with h0 | ⟨b, off, rfl, hbs, hcell⟩
    · omega
    obtain ⟨c, hc, h1, h2⟩ := hcell i hlt
    have hbp : b < p := by have := hb b off rfl; omega
    refine (byte_in w p b off len cap i h c hlt hcode.1 hbp c0 c1 c2 f1 f2 hc h1 h2).mono ?_
    rintro e w' ⟨x, h', rfl, g1, g2, n, rfl⟩
    have g0 : w.grownBy ((w.setCell ⟨p, 2, none⟩ (.int .i64 h')).drewN n) (some p) := gb_drewN (gb_set w ⟨p, 2, none⟩ (.int .i64 h')) n
    have g3 : ((w.setCell ⟨p, 2, none⟩ (.int .i64 h')).drewN n).grownBy (((w.setCell ⟨p, 2, none⟩ (.int .i64 h')).drewN n).setCell ⟨p, 1, none⟩ (.int .i64 ((i : Int) + 1))) (some p) := gb_set _ ⟨p, 1, none⟩ _
    have hg := gb_trans g0 g3
    refine ⟨x, rfl, g1, g2, ⟨Nat.lt_of_lt_of_le hp hg.size, code_kept hcode hb hg, hb, i + 1, h', by omega, ?_, ?_, ?_, ?_, ?_⟩, hg⟩
    · rw [World.cell?_setCell_other _ _ _ _ (by simp), World.cell?_drewN, World.cell?_setCell_other _ _ _ _ (by simp)]; exact c0
    · exact World.cell?_setCell_same _ _ _ (u := .int .i64 i) (by rw [World.cell?_drewN, World.cell?_setCell_other _ _ _ _ (by simp)]; exact c1)
    · rw [World.cell?_setCell_other _ _ _ _ (by simp), World.cell?_drewN]; exact World.cell?_setCell_same _ _ _ c2
    · rw [World.frozen?_setCell, World.frozen?_drewN, World.frozen?_setCell]; exact f1
    · rw [World.frozen?_setCell, World.frozen?_drewN, World.frozen?_setCell]; exact f2
  · refine (byte_end w p a0 len cap i h hlt c0 c1 c2 f1 f2).mono ?_
    rintro e w' ⟨x, h', rfl, g1, g2, n, rfl⟩
    have hg : w.grownBy ((w.setCell ⟨p, 2, none⟩ (.int .i64 h')).drewN n) (some p) := gb_drewN (gb_set w ⟨p, 2, none⟩ (.int .i64 h')) n
    refine ⟨x, rfl, g1, g2, ⟨Nat.lt_of_lt_of_le hp hg.size, code_kept hcode hb hg, hb, i, h', hi, ?_, ?_, ?_, ?_, ?_⟩, hg⟩
    · rw [World.cell?_drewN, World.cell?_setCell_other _ _ _ _ (by simp)]; exact c0
    · rw [World.cell?_drewN, World.cell?_setCell_other _ _ _ _ (by simp)]; exact c1
    · rw [World.cell?_drewN]; exact World.cell?_setCell_same _ _ _ c2
    · rw [World.frozen?_drewN, World.frozen?_setCell]; exact f1
    · rw [World.frozen?_drewN, World.frozen?_setCell]; exact f2

theorem byte_from (w0 w : World) (p : Nat) (a0 : Option Addr) (len cap : Nat) (hc : Cur w p a0 len cap) (hg : w0.grownBy w (some p)) :
    Calls Try.prog 118 #[.pointer (some ⟨p, 0, none⟩)] w fun e w' => ∃ x : Int, e = .returned (.int .i64 x) ∧ 0 ≤ x ∧ x ≤ 255 ∧ Cur w' p a0 len cap ∧ w0.grownBy w' (some p) :=
  (byte_any w p a0 len cap hc).mono fun e w' ⟨x, h1, h2, h3, h4, h5⟩ => ⟨x, h1, h2, h3, h4, gb_trans hg h5⟩

set_option maxHeartbeats 1000000 in
theorem below_from (w0 w : World) (p : Nat) (a0 : Option Addr) (len cap : Nat) (n : Int) (hn : 1 ≤ n) (hc : Cur w p a0 len cap) (hg : w0.grownBy w (some p)) :
    Calls Try.prog 73 #[.pointer (some ⟨p, 0, none⟩), .int .i64 n] w fun e w' => ∃ x : Int, e = .returned (.int .i64 x) ∧ 0 ≤ x ∧ x < n ∧ Cur w' p a0 len cap ∧ w0.grownBy w' (some p) := by
  by_cases h : n ≤ 256
  · go_enter Try.func73, Try.ntmps73
    go_wp2_with (go_at_call 118; refine (byte_from w0 _ p a0 len cap (by assumption) (by assumption)).mono ?_; rintro e w1 ⟨x, rfl, hx0, hx1, hc1, hg1⟩)
    go_ret
    exact ⟨_, rfl, Int.emod_nonneg _ (by omega), Int.emod_lt_of_pos _ (by omega), by assumption, by assumption⟩
  · go_enter Try.func73, Try.ntmps73
    go_wp2_with (go_at_call 118; refine (byte_from w0 _ p a0 len cap (by assumption) (by assumption)).mono ?_; rintro e w1 ⟨x, rfl, hx0, hx1, hc1, hg1⟩)
    go_ret
    exact ⟨_, rfl, Int.emod_nonneg _ (by omega), Int.emod_lt_of_pos _ (by omega), by assumption, by assumption⟩

theorem from_from (w0 w : World) (p : Nat) (a0 : Option Addr) (len cap : Nat) (lo hi : Int) (h1 : lo ≤ hi) (h2 : -1000000000 ≤ lo) (h3 : hi ≤ 1000000000) (hc : Cur w p a0 len cap) (hg : w0.grownBy w (some p)) :
    Calls Try.prog 56 #[.pointer (some ⟨p, 0, none⟩), .int .i64 lo, .int .i64 hi] w fun e w' => ∃ x : Int, e = .returned (.int .i64 x) ∧ lo ≤ x ∧ x ≤ hi ∧ Cur w' p a0 len cap ∧ w0.grownBy w' (some p) := by
  go_enter Try.func56, Try.ntmps56
  go_wp2_with (go_at_call 73; refine (below_from w0 _ p a0 len cap _ (by omega) (by assumption) (by assumption)).mono ?_; rintro e w1 ⟨x, rfl, hx0, hx1, hc1, hg1⟩)
  go_ret
  exact ⟨_, rfl, by omega, by omega, by assumption, by assumption⟩

theorem once_from (w0 w : World) (p : Nat) (a0 : Option Addr) (len cap : Nat) (n : Int) (hn : 1 ≤ n) (hc : Cur w p a0 len cap) (hg : w0.grownBy w (some p)) :
    Calls Try.prog 87 #[.pointer (some ⟨p, 0, none⟩), .int .i64 n] w fun e w' => ∃ x : Bool, e = .returned (.bool x) ∧ Cur w' p a0 len cap ∧ w0.grownBy w' (some p) := by
  go_enter Try.func87, Try.ntmps87
  go_wp2_with (go_at_call 73; refine (below_from w0 _ p a0 len cap _ hn (by assumption) (by assumption)).mono ?_; rintro e w1 ⟨x, rfl, hx0, hx1, hc1, hg1⟩)
  go_ret
  exact ⟨_, rfl, by assumption, by assumption⟩

/-! ### a new cursor -/
theorem new_any (w : World) (a0 : Option Addr) (len cap : Nat) (hcode : CodeAt w a0 len) :
    Calls Try.prog 46 #[.slice a0 len cap] w fun e w' => ∃ h : Int, e = .returned (.pointer (some ⟨w.heap.size, 0, none⟩)) ∧ w' = w.alloc (.cells #[.slice a0 len cap, .int .i64 0, .int .i64 h] 114) := by
  have hl := hcode.1
  go_enter Try.func46, Try.ntmps46
  go_wp2
  go_loop [3, 4] (fun o i => ∃ (k : Nat) (z : Int), k ≤ len ∧ i = .int .i64 k ∧ o = .int .i64 z) (fun _ i => len - (intOf i).toNat)
  case atStart => exact ⟨0, _, Nat.zero_le _, rfl, rfl⟩
  case round =>
    obtain ⟨k, z, hk, rfl, rfl⟩ := hrel
    by_cases hlt : k < len
    · rcases hcode.2 with h0 | ⟨b, off, rfl, hbs, hcell⟩
      · omega
      obtain ⟨c, hc, h1, h2⟩ := hcell k hlt
      clear hcell hcode
      have hlt' : (k : Int) < (len : Int) := by omega
      go_wp2
      go_round
      case rel => exact ⟨k + 1, _, by omega, by go_num, rfl⟩
      case measure => simp [intOf]; omega
    · go_wp2
      go_ret
      exact ⟨rfl, z, rfl⟩

theorem new_cur (w : World) (a0 : Option Addr) (len cap : Nat) (hcode : CodeAt w a0 len) :
    Calls Try.prog 46 #[.slice a0 len cap] w fun e w' => ∃ p : Nat, e = .returned (.pointer (some ⟨p, 0, none⟩)) ∧ w.heap.size ≤ p ∧ Cur w' p a0 len cap ∧ Below w.heap.size w w' := by
  refine (new_any w a0 len cap hcode).mono ?_
  rintro e w' ⟨h, rfl, rfl⟩
  have hb : Below w.heap.size w (w.alloc (.cells #[.slice a0 len cap, .int .i64 0, .int .i64 h] 114)) := (Below.refl _ _).alloc (Nat.le_refl _) _
  refine ⟨w.heap.size, rfl, Nat.le_refl _, ⟨by simp, ⟨hcode.1, ?_⟩, ?_, 0, h, Nat.zero_le _, by simp, by simp, by simp, by simp, by simp⟩, hb⟩
  · rcases hcode.2 with h0 | ⟨b, off, rfl, hbs, hcell⟩
    · exact .inl h0
    · refine .inr ⟨b, off, rfl, by simp; omega, fun k hk => ?_⟩
      obtain ⟨c, hc, h1, h2⟩ := hcell k hk
      exact ⟨c, by rw [hb.cell hbs]; exact hc, h1, h2⟩
  · intro b off e
    rcases hcode.2 with h0 | ⟨b', off', e', hbs, hcell⟩
    · exact .inl h0
    · rw [e'] at e; cases e; exact .inr hbs

/-! ### what chapter 1's laws draw -/
theorem cur_alloc {w : World} {p : Nat} {a0 : Option Addr} {len cap : Nat} (h : Cur w p a0 len cap) (o : Obj) : Cur (w.alloc o) p a0 len cap := by
  obtain ⟨hp, hcode, hb, i, h, hi, c0, c1, c2, f1, f2⟩ := h
  have hB : Below w.heap.size w (w.alloc o) := (Below.refl _ _).alloc (Nat.le_refl _) _
  refine ⟨by simp; omega, ⟨hcode.1, ?_⟩, hb, i, h, hi, ?_, ?_, ?_, ?_, ?_⟩
  · rcases hcode.2 with h0 | ⟨b, off, rfl, hbs, hcell⟩
    · exact .inl h0
    · refine .inr ⟨b, off, rfl, by simp; omega, fun k hk => ?_⟩
      obtain ⟨c, hc, h1, h2⟩ := hcell k hk
      exact ⟨c, by rw [hB.cell hbs]; exact hc, h1, h2⟩
  · rw [hB.cell hp]; exact c0
  · rw [hB.cell hp]; exact c1
  · rw [hB.cell hp]; exact c2
  · rw [hB.frozen hp]; exact f1
  · rw [hB.frozen hp]; exact f2
theorem cur_drewN {w : World} {p : Nat} {a0 : Option Addr} {len cap : Nat} (h : Cur w p a0 len cap) (n : Nat) : Cur (w.drewN n) p a0 len cap := h
theorem gb_alloc {w w' : World} {r : Option Nat} (h : w.grownBy w' r) (o : Obj) : w.grownBy (w'.alloc o) r :=
  ⟨h.os, h.tape, h.output, Nat.le_trans h.size (by simp), fun k hk hn => (Below.heap_alloc _ _ _ (Nat.lt_of_lt_of_le hk h.size)).trans (h.block k hk hn)⟩


/-- a number drawn as a place in a row of numbers that lies new -/
theorem below_lit (w0 w : World) (p : Nat) (a0 : Option Addr) (len cap : Nat) (xs : List Int) (t : TypeId) (n lo hi : Int) (hn : n = xs.length) (h1 : 1 ≤ n) (hall : ∀ x ∈ xs, lo ≤ x ∧ x ≤ hi) (hc : Cur w p a0 len cap) (hg : w0.grownBy w (some p)) :
    Calls Try.prog 73 #[.pointer (some ⟨p, 0, none⟩), .int .i64 n] (w.alloc (.cells (xs.map (Value.int .i64)).toArray t)) fun e w' => ∃ x v : Int, e = .returned (.int .i64 x) ∧ 0 ≤ x ∧ x < n ∧ w'.cell? ⟨w.heap.size, x.toNat, none⟩ = some (.int .i64 v) ∧ lo ≤ v ∧ v ≤ hi ∧ Cur w' p a0 len cap ∧ w0.grownBy w' (some p) := by
  have hp := hc.1
  refine (below_from (w.alloc (.cells (xs.map (Value.int .i64)).toArray t)) _ p a0 len cap n h1 (cur_alloc hc _) (World.grownBy.refl _ _)).mono ?_
  rintro e w' ⟨x, rfl, g0, g1, hc', hg'⟩
  have hk : x.toNat < xs.length := by omega
  refine ⟨x, xs[x.toNat], rfl, g0, g1, ?_, (hall _ (List.getElem_mem hk)).1, (hall _ (List.getElem_mem hk)).2, hc', gb_trans (gb_alloc hg _) hg'⟩
  rw [gb_cell hg' (by simp) (by omega)]
  simp [hk]
end Go.Proofs.Ytmnjmghlkiljhaa.draw
/- What the laws of chapter 2 draw, first part: a cursor stays while new memory is written; names; places. -/
namespace Go.Proofs.Ytmnjmghlkiljhaa.draw
open Go.ChangeShapes Go.WideShapes Go.ChangeAt Go.RowKit
set_option linter.unusedVariables false

theorem cur_below {w w' : World} {p : Nat} {a0 : Option Addr} {len cap L : Nat} (h : Cur w p a0 len cap) (hB : Below L w w') (hL : p < L) : Cur w' p a0 len cap := by
  obtain ⟨hp, hcode, hb, i, h, hi, c0, c1, c2, f1, f2⟩ := h
  refine ⟨Nat.lt_of_lt_of_le hp hB.size, ⟨hcode.1, ?_⟩, hb, i, h, hi, ?_, ?_, ?_, ?_, ?_⟩
  · rcases hcode.2 with h0 | ⟨b, off, e, hbs, hcell⟩
    · exact .inl h0
    · rcases hb b off e with h0 | hbp
      · exact .inl h0
      · refine .inr ⟨b, off, e, Nat.lt_of_lt_of_le hbs hB.size, fun k hk => ?_⟩
        obtain ⟨c, hc, h1, h2⟩ := hcell k hk
        exact ⟨c, by rw [hB.cell (by show b < L; omega)]; exact hc, h1, h2⟩
  · rw [hB.cell hL]; exact c0
  · rw [hB.cell hL]; exact c1
  · rw [hB.cell hL]; exact c2
  · rw [hB.frozen hL]; exact f1
  · rw [hB.frozen hL]; exact f2
theorem gb_below {w a b : World} {p L : Nat} (h : w.grownBy a (some p)) (hB : Below L a b) (hL : w.heap.size ≤ L) : w.grownBy b (some p) :=
  ⟨hB.os.trans h.os, hB.tape.trans h.tape, hB.output.trans h.output, Nat.le_trans h.size hB.size, fun k hk hn => (hB.block k (by omega)).trans (h.block k hk hn)⟩

/-- a number drawn as a place in a row of texts that lies new -/
theorem below_names (w0 w : World) (p : Nat) (a0 : Option Addr) (len cap : Nat) (ss : List ByteArray) (t : TypeId) (n : Int) (m : Nat) (hn : n = ss.length) (h1 : 1 ≤ n) (hall : ∀ s ∈ ss, s.size ≤ m) (hc : Cur w p a0 len cap) (hg : w0.grownBy w (some p)) :
    Calls Try.prog 73 #[.pointer (some ⟨p, 0, none⟩), .int .i64 n] (w.alloc (.cells (ss.map Value.string).toArray t)) fun e w' => ∃ (x : Int) (s : ByteArray), e = .returned (.int .i64 x) ∧ 0 ≤ x ∧ x < n ∧ w'.cell? ⟨w.heap.size, x.toNat, none⟩ = some (.string s) ∧ s.size ≤ m ∧ Cur w' p a0 len cap ∧ w0.grownBy w' (some p) := by
  have hp := hc.1
  refine (below_from (w.alloc (.cells (ss.map Value.string).toArray t)) _ p a0 len cap n h1 (cur_alloc hc _) (World.grownBy.refl _ _)).mono ?_
  rintro e w' ⟨x, rfl, g0, g1, hc', hg'⟩
  have hk : x.toNat < ss.length := by omega
  refine ⟨x, ss[x.toNat], rfl, g0, g1, ?_, hall _ (List.getElem_mem hk), hc', gb_trans (gb_alloc hg _) hg'⟩
  rw [gb_cell hg' (by simp) (by omega)]
  simp [hk]

/-- the eight names -/
def names : List ByteArray := [⟨#[97]⟩, ⟨#[98]⟩, ⟨#[99]⟩, ⟨#[100, 100]⟩, ⟨#[101, 49]⟩, ⟨#[102, 45]⟩, ⟨#[103]⟩, ⟨#[104]⟩]
theorem names_small : ∀ s ∈ names, s.size ≤ 2 := by
  intro s hs
  simp only [names, List.mem_cons, List.not_mem_nil, or_false] at hs
  rcases hs with rfl | rfl | rfl | rfl | rfl | rfl | rfl | rfl <;> decide

theorem name_from (w0 w : World) (p : Nat) (a0 : Option Addr) (len cap : Nat) (hc : Cur w p a0 len cap) (hg : w0.grownBy w (some p)) :
    Calls Try.prog 86 #[.pointer (some ⟨p, 0, none⟩)] w fun e w' => ∃ s : ByteArray, e = .returned (.string s) ∧ s.size ≤ 2 ∧ Cur w' p a0 len cap ∧ w0.grownBy w' (some p) := by
  go_enter Try.func86, Try.ntmps86
  go_wp2_with (first | (go_at_call 73; refine (below_names w0 w p a0 len cap names _ 8 2 rfl (by omega) names_small hc hg).mono ?_; rintro e w1 ⟨x, s, rfl, hx0, hx1, hcell, hs, hc1, hg1⟩; obtain ⟨k, hk⟩ : ∃ k : Nat, x = k := ⟨x.toNat, by omega⟩; subst hk; rw [Int.toNat_natCast] at hcell) | (fail))
  go_ret
  exact ⟨s, rfl, hs, hc1, hg1⟩

end Go.Proofs.Ytmnjmghlkiljhaa.draw
/- What the laws of chapter 8 draw, first part: a number as a text; a name, or what is none. -/
namespace Go.Proofs.Ytmnjmghlkiljhaa.rg
open Go.ChangeShapes Go.WideShapes Go.ChangeAt Go.RowKit
open Go.Proofs.Ytmnjmghlkiljhaa.ce Go.Proofs.Ytmnjmghlkiljhaa.ro
set_option linter.unusedVariables false

theorem l1Int_any (n : Nat) (hn : n ≤ 100) (w : World) :
    Calls Try.prog 125 #[.int .i64 n] w fun e w' => ∃ s : ByteArray, e = .returned (.string s) ∧ s.size ≤ 1000 ∧ Below w.heap.size w w' := by
  have hn0 : ¬ (n : Int) < 0 := by omega
  go_enter Try.func125, Try.ntmps125
  go_wp2
  go_loopg [0, 3, 5] (2 * n + 1) (fun k v s d wr => ∃ (q : Nat) (out : ByteArray), v = .int .i64 q ∧ s = .string out ∧ q ≤ 100 ∧ out.size + 2 * q ≤ 300 ∧ (out.toList = [] → 2 * q + 1 ≤ k) ∧ (out.toList ≠ [] → 2 * q ≤ k ∧ out.size ≤ 300) ∧ Below w.heap.size w wr)
  case atStart => exact ⟨n, ⟨#[]⟩, rfl, rfl, hn, by show 0 + 2 * n ≤ 300; omega, fun _ => Nat.le_refl _, fun h => ⟨by omega, by show 0 ≤ 300; omega⟩, Below.refl _ _⟩
  case round =>
    obtain ⟨q, out, rfl, rfl, hq, hsz, hk1, hk2, hB⟩ := hrel
    have HK1 : Hid (out.toList = [] → 2 * q + 1 ≤ gk) := hk1
    have HK2 : Hid (out.toList ≠ [] → 2 * q ≤ gk ∧ out.size ≤ 300) := hk2
    clear hk1 hk2
    obtain ⟨d, hd⟩ := hid_ex (q % 10)
    have hd9 : d ≤ 9 := by have := hd.out; omega
    have hcv := dig_conv d hd9 wr
    have hds : (dig d).size = 1 := rfl
    have hmod : (q : Int) % 10 = (d : Int) := by have := hd.out; omega
    obtain ⟨q2, hq2⟩ := hid_ex (q / 10)
    have hdiv : (q : Int) / 10 = (q2 : Int) := by have := hq2.out; omega
    have hd0 : ¬ (d : Int) < 0 := by omega
    have hout : (dig d ++ out).size = 1 + out.size := by rw [ByteArray.size_append]; rfl
    have hne : Hid ((dig d ++ out).toList ≠ []) := by
      unfold Hid
      intro e
      have h1 : (dig d ++ out).data.toList = [] := by rw [← ByteArray.toList_eq]; exact e
      have h2 : (dig d ++ out).size = 0 := by show (dig d ++ out).data.size = 0; rw [← Array.length_toList, h1]; rfl
      omega
    by_cases he : out.toList = []
    · have hb : (out.toList == []) = true := by rw [he]; rfl
      have hs0 : out.size ≤ 0 := by
        have h1 : out.data.toList = [] := by rw [← ByteArray.toList_eq]; exact he
        show out.data.size ≤ 0
        rw [← Array.length_toList, h1]
        exact Nat.le_refl _
      go_wp2
      go_roundg (2 * q2)
      case measure => have := HK1.out he; have := hq2.out; omega
      case rel => exact ⟨q2, dig d ++ out, rfl, rfl, by have := hq2.out; omega, by have := hq2.out; omega, fun h => absurd h hne.out, fun _ => ⟨Nat.le_refl _, by omega⟩, hB.alloc hB.size _⟩
    · have hb : (out.toList == []) = false := by
        cases hx : out.toList with
        | nil => exact absurd hx he
        | cons x r => rfl
      by_cases hq0 : q = 0
      · have hqb : ((q : Int) != 0) = false := by rw [hq0]; rfl
        have hs3 : out.size ≤ 300 := by omega
        clear hq0 he
        go_wp2
        go_ret
        exact ⟨out, rfl, by omega, hB⟩
      · have hqb : ((q : Int) != 0) = true := by simp; omega
        have hlt : q2 < q := by have := hq2.out; omega
        have HE : Hid (out.toList ≠ []) := he
        clear he hq0
        go_wp2
        go_roundg (2 * q2)
        case measure => have := (HK2.out HE.out).1; omega
        case rel => exact ⟨q2, dig d ++ out, rfl, rfl, by have := hq2.out; omega, by have := hq2.out; omega, fun h => absurd h hne.out, fun _ => ⟨Nat.le_refl _, by omega⟩, hB.alloc hB.size _⟩

/-- what l8DrawName may tell besides names -/
def odd4 : List ByteArray := [⟨#[]⟩, ⟨#[65]⟩, ⟨#[48, 49, 50, 51, 52, 53, 54, 55, 56, 57, 97, 98, 99]⟩, ⟨#[122, 122]⟩]
theorem odd4_small : ∀ s ∈ odd4, s.size ≤ 13 := by
  intro s hs
  simp only [odd4, List.mem_cons, List.not_mem_nil, or_false] at hs
  rcases hs with rfl | rfl | rfl | rfl <;> decide
open Go.Proofs.Ytmnjmghlkiljhaa.draw in
theorem l8DrawName_any (w0 w : World) (p : Nat) (a0 : Option Addr) (len cap : Nat) (hc : Cur w p a0 len cap) (hg : w0.grownBy w (some p)) :
    Calls Try.prog 48 #[.pointer (some ⟨p, 0, none⟩)] w fun e w' => ∃ s : ByteArray, e = .returned (.string s) ∧ s.size ≤ 13 ∧ Cur w' p a0 len cap ∧ w0.grownBy w' (some p) := by
  go_enter Try.func48, Try.ntmps48
  go_wp2_with (first | (go_at_call 87; refine (once_from w0 w p a0 len cap 12 (by omega) hc hg).mono ?_; rintro e w1 ⟨x, rfl, hc1, hg1⟩; cases x) | (go_at_call 86; refine (name_from w0 w1 p a0 len cap hc1 hg1).mono ?_; rintro e w2 ⟨s, rfl, hs, hc2, hg2⟩) | (go_at_call 73; refine (below_names w0 w1 p a0 len cap odd4 _ 4 13 rfl (by omega) odd4_small hc1 hg1).mono ?_; rintro e w2 ⟨x, s, rfl, hx0, hx1, hcell, hs, hc2, hg2⟩; obtain ⟨k, hk⟩ : ∃ k : Nat, x = k := ⟨x.toNat, by omega⟩; subst hk; rw [Int.toNat_natCast] at hcell) | (fail))
  all_goals
    go_ret
    exact ⟨s, rfl, by omega, hc2, hg2⟩
end Go.Proofs.Ytmnjmghlkiljhaa.rg
/- The model's draw of a text: whatever the bytes, it returns a text of fewer than the asked number of signs; nothing that was there is written but the cursor. -/
namespace Go.Proofs.Ytmnjmghlkiljhaa.draw
open Go.ChangeShapes Go.WideShapes Go.ChangeAt Go.RowKit
set_option linter.unusedVariables false

theorem infoByte : (Try.prog.info? 5).map (fun i => (i.zero, i.size, i.bytes)) = some (some (.int .u8 0), 1, 1) := by kernel_rfl

def byteRow (l : List UInt8) : List Value := l.map fun b => Value.int .u8 b.toNat

theorem cur_size {w : World} {p : Nat} {a0 : Option Addr} {len cap : Nat} (h : Cur w p a0 len cap) : p < w.heap.size := h.1

theorem gb_own {w0 W w3 : World} {r : Option Nat} {p : Nat} (h : w0.grownBy W (some p)) (g : W.grownBy w3 r) (hr : ∀ k, r = some k → w0.heap.size ≤ k) : w0.grownBy w3 (some p) :=
  ⟨g.os.trans h.os, g.tape.trans h.tape, g.output.trans h.output, Nat.le_trans h.size g.size, fun i hi hne => (g.block i (Nat.lt_of_lt_of_le hi h.size) (fun e => by have := hr i e.symm; omega)).trans (h.block i hi hne)⟩

theorem cur_own {W w3 : World} {r : Option Nat} {p : Nat} {a0 : Option Addr} {len cap : Nat} (h : Cur W p a0 len cap) (g : W.grownBy w3 r) (hr : ∀ k, r = some k → p < k) : Cur w3 p a0 len cap := by
  obtain ⟨hp, hcode, hb, i, h, hi, c0, c1, c2, f1, f2⟩ := h
  have hB : ∀ b, b ≤ p → b < W.heap.size → ∀ o, w3.cell? ⟨b, o, none⟩ = W.cell? ⟨b, o, none⟩ := fun b hbp hbs o => World.cell?_of_block (g.block b hbs (fun e => by have := hr b e.symm; omega))
  have hF : ∀ o, w3.frozen? ⟨p, o, none⟩ = W.frozen? ⟨p, o, none⟩ := fun o => World.frozen?_of_block (g.block p hp (fun e => by have := hr p e.symm; omega))
  refine ⟨Nat.lt_of_lt_of_le hp g.size, ⟨hcode.1, ?_⟩, hb, i, h, hi, ?_, ?_, ?_, ?_, ?_⟩
  · rcases hcode.2 with h0 | ⟨b, off, rfl, hbs, hcell⟩
    · exact .inl h0
    rcases hb b off rfl with h0 | hbp
    · exact .inl h0
    · refine .inr ⟨b, off, rfl, Nat.lt_of_lt_of_le hbs g.size, fun k hk => ?_⟩
      obtain ⟨c, hc, h1, h2⟩ := hcell k hk
      exact ⟨c, by rw [hB b (by omega) hbs]; exact hc, h1, h2⟩
  · rw [hB p (Nat.le_refl _) hp]; exact c0
  · rw [hB p (Nat.le_refl _) hp]; exact c1
  · rw [hB p (Nat.le_refl _) hp]; exact c2
  · rw [hF]; exact f1
  · rw [hF]; exact f2

set_option maxHeartbeats 1000000 in
theorem drawText_from (w0 w : World) (p : Nat) (a0 : Option Addr) (len cap : Nat) (s : ByteArray) (most : Int) (hs : 1 ≤ s.size) (hs2 : s.size ≤ 1000) (hm : 1 ≤ most) (hm2 : most ≤ 1000)
    (hc : Cur w p a0 len cap) (hg : w0.grownBy w (some p)) :
    Calls Try.prog 142 #[.pointer (some ⟨p, 0, none⟩), .string s, .int .i64 most] w fun e w' => ∃ t : ByteArray, e = .returned (.string t) ∧ t.size ≤ 1000 ∧ Cur w' p a0 len cap ∧ w0.grownBy w' (some p) := by
  obtain ⟨i0, hi, hz0, hz1, hz2⟩ := info_parts infoByte
  have hp := cur_size hc
  go_enter Try.func142, Try.ntmps142
  go_wp2_with (go_at_call 73; refine (below_from (w.alloc (.cells #[] 5)) _ p a0 len cap _ hm (cur_alloc hc _) (World.grownBy.refl _ _)).mono ?_; rintro e w1 ⟨n, rfl, hn0, hn1, hc1, hg1⟩)
  have ho1 : w1.ownsRow w.heap.size 5 1 (.slice (some ⟨w.heap.size, 0, none⟩) 0 0) 0 [] :=
    (World.ownsRow_made (base := w.heap.size) (size := 1) (e := 5) w #[] 0 (Nat.le_refl _) (by unfold maxLen; omega) rfl).kept hg1 (.inr (by simp [Value.ownBlock]; omega))
  have hgg := gb_trans (gb_alloc hg (.cells #[] 5)) hg1
  have hsz : w.heap.size ≤ w1.heap.size := by have := hg1.size; simp at this; omega
  have hsz0 : w0.heap.size ≤ w.heap.size := hg.size
  clear hg1 hg hc
  go_loopw [7, 8] (fun v i wr => ∃ (k : Nat) (l : List UInt8), i = .int .i64 k ∧ k + l.length ≤ 1000 ∧ wr.ownsRow w.heap.size 5 1 v l.length (byteRow l) ∧ v ≠ .slice none 0 0 ∧ Cur wr p a0 len cap ∧ w0.grownBy wr (some p) ∧ w.heap.size ≤ wr.heap.size) (fun _ i _ => (intOf i).toNat)
  case atStart =>
    refine ⟨n.toNat, [], ?_, ?_, ho1, by simp, hc1, hgg, hsz⟩
    · rw [Int.toNat_of_nonneg hn0]
    · simp; omega
  case round =>
    obtain ⟨k, l, rfl, hk, hown, hnn, hcr, hgr, hbr⟩ := hrel
    clear ho1 hc1 hgg hsz
    by_cases hlt : 0 < k
    · go_wp2_with (first | (go_at_call 73; refine (below_from wr _ p a0 len cap _ (by omega) hcr (World.grownBy.refl _ _)).mono ?_; rintro e w2 ⟨x, rfl, hx0, hx1, hc2, hg2⟩; have hxl : x.toNat < s.size := (by omega); obtain ⟨c, hcx⟩ : ∃ c, s[x.toNat]'hxl = c := ⟨_, rfl⟩; have hown2 := hown.kept hg2 (.inr (fun e => (by have := (hown.lt p e).1; omega)))) | (at_builtin; refine wpList_append_own _ rfl _ _ 22 rfl w.heap.size 5 i0 (.int .u8 0) 1 1 Try.underlying22 hi hz0 hz1 hz2 rfl (by decide) _ _ _ rfl (hown2.alloc _) ⟨w2.heap.size, 0, none⟩ 1 1 [Value.int .u8 c.toNat] rfl rfl ?c1 ?c2 ?c3 ?c4 ?c5 ?_))
      case c1 =>
        intro j u hj
        match j, hj with
        | 0, hj => simp at hj; subst hj; simp [Addr.add]
      case c2 => intro u hu; simp at hu; subst hu; rfl
      case c3 => unfold maxLen; omega
      case c4 => omega
      case c5 => have := hg2.size; simp; omega
      · intro v' w3 hown3 hg3 hnil3
        have hlo : ∀ k, u7.ownBlock = some k → w.heap.size ≤ k := fun k e => (hown.lt k e).1
        have hgA : w0.grownBy w3 (some p) := gb_own (gb_trans hgr (gb_alloc hg2 (.cells #[Value.int .u8 c.toNat] 5))) hg3 (fun k e => by have := hlo k e; omega)
        have hcA : Cur w3 p a0 len cap := cur_own (cur_alloc hc2 (.cells #[Value.int .u8 c.toNat] 5)) hg3 (fun k e => by have := hlo k e; omega)
        have hsA : w.heap.size ≤ w3.heap.size := by have h1 := hg2.size; have h2 := hg3.size; simp at h2; omega
        clear hlo hg3 hg2 hown2 hcx
        go_wp2
        go_roundw
        case rel => exact ⟨k - 1, l ++ [c], by rw [Int.natCast_sub (by omega)]; rfl, by simp; omega, by rw [List.length_append, byteRow, List.map_append]; exact hown3, hnil3, hcA, hgA, hsA⟩
        case measure => simp [intOf]; omega
    · rcases hown.2 with ⟨e, -⟩ | ⟨g, cap', cur, rfl, -, -, -, -, -, -⟩
      · exact absurd e hnn
      · have hcv := run_convert_bytes_back (P := Try.prog) wr 22 9 5 ⟨g, 0, none⟩ cap' l Try.underlying22 Try.underlying5 Try.underlying9 (fun j hj => hown.cells (g := g) rfl j _ (by simp [byteRow, hj]))
        go_wp2
        go_ret
        exact ⟨_, rfl, by show l.toArray.size ≤ 1000; simp; omega, hcr, hgr⟩
end Go.Proofs.Ytmnjmghlkiljhaa.draw
/- What the laws of chapter 10 draw, first part: a thing. -/
namespace Go.Proofs.Ytmnjmghlkiljhaa.rg
open Go.ChangeShapes Go.WideShapes Go.ChangeAt Go.RowKit
open Go.Proofs.Ytmnjmghlkiljhaa.ce Go.Proofs.Ytmnjmghlkiljhaa.ro Go.Proofs.Ytmnjmghlkiljhaa.draw
set_option linter.unusedVariables false

theorem l1Int_wide (n : Nat) (hn : n ≤ 1000) (w : World) :
    Calls Try.prog 125 #[.int .i64 n] w fun e w' => ∃ s : ByteArray, e = .returned (.string s) ∧ s.size ≤ 4000 ∧ Below w.heap.size w w' := by
  have hn0 : ¬ (n : Int) < 0 := by omega
  go_enter Try.func125, Try.ntmps125
  go_wp2
  go_loopg [0, 3, 5] (2 * n + 1) (fun k v s d wr => ∃ (q : Nat) (out : ByteArray), v = .int .i64 q ∧ s = .string out ∧ q ≤ 1000 ∧ out.size + 2 * q ≤ 3000 ∧ (out.toList = [] → 2 * q + 1 ≤ k) ∧ (out.toList ≠ [] → 2 * q ≤ k ∧ out.size ≤ 3000) ∧ Below w.heap.size w wr)
  case atStart => exact ⟨n, ⟨#[]⟩, rfl, rfl, hn, by show 0 + 2 * n ≤ 3000; omega, fun _ => Nat.le_refl _, fun h => ⟨by omega, by show 0 ≤ 3000; omega⟩, Below.refl _ _⟩
  case round =>
    obtain ⟨q, out, rfl, rfl, hq, hsz, hk1, hk2, hB⟩ := hrel
    have HK1 : Hid (out.toList = [] → 2 * q + 1 ≤ gk) := hk1
    have HK2 : Hid (out.toList ≠ [] → 2 * q ≤ gk ∧ out.size ≤ 3000) := hk2
    clear hk1 hk2
    obtain ⟨d, hd⟩ := hid_ex (q % 10)
    have hd9 : d ≤ 9 := by have := hd.out; omega
    have hcv := dig_conv d hd9 wr
    have hds : (dig d).size = 1 := rfl
    have hmod : (q : Int) % 10 = (d : Int) := by have := hd.out; omega
    obtain ⟨q2, hq2⟩ := hid_ex (q / 10)
    have hdiv : (q : Int) / 10 = (q2 : Int) := by have := hq2.out; omega
    have hd0 : ¬ (d : Int) < 0 := by omega
    have hout : (dig d ++ out).size = 1 + out.size := by rw [ByteArray.size_append]; rfl
    have hne : Hid ((dig d ++ out).toList ≠ []) := by
      unfold Hid
      intro e
      have h1 : (dig d ++ out).data.toList = [] := by rw [← ByteArray.toList_eq]; exact e
      have h2 : (dig d ++ out).size = 0 := by show (dig d ++ out).data.size = 0; rw [← Array.length_toList, h1]; rfl
      omega
    by_cases he : out.toList = []
    · have hb : (out.toList == []) = true := by rw [he]; rfl
      have hs0 : out.size ≤ 0 := by
        have h1 : out.data.toList = [] := by rw [← ByteArray.toList_eq]; exact he
        show out.data.size ≤ 0
        rw [← Array.length_toList, h1]
        exact Nat.le_refl _
      go_wp2
      go_roundg (2 * q2)
      case measure => have := HK1.out he; have := hq2.out; omega
      case rel => exact ⟨q2, dig d ++ out, rfl, rfl, by have := hq2.out; omega, by have := hq2.out; omega, fun h => absurd h hne.out, fun _ => ⟨Nat.le_refl _, by omega⟩, hB.alloc hB.size _⟩
    · have hb : (out.toList == []) = false := by
        cases hx : out.toList with
        | nil => exact absurd hx he
        | cons x r => rfl
      by_cases hq0 : q = 0
      · have hqb : ((q : Int) != 0) = false := by rw [hq0]; rfl
        have hs3 : out.size ≤ 3000 := by omega
        clear hq0 he
        go_wp2
        go_ret
        exact ⟨out, rfl, by omega, hB⟩
      · have hqb : ((q : Int) != 0) = true := by simp; omega
        have hlt : q2 < q := by have := hq2.out; omega
        have HE : Hid (out.toList ≠ []) := he
        clear he hq0
        go_wp2
        go_roundg (2 * q2)
        case measure => have := (HK2.out HE.out).1; omega
        case rel => exact ⟨q2, dig d ++ out, rfl, rfl, by have := hq2.out; omega, by have := hq2.out; omega, fun h => absurd h hne.out, fun _ => ⟨Nat.le_refl _, by omega⟩, hB.alloc hB.size _⟩

/-- no text of the thing is long -/
def SmI (i : It) : Prop := i.N.size ≤ 4000 ∧ i.B.size ≤ 4000
def zero5 : List Value := [.string ⟨#[]⟩, .int .i64 0, .string ⟨#[]⟩, .int .i64 0, .int .i64 0]
/-- while a thing is drawn: the cursor in p, the answer's variable in b, the thing in g -/
structure Di (w : World) (p : Nat) (a0 : Option Addr) (len cap : Nat) (b g : Nat) (N : ByteArray) (F : Int) (B : ByteArray) (C U : Int) (wr : World) : Prop where
  hp : p < w.heap.size
  cur : Cur wr p a0 len cap
  gb : w.grownBy wr (some p)
  lob : w.heap.size ≤ b
  lt : b < g
  vb : VBlk wr b 53 [.string ⟨#[]⟩, .int .i64 0, .string ⟨#[]⟩, .int .i64 0, .int .i64 0]
  vg : VBlk wr g 53 [.string N, .int .i64 F, .string B, .int .i64 C, .int .i64 U]
  sN : N.size ≤ 4000
  sB : B.size ≤ 4000
section
variable {w : World} {p : Nat} {a0 : Option Addr} {len cap b g : Nat} {N B : ByteArray} {F C U : Int} {wr w' : World}
theorem Di.went (D : Di w p a0 len cap b g N F B C U wr) (hc : Cur w' p a0 len cap) (hg : wr.grownBy w' (some p)) : Di w p a0 len cap b g N F B C U w' := by
  have hp := D.hp
  have h1 := D.lob
  have h2 := D.lt
  exact ⟨D.hp, hc, gb_trans D.gb hg, D.lob, D.lt, D.vb.of (hg.block b D.vb.lt (fun e => by cases e; omega)), D.vg.of (hg.block g D.vg.lt (fun e => by cases e; omega)), D.sN, D.sB⟩
theorem Di.grow (D : Di w p a0 len cap b g N F B C U wr) (hB : Below wr.heap.size wr w') : Di w p a0 len cap b g N F B C U w' :=
  ⟨D.hp, cur_below D.cur hB D.cur.1, gb_below D.gb hB D.gb.size, D.lob, D.lt, vblk_grow D.vb hB, vblk_grow D.vg hB, D.sN, D.sB⟩
/-- one field of the thing is stored -/
theorem Di.set (D : Di w p a0 len cap b g N F B C U wr) (j : Nat) (u : Value) {N' B' : ByteArray} {F' C' U' : Int} (h : [Value.string N, .int .i64 F, .string B, .int .i64 C, .int .i64 U].set j u = [.string N', .int .i64 F', .string B', .int .i64 C', .int .i64 U']) (sN : N'.size ≤ 4000) (sB : B'.size ≤ 4000) : Di w p a0 len cap b g N' F' B' C' U' (wr.setCell ⟨g, j, none⟩ u) := by
  have hp := D.hp
  have h1 := D.lob
  have h2 := D.lt
  have hO := only_set wr g j u
  refine ⟨D.hp, cur_below D.cur (hO.2.2 g (Nat.le_refl _)) (by omega), gb_below D.gb (hO.2.2 g (Nat.le_refl _)) (by omega), D.lob, D.lt, D.vb.of (hO.2.1 b (by omega)), ?_, sN, sB⟩
  rw [← h]
  exact D.vg.set j u
end
/-- while a thing is begun: the cursor in p, the answer's variable in b -/
structure D0i (w : World) (p : Nat) (a0 : Option Addr) (len cap : Nat) (b : Nat) (wr : World) : Prop where
  hp : p < w.heap.size
  cur : Cur wr p a0 len cap
  gb : w.grownBy wr (some p)
  lob : w.heap.size ≤ b
  vb : VBlk wr b 53 [.string ⟨#[]⟩, .int .i64 0, .string ⟨#[]⟩, .int .i64 0, .int .i64 0]
section
variable {w : World} {p : Nat} {a0 : Option Addr} {len cap b g : Nat} {wr w' w'' : World}
theorem d0i_new (hc : Cur w p a0 len cap) (hB : Below w.heap.size w w') (hl : w.heap.size ≤ b) (hv : VBlk w' b 53 [.string ⟨#[]⟩, .int .i64 0, .string ⟨#[]⟩, .int .i64 0, .int .i64 0]) : D0i w p a0 len cap b w' :=
  ⟨hc.1, cur_below hc hB hc.1, gb_below (World.grownBy.refl _ _) hB (Nat.le_refl _), hl, hv⟩
theorem D0i.went (D : D0i w p a0 len cap b wr) (hc : Cur w' p a0 len cap) (hg : wr.grownBy w' (some p)) : D0i w p a0 len cap b w' := by
  have hp := D.hp
  have h1 := D.lob
  exact ⟨D.hp, hc, gb_trans D.gb hg, D.lob, D.vb.of (hg.block b D.vb.lt (fun e => by cases e; omega))⟩
theorem D0i.grow (D : D0i w p a0 len cap b wr) (hB : Below wr.heap.size wr w') : D0i w p a0 len cap b w' :=
  ⟨D.hp, cur_below D.cur hB D.cur.1, gb_below D.gb hB D.gb.size, D.lob, vblk_grow D.vb hB⟩
theorem D0i.di (D : D0i w p a0 len cap b wr) {N B : ByteArray} {F C U : Int} (hg : wr.heap.size ≤ g) (hO : Only g wr w') (vg : VBlk w' g 53 [.string N, .int .i64 F, .string B, .int .i64 C, .int .i64 U]) (sN : N.size ≤ 4000) (sB : B.size ≤ 4000) : Di w p a0 len cap b g N F B C U w' := by
  have := D.vb.lt
  exact ⟨D.hp, cur_below D.cur (hO.2.2 _ hg) D.cur.1, gb_below D.gb (hO.2.2 _ hg) D.gb.size, D.lob, by omega, D.vb.of (hO.2.1 b (by omega)), vg, sN, sB⟩
end
/-- what was drawn: a thing -/
structure GotI (w : World) (p : Nat) (a0 : Option Addr) (len cap : Nat) (N B : ByteArray) (w' : World) : Prop where
  cur : Cur w' p a0 len cap
  gb : w.grownBy w' (some p)
  sN : N.size ≤ 4000
  sB : B.size ≤ 4000
theorem Di.got {w : World} {p : Nat} {a0 : Option Addr} {len cap b g : Nat} {N B : ByteArray} {F C U : Int} {wr w' : World} (D : Di w p a0 len cap b g N F B C U wr) (hO : Only b wr w') : GotI w p a0 len cap N B w' :=
  ⟨cur_below D.cur (hO.2.2 w.heap.size D.lob) D.hp, gb_below D.gb (hO.2.2 w.heap.size D.lob) (Nat.le_refl _), D.sN, D.sB⟩

set_option maxRecDepth 100000 in
set_option maxHeartbeats 4000000 in
theorem l10DrawItem_any (w : World) (p : Nat) (a0 : Option Addr) (len cap : Nat) (hc : Cur w p a0 len cap) :
    Calls Try.prog 122 #[.pointer (some ⟨p, 0, none⟩)] w fun e w' => ∃ (N B : ByteArray) (F C U : Int), e = .returned (.agg #[.string N, .int .i64 F, .string B, .int .i64 C, .int .i64 U]) ∧ GotI w p a0 len cap N B w' := by
  have HC : Hid (Cur w p a0 len cap) := hc
  clear hc
  have m1 : Hid True := trivial
  have m2 : Hid True := trivial
  have m3 : Hid True := trivial
  have m4 : Hid True := trivial
  have m5 : Hid True := trivial
  have m6 : Hid True := trivial
  have m7 : Hid True := trivial
  go_enter Try.func122, Try.ntmps122
  go_upto_region 2 with (first
    | (clear m1; refine wpList_alloc_v rfl 53 rfl _ zeroIt ?_; intro b2 w2 hb2 hw2 hB2 V2; have D2 : Hid (D0i w p a0 len cap b2 w2) := d0i_new HC.out hB2 hb2 V2)
    | (go_at_call 86; refine (name_from w2 w2 p a0 len cap D2.out.cur (World.grownBy.refl _ _)).mono ?_; rintro e w3 ⟨N, rfl, hN, hc3, hg3⟩; have D3 : Hid (D0i w p a0 len cap b2 w3) := D2.out.went hc3 hg3)
    | (clear m2; go_at_call 73; refine (below_from w3 w3 p a0 len cap _ (by omega) D3.out.cur (World.grownBy.refl _ _)).mono ?_; rintro e w4 ⟨F, rfl, hx0, hx1, hc4, hg4⟩; have D4 : Hid (D0i w p a0 len cap b2 w4) := D3.out.went hc4 hg4)
    | (go_at_call 142; refine (drawText_from w4 w4 p a0 len cap _ _ (by decide) (by decide) (by omega) (by omega) D4.out.cur (World.grownBy.refl _ _)).mono ?_; rintro e w5 ⟨B, rfl, hBs, hc5, hg5⟩; have D5 : Hid (D0i w p a0 len cap b2 w5) := D4.out.went hc5 hg5)
    | (clear m3; go_at_call 73; refine (below_from w5 w5 p a0 len cap _ (by omega) D5.out.cur (World.grownBy.refl _ _)).mono ?_; rintro e w6 ⟨c, rfl, hy0, hy1, hc6, hg6⟩; have D6 : Hid (D0i w p a0 len cap b2 w6) := D5.out.went hc6 hg6; obtain ⟨C, hC⟩ := hid_ex (1 + c); have hCw : IntKind.i64.wrap (1 + c) = C := (by rw [← hC.out, IntKind.wrap_i64]; omega))
    | (refine wpList_alloc_v rfl 53 rfl _ zeroIt ?_; intro b3 w7 hb3 hw3 hB7 V3; have D7 : Hid (D0i w p a0 len cap b2 w7) := D6.out.grow hB7)
    | (refine wpList_store_v rfl 53 _ _ rfl b3 [.string N, .int .i64 F, .string B, .int .i64 C, .int .i64 0] rfl rfl sizeIt V3 rfl (ic_one ⟨N, F, B, C, 0⟩) ?_; intro w8 hO8 V8; have D8 : Hid (Di w p a0 len cap b2 b3 N F B C 0 w8) := ⟨D7.out.hp, cur_below D7.out.cur (hO8.2.2 w6.heap.size hb3) D6.out.cur.1, gb_below D7.out.gb (hO8.2.2 w6.heap.size hb3) D6.out.gb.size, D7.out.lob, Nat.lt_of_lt_of_le D6.out.vb.lt hb3, D7.out.vb.of (hO8.2.1 b2 (Nat.ne_of_lt (Nat.lt_of_lt_of_le D6.out.vb.lt hb3))), V8, (by omega), (by omega)⟩)
    | (fail))
  clear D2 D3 D4 D5 D6 D7 hc3 hg3 hc4 hg4 hc5 hg5 hc6 hg6 V2 V3 V8 hO8
  have SB : Hid (B.size ≤ 4000) := Nat.le_trans hBs (by omega)
  clear hBs
  go_upto_if 15 with (first | (go_at_call 87; refine (once_from w8 w8 p a0 len cap _ (by omega) D8.out.cur (World.grownBy.refl _ _)).mono ?_; rintro e w9 ⟨x, rfl, hc9, hg9⟩; have D9 : Hid (Di w p a0 len cap b2 b3 N F B C 0 w9) := D8.out.went hc9 hg9) | (fail))
  go_cut [15] from 15 to 19 (fun u wc => ∃ B' : ByteArray, Hid (Di w p a0 len cap b2 b3 N F B' C 0 wc))
  case first =>
    cases x with
    | false =>
      go_wp2
      go_meet
      case rel => exact ⟨B, D9⟩
    | true =>
      go_wp2_with (first | (go_at_call 73; refine (below_from w9 w9 p a0 len cap _ (by omega) D9.out.cur (World.grownBy.refl _ _)).mono ?_; rintro e w10 ⟨k, rfl, hk0, hk1, hc10, hg10⟩; obtain ⟨kn, hkn⟩ : ∃ kn : Nat, k = kn := ⟨k.toNat, by omega⟩; subst hkn; have D10 := D9.out.went hc10 hg10) | (go_at_call 125; refine (l1Int_wide kn (by omega) _).mono ?_; rintro e w11 ⟨s, rfl, hs, hB11⟩; have D11 := D10.grow hB11; obtain ⟨c0, c1, c2, c3, c4⟩ := cells5 D11.vg; obtain ⟨f0, f1, f2, f3, f4⟩ := froz5 D11.vg) | (fail))
      go_meet
      case rel => exact ⟨s, D11.set 2 (.string s) rfl D11.sN hs⟩
  case rest =>
    obtain ⟨B', D10⟩ := hcut
    go_upto_if 21 with (first | (go_at_call 87; refine (once_from wc wc p a0 len cap _ (by omega) D10.out.cur (World.grownBy.refl _ _)).mono ?_; rintro e w11 ⟨y, rfl, hc11, hg11⟩; have D11 : Hid (Di w p a0 len cap b2 b3 N F B' C 0 w11) := D10.out.went hc11 hg11) | (fail))
    cases y with
    | false =>
      have V := D11.out.vg
      have V2 := D11.out.vb
      go_wp2_with (first | (refine wpList_load_r rfl 53 _ rfl b3 0 [.string N, .int .i64 F, .string B', .int .i64 C, .int .i64 0] rfl _ Try.underlying53 rfl sizeIt V.range ?_) | (refine wpList_store_v rfl 53 _ _ rfl b2 [.string N, .int .i64 F, .string B', .int .i64 C, .int .i64 0] rfl rfl sizeIt V2 rfl (ic_one ⟨N, F, B', C, 0⟩) ?_; intro w12 hO12 V12) | (fail))
      refine row_retv rfl rfl V12 Try.underlying53 sizeIt rfl ⟨_, _, _, _, _, rfl, ?_⟩
      exact D11.out.got hO12
    | true =>
      go_wp2_with (first | (go_at_call 73; refine (below_from w11 w11 p a0 len cap _ (by omega) D11.out.cur (World.grownBy.refl _ _)).mono ?_; rintro e w12 ⟨k, rfl, hk0, hk1, hc12, hg12⟩; have D12 := D11.out.went hc12 hg12; obtain ⟨c0, c1, c2, c3, c4⟩ := cells5 D12.vg; obtain ⟨f0, f1, f2, f3, f4⟩ := froz5 D12.vg; have D13 : Hid (Di w p a0 len cap b2 b3 N F B' C k (w12.setCell ⟨b3, 4, none⟩ (.int .i64 k))) := D12.set 4 (.int .i64 k) rfl D12.sN D12.sB) | (clear m4; refine wpList_load_r rfl 53 _ rfl b3 0 [.string N, .int .i64 F, .string B', .int .i64 C, .int .i64 k] rfl _ Try.underlying53 rfl sizeIt D13.out.vg.range ?_) | (refine wpList_store_v rfl 53 _ _ rfl b2 [.string N, .int .i64 F, .string B', .int .i64 C, .int .i64 k] rfl rfl sizeIt D13.out.vb rfl (ic_one ⟨N, F, B', C, k⟩) ?_; intro w14 hO14 V14) | (fail))
      refine row_retv rfl rfl V14 Try.underlying53 sizeIt rfl ⟨_, _, _, _, _, rfl, ?_⟩
      exact D13.out.got hO14
end Go.Proofs.Ytmnjmghlkiljhaa.rg
