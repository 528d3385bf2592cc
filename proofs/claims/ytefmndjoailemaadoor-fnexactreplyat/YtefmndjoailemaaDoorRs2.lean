/- Contracts of the laws' marks on rows of texts and of truths. -/
import Derived.Test.YtefmndjoailemaaDoorRs1
namespace Go.Proofs.YtefmndjoailemaaDoor.rg
open Go.ChangeShapes Go.WideShapes Go.ChangeAt Go.RowKit
open Go.Proofs.YtefmndjoailemaaDoor.ce Go.Proofs.YtefmndjoailemaaDoor.ro
set_option linter.unusedVariables false

theorem own_ty {α : Type} {E : Enc α} {w : World} {lo hi g n cap : Nat} {xs : List α} (o : Own E w lo hi (.slice (some ⟨g, 0, none⟩) n cap) xs) (h : 1 ≤ xs.length) (j : Nat) (x : Value) : Ty lo E.t w (w.setCell ⟨g, j, none⟩ x) := by
  rcases o.row with ⟨rfl, -⟩ | ⟨g2, cap2, cur, e2, hg, hb, -⟩
  · simp at h
  · cases e2
    exact ⟨(only_set w g j x).2.2 _ hg.1, fun k cur' t' f hk hn => (only_set w g j x).2.1 k fun e => by
      rw [e, hb] at hk
      simp at hk
      exact hn hk.2.1.symm⟩
theorem own_lo {α : Type} {E : Enc α} {w : World} {lo hi n cap : Nat} {a : Option Addr} {xs : List α} (o : Own E w lo hi (.slice a n cap) xs) (h : 1 ≤ xs.length) : lo ≤ w.heap.size := by
  obtain ⟨g, c, e, h1, h2, h3⟩ := o.form h
  omega
def dig (d : Nat) : ByteArray := ⟨#[UInt8.ofNat (48 + d)]⟩
/-- what markText tells -/
def mgo : Nat → Nat → ByteArray → ByteArray
  | 0, _, out => ⟨#[109]⟩ ++ out
  | f + 1, k, out => if k = 0 then ⟨#[109]⟩ ++ out else mgo f (k / 10) (dig (k % 10) ++ out)
theorem mgo_zero (f : Nat) (out : ByteArray) : mgo f 0 out = ⟨#[109]⟩ ++ out := by cases f <;> simp [mgo]
theorem mgo_step {f k : Nat} (h : 0 < k) (out : ByteArray) : mgo (f + 1) k out = mgo f (k / 10) (dig (k % 10) ++ out) := by
  simp only [mgo]
  rw [if_neg (by omega)]
def mtx (k : Nat) : ByteArray := mgo k k ⟨#[]⟩
theorem dig_conv (d : Nat) (h1 : d ≤ 9) (w : World) : (convert 68 9 (Value.slice (some { block := w.heap.size, off := 0 }) 1 1)).run Tryd.prog (w.alloc (Obj.cells #[Value.int IntKind.u8 (48 + (d : Int))] 5)) = .ok (.string (dig d)) (w.alloc (Obj.cells #[Value.int IntKind.u8 (48 + (d : Int))] 5)) :=
  run_convert_bytes_back (P := Tryd.prog) (w.alloc (Obj.cells #[Value.int IntKind.u8 (48 + (d : Int))] 5)) 68 9 5 ⟨w.heap.size, 0, none⟩ 1 [UInt8.ofNat (48 + d)] Tryd.underlying68 Tryd.underlying5 Tryd.underlying9 (fun j hj => by
    have hj0 : j = 0 := by simpa using hj
    subst hj0
    have e : (((UInt8.ofNat (48 + d)).toNat : Nat) : Int) = 48 + d := by
      rw [UInt8.toNat_ofNat']; omega
    simp only [List.getElem_cons_zero, e]
    show (w.alloc _).cell? ⟨w.heap.size, 0, none⟩ = _
    rw [cell_of_row _ _ 0 _ _ _ (heap_alloc_new w _)]; rfl)

theorem markText_any (k : Nat) (h0 : 1 ≤ k) (h1 : k ≤ 16777216) (w : World) :
    Calls Tryd.prog 24 #[.int .i64 k] w fun e w' => e = .returned (.string (mtx k)) ∧ Below w.heap.size w w' := by
  obtain ⟨C, hC⟩ := hid_ex (mtx k)
  rw [hC.out]
  have hk0 : ¬ (k : Int) ≤ 0 := by omega
  go_enter Tryd.func24, Tryd.ntmps24
  go_wp2
  go_loopw [0, 3] (fun v s wr => ∃ (q f : Nat) (out : ByteArray), v = .int .i64 q ∧ s = .string out ∧ q ≤ 16777216 ∧ Hid (q ≤ f) ∧ Hid (mgo f q out = C) ∧ out.size + q ≤ 16777216 ∧ Below w.heap.size w wr) (fun v _ _ => (intOf v).toNat)
  case atStart => exact ⟨k, k, ⟨#[]⟩, rfl, rfl, h1, Nat.le_refl _, hC, by show 0 + k ≤ 16777216; omega, Below.refl _ _⟩
  case round =>
    obtain ⟨q, f, out, rfl, rfl, hq1, hqf, hM, hsz, hB⟩ := hrel
    by_cases hq : 0 < q
    · have hq' : (0 : Int) < (q : Int) := by omega
      obtain ⟨f', rfl⟩ : ∃ f', f = f' + 1 := ⟨f - 1, by have := hqf.out; omega⟩
      have hM2 : Hid (mgo f' (q / 10) (dig (q % 10) ++ out) = C) := by unfold Hid; rw [← hM.out, mgo_step hq]
      have hqf2 : Hid (q / 10 ≤ f') := by have := hqf.out; unfold Hid; omega
      obtain ⟨d, hd⟩ := hid_ex (q % 10)
      have hd9 : d ≤ 9 := by have := hd.out; omega
      rw [hd.out] at hM2
      have hcv := dig_conv d hd9 wr
      have hds : (dig d).size = 1 := rfl
      have hmod : (q : Int) % 10 = (d : Int) := by have := hd.out; omega
      obtain ⟨q2, hq2⟩ := hid_ex (q / 10)
      rw [hq2.out] at hM2 hqf2
      have hq3 : q2 < q := by have := hq2.out; omega
      have hdiv : (q : Int) / 10 = (q2 : Int) := by have := hq2.out; omega
      have hout : (dig d ++ out).size = 1 + out.size := by rw [ByteArray.size_append]; rfl
      go_wp2
      go_roundw
      case rel => exact ⟨q2, f', dig d ++ out, rfl, rfl, by omega, hqf2, hM2, by omega, hB.alloc hB.size _⟩
      case measure => simp [intOf]; omega
    · have hq' : ¬ (0 : Int) < (q : Int) := by omega
      have eq0 : q = 0 := by omega
      have hM3 := hM.out
      rw [eq0, mgo_zero] at hM3
      subst hM3
      go_wp2
      go_ret
      exact ⟨rfl, hB⟩

def smarks (k n : Nat) : List ByteArray := (List.range n).map fun j => mtx (k + j)
theorem smarks_len (k n : Nat) : (smarks k n).length = n := by simp [smarks]
theorem smarks_succ (k n : Nat) : smarks k (n + 1) = smarks k n ++ [mtx (k + n)] := by simp [smarks, List.range_succ]
theorem smarks_get (k n i : Nat) (h : i < (smarks k n).length) : (smarks k n)[i] = mtx (k + i) := by simp [smarks]
def bmarks (k n : Nat) : List Bool := (List.range n).map fun j => ((((k + j : Nat) : Int) % 3) == 0)
theorem bmarks_len (k n : Nat) : (bmarks k n).length = n := by simp [bmarks]
theorem bmarks_succ (k n : Nat) : bmarks k (n + 1) = bmarks k n ++ [((((k + n : Nat) : Int) % 3) == 0)] := by simp [bmarks, List.range_succ]
theorem bmarks_get (k n i : Nat) (h : i < (bmarks k n).length) : (bmarks k n)[i] = ((((k + i : Nat) : Int) % 3) == 0) := by simp [bmarks]
end Go.Proofs.YtefmndjoailemaaDoor.rg
