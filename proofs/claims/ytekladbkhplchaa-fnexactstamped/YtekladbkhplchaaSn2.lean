/- The closure that withoutItem hands on; IndexFunc with it. -/
import Derived.Test.YtekladbkhplchaaSn1
import Derived.Test.YtekladbkhplchaaIo2
import Derived.Test.YtekladbkhplchaaIo3
import Derived.Lib.SmallJoins
import Derived.Deep.Slices
import Derived.Deep.RegionHeld3
import Derived.BigQuiet
namespace Go.Proofs.Ytekladbkhplchaa.rg
open Go.ChangeShapes Go.WideShapes Go.ChangeAt Go.RowKit
open Go.Deep Go.Joins
open Go.Proofs.Ytekladbkhplchaa.ce Go.Proofs.Ytekladbkhplchaa.ro
set_option linter.unusedVariables false

set_option maxRecDepth 100000 in
theorem wo1_any (N B s : ByteArray) (F C U : Int) (bs : Nat) (y : Bool) (hy : Hid ((N.toList == s.toList) = y)) (w : World) (V : VBlk w bs 9 [.string s]) :
    Calls Try.prog 82 #[.agg #[.string N, .int .i64 F, .string B, .int .i64 C, .int .i64 U], .pointer (some ⟨bs, 0, none⟩)] w fun e w' => e = .returned (.bool y) ∧ Below w.heap.size w w' := by
  have hfd := field_thing N B F C U
  go_enter Try.func82, Try.ntmps82
  go_upto_region 1 with (first | (refine wpList_box_v rfl 35 _ rfl [.string N, .int .i64 F, .string B, .int .i64 C, .int .i64 U] rfl ?_; intro b2 w1 hb2 hw2 hB1 V1; have hz1 := hB1.size) | (fail))
  have Vs := vblk_grow V hB1
  clear V
  have S1 : w1.drew.cell? ⟨bs, 0, none⟩ = some (.string s) ∧ w1.drew.cell? ⟨b2, 0, none⟩ = some (.string N) ∧ w1.drew.cell? ⟨b2, 1, none⟩ = some (.int .i64 F) ∧ w1.drew.cell? ⟨b2, 2, none⟩ = some (.string B) ∧ w1.drew.cell? ⟨b2, 3, none⟩ = some (.int .i64 C) ∧ w1.drew.cell? ⟨b2, 4, none⟩ = some (.int .i64 U) := ⟨Vs.cell 0 (by simp), cells5 (w := w1.drew) V1⟩
  go_region_held3 (fun w' => w'.cell? ⟨bs, 0, none⟩ = some (.string s) ∧ w'.cell? ⟨b2, 0, none⟩ = some (.string N) ∧ w'.cell? ⟨b2, 1, none⟩ = some (.int .i64 F) ∧ w'.cell? ⟨b2, 2, none⟩ = some (.string B) ∧ w'.cell? ⟨b2, 3, none⟩ = some (.int .i64 C) ∧ w'.cell? ⟨b2, 4, none⟩ = some (.int .i64 U)) (first | with_reducible assumption | with_reducible exact S1 | (fail)) (first | (go_at_call 77; refine (thingOf_any N B F C U _).mono ?_; rintro e w3 ⟨rfl, hB3⟩; have S3 : w3.cell? ⟨bs, 0, none⟩ = some (.string s) ∧ w3.cell? ⟨b2, 0, none⟩ = some (.string N) ∧ w3.cell? ⟨b2, 1, none⟩ = some (.int .i64 F) ∧ w3.cell? ⟨b2, 2, none⟩ = some (.string B) ∧ w3.cell? ⟨b2, 3, none⟩ = some (.int .i64 C) ∧ w3.cell? ⟨b2, 4, none⟩ = some (.int .i64 U) := ⟨(vblk_grow Vs ((Below.refl _ _).drew.trans hB3)).cell 0 (by simp), cells5 (vblk_grow V1 ((Below.refl _ _).drew.trans hB3))⟩) | (go_at_call 83; refine (goesBy_any N s y hy.out _).mono ?_; rintro e wq ⟨rfl, hq⟩; subst wq) | (fail))
  go_wp2
  go_ret
  exact ⟨rfl, hB1.trans (((Below.refl _ _).drew.trans hB3).mono hz1)⟩
theorem mkf : ∀ (fn : Fn) (first cap : Array Value) (w : World), (Instr.makeFunc fn first cap).run Try.prog w = .ok (.func fn first cap) w := fun _ _ _ _ => rfl
/-- the first place that goes by the name -/
def idx (s : ByteArray) : List It → Nat
  | [] => 0
  | x :: r => if x.N = s then 0 else idx s r + 1
theorem idx_le (s : ByteArray) (l : List It) : idx s l ≤ l.length := by
  induction l with
  | nil => exact Nat.le_refl _
  | cons x r ih => unfold idx; split <;> simp <;> omega
theorem idx_at {s : ByteArray} {l : List It} {i : Nat} (hi : i < l.length) (h : ∀ j (h : j < l.length), j < i → l[j].N ≠ s) (he : l[i].N = s) : idx s l = i := by
  induction l generalizing i with
  | nil => simp at hi
  | cons x r ih =>
    cases i with
    | zero => unfold idx; rw [if_pos (by simpa using he)]
    | succ k =>
      have h0 := h 0 (by simp) (by omega)
      unfold idx
      rw [if_neg (by simpa using h0), ih (by simpa using hi) (fun j hj hk => h (j + 1) (by simp; omega) (by omega)) (by simpa using he)]
theorem idx_no {s : ByteArray} {l : List It} (h : ∀ j (h : j < l.length), l[j].N ≠ s) : idx s l = l.length := by
  induction l with
  | nil => rfl
  | cons x r ih =>
    have h0 := h 0 (by simp)
    unfold idx
    rw [if_neg (by simpa using h0), ih (fun j hj => h (j + 1) (by simp; omega)), List.length_cons]
set_option maxRecDepth 100000 in
set_option maxHeartbeats 2000000 in
theorem index_any (I : List It) (s : ByteArray) (bs : Nat) (v : Value) (w : World) (r : Rd encIt w v I) (V : VBlk w bs 9 [.string s]) (hl : I.length ≤ 1048576) :
    Calls Try.prog 92 #[v, .func (.func 82) #[] #[.pointer (some ⟨bs, 0, none⟩)]] w fun e w' => e = .returned (.int .i64 (if idx s I < I.length then (idx s I : Int) else -1)) ∧ Below w.heap.size w w' := by
  obtain ⟨a, cap, rfl⟩ := r.form
  have R : Hid (Rd encIt w (.slice a I.length cap) I) := r
  have VV : Hid (VBlk w bs 9 [.string s]) := V
  clear r V
  obtain ⟨z, hz⟩ := hid_ex (if idx s I < I.length then (idx s I : Int) else -1)
  rw [hz.out]
  have hcf : ∀ args w, (callFunc 82 args).run Try.prog w = .ok (.enter 82 args) w := by intro args w; kernel_rfl
  go_enter Try.func92, Try.ntmps92
  go_wp2
  go_loopw [8, 5] (fun p u wr => ∃ i : Nat, i ≤ I.length ∧ p = .int .i64 i ∧ Hid (∀ j (h : j < I.length), j < i → I[j].N ≠ s) ∧ Hid (Below w.heap.size w wr)) (fun p _ _ => I.length - (intOf p).toNat)
  case atStart => exact ⟨0, by omega, rfl, (fun j h hj => by omega), Below.refl _ _⟩
  case round =>
    obtain ⟨i, hi1, rfl, hno, hBr⟩ := hrel
    by_cases hlt : i < I.length
    · obtain ⟨b, off, eA, hbk, rg⟩ := rd_item rfl rfl (R.out.grow hBr.out) i hlt
      subst eA
      have hlt' : (i : Int) < (I.length : Int) := by omega
      have Vr := vblk_grow VV.out hBr.out
      by_cases he : I[i].N = s
      · have ez : z = (i : Int) := by rw [← hz.out, idx_at hlt hno.out he, if_pos hlt]
        subst ez
        obtain ⟨x, hx⟩ := hid_ex (I[i])
        rw [hx.out] at rg he
        obtain ⟨N, F, B, C, U⟩ := x
        have hY : Hid ((N.toList == s.toList) = true) := by unfold Hid; dsimp only at he; rw [he]; simp
        clear he
        go_wp2_with (first | (refine wpList_load_r rfl 35 _ rfl b (off + i * 5) [.string N, .int .i64 F, .string B, .int .i64 C, .int .i64 U] rfl _ Try.underlying35 rfl sizeIt rg ?_) | (go_at_call 82; refine (wo1_any N B s F C U bs true hY _ Vr).mono ?_; rintro e w3 ⟨rfl, hB3⟩) | (fail))
        go_ret
        exact ⟨rfl, hBr.out.trans (hB3.mono hBr.out.size)⟩
      · have hno2 : Hid (∀ j (h : j < I.length), j < i + 1 → I[j].N ≠ s) := fun j h hj => by
          by_cases q : j = i
          · subst q; exact he
          · exact hno.out j h (by omega)
        obtain ⟨x, hx⟩ := hid_ex (I[i])
        rw [hx.out] at rg he
        obtain ⟨N, F, B, C, U⟩ := x
        have hY : Hid ((N.toList == s.toList) = false) := by unfold Hid; dsimp only at he; simpa using fun e => he (str_eq e)
        clear he
        go_wp2_with (first | (refine wpList_load_r rfl 35 _ rfl b (off + i * 5) [.string N, .int .i64 F, .string B, .int .i64 C, .int .i64 U] rfl _ Try.underlying35 rfl sizeIt rg ?_) | (go_at_call 82; refine (wo1_any N B s F C U bs false hY _ Vr).mono ?_; rintro e w3 ⟨rfl, hB3⟩) | (fail))
        go_roundw
        case rel => exact ⟨i + 1, by omega, by go_num, hno2, hBr.out.trans (hB3.mono hBr.out.size)⟩
        case measure => simp [intOf]; omega
    · have hlt' : ¬ (i : Int) < (I.length : Int) := by omega
      have ez : z = -1 := by rw [← hz.out, idx_no (fun j h => hno.out j h (by omega)), if_neg (Nat.lt_irrefl _)]
      subst ez
      go_wp2
      go_ret
      exact ⟨rfl, hBr.out⟩
end Go.Proofs.Ytekladbkhplchaa.rg
