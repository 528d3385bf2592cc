/- slices.BinarySearchFunc with the closure of withItem. -/
import Derived.Test.YtekladbkhplchaaSn3
import Derived.Test.YtekladbkhplchaaBx0
import Derived.Lib.SmallJoins
import Derived.Deep.Slices
namespace Go.Proofs.Ytekladbkhplchaa.rg
open Go.ChangeShapes Go.WideShapes Go.ChangeAt Go.RowKit
open Go.Deep Go.Joins
open Go.Proofs.Ytekladbkhplchaa.ce Go.Proofs.Ytekladbkhplchaa.ro
set_option linter.unusedVariables false

theorem cmp_ltS (a b : ByteArray) : cmpS a b < 0 ↔ ltS a b = true := by
  unfold cmpS ltS
  rw [cmp_less, ByteArray.toList_eq, ByteArray.toList_eq]
theorem lt_trans' {I : List It} (h : Srt I) {s : ByteArray} {i j : Nat} (hi : i < I.length) (hj : j < I.length) (hij : i ≤ j) (hl : ltS I[j].N s = true) : ltS I[i].N s = true := by
  by_cases e : i = j
  · subst e; exact hl
  · exact ltS_trans (List.pairwise_iff_getElem.1 h i j hi hj (by omega)) hl
set_option maxRecDepth 100000 in
set_option maxHeartbeats 4000000 in
theorem bsf_any (I : List It) (s : ByteArray) (v : Value) (w : World) (r : Rd encIt w v I) (hS : Srt I) (hl : I.length ≤ 1048576) :
    Calls Try.prog 65 #[v, .string s, .func (.func 66) #[] #[]] w fun e w' => ∃ (k : Nat) (y : Bool), e = .returned (.tuple #[.int .i64 k, .bool y]) ∧ k ≤ I.length ∧ (∀ t (h : t < I.length), t < k → ltS I[t].N s = true) ∧ (∀ t (h : t < I.length), k ≤ t → ltS I[t].N s = false) ∧ Below w.heap.size w w' := by
  obtain ⟨a, cap, rfl⟩ := r.form
  have R : Hid (Rd encIt w (.slice a I.length cap) I) := r
  have HS : Hid (Srt I) := hS
  clear r hS
  have hcf : ∀ args w, (callFunc 66 args).run Try.prog w = .ok (.enter 66 args) w := by intro args w; kernel_rfl
  go_enter Try.func65, Try.ntmps65
  go_wp2
  go_loopg [9, 10] I.length (fun g s7 s8 wr => ∃ lo hi : Nat, s7 = .int .i64 lo ∧ s8 = .int .i64 hi ∧ lo ≤ hi ∧ hi ≤ I.length ∧ hi - lo ≤ g ∧ Hid (Below w.heap.size w wr) ∧ Hid (∀ t (h : t < I.length), t < lo → ltS I[t].N s = true) ∧ Hid (∀ t (h : t < I.length), hi ≤ t → ltS I[t].N s = false))
  case atStart => exact ⟨0, I.length, rfl, rfl, Nat.zero_le _, Nat.le_refl _, by omega, Below.refl _ _, fun t h ht => absurd ht (Nat.not_lt_zero _), fun t h h1 => absurd h (by omega)⟩
  case round =>
    obtain ⟨lo, hi', rfl, rfl, hlh, hin, hg, hBr, h1, h2⟩ := hrel
    by_cases hlt : lo < hi'
    · obtain ⟨m, hm⟩ : ∃ m, m = (lo + hi') / 2 := ⟨_, rfl⟩
      have em : ((lo : Int) + (hi' : Int)) / 2 = (m : Int) := by omega
      have hml : m < I.length := by omega
      have hm1 : lo ≤ m := by omega
      have hm2 : m < hi' := by omega
      clear hm
      obtain ⟨b, off, eA, hbk, rg⟩ := rd_item rfl rfl (R.out.grow hBr.out) m hml
      subst eA
      by_cases hyx : ltS I[m].N s = true
      · have n1 : Hid (∀ t (h : t < I.length), t < m + 1 → ltS I[t].N s = true) := fun t h ht => lt_trans' HS.out h hml (by omega) hyx
        obtain ⟨x, hx⟩ := hid_ex (I[m])
        rw [hx.out] at rg hyx
        obtain ⟨N, F, B, C, U⟩ := x
        have hc0 : cmpS N s < 0 := (cmp_ltS N s).2 hyx
        obtain ⟨c, hc⟩ := hid_ex (cmpS N s)
        rw [hc.out] at hc0
        clear hyx
        go_wp2_with (first | (refine wpList_load_r rfl 35 _ rfl b (off + m * 5) [.string N, .int .i64 F, .string B, .int .i64 C, .int .i64 U] rfl _ Try.underlying35 rfl sizeIt rg ?_) | (go_at_call 66; refine (wi1_any N B s F C U _).mono ?_; rintro e w3 ⟨rfl, hB3⟩; rw [hc.out]) | (fail))
        go_roundg (hi' - (m + 1))
        case measure => omega
        case rel => exact ⟨m + 1, hi', by go_num, rfl, by omega, hin, Nat.le_refl _, hBr.out.trans (hB3.mono hBr.out.size), n1, h2⟩
      · have n2 : Hid (∀ t (h : t < I.length), m ≤ t → ltS I[t].N s = false) := fun t h ht => by
          cases q : ltS I[t].N s with
          | false => rfl
          | true => exact absurd (lt_trans' HS.out hml h ht q) hyx
        obtain ⟨x, hx⟩ := hid_ex (I[m])
        rw [hx.out] at rg hyx
        obtain ⟨N, F, B, C, U⟩ := x
        have hc0 : ¬ cmpS N s < 0 := fun q => hyx ((cmp_ltS N s).1 q)
        obtain ⟨c, hc⟩ := hid_ex (cmpS N s)
        rw [hc.out] at hc0
        clear hyx
        go_wp2_with (first | (refine wpList_load_r rfl 35 _ rfl b (off + m * 5) [.string N, .int .i64 F, .string B, .int .i64 C, .int .i64 U] rfl _ Try.underlying35 rfl sizeIt rg ?_) | (go_at_call 66; refine (wi1_any N B s F C U _).mono ?_; rintro e w3 ⟨rfl, hB3⟩; rw [hc.out]) | (fail))
        go_roundg (m - lo)
        case measure => omega
        case rel => exact ⟨lo, m, rfl, rfl, by omega, by omega, Nat.le_refl _, hBr.out.trans (hB3.mono hBr.out.size), h1, n2⟩
    · obtain rfl : hi' = lo := by omega
      by_cases hn : hi' < I.length
      · obtain ⟨m, hm⟩ : ∃ m, Hid (m = hi') := ⟨_, rfl⟩
        have hn' : (hi' : Int) < (I.length : Int) := by omega
        obtain ⟨b, off, eA, hbk, rg⟩ := rd_item rfl rfl (R.out.grow hBr.out) hi' hn
        subst eA
        obtain ⟨x, hx⟩ := hid_ex (I[hi'])
        rw [hx.out] at rg
        obtain ⟨N, F, B, C, U⟩ := x
        obtain ⟨c, hc⟩ := hid_ex (cmpS N s)
        have e5 := rng5 rg
        obtain ⟨d0, d1, d2, d3, d4⟩ := e5
        go_wp2_with (first | (refine wpList_load_r rfl 35 _ rfl b (off + hi' * 5) [.string N, .int .i64 F, .string B, .int .i64 C, .int .i64 U] rfl _ Try.underlying35 rfl sizeIt rg ?_) | (go_at_call 66; refine (wi1_any N B s F C U _).mono ?_; rintro e w3 ⟨rfl, hB3⟩; rw [hc.out]) | (fail))
        go_ret2
        exact ⟨hi', _, rfl, hin, h1.out, h2.out, hBr.out.trans (hB3.mono hBr.out.size)⟩
      · have hn' : ¬ (hi' : Int) < (I.length : Int) := by omega
        go_wp2
        go_ret2
        first | exact ⟨hi', _, rfl, hin, h1.out, h2.out, hBr.out⟩ | exact ⟨hi', Or.inl rfl, hin, h1.out, h2.out, hBr.out⟩
end Go.Proofs.Ytekladbkhplchaa.rg
