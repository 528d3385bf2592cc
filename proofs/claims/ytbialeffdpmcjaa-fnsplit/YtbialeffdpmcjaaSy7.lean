/- Contracts: slices.Concat; the program's has and with: a key is looked for, a key is put in. -/
import Derived.Test.YtbialeffdpmcjaaSy5
import Derived.Test.YtbialeffdpmcjaaSy6
namespace Go.Proofs.Ytbialeffdpmcjaa.sx
open Go.ChangeShapes Go.WideShapes Go.ChangeAt Go.RowKit
open Go.Proofs.Ytbialeffdpmcjaa.ce
set_option linter.unusedVariables false

/-- a slice that begins somewhere, and what it holds -/
structure Sl where
  b : Nat
  off : Nat
  cap : Nat
  xs : List Int
def Sl.val (s : Sl) : Value := .slice (some ⟨s.b, s.off, none⟩) s.xs.length s.cap
def cat (ss : List Sl) : List Int := ss.flatMap Sl.xs
theorem cat_succ (ss : List Sl) (i : Nat) (h : i < ss.length) : cat (ss.take (i + 1)) = cat (ss.take i) ++ ss[i].xs := by
  unfold cat
  rw [List.take_succ_eq_append_getElem h, List.flatMap_append]
  simp
theorem cat_le (ss : List Sl) (i : Nat) : (cat (ss.take i)).length ≤ (cat ss).length := by
  have : cat ss = cat (ss.take i) ++ cat (ss.drop i) := by unfold cat; rw [← List.flatMap_append, List.take_append_drop]
  rw [this, List.length_append]; omega

set_option maxRecDepth 100000 in
set_option maxHeartbeats 2000000 in
theorem concat_any (ss : List Sl) (hl : ss.length ≤ 1000) (h1 : 1 ≤ (cat ss).length) (h2 : (cat ss).length ≤ 1000000) (B hi : Nat) (w : World) (hh : hi ≤ w.heap.size) (hV : VBlk w B 22 (ss.map Sl.val)) (r : ∀ s ∈ ss, RdS w hi s.val s.xs) :
    Calls Try.prog 89 #[.slice (some ⟨B, 0, none⟩) ss.length ss.length] w fun e w' => ∃ v', e = .returned v' ∧ OwnI w' w.heap.size w'.heap.size v' (cat ss) ∧ Below w.heap.size w w' := by
  have R : Hid (∀ s ∈ ss, RdS w hi s.val s.xs) := r
  have V : Hid (VBlk w B 22 (ss.map Sl.val)) := hV
  have hBl := hV.lt
  have hcell : Hid (∀ (i : Nat) (h : i < ss.length), w.cell? ⟨B, i, none⟩ = some ss[i].val) := fun i h => by
    have := hV.cell i (by simpa using h)
    simpa using this
  clear r hV
  go_enter Try.func89, Try.ntmps89
  go_wp2
  go_loop [3, 11] (fun q p => ∃ i : Nat, p = .int .i64 i ∧ i ≤ ss.length ∧ q = .int .i64 ((cat (ss.take i)).length : Nat)) (fun _ p => ss.length + 1 - (intOf p).toNat)
  case atStart => exact ⟨0, rfl, Nat.zero_le _, rfl⟩
  case round =>
    obtain ⟨i, rfl, hi1, rfl⟩ := hrel
    have hle := cat_le ss i
    by_cases hlt : i < ss.length
    · have hlt' : (i : Int) < (ss.length : Int) := by omega
      have d1 := hcell.out i hlt
      have e1 := cat_succ ss i hlt
      have hle1 := cat_le ss (i + 1)
      have e2 : Hid ((cat (ss.take (i + 1))).length = (cat (ss.take i)).length + ss[i].xs.length) := by unfold Hid; rw [e1, List.length_append]
      rw [e2.out] at hle1
      obtain ⟨s, hs⟩ := hid_ex (ss[i])
      rw [hs.out] at d1 e2 hle1
      obtain ⟨b, off, c, xs⟩ := s
      simp only [Sl.val] at d1
      have e2' := e2.out
      simp only at hle1 e2'
      obtain ⟨m, hm⟩ := hid_ex (xs.length)
      rw [hm.out] at d1 hle1 e2'
      obtain ⟨S, hS⟩ := hid_ex ((cat (ss.take i)).length)
      rw [hS.out] at hle1 hle e2' ⊢
      have E2 : Hid ((cat (ss.take (i + 1))).length = S + m) := e2'
      clear e1 e2'
      have hneg : ¬ ((S : Int) + (m : Int) < 0) := by omega
      go_wp2
      go_round
      case rel => exact ⟨i + 1, by go_num, by omega, by rw [E2.out]; go_num⟩
      case measure => simp [intOf]; omega
    · have ei : i = ss.length := by omega
      have et : Hid ((cat (ss.take i)).length = (cat ss).length) := by unfold Hid; rw [ei, List.take_length]
      rw [et.out]
      obtain ⟨T, hT⟩ := hid_ex ((cat ss).length)
      rw [hT.out] at h1 h2 hle ⊢
      clear hle et
      have hlt' : ¬ (i : Int) < (ss.length : Int) := by omega
      go_wp2_with (first | (go_at_call 96; refine (grow_any T h1 (by omega) _).mono ?_; rintro er w1 ⟨v1, rfl, o1, hB1⟩) | (fail))
      go_loopw [6, 27] (fun v p wr => ∃ j : Nat, p = .int .i64 j ∧ j ≤ ss.length ∧ Hid (OwnI wr w.heap.size wr.heap.size v (cat (ss.take j))) ∧ Below w.heap.size w wr) (fun _ p _ => ss.length + 1 - (intOf p).toNat)
      case atStart => exact ⟨0, rfl, Nat.zero_le _, o1, hB1⟩
      case round =>
        obtain ⟨j, rfl, hj1, ho, hBr⟩ := hrel
        have hzr := hBr.size
        by_cases hlt : j < ss.length
        · have hlt' : (j : Int) < (ss.length : Int) := by omega
          have d1 := hcell.out j hlt
          rw [← hBr.cell (p := ⟨B, j, none⟩) hBl] at d1
          have e1 : Hid (cat (ss.take (j + 1)) = cat (ss.take j) ++ ss[j].xs) := cat_succ ss j hlt
          have hle1 := cat_le ss (j + 1)
          rw [e1.out, List.length_append, hT.out] at hle1
          have rj := (R.out ss[j] (List.getElem_mem hlt)).below hBr hh
          obtain ⟨s, hs⟩ := hid_ex (ss[j])
          rw [hs.out] at d1 e1 hle1 rj
          obtain ⟨b, off, c, xs⟩ := s
          simp only [Sl.val] at d1 rj
          obtain ⟨q1, q2, -⟩ := rj.range
          obtain ⟨ao, no, ko, rfl⟩ := own_slice ho.out
          go_wp2_with (first | (at_builtin; refine wpList_append_i rfl _ _ 22 rfl Try.underlying22 w.heap.size _ _ (cat (ss.take j)) rfl ho.out hzr b off xs.length c xs rfl rfl q1 (by simp only at hle1; omega) ?_; intro v2 w2 o2 hB2; have O2 : Hid (OwnI w2 w.heap.size w2.heap.size v2 (cat (ss.take (j + 1)))) := (by unfold Hid; rw [e1.out]; exact o2)) | (fail))
          go_roundw
          case rel => exact ⟨j + 1, by go_num, by omega, O2, hBr.trans hB2⟩
          case measure => simp [intOf]; omega
        · have ej : j = ss.length := by omega
          have ho2 : OwnI wr w.heap.size wr.heap.size u6 (cat ss) := by
            have := ho.out
            rw [ej, List.take_length] at this
            exact this
          have hlt' : ¬ (j : Int) < (ss.length : Int) := by omega
          clear ho
          go_wp2
          go_ret
          exact ⟨_, rfl, ho2, hBr⟩
end Go.Proofs.Ytbialeffdpmcjaa.sx
