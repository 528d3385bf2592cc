/- Things in memory, one or a row of them; contracts of the model's answers on one thing. -/
import Derived.Test.YtmnjmghlkiljhaaRo2
import Derived.Test.YtmnjmghlkiljhaaIx0
import Derived.BigQuiet
namespace Go.Proofs.Ytmnjmghlkiljhaa.rg
open Go.ChangeShapes Go.WideShapes Go.ChangeAt Go.RowKit
open Go.Proofs.Ytmnjmghlkiljhaa.ce Go.Proofs.Ytmnjmghlkiljhaa.ro
set_option linter.unusedVariables false

/-- the cells of a thing -/
def ic (i : It) : List Value := [.string i.N, .int .i64 i.F, .string i.B, .int .i64 i.C, .int .i64 i.U]
theorem ic_one (i : It) : ∀ v ∈ ic i, v.oneCell' = true := by
  intro v hv
  simp only [ic, List.mem_cons, List.not_mem_nil, or_false] at hv
  rcases hv with rfl | rfl | rfl | rfl | rfl <;> rfl
def encIt : Enc It := ⟨ic, 5, 53, fun _ => rfl, ic_one, by decide⟩
def encLi : Enc It := ⟨ic, 5, 110, fun _ => rfl, ic_one, by decide⟩
theorem infoIt : Info encIt := by
  have h : (Try.prog.info? 53).map (fun i => (i.zero, i.size, i.bytes)) = some (some (.agg #[.string ⟨#[]⟩, .int .i64 0, .string ⟨#[]⟩, .int .i64 0, .int .i64 0]), 5, 56) := by kernel_rfl
  obtain ⟨i, hi, hz⟩ := Option.map_eq_some_iff.1 h
  simp only [Prod.mk.injEq] at hz
  exact ⟨i, _, hi, hz.1, hz.2.1, by omega, rfl⟩
theorem sizeIt : (Try.prog.info? 53).map (·.size) = some 5 := by kernel_rfl
theorem sizeLi : (Try.prog.info? 110).map (·.size) = some 5 := by kernel_rfl
theorem zeroIt (w : World) : (zeroValue 53).run Try.prog w = .ok (.agg [Value.string ⟨#[]⟩, .int .i64 0, .string ⟨#[]⟩, .int .i64 0, .int .i64 0].toArray) w := Try.zeroValue53 w

/-- a thing lies in a block of its own: its five cells -/
theorem cells5 {w : World} {b : Nat} {t : TypeId} {v0 v1 v2 v3 v4 : Value} (h : VBlk w b t [v0, v1, v2, v3, v4]) :
    w.cell? ⟨b, 0, none⟩ = some v0 ∧ w.cell? ⟨b, 1, none⟩ = some v1 ∧ w.cell? ⟨b, 2, none⟩ = some v2 ∧ w.cell? ⟨b, 3, none⟩ = some v3 ∧ w.cell? ⟨b, 4, none⟩ = some v4 :=
  ⟨h.cell 0 (by simp), h.cell 1 (by simp), h.cell 2 (by simp), h.cell 3 (by simp), h.cell 4 (by simp)⟩
theorem froz5 {w : World} {b : Nat} {t : TypeId} {vs : List Value} (h : VBlk w b t vs) :
    w.frozen? ⟨b, 0, none⟩ = false ∧ w.frozen? ⟨b, 1, none⟩ = false ∧ w.frozen? ⟨b, 2, none⟩ = false ∧ w.frozen? ⟨b, 3, none⟩ = false ∧ w.frozen? ⟨b, 4, none⟩ = false :=
  ⟨h.frozen _, h.frozen _, h.frozen _, h.frozen _, h.frozen _⟩
/-- the thing at the place i of a row -/
theorem rd_item {E : Enc It} (hp : E.put = ic) (hk : E.k = 5) {w : World} {n cap : Nat} {a : Option Addr} {xs : List It} (r : Rd E w (.slice a n cap) xs) (i : Nat) (hi : i < xs.length) :
    ∃ b off, a = some ⟨b, off, none⟩ ∧ b < w.heap.size ∧ w.rangeAt b (off + i * 5) (ic xs[i]) := by
  obtain ⟨b, off, e, h1, h2⟩ := r.start (by omega)
  refine ⟨b, off, e, h1, fun j v hv => ?_⟩
  have hj : j < 5 := (List.getElem?_eq_some_iff.1 hv).1
  have := E.row_get xs i j hi (by rw [hk]; exact hj)
  rw [hk, hp, hv] at this
  have := h2 _ _ this
  rw [Nat.add_assoc]
  exact this
theorem rng5 {w : World} {b k : Nat} {v0 v1 v2 v3 v4 : Value} (h : w.rangeAt b k [v0, v1, v2, v3, v4]) :
    w.cell? ⟨b, k, none⟩ = some v0 ∧ w.cell? ⟨b, k + 1, none⟩ = some v1 ∧ w.cell? ⟨b, k + 2, none⟩ = some v2 ∧ w.cell? ⟨b, k + 3, none⟩ = some v3 ∧ w.cell? ⟨b, k + 4, none⟩ = some v4 :=
  ⟨h 0 _ rfl, h 1 _ rfl, h 2 _ rfl, h 3 _ rfl, h 4 _ rfl⟩

set_option maxHeartbeats 4000000 in
theorem specItemOk_any (N B : ByteArray) (F C U : Int) (y : Bool) (hy : Hid (itemB ⟨N, F, B, C, U⟩ = y)) (hN : N.size ≤ 9223372036854775807) (hB : B.size ≤ 9223372036854775807) (w : World) :
    Calls Try.prog 81 #[.agg #[.string N, .int .i64 F, .string B, .int .i64 C, .int .i64 U]] w fun e w' => e = .returned (.bool y) ∧ Below w.heap.size w w' := by
  obtain ⟨x1, h1⟩ := hid_ex (nameB N)
  obtain ⟨x2, h2⟩ := hid_ex (decide (0 ≤ F) && decide (F ≤ 65535))
  obtain ⟨x4, h4⟩ := hid_ex (decide (1 ≤ C) && decide (C ≤ 1000000))
  obtain ⟨x5, h5⟩ := hid_ex (decide (0 ≤ U) && decide (U ≤ 1000000))
  have hy2 : (x1 && x2 && decide ((B.size : Int) ≤ 64) && x4 && x5) = y := by rw [← h1.out, ← h2.out, ← h4.out, ← h5.out]; exact hy.out
  clear hy
  by_cases h3 : (B.size : Int) ≤ 64
  · rw [decide_eq_true h3] at hy2
    cases x1 <;> cases x2 <;> cases x4 <;> cases x5
    all_goals
      subst hy2
      go_enter Try.func81, Try.ntmps81
      have m1 : Hid True := trivial
      have m2 : Hid True := trivial
      have m3 : Hid True := trivial
      go_wp2_with (first | (refine wpList_box_v rfl 53 _ rfl [.string N, .int .i64 F, .string B, .int .i64 C, .int .i64 U] rfl ?_; intro b1 w1 hb1 hw1 hB1 V1; obtain ⟨c0, c1, c2, c3, c4⟩ := cells5 V1) | (go_at_call 25; refine (specNameOk_any _ hN _).mono ?_; rintro e wq ⟨rfl, hq⟩; subst wq; rw [h1.out]) | (clear m1; go_at_call 69; refine (in_is F 0 65535 _ h2.out _).mono ?_; rintro e wq ⟨rfl, hq⟩; subst wq) | (clear m2; go_at_call 69; refine (in_is C 1 1000000 _ h4.out _).mono ?_; rintro e wq ⟨rfl, hq⟩; subst wq) | (clear m3; go_at_call 69; refine (in_is U 0 1000000 _ h5.out _).mono ?_; rintro e wq ⟨rfl, hq⟩; subst wq) | (fail))
      go_ret
      exact ⟨rfl, hB1⟩
  · rw [decide_eq_false h3, Bool.and_false, Bool.false_and, Bool.false_and] at hy2
    cases x1 <;> cases x2
    all_goals
      subst hy2
      go_enter Try.func81, Try.ntmps81
      go_wp2_with (first | (refine wpList_box_v rfl 53 _ rfl [.string N, .int .i64 F, .string B, .int .i64 C, .int .i64 U] rfl ?_; intro b1 w1 hb1 hw1 hB1 V1; obtain ⟨c0, c1, c2, c3, c4⟩ := cells5 V1) | (go_at_call 25; refine (specNameOk_any _ hN _).mono ?_; rintro e wq ⟨rfl, hq⟩; subst wq; rw [h1.out]) | (go_at_call 69; refine (in_is F 0 65535 _ h2.out _).mono ?_; rintro e wq ⟨rfl, hq⟩; subst wq) | (fail))
      go_ret
      exact ⟨rfl, hB1⟩

theorem specOverAt_any (N B : ByteArray) (F C U now : Int) (y : Bool) (hy : Hid (overB ⟨N, F, B, C, U⟩ now = y)) (w : World) :
    Calls Try.prog 37 #[.agg #[.string N, .int .i64 F, .string B, .int .i64 C, .int .i64 U], .int .i64 now] w fun e w' => e = .returned (.bool y) ∧ Below w.heap.size w w' := by
  have h := hy.out
  clear hy
  unfold overB at h
  by_cases hu : U = 0
  · have hb : (U == 0) = true := by simpa using hu
    have hb' : (U != 0) = false := by simp [hu]
    rw [hb] at h
    clear hu
    subst h
    go_enter Try.func37, Try.ntmps37
    go_wp2_with (first | (refine wpList_box_v rfl 53 _ rfl [.string N, .int .i64 F, .string B, .int .i64 C, .int .i64 U] rfl ?_; intro b1 w1 hb1 hw1 hB1 V1; obtain ⟨c0, c1, c2, c3, c4⟩ := cells5 V1) | (fail))
    go_ret
    exact ⟨rfl, hB1⟩
  · have hb : (U == 0) = false := by simpa using hu
    have hb' : (U != 0) = true := by simp [hu]
    rw [hb] at h
    clear hu
    subst h
    go_enter Try.func37, Try.ntmps37
    go_wp2_with (first | (refine wpList_box_v rfl 53 _ rfl [.string N, .int .i64 F, .string B, .int .i64 C, .int .i64 U] rfl ?_; intro b1 w1 hb1 hw1 hB1 V1; obtain ⟨c0, c1, c2, c3, c4⟩ := cells5 V1) | (fail))
    go_ret
    exact ⟨by simp, hB1⟩
end Go.Proofs.Ytmnjmghlkiljhaa.rg
