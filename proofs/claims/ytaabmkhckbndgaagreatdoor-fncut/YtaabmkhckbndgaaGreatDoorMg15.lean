/- Texts laid together: RcRp Rk1 Rg1 Rg2 Rk2 Rk3 Rk4 Rk5. -/
import Derived.Test.YtaabmkhckbndgaaGreatDoorMg13
import Derived.Test.YtaabmkhckbndgaaGreatDoorMg00
import Derived.Test.YtaabmkhckbndgaaGreatDoorPx1
import Derived.Test.YtaabmkhckbndgaaGreatDoorMg02
import Derived.Test.YtaabmkhckbndgaaGreatDoorRows
import Derived.BigQuiet
import Derived.Deep.RegionHeld3
import Derived.Deep.DeepCutAuto
import Derived.Deep.Slices
import Derived.Lib.SmallJoins
import Derived.ShutString
import Derived.ChangeOld
import Derived.Maps.RangeWalk
/- The record Reply in memory: its cells, rows of it, the laws' helpers on it, among the arguments. -/
namespace Go.Proofs.YtaabmkhckbndgaaGreatDoor.rg
open Go.ChangeShapes Go.WideShapes Go.ChangeAt Go.RowKit
open Go.Deep Go.Joins
open Go.Proofs.YtaabmkhckbndgaaGreatDoor.ce Go.Proofs.YtaabmkhckbndgaaGreatDoor.ro
set_option linter.unusedVariables false

/-- the cells of a Reply -/
def csRp (x : cm.Rp) : List Value := [.int .i64 x.K, .string x.N, .int .i64 x.F, .string x.B, .int .i64 x.C, .int .i64 x.M]
theorem oneRp (x : cm.Rp) : ∀ v ∈ csRp x, v.oneCell' = true := by
  intro v hv
  simp only [csRp, List.mem_cons, List.not_mem_nil, or_false] at hv
  rcases hv with rfl | rfl | rfl | rfl | rfl | rfl <;> rfl
def encRp : Enc cm.Rp := ⟨csRp, 6, 42, fun _ => rfl, oneRp, by decide⟩
theorem infoRp : Info encRp := by
  have h : (Tryz.prog.info? 42).map (fun i => (i.zero, i.size, i.bytes)) = some (some (.agg #[Value.int .i64 0, Value.string ⟨#[]⟩, Value.int .i64 0, Value.string ⟨#[]⟩, Value.int .i64 0, Value.int .i64 0]), 6, 64) := by kernel_rfl
  obtain ⟨i, hi, hz⟩ := Option.map_eq_some_iff.1 h
  simp only [Prod.mk.injEq] at hz
  exact ⟨i, _, hi, hz.1, hz.2.1, by omega, rfl⟩
theorem sizeRp : (Tryz.prog.info? 42).map (·.size) = some 6 := by kernel_rfl
theorem zeroRp (w : World) : (zeroValue 42).run Tryz.prog w = .ok (.agg [Value.int .i64 0, Value.string ⟨#[]⟩, Value.int .i64 0, Value.string ⟨#[]⟩, Value.int .i64 0, Value.int .i64 0].toArray) w := Tryz.zeroValue42 w
theorem cellsRp {w : World} {b : Nat} {t : TypeId} {v0 v1 v2 v3 v4 v5 : Value} (h : VBlk w b t [v0, v1, v2, v3, v4, v5]) : w.cell? ⟨b, 0, none⟩ = some v0 ∧ w.cell? ⟨b, 1, none⟩ = some v1 ∧ w.cell? ⟨b, 2, none⟩ = some v2 ∧ w.cell? ⟨b, 3, none⟩ = some v3 ∧ w.cell? ⟨b, 4, none⟩ = some v4 ∧ w.cell? ⟨b, 5, none⟩ = some v5 :=
  ⟨h.cell 0 (by simp), h.cell 1 (by simp), h.cell 2 (by simp), h.cell 3 (by simp), h.cell 4 (by simp), h.cell 5 (by simp)⟩
theorem frozRp {w : World} {b : Nat} {t : TypeId} {vs : List Value} (h : VBlk w b t vs) : w.frozen? ⟨b, 0, none⟩ = false ∧ w.frozen? ⟨b, 1, none⟩ = false ∧ w.frozen? ⟨b, 2, none⟩ = false ∧ w.frozen? ⟨b, 3, none⟩ = false ∧ w.frozen? ⟨b, 4, none⟩ = false ∧ w.frozen? ⟨b, 5, none⟩ = false :=
  ⟨h.frozen _, h.frozen _, h.frozen _, h.frozen _, h.frozen _, h.frozen _⟩
/-- the one at the place i of a row -/
theorem rdRp_at {E : Enc cm.Rp} (hp : E.put = csRp) (hk : E.k = 6) {w : World} {n cap : Nat} {a : Option Addr} {xs : List cm.Rp} (r : Rd E w (.slice a n cap) xs) (i : Nat) (hi : i < xs.length) :
    ∃ b off, a = some ⟨b, off, none⟩ ∧ b < w.heap.size ∧ w.rangeAt b (off + i * 6) (csRp xs[i]) := by
  obtain ⟨b, off, e, h1, h2⟩ := r.start (by omega)
  refine ⟨b, off, e, h1, fun j v hv => ?_⟩
  have hj : j < 6 := (List.getElem?_eq_some_iff.1 hv).1
  have := E.row_get xs i j hi (by rw [hk]; exact hj)
  rw [hk, hp, hv] at this
  have := h2 _ _ this
  rw [Nat.add_assoc]
  exact this
theorem rngRp {w : World} {b k : Nat} {v0 v1 v2 v3 v4 v5 : Value} (h : w.rangeAt b k [v0, v1, v2, v3, v4, v5]) : w.cell? ⟨b, k, none⟩ = some v0 ∧ w.cell? ⟨b, k + 1, none⟩ = some v1 ∧ w.cell? ⟨b, k + 2, none⟩ = some v2 ∧ w.cell? ⟨b, k + 3, none⟩ = some v3 ∧ w.cell? ⟨b, k + 4, none⟩ = some v4 ∧ w.cell? ⟨b, k + 5, none⟩ = some v5 :=
  ⟨h 0 _ rfl, h 1 _ rfl, h 2 _ rfl, h 3 _ rfl, h 4 _ rfl, h 5 _ rfl⟩
/-- no text in it is longer than what a machine holds; none is long -/
def LoRp (l : List cm.Rp) : Prop := ∀ x ∈ l, x.N.size ≤ 9223372036854775807 ∧ x.B.size ≤ 9223372036854775807
def SmRp (l : List cm.Rp) : Prop := ∀ x ∈ l, x.N.size ≤ 1048576 ∧ x.B.size ≤ 1048576

set_option maxHeartbeats 1000000 in
theorem eqRp_any (K : Int) (N : ByteArray) (F : Int) (B : ByteArray) (C : Int) (M : Int) (w : World) :
    Calls Tryz.prog 39 #[.agg #[.int .i64 K, .string N, .int .i64 F, .string B, .int .i64 C, .int .i64 M], .agg #[.int .i64 K, .string N, .int .i64 F, .string B, .int .i64 C, .int .i64 M]] w fun e w' => e = .returned (.bool true) ∧ Below w.heap.size w w' := by
  have eK : (K != K) = false := by simp
  have eN : (N.toList == N.toList) = true := by simp
  have eF : (F != F) = false := by simp
  have eB : (B.toList == B.toList) = true := by simp
  have eC : (C != C) = false := by simp
  have eM : (M != M) = false := by simp
  have m1 : Hid True := trivial
  go_enter Tryz.func39, Tryz.ntmps39
  go_wp2_with (first | (clear m1; refine wpList_box_v rfl 42 _ rfl [.int .i64 K, .string N, .int .i64 F, .string B, .int .i64 C, .int .i64 M] rfl ?_; intro b1 w1 hb1 hw1 hB1 V1; have hz1 := hB1.size) | (refine wpList_box_v rfl 42 _ rfl [.int .i64 K, .string N, .int .i64 F, .string B, .int .i64 C, .int .i64 M] rfl ?_; intro b2 w2 hb2 hw2 hB2 V2; obtain ⟨c0, c1, c2, c3, c4, c5⟩ := cellsRp (vblk_grow V1 hB2); obtain ⟨d0, d1, d2, d3, d4, d5⟩ := cellsRp V2) | (fail))
  go_ret
  exact ⟨rfl, hB1.trans (hB2.mono hz1)⟩

end Go.Proofs.YtaabmkhckbndgaaGreatDoor.rg
/- Contracts: is a reply right, the model's. -/
namespace Go.Proofs.YtaabmkhckbndgaaGreatDoor.cm
open Go.ChangeShapes Go.WideShapes Go.ChangeAt Go.RowKit
open Go.Proofs.YtaabmkhckbndgaaGreatDoor.ce Go.Proofs.YtaabmkhckbndgaaGreatDoor.ro Go.Proofs.YtaabmkhckbndgaaGreatDoor.rg
set_option linter.unusedVariables false

theorem int_flip {x : Int} {z : Bool} (h : (x == 0) = z) : ((0 : Int) == x) = z := by
  rw [← h]
  by_cases e : x = 0
  · subst e
    rfl
  · rw [show (x == 0) = false by simpa using e, show ((0 : Int) == x) = false by simp; exact fun q => e q.symm]
theorem l1In_is (x lo hi : Int) (y : Bool) (h : (decide (lo ≤ x) && decide (x ≤ hi)) = y) (w : World) : Calls Tryz.prog 72 #[.int .i64 x, .int .i64 lo, .int .i64 hi] w fun e w' => e = .returned (.bool y) ∧ w' = w := by
  by_cases h0 : lo ≤ x
  · by_cases h1 : x ≤ hi
    · rw [decide_eq_true h0, decide_eq_true h1] at h
      subst h
      go_enter Tryz.func72, Tryz.ntmps72
      go_wp2
      go_ret
      exact ⟨rfl, rfl⟩
    · rw [decide_eq_true h0, decide_eq_false h1] at h
      subst h
      go_enter Tryz.func72, Tryz.ntmps72
      go_wp2
      go_ret
      exact ⟨rfl, rfl⟩
  · rw [decide_eq_false h0] at h
    subst h
    go_enter Tryz.func72, Tryz.ntmps72
    go_wp2
    go_ret
    exact ⟨rfl, rfl⟩
set_option maxRecDepth 10000 in
set_option maxHeartbeats 4000000 in
theorem specReplyOk_any (K : Int) (N : ByteArray) (F : Int) (B : ByteArray) (C M : Int) (y : Bool) (hy : Hid (repB ⟨K, N, F, B, C, M⟩ = y)) (hN : N.size ≤ 9223372036854775807) (hB : B.size ≤ 9223372036854775807) (w : World) :
    Calls Tryz.prog 31 #[.agg #[.int .i64 K, .string N, .int .i64 F, .string B, .int .i64 C, .int .i64 M]] w fun e w' => e = .returned (.bool y) ∧ Below w.heap.size w w' := by
  cases hin : (decide (1 ≤ K) && decide (K ≤ 12)) with
  | false =>
    have hy2 : false = y := by rw [← hy.out]; exact (rep_out (r := ⟨K, N, F, B, C, M⟩) hin).symm
    subst hy2
    go_enter Tryz.func31, Tryz.ntmps31
    go_wp2_with (first | (refine wpList_box_v rfl 42 _ rfl [.int .i64 K, .string N, .int .i64 F, .string B, .int .i64 C, .int .i64 M] rfl ?_; intro b1 w1 hb1 hw1 hB1 V1; obtain ⟨c0, c1, c2, c3, c4, c5⟩ := cellsRp V1; have hz1 := hB1.size) | (go_at_call 72; refine (l1In_is K 1 12 _ hin _).mono ?_; rintro e wq ⟨rfl, hq⟩; subst wq) | (fail))
    go_ret
    exact ⟨rfl, hB1⟩
  | true =>
    have hk : 1 ≤ K ∧ K ≤ 12 := by simpa using hin
    have m0 : Hid True := trivial
    by_cases k5 : K = 5
    · subst k5
      obtain ⟨x1, h1⟩ := hid_ex (nameB N)
      obtain ⟨x2, h2⟩ := hid_ex (decide (0 ≤ F) && decide (F ≤ 65535))
      obtain ⟨x4, h4⟩ := hid_ex (decide (0 ≤ C) && decide (C ≤ 1000000))
      have m1 : Hid True := trivial
      obtain ⟨zM, eM⟩ := hid_ex (M == 0)
      have pM : (M == 0) = zM := eM.out
      have qM : ((0 : Int) == M) = zM := int_flip eM.out
      have hy2 : (x1 && x2 && decide ((B.size : Int) ≤ 64) && x4 && zM) = y := by rw [← h1.out, ← h2.out, ← h4.out, ← eM.out, ← hy.out]; exact rep_val.symm
      clear hy hk
      by_cases h3 : (B.size : Int) ≤ 64
      · rw [decide_eq_true h3] at hy2
        cases x1 with
        | false =>
          subst hy2
          go_enter Tryz.func31, Tryz.ntmps31
          go_wp2_with (first | (refine wpList_box_v rfl 42 _ rfl [.int .i64 5, .string N, .int .i64 F, .string B, .int .i64 C, .int .i64 M] rfl ?_; intro b1 w1 hb1 hw1 hB1 V1; obtain ⟨c0, c1, c2, c3, c4, c5⟩ := cellsRp V1; have hz1 := hB1.size) | (clear m0; go_at_call 72; refine (l1In_is 5 1 12 _ hin _).mono ?_; rintro e wq ⟨rfl, hq⟩; subst wq) | (go_at_call 73; refine (specNameOk_any _ hN _).mono ?_; rintro e wq ⟨rfl, hq⟩; subst wq; rw [h1.out]) | (clear m1; go_at_call 72; refine (l1In_is F 0 65535 _ h2.out _).mono ?_; rintro e wq ⟨rfl, hq⟩; subst wq) | (go_at_call 72; refine (l1In_is C 0 1000000 _ h4.out _).mono ?_; rintro e wq ⟨rfl, hq⟩; subst wq) | (fail))
          go_ret
          exact ⟨rfl, hB1⟩
        | true =>
          cases x2 with
          | false =>
            subst hy2
            go_enter Tryz.func31, Tryz.ntmps31
            go_wp2_with (first | (refine wpList_box_v rfl 42 _ rfl [.int .i64 5, .string N, .int .i64 F, .string B, .int .i64 C, .int .i64 M] rfl ?_; intro b1 w1 hb1 hw1 hB1 V1; obtain ⟨c0, c1, c2, c3, c4, c5⟩ := cellsRp V1; have hz1 := hB1.size) | (clear m0; go_at_call 72; refine (l1In_is 5 1 12 _ hin _).mono ?_; rintro e wq ⟨rfl, hq⟩; subst wq) | (go_at_call 73; refine (specNameOk_any _ hN _).mono ?_; rintro e wq ⟨rfl, hq⟩; subst wq; rw [h1.out]) | (clear m1; go_at_call 72; refine (l1In_is F 0 65535 _ h2.out _).mono ?_; rintro e wq ⟨rfl, hq⟩; subst wq) | (go_at_call 72; refine (l1In_is C 0 1000000 _ h4.out _).mono ?_; rintro e wq ⟨rfl, hq⟩; subst wq) | (fail))
            go_ret
            exact ⟨rfl, hB1⟩
          | true =>
            cases x4 with
            | false =>
              subst hy2
              go_enter Tryz.func31, Tryz.ntmps31
              go_wp2_with (first | (refine wpList_box_v rfl 42 _ rfl [.int .i64 5, .string N, .int .i64 F, .string B, .int .i64 C, .int .i64 M] rfl ?_; intro b1 w1 hb1 hw1 hB1 V1; obtain ⟨c0, c1, c2, c3, c4, c5⟩ := cellsRp V1; have hz1 := hB1.size) | (clear m0; go_at_call 72; refine (l1In_is 5 1 12 _ hin _).mono ?_; rintro e wq ⟨rfl, hq⟩; subst wq) | (go_at_call 73; refine (specNameOk_any _ hN _).mono ?_; rintro e wq ⟨rfl, hq⟩; subst wq; rw [h1.out]) | (clear m1; go_at_call 72; refine (l1In_is F 0 65535 _ h2.out _).mono ?_; rintro e wq ⟨rfl, hq⟩; subst wq) | (go_at_call 72; refine (l1In_is C 0 1000000 _ h4.out _).mono ?_; rintro e wq ⟨rfl, hq⟩; subst wq) | (fail))
              go_ret
              exact ⟨rfl, hB1⟩
            | true =>
              cases zM with
              | false =>
                subst hy2
                go_enter Tryz.func31, Tryz.ntmps31
                go_wp2_with (first | (refine wpList_box_v rfl 42 _ rfl [.int .i64 5, .string N, .int .i64 F, .string B, .int .i64 C, .int .i64 M] rfl ?_; intro b1 w1 hb1 hw1 hB1 V1; obtain ⟨c0, c1, c2, c3, c4, c5⟩ := cellsRp V1; have hz1 := hB1.size) | (clear m0; go_at_call 72; refine (l1In_is 5 1 12 _ hin _).mono ?_; rintro e wq ⟨rfl, hq⟩; subst wq) | (go_at_call 73; refine (specNameOk_any _ hN _).mono ?_; rintro e wq ⟨rfl, hq⟩; subst wq; rw [h1.out]) | (clear m1; go_at_call 72; refine (l1In_is F 0 65535 _ h2.out _).mono ?_; rintro e wq ⟨rfl, hq⟩; subst wq) | (go_at_call 72; refine (l1In_is C 0 1000000 _ h4.out _).mono ?_; rintro e wq ⟨rfl, hq⟩; subst wq) | (fail))
                go_ret
                exact ⟨rfl, hB1⟩
              | true =>
                subst hy2
                go_enter Tryz.func31, Tryz.ntmps31
                go_wp2_with (first | (refine wpList_box_v rfl 42 _ rfl [.int .i64 5, .string N, .int .i64 F, .string B, .int .i64 C, .int .i64 M] rfl ?_; intro b1 w1 hb1 hw1 hB1 V1; obtain ⟨c0, c1, c2, c3, c4, c5⟩ := cellsRp V1; have hz1 := hB1.size) | (clear m0; go_at_call 72; refine (l1In_is 5 1 12 _ hin _).mono ?_; rintro e wq ⟨rfl, hq⟩; subst wq) | (go_at_call 73; refine (specNameOk_any _ hN _).mono ?_; rintro e wq ⟨rfl, hq⟩; subst wq; rw [h1.out]) | (clear m1; go_at_call 72; refine (l1In_is F 0 65535 _ h2.out _).mono ?_; rintro e wq ⟨rfl, hq⟩; subst wq) | (go_at_call 72; refine (l1In_is C 0 1000000 _ h4.out _).mono ?_; rintro e wq ⟨rfl, hq⟩; subst wq) | (fail))
                go_ret
                exact ⟨rfl, hB1⟩
      · rw [decide_eq_false h3, Bool.and_false, Bool.false_and, Bool.false_and] at hy2
        cases x1 with
        | false =>
          subst hy2
          go_enter Tryz.func31, Tryz.ntmps31
          go_wp2_with (first | (refine wpList_box_v rfl 42 _ rfl [.int .i64 5, .string N, .int .i64 F, .string B, .int .i64 C, .int .i64 M] rfl ?_; intro b1 w1 hb1 hw1 hB1 V1; obtain ⟨c0, c1, c2, c3, c4, c5⟩ := cellsRp V1; have hz1 := hB1.size) | (clear m0; go_at_call 72; refine (l1In_is 5 1 12 _ hin _).mono ?_; rintro e wq ⟨rfl, hq⟩; subst wq) | (go_at_call 73; refine (specNameOk_any _ hN _).mono ?_; rintro e wq ⟨rfl, hq⟩; subst wq; rw [h1.out]) | (clear m1; go_at_call 72; refine (l1In_is F 0 65535 _ h2.out _).mono ?_; rintro e wq ⟨rfl, hq⟩; subst wq) | (fail))
          go_ret
          exact ⟨rfl, hB1⟩
        | true =>
          cases x2 with
          | false =>
            subst hy2
            go_enter Tryz.func31, Tryz.ntmps31
            go_wp2_with (first | (refine wpList_box_v rfl 42 _ rfl [.int .i64 5, .string N, .int .i64 F, .string B, .int .i64 C, .int .i64 M] rfl ?_; intro b1 w1 hb1 hw1 hB1 V1; obtain ⟨c0, c1, c2, c3, c4, c5⟩ := cellsRp V1; have hz1 := hB1.size) | (clear m0; go_at_call 72; refine (l1In_is 5 1 12 _ hin _).mono ?_; rintro e wq ⟨rfl, hq⟩; subst wq) | (go_at_call 73; refine (specNameOk_any _ hN _).mono ?_; rintro e wq ⟨rfl, hq⟩; subst wq; rw [h1.out]) | (clear m1; go_at_call 72; refine (l1In_is F 0 65535 _ h2.out _).mono ?_; rintro e wq ⟨rfl, hq⟩; subst wq) | (fail))
            go_ret
            exact ⟨rfl, hB1⟩
          | true =>
            subst hy2
            go_enter Tryz.func31, Tryz.ntmps31
            go_wp2_with (first | (refine wpList_box_v rfl 42 _ rfl [.int .i64 5, .string N, .int .i64 F, .string B, .int .i64 C, .int .i64 M] rfl ?_; intro b1 w1 hb1 hw1 hB1 V1; obtain ⟨c0, c1, c2, c3, c4, c5⟩ := cellsRp V1; have hz1 := hB1.size) | (clear m0; go_at_call 72; refine (l1In_is 5 1 12 _ hin _).mono ?_; rintro e wq ⟨rfl, hq⟩; subst wq) | (go_at_call 73; refine (specNameOk_any _ hN _).mono ?_; rintro e wq ⟨rfl, hq⟩; subst wq; rw [h1.out]) | (clear m1; go_at_call 72; refine (l1In_is F 0 65535 _ h2.out _).mono ?_; rintro e wq ⟨rfl, hq⟩; subst wq) | (fail))
            go_ret
            exact ⟨rfl, hB1⟩
    · have k5' : (K == 5) = false := by simpa using k5
      by_cases k6 : K = 6
      · subst k6
        obtain ⟨x1, h1⟩ := hid_ex (decide (0 ≤ M) && decide (M ≤ 999999999))
        obtain ⟨zN, eN⟩ := hid_ex (emB N)
        obtain ⟨pN, qN, rN⟩ := emB_facts eN.out
        obtain ⟨zF, eF⟩ := hid_ex (F == 0)
        have pF : (F == 0) = zF := eF.out
        have qF : ((0 : Int) == F) = zF := int_flip eF.out
        obtain ⟨zB, eB⟩ := hid_ex (emB B)
        obtain ⟨pB, qB, rB⟩ := emB_facts eB.out
        obtain ⟨zC, eC⟩ := hid_ex (C == 0)
        have pC : (C == 0) = zC := eC.out
        have qC : ((0 : Int) == C) = zC := int_flip eC.out
        have hy2 : (x1 && (zN && zF && zB && zC)) = y := by rw [← h1.out, ← eN.out, ← eF.out, ← eB.out, ← eC.out, ← hy.out]; exact rep_num.symm
        clear hy hk
        cases x1 with
        | false =>
          subst hy2
          go_enter Tryz.func31, Tryz.ntmps31
          go_wp2_with (first | (refine wpList_box_v rfl 42 _ rfl [.int .i64 6, .string N, .int .i64 F, .string B, .int .i64 C, .int .i64 M] rfl ?_; intro b1 w1 hb1 hw1 hB1 V1; obtain ⟨c0, c1, c2, c3, c4, c5⟩ := cellsRp V1; have hz1 := hB1.size) | (clear m0; go_at_call 72; refine (l1In_is 6 1 12 _ hin _).mono ?_; rintro e wq ⟨rfl, hq⟩; subst wq) | (go_at_call 72; refine (l1In_is M 0 999999999 _ h1.out _).mono ?_; rintro e wq ⟨rfl, hq⟩; subst wq) | (fail))
          go_ret
          exact ⟨rfl, hB1⟩
        | true =>
          cases zN with
          | false =>
            subst hy2
            go_enter Tryz.func31, Tryz.ntmps31
            go_wp2_with (first | (refine wpList_box_v rfl 42 _ rfl [.int .i64 6, .string N, .int .i64 F, .string B, .int .i64 C, .int .i64 M] rfl ?_; intro b1 w1 hb1 hw1 hB1 V1; obtain ⟨c0, c1, c2, c3, c4, c5⟩ := cellsRp V1; have hz1 := hB1.size) | (refine wpList_load_r rfl 42 _ rfl b1 0 [.int .i64 6, .string N, .int .i64 F, .string B, .int .i64 C, .int .i64 M] rfl _ Tryz.underlying42 rfl sizeRp V1.range ?_) | (clear m0; go_at_call 72; refine (l1In_is 6 1 12 _ hin _).mono ?_; rintro e wq ⟨rfl, hq⟩; subst wq) | (go_at_call 72; refine (l1In_is M 0 999999999 _ h1.out _).mono ?_; rintro e wq ⟨rfl, hq⟩; subst wq) | (fail))
            go_ret
            exact ⟨rfl, hB1⟩
          | true =>
            cases zF with
            | false =>
              subst hy2
              go_enter Tryz.func31, Tryz.ntmps31
              go_wp2_with (first | (refine wpList_box_v rfl 42 _ rfl [.int .i64 6, .string N, .int .i64 F, .string B, .int .i64 C, .int .i64 M] rfl ?_; intro b1 w1 hb1 hw1 hB1 V1; obtain ⟨c0, c1, c2, c3, c4, c5⟩ := cellsRp V1; have hz1 := hB1.size) | (refine wpList_load_r rfl 42 _ rfl b1 0 [.int .i64 6, .string N, .int .i64 F, .string B, .int .i64 C, .int .i64 M] rfl _ Tryz.underlying42 rfl sizeRp V1.range ?_) | (clear m0; go_at_call 72; refine (l1In_is 6 1 12 _ hin _).mono ?_; rintro e wq ⟨rfl, hq⟩; subst wq) | (go_at_call 72; refine (l1In_is M 0 999999999 _ h1.out _).mono ?_; rintro e wq ⟨rfl, hq⟩; subst wq) | (fail))
              go_ret
              exact ⟨rfl, hB1⟩
            | true =>
              cases zB with
              | false =>
                subst hy2
                go_enter Tryz.func31, Tryz.ntmps31
                go_wp2_with (first | (refine wpList_box_v rfl 42 _ rfl [.int .i64 6, .string N, .int .i64 F, .string B, .int .i64 C, .int .i64 M] rfl ?_; intro b1 w1 hb1 hw1 hB1 V1; obtain ⟨c0, c1, c2, c3, c4, c5⟩ := cellsRp V1; have hz1 := hB1.size) | (refine wpList_load_r rfl 42 _ rfl b1 0 [.int .i64 6, .string N, .int .i64 F, .string B, .int .i64 C, .int .i64 M] rfl _ Tryz.underlying42 rfl sizeRp V1.range ?_) | (clear m0; go_at_call 72; refine (l1In_is 6 1 12 _ hin _).mono ?_; rintro e wq ⟨rfl, hq⟩; subst wq) | (go_at_call 72; refine (l1In_is M 0 999999999 _ h1.out _).mono ?_; rintro e wq ⟨rfl, hq⟩; subst wq) | (fail))
                go_ret
                exact ⟨rfl, hB1⟩
              | true =>
                cases zC with
                | false =>
                  subst hy2
                  go_enter Tryz.func31, Tryz.ntmps31
                  go_wp2_with (first | (refine wpList_box_v rfl 42 _ rfl [.int .i64 6, .string N, .int .i64 F, .string B, .int .i64 C, .int .i64 M] rfl ?_; intro b1 w1 hb1 hw1 hB1 V1; obtain ⟨c0, c1, c2, c3, c4, c5⟩ := cellsRp V1; have hz1 := hB1.size) | (refine wpList_load_r rfl 42 _ rfl b1 0 [.int .i64 6, .string N, .int .i64 F, .string B, .int .i64 C, .int .i64 M] rfl _ Tryz.underlying42 rfl sizeRp V1.range ?_) | (clear m0; go_at_call 72; refine (l1In_is 6 1 12 _ hin _).mono ?_; rintro e wq ⟨rfl, hq⟩; subst wq) | (go_at_call 72; refine (l1In_is M 0 999999999 _ h1.out _).mono ?_; rintro e wq ⟨rfl, hq⟩; subst wq) | (fail))
                  go_ret
                  exact ⟨rfl, hB1⟩
                | true =>
                  subst hy2
                  go_enter Tryz.func31, Tryz.ntmps31
                  go_wp2_with (first | (refine wpList_box_v rfl 42 _ rfl [.int .i64 6, .string N, .int .i64 F, .string B, .int .i64 C, .int .i64 M] rfl ?_; intro b1 w1 hb1 hw1 hB1 V1; obtain ⟨c0, c1, c2, c3, c4, c5⟩ := cellsRp V1; have hz1 := hB1.size) | (refine wpList_load_r rfl 42 _ rfl b1 0 [.int .i64 6, .string N, .int .i64 F, .string B, .int .i64 C, .int .i64 M] rfl _ Tryz.underlying42 rfl sizeRp V1.range ?_) | (clear m0; go_at_call 72; refine (l1In_is 6 1 12 _ hin _).mono ?_; rintro e wq ⟨rfl, hq⟩; subst wq) | (go_at_call 72; refine (l1In_is M 0 999999999 _ h1.out _).mono ?_; rintro e wq ⟨rfl, hq⟩; subst wq) | (fail))
                  go_ret
                  exact ⟨rfl, hB1⟩
      · have k6' : (K == 6) = false := by simpa using k6
        obtain ⟨zN, eN⟩ := hid_ex (emB N)
        obtain ⟨pN, qN, rN⟩ := emB_facts eN.out
        obtain ⟨zF, eF⟩ := hid_ex (F == 0)
        have pF : (F == 0) = zF := eF.out
        have qF : ((0 : Int) == F) = zF := int_flip eF.out
        obtain ⟨zB, eB⟩ := hid_ex (emB B)
        obtain ⟨pB, qB, rB⟩ := emB_facts eB.out
        obtain ⟨zC, eC⟩ := hid_ex (C == 0)
        have pC : (C == 0) = zC := eC.out
        have qC : ((0 : Int) == C) = zC := int_flip eC.out
        obtain ⟨zM, eM⟩ := hid_ex (M == 0)
        have pM : (M == 0) = zM := eM.out
        have qM : ((0 : Int) == M) = zM := int_flip eM.out
        have hy2 : (zN && zF && zB && zC && zM) = y := by rw [← eN.out, ← eF.out, ← eB.out, ← eC.out, ← eM.out, ← hy.out]; exact (rep_bare hk.1 hk.2 k5 k6).symm
        have hKK : (K == K) = true := by simp
        clear hy hk k5 k6
        cases zN with
        | false =>
          subst hy2
          go_enter Tryz.func31, Tryz.ntmps31
          go_wp2_with (first | (refine wpList_box_v rfl 42 _ rfl [.int .i64 K, .string N, .int .i64 F, .string B, .int .i64 C, .int .i64 M] rfl ?_; intro b1 w1 hb1 hw1 hB1 V1; obtain ⟨c0, c1, c2, c3, c4, c5⟩ := cellsRp V1; have hz1 := hB1.size) | (refine wpList_load_r rfl 42 _ rfl b1 0 [.int .i64 K, .string N, .int .i64 F, .string B, .int .i64 C, .int .i64 M] rfl _ Tryz.underlying42 rfl sizeRp V1.range ?_) | (go_at_call 72; refine (l1In_is K 1 12 _ hin _).mono ?_; rintro e wq ⟨rfl, hq⟩; subst wq) | (fail))
          go_ret
          exact ⟨rfl, hB1⟩
        | true =>
          cases zF with
          | false =>
            subst hy2
            go_enter Tryz.func31, Tryz.ntmps31
            go_wp2_with (first | (refine wpList_box_v rfl 42 _ rfl [.int .i64 K, .string N, .int .i64 F, .string B, .int .i64 C, .int .i64 M] rfl ?_; intro b1 w1 hb1 hw1 hB1 V1; obtain ⟨c0, c1, c2, c3, c4, c5⟩ := cellsRp V1; have hz1 := hB1.size) | (refine wpList_load_r rfl 42 _ rfl b1 0 [.int .i64 K, .string N, .int .i64 F, .string B, .int .i64 C, .int .i64 M] rfl _ Tryz.underlying42 rfl sizeRp V1.range ?_) | (go_at_call 72; refine (l1In_is K 1 12 _ hin _).mono ?_; rintro e wq ⟨rfl, hq⟩; subst wq) | (fail))
            go_ret
            exact ⟨rfl, hB1⟩
          | true =>
            cases zB with
            | false =>
              subst hy2
              go_enter Tryz.func31, Tryz.ntmps31
              go_wp2_with (first | (refine wpList_box_v rfl 42 _ rfl [.int .i64 K, .string N, .int .i64 F, .string B, .int .i64 C, .int .i64 M] rfl ?_; intro b1 w1 hb1 hw1 hB1 V1; obtain ⟨c0, c1, c2, c3, c4, c5⟩ := cellsRp V1; have hz1 := hB1.size) | (refine wpList_load_r rfl 42 _ rfl b1 0 [.int .i64 K, .string N, .int .i64 F, .string B, .int .i64 C, .int .i64 M] rfl _ Tryz.underlying42 rfl sizeRp V1.range ?_) | (go_at_call 72; refine (l1In_is K 1 12 _ hin _).mono ?_; rintro e wq ⟨rfl, hq⟩; subst wq) | (fail))
              go_ret
              exact ⟨rfl, hB1⟩
            | true =>
              cases zC with
              | false =>
                subst hy2
                go_enter Tryz.func31, Tryz.ntmps31
                go_wp2_with (first | (refine wpList_box_v rfl 42 _ rfl [.int .i64 K, .string N, .int .i64 F, .string B, .int .i64 C, .int .i64 M] rfl ?_; intro b1 w1 hb1 hw1 hB1 V1; obtain ⟨c0, c1, c2, c3, c4, c5⟩ := cellsRp V1; have hz1 := hB1.size) | (refine wpList_load_r rfl 42 _ rfl b1 0 [.int .i64 K, .string N, .int .i64 F, .string B, .int .i64 C, .int .i64 M] rfl _ Tryz.underlying42 rfl sizeRp V1.range ?_) | (go_at_call 72; refine (l1In_is K 1 12 _ hin _).mono ?_; rintro e wq ⟨rfl, hq⟩; subst wq) | (fail))
                go_ret
                exact ⟨rfl, hB1⟩
              | true =>
                cases zM with
                | false =>
                  subst hy2
                  go_enter Tryz.func31, Tryz.ntmps31
                  go_wp2_with (first | (refine wpList_box_v rfl 42 _ rfl [.int .i64 K, .string N, .int .i64 F, .string B, .int .i64 C, .int .i64 M] rfl ?_; intro b1 w1 hb1 hw1 hB1 V1; obtain ⟨c0, c1, c2, c3, c4, c5⟩ := cellsRp V1; have hz1 := hB1.size) | (refine wpList_load_r rfl 42 _ rfl b1 0 [.int .i64 K, .string N, .int .i64 F, .string B, .int .i64 C, .int .i64 M] rfl _ Tryz.underlying42 rfl sizeRp V1.range ?_) | (go_at_call 72; refine (l1In_is K 1 12 _ hin _).mono ?_; rintro e wq ⟨rfl, hq⟩; subst wq) | (fail))
                  go_ret
                  exact ⟨rfl, hB1⟩
                | true =>
                  subst hy2
                  go_enter Tryz.func31, Tryz.ntmps31
                  go_wp2_with (first | (refine wpList_box_v rfl 42 _ rfl [.int .i64 K, .string N, .int .i64 F, .string B, .int .i64 C, .int .i64 M] rfl ?_; intro b1 w1 hb1 hw1 hB1 V1; obtain ⟨c0, c1, c2, c3, c4, c5⟩ := cellsRp V1; have hz1 := hB1.size) | (refine wpList_load_r rfl 42 _ rfl b1 0 [.int .i64 K, .string N, .int .i64 F, .string B, .int .i64 C, .int .i64 M] rfl _ Tryz.underlying42 rfl sizeRp V1.range ?_) | (go_at_call 72; refine (l1In_is K 1 12 _ hin _).mono ?_; rintro e wq ⟨rfl, hq⟩; subst wq) | (fail))
                  go_ret
                  exact ⟨rfl, hB1⟩
end Go.Proofs.YtaabmkhckbndgaaGreatDoor.cm
/- By hand through a region that draws its order: one operation taken first, wanted or passed over. -/
namespace Go.Proofs.YtaabmkhckbndgaaGreatDoor.ce
open Go.RowKit
set_option linter.unusedVariables false
variable {P : Program} {ops : Array Oper} {Q : Exit → Act → World → Prop} {md : Region.Mode} {S : World → Prop}

/-- an operation that is wanted and yields v in every world that meets S -/
theorem takeW (i d : Nat) (v : Value) {op : Op} {ty : TypeId} {pos : String} {after : Array Edge} {g : Option (Nat × Bool)} {tmps : Array Value} {defers : List Deferred} {fuel : Nat} {listed : Array Bool} {w : World}
    (hi : ops[i]? = some ⟨some d, op, ty, pos, after, g⟩) (hs : Region.noSelect ops = true) (hf : Region.free md ops listed i = true) (hr : (Region.ready md ops listed).contains i = true)
    (hQ : ∀ c a w, Q (.panic c) (Act.put a (some d) v) w → Q (.panic c) a w)
    (hw : Region.wanted ⟨some d, op, ty, pos, after, g⟩ (yielded ops tmps) = true) (hy : ∀ w, S w → (execOp (Act.eval ⟨tmps, defers⟩) ⟨some d, op, ty, pos, after, g⟩).run P w = .ok (.value v) w) (hS : S w)
    (h : wpAnyH P md ops Q S fuel (listed.setIfInBounds i true) ⟨tmps.setIfInBounds d v, defers⟩ w) : wpAnyH P md ops Q S (fuel + 1) listed ⟨tmps, defers⟩ w :=
  wpAnyH_take (oi := ⟨some d, op, ty, pos, after, g⟩) (v := v) hi hs hf hr hQ (Or.inl ⟨hw, hy⟩) hS h
/-- an operation that is passed over -/
theorem takeU (i d : Nat) {op : Op} {ty : TypeId} {pos : String} {after : Array Edge} {g : Option (Nat × Bool)} {tmps : Array Value} {defers : List Deferred} {fuel : Nat} {listed : Array Bool} {w : World}
    (hi : ops[i]? = some ⟨some d, op, ty, pos, after, g⟩) (hs : Region.noSelect ops = true) (hf : Region.free md ops listed i = true) (hr : (Region.ready md ops listed).contains i = true)
    (hQ : ∀ c a w, Q (.panic c) (Act.put a (some d) undef) w → Q (.panic c) a w)
    (hw : Region.wanted ⟨some d, op, ty, pos, after, g⟩ (yielded ops tmps) = false) (hS : S w)
    (h : wpAnyH P md ops Q S fuel (listed.setIfInBounds i true) ⟨tmps.setIfInBounds d undef, defers⟩ w) : wpAnyH P md ops Q S (fuel + 1) listed ⟨tmps, defers⟩ w :=
  wpAnyH_take (oi := ⟨some d, op, ty, pos, after, g⟩) (v := undef) hi hs hf hr hQ (Or.inr ⟨hw, rfl⟩) hS h
end Go.Proofs.YtaabmkhckbndgaaGreatDoor.ce
/- By hand through a region that draws its order: a struct's variable is laid, a struct is stored. -/
namespace Go.Proofs.YtaabmkhckbndgaaGreatDoor.ce
open Go.ChangeShapes Go.WideShapes Go.ChangeAt Go.RowKit
set_option linter.unusedVariables false
variable {P : Program} {ops : Array Oper} {o : Oper} {a : Act} {w : World} {Q : Exit → Act → World → Prop} {K : Act → World → Prop} {E : Prop}

theorem step_alloc_v (hgd : o.guard = none) (t : TypeId) (ho : o.op = .alloc t) (vs : List Value) (hz : ∀ w, (zeroValue t).run P w = .ok (.agg vs.toArray) w)
    (h : ∀ (b : Nat) (w' : World), w.heap.size ≤ b → b < w'.heap.size → Below w.heap.size w w' → VBlk w' b t vs → K (a.put o.dst (.pointer (some ⟨b, 0, none⟩))) w') : if Region.wanted o (yielded ops a.tmps) = true then Oper.wp P o a w K Q else E := by
  refine step_val hgd (v := .pointer (some ⟨w.heap.size, 0, none⟩)) (w' := w.alloc (.cells vs.toArray t)) ?_ (h _ _ (Nat.le_refl _) (by simp) ((Below.refl _ _).alloc (Nat.le_refl _) _) (heap_alloc_new _ _))
  unfold execOp
  simp only [ho, Instr.alloc, Sem.run_bind, hz, Result.andThen_ok]
  rfl
theorem step_store_v (hgd : o.guard = none) (t : TypeId) (x y : Operand) (ho : o.op = .store t x y) (b : Nat) (ys : List Value) (hx : a.eval x = .pointer (some ⟨b, 0, none⟩)) (hy : a.eval y = .agg ys.toArray)
    (hi : (P.info? t).map (·.size) = some ys.length) {t' : TypeId} {vs : List Value} (hb : VBlk w b t' vs) (hn : ys.length = vs.length) (h1 : ∀ v ∈ ys, v.oneCell' = true)
    (h : ∀ w', Only b w w' → VBlk w' b t' ys → K (a.put o.dst undef) w') : if Region.wanted o (yielded ops a.tmps) = true then Oper.wp P o a w K Q else E := by
  have hw : Region.wanted o (yielded ops a.tmps) = true := by simp [Region.wanted, hgd]
  rw [if_pos hw]
  refine wp_store_mid t x y ho b 0 ys.toArray hx hy ?_ (by rw [hi]; simp) (all_oneCell_toArray h1) ?_
  · rw [List.size_toArray, hn]; exact hb.there
  · refine h _ (only_setCells _ _ _ _) ?_
    unfold VBlk
    rw [heap_setCells b t' _ 0 w vs hb (by simp [hn])]
    simp [hn]
/-- an operation that comes up, its parts by name -/
theorem consM {md : Region.Mode} {S : World → Prop} {fuel : Nat} {listed : Array Bool} {tmps : Array Value} {defers : List Deferred} {i : Nat} {dst : Option Tmp} {op : Op} {ty : TypeId} {pos : String} {after : Array Edge} {g : Option (Nat × Bool)} {rs : List Nat} (ho : ops[i]? = some ⟨dst, op, ty, pos, after, g⟩)
    (h : ∀ K' : Act → World → Prop, Shut (∀ a w, S w → (S w → wpAnyH P md ops Q S fuel (listed.setIfInBounds i true) a w) → K' a w) → if Region.wanted ⟨dst, op, ty, pos, after, g⟩ (yielded ops tmps) = true then Oper.wp P ⟨dst, op, ty, pos, after, g⟩ ⟨tmps, defers⟩ w K' Q else K' (Act.put ⟨tmps, defers⟩ dst undef) w)
    (hs : AllReadyH P md ops Q S fuel listed ⟨tmps, defers⟩ w rs) : AllReadyH P md ops Q S fuel listed ⟨tmps, defers⟩ w (i :: rs) := AllReadyH.cons ho h hs
end Go.Proofs.YtaabmkhckbndgaaGreatDoor.ce
/- Contracts: the program's shapes of replies; is a reply right. -/
namespace Go.Proofs.YtaabmkhckbndgaaGreatDoor.cm
open Go.ChangeShapes Go.WideShapes Go.ChangeAt Go.RowKit
open Go.Deep Go.Joins
open Go.Proofs.YtaabmkhckbndgaaGreatDoor.ce Go.Proofs.YtaabmkhckbndgaaGreatDoor.ro Go.Proofs.YtaabmkhckbndgaaGreatDoor.rg
set_option linter.unusedVariables false

theorem with_is (x lo hi : Int) (y : Bool) (h : (decide (lo ≤ x) && decide (x ≤ hi)) = y) (w : World) : Calls Tryz.prog 63 #[.int .i64 x, .int .i64 lo, .int .i64 hi] w fun e w' => e = .returned (.bool y) ∧ w' = w := by
  by_cases h0 : lo ≤ x
  · by_cases h1 : x ≤ hi
    · rw [decide_eq_true h0, decide_eq_true h1] at h
      subst h
      go_enter Tryz.func63, Tryz.ntmps63
      go_wp2
      go_ret
      exact ⟨rfl, rfl⟩
    · rw [decide_eq_true h0, decide_eq_false h1] at h
      subst h
      go_enter Tryz.func63, Tryz.ntmps63
      go_wp2
      go_ret
      exact ⟨rfl, rfl⟩
  · rw [decide_eq_false h0] at h
    subst h
    go_enter Tryz.func63, Tryz.ntmps63
    go_wp2
    go_ret
    exact ⟨rfl, rfl⟩
set_option maxRecDepth 10000 in
set_option maxHeartbeats 1000000 in
theorem shapeOf_out (K : Int) (N : ByteArray) (F : Int) (B : ByteArray) (C M : Int) (hin : (decide (1 ≤ K) && decide (K ≤ 12)) = false) (w : World) : Calls Tryz.prog 77 #[.agg #[.int .i64 K, .string N, .int .i64 F, .string B, .int .i64 C, .int .i64 M]] w fun e w' => e = .returned (.nilIface) ∧ Below w.heap.size w w' := by
  go_enter Tryz.func77, Tryz.ntmps77
  go_wp2_with (first | (refine wpList_box_v rfl 42 _ rfl [.int .i64 K, .string N, .int .i64 F, .string B, .int .i64 C, .int .i64 M] rfl ?_; intro b1 w1 hb1 hw1 hB1 V1; obtain ⟨c0, c1, c2, c3, c4, c5⟩ := cellsRp V1; have hz1 := hB1.size) | (go_at_call 63; refine (with_is K 1 12 _ hin _).mono ?_; rintro e wq ⟨rfl, hq⟩; subst wq) | (fail))
  go_ret
  exact ⟨rfl, hB1⟩
set_option maxRecDepth 10000 in
set_option maxHeartbeats 1000000 in
theorem shapeOf_val (N : ByteArray) (F : Int) (B : ByteArray) (C M : Int)  (w : World) : Calls Tryz.prog 77 #[.agg #[.int .i64 5, .string N, .int .i64 F, .string B, .int .i64 C, .int .i64 M]] w fun e w' => e = .returned (.iface 160 (.agg #[.string N, .int .i64 F, .string B, .int .i64 C])) ∧ Below w.heap.size w w' := by
  go_enter Tryz.func77, Tryz.ntmps77
  go_wp2_with (first | (refine wpList_box_v rfl 42 _ rfl [.int .i64 5, .string N, .int .i64 F, .string B, .int .i64 C, .int .i64 M] rfl ?_; intro b1 w1 hb1 hw1 hB1 V1; obtain ⟨c0, c1, c2, c3, c4, c5⟩ := cellsRp V1; have hz1 := hB1.size) | (go_at_call 63; refine (with_is 5 1 12 true (by decide) _).mono ?_; rintro e wq ⟨rfl, hq⟩; subst wq) | (fail))
  go_ret
  exact ⟨rfl, hB1⟩
set_option maxRecDepth 10000 in
set_option maxHeartbeats 1000000 in
theorem shapeOf_num (N : ByteArray) (F : Int) (B : ByteArray) (C M : Int)  (w : World) : Calls Tryz.prog 77 #[.agg #[.int .i64 6, .string N, .int .i64 F, .string B, .int .i64 C, .int .i64 M]] w fun e w' => e = .returned (.iface 158 (.int .i64 M)) ∧ Below w.heap.size w w' := by
  go_enter Tryz.func77, Tryz.ntmps77
  go_wp2_with (first | (refine wpList_box_v rfl 42 _ rfl [.int .i64 6, .string N, .int .i64 F, .string B, .int .i64 C, .int .i64 M] rfl ?_; intro b1 w1 hb1 hw1 hB1 V1; obtain ⟨c0, c1, c2, c3, c4, c5⟩ := cellsRp V1; have hz1 := hB1.size) | (go_at_call 63; refine (with_is 6 1 12 true (by decide) _).mono ?_; rintro e wq ⟨rfl, hq⟩; subst wq) | (fail))
  go_ret
  exact ⟨rfl, hB1⟩
set_option maxRecDepth 10000 in
set_option maxHeartbeats 1000000 in
theorem shapeOf_bare (K : Int) (N : ByteArray) (F : Int) (B : ByteArray) (C M : Int) (hin : (decide (1 ≤ K) && decide (K ≤ 12)) = true) (k5 : (K == 5) = false) (k6 : (K == 6) = false) (w : World) : Calls Tryz.prog 77 #[.agg #[.int .i64 K, .string N, .int .i64 F, .string B, .int .i64 C, .int .i64 M]] w fun e w' => e = .returned (.iface 156 (.int .i64 K)) ∧ Below w.heap.size w w' := by
  go_enter Tryz.func77, Tryz.ntmps77
  go_wp2_with (first | (refine wpList_box_v rfl 42 _ rfl [.int .i64 K, .string N, .int .i64 F, .string B, .int .i64 C, .int .i64 M] rfl ?_; intro b1 w1 hb1 hw1 hB1 V1; obtain ⟨c0, c1, c2, c3, c4, c5⟩ := cellsRp V1; have hz1 := hB1.size) | (go_at_call 63; refine (with_is K 1 12 _ hin _).mono ?_; rintro e wq ⟨rfl, hq⟩; subst wq) | (fail))
  go_ret
  exact ⟨rfl, hB1⟩
set_option maxRecDepth 10000 in
set_option maxHeartbeats 1000000 in
theorem right_nil   (w : World) : Calls Tryz.prog 82 #[.nilIface] w fun e w' => e = .returned (.bool false) ∧ w' = w := by
  have aB : ∀ w : World, (Instr.typeAssert .nilIface 103 156 true).run Tryz.prog w = .ok (.tuple #[.int .i64 0, .bool false]) w := fun _ => by kernel_rfl
  have aN : ∀ w : World, (Instr.typeAssert .nilIface 103 158 true).run Tryz.prog w = .ok (.tuple #[.int .i64 0, .bool false]) w := fun _ => by kernel_rfl
  have aV : ∀ w : World, (Instr.typeAssert .nilIface 103 160 true).run Tryz.prog w = .ok (.tuple #[.agg #[.string ⟨#[]⟩, .int .i64 0, .string ⟨#[]⟩, .int .i64 0], .bool false]) w := fun _ => by kernel_rfl
  go_enter Tryz.func82, Tryz.ntmps82
  go_wp2_with (fail)
  go_ret
  exact ⟨rfl, rfl⟩
set_option maxRecDepth 10000 in
set_option maxHeartbeats 1000000 in
theorem right_bare (K : Int)  (w : World) : Calls Tryz.prog 82 #[.iface 156 (.int .i64 K)] w fun e w' => e = .returned (.bool true) ∧ w' = w := by
  have aB : ∀ w : World, (Instr.typeAssert (.iface 156 (.int .i64 K)) 103 156 true).run Tryz.prog w = .ok (.tuple #[.int .i64 K, .bool true]) w := fun _ => by kernel_rfl
  go_enter Tryz.func82, Tryz.ntmps82
  go_wp2_with (fail)
  go_ret
  exact ⟨rfl, rfl⟩
set_option maxRecDepth 10000 in
set_option maxHeartbeats 1000000 in
theorem right_num (M : Int) (y : Bool) (hm : (decide (0 ≤ M) && decide (M ≤ 999999999)) = y) (w : World) : Calls Tryz.prog 82 #[.iface 158 (.int .i64 M)] w fun e w' => e = .returned (.bool y) ∧ w' = w := by
  have aB : ∀ w : World, (Instr.typeAssert (.iface 158 (.int .i64 M)) 103 156 true).run Tryz.prog w = .ok (.tuple #[.int .i64 0, .bool false]) w := fun _ => by kernel_rfl
  have aN : ∀ w : World, (Instr.typeAssert (.iface 158 (.int .i64 M)) 103 158 true).run Tryz.prog w = .ok (.tuple #[.int .i64 M, .bool true]) w := fun _ => by kernel_rfl
  go_enter Tryz.func82, Tryz.ntmps82
  go_wp2_with (first | (go_at_call 63; refine (with_is M 0 999999999 _ hm _).mono ?_; rintro e wq ⟨rfl, hq⟩; subst wq) | (fail))
  go_ret
  exact ⟨rfl, rfl⟩
set_option maxRecDepth 10000 in
set_option maxHeartbeats 1000000 in
theorem right_val (N : ByteArray) (F : Int) (B : ByteArray) (C : Int) (y : Bool) (hy : Hid ((nameB N && (decide (0 ≤ F) && decide (F ≤ 65535)) && decide ((B.size : Int) ≤ 64) && (decide (0 ≤ C) && decide (C ≤ 1000000))) = y)) (hN : N.size ≤ 9223372036854775807) (hB : B.size ≤ 9223372036854775807) (w : World) : Calls Tryz.prog 82 #[.iface 160 (.agg #[.string N, .int .i64 F, .string B, .int .i64 C])] w fun e w' => e = .returned (.bool y) ∧ Below w.heap.size w w' := by
  have aB : ∀ w : World, (Instr.typeAssert (.iface 160 (.agg #[.string N, .int .i64 F, .string B, .int .i64 C])) 103 156 true).run Tryz.prog w = .ok (.tuple #[.int .i64 0, .bool false]) w := fun _ => by kernel_rfl
  have aN : ∀ w : World, (Instr.typeAssert (.iface 160 (.agg #[.string N, .int .i64 F, .string B, .int .i64 C])) 103 158 true).run Tryz.prog w = .ok (.tuple #[.int .i64 0, .bool false]) w := fun _ => by kernel_rfl
  have aV : ∀ w : World, (Instr.typeAssert (.iface 160 (.agg #[.string N, .int .i64 F, .string B, .int .i64 C])) 103 160 true).run Tryz.prog w = .ok (.tuple #[.agg #[.string N, .int .i64 F, .string B, .int .i64 C], .bool true]) w := fun _ => by kernel_rfl
  obtain ⟨x1, h1⟩ := hid_ex (nameB N)
  obtain ⟨x2, h2⟩ := hid_ex (decide (0 ≤ F) && decide (F ≤ 65535))
  obtain ⟨x4, h4⟩ := hid_ex (decide (0 ≤ C) && decide (C ≤ 1000000))
  have m1 : Hid True := trivial
  have hy2 : (x1 && x2 && decide ((B.size : Int) ≤ 64) && x4) = y := by rw [← h1.out, ← h2.out, ← h4.out, ← hy.out]
  clear hy
  by_cases h3 : (B.size : Int) ≤ 64
  · rw [decide_eq_true h3] at hy2
    cases x1 with
    | false =>
      subst hy2
      go_enter Tryz.func82, Tryz.ntmps82
      go_wp2_with (first | (go_at_call 123; refine (implNameOk_any _ hN _).mono ?_; rintro e wq ⟨rfl, hq⟩; subst wq; rw [h1.out]) | (clear m1; go_at_call 63; refine (with_is F 0 65535 _ h2.out _).mono ?_; rintro e wq ⟨rfl, hq⟩; subst wq) | (go_at_call 63; refine (with_is C 0 1000000 _ h4.out _).mono ?_; rintro e wq ⟨rfl, hq⟩; subst wq) | (fail))
      go_ret
      exact ⟨rfl, (Below.refl _ w).alloc (Nat.le_refl _) _⟩
    | true =>
      cases x2 with
      | false =>
        subst hy2
        go_enter Tryz.func82, Tryz.ntmps82
        go_wp2_with (first | (go_at_call 123; refine (implNameOk_any _ hN _).mono ?_; rintro e wq ⟨rfl, hq⟩; subst wq; rw [h1.out]) | (clear m1; go_at_call 63; refine (with_is F 0 65535 _ h2.out _).mono ?_; rintro e wq ⟨rfl, hq⟩; subst wq) | (go_at_call 63; refine (with_is C 0 1000000 _ h4.out _).mono ?_; rintro e wq ⟨rfl, hq⟩; subst wq) | (fail))
        go_ret
        exact ⟨rfl, (Below.refl _ w).alloc (Nat.le_refl _) _⟩
      | true =>
        cases x4 with
        | false =>
          subst hy2
          go_enter Tryz.func82, Tryz.ntmps82
          go_wp2_with (first | (go_at_call 123; refine (implNameOk_any _ hN _).mono ?_; rintro e wq ⟨rfl, hq⟩; subst wq; rw [h1.out]) | (clear m1; go_at_call 63; refine (with_is F 0 65535 _ h2.out _).mono ?_; rintro e wq ⟨rfl, hq⟩; subst wq) | (go_at_call 63; refine (with_is C 0 1000000 _ h4.out _).mono ?_; rintro e wq ⟨rfl, hq⟩; subst wq) | (fail))
          go_ret
          exact ⟨rfl, (Below.refl _ w).alloc (Nat.le_refl _) _⟩
        | true =>
          subst hy2
          go_enter Tryz.func82, Tryz.ntmps82
          go_wp2_with (first | (go_at_call 123; refine (implNameOk_any _ hN _).mono ?_; rintro e wq ⟨rfl, hq⟩; subst wq; rw [h1.out]) | (clear m1; go_at_call 63; refine (with_is F 0 65535 _ h2.out _).mono ?_; rintro e wq ⟨rfl, hq⟩; subst wq) | (go_at_call 63; refine (with_is C 0 1000000 _ h4.out _).mono ?_; rintro e wq ⟨rfl, hq⟩; subst wq) | (fail))
          go_ret
          exact ⟨rfl, (Below.refl _ w).alloc (Nat.le_refl _) _⟩
  · rw [decide_eq_false h3, Bool.and_false, Bool.false_and] at hy2
    cases x1 with
    | false =>
      subst hy2
      go_enter Tryz.func82, Tryz.ntmps82
      go_wp2_with (first | (go_at_call 123; refine (implNameOk_any _ hN _).mono ?_; rintro e wq ⟨rfl, hq⟩; subst wq; rw [h1.out]) | (clear m1; go_at_call 63; refine (with_is F 0 65535 _ h2.out _).mono ?_; rintro e wq ⟨rfl, hq⟩; subst wq) | (fail))
      go_ret
      exact ⟨rfl, (Below.refl _ w).alloc (Nat.le_refl _) _⟩
    | true =>
      cases x2 with
      | false =>
        subst hy2
        go_enter Tryz.func82, Tryz.ntmps82
        go_wp2_with (first | (go_at_call 123; refine (implNameOk_any _ hN _).mono ?_; rintro e wq ⟨rfl, hq⟩; subst wq; rw [h1.out]) | (clear m1; go_at_call 63; refine (with_is F 0 65535 _ h2.out _).mono ?_; rintro e wq ⟨rfl, hq⟩; subst wq) | (fail))
        go_ret
        exact ⟨rfl, (Below.refl _ w).alloc (Nat.le_refl _) _⟩
      | true =>
        subst hy2
        go_enter Tryz.func82, Tryz.ntmps82
        go_wp2_with (first | (go_at_call 123; refine (implNameOk_any _ hN _).mono ?_; rintro e wq ⟨rfl, hq⟩; subst wq; rw [h1.out]) | (clear m1; go_at_call 63; refine (with_is F 0 65535 _ h2.out _).mono ?_; rintro e wq ⟨rfl, hq⟩; subst wq) | (fail))
        go_ret
        exact ⟨rfl, (Below.refl _ w).alloc (Nat.le_refl _) _⟩
set_option maxRecDepth 10000 in
set_option maxHeartbeats 1000000 in
theorem reply_bare (K : Int) (w : World) : Calls Tryz.prog 257 #[.int .i64 K] w fun e w' => e = .returned (.agg #[.int .i64 K, .string ⟨#[]⟩, .int .i64 0, .string ⟨#[]⟩, .int .i64 0, .int .i64 0]) ∧ Below w.heap.size w w' := by
  go_enter Tryz.func257, Tryz.ntmps257
  go_wp2_with (first | (refine wpList_alloc_v rfl 42 rfl _ zeroRp ?_; intro b2 w2 hb2 hw2 hB2 V2; have hz2 := hB2.size) | (refine wpList_store_v rfl 42 _ _ rfl b2 [.int .i64 K, .string ⟨#[]⟩, .int .i64 0, .string ⟨#[]⟩, .int .i64 0, .int .i64 0] rfl rfl sizeRp V2 rfl (oneRp ⟨K, ⟨#[]⟩, 0, ⟨#[]⟩, 0, 0⟩) ?_; intro w9 hO9 V9) | (fail))
  exact row_retv rfl rfl V9 Tryz.underlying42 sizeRp rfl ⟨rfl, hB2.trans (hO9.2.2 _ (by omega))⟩
set_option maxRecDepth 10000 in
set_option maxHeartbeats 1000000 in
theorem reply_numbered (M : Int) (w : World) : Calls Tryz.prog 258 #[.int .i64 M] w fun e w' => e = .returned (.agg #[.int .i64 6, .string ⟨#[]⟩, .int .i64 0, .string ⟨#[]⟩, .int .i64 0, .int .i64 M]) ∧ Below w.heap.size w w' := by
  go_enter Tryz.func258, Tryz.ntmps258
  go_wp2_with (first | (refine wpList_alloc_v rfl 42 rfl _ zeroRp ?_; intro b2 w2 hb2 hw2 hB2 V2; have hz2 := hB2.size) | (refine wpList_store_v rfl 42 _ _ rfl b2 [.int .i64 6, .string ⟨#[]⟩, .int .i64 0, .string ⟨#[]⟩, .int .i64 0, .int .i64 M] rfl rfl sizeRp V2 rfl (oneRp ⟨6, ⟨#[]⟩, 0, ⟨#[]⟩, 0, M⟩) ?_; intro w9 hO9 V9) | (fail))
  exact row_retv rfl rfl V9 Tryz.underlying42 sizeRp rfl ⟨rfl, hB2.trans (hO9.2.2 _ (by omega))⟩
set_option maxRecDepth 10000 in
set_option maxHeartbeats 1000000 in
theorem reply_valued (N : ByteArray) (F : Int) (B : ByteArray) (C : Int) (w : World) : Calls Tryz.prog 259 #[.agg #[.string N, .int .i64 F, .string B, .int .i64 C]] w fun e w' => e = .returned (.agg #[.int .i64 5, .string N, .int .i64 F, .string B, .int .i64 C, .int .i64 0]) ∧ Below w.heap.size w w' := by
  go_enter Tryz.func259, Tryz.ntmps259
  go_wp2_with (first | (refine wpList_box_v rfl 160 _ rfl [.string N, .int .i64 F, .string B, .int .i64 C] rfl ?_; intro b1 w1 hb1 hw1 hB1 V1; have hz1 := hB1.size) | (refine wpList_alloc_v rfl 42 rfl _ zeroRp ?_; intro b2 w2 hb2 hw2 hB2 V2; have hz2 := hB2.size; have V1b := vblk_grow V1 hB2; have y0 := V1b.cell 0 (by simp); have y1 := V1b.cell 1 (by simp); have y2 := V1b.cell 2 (by simp); have y3 := V1b.cell 3 (by simp); simp only [List.getElem_cons_zero, List.getElem_cons_succ] at y0 y1 y2 y3) | (refine wpList_store_v rfl 42 _ _ rfl b2 [.int .i64 5, .string N, .int .i64 F, .string B, .int .i64 C, .int .i64 0] rfl rfl sizeRp V2 rfl (oneRp ⟨5, N, F, B, C, 0⟩) ?_; intro w9 hO9 V9) | (fail))
  exact row_retv rfl rfl V9 Tryz.underlying42 sizeRp rfl ⟨rfl, (hB1.trans (hB2.mono hz1)).trans (hO9.2.2 _ (by omega))⟩
end Go.Proofs.YtaabmkhckbndgaaGreatDoor.cm
/- Contracts: is a reply right, the program's. -/
namespace Go.Proofs.YtaabmkhckbndgaaGreatDoor.cm
open Go.ChangeShapes Go.WideShapes Go.ChangeAt Go.RowKit
open Go.Deep Go.Joins
open Go.Proofs.YtaabmkhckbndgaaGreatDoor.ce Go.Proofs.YtaabmkhckbndgaaGreatDoor.ro Go.Proofs.YtaabmkhckbndgaaGreatDoor.rg
set_option linter.unusedVariables false

set_option maxRecDepth 100000 in
set_option maxHeartbeats 4000000 in
theorem okI_out (K : Int) (N : ByteArray) (F : Int) (B : ByteArray) (C M : Int) (hin : (decide (1 ≤ K) && decide (K ≤ 12)) = false) (w : World) : Calls Tryz.prog 30 #[.agg #[.int .i64 K, .string N, .int .i64 F, .string B, .int .i64 C, .int .i64 M]] w fun e w' => e = .returned (.bool false) ∧ Below w.heap.size w w' := by
  go_enter Tryz.func30, Tryz.ntmps30
  go_upto_region 2 with (first | (refine wpList_box_v rfl 42 _ rfl [.int .i64 K, .string N, .int .i64 F, .string B, .int .i64 C, .int .i64 M] rfl ?_; intro b1 w1 hb1 hw1 hB1 V1; obtain ⟨c0, c1, c2, c3, c4, c5⟩ := cellsRp V1; have hz1 := hB1.size) | (refine wpList_load_r rfl 42 _ rfl b1 0 [.int .i64 K, .string N, .int .i64 F, .string B, .int .i64 C, .int .i64 M] rfl _ Tryz.underlying42 rfl sizeRp V1.range ?_) | (go_at_call 77; refine (shapeOf_out K N F B C M hin _).mono ?_; rintro e w2 ⟨rfl, hB2⟩; have hz2 := hB2.size; have V1b := vblk_grow V1 hB2) | (fail))
  have hV : Hid (VBlk w2 b1 42 [.int .i64 K, .string N, .int .i64 F, .string B, .int .i64 C, .int .i64 M]) := V1b
  clear c0 c1 c2 c3 c4 c5
  refine wp_region_held_drew (S := fun w' => w'.cell? ⟨b1, 0, none⟩ = some (.int .i64 K) ∧ w'.cell? ⟨b1, 1, none⟩ = some (.string N) ∧ w'.cell? ⟨b1, 2, none⟩ = some (.int .i64 F) ∧ w'.cell? ⟨b1, 3, none⟩ = some (.string B) ∧ w'.cell? ⟨b1, 4, none⟩ = some (.int .i64 C) ∧ w'.cell? ⟨b1, 5, none⟩ = some (.int .i64 M)) (by kernel_rfl) (cellsRp (w := w2.drew) hV.out) (fun hHeld => ?_)
  refine wpAnyH_take (i := 0) (oi := { dst := some 6, op := Op.move (Operand.tmp 3), type := 103, pos := "l12_reply.go:159", after := #[], guard := none }) (v := ?_) rfl (by kernel_rfl) (by kernel_rfl) (by kernel_rfl) (fun _ _ _ h => h) (Or.inl ⟨by rfl, ?_⟩) (by assumption) ?_
  rotate_left 1
  · intro w' hSw
    (try dsimp only at hSw)
    go_simp
    (try with_reducible rfl)
  (try simp only [Act.put, List.setIfInBounds_toArray, List.set_cons_zero, List.set_cons_succ])
  refine wpAnyH_ready (rs := [1]) (by kernel_rfl) (by simp) ?_
  refine AllReadyH.cons (o := { dst := some 7, op := Op.call { callee := Callee.value (Operand.func 82), args := #[Operand.tmp 6], argTypes := #[103] }, type := 4, pos := "l12_reply.go:159", after := #[{ on := 0, ground := Ground.data }], guard := none }) rfl (fun KC hKC => ?_) AllReadyH.nil
  go_simp
  go_at_call 82
  refine (right_nil _).mono ?_
  rintro e w3 ⟨rfl, hq3⟩
  subst w3
  have hV3 : Hid (VBlk w2.drew b1 42 [.int .i64 K, .string N, .int .i64 F, .string B, .int .i64 C, .int .i64 M]) := hV
  have hB3 : Below w.heap.size w w2.drew := (hB1.trans (hB2.mono hz1)).drew
  refine hKC.out _ _ (cellsRp hV3.out) (fun hHeld2 => ?_)
  clear hKC KC hHeld
  have hHeld := hHeld2
  clear hHeld2
  (try simp only [Act.put, List.setIfInBounds_toArray, List.set_cons_zero, List.set_cons_succ])
  refine wpAnyH_take (i := 2) (oi := { dst := some 8, op := Op.move (Operand.tmp 7), type := 4, pos := "l12_reply.go:159", after := #[{ on := 1, ground := Ground.data }, { on := 1, ground := Ground.chain }], guard := none }) (v := ?_) rfl (by kernel_rfl) (by kernel_rfl) (by kernel_rfl) (fun _ _ _ h => h) (Or.inl ⟨by rfl, ?_⟩) (by assumption) ?_
  rotate_left 1
  · intro w' hSw
    (try dsimp only at hSw)
    go_simp
    (try with_reducible rfl)
  (try simp only [Act.put, List.setIfInBounds_toArray, List.set_cons_zero, List.set_cons_succ])
  refine wpAnyH_take (i := 3) (oi := { dst := some 9, op := Op.move (Operand.tmp 3), type := 103, pos := "l12_reply.go:159", after := #[{ on := 2, ground := Ground.guard }], guard := some (2, true) }) (v := undef) rfl (by kernel_rfl) (by kernel_rfl) (by kernel_rfl) (fun _ _ _ h => h) (Or.inr ⟨by rfl, rfl⟩) (by assumption) ?_
  (try simp only [Act.put, List.setIfInBounds_toArray, List.set_cons_zero, List.set_cons_succ])
  refine wpAnyH_take (i := 4) (oi := { dst := some 10, op := Op.call { callee := Callee.invoke (Operand.tmp 9) "loop.example/g00401/impl.reply", args := #[], argTypes := #[] }, type := 42, pos := "l12_reply.go:159", after := #[{ on := 3, ground := Ground.data }, { on := 2, ground := Ground.chain }, { on := 2, ground := Ground.guard }], guard := some (2, true) }) (v := undef) rfl (by kernel_rfl) (by kernel_rfl) (by kernel_rfl) (fun _ _ _ h => h) (Or.inr ⟨by rfl, rfl⟩) (by assumption) ?_
  (try simp only [Act.put, List.setIfInBounds_toArray, List.set_cons_zero, List.set_cons_succ])
  refine wpAnyH_take (i := 5) (oi := { dst := some 11, op := Op.load 42 (Operand.tmp 1), type := 42, pos := "l12_reply.go:159", after := #[{ on := 2, ground := Ground.guard }], guard := some (2, true) }) (v := undef) rfl (by kernel_rfl) (by kernel_rfl) (by kernel_rfl) (fun _ _ _ h => h) (Or.inr ⟨by rfl, rfl⟩) (by assumption) ?_
  (try simp only [Act.put, List.setIfInBounds_toArray, List.set_cons_zero, List.set_cons_succ])
  refine wpAnyH_take (i := 6) (oi := { dst := some 12, op := Op.binOp BinOp.eql 42 (Operand.tmp 10) (Operand.tmp 11) 42, type := 4, pos := "l12_reply.go:159", after := #[{ on := 4, ground := Ground.data }, { on := 5, ground := Ground.data }, { on := 2, ground := Ground.guard }], guard := some (2, true) }) (v := undef) rfl (by kernel_rfl) (by kernel_rfl) (by kernel_rfl) (fun _ _ _ h => h) (Or.inr ⟨by rfl, rfl⟩) (by assumption) ?_
  (try simp only [Act.put, List.setIfInBounds_toArray, List.set_cons_zero, List.set_cons_succ])
  refine wpAnyH_take (i := 7) (oi := { dst := some 13, op := Op.pick (Operand.tmp 8) (Operand.tmp 12) (Operand.const (Value.bool false)), type := 4, pos := "l12_reply.go:159", after := #[{ on := 2, ground := Ground.data }, { on := 6, ground := Ground.data }], guard := none }) (v := ?_) rfl (by kernel_rfl) (by kernel_rfl) (by kernel_rfl) (fun _ _ _ h => h) (Or.inl ⟨by rfl, ?_⟩) (by assumption) ?_
  rotate_left 1
  · intro w' hSw
    (try dsimp only at hSw)
    go_simp
    (try with_reducible rfl)
  (try simp only [Act.put, List.setIfInBounds_toArray, List.set_cons_zero, List.set_cons_succ])
  refine wpAnyH_take (i := 8) (oi := { dst := some 2, op := Op.assign (Operand.tmp 13), type := 4, pos := "l12_reply.go:159", after := #[{ on := 7, ground := Ground.data }, { on := 4, ground := Ground.chain }, { on := 0, ground := Ground.phase }, { on := 1, ground := Ground.phase }, { on := 2, ground := Ground.phase }, { on := 3, ground := Ground.phase }, { on := 4, ground := Ground.phase }, { on := 5, ground := Ground.phase }, { on := 6, ground := Ground.phase }, { on := 7, ground := Ground.phase }], guard := none }) (v := ?_) rfl (by kernel_rfl) (by kernel_rfl) (by kernel_rfl) (fun _ _ _ h => h) (Or.inl ⟨by rfl, ?_⟩) (by assumption) ?_
  rotate_left 1
  · intro w' hSw
    (try dsimp only at hSw)
    go_simp
    (try with_reducible rfl)
  (try simp only [Act.put, List.setIfInBounds_toArray, List.set_cons_zero, List.set_cons_succ])
  refine wpAnyH_done (by kernel_rfl) ?_ _
  go_wp2
  go_ret
  exact ⟨rfl, hB3⟩
set_option maxRecDepth 100000 in
set_option maxHeartbeats 4000000 in
theorem okI_bare (K : Int) (N : ByteArray) (F : Int) (B : ByteArray) (C M : Int) (y : Bool) (hy : Hid ((emB N && (F == 0) && emB B && (C == 0) && (M == 0)) = y)) (hin : (decide (1 ≤ K) && decide (K ≤ 12)) = true) (k5' : (K == 5) = false) (k6' : (K == 6) = false) (w : World) : Calls Tryz.prog 30 #[.agg #[.int .i64 K, .string N, .int .i64 F, .string B, .int .i64 C, .int .i64 M]] w fun e w' => e = .returned (.bool y) ∧ Below w.heap.size w w' := by
  obtain ⟨zN, eN⟩ := hid_ex (emB N)
  obtain ⟨pN, qN, rN⟩ := emB_facts eN.out
  obtain ⟨zF, eF⟩ := hid_ex (F == 0)
  have pF : (F == 0) = zF := eF.out
  have qF : ((0 : Int) == F) = zF := int_flip eF.out
  obtain ⟨zB, eB⟩ := hid_ex (emB B)
  obtain ⟨pB, qB, rB⟩ := emB_facts eB.out
  obtain ⟨zC, eC⟩ := hid_ex (C == 0)
  have pC : (C == 0) = zC := eC.out
  have qC : ((0 : Int) == C) = zC := int_flip eC.out
  obtain ⟨zM, eM⟩ := hid_ex (M == 0)
  have pM : (M == 0) = zM := eM.out
  have qM : ((0 : Int) == M) = zM := int_flip eM.out
  have hy3 : Hid ((zN && zF && zB && zC && zM) = y) := by unfold Hid; rw [← eN.out, ← eF.out, ← eB.out, ← eC.out, ← eM.out]; exact hy.out
  have sK : (K == K) = true := by simp
  clear hy
  have hM : ∀ w : World, (method 365 156 (.int .i64 K) "loop.example/g00401/impl.reply").run Tryz.prog w = .ok (257, .int .i64 K) w := fun w => by kernel_rfl
  have hC : ∀ (args : Array Value) (w : World), (callFunc 257 args).run Tryz.prog w = .ok (.enter 257 args) w := fun args w => by kernel_rfl
  go_enter Tryz.func30, Tryz.ntmps30
  go_upto_region 2 with (first | (refine wpList_box_v rfl 42 _ rfl [.int .i64 K, .string N, .int .i64 F, .string B, .int .i64 C, .int .i64 M] rfl ?_; intro b1 w1 hb1 hw1 hB1 V1; obtain ⟨c0, c1, c2, c3, c4, c5⟩ := cellsRp V1; have hz1 := hB1.size) | (refine wpList_load_r rfl 42 _ rfl b1 0 [.int .i64 K, .string N, .int .i64 F, .string B, .int .i64 C, .int .i64 M] rfl _ Tryz.underlying42 rfl sizeRp V1.range ?_) | (go_at_call 77; refine (shapeOf_bare K N F B C M hin k5' k6' _).mono ?_; rintro e w2 ⟨rfl, hB2⟩; have hz2 := hB2.size; have V1b := vblk_grow V1 hB2) | (fail))
  have hV : Hid (VBlk w2 b1 42 [.int .i64 K, .string N, .int .i64 F, .string B, .int .i64 C, .int .i64 M]) := V1b
  clear c0 c1 c2 c3 c4 c5
  refine wp_region_held_drew (S := fun w' => w'.cell? ⟨b1, 0, none⟩ = some (.int .i64 K) ∧ w'.cell? ⟨b1, 1, none⟩ = some (.string N) ∧ w'.cell? ⟨b1, 2, none⟩ = some (.int .i64 F) ∧ w'.cell? ⟨b1, 3, none⟩ = some (.string B) ∧ w'.cell? ⟨b1, 4, none⟩ = some (.int .i64 C) ∧ w'.cell? ⟨b1, 5, none⟩ = some (.int .i64 M)) (by kernel_rfl) (cellsRp (w := w2.drew) hV.out) (fun hHeld => ?_)
  refine wpAnyH_take (i := 0) (oi := { dst := some 6, op := Op.move (Operand.tmp 3), type := 103, pos := "l12_reply.go:159", after := #[], guard := none }) (v := ?_) rfl (by kernel_rfl) (by kernel_rfl) (by kernel_rfl) (fun _ _ _ h => h) (Or.inl ⟨by rfl, ?_⟩) (by assumption) ?_
  rotate_left 1
  · intro w' hSw
    (try dsimp only at hSw)
    go_simp
    (try with_reducible rfl)
  (try simp only [Act.put, List.setIfInBounds_toArray, List.set_cons_zero, List.set_cons_succ])
  refine wpAnyH_ready (rs := [1]) (by kernel_rfl) (by simp) ?_
  refine AllReadyH.cons (o := { dst := some 7, op := Op.call { callee := Callee.value (Operand.func 82), args := #[Operand.tmp 6], argTypes := #[103] }, type := 4, pos := "l12_reply.go:159", after := #[{ on := 0, ground := Ground.data }], guard := none }) rfl (fun KC hKC => ?_) AllReadyH.nil
  go_simp
  go_at_call 82
  refine (right_bare K _).mono ?_
  rintro e w3 ⟨rfl, hq3⟩
  subst w3
  have hV3 : Hid (VBlk w2.drew b1 42 [.int .i64 K, .string N, .int .i64 F, .string B, .int .i64 C, .int .i64 M]) := hV
  have hB3 : Below w.heap.size w w2.drew := (hB1.trans (hB2.mono hz1)).drew
  refine hKC.out _ _ (cellsRp hV3.out) (fun hHeld2 => ?_)
  clear hKC KC hHeld
  have hHeld := hHeld2
  clear hHeld2
  (try simp only [Act.put, List.setIfInBounds_toArray, List.set_cons_zero, List.set_cons_succ])
  refine wpAnyH_take (i := 2) (oi := { dst := some 8, op := Op.move (Operand.tmp 7), type := 4, pos := "l12_reply.go:159", after := #[{ on := 1, ground := Ground.data }, { on := 1, ground := Ground.chain }], guard := none }) (v := ?_) rfl (by kernel_rfl) (by kernel_rfl) (by kernel_rfl) (fun _ _ _ h => h) (Or.inl ⟨by rfl, ?_⟩) (by assumption) ?_
  rotate_left 1
  · intro w' hSw
    (try dsimp only at hSw)
    go_simp
    (try with_reducible rfl)
  (try simp only [Act.put, List.setIfInBounds_toArray, List.set_cons_zero, List.set_cons_succ])
  refine wpAnyH_take (i := 3) (oi := { dst := some 9, op := Op.move (Operand.tmp 3), type := 103, pos := "l12_reply.go:159", after := #[{ on := 2, ground := Ground.guard }], guard := some (2, true) }) (v := ?_) rfl (by kernel_rfl) (by kernel_rfl) (by kernel_rfl) (fun _ _ _ h => h) (Or.inl ⟨by rfl, ?_⟩) (by assumption) ?_
  rotate_left 1
  · intro w' hSw
    (try dsimp only at hSw)
    go_simp
    (try with_reducible rfl)
  (try simp only [Act.put, List.setIfInBounds_toArray, List.set_cons_zero, List.set_cons_succ])
  refine wpAnyH_take (i := 5) (oi := { dst := some 11, op := Op.load 42 (Operand.tmp 1), type := 42, pos := "l12_reply.go:159", after := #[{ on := 2, ground := Ground.guard }], guard := some (2, true) }) (v := ?_) rfl (by kernel_rfl) (by kernel_rfl) (by kernel_rfl) (fun _ _ _ h => h) (Or.inl ⟨by rfl, ?_⟩) (by assumption) ?_
  rotate_left 1
  · intro w' hSw
    (try dsimp only at hSw)
    go_simp
    (try with_reducible rfl)
  (try simp only [Act.put, List.setIfInBounds_toArray, List.set_cons_zero, List.set_cons_succ])
  refine wpAnyH_ready (rs := [4]) (by kernel_rfl) (by simp) ?_
  refine AllReadyH.cons (o := { dst := some 10, op := Op.call { callee := Callee.invoke (Operand.tmp 9) "loop.example/g00401/impl.reply", args := #[], argTypes := #[] }, type := 42, pos := "l12_reply.go:159", after := #[{ on := 3, ground := Ground.data }, { on := 2, ground := Ground.chain }, { on := 2, ground := Ground.guard }], guard := some (2, true) }) rfl (fun KC hKC => ?_) AllReadyH.nil
  go_simp
  go_at_call 257
  refine (reply_bare K _).mono ?_
  rintro e w4 ⟨rfl, hq4⟩
  have hV4 := vblk_grow hV3.out hq4
  have hB4 : Below w.heap.size w w4 := hB3.trans (hq4.mono hB3.size)
  refine hKC.out _ _ (cellsRp hV4) (fun hHeld2 => ?_)
  clear hKC KC hHeld
  have hHeld := hHeld2
  clear hHeld2
  (try simp only [Act.put, List.setIfInBounds_toArray, List.set_cons_zero, List.set_cons_succ])
  refine wpAnyH_take (i := 6) (oi := { dst := some 12, op := Op.binOp BinOp.eql 42 (Operand.tmp 10) (Operand.tmp 11) 42, type := 4, pos := "l12_reply.go:159", after := #[{ on := 4, ground := Ground.data }, { on := 5, ground := Ground.data }, { on := 2, ground := Ground.guard }], guard := some (2, true) }) (v := .bool (zN && zF && zB && zC && zM)) rfl (by kernel_rfl) (by kernel_rfl) (by kernel_rfl) (fun _ _ _ h => h) (Or.inl ⟨by rfl, ?_⟩) (by assumption) ?_
  · intro w' hSw
    (try dsimp only at hSw)
    go_simp
    cases zN <;> cases zF <;> cases zB <;> cases zC <;> cases zM <;> first | rfl | simp
  (try simp only [Act.put, List.setIfInBounds_toArray, List.set_cons_zero, List.set_cons_succ])
  refine wpAnyH_take (i := 7) (oi := { dst := some 13, op := Op.pick (Operand.tmp 8) (Operand.tmp 12) (Operand.const (Value.bool false)), type := 4, pos := "l12_reply.go:159", after := #[{ on := 2, ground := Ground.data }, { on := 6, ground := Ground.data }], guard := none }) (v := ?_) rfl (by kernel_rfl) (by kernel_rfl) (by kernel_rfl) (fun _ _ _ h => h) (Or.inl ⟨by rfl, ?_⟩) (by assumption) ?_
  rotate_left 1
  · intro w' hSw
    (try dsimp only at hSw)
    go_simp
    (try with_reducible rfl)
  (try simp only [Act.put, List.setIfInBounds_toArray, List.set_cons_zero, List.set_cons_succ])
  refine wpAnyH_take (i := 8) (oi := { dst := some 2, op := Op.assign (Operand.tmp 13), type := 4, pos := "l12_reply.go:159", after := #[{ on := 7, ground := Ground.data }, { on := 4, ground := Ground.chain }, { on := 0, ground := Ground.phase }, { on := 1, ground := Ground.phase }, { on := 2, ground := Ground.phase }, { on := 3, ground := Ground.phase }, { on := 4, ground := Ground.phase }, { on := 5, ground := Ground.phase }, { on := 6, ground := Ground.phase }, { on := 7, ground := Ground.phase }], guard := none }) (v := ?_) rfl (by kernel_rfl) (by kernel_rfl) (by kernel_rfl) (fun _ _ _ h => h) (Or.inl ⟨by rfl, ?_⟩) (by assumption) ?_
  rotate_left 1
  · intro w' hSw
    (try dsimp only at hSw)
    go_simp
    (try with_reducible rfl)
  (try simp only [Act.put, List.setIfInBounds_toArray, List.set_cons_zero, List.set_cons_succ])
  refine wpAnyH_done (by kernel_rfl) ?_ _
  go_wp2
  go_ret
  refine ⟨?_, hB4⟩
  rw [← hy3.out]
  cases zN <;> cases zF <;> cases zB <;> cases zC <;> cases zM <;> rfl
end Go.Proofs.YtaabmkhckbndgaaGreatDoor.cm
/- Contracts: is a reply right, the program's. -/
namespace Go.Proofs.YtaabmkhckbndgaaGreatDoor.cm
open Go.ChangeShapes Go.WideShapes Go.ChangeAt Go.RowKit
open Go.Deep Go.Joins
open Go.Proofs.YtaabmkhckbndgaaGreatDoor.ce Go.Proofs.YtaabmkhckbndgaaGreatDoor.ro Go.Proofs.YtaabmkhckbndgaaGreatDoor.rg
set_option linter.unusedVariables false

set_option maxRecDepth 100000 in
set_option maxHeartbeats 4000000 in
theorem okI_num (N : ByteArray) (F : Int) (B : ByteArray) (C M : Int) (y : Bool) (hy : Hid (((decide (0 ≤ M) && decide (M ≤ 999999999)) && (emB N && (F == 0) && emB B && (C == 0))) = y)) (w : World) : Calls Tryz.prog 30 #[.agg #[.int .i64 6, .string N, .int .i64 F, .string B, .int .i64 C, .int .i64 M]] w fun e w' => e = .returned (.bool y) ∧ Below w.heap.size w w' := by
  obtain ⟨x1, h1⟩ := hid_ex (decide (0 ≤ M) && decide (M ≤ 999999999))
  obtain ⟨zN, eN⟩ := hid_ex (emB N)
  obtain ⟨pN, qN, rN⟩ := emB_facts eN.out
  obtain ⟨zF, eF⟩ := hid_ex (F == 0)
  have pF : (F == 0) = zF := eF.out
  have qF : ((0 : Int) == F) = zF := int_flip eF.out
  obtain ⟨zB, eB⟩ := hid_ex (emB B)
  obtain ⟨pB, qB, rB⟩ := emB_facts eB.out
  obtain ⟨zC, eC⟩ := hid_ex (C == 0)
  have pC : (C == 0) = zC := eC.out
  have qC : ((0 : Int) == C) = zC := int_flip eC.out
  have hy2 : (x1 && (zN && zF && zB && zC)) = y := by rw [← h1.out, ← eN.out, ← eF.out, ← eB.out, ← eC.out]; exact hy.out
  have sM : (M == M) = true := by simp
  clear hy
  have hM : ∀ w : World, (method 365 158 (.int .i64 M) "loop.example/g00401/impl.reply").run Tryz.prog w = .ok (258, .int .i64 M) w := fun w => by kernel_rfl
  have hC : ∀ (args : Array Value) (w : World), (callFunc 258 args).run Tryz.prog w = .ok (.enter 258 args) w := fun args w => by kernel_rfl
  cases x1 with
  | false =>
    subst hy2
    go_enter Tryz.func30, Tryz.ntmps30
    go_upto_region 2 with (first | (refine wpList_box_v rfl 42 _ rfl [.int .i64 6, .string N, .int .i64 F, .string B, .int .i64 C, .int .i64 M] rfl ?_; intro b1 w1 hb1 hw1 hB1 V1; obtain ⟨c0, c1, c2, c3, c4, c5⟩ := cellsRp V1; have hz1 := hB1.size) | (refine wpList_load_r rfl 42 _ rfl b1 0 [.int .i64 6, .string N, .int .i64 F, .string B, .int .i64 C, .int .i64 M] rfl _ Tryz.underlying42 rfl sizeRp V1.range ?_) | (go_at_call 77; refine (shapeOf_num N F B C M _).mono ?_; rintro e w2 ⟨rfl, hB2⟩; have hz2 := hB2.size; have V1b := vblk_grow V1 hB2) | (fail))
    have hV : Hid (VBlk w2 b1 42 [.int .i64 6, .string N, .int .i64 F, .string B, .int .i64 C, .int .i64 M]) := V1b
    clear c0 c1 c2 c3 c4 c5
    refine wp_region_held_drew (S := fun w' => w'.cell? ⟨b1, 0, none⟩ = some (.int .i64 6) ∧ w'.cell? ⟨b1, 1, none⟩ = some (.string N) ∧ w'.cell? ⟨b1, 2, none⟩ = some (.int .i64 F) ∧ w'.cell? ⟨b1, 3, none⟩ = some (.string B) ∧ w'.cell? ⟨b1, 4, none⟩ = some (.int .i64 C) ∧ w'.cell? ⟨b1, 5, none⟩ = some (.int .i64 M)) (by kernel_rfl) (cellsRp (w := w2.drew) hV.out) (fun hHeld => ?_)
    refine wpAnyH_take (i := 0) (oi := { dst := some 6, op := Op.move (Operand.tmp 3), type := 103, pos := "l12_reply.go:159", after := #[], guard := none }) (v := ?_) rfl (by kernel_rfl) (by kernel_rfl) (by kernel_rfl) (fun _ _ _ h => h) (Or.inl ⟨by rfl, ?_⟩) (by assumption) ?_
    rotate_left 1
    · intro w' hSw
      (try dsimp only at hSw)
      go_simp
      (try with_reducible rfl)
    (try simp only [Act.put, List.setIfInBounds_toArray, List.set_cons_zero, List.set_cons_succ])
    refine wpAnyH_ready (rs := [1]) (by kernel_rfl) (by simp) ?_
    refine AllReadyH.cons (o := { dst := some 7, op := Op.call { callee := Callee.value (Operand.func 82), args := #[Operand.tmp 6], argTypes := #[103] }, type := 4, pos := "l12_reply.go:159", after := #[{ on := 0, ground := Ground.data }], guard := none }) rfl (fun KC hKC => ?_) AllReadyH.nil
    go_simp
    go_at_call 82
    refine (right_num M _ h1.out _).mono ?_
    rintro e w3 ⟨rfl, hq3⟩
    subst w3
    have hV3 : Hid (VBlk w2.drew b1 42 [.int .i64 6, .string N, .int .i64 F, .string B, .int .i64 C, .int .i64 M]) := hV
    have hB3 : Below w.heap.size w w2.drew := (hB1.trans (hB2.mono hz1)).drew
    refine hKC.out _ _ (cellsRp hV3.out) (fun hHeld2 => ?_)
    clear hKC KC hHeld
    have hHeld := hHeld2
    clear hHeld2
    (try simp only [Act.put, List.setIfInBounds_toArray, List.set_cons_zero, List.set_cons_succ])
    refine wpAnyH_take (i := 2) (oi := { dst := some 8, op := Op.move (Operand.tmp 7), type := 4, pos := "l12_reply.go:159", after := #[{ on := 1, ground := Ground.data }, { on := 1, ground := Ground.chain }], guard := none }) (v := ?_) rfl (by kernel_rfl) (by kernel_rfl) (by kernel_rfl) (fun _ _ _ h => h) (Or.inl ⟨by rfl, ?_⟩) (by assumption) ?_
    rotate_left 1
    · intro w' hSw
      (try dsimp only at hSw)
      go_simp
      (try with_reducible rfl)
    (try simp only [Act.put, List.setIfInBounds_toArray, List.set_cons_zero, List.set_cons_succ])
    refine wpAnyH_take (i := 3) (oi := { dst := some 9, op := Op.move (Operand.tmp 3), type := 103, pos := "l12_reply.go:159", after := #[{ on := 2, ground := Ground.guard }], guard := some (2, true) }) (v := undef) rfl (by kernel_rfl) (by kernel_rfl) (by kernel_rfl) (fun _ _ _ h => h) (Or.inr ⟨by rfl, rfl⟩) (by assumption) ?_
    (try simp only [Act.put, List.setIfInBounds_toArray, List.set_cons_zero, List.set_cons_succ])
    refine wpAnyH_take (i := 4) (oi := { dst := some 10, op := Op.call { callee := Callee.invoke (Operand.tmp 9) "loop.example/g00401/impl.reply", args := #[], argTypes := #[] }, type := 42, pos := "l12_reply.go:159", after := #[{ on := 3, ground := Ground.data }, { on := 2, ground := Ground.chain }, { on := 2, ground := Ground.guard }], guard := some (2, true) }) (v := undef) rfl (by kernel_rfl) (by kernel_rfl) (by kernel_rfl) (fun _ _ _ h => h) (Or.inr ⟨by rfl, rfl⟩) (by assumption) ?_
    (try simp only [Act.put, List.setIfInBounds_toArray, List.set_cons_zero, List.set_cons_succ])
    refine wpAnyH_take (i := 5) (oi := { dst := some 11, op := Op.load 42 (Operand.tmp 1), type := 42, pos := "l12_reply.go:159", after := #[{ on := 2, ground := Ground.guard }], guard := some (2, true) }) (v := undef) rfl (by kernel_rfl) (by kernel_rfl) (by kernel_rfl) (fun _ _ _ h => h) (Or.inr ⟨by rfl, rfl⟩) (by assumption) ?_
    (try simp only [Act.put, List.setIfInBounds_toArray, List.set_cons_zero, List.set_cons_succ])
    refine wpAnyH_take (i := 6) (oi := { dst := some 12, op := Op.binOp BinOp.eql 42 (Operand.tmp 10) (Operand.tmp 11) 42, type := 4, pos := "l12_reply.go:159", after := #[{ on := 4, ground := Ground.data }, { on := 5, ground := Ground.data }, { on := 2, ground := Ground.guard }], guard := some (2, true) }) (v := undef) rfl (by kernel_rfl) (by kernel_rfl) (by kernel_rfl) (fun _ _ _ h => h) (Or.inr ⟨by rfl, rfl⟩) (by assumption) ?_
    (try simp only [Act.put, List.setIfInBounds_toArray, List.set_cons_zero, List.set_cons_succ])
    refine wpAnyH_take (i := 7) (oi := { dst := some 13, op := Op.pick (Operand.tmp 8) (Operand.tmp 12) (Operand.const (Value.bool false)), type := 4, pos := "l12_reply.go:159", after := #[{ on := 2, ground := Ground.data }, { on := 6, ground := Ground.data }], guard := none }) (v := ?_) rfl (by kernel_rfl) (by kernel_rfl) (by kernel_rfl) (fun _ _ _ h => h) (Or.inl ⟨by rfl, ?_⟩) (by assumption) ?_
    rotate_left 1
    · intro w' hSw
      (try dsimp only at hSw)
      go_simp
      (try with_reducible rfl)
    (try simp only [Act.put, List.setIfInBounds_toArray, List.set_cons_zero, List.set_cons_succ])
    refine wpAnyH_take (i := 8) (oi := { dst := some 2, op := Op.assign (Operand.tmp 13), type := 4, pos := "l12_reply.go:159", after := #[{ on := 7, ground := Ground.data }, { on := 4, ground := Ground.chain }, { on := 0, ground := Ground.phase }, { on := 1, ground := Ground.phase }, { on := 2, ground := Ground.phase }, { on := 3, ground := Ground.phase }, { on := 4, ground := Ground.phase }, { on := 5, ground := Ground.phase }, { on := 6, ground := Ground.phase }, { on := 7, ground := Ground.phase }], guard := none }) (v := ?_) rfl (by kernel_rfl) (by kernel_rfl) (by kernel_rfl) (fun _ _ _ h => h) (Or.inl ⟨by rfl, ?_⟩) (by assumption) ?_
    rotate_left 1
    · intro w' hSw
      (try dsimp only at hSw)
      go_simp
      (try with_reducible rfl)
    (try simp only [Act.put, List.setIfInBounds_toArray, List.set_cons_zero, List.set_cons_succ])
    refine wpAnyH_done (by kernel_rfl) ?_ _
    go_wp2
    go_ret
    exact ⟨rfl, hB3⟩
  | true =>
    go_enter Tryz.func30, Tryz.ntmps30
    go_upto_region 2 with (first | (refine wpList_box_v rfl 42 _ rfl [.int .i64 6, .string N, .int .i64 F, .string B, .int .i64 C, .int .i64 M] rfl ?_; intro b1 w1 hb1 hw1 hB1 V1; obtain ⟨c0, c1, c2, c3, c4, c5⟩ := cellsRp V1; have hz1 := hB1.size) | (refine wpList_load_r rfl 42 _ rfl b1 0 [.int .i64 6, .string N, .int .i64 F, .string B, .int .i64 C, .int .i64 M] rfl _ Tryz.underlying42 rfl sizeRp V1.range ?_) | (go_at_call 77; refine (shapeOf_num N F B C M _).mono ?_; rintro e w2 ⟨rfl, hB2⟩; have hz2 := hB2.size; have V1b := vblk_grow V1 hB2) | (fail))
    have hV : Hid (VBlk w2 b1 42 [.int .i64 6, .string N, .int .i64 F, .string B, .int .i64 C, .int .i64 M]) := V1b
    clear c0 c1 c2 c3 c4 c5
    refine wp_region_held_drew (S := fun w' => w'.cell? ⟨b1, 0, none⟩ = some (.int .i64 6) ∧ w'.cell? ⟨b1, 1, none⟩ = some (.string N) ∧ w'.cell? ⟨b1, 2, none⟩ = some (.int .i64 F) ∧ w'.cell? ⟨b1, 3, none⟩ = some (.string B) ∧ w'.cell? ⟨b1, 4, none⟩ = some (.int .i64 C) ∧ w'.cell? ⟨b1, 5, none⟩ = some (.int .i64 M)) (by kernel_rfl) (cellsRp (w := w2.drew) hV.out) (fun hHeld => ?_)
    refine wpAnyH_take (i := 0) (oi := { dst := some 6, op := Op.move (Operand.tmp 3), type := 103, pos := "l12_reply.go:159", after := #[], guard := none }) (v := ?_) rfl (by kernel_rfl) (by kernel_rfl) (by kernel_rfl) (fun _ _ _ h => h) (Or.inl ⟨by rfl, ?_⟩) (by assumption) ?_
    rotate_left 1
    · intro w' hSw
      (try dsimp only at hSw)
      go_simp
      (try with_reducible rfl)
    (try simp only [Act.put, List.setIfInBounds_toArray, List.set_cons_zero, List.set_cons_succ])
    refine wpAnyH_ready (rs := [1]) (by kernel_rfl) (by simp) ?_
    refine AllReadyH.cons (o := { dst := some 7, op := Op.call { callee := Callee.value (Operand.func 82), args := #[Operand.tmp 6], argTypes := #[103] }, type := 4, pos := "l12_reply.go:159", after := #[{ on := 0, ground := Ground.data }], guard := none }) rfl (fun KC hKC => ?_) AllReadyH.nil
    go_simp
    go_at_call 82
    refine (right_num M _ h1.out _).mono ?_
    rintro e w3 ⟨rfl, hq3⟩
    subst w3
    have hV3 : Hid (VBlk w2.drew b1 42 [.int .i64 6, .string N, .int .i64 F, .string B, .int .i64 C, .int .i64 M]) := hV
    have hB3 : Below w.heap.size w w2.drew := (hB1.trans (hB2.mono hz1)).drew
    refine hKC.out _ _ (cellsRp hV3.out) (fun hHeld2 => ?_)
    clear hKC KC hHeld
    have hHeld := hHeld2
    clear hHeld2
    (try simp only [Act.put, List.setIfInBounds_toArray, List.set_cons_zero, List.set_cons_succ])
    refine wpAnyH_take (i := 2) (oi := { dst := some 8, op := Op.move (Operand.tmp 7), type := 4, pos := "l12_reply.go:159", after := #[{ on := 1, ground := Ground.data }, { on := 1, ground := Ground.chain }], guard := none }) (v := ?_) rfl (by kernel_rfl) (by kernel_rfl) (by kernel_rfl) (fun _ _ _ h => h) (Or.inl ⟨by rfl, ?_⟩) (by assumption) ?_
    rotate_left 1
    · intro w' hSw
      (try dsimp only at hSw)
      go_simp
      (try with_reducible rfl)
    (try simp only [Act.put, List.setIfInBounds_toArray, List.set_cons_zero, List.set_cons_succ])
    refine wpAnyH_take (i := 3) (oi := { dst := some 9, op := Op.move (Operand.tmp 3), type := 103, pos := "l12_reply.go:159", after := #[{ on := 2, ground := Ground.guard }], guard := some (2, true) }) (v := ?_) rfl (by kernel_rfl) (by kernel_rfl) (by kernel_rfl) (fun _ _ _ h => h) (Or.inl ⟨by rfl, ?_⟩) (by assumption) ?_
    rotate_left 1
    · intro w' hSw
      (try dsimp only at hSw)
      go_simp
      (try with_reducible rfl)
    (try simp only [Act.put, List.setIfInBounds_toArray, List.set_cons_zero, List.set_cons_succ])
    refine wpAnyH_take (i := 5) (oi := { dst := some 11, op := Op.load 42 (Operand.tmp 1), type := 42, pos := "l12_reply.go:159", after := #[{ on := 2, ground := Ground.guard }], guard := some (2, true) }) (v := ?_) rfl (by kernel_rfl) (by kernel_rfl) (by kernel_rfl) (fun _ _ _ h => h) (Or.inl ⟨by rfl, ?_⟩) (by assumption) ?_
    rotate_left 1
    · intro w' hSw
      (try dsimp only at hSw)
      go_simp
      (try with_reducible rfl)
    (try simp only [Act.put, List.setIfInBounds_toArray, List.set_cons_zero, List.set_cons_succ])
    refine wpAnyH_ready (rs := [4]) (by kernel_rfl) (by simp) ?_
    refine AllReadyH.cons (o := { dst := some 10, op := Op.call { callee := Callee.invoke (Operand.tmp 9) "loop.example/g00401/impl.reply", args := #[], argTypes := #[] }, type := 42, pos := "l12_reply.go:159", after := #[{ on := 3, ground := Ground.data }, { on := 2, ground := Ground.chain }, { on := 2, ground := Ground.guard }], guard := some (2, true) }) rfl (fun KC hKC => ?_) AllReadyH.nil
    go_simp
    go_at_call 258
    refine (reply_numbered M _).mono ?_
    rintro e w4 ⟨rfl, hq4⟩
    have hV4 := vblk_grow hV3.out hq4
    have hB4 : Below w.heap.size w w4 := hB3.trans (hq4.mono hB3.size)
    refine hKC.out _ _ (cellsRp hV4) (fun hHeld2 => ?_)
    clear hKC KC hHeld
    have hHeld := hHeld2
    clear hHeld2
    (try simp only [Act.put, List.setIfInBounds_toArray, List.set_cons_zero, List.set_cons_succ])
    refine wpAnyH_take (i := 6) (oi := { dst := some 12, op := Op.binOp BinOp.eql 42 (Operand.tmp 10) (Operand.tmp 11) 42, type := 4, pos := "l12_reply.go:159", after := #[{ on := 4, ground := Ground.data }, { on := 5, ground := Ground.data }, { on := 2, ground := Ground.guard }], guard := some (2, true) }) (v := .bool (zN && zF && zB && zC)) rfl (by kernel_rfl) (by kernel_rfl) (by kernel_rfl) (fun _ _ _ h => h) (Or.inl ⟨by rfl, ?_⟩) (by assumption) ?_
    · intro w' hSw
      (try dsimp only at hSw)
      go_simp
      cases zN <;> cases zF <;> cases zB <;> cases zC <;> first | rfl | simp
    (try simp only [Act.put, List.setIfInBounds_toArray, List.set_cons_zero, List.set_cons_succ])
    refine wpAnyH_take (i := 7) (oi := { dst := some 13, op := Op.pick (Operand.tmp 8) (Operand.tmp 12) (Operand.const (Value.bool false)), type := 4, pos := "l12_reply.go:159", after := #[{ on := 2, ground := Ground.data }, { on := 6, ground := Ground.data }], guard := none }) (v := ?_) rfl (by kernel_rfl) (by kernel_rfl) (by kernel_rfl) (fun _ _ _ h => h) (Or.inl ⟨by rfl, ?_⟩) (by assumption) ?_
    rotate_left 1
    · intro w' hSw
      (try dsimp only at hSw)
      go_simp
      (try with_reducible rfl)
    (try simp only [Act.put, List.setIfInBounds_toArray, List.set_cons_zero, List.set_cons_succ])
    refine wpAnyH_take (i := 8) (oi := { dst := some 2, op := Op.assign (Operand.tmp 13), type := 4, pos := "l12_reply.go:159", after := #[{ on := 7, ground := Ground.data }, { on := 4, ground := Ground.chain }, { on := 0, ground := Ground.phase }, { on := 1, ground := Ground.phase }, { on := 2, ground := Ground.phase }, { on := 3, ground := Ground.phase }, { on := 4, ground := Ground.phase }, { on := 5, ground := Ground.phase }, { on := 6, ground := Ground.phase }, { on := 7, ground := Ground.phase }], guard := none }) (v := ?_) rfl (by kernel_rfl) (by kernel_rfl) (by kernel_rfl) (fun _ _ _ h => h) (Or.inl ⟨by rfl, ?_⟩) (by assumption) ?_
    rotate_left 1
    · intro w' hSw
      (try dsimp only at hSw)
      go_simp
      (try with_reducible rfl)
    (try simp only [Act.put, List.setIfInBounds_toArray, List.set_cons_zero, List.set_cons_succ])
    refine wpAnyH_done (by kernel_rfl) ?_ _
    go_wp2
    go_ret
    refine ⟨?_, hB4⟩
    rw [← hy2]
    cases zN <;> cases zF <;> cases zB <;> cases zC <;> rfl
end Go.Proofs.YtaabmkhckbndgaaGreatDoor.cm
/- Contracts: is a reply right, the program's. -/
namespace Go.Proofs.YtaabmkhckbndgaaGreatDoor.cm
open Go.ChangeShapes Go.WideShapes Go.ChangeAt Go.RowKit
open Go.Deep Go.Joins
open Go.Proofs.YtaabmkhckbndgaaGreatDoor.ce Go.Proofs.YtaabmkhckbndgaaGreatDoor.ro Go.Proofs.YtaabmkhckbndgaaGreatDoor.rg
set_option linter.unusedVariables false

set_option maxRecDepth 100000 in
set_option maxHeartbeats 4000000 in
theorem okI_val (N : ByteArray) (F : Int) (B : ByteArray) (C M : Int) (y : Bool) (hy : Hid (((nameB N && (decide (0 ≤ F) && decide (F ≤ 65535)) && decide ((B.size : Int) ≤ 64) && (decide (0 ≤ C) && decide (C ≤ 1000000))) && (M == 0)) = y)) (hN : N.size ≤ 9223372036854775807) (hB : B.size ≤ 9223372036854775807) (w : World) : Calls Tryz.prog 30 #[.agg #[.int .i64 5, .string N, .int .i64 F, .string B, .int .i64 C, .int .i64 M]] w fun e w' => e = .returned (.bool y) ∧ Below w.heap.size w w' := by
  obtain ⟨x1, h1⟩ := hid_ex (nameB N && (decide (0 ≤ F) && decide (F ≤ 65535)) && decide ((B.size : Int) ≤ 64) && (decide (0 ≤ C) && decide (C ≤ 1000000)))
  obtain ⟨zM, eM⟩ := hid_ex (M == 0)
  have pM : (M == 0) = zM := eM.out
  have qM : ((0 : Int) == M) = zM := int_flip eM.out
  have hy2 : (x1 && zM) = y := by rw [← h1.out, ← eM.out]; exact hy.out
  clear hy
  have sN : (N.toList == N.toList) = true := by simp
  have sB : (B.toList == B.toList) = true := by simp
  have sF : (F == F) = true := by simp
  have sC : (C == C) = true := by simp
  have hM : ∀ w : World, (method 365 160 (.agg #[.string N, .int .i64 F, .string B, .int .i64 C]) "loop.example/g00401/impl.reply").run Tryz.prog w = .ok (259, .agg #[.string N, .int .i64 F, .string B, .int .i64 C]) w := fun w => by kernel_rfl
  have hC : ∀ (args : Array Value) (w : World), (callFunc 259 args).run Tryz.prog w = .ok (.enter 259 args) w := fun args w => by kernel_rfl
  cases x1 with
  | false =>
    subst hy2
    go_enter Tryz.func30, Tryz.ntmps30
    go_upto_region 2 with (first | (refine wpList_box_v rfl 42 _ rfl [.int .i64 5, .string N, .int .i64 F, .string B, .int .i64 C, .int .i64 M] rfl ?_; intro b1 w1 hb1 hw1 hB1 V1; obtain ⟨c0, c1, c2, c3, c4, c5⟩ := cellsRp V1; have hz1 := hB1.size) | (refine wpList_load_r rfl 42 _ rfl b1 0 [.int .i64 5, .string N, .int .i64 F, .string B, .int .i64 C, .int .i64 M] rfl _ Tryz.underlying42 rfl sizeRp V1.range ?_) | (go_at_call 77; refine (shapeOf_val N F B C M _).mono ?_; rintro e w2 ⟨rfl, hB2⟩; have hz2 := hB2.size; have V1b := vblk_grow V1 hB2) | (fail))
    have hV : Hid (VBlk w2 b1 42 [.int .i64 5, .string N, .int .i64 F, .string B, .int .i64 C, .int .i64 M]) := V1b
    clear c0 c1 c2 c3 c4 c5
    refine wp_region_held_drew (S := fun w' => w'.cell? ⟨b1, 0, none⟩ = some (.int .i64 5) ∧ w'.cell? ⟨b1, 1, none⟩ = some (.string N) ∧ w'.cell? ⟨b1, 2, none⟩ = some (.int .i64 F) ∧ w'.cell? ⟨b1, 3, none⟩ = some (.string B) ∧ w'.cell? ⟨b1, 4, none⟩ = some (.int .i64 C) ∧ w'.cell? ⟨b1, 5, none⟩ = some (.int .i64 M)) (by kernel_rfl) (cellsRp (w := w2.drew) hV.out) (fun hHeld => ?_)
    refine wpAnyH_take (i := 0) (oi := { dst := some 6, op := Op.move (Operand.tmp 3), type := 103, pos := "l12_reply.go:159", after := #[], guard := none }) (v := ?_) rfl (by kernel_rfl) (by kernel_rfl) (by kernel_rfl) (fun _ _ _ h => h) (Or.inl ⟨by rfl, ?_⟩) (by assumption) ?_
    rotate_left 1
    · intro w' hSw
      (try dsimp only at hSw)
      go_simp
      (try with_reducible rfl)
    (try simp only [Act.put, List.setIfInBounds_toArray, List.set_cons_zero, List.set_cons_succ])
    refine wpAnyH_ready (rs := [1]) (by kernel_rfl) (by simp) ?_
    refine AllReadyH.cons (o := { dst := some 7, op := Op.call { callee := Callee.value (Operand.func 82), args := #[Operand.tmp 6], argTypes := #[103] }, type := 4, pos := "l12_reply.go:159", after := #[{ on := 0, ground := Ground.data }], guard := none }) rfl (fun KC hKC => ?_) AllReadyH.nil
    go_simp
    go_at_call 82
    refine (right_val N F B C _ h1 hN hB _).mono ?_
    rintro e w3 ⟨rfl, hq3⟩
    have hV3 : Hid (VBlk w3 b1 42 [.int .i64 5, .string N, .int .i64 F, .string B, .int .i64 C, .int .i64 M]) := vblk_grow (w := w2.drew) hV.out hq3
    have hB3 : Below w.heap.size w w3 := (hB1.trans (hB2.mono hz1)).drew.trans (hq3.mono (by show w.heap.size ≤ w2.drew.heap.size; have : w2.drew.heap.size = w2.heap.size := rfl; omega))
    refine hKC.out _ _ (cellsRp hV3.out) (fun hHeld2 => ?_)
    clear hKC KC hHeld
    have hHeld := hHeld2
    clear hHeld2
    (try simp only [Act.put, List.setIfInBounds_toArray, List.set_cons_zero, List.set_cons_succ])
    refine wpAnyH_take (i := 2) (oi := { dst := some 8, op := Op.move (Operand.tmp 7), type := 4, pos := "l12_reply.go:159", after := #[{ on := 1, ground := Ground.data }, { on := 1, ground := Ground.chain }], guard := none }) (v := ?_) rfl (by kernel_rfl) (by kernel_rfl) (by kernel_rfl) (fun _ _ _ h => h) (Or.inl ⟨by rfl, ?_⟩) (by assumption) ?_
    rotate_left 1
    · intro w' hSw
      (try dsimp only at hSw)
      go_simp
      (try with_reducible rfl)
    (try simp only [Act.put, List.setIfInBounds_toArray, List.set_cons_zero, List.set_cons_succ])
    refine wpAnyH_take (i := 3) (oi := { dst := some 9, op := Op.move (Operand.tmp 3), type := 103, pos := "l12_reply.go:159", after := #[{ on := 2, ground := Ground.guard }], guard := some (2, true) }) (v := undef) rfl (by kernel_rfl) (by kernel_rfl) (by kernel_rfl) (fun _ _ _ h => h) (Or.inr ⟨by rfl, rfl⟩) (by assumption) ?_
    (try simp only [Act.put, List.setIfInBounds_toArray, List.set_cons_zero, List.set_cons_succ])
    refine wpAnyH_take (i := 4) (oi := { dst := some 10, op := Op.call { callee := Callee.invoke (Operand.tmp 9) "loop.example/g00401/impl.reply", args := #[], argTypes := #[] }, type := 42, pos := "l12_reply.go:159", after := #[{ on := 3, ground := Ground.data }, { on := 2, ground := Ground.chain }, { on := 2, ground := Ground.guard }], guard := some (2, true) }) (v := undef) rfl (by kernel_rfl) (by kernel_rfl) (by kernel_rfl) (fun _ _ _ h => h) (Or.inr ⟨by rfl, rfl⟩) (by assumption) ?_
    (try simp only [Act.put, List.setIfInBounds_toArray, List.set_cons_zero, List.set_cons_succ])
    refine wpAnyH_take (i := 5) (oi := { dst := some 11, op := Op.load 42 (Operand.tmp 1), type := 42, pos := "l12_reply.go:159", after := #[{ on := 2, ground := Ground.guard }], guard := some (2, true) }) (v := undef) rfl (by kernel_rfl) (by kernel_rfl) (by kernel_rfl) (fun _ _ _ h => h) (Or.inr ⟨by rfl, rfl⟩) (by assumption) ?_
    (try simp only [Act.put, List.setIfInBounds_toArray, List.set_cons_zero, List.set_cons_succ])
    refine wpAnyH_take (i := 6) (oi := { dst := some 12, op := Op.binOp BinOp.eql 42 (Operand.tmp 10) (Operand.tmp 11) 42, type := 4, pos := "l12_reply.go:159", after := #[{ on := 4, ground := Ground.data }, { on := 5, ground := Ground.data }, { on := 2, ground := Ground.guard }], guard := some (2, true) }) (v := undef) rfl (by kernel_rfl) (by kernel_rfl) (by kernel_rfl) (fun _ _ _ h => h) (Or.inr ⟨by rfl, rfl⟩) (by assumption) ?_
    (try simp only [Act.put, List.setIfInBounds_toArray, List.set_cons_zero, List.set_cons_succ])
    refine wpAnyH_take (i := 7) (oi := { dst := some 13, op := Op.pick (Operand.tmp 8) (Operand.tmp 12) (Operand.const (Value.bool false)), type := 4, pos := "l12_reply.go:159", after := #[{ on := 2, ground := Ground.data }, { on := 6, ground := Ground.data }], guard := none }) (v := ?_) rfl (by kernel_rfl) (by kernel_rfl) (by kernel_rfl) (fun _ _ _ h => h) (Or.inl ⟨by rfl, ?_⟩) (by assumption) ?_
    rotate_left 1
    · intro w' hSw
      (try dsimp only at hSw)
      go_simp
      (try with_reducible rfl)
    (try simp only [Act.put, List.setIfInBounds_toArray, List.set_cons_zero, List.set_cons_succ])
    refine wpAnyH_take (i := 8) (oi := { dst := some 2, op := Op.assign (Operand.tmp 13), type := 4, pos := "l12_reply.go:159", after := #[{ on := 7, ground := Ground.data }, { on := 4, ground := Ground.chain }, { on := 0, ground := Ground.phase }, { on := 1, ground := Ground.phase }, { on := 2, ground := Ground.phase }, { on := 3, ground := Ground.phase }, { on := 4, ground := Ground.phase }, { on := 5, ground := Ground.phase }, { on := 6, ground := Ground.phase }, { on := 7, ground := Ground.phase }], guard := none }) (v := ?_) rfl (by kernel_rfl) (by kernel_rfl) (by kernel_rfl) (fun _ _ _ h => h) (Or.inl ⟨by rfl, ?_⟩) (by assumption) ?_
    rotate_left 1
    · intro w' hSw
      (try dsimp only at hSw)
      go_simp
      (try with_reducible rfl)
    (try simp only [Act.put, List.setIfInBounds_toArray, List.set_cons_zero, List.set_cons_succ])
    refine wpAnyH_done (by kernel_rfl) ?_ _
    go_wp2
    go_ret
    exact ⟨rfl, hB3⟩
  | true =>
    go_enter Tryz.func30, Tryz.ntmps30
    go_upto_region 2 with (first | (refine wpList_box_v rfl 42 _ rfl [.int .i64 5, .string N, .int .i64 F, .string B, .int .i64 C, .int .i64 M] rfl ?_; intro b1 w1 hb1 hw1 hB1 V1; obtain ⟨c0, c1, c2, c3, c4, c5⟩ := cellsRp V1; have hz1 := hB1.size) | (refine wpList_load_r rfl 42 _ rfl b1 0 [.int .i64 5, .string N, .int .i64 F, .string B, .int .i64 C, .int .i64 M] rfl _ Tryz.underlying42 rfl sizeRp V1.range ?_) | (go_at_call 77; refine (shapeOf_val N F B C M _).mono ?_; rintro e w2 ⟨rfl, hB2⟩; have hz2 := hB2.size; have V1b := vblk_grow V1 hB2) | (fail))
    have hV : Hid (VBlk w2 b1 42 [.int .i64 5, .string N, .int .i64 F, .string B, .int .i64 C, .int .i64 M]) := V1b
    clear c0 c1 c2 c3 c4 c5
    refine wp_region_held_drew (S := fun w' => w'.cell? ⟨b1, 0, none⟩ = some (.int .i64 5) ∧ w'.cell? ⟨b1, 1, none⟩ = some (.string N) ∧ w'.cell? ⟨b1, 2, none⟩ = some (.int .i64 F) ∧ w'.cell? ⟨b1, 3, none⟩ = some (.string B) ∧ w'.cell? ⟨b1, 4, none⟩ = some (.int .i64 C) ∧ w'.cell? ⟨b1, 5, none⟩ = some (.int .i64 M)) (by kernel_rfl) (cellsRp (w := w2.drew) hV.out) (fun hHeld => ?_)
    refine wpAnyH_take (i := 0) (oi := { dst := some 6, op := Op.move (Operand.tmp 3), type := 103, pos := "l12_reply.go:159", after := #[], guard := none }) (v := ?_) rfl (by kernel_rfl) (by kernel_rfl) (by kernel_rfl) (fun _ _ _ h => h) (Or.inl ⟨by rfl, ?_⟩) (by assumption) ?_
    rotate_left 1
    · intro w' hSw
      (try dsimp only at hSw)
      go_simp
      (try with_reducible rfl)
    (try simp only [Act.put, List.setIfInBounds_toArray, List.set_cons_zero, List.set_cons_succ])
    refine wpAnyH_ready (rs := [1]) (by kernel_rfl) (by simp) ?_
    refine AllReadyH.cons (o := { dst := some 7, op := Op.call { callee := Callee.value (Operand.func 82), args := #[Operand.tmp 6], argTypes := #[103] }, type := 4, pos := "l12_reply.go:159", after := #[{ on := 0, ground := Ground.data }], guard := none }) rfl (fun KC hKC => ?_) AllReadyH.nil
    go_simp
    go_at_call 82
    refine (right_val N F B C _ h1 hN hB _).mono ?_
    rintro e w3 ⟨rfl, hq3⟩
    have hV3 : Hid (VBlk w3 b1 42 [.int .i64 5, .string N, .int .i64 F, .string B, .int .i64 C, .int .i64 M]) := vblk_grow (w := w2.drew) hV.out hq3
    have hB3 : Below w.heap.size w w3 := (hB1.trans (hB2.mono hz1)).drew.trans (hq3.mono (by show w.heap.size ≤ w2.drew.heap.size; have : w2.drew.heap.size = w2.heap.size := rfl; omega))
    refine hKC.out _ _ (cellsRp hV3.out) (fun hHeld2 => ?_)
    clear hKC KC hHeld
    have hHeld := hHeld2
    clear hHeld2
    (try simp only [Act.put, List.setIfInBounds_toArray, List.set_cons_zero, List.set_cons_succ])
    refine wpAnyH_take (i := 2) (oi := { dst := some 8, op := Op.move (Operand.tmp 7), type := 4, pos := "l12_reply.go:159", after := #[{ on := 1, ground := Ground.data }, { on := 1, ground := Ground.chain }], guard := none }) (v := ?_) rfl (by kernel_rfl) (by kernel_rfl) (by kernel_rfl) (fun _ _ _ h => h) (Or.inl ⟨by rfl, ?_⟩) (by assumption) ?_
    rotate_left 1
    · intro w' hSw
      (try dsimp only at hSw)
      go_simp
      (try with_reducible rfl)
    (try simp only [Act.put, List.setIfInBounds_toArray, List.set_cons_zero, List.set_cons_succ])
    refine wpAnyH_take (i := 3) (oi := { dst := some 9, op := Op.move (Operand.tmp 3), type := 103, pos := "l12_reply.go:159", after := #[{ on := 2, ground := Ground.guard }], guard := some (2, true) }) (v := ?_) rfl (by kernel_rfl) (by kernel_rfl) (by kernel_rfl) (fun _ _ _ h => h) (Or.inl ⟨by rfl, ?_⟩) (by assumption) ?_
    rotate_left 1
    · intro w' hSw
      (try dsimp only at hSw)
      go_simp
      (try with_reducible rfl)
    (try simp only [Act.put, List.setIfInBounds_toArray, List.set_cons_zero, List.set_cons_succ])
    refine wpAnyH_take (i := 5) (oi := { dst := some 11, op := Op.load 42 (Operand.tmp 1), type := 42, pos := "l12_reply.go:159", after := #[{ on := 2, ground := Ground.guard }], guard := some (2, true) }) (v := ?_) rfl (by kernel_rfl) (by kernel_rfl) (by kernel_rfl) (fun _ _ _ h => h) (Or.inl ⟨by rfl, ?_⟩) (by assumption) ?_
    rotate_left 1
    · intro w' hSw
      (try dsimp only at hSw)
      go_simp
      (try with_reducible rfl)
    (try simp only [Act.put, List.setIfInBounds_toArray, List.set_cons_zero, List.set_cons_succ])
    refine wpAnyH_ready (rs := [4]) (by kernel_rfl) (by simp) ?_
    refine AllReadyH.cons (o := { dst := some 10, op := Op.call { callee := Callee.invoke (Operand.tmp 9) "loop.example/g00401/impl.reply", args := #[], argTypes := #[] }, type := 42, pos := "l12_reply.go:159", after := #[{ on := 3, ground := Ground.data }, { on := 2, ground := Ground.chain }, { on := 2, ground := Ground.guard }], guard := some (2, true) }) rfl (fun KC hKC => ?_) AllReadyH.nil
    go_simp
    go_at_call 259
    refine (reply_valued N F B C _).mono ?_
    rintro e w4 ⟨rfl, hq4⟩
    have hV4 := vblk_grow hV3.out hq4
    have hB4 : Below w.heap.size w w4 := hB3.trans (hq4.mono hB3.size)
    refine hKC.out _ _ (cellsRp hV4) (fun hHeld2 => ?_)
    clear hKC KC hHeld
    have hHeld := hHeld2
    clear hHeld2
    (try simp only [Act.put, List.setIfInBounds_toArray, List.set_cons_zero, List.set_cons_succ])
    refine wpAnyH_take (i := 6) (oi := { dst := some 12, op := Op.binOp BinOp.eql 42 (Operand.tmp 10) (Operand.tmp 11) 42, type := 4, pos := "l12_reply.go:159", after := #[{ on := 4, ground := Ground.data }, { on := 5, ground := Ground.data }, { on := 2, ground := Ground.guard }], guard := some (2, true) }) (v := .bool (zM)) rfl (by kernel_rfl) (by kernel_rfl) (by kernel_rfl) (fun _ _ _ h => h) (Or.inl ⟨by rfl, ?_⟩) (by assumption) ?_
    · intro w' hSw
      (try dsimp only at hSw)
      go_simp
      cases zM <;> first | rfl | simp
    (try simp only [Act.put, List.setIfInBounds_toArray, List.set_cons_zero, List.set_cons_succ])
    refine wpAnyH_take (i := 7) (oi := { dst := some 13, op := Op.pick (Operand.tmp 8) (Operand.tmp 12) (Operand.const (Value.bool false)), type := 4, pos := "l12_reply.go:159", after := #[{ on := 2, ground := Ground.data }, { on := 6, ground := Ground.data }], guard := none }) (v := ?_) rfl (by kernel_rfl) (by kernel_rfl) (by kernel_rfl) (fun _ _ _ h => h) (Or.inl ⟨by rfl, ?_⟩) (by assumption) ?_
    rotate_left 1
    · intro w' hSw
      (try dsimp only at hSw)
      go_simp
      (try with_reducible rfl)
    (try simp only [Act.put, List.setIfInBounds_toArray, List.set_cons_zero, List.set_cons_succ])
    refine wpAnyH_take (i := 8) (oi := { dst := some 2, op := Op.assign (Operand.tmp 13), type := 4, pos := "l12_reply.go:159", after := #[{ on := 7, ground := Ground.data }, { on := 4, ground := Ground.chain }, { on := 0, ground := Ground.phase }, { on := 1, ground := Ground.phase }, { on := 2, ground := Ground.phase }, { on := 3, ground := Ground.phase }, { on := 4, ground := Ground.phase }, { on := 5, ground := Ground.phase }, { on := 6, ground := Ground.phase }, { on := 7, ground := Ground.phase }], guard := none }) (v := ?_) rfl (by kernel_rfl) (by kernel_rfl) (by kernel_rfl) (fun _ _ _ h => h) (Or.inl ⟨by rfl, ?_⟩) (by assumption) ?_
    rotate_left 1
    · intro w' hSw
      (try dsimp only at hSw)
      go_simp
      (try with_reducible rfl)
    (try simp only [Act.put, List.setIfInBounds_toArray, List.set_cons_zero, List.set_cons_succ])
    refine wpAnyH_done (by kernel_rfl) ?_ _
    go_wp2
    go_ret
    refine ⟨?_, hB4⟩
    rw [← hy2]
    cases zM <;> rfl
end Go.Proofs.YtaabmkhckbndgaaGreatDoor.cm
