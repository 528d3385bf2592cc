/- Contracts of chapter 15: Counted of the program; TallyOk and Counted of the model. -/
import Derived.Test.YtfdkcldbbfgaiaaDoorTl2
namespace Go.Proofs.YtfdkcldbbfgaiaaDoor.rg
open Go.ChangeShapes Go.WideShapes Go.ChangeAt Go.RowKit
open Go.Deep Go.Joins
open Go.Proofs.YtfdkcldbbfgaiaaDoor.ce Go.Proofs.YtfdkcldbbfgaiaaDoor.ro Go.Proofs.YtfdkcldbbfgaiaaDoor.cm
set_option linter.unusedVariables false

def tlV (t : Tl) : Array Value := #[.int .i64 t.A, .int .i64 t.H, .int .i64 t.S, .int .i64 t.D, .int .i64 t.O]
def entR' (b : Bool) (t : Tl) : List (Int × Int) := if b = true then ent t else []
theorem co_get (t : Tl) (c : Cm) (r : Rp) : (Value.agg #[.int .i64 ((mget (rsL (entR t) (hdV c.V ++ hdK r.K)) 0).getD 0), .int .i64 ((mget (rsL (entR t) (hdV c.V ++ hdK r.K)) 1).getD 0), .int .i64 ((mget (rsL (entR t) (hdV c.V ++ hdK r.K)) 2).getD 0), .int .i64 ((mget (rsL (entR t) (hdV c.V ++ hdK r.K)) 3).getD 0), .int .i64 ((mget (rsL (entR t) (hdV c.V ++ hdK r.K)) 4).getD 0)]) = .agg (csTl (coT t c r)).toArray := by
  rw [rs_ent]
  unfold coT
  split
  · rfl
  · rfl
set_option maxHeartbeats 2000000 in
theorem specTallyOk_any (A H S D O : Int) (y : Bool) (hy : Hid (tallyB ⟨A, H, S, D, O⟩ = y)) (w : World) :
    Calls Tryd.prog 7 #[.agg #[.int .i64 A, .int .i64 H, .int .i64 S, .int .i64 D, .int .i64 O]] w fun e w' => e = .returned (.bool y) ∧ Below w.heap.size w w' := by
  have hy2 : Hid ((inT A && inT H && inT S && inT D && inT O) = y) := hy
  clear hy
  obtain ⟨zA, hA⟩ := hid_ex (inT A)
  obtain ⟨zH, hH⟩ := hid_ex (inT H)
  obtain ⟨zS, hS⟩ := hid_ex (inT S)
  obtain ⟨zD, hD⟩ := hid_ex (inT D)
  obtain ⟨zO, hO⟩ := hid_ex (inT O)
  rw [hA.out, hH.out, hS.out, hD.out, hO.out] at hy2
  cases zA with
  | false =>
    have hy3 : y = false := by rw [← hy2.out]; rfl
    clear hy2
    subst hy3
    have k0 : Hid True := trivial
    go_enter Tryd.func7, Tryd.ntmps7
    go_wp2_with (first | (refine wpList_box_v rfl 25 _ rfl [.int .i64 A, .int .i64 H, .int .i64 S, .int .i64 D, .int .i64 O] rfl ?_; intro b1 w1 hb1 hw1 hB1 V1; obtain ⟨c0, c1, c2, c3, c4⟩ := cellsTl V1) | (clear k0; go_at_call 11; refine (l15In_any A _).mono ?_; rintro e wq ⟨rfl, hq⟩; subst wq; rw [hA.out]) | (fail))
    go_ret
    exact ⟨rfl, hB1⟩
  | true =>
    cases zH with
    | false =>
      have hy3 : y = false := by rw [← hy2.out]; rfl
      clear hy2
      subst hy3
      have k0 : Hid True := trivial
      have k1 : Hid True := trivial
      go_enter Tryd.func7, Tryd.ntmps7
      go_wp2_with (first | (refine wpList_box_v rfl 25 _ rfl [.int .i64 A, .int .i64 H, .int .i64 S, .int .i64 D, .int .i64 O] rfl ?_; intro b1 w1 hb1 hw1 hB1 V1; obtain ⟨c0, c1, c2, c3, c4⟩ := cellsTl V1) | (clear k0; go_at_call 11; refine (l15In_any A _).mono ?_; rintro e wq ⟨rfl, hq⟩; subst wq; rw [hA.out]) | (clear k1; go_at_call 11; refine (l15In_any H _).mono ?_; rintro e wq ⟨rfl, hq⟩; subst wq; rw [hH.out]) | (fail))
      go_ret
      exact ⟨rfl, hB1⟩
    | true =>
      cases zS with
      | false =>
        have hy3 : y = false := by rw [← hy2.out]; rfl
        clear hy2
        subst hy3
        have k0 : Hid True := trivial
        have k1 : Hid True := trivial
        have k2 : Hid True := trivial
        go_enter Tryd.func7, Tryd.ntmps7
        go_wp2_with (first | (refine wpList_box_v rfl 25 _ rfl [.int .i64 A, .int .i64 H, .int .i64 S, .int .i64 D, .int .i64 O] rfl ?_; intro b1 w1 hb1 hw1 hB1 V1; obtain ⟨c0, c1, c2, c3, c4⟩ := cellsTl V1) | (clear k0; go_at_call 11; refine (l15In_any A _).mono ?_; rintro e wq ⟨rfl, hq⟩; subst wq; rw [hA.out]) | (clear k1; go_at_call 11; refine (l15In_any H _).mono ?_; rintro e wq ⟨rfl, hq⟩; subst wq; rw [hH.out]) | (clear k2; go_at_call 11; refine (l15In_any S _).mono ?_; rintro e wq ⟨rfl, hq⟩; subst wq; rw [hS.out]) | (fail))
        go_ret
        exact ⟨rfl, hB1⟩
      | true =>
        cases zD with
        | false =>
          have hy3 : y = false := by rw [← hy2.out]; rfl
          clear hy2
          subst hy3
          have k0 : Hid True := trivial
          have k1 : Hid True := trivial
          have k2 : Hid True := trivial
          have k3 : Hid True := trivial
          go_enter Tryd.func7, Tryd.ntmps7
          go_wp2_with (first | (refine wpList_box_v rfl 25 _ rfl [.int .i64 A, .int .i64 H, .int .i64 S, .int .i64 D, .int .i64 O] rfl ?_; intro b1 w1 hb1 hw1 hB1 V1; obtain ⟨c0, c1, c2, c3, c4⟩ := cellsTl V1) | (clear k0; go_at_call 11; refine (l15In_any A _).mono ?_; rintro e wq ⟨rfl, hq⟩; subst wq; rw [hA.out]) | (clear k1; go_at_call 11; refine (l15In_any H _).mono ?_; rintro e wq ⟨rfl, hq⟩; subst wq; rw [hH.out]) | (clear k2; go_at_call 11; refine (l15In_any S _).mono ?_; rintro e wq ⟨rfl, hq⟩; subst wq; rw [hS.out]) | (clear k3; go_at_call 11; refine (l15In_any D _).mono ?_; rintro e wq ⟨rfl, hq⟩; subst wq; rw [hD.out]) | (fail))
          go_ret
          exact ⟨rfl, hB1⟩
        | true =>
          cases zO with
          | false =>
            have hy3 : y = false := by rw [← hy2.out]; rfl
            clear hy2
            subst hy3
            have k0 : Hid True := trivial
            have k1 : Hid True := trivial
            have k2 : Hid True := trivial
            have k3 : Hid True := trivial
            have k4 : Hid True := trivial
            go_enter Tryd.func7, Tryd.ntmps7
            go_wp2_with (first | (refine wpList_box_v rfl 25 _ rfl [.int .i64 A, .int .i64 H, .int .i64 S, .int .i64 D, .int .i64 O] rfl ?_; intro b1 w1 hb1 hw1 hB1 V1; obtain ⟨c0, c1, c2, c3, c4⟩ := cellsTl V1) | (clear k0; go_at_call 11; refine (l15In_any A _).mono ?_; rintro e wq ⟨rfl, hq⟩; subst wq; rw [hA.out]) | (clear k1; go_at_call 11; refine (l15In_any H _).mono ?_; rintro e wq ⟨rfl, hq⟩; subst wq; rw [hH.out]) | (clear k2; go_at_call 11; refine (l15In_any S _).mono ?_; rintro e wq ⟨rfl, hq⟩; subst wq; rw [hS.out]) | (clear k3; go_at_call 11; refine (l15In_any D _).mono ?_; rintro e wq ⟨rfl, hq⟩; subst wq; rw [hD.out]) | (clear k4; go_at_call 11; refine (l15In_any O _).mono ?_; rintro e wq ⟨rfl, hq⟩; subst wq; rw [hO.out]) | (fail))
            go_ret
            exact ⟨rfl, hB1⟩
          | true =>
            have hy3 : y = true := by rw [← hy2.out]; rfl
            clear hy2
            subst hy3
            have k0 : Hid True := trivial
            have k1 : Hid True := trivial
            have k2 : Hid True := trivial
            have k3 : Hid True := trivial
            have k4 : Hid True := trivial
            go_enter Tryd.func7, Tryd.ntmps7
            go_wp2_with (first | (refine wpList_box_v rfl 25 _ rfl [.int .i64 A, .int .i64 H, .int .i64 S, .int .i64 D, .int .i64 O] rfl ?_; intro b1 w1 hb1 hw1 hB1 V1; obtain ⟨c0, c1, c2, c3, c4⟩ := cellsTl V1) | (clear k0; go_at_call 11; refine (l15In_any A _).mono ?_; rintro e wq ⟨rfl, hq⟩; subst wq; rw [hA.out]) | (clear k1; go_at_call 11; refine (l15In_any H _).mono ?_; rintro e wq ⟨rfl, hq⟩; subst wq; rw [hH.out]) | (clear k2; go_at_call 11; refine (l15In_any S _).mono ?_; rintro e wq ⟨rfl, hq⟩; subst wq; rw [hS.out]) | (clear k3; go_at_call 11; refine (l15In_any D _).mono ?_; rintro e wq ⟨rfl, hq⟩; subst wq; rw [hD.out]) | (clear k4; go_at_call 11; refine (l15In_any O _).mono ?_; rintro e wq ⟨rfl, hq⟩; subst wq; rw [hO.out]) | (fail))
            go_ret
            exact ⟨rfl, hB1⟩
theorem vblk_within {lo hi : Nat} {w w' : World} {b : Nat} {T : TypeId} {vs : List Value} (h : VBlk w b T vs) (k : Within lo hi w w') (hn : b < lo ∨ hi ≤ b) : VBlk w' b T vs := h.of (k.block b h.lt hn)
end Go.Proofs.YtfdkcldbbfgaiaaDoor.rg
