/- What DrawParentOf draws: whatever the bytes, a number from -1 to 40000; nothing that was there is written. -/
import Derived.Test.YtmbmnodfcenjbaaDraw1
import Derived.Deep.RegionWith
namespace Go.Proofs.Ytmbmnodfcenjbaa.draw
open Go.ChangeShapes Go.WideShapes Go.ChangeAt Go.RowKit
set_option linter.unusedVariables false

theorem cur_drew {w : World} {p : Nat} {a0 : Option Addr} {len cap : Nat} (h : Cur w p a0 len cap) : Cur w.drew p a0 len cap := h
theorem gb_drew {w w' : World} {r : Option Nat} (h : w.grownBy w' r) : w.grownBy w'.drew r := ⟨h.os, h.tape, h.output, h.size, h.block⟩

theorem below_reg (w0 w : World) (p : Nat) (a0 : Option Addr) (len cap : Nat) (n : Int) (hn : 1 ≤ n) (hc : Cur w p a0 len cap) (hg : w0.grownBy w (some p)) :
    Calls Try.prog 22 #[.pointer (some ⟨p, 0, none⟩), .int .i64 n] w fun e w' => ∃ x : Int, e = .returned (.int .i64 x) ∧ 0 ≤ x ∧ x < n ∧ Cur w' p a0 len cap ∧ w0.grownBy w' (some p) ∧ p < w'.heap.size ∧ w.heap.size ≤ w'.heap.size ∧
      (∀ b o, b < w.heap.size → p < b → w'.cell? ⟨b, o, none⟩ = w.cell? ⟨b, o, none⟩) :=
  (below_from w w p a0 len cap n hn hc (World.grownBy.refl _ _)).mono fun e w' ⟨x, h1, h2, h3, h4, h5⟩ => ⟨x, h1, h2, h3, h4, gb_trans hg h5, h4.1, h5.size, fun b o hb hne => gb_cell h5 hb (by omega) o⟩

def lit (x : Int) : Int := [0, 1, 2, 3, 5, 32767, 32768, -1].getD x.toNat 0
theorem lit_bd (x : Int) : -1 ≤ lit x ∧ lit x ≤ 32768 := by
  unfold lit
  rcases h : x.toNat with _ | _ | _ | _ | _ | _ | _ | _ | n <;> simp

set_option maxHeartbeats 1000000 in
theorem drawParentOf_any (w : World) (a0 : Option Addr) (len cap : Nat) (hcode : CodeAt w a0 len) :
    Calls Try.prog 13 #[.slice a0 len cap] w fun e w' => ∃ x : Int, e = .returned (.int .i64 x) ∧ -1 ≤ x ∧ x ≤ 40000 ∧ Below w.heap.size w w' := by
  have hlit : ∀ x : Int, 0 ≤ x → x < 8 → (#[Value.int .i64 0, .int .i64 1, .int .i64 2, .int .i64 3, .int .i64 5, .int .i64 32767, .int .i64 32768, .int .i64 (-1)] : Array Value)[x.toNat]? = some (.int .i64 (lit x)) := by
    intro x h0 h1
    unfold lit
    rcases h : x.toNat with _ | _ | _ | _ | _ | _ | _ | _ | n
    all_goals first | rfl | omega
  have hlit2 : ∀ (x : Int) (h : x.toNat < [Value.int .i64 0, .int .i64 1, .int .i64 2, .int .i64 3, .int .i64 5, .int .i64 32767, .int .i64 32768, .int .i64 (-1)].length), ([Value.int .i64 0, .int .i64 1, .int .i64 2, .int .i64 3, .int .i64 5, .int .i64 32767, .int .i64 32768, .int .i64 (-1)])[x.toNat]'h = .int .i64 (lit x) := by
    intro x h
    have h8 : x.toNat < 8 := h
    by_cases h0 : 0 ≤ x
    · have e := hlit x h0 (by omega)
      simp only [List.getElem?_toArray] at e
      rw [List.getElem?_eq_getElem h] at e
      exact Option.some.inj e
    · have e : x.toNat = 0 := by omega
      simp only [e, lit]; rfl
  go_enter Try.func13, Try.ntmps13
  go_wp2_with (go_at_call 20; refine (new_cur _ _ _ _ hcode).mono ?_; rintro e w1 ⟨p, rfl, hp, hc, hB⟩)
  have hg := World.grownBy.refl w1 (some p)
  have hp1 := hc.1
  clear hcode
  go_wp2
  have hmark : Hid (0 = 0) := rfl
  go_region_with (first | (go_at_call 22; have hm2 := hmark; clear hm2 hmark; refine (below_reg w1 _ p a0 len cap _ (by omega) (by first | assumption | exact cur_drew (cur_alloc hc _) | exact cur_drew hc | exact cur_alloc (by assumption) _) (by first | assumption | exact gb_drew (gb_alloc hg _) | exact gb_drew hg | exact gb_alloc (by assumption) _)).mono ?_; rintro e w2 ⟨x, rfl, hx0, hx1, hc2, hg2, hpw2, hsw2, hcell2⟩; first | (have hL : w2.cell? ⟨w1.heap.size, x.toNat, none⟩ = some (.int .i64 (lit x)) := (by rw [hcell2 w1.heap.size x.toNat (by simp) hp1]; simp only [World.cell?_drew, World.cell?_alloc_new]; exact hlit x hx0 hx1)) | skip; clear hcell2) | (go_at_call 22; refine (below_reg w1 _ p a0 len cap _ (by omega) (by first | assumption | exact cur_drew (cur_alloc hc _) | exact cur_drew hc | exact cur_alloc (by assumption) _) (by first | assumption | exact gb_drew (gb_alloc hg _) | exact gb_drew hg | exact gb_alloc (by assumption) _)).mono ?_; rintro e w3 ⟨y, rfl, hy0, hy1, hc3, hg3, hpw3, hsw3, hcell3⟩; first | (have hL3 : w3.cell? ⟨w1.heap.size, x.toNat, none⟩ = some (.int .i64 (lit x)) := (by rw [hcell3 w1.heap.size x.toNat (by simp at hsw2; omega) hp1]; exact hL)) | (have hL3 : w3.cell? ⟨w2.heap.size, x.toNat, none⟩ = some (.int .i64 (lit x)) := (by rw [hcell3 w2.heap.size x.toNat (by simp) hpw2]; simp only [World.cell?_alloc_new]; exact hlit x hx0 hx1)) | skip; clear hcell3))
  all_goals
    have hlb := lit_bd x
    go_wp2
    go_ret
    refine ⟨_, rfl, ?_, ?_, ?_⟩
    · first | omega | (rw [IntKind.wrap_i64]; omega) | (show -1 ≤ IntKind.i64.wrap (lit x + y); rw [IntKind.wrap_i64]; omega)
    · first | omega | (rw [IntKind.wrap_i64]; omega) | (show IntKind.i64.wrap (lit x + y) ≤ 40000; rw [IntKind.wrap_i64]; omega)
    · first | exact hB.grown hg3 hB.size (fun k hk => by cases hk; exact hp) | exact hB.grown (gb_alloc hg3 _) hB.size (fun k hk => by cases hk; exact hp)
end Go.Proofs.Ytmbmnodfcenjbaa.draw
