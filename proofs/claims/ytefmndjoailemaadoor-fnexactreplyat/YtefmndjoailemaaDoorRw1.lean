/- The kinds' words as they lie in memory; how a reply that tells no value is shown, the program's. -/
import Derived.Test.YtefmndjoailemaaDoorRk6
import Derived.Test.YtefmndjoailemaaDoorSc2
import Derived.Test.YtefmndjoailemaaDoorEv2
import Derived.Deep.RegionHeld3
import Derived.BigQuiet
namespace Go.Proofs.YtefmndjoailemaaDoor.cm
open Go.ChangeShapes Go.WideShapes Go.ChangeAt Go.RowKit
open Go.Proofs.YtefmndjoailemaaDoor.ce Go.Proofs.YtefmndjoailemaaDoor.ro Go.Proofs.YtefmndjoailemaaDoor.rg
set_option linter.unusedVariables false

/-- the kinds' words, the nought ahead -/
def kws : List ByteArray := tx [] :: kinds.map tx
structure EnvP (w : World) : Prop where
  wd : ∀ i (h : i < kws.length), w.cell? ⟨0, i, none⟩ = some (.string kws[i])
  tab : Lib.TabIs Tryd.prog w "internal/strconv.uint64pow10" .u64 Lib.pow10Tab
theorem tab_grow {w w' : World} (ht : Lib.TabIs Tryd.prog w "internal/strconv.uint64pow10" .u64 Lib.pow10Tab) (hb : Below w.heap.size w w') : Lib.TabIs Tryd.prog w' "internal/strconv.uint64pow10" .u64 Lib.pow10Tab := by
  unfold Lib.TabIs World.var? at ht ⊢
  cases hg : Tryd.prog.globalNamed "internal/strconv.uint64pow10" with
  | none => rw [hg] at ht; exact ht
  | some g =>
    rw [hg] at ht
    simp only [Option.bind_some] at ht ⊢
    have hlt : g < w.heap.size := by
      cases hh : w.heap[g]? with
      | none => rw [hh] at ht; cases ht
      | some o => exact (Array.getElem?_eq_some_iff.1 hh).1
    rw [hb.block g hlt]
    exact ht
theorem EnvP.grow {w w' : World} (h : EnvP w) (hb : Below w.heap.size w w') : EnvP w' :=
  ⟨fun i hi => cell_grow hb (World.block_lt_of_cell? w _ (h.wd i hi)) (h.wd i hi), tab_grow h.tab hb⟩
theorem kws_at {i : Nat} (h0 : 1 ≤ i) (h1 : i ≤ 12) : kws[i]'(by show i < 13; omega) = tx (kw i) := by
  obtain ⟨j, rfl⟩ : ∃ j, i = j + 1 := ⟨i - 1, by omega⟩
  unfold kw
  have : (((j + 1 : Nat) : Int) - 1).toNat = j := by omega
  rw [this, List.getElem?_eq_getElem (show j < kinds.length by show j < 12; omega)]
  simp [kws]
theorem EnvP.at {w : World} (h : EnvP w) {i : Nat} (h0 : 1 ≤ i) (h1 : i ≤ 12) : w.cell? ⟨0, i, none⟩ = some (.string (tx (kw i))) := by
  have := h.wd i (by show i < 13; omega)
  rw [kws_at h0 h1] at this
  exact this
theorem kw_size {i : Nat} (h0 : 1 ≤ i) (h1 : i ≤ 12) : (tx (kw i)).size ≤ 12 := by
  rw [tx_size]
  exact (kw_ok (v := i) (by omega) (by omega)).2
theorem dec_tab (n : Nat) (x : ByteArray) (hx : tx (digs n) = x) (h1 : n ≤ 1000000000) (w : World) (tab : Lib.TabIs Tryd.prog w "internal/strconv.uint64pow10" .u64 Lib.pow10Tab) : Calls Tryd.prog 46 #[.int .i64 n] w fun e w' => e = .returned (.string x) ∧ Below w.heap.size w w' := by
  subst hx
  rw [← itoa_digs n]
  go_enter Tryd.func46, Tryd.ntmps46
  go_wp2_with (first | (go_at_call 62; refine (Tryd.strconv_FormatInt_10 (n : Int) (by omega) (by omega) _ tab).mono ?_; rintro e w2 ⟨rfl, k, os, rfl⟩) | (fail))
  go_ret
  exact ⟨rfl, Go.Lib.below_grow _ w (Nat.le_refl _) k os⟩
theorem dig_sz {n : Nat} (h : n ≤ 1000000000) : (tx (digs n)).size ≤ 100 := by
  rw [tx_size]
  have := digs_len 9 n (by omega)
  omega
theorem sz_app (x y : ByteArray) : (x ++ y).size = x.size + y.size := ByteArray.size_append
set_option maxRecDepth 10000 in
set_option maxHeartbeats 1000000 in
theorem shown_bare (i : Nat) (h0 : 1 ≤ i) (h1 : i ≤ 12) (w : World) (en : EnvP w) : Calls Tryd.prog 28 #[.iface 71 (.int .i64 i)] w fun e w' => e = .returned (.string (tx (kw i ++ [10]))) ∧ w' = w := by
  have aB : ∀ w : World, (Instr.typeAssert (.iface 71 (.int .i64 (i : Int))) 51 71 true).run Tryd.prog w = .ok (.tuple #[.int .i64 (i : Int), .bool true]) w := fun _ => by kernel_rfl
  have dk := en.at h0 h1
  have hs := kw_size h0 h1
  have hi : (i : Int) < 13 := by omega
  obtain ⟨x, hx⟩ := hid_ex (tx (kw i))
  rw [hx.out] at dk hs
  have e1 : (x ++ (⟨#[10]⟩ : ByteArray)).size = x.size + 1 := by rw [ByteArray.size_append]; rfl
  clear en
  go_enter Tryd.func28, Tryd.ntmps28
  go_wp2
  go_ret
  refine ⟨?_, rfl⟩
  exact congrArg (fun z => Ending.returned (.string z)) (by rw [← hx.out]; exact bs_inj0 (by rw [bs_app, bs_tx, bs_tx]; rfl))
set_option maxRecDepth 10000 in
set_option maxHeartbeats 1000000 in
theorem shown_num (m : Nat) (hm : m ≤ 999999999) (w : World) (en : EnvP w) : Calls Tryd.prog 28 #[.iface 73 (.int .i64 m)] w fun e w' => e = .returned (.string (tx (kw 6 ++ 32 :: (digs m ++ [10])))) ∧ Below w.heap.size w w' := by
  have aB : ∀ w : World, (Instr.typeAssert (.iface 73 (.int .i64 (m : Int))) 51 71 true).run Tryd.prog w = .ok (.tuple #[.int .i64 0, .bool false]) w := fun _ => by kernel_rfl
  have aN : ∀ w : World, (Instr.typeAssert (.iface 73 (.int .i64 (m : Int))) 51 73 true).run Tryd.prog w = .ok (.tuple #[.int .i64 (m : Int), .bool true]) w := fun _ => by kernel_rfl
  have dk := en.at (i := 6) (by omega) (by omega)
  have hs := kw_size (i := 6) (by omega) (by omega)
  have TB : Hid (Lib.TabIs Tryd.prog w "internal/strconv.uint64pow10" .u64 Lib.pow10Tab) := en.tab
  obtain ⟨x, hx⟩ := hid_ex (tx (kw ((6 : Nat) : Int)))
  rw [hx.out] at dk hs
  obtain ⟨z, hz⟩ := hid_ex (tx (digs m))
  have hzs : z.size ≤ 100 := by rw [← hz.out]; exact dig_sz (by omega)
  have e1 : (x ++ (⟨#[32]⟩ : ByteArray)).size = x.size + 1 := by rw [ByteArray.size_append]; rfl
  have e2 : (x ++ (⟨#[32]⟩ : ByteArray) ++ z).size = x.size + 1 + z.size := by rw [ByteArray.size_append, e1]
  have e3 : (x ++ (⟨#[32]⟩ : ByteArray) ++ z ++ (⟨#[10]⟩ : ByteArray)).size = x.size + 1 + z.size + 1 := by rw [ByteArray.size_append, e2]; rfl
  clear en
  have h66 : (6 : Int) < 13 := by omega
  go_enter Tryd.func28, Tryd.ntmps28
  go_wp2
  go_region_with (first | (go_at_call 46; refine (dec_tab m z hz.out (by omega) _ (by first | exact TB.out | exact tab_grow TB.out (Below.refl _ _).drew)).mono ?_; rintro e w2 ⟨rfl, hB2⟩; have dk2 : w2.cell? ⟨0, 6, none⟩ = some (.string x) := cell_grow hB2 (World.block_lt_of_cell? w _ dk) dk) | (fail))
  all_goals
    go_wp2
    go_ret
    refine ⟨?_, (Below.refl _ w).drew.trans hB2⟩
    exact congrArg (fun q => Ending.returned (.string q)) (by rw [← hx.out, ← hz.out]; exact bs_inj0 (by rw [bs_app, bs_app, bs_app, bs_tx, bs_tx, bs_tx]; simp [bs]))
end Go.Proofs.YtefmndjoailemaaDoor.cm
