/- Contracts: how a tally is shown, the model's and the program's. -/
import Derived.Test.YtfdkcldbbfgaiaaDoorTl3
import Derived.Test.YtfdkcldbbfgaiaaDoorCy2
import Derived.Test.YtfdkcldbbfgaiaaDoorCz0
import Derived.Test.YtfdkcldbbfgaiaaDoorShelf
import Derived.Lib.AppendIntMem
import Derived.Lib.MinMax
namespace Go.Proofs.YtfdkcldbbfgaiaaDoor.rg
open Go.ChangeShapes Go.WideShapes Go.ChangeAt Go.RowKit
open Go.Deep Go.Joins
open Go.Proofs.YtfdkcldbbfgaiaaDoor.ce Go.Proofs.YtfdkcldbbfgaiaaDoor.ro Go.Proofs.YtfdkcldbbfgaiaaDoor.cm
set_option linter.unusedVariables false

theorem tab_growS {w w' : World} (ht : Lib.TabIs Tryd.prog w "internal/strconv.uint64pow10" .u64 Lib.pow10Tab) (hb : Below w.heap.size w w') : Lib.TabIs Tryd.prog w' "internal/strconv.uint64pow10" .u64 Lib.pow10Tab := by
  unfold Lib.TabIs World.var? at ht ⊢
  cases hg : Tryd.prog.globalNamed "internal/strconv.uint64pow10" with
  | none => rw [hg] at ht; exact ht
  | some g =>
    rw [hg] at ht
    simp only [Option.bind_some] at ht ⊢
    have hlt : g < w.heap.size := by
      cases hh : w.heap[g]? with
      | none => rw [hh] at ht; cases ht
      | some o => exact (Array.getElem?_eq_some_iff.1 hh).1
    rw [hb.block g hlt]
    exact ht
/-- what is read of the library: the tens -/
structure EnvT (w : World) : Prop where
  tab : Lib.TabIs Tryd.prog w "internal/strconv.uint64pow10" .u64 Lib.pow10Tab
theorem EnvT.grow {w w' : World} (h : EnvT w) (hb : Below w.heap.size w w') : EnvT w' := ⟨tab_growS h.tab hb⟩
theorem itoa_digsS (n : Nat) : Lib.itoa (n : Int) = digs n := by
  unfold Lib.itoa
  rw [if_neg (by omega), dec_digs]
  simp
theorem decS (n : Nat) (x : ByteArray) (hx : tx (digs n) = x) (h1 : n ≤ 1000000000) (w : World) (en : EnvT w) : Calls Tryd.prog 15 #[.int .i64 n] w fun e w' => e = .returned (.string x) ∧ Below w.heap.size w w' := by
  subst hx
  rw [← itoa_digsS n]
  go_enter Tryd.func15, Tryd.ntmps15
  go_wp2_with (first | (go_at_call 20; refine (Tryd.strconv_FormatInt_10 (n : Int) (by omega) (by omega) _ en.tab).mono ?_; rintro e w2 ⟨rfl, k, os, rfl⟩) | (fail))
  go_ret
  exact ⟨rfl, Go.Lib.below_grow _ w (Nat.le_refl _) k os⟩
theorem join_anyS (ws : List ByteArray) (v : Value) (w : World) (r : Rd encS w v ws) (h1 : 1 ≤ ws.length) (hl : ws.length ≤ 100) (hm : ∀ x ∈ ws, x.size ≤ 10000) :
    Calls Tryd.prog 16 #[v, .string ⟨#[32]⟩] w fun e w' => e = .returned (.string (tx (wordsL (ws.map bs)))) ∧ Below w.heap.size w w' := by
  obtain ⟨a, cap, rfl⟩ := r.form
  obtain ⟨b, off, rfl, hb, hr⟩ := r.start h1
  have e : Lib.join (ws.map (·.data.toList)) (⟨#[32]⟩ : ByteArray).data.toList = wordsL (ws.map bs) := join_words (ws.map bs)
  have hlen : (wordsL (ws.map bs)).length ≤ 140737488355328 := by
    have h2 := wordsL_len (ws.map bs) 10000 (fun y hy => by
      obtain ⟨z, hz, rfl⟩ := List.mem_map.1 hy
      rw [bs_len]
      exact hm z hz)
    rw [List.length_map] at h2
    have : ws.length * (10000 + 1) ≤ 100 * 10001 := Nat.mul_le_mul_right _ hl
    omega
  have hc := r.cap
  have := Tryd.strings_Join b off cap ws ⟨#[32]⟩ w (fun j x hj => by
    have hjl := (List.getElem?_eq_some_iff.1 hj).1
    obtain ⟨b', off', e', -, hcell⟩ := rdS_cell r j hjl
    cases e'
    rw [hcell, (List.getElem?_eq_some_iff.1 hj).2]) hb (by omega) hc.2.1 (by rw [e]; exact hlen)
  rw [e] at this
  exact this
theorem join_none (a : Option Addr) (w : World) : Calls Tryd.prog 16 #[.slice a 0 0, .string ⟨#[32]⟩] w fun e w' => e = .returned (.string emp) ∧ Below w.heap.size w w' := by
  go_enter Tryd.func16, Tryd.ntmps16
  go_wp2
  go_ret
  exact ⟨rfl, Below.refl _ _⟩
def encQ : Enc Int := ⟨fun s => [.int .i64 s], 1, 2, fun _ => rfl, fun s v hv => by rw [List.mem_singleton.1 hv]; rfl, by decide⟩
/-- numbers as words -/
def wsD (xs : List Nat) : List ByteArray := xs.map fun n => tx (digs n)
theorem wsD_bs (xs : List Nat) : (wsD xs).map bs = xs.map digs := by unfold wsD; rw [List.map_map]; exact List.map_congr_left fun n _ => bs_tx _
theorem wsD_take (xs : List Nat) {i : Nat} (h : i < xs.length) : wsD (xs.take (i + 1)) = wsD (xs.take i) ++ [tx (digs xs[i])] := by
  unfold wsD
  rw [List.take_succ_eq_append_getElem h, List.map_append]
  rfl
theorem wsD_small (xs : List Nat) (h : ∀ n ∈ xs, n ≤ 1000000000) : ∀ x ∈ wsD xs, x.size ≤ 10000 := by
  intro x hx
  obtain ⟨n, hn, rfl⟩ := List.mem_map.1 hx
  have := h n hn
  rw [tx_size]
  have := digs_len 9 n (by omega)
  omega
set_option maxRecDepth 100000 in
set_option maxHeartbeats 2000000 in
theorem l1Ints_any (xs : List Nat) (v : Value) (w : World) (r : Rd encQ w v (xs.map fun n : Nat => (n : Int))) (hl : xs.length ≤ 100) (hx : ∀ n ∈ xs, n ≤ 1000000000) :
    Calls Tryd.prog 12 #[v] w fun e w' => e = .returned (.string (tx (wordsL (xs.map digs)))) ∧ Below w.heap.size w w' := by
  obtain ⟨a, cap, rfl⟩ := r.form
  have hll : (xs.map fun n : Nat => (n : Int)).length = xs.length := List.length_map _
  rw [hll] at r ⊢
  have R : Hid (Rd encQ w (.slice a xs.length cap) (xs.map fun n : Nat => (n : Int))) := r
  have HX : Hid (∀ n ∈ xs, n ≤ 1000000000) := hx
  have hfin : Hid (tx (wordsL ((wsD xs).map bs)) = tx (wordsL (xs.map digs))) := by unfold Hid; rw [wsD_bs]
  have hdl : (wsD xs).length ≤ 100 := by unfold wsD; rw [List.length_map]; exact hl
  clear r hx hll
  go_enter Tryd.func12, Tryd.ntmps12
  go_wp2
  go_loopw [3, 4] (fun wd iv wr => ∃ (i : Nat) (A : Option Addr) (n k : Nat), i ≤ xs.length ∧ iv = .int .i64 i ∧ wd = .slice A n k ∧ Own encS wr w.heap.size wr.heap.size (.slice A n k) (wsD (xs.take i)) ∧ Below w.heap.size w wr) (fun _ iv _ => xs.length - (intOf iv).toNat)
  case atStart => exact ⟨0, _, _, _, by omega, rfl, rfl, by simpa [wsD] using own_zero _ _ _ _ _, (by first | exact Below.refl _ _ | exact (bAl3 _ _))⟩
  case round =>
    obtain ⟨i, A, n, k, hi, rfl, rfl, o0, hB⟩ := hrel
    have O : Hid (Own encS wr w.heap.size wr.heap.size (.slice A n k) (wsD (xs.take i))) := o0
    clear o0
    have hz0 := hB.size
    by_cases hlt : i < xs.length
    · have hlt' : (i : Int) < (xs.length : Int) := by omega
      obtain ⟨bk, off, rfl, hbk, cx0⟩ := (R.out.grow hB).cell i 0 (by rw [List.length_map]; exact hlt) (by decide)
      obtain ⟨y, hy⟩ := hid_ex (xs[i])
      have hy9 : y ≤ 1000000000 := by rw [← hy.out]; exact HX.out _ (List.getElem_mem hlt)
      have cx : wr.cell? ⟨bk, off + i, none⟩ = some (.int .i64 (y : Int)) := by rw [← hy.out]; simpa [encQ] using cx0
      clear cx0
      have hst : Hid (wsD (xs.take (i + 1)) = wsD (xs.take i) ++ [tx (digs y)]) := by unfold Hid; rw [wsD_take xs hlt, hy.out]
      have htl : (wsD (xs.take i)).length ≤ 100 := by unfold wsD; rw [List.length_map, List.length_take]; omega
      obtain ⟨S, hS⟩ := hid_ex (tx (digs y))
      rw [hS.out] at hst
      go_wp2_with (first
        | (go_at_call 18; refine (l1Int_is y (by omega) _).mono ?_; rintro e w2 ⟨rfl, hB2⟩; rw [hS.out]; have O2 : Hid (Own encS w2 w.heap.size wr.heap.size (.slice A n k) (wsD (xs.take i))) := O.out.grow hB2; have hz2 := hB2.size; have hB3 := hB.trans (hB2.mono hz0))
        | (at_builtin; refine wpList_append_g infoS rfl _ _ 39 rfl Tryd.underlying39 w.heap.size wr.heap.size _ (wsD (xs.take i)) rfl (O2.out.grow (bAl3 _ _)) (by simp; omega) _ [S] rfl (rd_new (E := encS) _ S #[.string S] rfl) (by simp; omega) ?_; intro v7 w7 o7 hT7; have hB7 : Below w.heap.size w w7 := hB3.trans (((bAl3 _ _).mono (by omega)).trans hT7.low); obtain ⟨a7, n7, k7, rfl⟩ := o7.slice)
        | (fail))
      go_roundw
      case rel => exact ⟨i + 1, _, _, _, by omega, by go_num, rfl, by rw [hst.out]; exact o7, hB7⟩
      case measure => simp [intOf]; omega
    · have hlt' : ¬ (i : Int) < (xs.length : Int) := by omega
      have ei : xs.take i = xs := List.take_of_length_le (by omega)
      rw [ei] at O
      go_wp2_with (first
        | (go_at_call 19; refine (l1Words_any (wsD xs) _ _ O.out.rd hdl (wsD_small xs HX.out)).mono ?_; rintro e wq ⟨rfl, hq⟩; subst wq; rw [hfin.out])
        | (fail))
      go_ret
      exact ⟨rfl, hB⟩
end Go.Proofs.YtfdkcldbbfgaiaaDoor.rg
