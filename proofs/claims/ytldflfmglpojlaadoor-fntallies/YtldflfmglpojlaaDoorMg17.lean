/- Texts laid together: Sh1 Sh2. -/
import Derived.Test.YtldflfmglpojlaaDoorTl3
import Derived.Test.YtldflfmglpojlaaDoorMg15
import Derived.Test.YtldflfmglpojlaaDoorShelf
import Derived.Lib.AppendIntMem
import Derived.Lib.MinMax
/- Contracts: how a tally is shown, the model's and the program's. -/
namespace Go.Proofs.YtldflfmglpojlaaDoor.rg
open Go.ChangeShapes Go.WideShapes Go.ChangeAt Go.RowKit
open Go.Deep Go.Joins
open Go.Proofs.YtldflfmglpojlaaDoor.ce Go.Proofs.YtldflfmglpojlaaDoor.ro Go.Proofs.YtldflfmglpojlaaDoor.cm
set_option linter.unusedVariables false

theorem tab_growS {w w' : World} (ht : Lib.TabIs Tryd.prog w "internal/strconv.uint64pow10" .u64 Lib.pow10Tab) (hb : Below w.heap.size w w') : Lib.TabIs Tryd.prog w' "internal/strconv.uint64pow10" .u64 Lib.pow10Tab := by
  unfold Lib.TabIs World.var? at ht ⊢
  cases hg : Tryd.prog.globalNamed "internal/strconv.uint64pow10" with
  | none => rw [hg] at ht; exact ht
  | some g =>
    rw [hg] at ht
    simp only [Option.bind_some] at ht ⊢
    have hlt : g < w.heap.size := by
      cases hh : w.heap[g]? with
      | none => rw [hh] at ht; cases ht
      | some o => exact (Array.getElem?_eq_some_iff.1 hh).1
    rw [hb.block g hlt]
    exact ht
/-- what is read of the library: the tens -/
structure EnvT (w : World) : Prop where
  tab : Lib.TabIs Tryd.prog w "internal/strconv.uint64pow10" .u64 Lib.pow10Tab
theorem EnvT.grow {w w' : World} (h : EnvT w) (hb : Below w.heap.size w w') : EnvT w' := ⟨tab_growS h.tab hb⟩
theorem itoa_digsS (n : Nat) : Lib.itoa (n : Int) = digs n := by
  unfold Lib.itoa
  rw [if_neg (by omega), dec_digs]
  simp
theorem decS (n : Nat) (x : ByteArray) (hx : tx (digs n) = x) (h1 : n ≤ 1000000000) (w : World) (en : EnvT w) : Calls Tryd.prog 36 #[.int .i64 n] w fun e w' => e = .returned (.string x) ∧ Below w.heap.size w w' := by
  subst hx
  rw [← itoa_digsS n]
  go_enter Tryd.func36, Tryd.ntmps36
  go_wp2_with (first | (go_at_call 44; refine (Tryd.strconv_FormatInt_10 (n : Int) (by omega) (by omega) _ en.tab).mono ?_; rintro e w2 ⟨rfl, k, os, rfl⟩) | (fail))
  go_ret
  exact ⟨rfl, Go.Lib.below_grow _ w (Nat.le_refl _) k os⟩
theorem join_anyS (ws : List ByteArray) (v : Value) (w : World) (r : Rd encS w v ws) (h1 : 1 ≤ ws.length) (hl : ws.length ≤ 100) (hm : ∀ x ∈ ws, x.size ≤ 10000) :
    Calls Tryd.prog 37 #[v, .string ⟨#[32]⟩] w fun e w' => e = .returned (.string (tx (wordsL (ws.map bs)))) ∧ Below w.heap.size w w' := by
  obtain ⟨a, cap, rfl⟩ := r.form
  obtain ⟨b, off, rfl, hb, hr⟩ := r.start h1
  have e : Lib.join (ws.map (·.data.toList)) (⟨#[32]⟩ : ByteArray).data.toList = wordsL (ws.map bs) := join_words (ws.map bs)
  have hlen : (wordsL (ws.map bs)).length ≤ 140737488355328 := by
    have h2 := wordsL_len (ws.map bs) 10000 (fun y hy => by
      obtain ⟨z, hz, rfl⟩ := List.mem_map.1 hy
      rw [bs_len]
      exact hm z hz)
    rw [List.length_map] at h2
    have : ws.length * (10000 + 1) ≤ 100 * 10001 := Nat.mul_le_mul_right _ hl
    omega
  have hc := r.cap
  have := Tryd.strings_Join b off cap ws ⟨#[32]⟩ w (fun j x hj => by
    have hjl := (List.getElem?_eq_some_iff.1 hj).1
    obtain ⟨b', off', e', -, hcell⟩ := rdS_cell r j hjl
    cases e'
    rw [hcell, (List.getElem?_eq_some_iff.1 hj).2]) hb (by omega) hc.2.1 (by rw [e]; exact hlen)
  rw [e] at this
  exact this
theorem join_none (a : Option Addr) (w : World) : Calls Tryd.prog 37 #[.slice a 0 0, .string ⟨#[32]⟩] w fun e w' => e = .returned (.string emp) ∧ Below w.heap.size w w' := by
  go_enter Tryd.func37, Tryd.ntmps37
  go_wp2
  go_ret
  exact ⟨rfl, Below.refl _ _⟩
def encQ : Enc Int := ⟨fun s => [.int .i64 s], 1, 2, fun _ => rfl, fun s v hv => by rw [List.mem_singleton.1 hv]; rfl, by decide⟩
/-- numbers as words -/
def wsD (xs : List Nat) : List ByteArray := xs.map fun n => tx (digs n)
theorem wsD_bs (xs : List Nat) : (wsD xs).map bs = xs.map digs := by unfold wsD; rw [List.map_map]; exact List.map_congr_left fun n _ => bs_tx _
theorem wsD_take (xs : List Nat) {i : Nat} (h : i < xs.length) : wsD (xs.take (i + 1)) = wsD (xs.take i) ++ [tx (digs xs[i])] := by
  unfold wsD
  rw [List.take_succ_eq_append_getElem h, List.map_append]
  rfl
theorem wsD_small (xs : List Nat) (h : ∀ n ∈ xs, n ≤ 1000000000) : ∀ x ∈ wsD xs, x.size ≤ 10000 := by
  intro x hx
  obtain ⟨n, hn, rfl⟩ := List.mem_map.1 hx
  have := h n hn
  rw [tx_size]
  have := digs_len 9 n (by omega)
  omega
set_option maxRecDepth 100000 in
set_option maxHeartbeats 2000000 in
theorem l1Ints_any (xs : List Nat) (v : Value) (w : World) (r : Rd encQ w v (xs.map fun n : Nat => (n : Int))) (hl : xs.length ≤ 100) (hx : ∀ n ∈ xs, n ≤ 1000000000) :
    Calls Tryd.prog 38 #[v] w fun e w' => e = .returned (.string (tx (wordsL (xs.map digs)))) ∧ Below w.heap.size w w' := by
  obtain ⟨a, cap, rfl⟩ := r.form
  have hll : (xs.map fun n : Nat => (n : Int)).length = xs.length := List.length_map _
  rw [hll] at r ⊢
  have R : Hid (Rd encQ w (.slice a xs.length cap) (xs.map fun n : Nat => (n : Int))) := r
  have HX : Hid (∀ n ∈ xs, n ≤ 1000000000) := hx
  have hfin : Hid (tx (wordsL ((wsD xs).map bs)) = tx (wordsL (xs.map digs))) := by unfold Hid; rw [wsD_bs]
  have hdl : (wsD xs).length ≤ 100 := by unfold wsD; rw [List.length_map]; exact hl
  clear r hx hll
  go_enter Tryd.func38, Tryd.ntmps38
  go_wp2
  go_loopw [3, 4] (fun wd iv wr => ∃ (i : Nat) (A : Option Addr) (n k : Nat), i ≤ xs.length ∧ iv = .int .i64 i ∧ wd = .slice A n k ∧ Own encS wr w.heap.size wr.heap.size (.slice A n k) (wsD (xs.take i)) ∧ Below w.heap.size w wr) (fun _ iv _ => xs.length - (intOf iv).toNat)
  case atStart => exact ⟨0, _, _, _, by omega, rfl, rfl, by simpa [wsD] using own_zero _ _ _ _ _, (by first | exact Below.refl _ _ | exact (bAl3 _ _))⟩
  case round =>
    obtain ⟨i, A, n, k, hi, rfl, rfl, o0, hB⟩ := hrel
    have O : Hid (Own encS wr w.heap.size wr.heap.size (.slice A n k) (wsD (xs.take i))) := o0
    clear o0
    have hz0 := hB.size
    by_cases hlt : i < xs.length
    · have hlt' : (i : Int) < (xs.length : Int) := by omega
      obtain ⟨bk, off, rfl, hbk, cx0⟩ := (R.out.grow hB).cell i 0 (by rw [List.length_map]; exact hlt) (by decide)
      obtain ⟨y, hy⟩ := hid_ex (xs[i])
      have hy9 : y ≤ 1000000000 := by rw [← hy.out]; exact HX.out _ (List.getElem_mem hlt)
      have cx : wr.cell? ⟨bk, off + i, none⟩ = some (.int .i64 (y : Int)) := by rw [← hy.out]; simpa [encQ] using cx0
      clear cx0
      have hst : Hid (wsD (xs.take (i + 1)) = wsD (xs.take i) ++ [tx (digs y)]) := by unfold Hid; rw [wsD_take xs hlt, hy.out]
      have htl : (wsD (xs.take i)).length ≤ 100 := by unfold wsD; rw [List.length_map, List.length_take]; omega
      obtain ⟨S, hS⟩ := hid_ex (tx (digs y))
      rw [hS.out] at hst
      go_wp2_with (first
        | (go_at_call 42; refine (l1Int_is y (by omega) _).mono ?_; rintro e w2 ⟨rfl, hB2⟩; rw [hS.out]; have O2 : Hid (Own encS w2 w.heap.size wr.heap.size (.slice A n k) (wsD (xs.take i))) := O.out.grow hB2; have hz2 := hB2.size; have hB3 := hB.trans (hB2.mono hz0))
        | (at_builtin; refine wpList_append_g infoS rfl _ _ 65 rfl Tryd.underlying65 w.heap.size wr.heap.size _ (wsD (xs.take i)) rfl (O2.out.grow (bAl3 _ _)) (by simp; omega) _ [S] rfl (rd_new (E := encS) _ S #[.string S] rfl) (by simp; omega) ?_; intro v7 w7 o7 hT7; have hB7 : Below w.heap.size w w7 := hB3.trans (((bAl3 _ _).mono (by omega)).trans hT7.low); obtain ⟨a7, n7, k7, rfl⟩ := o7.slice)
        | (fail))
      go_roundw
      case rel => exact ⟨i + 1, _, _, _, by omega, by go_num, rfl, by rw [hst.out]; exact o7, hB7⟩
      case measure => simp [intOf]; omega
    · have hlt' : ¬ (i : Int) < (xs.length : Int) := by omega
      have ei : xs.take i = xs := List.take_of_length_le (by omega)
      rw [ei] at O
      go_wp2_with (first
        | (go_at_call 48; refine (l1Words_any (wsD xs) _ _ O.out.rd hdl (wsD_small xs HX.out)).mono ?_; rintro e wq ⟨rfl, hq⟩; subst wq; rw [hfin.out])
        | (fail))
      go_ret
      exact ⟨rfl, hB⟩
end Go.Proofs.YtldflfmglpojlaaDoor.rg
/- ShowTally of both. -/
namespace Go.Proofs.YtldflfmglpojlaaDoor.rg
open Go.ChangeShapes Go.WideShapes Go.ChangeAt Go.RowKit
open Go.Deep Go.Joins
open Go.Proofs.YtldflfmglpojlaaDoor.ce Go.Proofs.YtldflfmglpojlaaDoor.ro Go.Proofs.YtldflfmglpojlaaDoor.cm
set_option linter.unusedVariables false

def tlN (t : Tl) : List Nat := [t.A.toNat, t.H.toNat, t.S.toNat, t.D.toNat, t.O.toNat]
theorem tlN_is (t : Tl) : wordsL ((tlN t).map digs) = showT t := rfl
theorem tlN_int {t : Tl} (h : TlOk t) : (tlN t).map (fun n : Nat => (n : Int)) = [t.A, t.H, t.S, t.D, t.O] := by
  simp only [tlN, List.map_cons, List.map_nil, Int.toNat_of_nonneg h.a.1, Int.toNat_of_nonneg h.h.1, Int.toNat_of_nonneg h.s.1, Int.toNat_of_nonneg h.d.1, Int.toNat_of_nonneg h.o.1]
theorem tlN_small {t : Tl} (h : TlOk t) : ∀ n ∈ tlN t, n ≤ 1000000000 := by
  intro n hn
  simp only [tlN, List.mem_cons, List.not_mem_nil, or_false] at hn
  rcases hn with rfl | rfl | rfl | rfl | rfl
  · have := h.a; omega
  · have := h.h; omega
  · have := h.s; omega
  · have := h.d; omega
  · have := h.o; omega
theorem mget_ent (t : Tl) (h : TlOk t) {i : Nat} (hi : i < (tlN t).length) : mget (ent t) i = some ((tlN t)[i] : Int) := by
  have hi5 : i = 0 ∨ i = 1 ∨ i = 2 ∨ i = 3 ∨ i = 4 := by have : (tlN t).length = 5 := rfl; omega
  rcases hi5 with rfl | rfl | rfl | rfl | rfl
  · simp [mget, ent, tlN, Int.toNat_of_nonneg h.a.1]
  · simp [mget, ent, tlN, Int.toNat_of_nonneg h.h.1]
  · simp [mget, ent, tlN, Int.toNat_of_nonneg h.s.1]
  · simp [mget, ent, tlN, Int.toNat_of_nonneg h.d.1]
  · simp [mget, ent, tlN, Int.toNat_of_nonneg h.o.1]
set_option maxRecDepth 100000 in
set_option maxHeartbeats 2000000 in
theorem l15Show_any (A H S D O : Int) (h : TlOk ⟨A, H, S, D, O⟩) (w : World) :
    Calls Tryd.prog 25 #[.agg #[.int .i64 A, .int .i64 H, .int .i64 S, .int .i64 D, .int .i64 O]] w fun e w' => e = .returned (.string (tx (showT ⟨A, H, S, D, O⟩))) ∧ Below w.heap.size w w' := by
  have hr : ∀ w, Rd encQ (World.alloc w (.cells #[.int .i64 A, .int .i64 H, .int .i64 S, .int .i64 D, .int .i64 O] 2)) (.slice (some ⟨w.heap.size, 0, none⟩) 5 5) ((tlN ⟨A, H, S, D, O⟩).map fun n : Nat => (n : Int)) := fun w => by
    rw [tlN_int h]
    refine ⟨_, 5, rfl, Nat.le_refl 5, by unfold maxLen; omega, fun _ => ⟨w.heap.size, 0, rfl, by simp, ?_⟩⟩
    exact VBlk.range (t := 2) (vs := [.int .i64 A, .int .i64 H, .int .i64 S, .int .i64 D, .int .i64 O]) (heap_alloc_new _ _)
  have HR : Hid _ := hr
  have hc := l1Ints_any (tlN ⟨A, H, S, D, O⟩) (.slice (some ⟨0, 0, none⟩) 5 5)
  have hs := tlN_small h
  have ht := tlN_is ⟨A, H, S, D, O⟩
  obtain ⟨T, hT⟩ := hid_ex (tx (showT ⟨A, H, S, D, O⟩))
  have HC : Hid (∀ v w, Rd encQ w v ((tlN ⟨A, H, S, D, O⟩).map fun n : Nat => (n : Int)) → Calls Tryd.prog 38 #[v] w fun e w' => e = .returned (.string T) ∧ Below w.heap.size w w') := fun v w r => by
    have := l1Ints_any (tlN ⟨A, H, S, D, O⟩) v w r (by show 5 ≤ 100; omega) hs
    rw [ht, hT.out] at this
    exact this
  rw [hT.out]
  clear hr hc hs ht hT
  have m1 : Hid True := trivial
  go_enter Tryd.func25, Tryd.ntmps25
  go_wp2_with (first
    | (clear m1; refine wpList_box_v rfl 25 _ rfl [.int .i64 A, .int .i64 H, .int .i64 S, .int .i64 D, .int .i64 O] rfl ?_; intro b1 w1 hb1 hw1 hB1 V1; obtain ⟨c0, c1, c2, c3, c4⟩ := cellsTl V1)
    | (go_at_call 38; refine (HC.out _ _ (HR.out w1)).mono ?_; rintro e w2 ⟨rfl, hB2⟩; have hB := hB1.trans (((bAl3 _ _).trans (hB2.mono (by simp))).mono hB1.size))
    | (fail))
  go_ret
  exact ⟨rfl, hB⟩
def shTx (t : Tl) : ByteArray := if tallyB t = true then tx (showT t) else emp
set_option maxHeartbeats 2000000 in
theorem specShowTally_any (A H S D O : Int) (T : ByteArray) (hT : Hid (shTx ⟨A, H, S, D, O⟩ = T)) (w : World) :
    Calls Tryd.prog 12 #[.agg #[.int .i64 A, .int .i64 H, .int .i64 S, .int .i64 D, .int .i64 O]] w fun e w' => e = .returned (.string T) ∧ Below w.heap.size w w' := by
  obtain ⟨z, hz⟩ := hid_ex (tallyB ⟨A, H, S, D, O⟩)
  have hT' := hT.out
  unfold shTx at hT'
  rw [hz.out] at hT'
  clear hT
  have m1 : Hid True := trivial
  cases z with
  | false =>
    obtain rfl : emp = T := by simpa using hT'
    clear hT'
    go_enter Tryd.func12, Tryd.ntmps12
    go_wp2_with (first
      | (clear m1; refine wpList_box_v rfl 25 _ rfl [.int .i64 A, .int .i64 H, .int .i64 S, .int .i64 D, .int .i64 O] rfl ?_; intro b1 w1 hb1 hw1 hB1 V1; obtain ⟨c0, c1, c2, c3, c4⟩ := cellsTl V1; have hz1 := hB1.size)
      | (go_at_call 10; refine (specTallyOk_any A H S D O false hz _).mono ?_; rintro e w2 ⟨rfl, hB2⟩; have hB := hB1.trans (hB2.mono hz1))
      | (fail))
    go_ret
    exact ⟨rfl, hB⟩
  | true =>
    have hT3 : tx (showT ⟨A, H, S, D, O⟩) = T := by simpa using hT'
    have hT2 : Hid (tx (showT ⟨A, H, S, D, O⟩) = T) := hT3
    clear hT3
    have ok : Hid (TlOk ⟨A, H, S, D, O⟩) := tallyB_iff.1 hz.out
    clear hT'
    go_enter Tryd.func12, Tryd.ntmps12
    go_wp2_with (first
      | (clear m1; refine wpList_box_v rfl 25 _ rfl [.int .i64 A, .int .i64 H, .int .i64 S, .int .i64 D, .int .i64 O] rfl ?_; intro b1 w1 hb1 hw1 hB1 V1; obtain ⟨c0, c1, c2, c3, c4⟩ := cellsTl V1; have hz1 := hB1.size)
      | (go_at_call 10; refine (specTallyOk_any A H S D O true hz _).mono ?_; rintro e w2 ⟨rfl, hB2⟩; have hB := hB1.trans (hB2.mono hz1); have hz2 := hB2.size; have V2 := vblk_grow V1 hB2; clear c0 c1 c2 c3 c4; obtain ⟨c0, c1, c2, c3, c4⟩ := cellsTl V2)
      | (go_at_call 25; refine (l15Show_any A H S D O ok.out _).mono ?_; rintro e w3 ⟨rfl, hB3⟩; rw [hT2.out]; have hBB := hB.trans (hB3.mono (by omega)))
      | (fail))
    go_ret
    exact ⟨rfl, hBB⟩
set_option maxRecDepth 100000 in
set_option maxHeartbeats 2000000 in
theorem shown_yes (t : Tl) (h : TlOk t) (b : Nat) (w : World) (M : MapL w b (ent t)) (en : EnvT w) (T : ByteArray) (hT : Hid (tx (showT t) = T)) :
    Calls Tryd.prog 24 #[.map (some b)] w fun e w' => e = .returned (.string T) ∧ Below w.heap.size w w' := by
  have MM : Hid (MapL w b (ent t)) := M
  have EN : Hid (EnvT w) := en
  have hbw := M.lt
  have HG : Hid (∀ i (hi : i < (tlN t).length), mget (ent t) i = some ((tlN t)[i] : Int)) := fun i hi => mget_ent t h hi
  have HX : Hid (∀ n ∈ tlN t, n ≤ 1000000000) := tlN_small h
  have hfin : Hid (tx (wordsL ((wsD (tlN t)).map bs)) = T) := by unfold Hid; rw [wsD_bs, tlN_is]; exact hT.out
  have h5 : (tlN t).length = 5 := rfl
  have hd1 : (wsD (tlN t)).length = 5 := rfl
  obtain ⟨xs, hxs⟩ := hid_ex (tlN t)
  obtain ⟨l, hl⟩ := hid_ex (ent t)
  rw [hxs.out] at HG HX hfin h5 hd1
  rw [hl.out] at MM HG
  have hd2 : 1 ≤ (wsD xs).length ∧ (wsD xs).length ≤ 100 := by omega
  clear M en hxs hl hd1
  go_enter Tryd.func24, Tryd.ntmps24
  go_wp2
  go_loopw [3, 7] (fun wd iv wr => ∃ (i : Nat) (A : Option Addr) (n k : Nat), i ≤ 5 ∧ iv = .int .i64 i ∧ wd = .slice A n k ∧ Own encS wr w.heap.size wr.heap.size (.slice A n k) (wsD (xs.take i)) ∧ Below w.heap.size w wr) (fun _ iv _ => 5 - (intOf iv).toNat)
  case atStart => exact ⟨0, _, _, _, by omega, rfl, rfl, by simpa [wsD] using own_zero _ _ _ _ _, Below.refl _ _⟩
  case round =>
    obtain ⟨i, A, n, k, hi, rfl, rfl, o0, hB⟩ := hrel
    have O : Hid (Own encS wr w.heap.size wr.heap.size (.slice A n k) (wsD (xs.take i))) := o0
    clear o0
    have hz0 := hB.size
    have MR : Hid (MapL wr b l) := MM.out.below hB hbw
    by_cases hlt : i < 5
    · have hlt' : (i : Int) < 5 := by omega
      have hlx : i < xs.length := by omega
      obtain ⟨y, hy⟩ := hid_ex (xs[i])
      have hy9 : y ≤ 1000000000 := by rw [← hy.out]; exact HX.out _ (List.getElem_mem hlx)
      have hg : Hid (mget l i = some (y : Int)) := by unfold Hid; rw [HG.out i hlx, hy.out]
      have hst : Hid (wsD (xs.take (i + 1)) = wsD (xs.take i) ++ [tx (digs y)]) := by unfold Hid; rw [wsD_take xs hlx, hy.out]
      have htl : (wsD (xs.take i)).length ≤ 100 := by unfold wsD; rw [List.length_map, List.length_take]; omega
      obtain ⟨S, hS⟩ := hid_ex (tx (digs y))
      rw [hS.out] at hst
      have m1 : Hid True := trivial
      go_wp2_with (first
        | (clear m1; refine wpList_look_m rfl _ _ _ true rfl und_sums und_head zero_i64 b l rfl MR.out i rfl ?_; simp only [hg.out, Option.getD_some, Option.isSome_some, if_true])
        | (go_at_call 36; refine (decS y S hS.out hy9 _ (EN.out.grow hB)).mono ?_; rintro e w2 ⟨rfl, hB2⟩; have O2 : Hid (Own encS w2 w.heap.size wr.heap.size (.slice A n k) (wsD (xs.take i))) := O.out.grow hB2; have hz2 := hB2.size; have hB3 := hB.trans (hB2.mono hz0))
        | (at_builtin; refine wpList_append_g infoS rfl _ _ 65 rfl Tryd.underlying65 w.heap.size wr.heap.size _ (wsD (xs.take i)) rfl (O2.out.grow (bAl3 _ _)) (by simp; omega) _ [S] rfl (rd_new (E := encS) _ S #[.string S] rfl) (by simp; omega) ?_; intro v7 w7 o7 hT7; have hB7 : Below w.heap.size w w7 := hB3.trans (((bAl3 _ _).mono (by omega)).trans hT7.low); obtain ⟨a7, n7, k7, rfl⟩ := o7.slice)
        | (fail))
      go_roundw
      case rel => exact ⟨i + 1, _, _, _, by omega, by go_num, rfl, by rw [hst.out]; exact o7, hB7⟩
      case measure => simp [intOf]; omega
    · have hlt' : ¬ (i : Int) < 5 := by omega
      have ei : xs.take i = xs := List.take_of_length_le (by omega)
      rw [ei] at O
      go_wp2_with (first
        | (go_at_call 37; refine (join_anyS (wsD xs) _ _ O.out.rd hd2.1 hd2.2 (wsD_small xs HX.out)).mono ?_; rintro e w2 ⟨rfl, hB2⟩; rw [hfin.out])
        | (fail))
      go_ret
      exact ⟨rfl, hB.trans (hB2.mono hz0)⟩
set_option maxRecDepth 100000 in
set_option maxHeartbeats 2000000 in
theorem shown_no (b : Nat) (w : World) (M : MapL w b []) :
    Calls Tryd.prog 24 #[.map (some b)] w fun e w' => e = .returned (.string emp) ∧ Below w.heap.size w w' := by
  have MM : Hid (MapL w b []) := M
  clear M
  go_enter Tryd.func24, Tryd.ntmps24
  go_wp2
  go_loopw [3, 7] (fun wd iv wr => ∃ i : Nat, i ≤ 5 ∧ iv = .int .i64 i ∧ wd = .slice none 0 0 ∧ wr = w) (fun _ iv _ => 5 - (intOf iv).toNat)
  case atStart => exact ⟨0, by omega, rfl, rfl, rfl⟩
  case round =>
    obtain ⟨i, hi, rfl, rfl, rfl⟩ := hrel
    by_cases hlt : i < 5
    · have hlt' : (i : Int) < 5 := by omega
      have m1 : Hid True := trivial
      go_wp2_with (first
        | (clear m1; refine wpList_look_m rfl _ _ _ true rfl und_sums und_head zero_i64 b [] rfl MM.out i rfl ?_; simp only [mget, Option.getD_none, Option.isSome_none, if_true])
        | (fail))
      go_roundw
      case rel => exact ⟨i + 1, by omega, by go_num, (by first | rfl | trivial | exact ⟨rfl, rfl⟩ | simp)⟩
      case measure => simp [intOf]; omega
    · have hlt' : ¬ (i : Int) < 5 := by omega
      go_wp2_with (first
        | (go_at_call 37; refine (join_none none _).mono ?_; rintro e w2 ⟨rfl, hB2⟩)
        | (fail))
      go_ret
      exact ⟨rfl, hB2⟩
set_option maxHeartbeats 2000000 in
theorem implShowTally_any (A H S D O : Int) (T : ByteArray) (hT : Hid (shTx ⟨A, H, S, D, O⟩ = T)) (w : World) (en : EnvT w) :
    Calls Tryd.prog 11 #[.agg #[.int .i64 A, .int .i64 H, .int .i64 S, .int .i64 D, .int .i64 O]] w fun e w' => e = .returned (.string T) ∧ Below w.heap.size w w' := by
  have EN : Hid (EnvT w) := en
  have HS : Hid (∀ b w', MapL w' b (entR ⟨A, H, S, D, O⟩) → EnvT w' → Calls Tryd.prog 24 #[.map (some b)] w' fun e w'' => e = .returned (.string T) ∧ Below w'.heap.size w' w'') := fun b w' M e' => by
    have h := hT.out
    unfold shTx at h
    unfold entR at M
    by_cases hz : tallyB ⟨A, H, S, D, O⟩ = true
    · rw [if_pos hz] at h M
      exact shown_yes ⟨A, H, S, D, O⟩ (tallyB_iff.1 hz) b w' M e' T h
    · rw [if_neg hz] at h M
      rw [← h]
      exact shown_no b w' M
  clear hT en
  have m1 : Hid True := trivial
  go_enter Tryd.func11, Tryd.ntmps11
  go_wp2_with (first
    | (clear m1; refine wpList_box_v rfl 25 _ rfl [.int .i64 A, .int .i64 H, .int .i64 S, .int .i64 D, .int .i64 O] rfl ?_; intro b1 w1 hb1 hw1 hB1 V1; obtain ⟨c0, c1, c2, c3, c4⟩ := cellsTl V1; have hz1 := hB1.size)
    | (go_at_call 17; refine (sumsOf_any ⟨A, H, S, D, O⟩ _).mono ?_; rintro e w2 ⟨b2, rfl, M2, hB2, -⟩; have hB := hB1.trans (hB2.mono hz1); have hz2 := hB2.size; have MM : Hid (MapL w2 b2 (entR ⟨A, H, S, D, O⟩)) := M2; clear M2)
    | (go_at_call 24; refine (HS.out b2 _ MM.out (EN.out.grow hB)).mono ?_; rintro e w3 ⟨rfl, hB3⟩; have hBB := hB.trans (hB3.mono (by omega)))
    | (fail))
  go_ret
  exact ⟨rfl, hBB⟩
end Go.Proofs.YtldflfmglpojlaaDoor.rg
