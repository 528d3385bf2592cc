/- Contracts: numbers and words read, the shape of a reply at the beginning of a text, the program's; a wrap of a law over listed variables. -/
import Derived.Test.YtefmndjoailemaaDoorCy3
import Derived.Test.YtefmndjoailemaaDoorRi1
import Derived.Test.YtefmndjoailemaaDoorWr2
import Derived.Test.YtefmndjoailemaaDoorRw1
import Derived.Test.YtefmndjoailemaaDoorRw4
import Derived.Test.YtefmndjoailemaaDoorPx2
import Derived.Test.YtefmndjoailemaaDoorEv2
import Derived.Deep.DeepCutAuto
import Derived.Lib.MinMax
import Derived.Deep.RegionHeld3
import Derived.BigQuiet
import Derived.Handed
import Derived.HandedShaped
import Derived.Shelf.Vars
namespace Go.Proofs.YtefmndjoailemaaDoor.cm
open Go.ChangeShapes Go.WideShapes Go.ChangeAt Go.RowKit
open Go.Deep Go.Joins
open Go.Proofs.YtefmndjoailemaaDoor.ce Go.Proofs.YtefmndjoailemaaDoor.ro Go.Proofs.YtefmndjoailemaaDoor.rg
set_option linter.unusedVariables false

theorem no10_step {s : ByteArray} {p e : Nat} (h : 10 ∉ ((bs s).drop p).take (e - p)) (hp : p ≤ e) (he : e < s.size) (hc : s[e] ≠ 10) : 10 ∉ ((bs s).drop p).take (e + 1 - p) := by
  have hj : e - p < ((bs s).drop p).length := by rw [List.length_drop, bs_len]; omega
  rw [show e + 1 - p = (e - p) + 1 by omega, List.take_succ_eq_append_getElem hj, List.mem_append, List.mem_singleton]
  rintro (q | q)
  · exact h q
  · rw [List.getElem_drop] at q
    apply hc
    rw [q]
    show s[e] = (bs s)[p + (e - p)]'_
    simp only [show p + (e - p) = e by omega]
    rfl
theorem split_len (x : UInt8) : ∀ l : List UInt8, (splitL x l).length ≤ l.length + 1
  | [] => by simp [splitL]
  | c :: r => by
    have ih := split_len x r
    by_cases h : c = x
    · rw [splitL_yes h]; simp; omega
    · cases e : splitL x r with
      | nil => exact absurd e (splitL_ne _ _)
      | cons w ws => rw [splitL_no h e]; rw [e] at ih; simp at ih ⊢; omega
theorem split_mem (x : UInt8) : ∀ (l : List UInt8), ∀ w ∈ splitL x l, w.length ≤ l.length
  | [], w, h => by simp [splitL] at h; rw [h]; simp
  | c :: r, w, h => by
    have ih := split_mem x r
    by_cases hc : c = x
    · rw [splitL_yes hc] at h
      rcases List.mem_cons.1 h with h | h
      · rw [h]; simp
      · have := ih w h; simp; omega
    · cases e : splitL x r with
      | nil => exact absurd e (splitL_ne _ _)
      | cons y ws =>
        rw [splitL_no hc e] at h
        rw [e] at ih
        rcases List.mem_cons.1 h with h | h
        · rw [h]; have := ih y (by simp); simp; omega
        · have := ih w (List.mem_cons_of_mem _ h); simp; omega
theorem cell_grow' {w w' : World} {b i : Nat} {v : Value} (hb : Below w.heap.size w w') (hB : b < w.heap.size) (h : w.cell? ⟨b, i, none⟩ = some v) : w'.cell? ⟨b, i, none⟩ = some v := by
  rw [World.cell?_of_block (w := w) (w' := w') (a := ⟨b, i, none⟩) (hb.block b hB)]
  exact h

theorem l1Split_32 (s : ByteArray) (w : World) (hs : s.size ≤ 1048576) :
    Calls Tryd.prog 30 #[.string s, .int .u8 32] w fun e w' => ∃ v, e = .returned v ∧ ∃ L, L.map bs = splitL 32 (bs s) ∧ Own encS w' w.heap.size w'.heap.size v L ∧ Below w.heap.size w w' := by
  have := l1Split_any s 32 w hs
  rw [show (((32 : UInt8).toNat : Nat) : Int) = 32 from rfl] at this
  exact this
theorem l1At_is (N : List ByteArray) (s : ByteArray) (v : Value) (w : World) (r : Rd encS w v N) (y : Int) (hy : posS s N = y) : Calls Tryd.prog 31 #[v, .string s] w fun e w' => e = .returned (.int .i64 y) ∧ w' = w := by
  subst hy
  exact l1At_any N s v w r
theorem cut_no {l : List UInt8} (h : 10 ∉ l) : Lib.cut l [10] = (l, [], false) := by
  rcases cut_line l with ⟨-, e⟩ | ⟨a, b, e, -, -⟩
  · exact e
  · rw [e] at h; simp at h
theorem rowS (L : List ByteArray) : encS.row L = L.map Value.string := by
  induction L with
  | nil => rfl
  | cons a r ih => rw [Enc.row_cons, ih]; rfl
theorem splitB_words (s : ByteArray) : (Lib.splitB ⟨#[32]⟩ 0 (Lib.countB s ⟨#[32]⟩) s).map bs = splitL 32 (bs s) :=
  (Lib.splitB_data ⟨#[32]⟩ 0 (Lib.countB s ⟨#[32]⟩) s).trans (split_words' 32 (bs s))
/-- a line's words, as the library splits it -/
theorem split_is (s : ByteArray) (h : List UInt8) (ws : List (List UInt8)) (hsp : Hid (splitL 32 (bs s) = h :: ws)) (m : Int) (w : World) (hs : s.size ≤ 1000) (hm : w.cell? ⟨2, 0, none⟩ = some (.int .i64 m)) :
    Calls Tryd.prog 49 #[.string s, .string ⟨#[32]⟩] w fun e w' => ∃ g, e = .returned (.slice (some ⟨g, 0, none⟩) (ws.length + 1) (ws.length + 1)) ∧ w'.cell? ⟨g, 0, none⟩ = some (.string (tx h)) ∧ Hid (Rd encS w' (.slice (some ⟨g, 0, none⟩) (ws.length + 1) (ws.length + 1)) (tx h :: ws.map tx)) ∧ Below w.heap.size w w' := by
  refine (Tryd.strings_Split s ⟨#[32]⟩ m w (by omega) hm (by decide)).mono ?_
  rintro e w' ⟨rfl, rfl⟩
  have e1 := splitB_words s
  rw [hsp.out] at e1
  have e2 : Lib.splitB ⟨#[32]⟩ 0 (Lib.countB s ⟨#[32]⟩) s = tx h :: ws.map tx := by
    have := congrArg (List.map tx) e1
    rw [List.map_map, show tx ∘ bs = id from funext tx_bs, List.map_id] at this
    simpa using this
  have hl : Lib.countB s ⟨#[32]⟩ + 1 = ws.length + 1 := by
    have := Lib.splitB_all ⟨#[32]⟩ (by decide) 0 _ s rfl
    rw [e2] at this
    simp at this
    omega
  have hsl : ws.length + 1 ≤ 1001 := by
    have := split_len 32 (bs s)
    rw [hsp.out, bs_len] at this
    simp at this
    omega
  rw [hl, e2]
  have R : Rd encS (w.alloc (.cells ((tx h :: ws.map tx).map Value.string).toArray 9)) (.slice (some ⟨w.heap.size, 0, none⟩) (ws.length + 1) (ws.length + 1)) (tx h :: ws.map tx) := rd_lit (E := encS) w _ _ _ (by simp) (by omega) (by rw [rowS])
  refine ⟨_, rfl, ?_, R, (Below.refl _ w).alloc (Nat.le_refl _) _⟩
  obtain ⟨b, off, e3, -, h4⟩ := rdS_cell R 0 (by simp)
  simp only [Option.some.injEq, Addr.mk.injEq] at e3
  obtain ⟨rfl, rfl, -⟩ := e3
  exact h4
theorem map_tx (ws : List (List UInt8)) : Hid ((ws.map tx).map bs = ws) := by
  unfold Hid
  rw [List.map_map, show bs ∘ tx = id from funext bs_tx, List.map_id]
theorem sizes {s : ByteArray} {h : List UInt8} {ws : List (List UInt8)} (hsp : Hid (splitL 32 (bs s) = h :: ws)) (hs : s.size ≤ 1000) : ∀ x ∈ ws.map tx, x.size ≤ 1048576 := fun x hx => by
  obtain ⟨y, hy, rfl⟩ := List.mem_map.1 hx
  have := split_mem 32 (bs s) y (by rw [hsp.out]; exact List.mem_cons_of_mem _ hy)
  rw [bs_len] at this
  rw [tx_size]
  omega
theorem clone_is (s : ByteArray) (w : World) (hs : s.size ≤ 1048576) : Calls Tryd.prog 68 #[.string s] w fun e w' => e = .returned (.string s) ∧ Below w.heap.size w w' := by
  go_enter Tryd.func68, Tryd.ntmps68
  go_wp2_with (first | (go_at_call 84; refine (Tryd.stringslite_Clone s _ (by omega)).mono ?_; rintro e w2 ⟨rfl, hB2⟩) | (fail))
  go_ret
  exact ⟨rfl, hB2⟩
end Go.Proofs.YtefmndjoailemaaDoor.cm
namespace Go.Proofs.YtefmndjoailemaaDoor.cm
open Go.ChangeShapes Go.WideShapes Go.ChangeAt Go.RowKit
open Go.Proofs.YtefmndjoailemaaDoor.ce Go.Proofs.YtefmndjoailemaaDoor.ro Go.Proofs.YtefmndjoailemaaDoor.rg
set_option linter.unusedVariables false

/-- what those who read numbers read -/
structure EnvN (w : World) : Prop where
  tab : Lib.TabIs Tryd.prog w "internal/strconv.uint64pow10" .u64 Lib.pow10Tab
  er : ∃ te pe, w.cell? ⟨6, 0, none⟩ = some (.iface te pe)
  ml : ∃ m, w.cell? ⟨2, 0, none⟩ = some (.int .i64 m)
theorem EnvN.grow {w w' : World} (h : EnvN w) (hb : Below w.heap.size w w') : EnvN w' := by
  obtain ⟨te, pe, h1⟩ := h.er
  obtain ⟨m, h2⟩ := h.ml
  exact ⟨tab_grow h.tab hb, ⟨te, pe, cell_grow hb (World.block_lt_of_cell? w _ h1) h1⟩, ⟨m, cell_grow hb (World.block_lt_of_cell? w _ h2) h2⟩⟩
theorem decT_is (n : Int) (l : List UInt8) (hl : Lib.itoa n = l) (h0 : -9223372036854775808 ≤ n) (h1 : n ≤ 9223372036854775807) (w : World) (tab : Lib.TabIs Tryd.prog w "internal/strconv.uint64pow10" .u64 Lib.pow10Tab) : Calls Tryd.prog 46 #[.int .i64 n] w fun e w' => e = .returned (.string (tx l)) ∧ Below w.heap.size w w' := by
  subst hl
  go_enter Tryd.func46, Tryd.ntmps46
  go_wp2_with (first | (go_at_call 62; refine (Tryd.strconv_FormatInt_10 n h0 h1 _ tab).mono ?_; rintro e w2 ⟨rfl, k, os, rfl⟩) | (fail))
  go_ret
  exact ⟨rfl, Go.Lib.below_grow _ w (Nat.le_refl _) k os⟩
set_option maxHeartbeats 1000000 in
theorem numberFrom_n (s : ByteArray) (hs : s.size ≤ 1048576) (w : World) (en : EnvN w) (a : Int) (b : Bool) (hr : Hid (rdF (bs s) = (a, b))) :
    Calls Tryd.prog 66 #[.string s] w fun e w' => e = .returned (.tuple #[.int .i64 a, .bool b]) ∧ Below w.heap.size w w' := by
  have EN : Hid (EnvN w) := en
  clear en
  obtain ⟨y, hy⟩ := hid_ex (tx (Lib.trimPrefix s.data.toList [45]))
  have hyl : Hid (y.size = (Lib.trimPrefix (bs s) [45]).length) := by unfold Hid; rw [← hy.out, tx_size]; rfl
  by_cases h9 : (9 : Int) < (y.size : Int)
  · have : (a, b) = ((0 : Int), false) := by rw [← hr.out]; exact num_long (by have := hyl.out; omega)
    obtain ⟨rfl, rfl⟩ := Prod.mk.inj this
    clear this hr
    go_enter Tryd.func66, Tryd.ntmps66
    go_wp2_with (first | (go_at_call 82; refine (Tryd.strings_TrimPrefix s _ _).mono ?_; rintro e wq ⟨rfl, hq⟩; subst wq; rw [show (⟨(Lib.trimPrefix s.data.toList (⟨#[45]⟩ : ByteArray).data.toList).toArray⟩ : ByteArray) = y from hy.out]) | (fail))
    go_ret2
    exact ⟨rfl, Below.refl _ _⟩
  · have h18 : (bs s).length ≤ 18 := by have := trim_len (bs s); have := hyl.out; omega
    have hps := parse_short h18
    have h9n : (Lib.trimPrefix (bs s) [45]).length ≤ 9 := by have := hyl.out; omega
    cases ha : Lib.atoi (bs s) with
    | none =>
      rw [ha] at hps
      have hsy : Lib.parseIntB 64 s.data.toList = .«syntax» := hps
      have : (a, b) = ((0 : Int), false) := by rw [← hr.out]; exact num_none ha
      obtain ⟨rfl, rfl⟩ := Prod.mk.inj this
      have HSY : Hid (Lib.parseIntB 64 s.data.toList = .«syntax») := hsy
      clear this hr ha hps hsy
      obtain ⟨te, pe, her⟩ := EN.out.er
      have HER : Hid (w.cell? ⟨6, 0, none⟩ = some (.iface te pe)) := her
      clear her
      go_enter Tryd.func66, Tryd.ntmps66
      go_wp2_with (first | (go_at_call 82; refine (Tryd.strings_TrimPrefix s _ _).mono ?_; rintro e wq ⟨rfl, hq⟩; subst wq; rw [show (⟨(Lib.trimPrefix s.data.toList (⟨#[45]⟩ : ByteArray).data.toList).toArray⟩ : ByteArray) = y from hy.out]) | (go_at_call 83; refine (Tryd.strconv_ParseInt_10_at64_syntax s (by omega) HSY.out (.iface te pe) _ HER.out (.inr ⟨te, pe, rfl⟩)).mono ?_; rintro e w2 ⟨M, rfl, -, -, hB2⟩) | (fail))
      go_ret2
      exact ⟨rfl, hB2⟩
    | some n =>
      rw [ha] at hps
      have HOK : Hid (Lib.parseIntB 64 s.data.toList = .ok n) := hps
      have hnum := num_yes h9n ha
      rw [hr.out] at hnum
      have hnb : -1000000000 < n ∧ n < 1000000000 := by
        have h := atoi_bd ha h9n
        exact h
      obtain ⟨z, hz⟩ := hid_ex (tx (Lib.itoa n))
      have hzs : z.size ≤ 100 := by rw [← hz.out]; exact itoa_bd hnb.1 hnb.2
      clear hps hyl
      by_cases he : Lib.itoa n = bs s
      · rw [if_pos he] at hnum
        obtain ⟨rfl, rfl⟩ := Prod.mk.inj hnum
        have hb : (z.toList == s.toList) = true := by rw [← hz.out, tx_eq, decide_eq_true he]
        clear hnum hr ha he
        go_enter Tryd.func66, Tryd.ntmps66
        go_wp2_with (first | (go_at_call 82; refine (Tryd.strings_TrimPrefix s _ _).mono ?_; rintro e wq ⟨rfl, hq⟩; subst wq; rw [show (⟨(Lib.trimPrefix s.data.toList (⟨#[45]⟩ : ByteArray).data.toList).toArray⟩ : ByteArray) = y from hy.out]) | (go_at_call 83; refine (Tryd.strconv_ParseInt_10_at64_ok s (by omega) _ HOK.out _).mono ?_; rintro e w2 ⟨rfl, hw2⟩; have hB2 := pw_below hw2; clear hw2) | (go_at_call 46; refine (decT_is _ _ rfl (by omega) (by omega) _ (tab_grow EN.out.tab hB2)).mono ?_; rintro e w3 ⟨rfl, hB3⟩; rw [hz.out]) | (fail))
        go_ret2
        exact ⟨rfl, hB2.trans (hB3.mono hB2.size)⟩
      · rw [if_neg he] at hnum
        obtain ⟨rfl, rfl⟩ := Prod.mk.inj hnum
        have hb : (z.toList == s.toList) = false := by rw [← hz.out, tx_eq, decide_eq_false he]
        clear hnum hr ha he
        go_enter Tryd.func66, Tryd.ntmps66
        go_wp2_with (first | (go_at_call 82; refine (Tryd.strings_TrimPrefix s _ _).mono ?_; rintro e wq ⟨rfl, hq⟩; subst wq; rw [show (⟨(Lib.trimPrefix s.data.toList (⟨#[45]⟩ : ByteArray).data.toList).toArray⟩ : ByteArray) = y from hy.out]) | (go_at_call 83; refine (Tryd.strconv_ParseInt_10_at64_ok s (by omega) _ HOK.out _).mono ?_; rintro e w2 ⟨rfl, hw2⟩; have hB2 := pw_below hw2; clear hw2) | (go_at_call 46; refine (decT_is n _ rfl (by omega) (by omega) _ (tab_grow EN.out.tab hB2)).mono ?_; rintro e w3 ⟨rfl, hB3⟩; rw [hz.out]) | (fail))
        go_ret2
        exact ⟨rfl, hB2.trans (hB3.mono hB2.size)⟩
theorem rr_envN {w0 w : World} {b : Nat} {s : Rs} (h : Rr w0 w b s) (en : EnvN w0) : EnvN w := by
  obtain ⟨L, h1, h2, h3⟩ := h
  exact en.grow h2.bl
set_option maxRecDepth 10000 in
set_option maxHeartbeats 1000000 in
theorem numberN {w0 w : World} {b : Nat} {s : Rs} (t : Bool) (en : EnvN w0) (h : Rr w0 w b s) :
    Calls Tryd.prog 51 #[.pointer (some ⟨b, 0, none⟩), .bool t] w fun e w' => e = .returned (.int .i64 (numF t s).1) ∧ Rr w0 w' b (numF t s).2 ∧ Ob b w w' := by
  have HH : Hid (Rr w0 w b s) := h
  have EN : Hid (EnvN w0) := en
  clear h en
  cases t with
  | false =>
    go_enter Tryd.func51, Tryd.ntmps51
    go_wp2
    go_ret
    exact ⟨rfl, HH.out, Ob.refl _ _⟩
  | true =>
    obtain ⟨a, ha⟩ := hid_ex (rdF (wordF s).1).1
    obtain ⟨c, hc⟩ := hid_ex (rdF (wordF s).1).2
    have hac : Hid (rdF (wordF s).1 = (a, c)) := by unfold Hid; rw [← ha.out, ← hc.out]
    have e1 : Hid ((numF true s).1 = a) := ha
    have e2 : Hid ((numF true s).2 = ⟨(wordF s).2.l, (wordF s).2.x || !c⟩) := by unfold Hid numF; simp [hc.out]
    rw [e1.out, e2.out]
    cases c with
    | true =>
      go_enter Tryd.func51, Tryd.ntmps51
      go_wp2_with (first | (go_at_call 67; refine (wordR HH.out).mono ?_; rintro e w2 ⟨z, rfl, hz, hzs, hR, hO⟩; have HR : Hid (Rr w0 w2 b (wordF s).2) := hR; have HZ : Hid (bs z = (wordF s).1) := hz; clear hR hz) | (go_at_call 66; refine (numberFrom_n z hzs _ (rr_envN HR.out EN.out) a true (by unfold Hid; rw [HZ.out]; exact hac.out)).mono ?_; rintro e w3 ⟨rfl, hB3⟩) | (fail))
      go_ret
      exact ⟨rfl, by simpa using HR.out.grow hB3, hO.trans (Ob.below hB3)⟩
    | false =>
      go_enter Tryd.func51, Tryd.ntmps51
      go_wp2_with (first | (go_at_call 67; refine (wordR HH.out).mono ?_; rintro e w2 ⟨z, rfl, hz, hzs, hR, hO⟩; have HR : Hid (Rr w0 w2 b (wordF s).2) := hR; have HZ : Hid (bs z = (wordF s).1) := hz; clear hR hz) | (go_at_call 66; refine (numberFrom_n z hzs _ (rr_envN HR.out EN.out) a false (by unfold Hid; rw [HZ.out]; exact hac.out)).mono ?_; rintro e w3 ⟨rfl, hB3⟩; have HR3 : Hid (Rr w0 w3 b (wordF s).2) := HR.out.grow hB3; obtain ⟨q1, q2⟩ := rr_cell HR3.out) | (fail))
      go_ret
      exact ⟨rfl, by simpa using HR3.out.wrong, (hO.trans (Ob.below hB3)).trans (Ob.only (only_set w3 b 1 _))⟩
end Go.Proofs.YtefmndjoailemaaDoor.cm
namespace Go.Proofs.YtefmndjoailemaaDoor.cm
open Go.ChangeShapes Go.WideShapes Go.ChangeAt Go.RowKit
open Go.Deep Go.Joins
open Go.Proofs.YtefmndjoailemaaDoor.ce Go.Proofs.YtefmndjoailemaaDoor.ro Go.Proofs.YtefmndjoailemaaDoor.rg
set_option linter.unusedVariables false

/-- what those who read replies read -/
structure EnvX (w : World) : Prop where
  p : EnvP w
  n : EnvN w
theorem EnvX.grow {w w' : World} (h : EnvX w) (hb : Below w.heap.size w w') : EnvX w' := ⟨h.p.grow hb, h.n.grow hb⟩
theorem kindOf_at {h : List UInt8} {j : Nat} (hj : j < 12) (e : kinds[j]'hj = h) (hn : ∀ i (hi : i < j), kinds[i]'(Nat.lt_trans hi hj) ≠ h) : kindOf h = (j : Int) + 1 := by
  unfold kindOf
  have : kinds.findIdx? (· == h) = some j := by
    rw [List.findIdx?_eq_some_iff_getElem]
    exact ⟨hj, by simpa using e, fun i hi => by
      have := hn i hi
      simp only [Bool.not_eq_true, beq_eq_false_iff_ne, ne_eq]
      exact this⟩
  rw [this]
  rfl
theorem kindOf_none {h : List UInt8} (hn : ∀ i (hi : i < 12), kinds[i]'hi ≠ h) : kindOf h = 0 := by
  unfold kindOf
  have : kinds.findIdx? (· == h) = none := by
    rw [List.findIdx?_eq_none_iff]
    intro x hx
    obtain ⟨i, hi, rfl⟩ := List.mem_iff_getElem.1 hx
    simpa using hn i hi
  rw [this]
  rfl
theorem kws_get {i : Nat} (hi : i < 12) : kws[i + 1]'(by show i + 1 < 13; omega) = tx (kinds[i]'hi) := by
  unfold kws
  rw [List.getElem_cons_succ, List.getElem_map]
  rfl
set_option maxHeartbeats 1000000 in
theorem kindOf_any (s : ByteArray) (v : Int) (hv : Hid (kindOf (bs s) = v)) (w : World) (en : EnvP w) : Calls Tryd.prog 50 #[.string s] w fun e w' => e = .returned (.int .i64 v) ∧ w' = w := by
  have EN : Hid (EnvP w) := en
  clear en
  go_enter Tryd.func50, Tryd.ntmps50
  go_wp2
  go_loop [3] (fun q => ∃ j : Nat, j ≤ 12 ∧ q = .int .i64 ((j + 1 : Nat) : Int) ∧ Hid (∀ i (hi : i < j) (h12 : i < 12), kinds[i]'h12 ≠ bs s)) (fun q => 13 - (intOf q).toNat)
  case atStart => exact ⟨0, by omega, rfl, fun i hi => by omega⟩
  case round =>
    obtain ⟨j, hj, rfl, hn⟩ := hrel
    by_cases hlt : j < 12
    · have dk := EN.out.wd (j + 1) (by show j + 1 < 13; omega)
      rw [kws_get hlt] at dk
      obtain ⟨x, hx⟩ := hid_ex (tx (kinds[j]'hlt))
      rw [hx.out] at dk
      obtain ⟨p, hp⟩ := hid_ex (j + 1)
      rw [hp.out] at dk ⊢
      have hp13 : (p : Int) < 13 := by have := hp.out; omega
      have hp12 : (p : Int) ≤ 12 := by have := hp.out; omega
      have hxe : (x.toList == s.toList) = decide (kinds[j]'hlt = bs s) := by rw [← hx.out]; exact tx_eq
      by_cases e : kinds[j]'hlt = bs s
      · rw [decide_eq_true e] at hxe
        have ev : v = (p : Int) := by rw [← hv.out, kindOf_at hlt e (fun i hi => hn.out i hi (by omega)), ← hp.out]; push_cast; rfl
        subst ev
        clear e
        go_wp2
        go_ret
        exact ⟨rfl, rfl⟩
      · rw [decide_eq_false e] at hxe
        have HE : Hid (kinds[j]'hlt ≠ bs s) := e
        clear e
        go_wp2
        go_round
        case rel => exact ⟨j + 1, by omega, by have := hp.out; go_num, fun i hi h12 => by
          by_cases q : i = j
          · subst q; exact HE.out
          · exact hn.out i (by omega) h12⟩
        case measure => have := hp.out; simp [intOf]; omega
    · have hj12 : ¬ (((j + 1 : Nat) : Int) ≤ 12) := by omega
      have ev : v = 0 := by rw [← hv.out, kindOf_none (fun i hi => hn.out i (by omega) hi)]
      subst ev
      obtain ⟨p, hp⟩ := hid_ex (j + 1)
      rw [hp.out] at hj12 ⊢
      go_wp2
      go_ret
      exact ⟨rfl, rfl⟩
theorem sizeWd : (Tryd.prog.info? 82).map (·.size) = some 2 := by kernel_rfl
theorem zeroWd (w : World) : (zeroValue 82).run Tryd.prog w = .ok (.agg [Value.slice none 0 0, .bool false].toArray) w := Tryd.zeroValue82 w
/-- what a shape is in Go -/
def svO : Option Rp → Value
  | none => .nilIface
  | some r => shV r
theorem rr_left {w0 w : World} {b : Nat} {s : Rs} (h : Rr w0 w b s) : ∃ a n k, w.cell? ⟨b, 0, none⟩ = some (.slice a n k) ∧ n = s.l.length := by
  obtain ⟨L, h1, h2, h3⟩ := h
  obtain ⟨a, n, k, V, r⟩ := h2.v
  refine ⟨a, n, k, V.cell 0 (by simp), ?_⟩
  rw [← h1, List.length_map]
  exact r.cap.1
theorem rr_new {w0 w : World} {b : Nat} {L : List ByteArray} {a : Option Addr} {n k : Nat} (V : VBlk w b 82 [.slice a n k, .bool false]) (r : Rd encS w0 (.slice a n k) L) (hb : Below w0.heap.size w0 w) (hl : w0.heap.size ≤ b) (hs : ∀ y ∈ L, y.size ≤ 1048576) : Rr w0 w b ⟨L.map bs, false⟩ := ⟨L, rfl, ⟨⟨a, n, k, V, r⟩, hb, hl⟩, hs⟩
theorem oneWd (a : Option Addr) (n k : Nat) (x : Bool) : ∀ v ∈ [Value.slice a n k, .bool x], v.oneCell' = true := by
  intro v hv
  simp only [List.mem_cons, List.not_mem_nil, or_false] at hv
  rcases hv with rfl | rfl <;> rfl
set_option maxRecDepth 10000 in
set_option maxHeartbeats 2000000 in
theorem valueFrom_any (L : List ByteArray) (vs : Value) (q : ByteArray) (hq : q.size ≤ 1048576) (w : World) (en : EnvX w) (r : Rd encS w vs L) (hs : ∀ y ∈ L, y.size ≤ 1048576) (X : Value) (hX : Hid (svO (valF (L.map bs) (bs q)) = X)) :
    Calls Tryd.prog 52 #[vs, .string q] w fun e w' => e = .returned X ∧ Below w.heap.size w w' := by
  obtain ⟨a, cap, rfl⟩ := r.form
  have RR : Hid (Rd encS w (.slice a L.length cap) L) := r
  have HS : Hid (∀ y ∈ L, y.size ≤ 1048576) := hs
  have EN : Hid (EnvX w) := en
  clear r hs en
  obtain ⟨ws, hws⟩ := hid_ex (L.map bs)
  obtain ⟨⟨n0, s1⟩, e0⟩ := hid_ex (wordF ⟨ws, false⟩)
  obtain ⟨⟨fl, s2⟩, e1⟩ := hid_ex (numF true s1)
  obtain ⟨⟨sz, s3⟩, e2⟩ := hid_ex (numF true s2)
  obtain ⟨t, ht⟩ := hid_ex (!s3.l.isEmpty)
  obtain ⟨⟨ca, s4⟩, e3⟩ := hid_ex (numF t s3)
  have hv : Hid (valF ws (bs q) = if 0 ≤ sz ∧ sz ≤ min 64 (q.size : Int) then some ⟨5, tx n0, fl, tx ((bs q).take sz.toNat), ca, 0⟩ else none) := by
    unfold Hid valF
    rw [e0.out]
    dsimp only
    rw [e1.out]
    dsimp only
    rw [e2.out]
    dsimp only
    rw [ht.out, e3.out, bs_len]
  rw [hws.out, hv.out] at hX
  have f1 : Hid ((numF true s1).1 = fl) := by unfold Hid; rw [e1.out]
  have g1 : Hid ((numF true s1).2 = s2) := by unfold Hid; rw [e1.out]
  have f2 : Hid ((numF true s2).1 = sz) := by unfold Hid; rw [e2.out]
  have g2 : Hid ((numF true s2).2 = s3) := by unfold Hid; rw [e2.out]
  have f3 : Hid ((numF t s3).1 = ca) := by unfold Hid; rw [e3.out]
  have k1 : Hid True := trivial
  have k2 : Hid True := trivial
  have k3 : Hid True := trivial
  have k4 : Hid True := trivial
  have hbd : -1000000000 < sz ∧ sz < 1000000000 := by
    rw [← f2.out]
    unfold numF
    exact rdF_bd _
  go_enter Tryd.func52, Tryd.ntmps52
  go_upto_region 5 with (first | (refine wpList_alloc_v rfl 82 rfl _ zeroWd ?_; intro b5 w1 hb5 hw5 hB1 V1) | (refine wpList_store_v rfl 82 _ _ rfl b5 [.slice a L.length cap, .bool false] rfl rfl sizeWd V1 rfl (oneWd _ _ _ _) ?_; intro w2 hO2 V2; have hB2 : Below w.heap.size w w2 := hB1.trans (hO2.2.2 _ hb5); have R0 : Hid (Rr w w2 b5 ⟨L.map bs, false⟩) := rr_new V2 RR.out hB2 hb5 HS.out) | (go_at_call 67; refine (wordR R0.out).mono ?_; rintro e w3 ⟨z, rfl, hz, hzs, hr3, hO3⟩; rw [hws.out, e0.out] at hz hr3; have HZ : Hid (bs z = n0) := hz; have R3 : Hid (Rr w w3 b5 s1) := hr3; clear hz hr3) | (clear k1; go_at_call 51; refine (numberN true EN.out.n R3.out).mono ?_; rintro e w4 ⟨rfl, hr4, hO4⟩; rw [f1.out]; have R4 : Hid (Rr w w4 b5 (numF true s1).2) := hr4; clear hr4) | (clear k2; go_at_call 51; refine (numberN true EN.out.n (by have := R4.out; rw [g1.out] at this; exact this)).mono ?_; rintro e w5 ⟨rfl, hr5, hO5⟩; rw [f2.out]; have R5 : Hid (Rr w w5 b5 (numF true s2).2) := hr5; clear hr5) | (fail))
  rw [g2.out] at R5
  obtain ⟨a5, n5, c5, d5, hn5⟩ := rr_left R5.out
  have hB5 : Below w.heap.size w w5 := by
    have h3 := hO3.low w.heap.size hb5 hB2.size
    have h4 := hO4.low w.heap.size hb5 (Nat.le_trans hB2.size hO3.size)
    have h5' := hO5.low w.heap.size hb5 (Nat.le_trans (Nat.le_trans hB2.size hO3.size) hO4.size)
    exact ((hB2.trans h3).trans h4).trans h5'
  have hgt : decide (0 < n5) = t := by
    rw [← ht.out]
    cases e : s3.l with
    | nil => rw [e] at hn5; simp [hn5]
    | cons x y => rw [e] at hn5; simp at hn5; simp; omega
  clear hn5 ht
  have hin : ∃ y, (decide ((0 : Int) ≤ sz) && decide (sz ≤ min 64 (q.size : Int))) = y := ⟨_, rfl⟩
  obtain ⟨y, hy⟩ := hin
  have HY : Hid ((decide ((0 : Int) ≤ sz) && decide (sz ≤ min 64 (q.size : Int))) = y) := hy
  cases y with
  | false =>
    have eX : X = .nilIface := by
      rw [← hX.out, if_neg]
      · rfl
      · intro h
        simp [h.1, h.2] at hy
    subst eX
    clear hy hX
    go_wp2_with (first | (clear k3; go_at_call 51; refine (numberN t EN.out.n R5.out).mono ?_; rintro e w6 ⟨rfl, hr6, hO6⟩; rw [f3.out]; have R6 : Hid (Rr w w6 b5 (numF t s3).2) := hr6; clear hr6) | (go_at_call 34; refine (with_is _ _ _ false HY.out _).mono ?_; rintro e wq ⟨rfl, hq⟩; subst wq) | (fail))
    go_ret
    exact ⟨rfl, hB5.trans (hO6.low _ hb5 hB5.size)⟩
  | true =>
    have hyy : 0 ≤ sz ∧ sz ≤ min 64 (q.size : Int) := by simpa using hy
    obtain ⟨k, rfl⟩ : ∃ k : Nat, sz = k := ⟨sz.toNat, by omega⟩
    have hkq : k ≤ q.size := by omega
    obtain ⟨x, hx⟩ := hid_ex (q.extract 0 k)
    have hxe : q.extract 0 k = x := hx.out
    have hxs : x.size ≤ 1048576 := by rw [← hx.out, ByteArray.size_extract]; omega
    have hxt : Hid (tx ((bs q).take k) = x) := by
      unfold Hid
      rw [← hx.out, ← tx_bs (q.extract 0 k), bs_extract, List.drop_zero, Nat.sub_zero]
    have hzt : Hid (tx n0 = z) := by unfold Hid; rw [← HZ.out, tx_bs]
    have eX : X = .iface 75 (.agg #[.string z, .int .i64 fl, .string x, .int .i64 ca]) := by
      rw [← hX.out, if_pos hyy, hzt.out, Int.toNat_natCast, hxt.out]
      rfl
    subst eX
    clear hy hX hyy
    have hk0 : (0 : Int) ≤ (k : Int) := by omega
    have hk1 : (k : Int) ≤ (q.size : Int) := by omega
    go_upto_region 8 with (first | (clear k3; go_at_call 51; refine (numberN t EN.out.n R5.out).mono ?_; rintro e w6 ⟨rfl, hr6, hO6⟩; rw [f3.out]; have R6 : Hid (Rr w w6 b5 (numF t s3).2) := hr6; clear hr6) | (go_at_call 34; refine (with_is _ _ _ true HY.out _).mono ?_; rintro e wq ⟨rfl, hq⟩; subst wq) | (fail))
    go_region_with (first | (clear k4; go_at_call 68; refine (clone_is z _ hzs).mono ?_; rintro e w7 ⟨rfl, hB7⟩) | (go_at_call 68; refine (clone_is x _ hxs).mono ?_; rintro e w8 ⟨rfl, hB8⟩) | (fail))
    all_goals
      go_wp2
      go_ret
      have hB6 := hB5.trans (hO6.low _ hb5 hB5.size)
      exact ⟨rfl, (hB6.drew.trans (hB7.mono hB6.size)).trans (hB8.mono (Nat.le_trans hB6.size hB7.size))⟩
end Go.Proofs.YtefmndjoailemaaDoor.cm
namespace Go.Proofs.YtefmndjoailemaaDoor.cm
open Go.ChangeShapes Go.WideShapes Go.ChangeAt Go.RowKit
open Go.Deep Go.Joins
open Go.Proofs.YtefmndjoailemaaDoor.ce Go.Proofs.YtefmndjoailemaaDoor.ro Go.Proofs.YtefmndjoailemaaDoor.rg
set_option linter.unusedVariables false

theorem shape_line {t a u : List UInt8} (ht : t = a ++ 10 :: u) (ha : 10 ∉ a) (hl : a.length ≤ 100) {h : List UInt8} {ws : List (List UInt8)} (hs : splitL 32 a = h :: ws) : shapeF t = shapeW h ws u := by
  have el : lineOf t = a := by rw [ht]; exact lineOf_app ha u
  have h10 : 10 ∈ t.take 101 := by
    rw [ht, List.take_append, List.take_of_length_le (by omega)]
    obtain ⟨k, hk⟩ : ∃ k, 101 - a.length = k + 1 := ⟨100 - a.length, by omega⟩
    rw [hk, List.take_succ_cons]
    simp
  have ed : t.drop (a.length + 1) = u := by
    rw [ht, List.drop_append, List.drop_eq_nil_of_le (by omega), show a.length + 1 - a.length = 1 by omega]
    rfl
  unfold shapeF
  rw [if_pos h10, el, hs, ed]
  rfl
set_option maxRecDepth 100000 in
set_option maxHeartbeats 2000000 in
theorem shapeFrom_any (s : ByteArray) (hs : s.size ≤ 1048576) (w : World) (en : EnvX w) (X : Value) (hX : Hid (svO (shapeF (bs s)) = X)) :
    Calls Tryd.prog 35 #[.string s] w fun e w' => e = .returned X ∧ Below w.heap.size w w' := by
  have EN : Hid (EnvX w) := en
  clear en
  obtain ⟨mm, hmm0⟩ := EN.out.n.ml
  have hmm : Hid (w.cell? ⟨2, 0, none⟩ = some (.int .i64 mm)) := hmm0
  clear hmm0
  obtain ⟨q, hq⟩ := hid_ex (s.extract 0 (min (s.size : Int) 101).toNat)
  have hqe : s.extract 0 (min (s.size : Int) 101).toNat = q := hq.out
  have hqb : Hid (bs q = (bs s).take 101) := by
    unfold Hid
    rw [← hq.out, bs_extract, List.drop_zero, Nat.sub_zero]
    by_cases h : s.size ≤ 101
    · rw [List.take_of_length_le (by rw [bs_len]; omega), List.take_of_length_le (by rw [bs_len]; omega)]
    · rw [show (min (s.size : Int) 101).toNat = 101 by omega]
  have hqs : q.size ≤ 101 ∧ q.size ≤ s.size ∧ (q.size ≤ 100 → q.size = s.size) := by
    have := congrArg List.length hqb.out
    rw [bs_len, List.length_take, bs_len] at this
    omega
  clear hq
  by_cases h10 : 10 ∈ bs q
  · obtain ⟨a, b, hab, hna, hcy⟩ : ∃ a b, bs q = a ++ 10 :: b ∧ 10 ∉ a ∧ Lib.cut (bs q) [10] = (a, b, true) := by
      rcases cut_line (bs q) with ⟨n, -⟩ | x
      · exact absurd h10 n
      · exact x
    have hcut : Hid (Lib.cut (bs q) [10] = (a, b, true)) := hcy
    obtain ⟨ln, hln⟩ := hid_ex (tx a)
    have ela : (⟨a.toArray⟩ : ByteArray) = ln := hln.out
    have hbl : Hid (bs ln = a) := by unfold Hid; rw [← hln.out, bs_tx]
    have hal : a.length ≤ 100 := by have := congrArg List.length hab; rw [bs_len] at this; simp at this; omega
    have hlsz : Hid (ln.size = a.length) := by unfold Hid; rw [← hln.out, tx_size]
    have hlns : ln.size ≤ 1000 := by have := hlsz.out; omega
    obtain ⟨u, hu⟩ : ∃ u, bs s = a ++ 10 :: u := ⟨b ++ (bs s).drop 101, by have := List.take_append_drop 101 (bs s); rw [← hqb.out, hab] at this; have e := this.symm; rw [List.append_assoc, List.cons_append] at e; exact e⟩
    have hsl : s.size = a.length + 1 + u.length := by have := congrArg List.length hu; rw [bs_len] at this; simp at this; omega
    obtain ⟨h, ws, hsp⟩ : ∃ h ws, splitL 32 (bs ln) = h :: ws := by
      cases e : splitL 32 (bs ln) with
      | nil => exact absurd e (splitL_ne _ _)
      | cons h ws => exact ⟨h, ws, rfl⟩
    have HSP : Hid (splitL 32 (bs ln) = h :: ws) := hsp
    rw [shape_line hu hna hal (h := h) (ws := ws) (by rw [← hbl.out]; exact hsp)] at hX
    obtain ⟨v, hv0⟩ := hid_ex (kindOf h)
    have hv : Hid (kindOf (bs (tx h)) = v) := by unfold Hid; rw [bs_tx]; exact hv0.out
    have hvb := kindOf_bd h
    rw [hv0.out] at hvb
    unfold shapeW at hX
    rw [hv0.out] at hX
    obtain ⟨bh, hbh⟩ := hid_ex (a.length + 1)
    have ebh : IntKind.i64.wrap ((ln.size : Int) + 1) = (bh : Int) := by rw [IntKind.wrap_i64]; have := hlsz.out; have := hbh.out; omega
    have hbs : (bh : Int) ≤ (s.size : Int) := by have := hbh.out; omega
    obtain ⟨fo, hfo0⟩ := hid_ex (s.extract bh s.size)
    have hfe : s.extract bh s.size = fo := hfo0.out
    have hfs : fo.size ≤ 1048576 := by rw [← hfo0.out, ByteArray.size_extract]; omega
    have hfo : Hid (bs fo = u) := by
      unfold Hid
      rw [← hfo0.out, bs_extract, List.take_of_length_le (by rw [List.length_drop, bs_len]; omega), hu, ← hbh.out, List.drop_append, List.drop_eq_nil_of_le (by omega), show a.length + 1 - a.length = 1 by omega]
      rfl
    clear h10 hab hcy hu hsp hsl hal hna hfo0
    by_cases z0 : v = 0
    · subst z0
      have eX : X = .nilIface := by rw [← hX.out]; rfl
      subst eX
      clear hX
      go_enter Tryd.func35, Tryd.ntmps35
      go_wp2_with (first | (go_at_call 48; refine (Tryd.strings_Cut q ⟨#[10]⟩ mm _ (by omega) hmm.out).mono ?_; rintro er w3 ⟨rfl, nd, rfl⟩; rw [show Lib.cut q.data.toList (⟨#[10]⟩ : ByteArray).data.toList = _ from hcut.out]; dsimp only; rw [ela]; have hBd : Below w.heap.size w (w.drewN nd) := bdN (Below.refl _ _) nd) | (go_at_call 49; refine (split_is ln h _ HSP mm _ hlns (cell_grow hBd (World.block_lt_of_cell? w _ hmm.out) hmm.out)).mono ?_; rintro er w4 ⟨g, rfl, c0, RR, hB4⟩; have hB4' : Below w.heap.size w w4 := hBd.trans (hB4.mono hBd.size)) | (go_at_call 50; refine (kindOf_any (tx h) _ hv _ (EN.out.p.grow hB4')).mono ?_; rintro er wq ⟨rfl, hq⟩; subst wq) | (fail))
      go_ret
      exact ⟨rfl, hB4'⟩
    · have hz0 : (v == 0) = false := by simpa using z0
      rw [if_neg z0] at hX
      by_cases z6 : v = 6
      · subst z6
        obtain ⟨m, hnm⟩ := hid_ex (numF true ⟨ws, false⟩).1
        have eX : X = .iface 73 (.int .i64 m) := by rw [← hX.out, if_pos rfl, hnm.out]; rfl
        subst eX
        clear hX z0
        rcases ws with _ | ⟨y2, ws2⟩
        · skip
          have R1 : ∀ (w' : World) (g : Nat), Rd encS w' (.slice (some ⟨g, 0, none⟩) 1 1) (tx h :: [].map tx) → Hid (Rd encS w' (.slice (some ⟨g, 0, none⟩) 0 0) ([].map tx)) := fun w' g r => by
            rcases r.rest 1 (by simp) with ⟨hlt, -⟩ | ⟨-, -, -, R2⟩
            · exact absurd hlt (by decide)
            · exact R2
          go_enter Tryd.func35, Tryd.ntmps35
          go_wp2_with (first | (go_at_call 48; refine (Tryd.strings_Cut q ⟨#[10]⟩ mm _ (by omega) hmm.out).mono ?_; rintro er w3 ⟨rfl, nd, rfl⟩; rw [show Lib.cut q.data.toList (⟨#[10]⟩ : ByteArray).data.toList = _ from hcut.out]; dsimp only; rw [ela]; have hBd : Below w.heap.size w (w.drewN nd) := bdN (Below.refl _ _) nd) | (go_at_call 49; refine (split_is ln h _ HSP mm _ hlns (cell_grow hBd (World.block_lt_of_cell? w _ hmm.out) hmm.out)).mono ?_; rintro er w4 ⟨g, rfl, c0, RR, hB4⟩; have hB4' : Below w.heap.size w w4 := hBd.trans (hB4.mono hBd.size); have R2 := R1 _ _ RR.out) | (go_at_call 50; refine (kindOf_any (tx h) _ hv _ (EN.out.p.grow hB4')).mono ?_; rintro er wq ⟨rfl, hq⟩; subst wq) | (refine wpList_alloc_v rfl 82 rfl _ zeroWd ?_; intro b8 w5 hb8 hw8 hB5 V5; have hz5 := hB5.size) | (refine wpList_store_v rfl 82 _ _ rfl b8 [.slice (some ⟨g, 0, none⟩) 0 0, .bool false] rfl rfl sizeWd V5 rfl (oneWd _ _ _ _) ?_; intro w6 hO6 V6; have hB46 : Below w4.heap.size w4 w6 := hB5.trans (hO6.2.2 _ hb8); have R0 : Hid (Rr w4 w6 b8 ⟨([].map tx).map bs, false⟩) := rr_new V6 R2.out hB46 hb8 (sizes HSP hlns)) | (go_at_call 51; refine (numberN true (EN.out.n.grow hB4') R0.out).mono ?_; rintro e w7 ⟨rfl, hr7, hO7⟩; rw [(map_tx []).out, hnm.out]) | (fail))
          go_ret
          exact ⟨rfl, (hB4'.trans (hB46.mono hB4'.size)).trans (hO7.low _ (by have := hB4'.size; omega) (Nat.le_trans hB4'.size hB46.size))⟩
        · skip
          have hkk : ¬ ws2.length + 1 + 1 = 1 := by omega
          have R1 : ∀ (w' : World) (g : Nat), Rd encS w' (.slice (some ⟨g, 0, none⟩) (ws2.length + 1 + 1) (ws2.length + 1 + 1)) (tx h :: (y2 :: ws2).map tx) → Hid (Rd encS w' (.slice (some ⟨g, 1, none⟩) (ws2.length + 1) (ws2.length + 1)) ((y2 :: ws2).map tx)) := fun w' g r => by
            rcases r.rest 1 (by simp) with ⟨-, R2⟩ | ⟨hk, -⟩
            · have := R2.out
              rw [show 0 + 1 * encS.k = 1 from rfl] at this
              simpa [Hid] using this
            · exact absurd hk (by omega)
          have hi0 : (0 : Int) < ((ws2.length + 1 + 1 : Nat) : Int) := by omega
          have hi1 : (1 : Int) ≤ ((ws2.length + 1 + 1 : Nat) : Int) := by omega
          go_enter Tryd.func35, Tryd.ntmps35
          go_wp2_with (first | (go_at_call 48; refine (Tryd.strings_Cut q ⟨#[10]⟩ mm _ (by omega) hmm.out).mono ?_; rintro er w3 ⟨rfl, nd, rfl⟩; rw [show Lib.cut q.data.toList (⟨#[10]⟩ : ByteArray).data.toList = _ from hcut.out]; dsimp only; rw [ela]; have hBd : Below w.heap.size w (w.drewN nd) := bdN (Below.refl _ _) nd) | (go_at_call 49; refine (split_is ln h _ HSP mm _ hlns (cell_grow hBd (World.block_lt_of_cell? w _ hmm.out) hmm.out)).mono ?_; rintro er w4 ⟨g, rfl, c0, RR, hB4⟩; have hB4' : Below w.heap.size w w4 := hBd.trans (hB4.mono hBd.size); have R2 := R1 _ _ RR.out) | (go_at_call 50; refine (kindOf_any (tx h) _ hv _ (EN.out.p.grow hB4')).mono ?_; rintro er wq ⟨rfl, hq⟩; subst wq) | (refine wpList_alloc_v rfl 82 rfl _ zeroWd ?_; intro b8 w5 hb8 hw8 hB5 V5; have hz5 := hB5.size) | (refine wpList_store_v rfl 82 _ _ rfl b8 [.slice (some ⟨g, 1, none⟩) (ws2.length + 1) (ws2.length + 1), .bool false] rfl rfl sizeWd V5 rfl (oneWd _ _ _ _) ?_; intro w6 hO6 V6; have hB46 : Below w4.heap.size w4 w6 := hB5.trans (hO6.2.2 _ hb8); have R0 : Hid (Rr w4 w6 b8 ⟨((y2 :: ws2).map tx).map bs, false⟩) := rr_new V6 R2.out hB46 hb8 (sizes HSP hlns)) | (go_at_call 51; refine (numberN true (EN.out.n.grow hB4') R0.out).mono ?_; rintro e w7 ⟨rfl, hr7, hO7⟩; rw [(map_tx (y2 :: ws2)).out, hnm.out]) | (fail))
          go_ret
          exact ⟨rfl, (hB4'.trans (hB46.mono hB4'.size)).trans (hO7.low _ (by have := hB4'.size; omega) (Nat.le_trans hB4'.size hB46.size))⟩
      · have hz6 : (v == 6) = false := by simpa using z6
        rw [if_neg z6] at hX
        by_cases z5 : v = 5
        · subst z5
          rw [if_pos rfl] at hX
          clear z0 z6
          rcases ws with _ | ⟨y2, ws2⟩
          · skip
            have R1 : ∀ (w' : World) (g : Nat), Rd encS w' (.slice (some ⟨g, 0, none⟩) 1 1) (tx h :: [].map tx) → Hid (Rd encS w' (.slice (some ⟨g, 0, none⟩) 0 0) ([].map tx)) := fun w' g r => by
              rcases r.rest 1 (by simp) with ⟨hlt, -⟩ | ⟨-, -, -, R2⟩
              · exact absurd hlt (by decide)
              · exact R2
            go_enter Tryd.func35, Tryd.ntmps35
            go_upto_region 14 with (first | (go_at_call 48; refine (Tryd.strings_Cut q ⟨#[10]⟩ mm _ (by omega) hmm.out).mono ?_; rintro er w3 ⟨rfl, nd, rfl⟩; rw [show Lib.cut q.data.toList (⟨#[10]⟩ : ByteArray).data.toList = _ from hcut.out]; dsimp only; rw [ela]; have hBd : Below w.heap.size w (w.drewN nd) := bdN (Below.refl _ _) nd) | (go_at_call 49; refine (split_is ln h _ HSP mm _ hlns (cell_grow hBd (World.block_lt_of_cell? w _ hmm.out) hmm.out)).mono ?_; rintro er w4 ⟨g, rfl, c0, RR, hB4⟩; have hB4' : Below w.heap.size w w4 := hBd.trans (hB4.mono hBd.size); have R2 := R1 _ _ RR.out) | (go_at_call 50; refine (kindOf_any (tx h) _ hv _ (EN.out.p.grow hB4')).mono ?_; rintro er wq ⟨rfl, hq⟩; subst wq) | (fail))
            go_region_with (first | (go_at_call 52; refine (valueFrom_any ([].map tx) _ fo hfs _ ((EN.out.grow hB4').grow (Below.refl _ _).drew) (R2.out.grow (Below.refl _ _).drew) (sizes HSP hlns) X (by unfold Hid; rw [(map_tx []).out, hfo.out]; exact hX.out)).mono ?_; rintro e w7 ⟨rfl, hB7⟩) | (fail))
            all_goals
              go_wp2
              go_ret
              exact ⟨rfl, (hB4'.drew.trans (hB7.mono hB4'.size))⟩
          · skip
            have hkk : ¬ ws2.length + 1 + 1 = 1 := by omega
            have R1 : ∀ (w' : World) (g : Nat), Rd encS w' (.slice (some ⟨g, 0, none⟩) (ws2.length + 1 + 1) (ws2.length + 1 + 1)) (tx h :: (y2 :: ws2).map tx) → Hid (Rd encS w' (.slice (some ⟨g, 1, none⟩) (ws2.length + 1) (ws2.length + 1)) ((y2 :: ws2).map tx)) := fun w' g r => by
              rcases r.rest 1 (by simp) with ⟨-, R2⟩ | ⟨hk, -⟩
              · have := R2.out
                rw [show 0 + 1 * encS.k = 1 from rfl] at this
                simpa [Hid] using this
              · exact absurd hk (by omega)
            have hi0 : (0 : Int) < ((ws2.length + 1 + 1 : Nat) : Int) := by omega
            have hi1 : (1 : Int) ≤ ((ws2.length + 1 + 1 : Nat) : Int) := by omega
            go_enter Tryd.func35, Tryd.ntmps35
            go_upto_region 14 with (first | (go_at_call 48; refine (Tryd.strings_Cut q ⟨#[10]⟩ mm _ (by omega) hmm.out).mono ?_; rintro er w3 ⟨rfl, nd, rfl⟩; rw [show Lib.cut q.data.toList (⟨#[10]⟩ : ByteArray).data.toList = _ from hcut.out]; dsimp only; rw [ela]; have hBd : Below w.heap.size w (w.drewN nd) := bdN (Below.refl _ _) nd) | (go_at_call 49; refine (split_is ln h _ HSP mm _ hlns (cell_grow hBd (World.block_lt_of_cell? w _ hmm.out) hmm.out)).mono ?_; rintro er w4 ⟨g, rfl, c0, RR, hB4⟩; have hB4' : Below w.heap.size w w4 := hBd.trans (hB4.mono hBd.size); have R2 := R1 _ _ RR.out) | (go_at_call 50; refine (kindOf_any (tx h) _ hv _ (EN.out.p.grow hB4')).mono ?_; rintro er wq ⟨rfl, hq⟩; subst wq) | (fail))
            go_region_with (first | (go_at_call 52; refine (valueFrom_any ((y2 :: ws2).map tx) _ fo hfs _ ((EN.out.grow hB4').grow (Below.refl _ _).drew) (R2.out.grow (Below.refl _ _).drew) (sizes HSP hlns) X (by unfold Hid; rw [(map_tx (y2 :: ws2)).out, hfo.out]; exact hX.out)).mono ?_; rintro e w7 ⟨rfl, hB7⟩) | (fail))
            all_goals
              go_wp2
              go_ret
              exact ⟨rfl, (hB4'.drew.trans (hB7.mono hB4'.size))⟩
        · have hz5 : (v == 5) = false := by simpa using z5
          have eX : X = .iface 71 (.int .i64 v) := by
            rw [← hX.out, if_neg z5]
            show shV ⟨v, emp, 0, emp, 0, 0⟩ = _
            unfold shV
            rw [if_neg (show ¬ v = 5 from z5), if_neg (show ¬ v = 6 from z6)]
          subst eX
          clear hX z0 z5 z6
          go_enter Tryd.func35, Tryd.ntmps35
          go_wp2_with (first | (go_at_call 48; refine (Tryd.strings_Cut q ⟨#[10]⟩ mm _ (by omega) hmm.out).mono ?_; rintro er w3 ⟨rfl, nd, rfl⟩; rw [show Lib.cut q.data.toList (⟨#[10]⟩ : ByteArray).data.toList = _ from hcut.out]; dsimp only; rw [ela]; have hBd : Below w.heap.size w (w.drewN nd) := bdN (Below.refl _ _) nd) | (go_at_call 49; refine (split_is ln h _ HSP mm _ hlns (cell_grow hBd (World.block_lt_of_cell? w _ hmm.out) hmm.out)).mono ?_; rintro er w4 ⟨g, rfl, c0, RR, hB4⟩; have hB4' : Below w.heap.size w w4 := hBd.trans (hB4.mono hBd.size)) | (go_at_call 50; refine (kindOf_any (tx h) _ hv _ (EN.out.p.grow hB4')).mono ?_; rintro er wq ⟨rfl, hq⟩; subst wq) | (fail))
          go_ret
          exact ⟨rfl, hB4'⟩
  · have hcut : Hid (Lib.cut (bs q) [10] = (bs q, [], false)) := cut_no h10
    have eqq : (⟨(bs q).toArray⟩ : ByteArray) = q := tx_bs q
    have eX : X = .nilIface := by
      rw [← hX.out]
      unfold shapeF
      rw [if_neg (by rw [← hqb.out]; exact h10)]
      rfl
    subst eX
    clear h10 hX
    go_enter Tryd.func35, Tryd.ntmps35
    go_wp2_with (first | (go_at_call 48; refine (Tryd.strings_Cut q ⟨#[10]⟩ mm _ (by omega) hmm.out).mono ?_; rintro er w3 ⟨rfl, nd, rfl⟩; rw [show Lib.cut q.data.toList (⟨#[10]⟩ : ByteArray).data.toList = _ from hcut.out]; dsimp only; rw [eqq]; have hBd : Below w.heap.size w (w.drewN nd) := bdN (Below.refl _ _) nd) | (fail))
    go_ret
    exact ⟨rfl, hBd⟩
end Go.Proofs.YtefmndjoailemaaDoor.cm
namespace Go.Proofs.YtefmndjoailemaaDoor.cm
open Go.ChangeShapes Go.WideShapes Go.ChangeAt Go.RowKit
open Go.Proofs.YtefmndjoailemaaDoor.ce Go.Proofs.YtefmndjoailemaaDoor.ro Go.Proofs.YtefmndjoailemaaDoor.rg
set_option linter.unusedVariables false

theorem iface_get {P : Program} {w : World} {l : List (String × DataW Unit)} (h : laidMet P l w) {n nm : String} {d : DataW Unit} {g : Nat} {t : TypeId} (hm : (n, DataW.iface nm d) ∈ l) (hg : P.globalNamed n = some g) (hty : (P.globals[g]?).map (·.type) = some t) (ht0 : ∃ ms, P.underlying t = some (.interface ms)) : ∃ te pe, w.cell? ⟨g, 0, none⟩ = some (.iface te pe) := by
  obtain ⟨ps, hl, -⟩ := h
  obtain ⟨g', t', cs, fuel, p, h1, h2, h3, h4⟩ := laid_get hl hm
  obtain rfl := Option.some.inj (hg.symm.trans h1)
  obtain rfl := Option.some.inj (hty.symm.trans h2)
  obtain ⟨ms, ht⟩ := ht0
  have h0 := World.var?_cell hg h3 0
  rw [← Array.getElem?_toList] at h0
  generalize cs.toList = cl at h4 h0
  cases fuel with
  | zero => simp [DataW.trod] at h4
  | succ fuel =>
    match cl, h4, h0 with
    | [], h4, _ => simp [DataW.trod, ht] at h4
    | [.iface u v], _, h0 => exact ⟨u, v, h0⟩
    | [.int _ _], h4, _ => simp [DataW.trod, ht] at h4
    | [.nilIface], h4, _ => simp [DataW.trod, ht] at h4
    | [x], h4, h0 => (cases x <;> first | exact ⟨_, _, h0⟩ | (simp [DataW.trod, ht] at h4))
    | x :: y :: r, h4, _ => (cases x <;> simp [DataW.trod, ht] at h4)
theorem returnsInHanded_laid_shaped {H : Type} {enc : TypeId × Value → H} {a : Assume} {C : Checked} {os : Os} {f : FuncId} {fn : Func} {s : ChangeSpec} {conds : List PathCond} {apart fresh handsOn again : Bool} {X : World → Array Value → Prop}
    (hX : ∀ (w w' : World) (args : Array Value), w.heap = w'.heap → X w args → X w' args)
    (own : ownKnob C.prog.godebug = none) (started : os.Started) (noInit : C.prog.inits.idxOf? f = none) (hfn : C.prog.funcs[f]? = some fn)
    (witness : ∃ (w : World) (tape : Tape) (i : Input), w.os = os ∧ (w.forCall tape i).Shaped C.prog ∧ i.vars = [] ∧ Input.okWide C.prog (w.forCall tape i) .any w.heap.size f i ∧
      ((s.pre enc C.prog fn conds apart (w.forCall tape i).memory i.args ∧ X (w.forCall tape i).memory i.args) ∧ sizedMet enc C.prog fn (OpenSpec.ofChange s) apart (w.forCall tape i).memory i.args) ∧ a.holds C.prog (lone (Frame.enter C.prog f i.args .normal) [] (w.forCall tape i)))
    (contract : ∀ (W : World) (base : Nat) (args : Array Value) (ds gs : List (DataW H)) (before : List MemPlace),
      (∀ (j : Nat) t v, fn.params[j]? = some t → args[j]? = some v → Value.okWide C.prog W .any base t v) →
      DataW.Whole enc C.prog fn.params.toList s.vars apart W args.toList ds gs before →
      conds.all (PathCond.test C.prog ⟨fn.params.toList, ds, s.plain.varTypes C.prog, gs⟩) = true →
      (DataW.weightsEach C.prog (fn.params.toList ++ s.plain.varTypes C.prog) (ds ++ gs)).all (· ≤ reachBytes) = true → X W args → W.ShapedOpen C.prog →
      a.holds C.prog (lone (Frame.enter C.prog f args .normal) [] W) →
      Calls C.prog f args W fun e W' => ∃ v, e = .returned v ∧ s.post enc C.prog fn apart fresh handsOn again W args v W') :
    ReturnsInHanded a C os f .any (fun w args => (s.pre enc C.prog fn conds apart w args ∧ X w args) ∧ sizedMet enc C.prog fn (OpenSpec.ofChange s) apart w args) (s.post enc C.prog fn apart fresh handsOn again) := by
  refine returnsInHanded_of_calls own started noInit witness ?_
  intro w tape i _ hsh _ hok hpre hholds
  obtain ⟨_, _, _, fn', hfn', _, _, _, _, hval⟩ := hok
  have e : fn' = fn := Option.some.inj (hfn'.symm.trans hfn)
  subst e
  obtain ⟨⟨⟨ds, gs, before, hw, hc⟩, hx⟩, hz⟩ := hpre
  have hw' := DataW.Whole.of_heap (w' := w.forCall tape i) (by rfl) hw
  refine (contract (w.forCall tape i) w.heap.size i.args ds gs before hval hw' hc (hz.weights hw) (hX _ _ _ (by rfl) hx) hsh hholds).mono fun e W' ⟨v, he, hp⟩ => ?_
  subst he
  exact ChangeSpec.post_blind hp
end Go.Proofs.YtefmndjoailemaaDoor.cm
