/- Texts laid together: Wr3 Px2. -/
import Derived.Test.YtaabmkhckbndgaaGreatDoorMg13
import Derived.Test.YtaabmkhckbndgaaGreatDoorMg16
import Derived.Test.YtaabmkhckbndgaaGreatDoorPx1
import Derived.Test.YtaabmkhckbndgaaGreatDoorMg06
/- The reader of words, for those who read no verbs. -/
namespace Go.Proofs.YtaabmkhckbndgaaGreatDoor.cm
open Go.ChangeShapes Go.WideShapes Go.ChangeAt Go.RowKit
open Go.Proofs.YtaabmkhckbndgaaGreatDoor.ce Go.Proofs.YtaabmkhckbndgaaGreatDoor.ro Go.Proofs.YtaabmkhckbndgaaGreatDoor.rg
set_option linter.unusedVariables false

/-- what those who read numbers read -/
structure EnvN (w : World) : Prop where
  tab : Lib.TabIs Tryz.prog w "internal/strconv.uint64pow10" .u64 Lib.pow10Tab
  er : ∃ te pe, w.cell? ⟨8, 0, none⟩ = some (.iface te pe)
  ml : ∃ m, w.cell? ⟨2, 0, none⟩ = some (.int .i64 m)
theorem EnvN.grow {w w' : World} (h : EnvN w) (hb : Below w.heap.size w w') : EnvN w' := by
  obtain ⟨te, pe, h1⟩ := h.er
  obtain ⟨m, h2⟩ := h.ml
  exact ⟨tab_grow h.tab hb, ⟨te, pe, cell_grow hb (World.block_lt_of_cell? w _ h1) h1⟩, ⟨m, cell_grow hb (World.block_lt_of_cell? w _ h2) h2⟩⟩
theorem decT_is (n : Int) (l : List UInt8) (hl : Lib.itoa n = l) (h0 : -9223372036854775808 ≤ n) (h1 : n ≤ 9223372036854775807) (w : World) (tab : Lib.TabIs Tryz.prog w "internal/strconv.uint64pow10" .u64 Lib.pow10Tab) : Calls Tryz.prog 57 #[.int .i64 n] w fun e w' => e = .returned (.string (tx l)) ∧ Below w.heap.size w w' := by
  subst hl
  go_enter Tryz.func57, Tryz.ntmps57
  go_wp2_with (first | (go_at_call 109; refine (Tryz.strconv_FormatInt_10 n h0 h1 _ tab).mono ?_; rintro e w2 ⟨rfl, k, os, rfl⟩) | (fail))
  go_ret
  exact ⟨rfl, Go.Lib.below_grow _ w (Nat.le_refl _) k os⟩
set_option maxHeartbeats 1000000 in
theorem numberFrom_n (s : ByteArray) (hs : s.size ≤ 1048576) (w : World) (en : EnvN w) (a : Int) (b : Bool) (hr : Hid (rdF (bs s) = (a, b))) :
    Calls Tryz.prog 179 #[.string s] w fun e w' => e = .returned (.tuple #[.int .i64 a, .bool b]) ∧ Below w.heap.size w w' := by
  have EN : Hid (EnvN w) := en
  clear en
  obtain ⟨y, hy⟩ := hid_ex (tx (Lib.trimPrefix s.data.toList [45]))
  have hyl : Hid (y.size = (Lib.trimPrefix (bs s) [45]).length) := by unfold Hid; rw [← hy.out, tx_size]; rfl
  by_cases h9 : (9 : Int) < (y.size : Int)
  · have : (a, b) = ((0 : Int), false) := by rw [← hr.out]; exact num_long (by have := hyl.out; omega)
    obtain ⟨rfl, rfl⟩ := Prod.mk.inj this
    clear this hr
    go_enter Tryz.func179, Tryz.ntmps179
    go_wp2_with (first | (go_at_call 204; refine (Tryz.strings_TrimPrefix s _ _).mono ?_; rintro e wq ⟨rfl, hq⟩; subst wq; rw [show (⟨(Lib.trimPrefix s.data.toList (⟨#[45]⟩ : ByteArray).data.toList).toArray⟩ : ByteArray) = y from hy.out]) | (fail))
    go_ret2
    exact ⟨rfl, Below.refl _ _⟩
  · have h18 : (bs s).length ≤ 18 := by have := trim_len (bs s); have := hyl.out; omega
    have hps := parse_short h18
    have h9n : (Lib.trimPrefix (bs s) [45]).length ≤ 9 := by have := hyl.out; omega
    cases ha : Lib.atoi (bs s) with
    | none =>
      rw [ha] at hps
      have hsy : Lib.parseIntB 64 s.data.toList = .«syntax» := hps
      have : (a, b) = ((0 : Int), false) := by rw [← hr.out]; exact num_none ha
      obtain ⟨rfl, rfl⟩ := Prod.mk.inj this
      have HSY : Hid (Lib.parseIntB 64 s.data.toList = .«syntax») := hsy
      clear this hr ha hps hsy
      obtain ⟨te, pe, her⟩ := EN.out.er
      have HER : Hid (w.cell? ⟨8, 0, none⟩ = some (.iface te pe)) := her
      clear her
      go_enter Tryz.func179, Tryz.ntmps179
      go_wp2_with (first | (go_at_call 204; refine (Tryz.strings_TrimPrefix s _ _).mono ?_; rintro e wq ⟨rfl, hq⟩; subst wq; rw [show (⟨(Lib.trimPrefix s.data.toList (⟨#[45]⟩ : ByteArray).data.toList).toArray⟩ : ByteArray) = y from hy.out]) | (go_at_call 205; refine (Tryz.strconv_ParseInt_10_at64_syntax s (by omega) HSY.out (.iface te pe) _ HER.out (.inr ⟨te, pe, rfl⟩)).mono ?_; rintro e w2 ⟨M, rfl, -, -, hB2⟩) | (fail))
      go_ret2
      exact ⟨rfl, hB2⟩
    | some n =>
      rw [ha] at hps
      have HOK : Hid (Lib.parseIntB 64 s.data.toList = .ok n) := hps
      have hnum := num_yes h9n ha
      rw [hr.out] at hnum
      have hnb : -1000000000 < n ∧ n < 1000000000 := by
        have h := atoi_bd ha h9n
        exact h
      obtain ⟨z, hz⟩ := hid_ex (tx (Lib.itoa n))
      have hzs : z.size ≤ 100 := by rw [← hz.out]; exact itoa_bd hnb.1 hnb.2
      clear hps hyl
      by_cases he : Lib.itoa n = bs s
      · rw [if_pos he] at hnum
        obtain ⟨rfl, rfl⟩ := Prod.mk.inj hnum
        have hb : (z.toList == s.toList) = true := by rw [← hz.out, tx_eq, decide_eq_true he]
        clear hnum hr ha he
        go_enter Tryz.func179, Tryz.ntmps179
        go_wp2_with (first | (go_at_call 204; refine (Tryz.strings_TrimPrefix s _ _).mono ?_; rintro e wq ⟨rfl, hq⟩; subst wq; rw [show (⟨(Lib.trimPrefix s.data.toList (⟨#[45]⟩ : ByteArray).data.toList).toArray⟩ : ByteArray) = y from hy.out]) | (go_at_call 205; refine (Tryz.strconv_ParseInt_10_at64_ok s (by omega) _ HOK.out _).mono ?_; rintro e w2 ⟨rfl, hw2⟩; have hB2 := pw_below hw2; clear hw2) | (go_at_call 57; refine (decT_is _ _ rfl (by omega) (by omega) _ (tab_grow EN.out.tab hB2)).mono ?_; rintro e w3 ⟨rfl, hB3⟩; rw [hz.out]) | (fail))
        go_ret2
        exact ⟨rfl, hB2.trans (hB3.mono hB2.size)⟩
      · rw [if_neg he] at hnum
        obtain ⟨rfl, rfl⟩ := Prod.mk.inj hnum
        have hb : (z.toList == s.toList) = false := by rw [← hz.out, tx_eq, decide_eq_false he]
        clear hnum hr ha he
        go_enter Tryz.func179, Tryz.ntmps179
        go_wp2_with (first | (go_at_call 204; refine (Tryz.strings_TrimPrefix s _ _).mono ?_; rintro e wq ⟨rfl, hq⟩; subst wq; rw [show (⟨(Lib.trimPrefix s.data.toList (⟨#[45]⟩ : ByteArray).data.toList).toArray⟩ : ByteArray) = y from hy.out]) | (go_at_call 205; refine (Tryz.strconv_ParseInt_10_at64_ok s (by omega) _ HOK.out _).mono ?_; rintro e w2 ⟨rfl, hw2⟩; have hB2 := pw_below hw2; clear hw2) | (go_at_call 57; refine (decT_is n _ rfl (by omega) (by omega) _ (tab_grow EN.out.tab hB2)).mono ?_; rintro e w3 ⟨rfl, hB3⟩; rw [hz.out]) | (fail))
        go_ret2
        exact ⟨rfl, hB2.trans (hB3.mono hB2.size)⟩
theorem rr_envN {w0 w : World} {b : Nat} {s : Rs} (h : Rr w0 w b s) (en : EnvN w0) : EnvN w := by
  obtain ⟨L, h1, h2, h3⟩ := h
  exact en.grow h2.bl
set_option maxRecDepth 10000 in
set_option maxHeartbeats 1000000 in
theorem numberN {w0 w : World} {b : Nat} {s : Rs} (t : Bool) (en : EnvN w0) (h : Rr w0 w b s) :
    Calls Tryz.prog 130 #[.pointer (some ⟨b, 0, none⟩), .bool t] w fun e w' => e = .returned (.int .i64 (numF t s).1) ∧ Rr w0 w' b (numF t s).2 ∧ Ob b w w' := by
  have HH : Hid (Rr w0 w b s) := h
  have EN : Hid (EnvN w0) := en
  clear h en
  cases t with
  | false =>
    go_enter Tryz.func130, Tryz.ntmps130
    go_wp2
    go_ret
    exact ⟨rfl, HH.out, Ob.refl _ _⟩
  | true =>
    obtain ⟨a, ha⟩ := hid_ex (rdF (wordF s).1).1
    obtain ⟨c, hc⟩ := hid_ex (rdF (wordF s).1).2
    have hac : Hid (rdF (wordF s).1 = (a, c)) := by unfold Hid; rw [← ha.out, ← hc.out]
    have e1 : Hid ((numF true s).1 = a) := ha
    have e2 : Hid ((numF true s).2 = ⟨(wordF s).2.l, (wordF s).2.x || !c⟩) := by unfold Hid numF; simp [hc.out]
    rw [e1.out, e2.out]
    cases c with
    | true =>
      go_enter Tryz.func130, Tryz.ntmps130
      go_wp2_with (first | (go_at_call 180; refine (wordR HH.out).mono ?_; rintro e w2 ⟨z, rfl, hz, hzs, hR, hO⟩; have HR : Hid (Rr w0 w2 b (wordF s).2) := hR; have HZ : Hid (bs z = (wordF s).1) := hz; clear hR hz) | (go_at_call 179; refine (numberFrom_n z hzs _ (rr_envN HR.out EN.out) a true (by unfold Hid; rw [HZ.out]; exact hac.out)).mono ?_; rintro e w3 ⟨rfl, hB3⟩) | (fail))
      go_ret
      exact ⟨rfl, by simpa using HR.out.grow hB3, hO.trans (Ob.below hB3)⟩
    | false =>
      go_enter Tryz.func130, Tryz.ntmps130
      go_wp2_with (first | (go_at_call 180; refine (wordR HH.out).mono ?_; rintro e w2 ⟨z, rfl, hz, hzs, hR, hO⟩; have HR : Hid (Rr w0 w2 b (wordF s).2) := hR; have HZ : Hid (bs z = (wordF s).1) := hz; clear hR hz) | (go_at_call 179; refine (numberFrom_n z hzs _ (rr_envN HR.out EN.out) a false (by unfold Hid; rw [HZ.out]; exact hac.out)).mono ?_; rintro e w3 ⟨rfl, hB3⟩; have HR3 : Hid (Rr w0 w3 b (wordF s).2) := HR.out.grow hB3; obtain ⟨q1, q2⟩ := rr_cell HR3.out) | (fail))
      go_ret
      exact ⟨rfl, by simpa using HR3.out.wrong, (hO.trans (Ob.below hB3)).trans (Ob.only (only_set w3 b 1 _))⟩
end Go.Proofs.YtaabmkhckbndgaaGreatDoor.cm
/- Mathematics of chapter 12, second part: how a reply is read by its words, the program's way and the model's. No Go in sight. -/
namespace Go.Proofs.YtaabmkhckbndgaaGreatDoor.cm
open Go.RowKit
open Go.Proofs.YtaabmkhckbndgaaGreatDoor.rg (nameB nbB nameB_size)
set_option linter.unusedVariables false

theorem rdF_digs {n : Nat} (h : n ≤ 999999999) : rdF (digs n) = ((n : Int), true) := by
  rw [rdF_yes (canon_digs h), val_digs]
theorem numF_dig9 {n : Nat} (h : n ≤ 999999999) (r : List (List UInt8)) : numF true ⟨digs n :: r, false⟩ = ((n : Int), ⟨r, false⟩) := by
  unfold numF wordF
  simp [rdF_digs h]
/-- how the program takes the words behind 'value', and what follows the line -/
def valF (ws : List (List UInt8)) (u : List UInt8) : Option Rp :=
  if 0 ≤ (numF true (numF true (wordF ⟨ws, false⟩).2).2).1 ∧ (numF true (numF true (wordF ⟨ws, false⟩).2).2).1 ≤ min 64 (u.length : Int) then
    some ⟨5, tx (wordF ⟨ws, false⟩).1, (numF true (wordF ⟨ws, false⟩).2).1, tx (u.take (numF true (numF true (wordF ⟨ws, false⟩).2).2).1.toNat), (numF (!(numF true (numF true (wordF ⟨ws, false⟩).2).2).2.l.isEmpty) (numF true (numF true (wordF ⟨ws, false⟩).2).2).2).1, 0⟩
  else none
def shapeW (h : List UInt8) (r : List (List UInt8)) (u : List UInt8) : Option Rp :=
  if kindOf h = 0 then none else if kindOf h = 6 then some ⟨6, emp, 0, emp, 0, (numF true ⟨r, false⟩).1⟩ else if kindOf h = 5 then valF r u else some ⟨kindOf h, emp, 0, emp, 0, 0⟩
def shapeF (t : List UInt8) : Option Rp :=
  if 10 ∈ t.take 101 then shapeW ((splitL 32 (lineOf t)).headD []) (splitL 32 (lineOf t)).tail (t.drop ((lineOf t).length + 1)) else none
theorem kindOf_bd (h : List UInt8) : 0 ≤ kindOf h ∧ kindOf h ≤ 12 := by
  unfold kindOf
  cases e : kinds.findIdx? (· == h) with
  | none => simp
  | some i =>
    have := (List.findIdx?_eq_some_iff_getElem.1 e).1
    have : i < 12 := this
    simp
    omega
theorem wordsR_small {r : Rp} (h : POk r) : (∀ w ∈ wordsR r, w.length ≤ 12) ∧ (wordsR r).length ≤ 5 := by
  have d9 : ∀ n, n ≤ 999999999 → (digs n).length ≤ 12 := fun n hn => Nat.le_trans (digs_len 9 n (by omega)) (by omega)
  unfold wordsR
  by_cases h6 : r.K = 6
  · rw [if_pos h6]
    refine ⟨fun w hw => ?_, by simp⟩
    rcases List.mem_cons.1 hw with rfl | hw
    · exact (kw_ok h.k0 h.k1).2
    · rw [List.mem_singleton.1 hw]
      have := h.m1 h6
      exact d9 _ (by omega)
  · rw [if_neg h6]
    by_cases h5 : r.K = 5
    · rw [if_pos h5]
      have hf := h.f1 h5
      have hc := h.c1 h5
      have hb := h.b1
      refine ⟨fun w hw => ?_, by split <;> simp⟩
      rcases List.mem_cons.1 hw with rfl | hw
      · exact (kw_ok h.k0 h.k1).2
      · rcases List.mem_append.1 hw with hw | hw
        · simp only [List.mem_cons, List.not_mem_nil, or_false] at hw
          rcases hw with rfl | rfl | rfl
          · rw [bs_len]; exact (nameB_size (h.nm h5)).2
          · exact d9 _ (by omega)
          · exact d9 _ (by omega)
        · split at hw
          · simp at hw
          · rw [List.mem_singleton.1 hw]
            exact d9 _ (by omega)
    · rw [if_neg h5]
      refine ⟨fun w hw => ?_, by simp⟩
      rw [List.mem_singleton.1 hw]
      exact (kw_ok h.k0 h.k1).2
theorem lineR_len {r : Rp} (h : POk r) : (wordsL (wordsR r)).length ≤ 100 := by
  obtain ⟨h1, h2⟩ := wordsR_small h
  have := wordsL_len (wordsR r) 12 h1
  have : (wordsR r).length * (12 + 1) ≤ 5 * 13 := Nat.mul_le_mul_right _ h2
  omega
theorem tail_val {r : Rp} (h5 : r.K = 5) (u : List UInt8) : tailR r ++ u = bs r.B ++ 10 :: u := by
  unfold tailR
  rw [if_pos h5]
  simp
/-- what stands there: the line, its words, what follows -/
theorem reads_parts {t : List UInt8} {r : Rp} (h : Reads t r) : ∃ u, t = wordsL (wordsR r) ++ 10 :: (tailR r ++ u) ∧ lineOf t = wordsL (wordsR r) ∧ splitL 32 (lineOf t) = wordsR r ∧ t.drop ((lineOf t).length + 1) = tailR r ++ u ∧ 10 ∈ t.take 101 ∧ 10 ∈ t := by
  obtain ⟨ok, u, e⟩ := h
  have el : lineOf t = wordsL (wordsR r) := by rw [← e]; exact lineOf_show ok u
  have et : t = wordsL (wordsR r) ++ 10 :: (tailR r ++ u) := by rw [← e]; unfold showR; simp
  have hl := lineR_len ok
  refine ⟨u, et, el, by rw [el]; exact splitR ok, ?_, ?_, ?_⟩
  · rw [el]
    conv => lhs; rw [et]
    rw [List.drop_append, List.drop_eq_nil_of_le (by omega), show (wordsL (wordsR r)).length + 1 - (wordsL (wordsR r)).length = 1 by omega]
    rfl
  · rw [et, List.take_append, List.take_of_length_le (by omega)]
    obtain ⟨k, hk⟩ : ∃ k, 101 - (wordsL (wordsR r)).length = k + 1 := ⟨100 - (wordsL (wordsR r)).length, by omega⟩
    rw [hk, List.take_succ_cons]
    simp
  · rw [et]; simp
theorem val_reads {r : Rp} (ok : POk r) (h5 : r.K = 5) (u : List UInt8) : valF ([bs r.N, digs r.F.toNat, digs r.B.size] ++ (if r.C = 0 then [] else [digs r.C.toNat])) (tailR r ++ u) = some r := by
  have hf := ok.f1 h5
  have hc := ok.c1 h5
  have hb := ok.b1
  have hm := ok.m0 (by omega)
  rw [tail_val h5]
  unfold valF
  have e0 : wordF ⟨[bs r.N, digs r.F.toNat, digs r.B.size] ++ (if r.C = 0 then [] else [digs r.C.toNat]), false⟩ = (bs r.N, ⟨[digs r.F.toNat, digs r.B.size] ++ (if r.C = 0 then [] else [digs r.C.toNat]), false⟩) := rfl
  rw [e0]
  dsimp only
  rw [List.cons_append, numF_dig9 (by omega)]
  dsimp only
  rw [List.cons_append, numF_dig9 (by omega)]
  dsimp only
  rw [List.nil_append, if_pos ⟨by omega, by simp [bs_len]; omega⟩, Int.toNat_natCast, ← bs_len, List.take_left, tx_bs, tx_bs]
  have ec : (numF (!(if r.C = 0 then ([] : List (List UInt8)) else [digs r.C.toNat]).isEmpty) ⟨if r.C = 0 then [] else [digs r.C.toNat], false⟩).1 = r.C := by
    by_cases z : r.C = 0
    · rw [if_pos z, z]; rfl
    · rw [if_neg z]
      show (numF true ⟨[digs r.C.toNat], false⟩).1 = r.C
      rw [numF_dig9 (by omega)]
      show ((r.C.toNat : Nat) : Int) = r.C
      omega
  rw [ec]
  obtain ⟨K, N, F, B, C, M⟩ := r
  dsimp only at h5 hf hm ⊢
  rw [h5, hm, show ((F.toNat : Nat) : Int) = F by omega]
theorem shape_reads {t : List UInt8} {r : Rp} (h : Reads t r) : shapeF t = some r := by
  obtain ⟨u, et, el, es, ed, h10, -⟩ := reads_parts h
  have ok := h.1
  unfold shapeF
  rw [if_pos h10, es, ed]
  have eh : (wordsR r).headD [] = kw r.K := by unfold wordsR; rfl
  rw [eh]
  unfold shapeW
  rw [kindOf_kw ok.k0 ok.k1, if_neg (by have := ok.k0; omega)]
  by_cases h6 : r.K = 6
  · have h5 : r.K ≠ 5 := by omega
    have hm := ok.m1 h6
    have n0 := ok.n0 h5
    have f0 := ok.f0 h5
    have b0 := ok.b0 h5
    have c0 := ok.c0 h5
    rw [if_pos h6]
    unfold wordsR
    rw [if_pos h6, List.tail_cons, numF_dig9 (by omega)]
    obtain ⟨K, N, F, B, C, M⟩ := r
    dsimp only at h6 hm n0 f0 b0 c0 ⊢
    rw [h6, n0, f0, b0, c0, show ((M.toNat : Nat) : Int) = M by omega]
  · rw [if_neg h6]
    by_cases h5 : r.K = 5
    · rw [if_pos h5]
      unfold wordsR
      rw [if_neg h6, if_pos h5, List.tail_cons]
      exact val_reads ok h5 u
    · have n0 := ok.n0 h5
      have f0 := ok.f0 h5
      have b0 := ok.b0 h5
      have c0 := ok.c0 h5
      have m0 := ok.m0 h6
      rw [if_neg h5]
      obtain ⟨K, N, F, B, C, M⟩ := r
      dsimp only at n0 f0 b0 c0 m0 ⊢
      rw [n0, f0, b0, c0, m0]
/-- the reply at the head of bytes, as the program finds it -/
theorem repL_shape (t : List UInt8) : repL t = (shapeF t).bind fun r => if repB r = true ∧ showR r <+: t then some r else none := by
  by_cases hx : ∃ r, Reads t r
  · obtain ⟨r, hr⟩ := hx
    rw [repL_some hr, shape_reads hr, Option.bind_some, if_pos ⟨repB_iff.2 hr.1, hr.2⟩]
  · rw [repL_none (fun r hr => hx ⟨r, hr⟩)]
    cases e : shapeF t with
    | none => rfl
    | some r => rw [Option.bind_some, if_neg (fun ⟨h1, h2⟩ => hx ⟨r, repB_iff.1 h1, h2⟩)]

/-! ### the model's way -/
/-- are the words behind the first ones numbers (the name aside)? -/
def readsN (K : Int) (ws : List (List UInt8)) : Prop := ∀ i (h : i < ws.length), (rdF ws[i]).2 = true ∨ (i = 0 ∧ K = 5)
/-- what the model takes them for, and how many bytes behind the line -/
def modW (K : Int) (ws : List (List UInt8)) (u : List UInt8) : Option (Rp × Nat) :=
  if K = 6 ∧ ws.length = 1 then some (⟨6, emp, 0, emp, 0, (rdF (ws.getD 0 [])).1⟩, 0)
  else if K = 5 ∧ (ws.length = 3 ∨ ws.length = 4) then
    (if (rdF (ws.getD 2 [])).1 < 0 ∨ (u.length : Int) ≤ (rdF (ws.getD 2 [])).1 then none
     else some (⟨5, tx (ws.getD 0 []), (rdF (ws.getD 1 [])).1, tx (u.take (rdF (ws.getD 2 [])).1.toNat), if ws.length = 4 then (rdF (ws.getD 3 [])).1 else 0, 0⟩, (rdF (ws.getD 2 [])).1.toNat + 1))
  else if ws.length > 0 then none else some (⟨K, emp, 0, emp, 0, 0⟩, 0)
theorem mod_reads {t : List UInt8} {r : Rp} (h : Reads t r) : kindOf ((splitL 32 (lineOf t)).headD []) = r.K ∧ readsN r.K (splitL 32 (lineOf t)).tail ∧ ∃ m, modW r.K (splitL 32 (lineOf t)).tail (t.drop ((lineOf t).length + 1)) = some (r, m) ∧ (showR r).length = (lineOf t).length + 1 + m := by
  obtain ⟨u, et, el, es, ed, h10, -⟩ := reads_parts h
  have ok := h.1
  rw [es, ed, el]
  have eh : (wordsR r).headD [] = kw r.K := by unfold wordsR; rfl
  rw [eh, kindOf_kw ok.k0 ok.k1]
  refine ⟨rfl, ?_⟩
  have eL : (showR r).length = (wordsL (wordsR r)).length + 1 + (tailR r).length := by unfold showR; simp; omega
  rw [eL]
  by_cases h6 : r.K = 6
  · have h5 : r.K ≠ 5 := by omega
    have hm := ok.m1 h6
    have n0 := ok.n0 h5
    have f0 := ok.f0 h5
    have b0 := ok.b0 h5
    have c0 := ok.c0 h5
    have e1 : (wordsR r).tail = [digs r.M.toNat] := by unfold wordsR; rw [if_pos h6]; rfl
    have e2 : tailR r = [] := by unfold tailR; rw [if_neg h5]
    rw [e1]
    refine ⟨fun i hi => ?_, 0, ?_, by rw [e2]; rfl⟩
    · simp at hi
      subst hi
      left
      show (rdF (digs r.M.toNat)).2 = true
      rw [rdF_digs (by omega)]
    · unfold modW
      rw [if_pos ⟨h6, rfl⟩]
      show some ((⟨6, emp, 0, emp, 0, (rdF (digs r.M.toNat)).1⟩ : Rp), 0) = some (r, 0)
      rw [rdF_digs (by omega)]
      obtain ⟨K, N, F, B, C, M⟩ := r
      dsimp only at h6 hm n0 f0 b0 c0 ⊢
      rw [h6, n0, f0, b0, c0, show ((M.toNat : Nat) : Int) = M by omega]
  · by_cases h5 : r.K = 5
    · have hf := ok.f1 h5
      have hc := ok.c1 h5
      have hb := ok.b1
      have hm := ok.m0 h6
      have e1 : (wordsR r).tail = [bs r.N, digs r.F.toNat, digs r.B.size] ++ (if r.C = 0 then [] else [digs r.C.toNat]) := by unfold wordsR; rw [if_neg h6, if_pos h5]; rfl
      have e2 : (tailR r).length = r.B.size + 1 := by unfold tailR; rw [if_pos h5]; simp [bs_len]
      have rF : rdF (digs r.F.toNat) = (((r.F.toNat : Nat) : Int), true) := rdF_digs (by omega)
      have rB : rdF (digs r.B.size) = (((r.B.size : Nat) : Int), true) := rdF_digs (by omega)
      have rC : rdF (digs r.C.toNat) = (((r.C.toNat : Nat) : Int), true) := rdF_digs (by omega)
      have eF : ((r.F.toNat : Nat) : Int) = r.F := by omega
      have eC : ((r.C.toNat : Nat) : Int) = r.C := by omega
      have hu : ¬ (((r.B.size : Nat) : Int) < 0 ∨ ((tailR r ++ u).length : Int) ≤ ((r.B.size : Nat) : Int)) := by rw [List.length_append, e2]; omega
      have et2 : tx ((tailR r ++ u).take (((r.B.size : Nat) : Int)).toNat) = r.B := by rw [tail_val h5, Int.toNat_natCast, ← bs_len, List.take_left, tx_bs]
      rw [e1]
      by_cases z : r.C = 0
      · rw [if_pos z, List.append_nil]
        refine ⟨fun i hi => ?_, r.B.size + 1, ?_, by rw [e2]⟩
        · have : i = 0 ∨ i = 1 ∨ i = 2 := by simp at hi; omega
          rcases this with rfl | rfl | rfl
          · exact .inr ⟨rfl, h5⟩
          · left; show (rdF (digs r.F.toNat)).2 = true; rw [rF]
          · left; show (rdF (digs r.B.size)).2 = true; rw [rB]
        · unfold modW
          rw [if_neg (fun q => h6 q.1), if_pos ⟨h5, .inl rfl⟩]
          show (if (rdF (digs r.B.size)).1 < 0 ∨ _ ≤ (rdF (digs r.B.size)).1 then none else some ((⟨5, tx (bs r.N), (rdF (digs r.F.toNat)).1, tx (List.take (rdF (digs r.B.size)).1.toNat _), 0, 0⟩ : Rp), (rdF (digs r.B.size)).1.toNat + 1)) = _
          rw [rB, rF, if_neg hu, et2, tx_bs, eF, Int.toNat_natCast]
          obtain ⟨K, N, F, B, C, M⟩ := r
          dsimp only at h5 hm z ⊢
          rw [h5, hm, z]
      · rw [if_neg z]
        refine ⟨fun i hi => ?_, r.B.size + 1, ?_, by rw [e2]⟩
        · have : i = 0 ∨ i = 1 ∨ i = 2 ∨ i = 3 := by simp at hi; omega
          rcases this with rfl | rfl | rfl | rfl
          · exact .inr ⟨rfl, h5⟩
          · left; show (rdF (digs r.F.toNat)).2 = true; rw [rF]
          · left; show (rdF (digs r.B.size)).2 = true; rw [rB]
          · left; show (rdF (digs r.C.toNat)).2 = true; rw [rC]
        · unfold modW
          rw [if_neg (fun q => h6 q.1), if_pos ⟨h5, .inr rfl⟩]
          show (if (rdF (digs r.B.size)).1 < 0 ∨ _ ≤ (rdF (digs r.B.size)).1 then none else some ((⟨5, tx (bs r.N), (rdF (digs r.F.toNat)).1, tx (List.take (rdF (digs r.B.size)).1.toNat _), (rdF (digs r.C.toNat)).1, 0⟩ : Rp), (rdF (digs r.B.size)).1.toNat + 1)) = _
          rw [rB, rF, rC, if_neg hu, et2, tx_bs, eF, eC, Int.toNat_natCast]
          obtain ⟨K, N, F, B, C, M⟩ := r
          dsimp only at h5 hm ⊢
          rw [h5, hm]
    · have n0 := ok.n0 h5
      have f0 := ok.f0 h5
      have b0 := ok.b0 h5
      have c0 := ok.c0 h5
      have m0 := ok.m0 h6
      have e1 : (wordsR r).tail = [] := by unfold wordsR; rw [if_neg h6, if_neg h5]; rfl
      have e2 : tailR r = [] := by unfold tailR; rw [if_neg h5]
      rw [e1]
      refine ⟨fun i hi => by simp at hi, 0, ?_, by rw [e2]; rfl⟩
      unfold modW
      rw [if_neg (fun q => h6 q.1), if_neg (fun q => h5 q.1), if_neg (by simp)]
      obtain ⟨K, N, F, B, C, M⟩ := r
      dsimp only at n0 f0 b0 c0 m0 ⊢
      rw [n0, f0, b0, c0, m0]
/-- none is there where the model says so -/
theorem no_line {t : List UInt8} (h : 10 ∉ t) : repL t = none := repL_none fun r hr => by
  obtain ⟨u, -, -, -, -, -, h1⟩ := reads_parts hr
  exact h h1
theorem no_read {t : List UInt8} {K : Int} {ws : List (List UInt8)} (hK : kindOf ((splitL 32 (lineOf t)).headD []) = K) (hw : (splitL 32 (lineOf t)).tail = ws) {i : Nat} (hi : i < ws.length) (h1 : (rdF ws[i]).2 = false) (h2 : ¬ (i = 0 ∧ K = 5)) : repL t = none := repL_none fun r hr => by
  obtain ⟨e1, e2, -⟩ := mod_reads hr
  rw [hK] at e1
  subst e1
  rw [hw] at e2
  rcases e2 i hi with e | e
  · rw [e] at h1; cases h1
  · exact h2 e
theorem no_mod {t : List UInt8} {K : Int} {ws : List (List UInt8)} {u : List UInt8} (hK : kindOf ((splitL 32 (lineOf t)).headD []) = K) (hw : (splitL 32 (lineOf t)).tail = ws) (hu : t.drop ((lineOf t).length + 1) = u) (h : modW K ws u = none) : repL t = none := repL_none fun r hr => by
  obtain ⟨e1, e2, m, e3, e4⟩ := mod_reads hr
  rw [hK] at e1
  subst e1
  rw [hw, hu, h] at e3
  cases e3
theorem mod_told {t : List UInt8} {K : Int} {ws : List (List UInt8)} {u : List UInt8} {r : Rp} {m : Nat} (hK : kindOf ((splitL 32 (lineOf t)).headD []) = K) (hw : (splitL 32 (lineOf t)).tail = ws) (hu : t.drop ((lineOf t).length + 1) = u) (h : modW K ws u = some (r, m)) :
    repL t = if repB r = true ∧ showR r = t.take ((lineOf t).length + 1 + m) then some r else none := by
  by_cases hx : ∃ r', Reads t r'
  · obtain ⟨r', hr⟩ := hx
    obtain ⟨e1, e2, m', e3, e4⟩ := mod_reads hr
    rw [hK] at e1
    subst e1
    rw [hw, hu, h] at e3
    obtain ⟨rfl, rfl⟩ : r = r' ∧ m = m' := by simpa using e3
    have e5 : showR r = t.take ((lineOf t).length + 1 + m) := by rw [← e4]; exact List.prefix_iff_eq_take.1 hr.2
    rw [repL_some hr, if_pos ⟨repB_iff.2 hr.1, e5⟩]
  · rw [repL_none (fun r hr => hx ⟨r, hr⟩), if_neg]
    rintro ⟨h1, h2⟩
    exact hx ⟨r, repB_iff.1 h1, by rw [h2]; exact List.take_prefix _ _⟩
end Go.Proofs.YtaabmkhckbndgaaGreatDoor.cm
