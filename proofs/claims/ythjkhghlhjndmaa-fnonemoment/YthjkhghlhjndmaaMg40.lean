/- Texts laid together: Om1 In3. -/
import Derived.Test.YthjkhghlhjndmaaMg39
import Derived.Test.YthjkhghlhjndmaaMg36
import Derived.Test.YthjkhghlhjndmaaMg22
import Derived.Test.YthjkhghlhjndmaaLawRn
import Derived.Test.YthjkhghlhjndmaaMg18
/- FnOneMoment's own: new hands, rows of truths that are turned one by one, what is known between the picks. -/
namespace Go.Proofs.Ythjkhghlhjndmaa.lawOm
open Go.ChangeShapes Go.WideShapes Go.ChangeAt Go.RowKit
open Go.Proofs.Ythjkhghlhjndmaa.ce Go.Proofs.Ythjkhghlhjndmaa.draw Go.Proofs.Ythjkhghlhjndmaa.lawRn
set_option linter.unusedVariables false

/-- a hand as NewHand makes it -/
def FreshD (d : Hd) : Prop := ∃ k x y, d = ⟨k, x, y, 0, -1, -1, -1, 0⟩ ∧ asksB k x = true
theorem fresh_new {k x y : Int} (h : asksB k x = true) : FreshD (newD k x y) := ⟨k, x, y, if_pos h, h⟩
theorem FreshD.ok {d : Hd} (h : FreshD d) : OkH [c0] d := by
  obtain ⟨k, x, y, rfl, h⟩ := h
  exact okB_iff.1 (by rw [newB]; exact h)
theorem new_ok {es : List Hd} (h : ∀ d ∈ es, FreshD d) (hl : es.length ≤ 4) : NewOk es := by
  refine ⟨⟨ok_c0, hl, fun d hd => (h d hd).ok, fun i k hi hk hne h0 => ?_⟩, fun d hd => ?_⟩
  · obtain ⟨a, x, y, e, -⟩ := h _ (List.getElem_mem hi)
    rw [e] at h0
    simp at h0
  · obtain ⟨a, x, y, e, -⟩ := h d hd
    rw [e]
theorem new_many {es : List Hd} (h : ∀ d ∈ es, FreshD d) (hn : nwB es = false) : 4 < es.length :=
  Decidable.byContradiction fun q => by
    have := (nw_yes (new_ok h (by omega))).1
    rw [hn] at this
    cases this

/-- the first j of L, the others of S -/
def mixL (j : Nat) (L S : List Bool) : List Bool := L.take j ++ S.drop j
theorem mix_zero (L S : List Bool) : mixL 0 L S = S := by simp [mixL]
theorem mix_full {L S : List Bool} (h : L.length = S.length) : mixL L.length L S = L := by
  unfold mixL
  rw [List.take_length, h, List.drop_length, List.append_nil]
theorem mix_len {j : Nat} {L S : List Bool} (h : L.length = S.length) (hj : j ≤ L.length) : (mixL j L S).length = S.length := by simp [mixL]; omega
theorem mix_at {j : Nat} {L S : List Bool} (h : L.length = S.length) (hj : j < S.length) : (mixL j L S)[j]'(by rw [mix_len h (by omega)]; exact hj) = S[j] := by
  unfold mixL
  rw [List.getElem_append_right (by simp; omega)]
  simp [h, show min j S.length = j by omega]
theorem mix_set {j : Nat} {L S : List Bool} (h : L.length = S.length) (hj : j < S.length) : (mixL j L S).set j (L[j]'(by omega)) = mixL (j + 1) L S := by
  have e1 : S.drop j = S[j] :: S.drop (j + 1) := List.drop_eq_getElem_cons hj
  have e2 : L.take (j + 1) = L.take j ++ [L[j]'(by omega)] := List.take_succ_eq_append_getElem _
  have e3 : (L.take j).length = j := by simp; omega
  unfold mixL
  rw [e2, e1, List.set_append_right _ _ (by rw [e3]; exact Nat.le_refl _), e3, Nat.sub_self, List.set_cons_zero, List.append_assoc]
  rfl
theorem mix_same {j : Nat} {L S : List Bool} (h : L.length = S.length) (hj : j < S.length) (e : L[j]'(by omega) = S[j]) : mixL j L S = mixL (j + 1) L S := by
  rw [← mix_set h hj]
  have : (mixL j L S)[j]'(by rw [mix_len h (by omega)]; exact hj) = L[j]'(by omega) := by rw [mix_at h hj, e]
  rw [← this, List.set_getElem_self]

theorem sawL_len (H : List C) (ds : List Hd) (B S : List Bool) : (sawL H ds B S).length = ds.length := by simp [sawL]
theorem missL_len (H : List C) (ds : List Hd) (B S : List Bool) : (missL H ds B S).length = ds.length := by simp [missL]
theorem sawL_at {H : List C} {ds : List Hd} {B S : List Bool} {j : Nat} (hj : j < ds.length) (hB : j < B.length) (hS : j < S.length) : (sawL H ds B S)[j]'(by rw [sawL_len]; exact hj) = (S[j] || (B[j] && decide (ds[j].step ≠ 5) && decide (ds[j].key ∈ living H))) := by
  have := sawL_get (H := H) (B := B) (S := S) hj
  rw [List.getElem?_eq_getElem (by rw [sawL_len]; exact hj)] at this
  simpa [List.getD, hB, hS] using this
theorem missL_at {H : List C} {ds : List Hd} {B S : List Bool} {j : Nat} (hj : j < ds.length) (hB : j < B.length) (hS : j < S.length) : (missL H ds B S)[j]'(by rw [missL_len]; exact hj) = (S[j] || (B[j] && decide (ds[j].step ≠ 5) && decide (ds[j].key ∉ living H))) := by
  have := missL_get (H := H) (B := B) (S := S) hj
  rw [List.getElem?_eq_getElem (by rw [missL_len]; exact hj)] at this
  simpa [List.getD, hB, hS] using this

/-- one truth is stored into a row of one's own -/
theorem wpList_store_b {o : Oper} {a : Act} {w : World} {ops : Array Oper} {rest : List Oper} {Q : Exit → Act → World → Prop} (hgd : o.guard = none) (x y : Operand) (ho : o.op = .store 4 x y) (g j : Nat) (z : Bool) (hx : a.eval x = .pointer (some ⟨g, j, none⟩)) (hy : a.eval y = .bool z)
    {lo hi n cap : Nat} {xs : List Bool} (own : OwnB w lo hi (.slice (some ⟨g, 0, none⟩) n cap) xs) (hj : j < xs.length)
    (h : ∀ w', Only g w w' → OwnB w' lo hi (.slice (some ⟨g, 0, none⟩) n cap) (xs.set j z) → wpList Try.prog ops Q rest (a.put o.dst undef) w') : wpList Try.prog ops Q (o :: rest) a w := by
  obtain ⟨b, off, e, -, hc⟩ := own.rd.cell j hj
  cases e
  rw [Nat.zero_add] at hc
  have hf : w.frozen? ⟨g, j, none⟩ = false := own.frozen _
  refine wpList_none hgd (w' := w.setCell ⟨g, j, none⟩ (.bool z)) ?_ (h _ (only_set _ _ _ _) (own.set j z))
  unfold execOp
  simp only [ho, hx, hy]
  simp [go_sem, hc, hf]
theorem ownB_type {w : World} {lo hi : Nat} {v : Value} {xs : List Bool} (o : OwnB w lo hi v xs) (q : Nat) (hq : v.ownBlock = some q) : (∃ cur, w.heap[q]? = some (.cells cur 4 (0, 0))) ∧ lo ≤ q ∧ q < w.heap.size := by
  rcases o.row.2 with ⟨rfl, -⟩ | ⟨g', cap, cur, rfl, hg', hb, h⟩
  · cases hq
  · cases hq; exact ⟨⟨cur, hb⟩, hg', (Array.getElem?_eq_some_iff.1 hb).1⟩
theorem ownB_keepB {w w' : World} {lo hi : Nat} {v : Value} {xs : List Bool} (o : OwnB w lo hi v xs) (s : ∀ k, v.ownBlock = some k → w'.heap[k]? = w.heap[k]?) : OwnB w' lo hi v xs := by
  refine ⟨⟨o.row.1, ?_⟩, o.top⟩
  rcases o.row.2 with h | ⟨g, cap, cur, rfl, hg, hb, h⟩
  · exact .inl h
  · exact .inr ⟨g, cap, cur, rfl, hg, by rw [s g rfl]; exact hb, h⟩
/-- what lies in memory between the picks: the crew's variable, three rows of truths -/
structure Om (w0 w : World) (b gB gS gM n : Nat) (vH : Value) (H : List C) (vD : Value) (ds : List Hd) (B S M : List Bool) : Prop where
  yv : Yv w0 w b vH H vD ds
  ob : OwnB w w0.heap.size w.heap.size (.slice (some ⟨gB, 0, none⟩) n n) B
  os : OwnB w w0.heap.size w.heap.size (.slice (some ⟨gS, 0, none⟩) n n) S
  om : OwnB w w0.heap.size w.heap.size (.slice (some ⟨gM, 0, none⟩) n n) M
  bs : gB ≠ gS
  bm : gB ≠ gM
  sm : gS ≠ gM
  len : ds.length = n
  blo : w0.heap.size ≤ b
  bel : Below w0.heap.size w0 w
theorem Om.below {w0 w w' : World} {b gB gS gM n : Nat} {vH vD : Value} {H : List C} {ds : List Hd} {B S M : List Bool} (c : Om w0 w b gB gS gM n vH H vD ds B S M) (hB : Below w.heap.size w w') : Om w0 w' b gB gS gM n vH H vD ds B S M :=
  ⟨c.yv.below hB, (c.ob.below hB (Nat.le_refl _)).wide (Nat.le_refl _) hB.size, (c.os.below hB (Nat.le_refl _)).wide (Nat.le_refl _) hB.size, (c.om.below hB (Nat.le_refl _)).wide (Nat.le_refl _) hB.size, c.bs, c.bm, c.sm, c.len, c.blo, c.bel.trans (hB.mono c.bel.size)⟩
theorem yv_apart {w0 w w' : World} {b q : Nat} {vH vD : Value} {H : List C} {ds : List Hd} (y : Yv w0 w b vH H vD ds) {cur : Array Value} (hq : w.heap[q]? = some (.cells cur 4 (0, 0))) (hO : Only q w w') : Yv w0 w' b vH H vD ds := by
  refine ⟨⟨y.cv.blk.of (hO.2.1 b (other_type y.cv.blk hq (by decide)))⟩, (own_keepB y.heap fun k hk => hO.2.1 k ?_).wide (Nat.le_refl _) (Nat.le_of_eq hO.1.symm), (y.hands.keepB fun k hk => hO.2.1 k ?_).wide (Nat.le_refl _) (Nat.le_of_eq hO.1.symm)⟩
  · obtain ⟨c1, h1⟩ := own_type y.heap k hk
    exact other_type h1 hq (by decide)
  · obtain ⟨c1, h1⟩ := ownH_type y.hands k hk
    exact other_type h1 hq (by decide)
theorem Om.setB {w0 w w' : World} {b gB gS gM n : Nat} {vH vD : Value} {H : List C} {ds : List Hd} {B B' S M : List Bool} (c : Om w0 w b gB gS gM n vH H vD ds B S M) (hO : Only gB w w') (ho : OwnB w' w0.heap.size w.heap.size (.slice (some ⟨gB, 0, none⟩) n n) B') : Om w0 w' b gB gS gM n vH H vD ds B' S M := by
  obtain ⟨⟨cur, hq⟩, hlo, -⟩ := ownB_type c.ob gB rfl
  have hz := Nat.le_of_eq hO.1.symm
  exact ⟨yv_apart c.yv hq hO, ho.wide (Nat.le_refl _) hz, (ownB_keepB c.os fun k hk => hO.2.1 k (by cases hk; exact c.bs.symm)).wide (Nat.le_refl _) hz, (ownB_keepB c.om fun k hk => hO.2.1 k (by cases hk; exact c.bm.symm)).wide (Nat.le_refl _) hz, c.bs, c.bm, c.sm, c.len, c.blo, c.bel.trans (hO.2.2 _ hlo)⟩
theorem Om.setS {w0 w w' : World} {b gB gS gM n : Nat} {vH vD : Value} {H : List C} {ds : List Hd} {B S S' M : List Bool} (c : Om w0 w b gB gS gM n vH H vD ds B S M) (hO : Only gS w w') (ho : OwnB w' w0.heap.size w.heap.size (.slice (some ⟨gS, 0, none⟩) n n) S') : Om w0 w' b gB gS gM n vH H vD ds B S' M := by
  obtain ⟨⟨cur, hq⟩, hlo, -⟩ := ownB_type c.os gS rfl
  have hz := Nat.le_of_eq hO.1.symm
  exact ⟨yv_apart c.yv hq hO, (ownB_keepB c.ob fun k hk => hO.2.1 k (by cases hk; exact c.bs)).wide (Nat.le_refl _) hz, ho.wide (Nat.le_refl _) hz, (ownB_keepB c.om fun k hk => hO.2.1 k (by cases hk; exact c.sm.symm)).wide (Nat.le_refl _) hz, c.bs, c.bm, c.sm, c.len, c.blo, c.bel.trans (hO.2.2 _ hlo)⟩
theorem Om.setM {w0 w w' : World} {b gB gS gM n : Nat} {vH vD : Value} {H : List C} {ds : List Hd} {B S M M' : List Bool} (c : Om w0 w b gB gS gM n vH H vD ds B S M) (hO : Only gM w w') (ho : OwnB w' w0.heap.size w.heap.size (.slice (some ⟨gM, 0, none⟩) n n) M') : Om w0 w' b gB gS gM n vH H vD ds B S M' := by
  obtain ⟨⟨cur, hq⟩, hlo, -⟩ := ownB_type c.om gM rfl
  have hz := Nat.le_of_eq hO.1.symm
  exact ⟨yv_apart c.yv hq hO, (ownB_keepB c.ob fun k hk => hO.2.1 k (by cases hk; exact c.bm)).wide (Nat.le_refl _) hz, (ownB_keepB c.os fun k hk => hO.2.1 k (by cases hk; exact c.sm)).wide (Nat.le_refl _) hz, ho.wide (Nat.le_refl _) hz, c.bs, c.bm, c.sm, c.len, c.blo, c.bel.trans (hO.2.2 _ hlo)⟩
/-- another crew is stored into the variable -/
theorem Om.setY {w0 w w' : World} {b gB gS gM n : Nat} {vH vD vH' vD' : Value} {H H' : List C} {ds ds' : List Hd} {B S M : List Bool} (c : Om w0 w b gB gS gM n vH H vD ds B S M) (hO : Only b w w') (y : Yv w0 w' b vH' H' vD' ds') (hl : ds'.length = n) : Om w0 w' b gB gS gM n vH' H' vD' ds' B S M := by
  have hz := Nat.le_of_eq hO.1.symm
  have ap : ∀ {v : Value} {xs : List Bool}, OwnB w w0.heap.size w.heap.size v xs → OwnB w' w0.heap.size w'.heap.size v xs := fun {v} {xs} o => (ownB_keepB o fun k hk => by
    obtain ⟨⟨cur, hq⟩, -, -⟩ := ownB_type o k hk
    exact hO.2.1 k (other_type hq c.yv.cv.blk (by decide))).wide (Nat.le_refl _) hz
  exact ⟨y, ap c.ob, ap c.os, ap c.om, c.bs, c.bm, c.sm, hl, c.blo, c.bel.trans (hO.2.2 _ c.blo)⟩
end Go.Proofs.Ythjkhghlhjndmaa.lawOm
/- The laws' helpers on numbers: is one among them; do they rise. Mathematics of chains that the law of chapter 4 asks. -/
namespace Go.Proofs.Ythjkhghlhjndmaa.ce
open Go.ChangeShapes Go.WideShapes Go.ChangeAt Go.RowKit
set_option linter.unusedVariables false

theorem hasInt_any (xs : List Int) (n : Int) (v : Value) (hi : Nat) (w : World) (r : RdI w hi v xs) :
    Calls Try.prog 43 #[v, .int .i64 n] w fun e w' => e = .returned (.bool (decide (n ∈ xs))) ∧ w' = w := by
  have hl := r.len
  obtain ⟨a, cap, rfl⟩ := r.form
  have R : Hid (RdI w hi (.slice a xs.length cap) xs) := r
  clear r
  obtain ⟨y, hy⟩ := hid_ex (decide (n ∈ xs))
  rw [hy.out]
  go_enter Try.func43, Try.ntmps43
  go_wp2
  go_loop [5] (fun p => ∃ i : Nat, i ≤ xs.length ∧ p = .int .i64 i ∧ Hid (n ∉ xs.take i)) (fun p => xs.length - (intOf p).toNat)
  case atStart => exact ⟨0, by omega, rfl, (by unfold Hid; simp)⟩
  case round =>
    obtain ⟨i, hi1, rfl, hno⟩ := hrel
    by_cases hlt : i < xs.length
    · obtain ⟨b, off, rfl, hb, d0⟩ := R.out.cell i hlt
      have hlt' : (i : Int) < xs.length := by omega
      obtain ⟨z, hz⟩ := hid_ex (xs[i])
      rw [hz.out] at d0
      by_cases he : z = n
      · have hb : (z == n) = true := by simpa using he
        have ey : y = true := by rw [← hy.out]; exact decide_eq_true (by rw [← he, ← hz.out]; exact List.getElem_mem hlt)
        subst ey
        go_wp2
        go_ret
        exact ⟨rfl, rfl⟩
      · have hb : (z == n) = false := by simpa using he
        have hno2 : Hid (n ∉ xs.take (i + 1)) := by
          unfold Hid
          rw [List.take_succ_eq_append_getElem hlt, List.mem_append, hz.out, List.mem_singleton]
          rintro (h | h)
          · exact hno.out h
          · exact he h.symm
        go_wp2
        go_round
        case rel => exact ⟨i + 1, by omega, by go_num, hno2⟩
        case measure => simp [intOf]; omega
    · have ei : i = xs.length := by omega
      have hlt' : ¬ (i : Int) < xs.length := by omega
      have ey : y = false := by
        have h := hno.out
        rw [ei, List.take_length] at h
        rw [← hy.out]; exact decide_eq_false h
      subst ey
      go_wp2
      go_ret
      exact ⟨rfl, rfl⟩

/-! ### mathematics -/
theorem ch_link {H : List C} : ∀ {L : List Int} {p : Int}, Ch H p L → ∀ (i : Nat) (h : i + 1 < L.length), (nth H L[i]).next = L[i + 1]
  | [], _, _, i, h => by simp at h
  | [y], _, _, i, h => by simp at h
  | y :: z :: L, p, hc, 0, h => by
    obtain ⟨rfl, h0, hc'⟩ := hc
    exact hc'.1
  | y :: z :: L, p, hc, i + 1, h => by
    obtain ⟨rfl, h0, hc'⟩ := hc
    have := ch_link hc' i (by simpa using h)
    simpa using this
theorem ch_last {H : List C} : ∀ {L : List Int} {p : Int}, Ch H p L → ∀ h : L.length - 1 < L.length, (nth H L[L.length - 1]).next < 0
  | [], _, _, h => by simp at h
  | [y], _, hc, _ => by
    obtain ⟨rfl, h0, hc'⟩ := hc
    exact hc'
  | y :: z :: L, p, hc, h => by
    obtain ⟨rfl, h0, hc'⟩ := hc
    have := ch_last hc' (by simp)
    simpa using this
theorem living_rises {H : List C} (u : Up H) : (living H).Pairwise (· < ·) := by
  have h := (ch_rises u (.inr (has_zero u)) (chain_ch u)).2
  unfold living
  rw [List.pairwise_map]
  exact (h.sublist (List.drop_sublist 1 _)).filter _
theorem alive_gone_len (H : List C) (L : List Int) : (alive H L).length + goneC H L = L.length := by
  induction L with
  | nil => rfl
  | cons x L ih =>
    unfold alive goneC at *
    cases hg : (nth H x).gone with
    | true => simp [hg] at ih ⊢; omega
    | false => simp [hg] at ih ⊢; omega
theorem chain_count {H : List C} (h : heapOk H) : ((living H).length : Int) + (goneC H (chain H) : Int) + 1 = ((chain H).length : Int) := by
  obtain ⟨M, hM, -⟩ := chain_head (up_ok h)
  have e : living H = alive H M := by unfold living alive; rw [hM]; rfl
  have h0 : (nth H 0).gone = false := h.2.1.2.1
  have eg : goneC H (chain H) = goneC H M := by rw [hM]; unfold goneC; simp [h0]
  have := alive_gone_len H M
  rw [e, eg, hM, List.length_cons]
  omega
theorem valueAt_has {H : List C} (u : Up H) (key : Int) : (valueAt H key).2 = decide (key ∈ living H) := by
  obtain ⟨M, hM, -⟩ := chain_head u
  rw [valueAt_find hM]
  cases e : M.find? (hit H key) with
  | none =>
    symm
    refine decide_eq_false fun hk => ?_
    unfold living at hk
    rw [hM] at hk
    obtain ⟨x, hx, hxk⟩ := List.mem_map.1 hk
    have hx' := List.mem_filter.1 hx
    have := List.find?_eq_none.1 e x (by simpa using hx'.1)
    simp [hit, hxk] at this
    simp [this] at hx'
  | some y =>
    symm
    refine decide_eq_true ?_
    have h1 := List.find?_some e
    have h2 := List.mem_of_find?_eq_some e
    simp [hit] at h1
    unfold living
    rw [hM]
    exact List.mem_map.2 ⟨y, List.mem_filter.2 ⟨by simpa using h2, by simp [h1.1]⟩, h1.2⟩
theorem valueL_has (H : List C) (key : Int) : (valueL H key).2 = decide (key ∈ livingL H) := by
  unfold valueL livingL
  by_cases h : heapOk H
  · rw [if_pos h, if_pos h]; exact valueAt_has (up_ok h) key
  · rw [if_neg h, if_neg h]; simp
end Go.Proofs.Ythjkhghlhjndmaa.ce
