/- Texts laid together: HdMath8 Like3 In3. -/
import Derived.Test.YtodpbghkjnlfdaaMg21
import Derived.Test.YtodpbghkjnlfdaaMg04
import Derived.Test.YtodpbghkjnlfdaaMg05
/- What a hand alone says is what it did: plain mathematics. -/
namespace Go.Proofs.Ytodpbghkjnlfdaa.ce
open Go.ChangeShapes Go.WideShapes Go.ChangeAt Go.RowKit
set_option linter.unusedVariables false

theorem valueAt_of {H : List C} (hok : heapOk H) {x k : Int} (hx : x ∈ (chain H).drop 1) (hg : (nth H x).gone = false) (hk : (nth H x).key = k) : valueAt H k = ((nth H x).value, true) := by
  unfold valueAt
  cases e : ((chain H).drop 1).find? (fun x => !(nth H x).gone && (nth H x).key == k) with
  | none => have := List.find?_eq_none.1 e x hx; simp [hg, hk] at this
  | some y =>
    have h1 := List.find?_some e
    have h2 := List.mem_of_find?_eq_some e
    simp at h1
    have := chain_inj (up_ok hok) (List.mem_of_mem_drop h2) (List.mem_of_mem_drop hx) (by rw [h1.2, hk])
    rw [this]
theorem valueAt_none {H : List C} {k : Int} (h : k ∉ living H) : valueAt H k = (0, false) := by
  unfold valueAt
  cases e : ((chain H).drop 1).find? (fun x => !(nth H x).gone && (nth H x).key == k) with
  | none => rfl
  | some y =>
    have h1 := List.find?_some e
    have h2 := List.mem_of_find?_eq_some e
    simp at h1
    exact absurd (mem_living.2 ⟨y, h2, h1.1, h1.2⟩) h

theorem heapOk_snoc {H : List C} (h : heapOk H) (hl : H.length < 40) (key value next : Int) (hk : 1 ≤ key ∧ key ≤ 65535) (hn : leads H key next) : heapOk (H ++ [cell key value next]) := by
  have u := up_ok h
  have hlen : (H ++ [cell key value next]).length = H.length + 1 := snoc_len _ _
  have up : ∀ k n, leads H k n → leads (H ++ [cell key value next]) k n := fun k n hl => by
    rcases hl with e | e
    · exact .inl e
    · exact .inr ⟨⟨e.1.1, by rw [hlen]; have := e.1.2; omega⟩, by rw [nth_snoc H _ _ e.1]; exact e.2⟩
  have h0 := has_zero u
  refine sp_ok _ (by omega) (by omega) ?_ ?_ fun j hj => ?_
  · rw [nth_snoc H _ _ h0]; exact h.2.1.1
  · rw [nth_snoc H _ _ h0]; exact h.2.1.2.1
  · by_cases e : j < H.length
    · rw [List.getElem_append_left e]
      exact ⟨(heapOk_cells h j e).1, up _ _ (heapOk_cells h j e).2⟩
    · have ej : j = H.length := by omega
      subst ej
      simp only [List.getElem_concat_length]
      exact ⟨.inr hk, up _ _ hn⟩

/-- where a solid hand acts, it finds its key just where it lives -/
theorem found_living {H : List C} {d : Hd} {m : Nat} (s : Sol H d m) (hs : d.step = 2) : found H d ↔ d.key ∈ living H := by
  have W := s.hand.way (by omega)
  have u := up_ok s.heap
  have hin := s.hand.inL W.1.1 s.left
  constructor
  · intro hf
    have hg := s.sure (by omega) hf.1
    have hin' := s.hand.inH hf.1 hg
    have h0 : d.here ≠ 0 := by
      rcases W.2.2 with e | e
      · have := hf.1; omega
      · omega
    have := is_living s.heap hin' h0 hg
    rw [hf.2] at this
    exact this
  · intro hl
    refine Decidable.byContradiction fun hf => ?_
    have ha := s.hand.act hs
    have hkk := s.hand.key
    refine not_living (no_key_between u hin W.2.1 ?_) hl
    rw [s.next]
    unfold there at ha
    rcases W.2.2 with e | e
    · exact .inl e
    · rw [if_pos (by omega)] at ha
      right
      have : (nth H d.here).key ≠ d.key := fun q => hf ⟨by omega, q⟩
      omega

structure Says (H : List C) (d : Hd) (R : List C × Hd) : Prop where
  put : d.kind = 1 → d.key ∈ living R.1 ∧ (R.2.told = 1 ↔ d.key ∉ living H) ∧ (d.key ∉ living H → valueAt R.1 d.key = (d.value, true))
  take : d.kind = 2 → d.key ∉ living R.1 ∧ (R.2.told = 1 ↔ d.key ∈ living H)
  look : d.kind = 3 → living R.1 = living H ∧ (R.2.told = 1 ↔ d.key ∈ living H)

theorem act_says {H : List C} {d : Hd} {m : Nat} (s : Sol H d m) (hs : d.step = 2) (ho : d.own = -1) (hl : H.length < 40) : Says H d (alone 2 H d) := by
  have K := move_keeps s.heap s.hand
  have W := s.hand.way (by omega)
  have FL := found_living s hs
  have em : move H d = moveA H d := by unfold move; rw [if_neg (by omega), if_neg (by omega), if_pos hs]
  have hgo : alone 2 H d = alone 1 (move H d).1 (move H d).2 := alone_go 1 H d (by omega)
  have hact := sol_act s hs
  by_cases h3 : d.kind = 3
  · have e : move H d = (H, doneD d (decide (found H d))) := by rw [em]; unfold moveA; rw [if_pos h3]
    rw [hgo, e, alone_done 1 H _ rfl]
    refine ⟨fun h => by omega, fun h => by omega, fun _ => ⟨rfl, ?_⟩⟩
    rw [← FL]
    simp only [doneD]
    by_cases hf : found H d <;> simp [hf]
  · by_cases hn : d.kind = 1 ∧ found H d ∨ d.kind = 2 ∧ ¬ found H d
    · have e : move H d = (H, doneD d false) := by rw [em]; unfold moveA; rw [if_neg h3, if_pos hn]
      rw [hgo, e, alone_done 1 H _ rfl]
      refine ⟨fun h => ?_, fun h => ?_, fun h => by omega⟩
      · have hf : d.key ∈ living H := FL.1 (by rcases hn with q | q; (· exact q.2); (· omega))
        exact ⟨hf, ⟨fun q => by simp [doneD] at q, fun q => absurd hf q⟩, fun q => absurd hf q⟩
      · have hf : d.key ∉ living H := fun q => (by rcases hn with q2 | q2; (· omega); (· exact q2.2 (FL.2 q)) : False)
        exact ⟨hf, ⟨fun q => by simp [doneD] at q, fun q => absurd q hf⟩⟩
    · by_cases h1 : d.kind = 1
      · have hf : ¬ found H d := fun q => hn (.inl ⟨h1, q⟩)
        have hnl : d.key ∉ living H := fun q => hf (FL.2 q)
        have ha := s.hand.act hs
        have hkk := s.hand.key
        have hlead : leads H d.key d.here := by
          unfold there at ha
          rcases W.2.2 with e | e
          · exact .inl e
          · rw [if_pos (by omega)] at ha
            have : (nth H d.here).key ≠ d.key := fun q => hf ⟨by omega, q⟩
            exact .inr ⟨⟨by omega, e.2⟩, by omega⟩
        have hfr : freshOk H d.key d.value d.here := heapOk_snoc s.heap hl _ _ _ hkk hlead
        have eN : freshN H d.key d.value d.here = (H.length : Int) := by unfold freshN; rw [if_pos s.heap, if_pos hfr]
        have eH : freshH H d.key d.value d.here = H ++ [cell d.key d.value d.here] := by unfold freshH; rw [if_pos s.heap, if_pos hfr]
        have e : move H d = (H ++ [cell d.key d.value d.here], { d with own := (H.length : Int), step := 3 }) := by
          rw [em]; unfold moveA; rw [if_neg h3, if_neg hn, if_pos h1]; unfold movePut; rw [if_pos (by omega), eN, if_neg (by omega), eH]
        have LV := (move_lives s.heap s.hand).no (fun q => by rw [e] at q; have := q.2.1; simp at this)
        rw [hgo]
        rw [e] at hact K LV ⊢
        rcases hact with q | ⟨-, s'⟩ | ⟨q, -⟩
        · simp at q
        · have LV2 := move_lives K.heap K.hand
          have K2 := move_keeps K.heap K.hand
          rw [alone_go 0 _ _ (by simp)]
          have el := sol_link s' rfl
          rw [el] at LV2 K2 ⊢
          show Says H d (alone 0 _ _)
          have hy := LV2.yes (by simp) rfl rfl (by simpa using h3)
          have hp := hy.2.1 h1
          refine ⟨fun _ => ⟨hp.2, ⟨fun _ => hnl, fun _ => rfl⟩, fun _ => ?_⟩, fun h => by omega, fun h => absurd h h3⟩
          obtain ⟨x, hx1, hx2, hx3⟩ := mem_living.1 hp.2
          show valueAt (swapH (H ++ [cell d.key d.value d.here]) d.left (H.length : Int)) d.key = _
          rw [valueAt_of K2.heap hx1 hx2 hx3]
          -- the cell with this key in the chain is the hand's own
          have ow := K2.hand.own
          simp only [doneD] at ow
          have hlast : nth (H ++ [cell d.key d.value d.here]) (H.length : Int) = cell d.key d.value d.here := by
            have := nth_nat (H ++ [cell d.key d.value d.here]) H.length (by simp)
            rw [this]; simp
          obtain ⟨i, hi0, hi⟩ := has_nat (s'.hand.way (by simp)).1
          simp only at hi0
          have hin : (i : Int) ∈ chain (H ++ [cell d.key d.value d.here]) := by
            have := s'.hand.inL (s'.hand.way (by simp)).1.1 s'.left
            simp only [hi0] at this
            exact this
          have hok2 := K2.heap
          simp only [hi0] at hok2 hx1 hx2 hx3 ⊢
          have hnx := s'.next
          simp only [hi0] at hnx
          have hne : (H.length : Int) ≠ (i : Int) := fun q => by
            have F := s'.hand.free (by simp)
            rcases F with F | F
            · simp at F
            · have := F.2.2.2.2.2.2
              simp only at this
              rw [q] at this
              exact this hin
          obtain ⟨A, B, q1, q2⟩ := link_chain K.heap i hi (H.length : Int) (by omega) hin (by rw [hlast, hnx]; rfl) hne hok2
          have nf := fun p => swapH_nth (H ++ [cell d.key d.value d.here]) i hi (H.length : Int) p
          have hxo : x = (H.length : Int) := chain_inj (up_ok hok2) (List.mem_of_mem_drop hx1) (by rw [q2]; simp) (by rw [hx3, (nf _).1, hlast]; rfl)
          rw [hxo, (nf _).2.1, hlast]
          rfl
        · simp at q
      · have hkd := s.hand.kind
        have h2 : d.kind = 2 := by omega
        have hf : found H d := Decidable.byContradiction fun q => hn (.inr ⟨h2, q⟩)
        have hlv := FL.1 hf
        have e : move H d = (H, { d with step := 4 }) := by rw [em]; unfold moveA; rw [if_neg h3, if_neg hn, if_neg h1]
        rw [hgo]
        rw [e] at hact K ⊢
        rcases hact with q | ⟨q, -⟩ | ⟨-, s'⟩
        · simp at q
        · simp at q
        · have LV2 := move_lives K.heap K.hand
          have K2 := move_keeps K.heap K.hand
          have h5 := sol_mark s' rfl
          rw [alone_go 0 _ _ (by simp)]
          show Says H d (alone 0 _ _)
          have ht : (move H { d with step := 4 }).2.told = 1 := by
            have em2 : move H { d with step := 4 } = moveM H { d with step := 4 } := by unfold move; simp
            rw [em2] at h5 ⊢
            unfold moveM at h5 ⊢
            split at h5
            · simp [startD] at h5
            · rename_i hq
              rw [if_neg hq]
              rfl
          have hy := LV2.yes (by simp) h5 ht (by simpa using h3)
          have hp := hy.2.2 h2
          exact ⟨fun h => by omega, fun _ => ⟨hp.2, ⟨fun _ => hlv, fun _ => ht⟩⟩, fun h => absurd h h3⟩

theorem walk_says : ∀ (m : Nat) (H : List C) (d : Hd), Sol H d m → d.step = 1 → d.own = -1 → H.length < 40 → Says H d (alone (m + 3) H d)
  | m, H, d, s, hs, ho, hl => by
    have LV := (move_lives s.heap s.hand).no (fun q => by
      rcases sol_walk s hs with ⟨h, -⟩ | ⟨-, h, -⟩ <;> (have := q.2.1; omega))
    have hlen : (move H d).1.length = H.length ∧ (move H d).2.own = d.own ∧ (move H d).2.kind = d.kind ∧ (move H d).2.key = d.key ∧ (move H d).2.value = d.value := by
      have em : move H d = moveW H d := by unfold move; rw [if_neg (by omega), if_pos hs]
      rw [em]
      unfold moveW
      split
      · exact ⟨rfl, rfl, rfl, rfl, rfl⟩
      · split
        · split
          · exact ⟨swapH_len _ _ _, rfl, rfl, rfl, rfl⟩
          · exact ⟨rfl, rfl, rfl, rfl, rfl⟩
        · exact ⟨rfl, rfl, rfl, rfl, rfl⟩
    obtain ⟨e1, e2, e3, e4, e5⟩ := hlen
    rw [show m + 3 = (m + 2) + 1 from rfl, alone_go (m + 2) H d (by omega)]
    have back : Says (move H d).1 (move H d).2 (alone (m + 2) (move H d).1 (move H d).2) := by
      rcases sol_walk s hs with ⟨h, s'⟩ | ⟨hm, h, s'⟩
      · rw [alone_stays 2 (m + 2) _ _ (ends_act s' h) (by omega)]
        exact act_says s' h (by rw [e2]; exact ho) (by rw [e1]; exact hl)
      · cases m with
        | zero => omega
        | succ m => exact walk_says m _ _ s' h (by rw [e2]; exact ho) (by rw [e1]; exact hl)
    refine ⟨fun hk => ?_, fun hk => ?_, fun hk => ?_⟩
    · have := back.put (e3.trans hk)
      rw [LV, e4, e5] at this
      exact this
    · have := back.take (e3.trans hk)
      rw [LV, e4] at this
      exact this
    · have := back.look (e3.trans hk)
      rw [LV, e4] at this
      exact this
/-- a hand alone, from its start on -/
theorem alone_says {H : List C} {d : Hd} (hok : heapOk H) (h : OkH H d) (hs : d.step = 0) (ho : d.own = -1) (hl : H.length < 40) : Says H d (alone 400 H d) := by
  obtain ⟨h1, s⟩ := sol_start hok h hs
  have em : move H d = (H, { d with left := 0, here := (nth H 0).next, step := 1 }) := by simp [move, hs]
  rw [show 400 = 399 + 1 from rfl, alone_go 399 H d (by omega)]
  rw [em] at h1 s ⊢
  rw [alone_stays (39 + 3) 399 _ _ (ends_walk 39 _ _ s h1) (by omega)]
  have := walk_says 39 _ _ s h1 ho hl
  exact ⟨this.put, this.take, this.look⟩
end Go.Proofs.Ytodpbghkjnlfdaa.ce
/- Contract of likeHeap: a slice of cells held against one that holds the same. -/
namespace Go.Proofs.Ytodpbghkjnlfdaa.ce
open Go.ChangeShapes Go.WideShapes Go.ChangeAt Go.RowKit
set_option linter.unusedVariables false

theorem likeHeap_any (H : List C) (v v' : Value) (hi hi' : Nat) (w : World) (hh : hi ≤ w.heap.size) (hh' : hi' ≤ w.heap.size) (r : Rd w hi v H) (r' : Rd w hi' v' H) :
    Calls Try.prog 27 #[v, v'] w fun e w' => e = .returned (.bool true) ∧ Below w.heap.size w w' := by
  have hl := r.len
  obtain ⟨a, cap, rfl⟩ := r.form
  obtain ⟨a', cap', rfl⟩ := r'.form
  have R : Hid (Rd w hi (.slice a H.length cap) H) := r
  have R' : Hid (Rd w hi' (.slice a' H.length cap') H) := r'
  clear r r'
  go_enter Try.func27, Try.ntmps27
  go_wp2
  go_loopw [5] (fun v' wr => ∃ i : Nat, i ≤ H.length ∧ v' = .int .i64 i ∧ Below w.heap.size w wr) (fun v' _ => H.length - (intOf v').toNat)
  case atStart => exact ⟨0, by omega, rfl, Below.refl _ _⟩
  case round =>
    obtain ⟨i, hi1, rfl, hBr⟩ := hrel
    by_cases hlt : i < H.length
    · obtain ⟨b, off, rfl, hb, d0, d1, d2, d3⟩ := (R.out.below hBr hh).cell i hlt
      obtain ⟨b', off', rfl, hb', e0, e1, e2, e3⟩ := (R'.out.below hBr hh').cell i hlt
      obtain ⟨c, hc⟩ := hid_ex (H[i])
      rw [hc.out] at d0 d1 d2 d3 e0 e1 e2 e3
      obtain ⟨k, x, n, g⟩ := c
      have hlt' : (i : Int) < H.length := by omega
      have hbr := hBr.size
      go_wp2
      try simp only [Act.put, List.setIfInBounds_toArray, List.set_cons_zero, List.set_cons_succ]
      go_big_quiet (fail)
      go_wp2
      go_roundw
      case rel => exact ⟨i + 1, by omega, by go_num, hBr.trans (below_drewN _ _)⟩
      case measure => simp [intOf]; omega
    · go_wp2
      go_ret
      exact ⟨rfl, hBr⟩

end Go.Proofs.Ytodpbghkjnlfdaa.ce
/- The laws' helpers on numbers: is one among them; do they rise. Mathematics of chains that the law of chapter 4 asks. -/
namespace Go.Proofs.Ytodpbghkjnlfdaa.ce
open Go.ChangeShapes Go.WideShapes Go.ChangeAt Go.RowKit
set_option linter.unusedVariables false

theorem hasInt_any (xs : List Int) (n : Int) (v : Value) (hi : Nat) (w : World) (r : RdI w hi v xs) :
    Calls Try.prog 30 #[v, .int .i64 n] w fun e w' => e = .returned (.bool (decide (n ∈ xs))) ∧ w' = w := by
  have hl := r.len
  obtain ⟨a, cap, rfl⟩ := r.form
  have R : Hid (RdI w hi (.slice a xs.length cap) xs) := r
  clear r
  obtain ⟨y, hy⟩ := hid_ex (decide (n ∈ xs))
  rw [hy.out]
  go_enter Try.func30, Try.ntmps30
  go_wp2
  go_loop [5] (fun p => ∃ i : Nat, i ≤ xs.length ∧ p = .int .i64 i ∧ Hid (n ∉ xs.take i)) (fun p => xs.length - (intOf p).toNat)
  case atStart => exact ⟨0, by omega, rfl, (by unfold Hid; simp)⟩
  case round =>
    obtain ⟨i, hi1, rfl, hno⟩ := hrel
    by_cases hlt : i < xs.length
    · obtain ⟨b, off, rfl, hb, d0⟩ := R.out.cell i hlt
      have hlt' : (i : Int) < xs.length := by omega
      obtain ⟨z, hz⟩ := hid_ex (xs[i])
      rw [hz.out] at d0
      by_cases he : z = n
      · have hb : (z == n) = true := by simpa using he
        have ey : y = true := by rw [← hy.out]; exact decide_eq_true (by rw [← he, ← hz.out]; exact List.getElem_mem hlt)
        subst ey
        go_wp2
        go_ret
        exact ⟨rfl, rfl⟩
      · have hb : (z == n) = false := by simpa using he
        have hno2 : Hid (n ∉ xs.take (i + 1)) := by
          unfold Hid
          rw [List.take_succ_eq_append_getElem hlt, List.mem_append, hz.out, List.mem_singleton]
          rintro (h | h)
          · exact hno.out h
          · exact he h.symm
        go_wp2
        go_round
        case rel => exact ⟨i + 1, by omega, by go_num, hno2⟩
        case measure => simp [intOf]; omega
    · have ei : i = xs.length := by omega
      have hlt' : ¬ (i : Int) < xs.length := by omega
      have ey : y = false := by
        have h := hno.out
        rw [ei, List.take_length] at h
        rw [← hy.out]; exact decide_eq_false h
      subst ey
      go_wp2
      go_ret
      exact ⟨rfl, rfl⟩

/-! ### mathematics -/
theorem ch_link {H : List C} : ∀ {L : List Int} {p : Int}, Ch H p L → ∀ (i : Nat) (h : i + 1 < L.length), (nth H L[i]).next = L[i + 1]
  | [], _, _, i, h => by simp at h
  | [y], _, _, i, h => by simp at h
  | y :: z :: L, p, hc, 0, h => by
    obtain ⟨rfl, h0, hc'⟩ := hc
    exact hc'.1
  | y :: z :: L, p, hc, i + 1, h => by
    obtain ⟨rfl, h0, hc'⟩ := hc
    have := ch_link hc' i (by simpa using h)
    simpa using this
theorem ch_last {H : List C} : ∀ {L : List Int} {p : Int}, Ch H p L → ∀ h : L.length - 1 < L.length, (nth H L[L.length - 1]).next < 0
  | [], _, _, h => by simp at h
  | [y], _, hc, _ => by
    obtain ⟨rfl, h0, hc'⟩ := hc
    exact hc'
  | y :: z :: L, p, hc, h => by
    obtain ⟨rfl, h0, hc'⟩ := hc
    have := ch_last hc' (by simp)
    simpa using this
theorem living_rises {H : List C} (u : Up H) : (living H).Pairwise (· < ·) := by
  have h := (ch_rises u (.inr (has_zero u)) (chain_ch u)).2
  unfold living
  rw [List.pairwise_map]
  exact (h.sublist (List.drop_sublist 1 _)).filter _
theorem alive_gone_len (H : List C) (L : List Int) : (alive H L).length + goneC H L = L.length := by
  induction L with
  | nil => rfl
  | cons x L ih =>
    unfold alive goneC at *
    cases hg : (nth H x).gone with
    | true => simp [hg] at ih ⊢; omega
    | false => simp [hg] at ih ⊢; omega
theorem chain_count {H : List C} (h : heapOk H) : ((living H).length : Int) + (goneC H (chain H) : Int) + 1 = ((chain H).length : Int) := by
  obtain ⟨M, hM, -⟩ := chain_head (up_ok h)
  have e : living H = alive H M := by unfold living alive; rw [hM]; rfl
  have h0 : (nth H 0).gone = false := h.2.1.2.1
  have eg : goneC H (chain H) = goneC H M := by rw [hM]; unfold goneC; simp [h0]
  have := alive_gone_len H M
  rw [e, eg, hM, List.length_cons]
  omega
theorem valueAt_has {H : List C} (u : Up H) (key : Int) : (valueAt H key).2 = decide (key ∈ living H) := by
  obtain ⟨M, hM, -⟩ := chain_head u
  rw [valueAt_find hM]
  cases e : M.find? (hit H key) with
  | none =>
    symm
    refine decide_eq_false fun hk => ?_
    unfold living at hk
    rw [hM] at hk
    obtain ⟨x, hx, hxk⟩ := List.mem_map.1 hk
    have hx' := List.mem_filter.1 hx
    have := List.find?_eq_none.1 e x (by simpa using hx'.1)
    simp [hit, hxk] at this
    simp [this] at hx'
  | some y =>
    symm
    refine decide_eq_true ?_
    have h1 := List.find?_some e
    have h2 := List.mem_of_find?_eq_some e
    simp [hit] at h1
    unfold living
    rw [hM]
    exact List.mem_map.2 ⟨y, List.mem_filter.2 ⟨by simpa using h2, by simp [h1.1]⟩, h1.2⟩
theorem valueL_has (H : List C) (key : Int) : (valueL H key).2 = decide (key ∈ livingL H) := by
  unfold valueL livingL
  by_cases h : heapOk H
  · rw [if_pos h, if_pos h]; exact valueAt_has (up_ok h) key
  · rw [if_neg h, if_neg h]; simp
end Go.Proofs.Ytodpbghkjnlfdaa.ce
