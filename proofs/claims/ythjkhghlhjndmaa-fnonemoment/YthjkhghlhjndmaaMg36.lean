/- Texts laid together: HdMath8 HdMath9 HdMath12. -/
import Derived.Test.YthjkhghlhjndmaaMg21
import Derived.Test.YthjkhghlhjndmaaMg08
/- What a hand alone says is what it did: plain mathematics. -/
namespace Go.Proofs.Ythjkhghlhjndmaa.ce
open Go.ChangeShapes Go.WideShapes Go.ChangeAt Go.RowKit
set_option linter.unusedVariables false

theorem valueAt_of {H : List C} (hok : heapOk H) {x k : Int} (hx : x ∈ (chain H).drop 1) (hg : (nth H x).gone = false) (hk : (nth H x).key = k) : valueAt H k = ((nth H x).value, true) := by
  unfold valueAt
  cases e : ((chain H).drop 1).find? (fun x => !(nth H x).gone && (nth H x).key == k) with
  | none => have := List.find?_eq_none.1 e x hx; simp [hg, hk] at this
  | some y =>
    have h1 := List.find?_some e
    have h2 := List.mem_of_find?_eq_some e
    simp at h1
    have := chain_inj (up_ok hok) (List.mem_of_mem_drop h2) (List.mem_of_mem_drop hx) (by rw [h1.2, hk])
    rw [this]
theorem valueAt_none {H : List C} {k : Int} (h : k ∉ living H) : valueAt H k = (0, false) := by
  unfold valueAt
  cases e : ((chain H).drop 1).find? (fun x => !(nth H x).gone && (nth H x).key == k) with
  | none => rfl
  | some y =>
    have h1 := List.find?_some e
    have h2 := List.mem_of_find?_eq_some e
    simp at h1
    exact absurd (mem_living.2 ⟨y, h2, h1.1, h1.2⟩) h

theorem heapOk_snoc {H : List C} (h : heapOk H) (hl : H.length < 40) (key value next : Int) (hk : 1 ≤ key ∧ key ≤ 65535) (hn : leads H key next) : heapOk (H ++ [cell key value next]) := by
  have u := up_ok h
  have hlen : (H ++ [cell key value next]).length = H.length + 1 := snoc_len _ _
  have up : ∀ k n, leads H k n → leads (H ++ [cell key value next]) k n := fun k n hl => by
    rcases hl with e | e
    · exact .inl e
    · exact .inr ⟨⟨e.1.1, by rw [hlen]; have := e.1.2; omega⟩, by rw [nth_snoc H _ _ e.1]; exact e.2⟩
  have h0 := has_zero u
  refine sp_ok _ (by omega) (by omega) ?_ ?_ fun j hj => ?_
  · rw [nth_snoc H _ _ h0]; exact h.2.1.1
  · rw [nth_snoc H _ _ h0]; exact h.2.1.2.1
  · by_cases e : j < H.length
    · rw [List.getElem_append_left e]
      exact ⟨(heapOk_cells h j e).1, up _ _ (heapOk_cells h j e).2⟩
    · have ej : j = H.length := by omega
      subst ej
      simp only [List.getElem_concat_length]
      exact ⟨.inr hk, up _ _ hn⟩

/-- where a solid hand acts, it finds its key just where it lives -/
theorem found_living {H : List C} {d : Hd} {m : Nat} (s : Sol H d m) (hs : d.step = 2) : found H d ↔ d.key ∈ living H := by
  have W := s.hand.way (by omega)
  have u := up_ok s.heap
  have hin := s.hand.inL W.1.1 s.left
  constructor
  · intro hf
    have hg := s.sure (by omega) hf.1
    have hin' := s.hand.inH hf.1 hg
    have h0 : d.here ≠ 0 := by
      rcases W.2.2 with e | e
      · have := hf.1; omega
      · omega
    have := is_living s.heap hin' h0 hg
    rw [hf.2] at this
    exact this
  · intro hl
    refine Decidable.byContradiction fun hf => ?_
    have ha := s.hand.act hs
    have hkk := s.hand.key
    refine not_living (no_key_between u hin W.2.1 ?_) hl
    rw [s.next]
    unfold there at ha
    rcases W.2.2 with e | e
    · exact .inl e
    · rw [if_pos (by omega)] at ha
      right
      have : (nth H d.here).key ≠ d.key := fun q => hf ⟨by omega, q⟩
      omega

structure Says (H : List C) (d : Hd) (R : List C × Hd) : Prop where
  put : d.kind = 1 → d.key ∈ living R.1 ∧ (R.2.told = 1 ↔ d.key ∉ living H) ∧ (d.key ∉ living H → valueAt R.1 d.key = (d.value, true))
  take : d.kind = 2 → d.key ∉ living R.1 ∧ (R.2.told = 1 ↔ d.key ∈ living H)
  look : d.kind = 3 → living R.1 = living H ∧ (R.2.told = 1 ↔ d.key ∈ living H)

theorem act_says {H : List C} {d : Hd} {m : Nat} (s : Sol H d m) (hs : d.step = 2) (ho : d.own = -1) (hl : H.length < 40) : Says H d (alone 2 H d) := by
  have K := move_keeps s.heap s.hand
  have W := s.hand.way (by omega)
  have FL := found_living s hs
  have em : move H d = moveA H d := by unfold move; rw [if_neg (by omega), if_neg (by omega), if_pos hs]
  have hgo : alone 2 H d = alone 1 (move H d).1 (move H d).2 := alone_go 1 H d (by omega)
  have hact := sol_act s hs
  by_cases h3 : d.kind = 3
  · have e : move H d = (H, doneD d (decide (found H d))) := by rw [em]; unfold moveA; rw [if_pos h3]
    rw [hgo, e, alone_done 1 H _ rfl]
    refine ⟨fun h => by omega, fun h => by omega, fun _ => ⟨rfl, ?_⟩⟩
    rw [← FL]
    simp only [doneD]
    by_cases hf : found H d <;> simp [hf]
  · by_cases hn : d.kind = 1 ∧ found H d ∨ d.kind = 2 ∧ ¬ found H d
    · have e : move H d = (H, doneD d false) := by rw [em]; unfold moveA; rw [if_neg h3, if_pos hn]
      rw [hgo, e, alone_done 1 H _ rfl]
      refine ⟨fun h => ?_, fun h => ?_, fun h => by omega⟩
      · have hf : d.key ∈ living H := FL.1 (by rcases hn with q | q; (· exact q.2); (· omega))
        exact ⟨hf, ⟨fun q => by simp [doneD] at q, fun q => absurd hf q⟩, fun q => absurd hf q⟩
      · have hf : d.key ∉ living H := fun q => (by rcases hn with q2 | q2; (· omega); (· exact q2.2 (FL.2 q)) : False)
        exact ⟨hf, ⟨fun q => by simp [doneD] at q, fun q => absurd q hf⟩⟩
    · by_cases h1 : d.kind = 1
      · have hf : ¬ found H d := fun q => hn (.inl ⟨h1, q⟩)
        have hnl : d.key ∉ living H := fun q => hf (FL.2 q)
        have ha := s.hand.act hs
        have hkk := s.hand.key
        have hlead : leads H d.key d.here := by
          unfold there at ha
          rcases W.2.2 with e | e
          · exact .inl e
          · rw [if_pos (by omega)] at ha
            have : (nth H d.here).key ≠ d.key := fun q => hf ⟨by omega, q⟩
            exact .inr ⟨⟨by omega, e.2⟩, by omega⟩
        have hfr : freshOk H d.key d.value d.here := heapOk_snoc s.heap hl _ _ _ hkk hlead
        have eN : freshN H d.key d.value d.here = (H.length : Int) := by unfold freshN; rw [if_pos s.heap, if_pos hfr]
        have eH : freshH H d.key d.value d.here = H ++ [cell d.key d.value d.here] := by unfold freshH; rw [if_pos s.heap, if_pos hfr]
        have e : move H d = (H ++ [cell d.key d.value d.here], { d with own := (H.length : Int), step := 3 }) := by
          rw [em]; unfold moveA; rw [if_neg h3, if_neg hn, if_pos h1]; unfold movePut; rw [if_pos (by omega), eN, if_neg (by omega), eH]
        have LV := (move_lives s.heap s.hand).no (fun q => by rw [e] at q; have := q.2.1; simp at this)
        rw [hgo]
        rw [e] at hact K LV ⊢
        rcases hact with q | ⟨-, s'⟩ | ⟨q, -⟩
        · simp at q
        · have LV2 := move_lives K.heap K.hand
          have K2 := move_keeps K.heap K.hand
          rw [alone_go 0 _ _ (by simp)]
          have el := sol_link s' rfl
          rw [el] at LV2 K2 ⊢
          show Says H d (alone 0 _ _)
          have hy := LV2.yes (by simp) rfl rfl (by simpa using h3)
          have hp := hy.2.1 h1
          refine ⟨fun _ => ⟨hp.2, ⟨fun _ => hnl, fun _ => rfl⟩, fun _ => ?_⟩, fun h => by omega, fun h => absurd h h3⟩
          obtain ⟨x, hx1, hx2, hx3⟩ := mem_living.1 hp.2
          show valueAt (swapH (H ++ [cell d.key d.value d.here]) d.left (H.length : Int)) d.key = _
          rw [valueAt_of K2.heap hx1 hx2 hx3]
          -- the cell with this key in the chain is the hand's own
          have ow := K2.hand.own
          simp only [doneD] at ow
          have hlast : nth (H ++ [cell d.key d.value d.here]) (H.length : Int) = cell d.key d.value d.here := by
            have := nth_nat (H ++ [cell d.key d.value d.here]) H.length (by simp)
            rw [this]; simp
          obtain ⟨i, hi0, hi⟩ := has_nat (s'.hand.way (by simp)).1
          simp only at hi0
          have hin : (i : Int) ∈ chain (H ++ [cell d.key d.value d.here]) := by
            have := s'.hand.inL (s'.hand.way (by simp)).1.1 s'.left
            simp only [hi0] at this
            exact this
          have hok2 := K2.heap
          simp only [hi0] at hok2 hx1 hx2 hx3 ⊢
          have hnx := s'.next
          simp only [hi0] at hnx
          have hne : (H.length : Int) ≠ (i : Int) := fun q => by
            have F := s'.hand.free (by simp)
            rcases F with F | F
            · simp at F
            · have := F.2.2.2.2.2.2
              simp only at this
              rw [q] at this
              exact this hin
          obtain ⟨A, B, q1, q2⟩ := link_chain K.heap i hi (H.length : Int) (by omega) hin (by rw [hlast, hnx]; rfl) hne hok2
          have nf := fun p => swapH_nth (H ++ [cell d.key d.value d.here]) i hi (H.length : Int) p
          have hxo : x = (H.length : Int) := chain_inj (up_ok hok2) (List.mem_of_mem_drop hx1) (by rw [q2]; simp) (by rw [hx3, (nf _).1, hlast]; rfl)
          rw [hxo, (nf _).2.1, hlast]
          rfl
        · simp at q
      · have hkd := s.hand.kind
        have h2 : d.kind = 2 := by omega
        have hf : found H d := Decidable.byContradiction fun q => hn (.inr ⟨h2, q⟩)
        have hlv := FL.1 hf
        have e : move H d = (H, { d with step := 4 }) := by rw [em]; unfold moveA; rw [if_neg h3, if_neg hn, if_neg h1]
        rw [hgo]
        rw [e] at hact K ⊢
        rcases hact with q | ⟨q, -⟩ | ⟨-, s'⟩
        · simp at q
        · simp at q
        · have LV2 := move_lives K.heap K.hand
          have K2 := move_keeps K.heap K.hand
          have h5 := sol_mark s' rfl
          rw [alone_go 0 _ _ (by simp)]
          show Says H d (alone 0 _ _)
          have ht : (move H { d with step := 4 }).2.told = 1 := by
            have em2 : move H { d with step := 4 } = moveM H { d with step := 4 } := by unfold move; simp
            rw [em2] at h5 ⊢
            unfold moveM at h5 ⊢
            split at h5
            · simp [startD] at h5
            · rename_i hq
              rw [if_neg hq]
              rfl
          have hy := LV2.yes (by simp) h5 ht (by simpa using h3)
          have hp := hy.2.2 h2
          exact ⟨fun h => by omega, fun _ => ⟨hp.2, ⟨fun _ => hlv, fun _ => ht⟩⟩, fun h => absurd h h3⟩

theorem walk_says : ∀ (m : Nat) (H : List C) (d : Hd), Sol H d m → d.step = 1 → d.own = -1 → H.length < 40 → Says H d (alone (m + 3) H d)
  | m, H, d, s, hs, ho, hl => by
    have LV := (move_lives s.heap s.hand).no (fun q => by
      rcases sol_walk s hs with ⟨h, -⟩ | ⟨-, h, -⟩ <;> (have := q.2.1; omega))
    have hlen : (move H d).1.length = H.length ∧ (move H d).2.own = d.own ∧ (move H d).2.kind = d.kind ∧ (move H d).2.key = d.key ∧ (move H d).2.value = d.value := by
      have em : move H d = moveW H d := by unfold move; rw [if_neg (by omega), if_pos hs]
      rw [em]
      unfold moveW
      split
      · exact ⟨rfl, rfl, rfl, rfl, rfl⟩
      · split
        · split
          · exact ⟨swapH_len _ _ _, rfl, rfl, rfl, rfl⟩
          · exact ⟨rfl, rfl, rfl, rfl, rfl⟩
        · exact ⟨rfl, rfl, rfl, rfl, rfl⟩
    obtain ⟨e1, e2, e3, e4, e5⟩ := hlen
    rw [show m + 3 = (m + 2) + 1 from rfl, alone_go (m + 2) H d (by omega)]
    have back : Says (move H d).1 (move H d).2 (alone (m + 2) (move H d).1 (move H d).2) := by
      rcases sol_walk s hs with ⟨h, s'⟩ | ⟨hm, h, s'⟩
      · rw [alone_stays 2 (m + 2) _ _ (ends_act s' h) (by omega)]
        exact act_says s' h (by rw [e2]; exact ho) (by rw [e1]; exact hl)
      · cases m with
        | zero => omega
        | succ m => exact walk_says m _ _ s' h (by rw [e2]; exact ho) (by rw [e1]; exact hl)
    refine ⟨fun hk => ?_, fun hk => ?_, fun hk => ?_⟩
    · have := back.put (e3.trans hk)
      rw [LV, e4, e5] at this
      exact this
    · have := back.take (e3.trans hk)
      rw [LV, e4] at this
      exact this
    · have := back.look (e3.trans hk)
      rw [LV, e4] at this
      exact this
/-- a hand alone, from its start on -/
theorem alone_says {H : List C} {d : Hd} (hok : heapOk H) (h : OkH H d) (hs : d.step = 0) (ho : d.own = -1) (hl : H.length < 40) : Says H d (alone 400 H d) := by
  obtain ⟨h1, s⟩ := sol_start hok h hs
  have em : move H d = (H, { d with left := 0, here := (nth H 0).next, step := 1 }) := by simp [move, hs]
  rw [show 400 = 399 + 1 from rfl, alone_go 399 H d (by omega)]
  rw [em] at h1 s ⊢
  rw [alone_stays (39 + 3) 399 _ _ (ends_walk 39 _ _ s h1) (by omega)]
  have := walk_says 39 _ _ s h1 ho hl
  exact ⟨this.put, this.take, this.look⟩
end Go.Proofs.Ythjkhghlhjndmaa.ce
/- Many hands, each as if at one moment: what a hand saw since it began. Plain mathematics. -/
namespace Go.Proofs.Ythjkhghlhjndmaa.ce
open Go.ChangeShapes Go.WideShapes Go.ChangeAt Go.RowKit
set_option linter.unusedVariables false

/-- what a hand that has begun must have seen: its key living (s), or not living (m), at some moment since -/
structure Seen (H : List C) (b : Hd) (s m : Prop) : Prop where
  walk : b.step = 1 → 0 ≤ b.here → (nth H b.here).key = b.key → (nth H b.here).gone = false → s
  found : b.step = 2 → found H b → s
  past : (b.step = 1 ∨ b.step = 2) → b.key < there H b → m

theorem seen_more {H : List C} {b : Hd} {s m s' m' : Prop} (h : Seen H b s m) (hs : s → s') (hm : m → m') : Seen H b s' m' := ⟨fun a b c d => hs (h.walk a b c d), fun a b => hs (h.found a b), fun a b => hm (h.past a b)⟩
theorem seen_later {H H' : List C} {o : Int} {b : Hd} {s m : Prop} (l : Later H H' o) (h : OkH H b) (hb : Seen H b s m) : Seen H' b s m := by
  have hw : 0 ≤ b.here → has H b.here := fun h0 => by
    by_cases hs : b.step = 0 ∨ b.step = 5
    · have := (h.idle hs).2; omega
    · rcases (h.way hs).2.2 with e | e
      · omega
      · exact ⟨h0, e.2⟩
  have ht : there H' b = there H b := by
    unfold there
    split
    · rename_i h0; exact (l.key _ (hw h0)).1
    · rfl
  refine ⟨fun a h0 hk hg => ?_, fun a hf => ?_, fun a hk => ?_⟩
  · rw [(l.key _ (hw h0)).1] at hk
    exact hb.walk a h0 hk (l.gone _ (hw h0) hg)
  · exact hb.found a ⟨hf.1, by rw [← (l.key _ (hw hf.1)).1]; exact hf.2⟩
  · rw [ht] at hk; exact hb.past a hk

/-- where Left, in the chain and not Gone, leads to Here: what is seen at this moment -/
theorem seen_now {H : List C} (hok : heapOk H) {l x k : Int} (hin : l ∈ chain H) (hn : (nth H l).next = x) (hk : (nth H l).key < k) :
    (0 ≤ x → (nth H x).key = k → (nth H x).gone = false → k ∈ living H) ∧ ((x = -1 ∨ 0 ≤ x ∧ k < (nth H x).key) → k ∉ living H) := by
  have u := up_ok hok
  refine ⟨fun h0 h1 h2 => ?_, fun h => ?_⟩
  · have hx : x ∈ chain H := by rw [← hn]; exact chain_next u hin (by rw [hn]; exact h0)
    have hx0 : x ≠ 0 := fun e => by
      have := hok.2.1.1
      rw [e] at h1
      have hl := u.keys l (chain_hasX u hin)
      omega
    have := is_living hok hx hx0 h2
    rw [h1] at this
    exact this
  · refine not_living (no_key_between u hin hk ?_)
    rw [hn]
    rcases h with e | e
    · exact .inl e
    · exact .inr e.2
/-- .. and where what follows Left is Gone and passed by -/
theorem seen_pass {H : List C} (hok : heapOk H) {l x k : Int} (hin : l ∈ chain H) (hn : (nth H l).next = x) (hx0 : 0 ≤ x) (hg : (nth H x).gone = true) (hk : (nth H l).key < k) :
    (0 ≤ (nth H x).next → (nth H (nth H x).next).key = k → (nth H (nth H x).next).gone = false → k ∈ living H) ∧ (((nth H x).next = -1 ∨ 0 ≤ (nth H x).next ∧ k < (nth H (nth H x).next).key) → k ∉ living H) := by
  have u := up_ok hok
  have hx : x ∈ chain H := by rw [← hn]; exact chain_next u hin (by rw [hn]; exact hx0)
  refine ⟨fun h0 h1 h2 => ?_, fun h hm => ?_⟩
  · have hy := chain_next u hx h0
    have hy0 : (nth H x).next ≠ 0 := fun e => by
      have := hok.2.1.1
      rw [e] at h1
      have hl := u.keys l (chain_hasX u hin)
      omega
    have := is_living hok hy hy0 h2
    rw [h1] at this
    exact this
  · obtain ⟨y, q1, q2, q3⟩ := mem_living.1 hm
    have hy := List.mem_of_mem_drop q1
    have hyx : y ≠ x := fun e => by rw [e, hg] at q2; cases q2
    obtain ⟨A, B, e, hB⟩ := ch_split (chain_ch u) hin
    obtain ⟨c1, c2⟩ := cut_keys u e
    rw [e] at hy
    rcases List.mem_append.1 hy with q | q
    · have := c1 y q; omega
    · rcases List.mem_cons.1 q with q | q
      · rw [q] at q3; omega
      · rw [hn] at hB
        cases B with
        | nil => cases q
        | cons b B =>
          obtain ⟨rfl, -, hB2⟩ := hB
          rcases List.mem_cons.1 q with q | q
          · exact hyx q
          · cases B with
            | nil => cases q
            | cons b B =>
              have hb := hB2.1
              have hb0 := hB2.2.1
              rcases h with h | h
              · omega
              · rw [hb] at h
                rcases List.mem_cons.1 q with q | q
                · rw [q] at q3; omega
                · have e2 : chain H = (A ++ [l, x]) ++ b :: B := by rw [e]; simp
                  have := (cut_keys u e2).2 y q
                  omega

/-- one move of a hand that has begun (with this move, or before): what it has seen then -/
theorem seen_move {H : List C} {d : Hd} {s m : Prop} (hok : heapOk H) (h : OkH H d) (hs : d.step ≠ 0 → Seen H d s m) : Seen (move H d).1 (move H d).2 (s ∨ d.key ∈ living H) (m ∨ d.key ∉ living H) := by
  have u := up_ok hok
  have st := h.step
  have hkk := h.key
  rcases (by omega : d.step = 0 ∨ d.step = 1 ∨ d.step = 2 ∨ d.step = 3 ∨ d.step = 4 ∨ d.step = 5) with e | e | e | e | e | e
  · have em : move H d = (H, { d with left := 0, here := (nth H 0).next, step := 1 }) := by simp [move, e]
    rw [em]
    have h00 := hok.2.1.1
    obtain ⟨s1, s2⟩ := seen_now hok (zero_in u) rfl (show (nth H 0).key < d.key by omega)
    refine ⟨fun _ h0 hk hg => .inr (s1 h0 hk hg), fun q => by simp at q, fun _ hk => .inr (s2 ?_)⟩
    unfold there at hk
    simp only at hk
    rcases next_fit hok (has_zero u) with q | q
    · exact .inl q
    · rw [if_pos (by omega)] at hk; exact .inr ⟨by omega, hk⟩
  · have S := hs (by omega)
    have W := h.way (by omega)
    have em : move H d = moveW H d := by unfold move; rw [if_neg (by omega), if_pos e]
    rw [em]
    unfold moveW
    by_cases hst : stops H d
    · rw [if_pos hst]
      refine ⟨fun q => by simp at q, fun _ hf => ?_, fun _ hk => .inl (S.past (.inl e) hk)⟩
      left
      rcases hst with q | q
      · have := hf.1; simp only at this; omega
      · exact S.walk e hf.1 hf.2 q.1
    · rw [if_neg hst]
      have hh : 1 ≤ d.here ∧ d.here < (H.length : Int) := by
        rcases W.2.2 with q | q
        · exact absurd (.inl q) hst
        · exact q
      have hhas : has H d.here := ⟨by omega, hh.2⟩
      by_cases hg : (nth H d.here).gone = true
      · rw [if_pos hg]
        by_cases hsw : swapOk H d.left d.here (nth H d.here).next
        · rw [if_pos hsw]
          have hin := h.inL W.1.1 hsw.1.2.1
          obtain ⟨s1, s2⟩ := seen_pass hok hin hsw.1.2.2 (by omega) hg W.2.1
          obtain ⟨i, hi0, hi⟩ := has_nat W.1
          have nf := fun p => swapH_nth H i hi (nth H d.here).next p
          rw [hi0]
          refine ⟨fun _ h0 hk hq => .inr ?_, fun q => by simp only at q; omega, fun _ hk => .inr (s2 ?_)⟩
          · simp only at h0 hk hq
            rw [(nf _).1] at hk
            rw [(nf _).2.2] at hq
            exact s1 h0 hk hq
          · unfold there at hk
            simp only at hk
            rcases next_fit hok hhas with q | q
            · exact .inl q
            · rw [if_pos (by omega), (nf _).1] at hk; exact .inr ⟨by omega, hk⟩
        · rw [if_neg hsw]
          exact ⟨fun q => by simp [startD] at q, fun q => by simp [startD] at q, fun q => by simp [startD] at q⟩
      · rw [if_neg hg]
        have hg' : (nth H d.here).gone = false := by simpa using hg
        have hin := h.inH (by omega) hg'
        have hlt : (nth H d.here).key < d.key := by
          have : ¬ d.key ≤ (nth H d.here).key := fun q => hst (.inr ⟨hg', q⟩)
          omega
        obtain ⟨s1, s2⟩ := seen_now hok hin rfl hlt
        refine ⟨fun _ h0 hk hq => .inr (s1 h0 hk hq), fun q => by simp only at q; omega, fun _ hk => .inr (s2 ?_)⟩
        unfold there at hk
        simp only at hk
        rcases next_fit hok hhas with q | q
        · exact .inl q
        · rw [if_pos (by omega)] at hk; exact .inr ⟨by omega, hk⟩
  · have hb : (move H d).2.step ≠ 1 ∧ (move H d).2.step ≠ 2 := by
      have em : move H d = moveA H d := by unfold move; rw [if_neg (by omega), if_neg (by omega), if_pos e]
      rw [em]
      unfold moveA
      split
      · exact ⟨by simp [doneD], by simp [doneD]⟩
      · split
        · exact ⟨by simp [doneD], by simp [doneD]⟩
        · split
          · unfold movePut
            split
            · split
              · exact ⟨by simp [doneD], by simp [doneD]⟩
              · exact ⟨by simp, by simp⟩
            · exact ⟨by simp, by simp⟩
          · exact ⟨by simp, by simp⟩
    exact ⟨fun q => absurd q hb.1, fun q => absurd q hb.2, fun q => by rcases q with q | q; (· exact absurd q hb.1); (· exact absurd q hb.2)⟩
  · have hb : (move H d).2.step ≠ 1 ∧ (move H d).2.step ≠ 2 := by
      have em : move H d = moveL H d := by unfold move; rw [if_neg (by omega), if_neg (by omega), if_neg (by omega), if_pos e]
      rw [em]
      unfold moveL
      split
      · exact ⟨by simp [doneD], by simp [doneD]⟩
      · exact ⟨by simp [startD], by simp [startD]⟩
    exact ⟨fun q => absurd q hb.1, fun q => absurd q hb.2, fun q => by rcases q with q | q; (· exact absurd q hb.1); (· exact absurd q hb.2)⟩
  · have hb : (move H d).2.step ≠ 1 ∧ (move H d).2.step ≠ 2 := by
      have em : move H d = moveM H d := by unfold move; rw [if_neg (by omega), if_neg (by omega), if_neg (by omega), if_neg (by omega), if_pos e]
      rw [em]
      unfold moveM
      split
      · exact ⟨by simp [startD], by simp [startD]⟩
      · exact ⟨by simp [doneD], by simp [doneD]⟩
    exact ⟨fun q => absurd q hb.1, fun q => absurd q hb.2, fun q => by rcases q with q | q; (· exact absurd q hb.1); (· exact absurd q hb.2)⟩
  · have em : move H d = (H, d) := by unfold move; rw [if_neg (by omega), if_neg (by omega), if_neg (by omega), if_neg (by omega), if_neg (by omega)]
    rw [em]
    exact ⟨fun q => by simp only at q; omega, fun q => by simp only at q; omega, fun q => by simp only at q; omega⟩

/-- a hand that says no, or looked, saw it so -/
theorem seen_says {H : List C} {d : Hd} {s m : Prop} (hok : heapOk H) (h : OkH H d) (hs : Seen H d s m) (hroom : d.own = -1 → H.length < 40) (h5 : d.step ≠ 5) (hd : (move H d).2.step = 5) :
    (d.kind = 1 → (move H d).2.told ≠ 1 → s) ∧ (d.kind = 2 → (move H d).2.told ≠ 1 → m) ∧ (d.kind = 3 → ((move H d).2.told = 1 → s) ∧ ((move H d).2.told ≠ 1 → m)) := by
  have st := h.step
  have hkk := h.key
  rcases (by omega : d.step = 0 ∨ d.step = 1 ∨ d.step = 2 ∨ d.step = 3 ∨ d.step = 4) with e | e | e | e | e
  · have em : move H d = (H, { d with left := 0, here := (nth H 0).next, step := 1 }) := by simp [move, e]
    rw [em] at hd
    simp at hd
  · have em : move H d = moveW H d := by unfold move; rw [if_neg (by omega), if_pos e]
    rw [em] at hd
    unfold moveW at hd
    split at hd
    · simp at hd
    · split at hd
      · split at hd
        · simp only at hd; omega
        · simp [startD] at hd
      · simp only at hd; omega
  · have ha := h.act e
    have W := h.way (by omega)
    have nf : ¬ found H d → d.key < there H d := fun hf => by
      unfold there at ha ⊢
      by_cases h0 : 0 ≤ d.here
      · rw [if_pos h0] at ha ⊢
        have : (nth H d.here).key ≠ d.key := fun q => hf ⟨h0, q⟩
        omega
      · rw [if_neg h0]; omega
    have em : move H d = moveA H d := by unfold move; rw [if_neg (by omega), if_neg (by omega), if_pos e]
    rw [em] at hd ⊢
    unfold moveA at hd ⊢
    by_cases h3 : d.kind = 3
    · rw [if_pos h3]
      refine ⟨fun q => by omega, fun q => by omega, fun _ => ⟨fun q => ?_, fun q => ?_⟩⟩
      · by_cases hf : found H d
        · exact hs.found e hf
        · simp [doneD, hf] at q
      · by_cases hf : found H d
        · simp [doneD, hf] at q
        · exact hs.past (.inr e) (nf hf)
    · rw [if_neg h3] at hd ⊢
      by_cases hn : d.kind = 1 ∧ found H d ∨ d.kind = 2 ∧ ¬ found H d
      · rw [if_pos hn]
        refine ⟨fun q _ => ?_, fun q _ => ?_, fun q => absurd q h3⟩
        · exact hs.found e (by rcases hn with q2 | q2; (· exact q2.2); (· omega))
        · exact hs.past (.inr e) (nf (by rcases hn with q2 | q2; (· omega); (· exact q2.2)))
      · rw [if_neg hn] at hd ⊢
        by_cases h1 : d.kind = 1
        · rw [if_pos h1] at hd ⊢
          unfold movePut at hd ⊢
          by_cases ho : d.own < 0
          · rw [if_pos ho] at hd ⊢
            have hf : ¬ found H d := fun q => hn (.inl ⟨h1, q⟩)
            have hown : d.own = -1 := by
              rcases h.own with q | q
              · exact q
              · omega
            have hlead : leads H d.key d.here := by
              have := nf hf
              unfold there at this
              rcases W.2.2 with q | q
              · exact .inl q
              · rw [if_pos (by omega)] at this
                exact .inr ⟨⟨by omega, q.2⟩, this⟩
            have hfr : freshOk H d.key d.value d.here := heapOk_snoc hok (hroom hown) _ _ _ hkk hlead
            have eN : freshN H d.key d.value d.here = (H.length : Int) := by unfold freshN; rw [if_pos hok, if_pos hfr]
            rw [if_neg (by rw [eN]; omega)] at hd
            simp at hd
          · rw [if_neg ho] at hd
            simp at hd
        · rw [if_neg h1] at hd
          simp at hd
  · have hl := h.link e
    have em : move H d = moveL H d := by unfold move; rw [if_neg (by omega), if_neg (by omega), if_neg (by omega), if_pos e]
    rw [em] at hd ⊢
    unfold moveL at hd ⊢
    split at hd
    · rename_i hsw
      rw [if_pos hsw]
      exact ⟨fun _ q => absurd rfl q, fun q => by omega, fun q => by omega⟩
    · simp [startD] at hd
  · have hm := h.mark e
    have em : move H d = moveM H d := by unfold move; rw [if_neg (by omega), if_neg (by omega), if_neg (by omega), if_neg (by omega), if_pos e]
    rw [em] at hd ⊢
    unfold moveM at hd ⊢
    split at hd
    · simp [startD] at hd
    · rename_i hg
      rw [if_neg hg]
      exact ⟨fun q => by omega, fun _ q => absurd rfl q, fun q => by omega⟩
end Go.Proofs.Ythjkhghlhjndmaa.ce
/- Of a new crew, as if at one moment: what holds between the picks; how a hand that is picked again and again comes to its end. Plain mathematics. -/
namespace Go.Proofs.Ythjkhghlhjndmaa.ce
open Go.ChangeShapes Go.WideShapes Go.ChangeAt Go.RowKit
set_option linter.unusedVariables false

/-- a move leaves the heap as long as it was, but where it gives the hand a cell of its own -/
theorem move_len (H : List C) (d : Hd) : (move H d).2.own = d.own ∧ (move H d).1.length = H.length ∨ (move H d).2.own = (H.length : Int) ∧ d.own < 0 ∧ (move H d).1.length = H.length + 1 := by
  unfold move
  split
  · exact .inl ⟨rfl, rfl⟩
  split
  · unfold moveW
    split
    · exact .inl ⟨rfl, rfl⟩
    split
    · split
      · exact .inl ⟨rfl, by simp [swapH_len]⟩
      · exact .inl ⟨rfl, rfl⟩
    · exact .inl ⟨rfl, rfl⟩
  split
  · unfold moveA
    split
    · exact .inl ⟨rfl, rfl⟩
    split
    · exact .inl ⟨rfl, rfl⟩
    split
    · unfold movePut
      split
      · rename_i ho
        split
        · exact .inl ⟨rfl, rfl⟩
        · rename_i hf
          refine .inr ?_
          have hok : heapOk H := Decidable.byContradiction fun q => hf (by unfold freshN; rw [if_neg q]; omega)
          have hfo : freshOk H d.key d.value d.here := Decidable.byContradiction fun q => hf (by unfold freshN; rw [if_pos hok, if_neg q]; omega)
          refine ⟨?_, ho, ?_⟩
          · show freshN H d.key d.value d.here = _
            unfold freshN; rw [if_pos hok, if_pos hfo]
          · show (freshH H d.key d.value d.here).length = _
            unfold freshH; rw [if_pos hok, if_pos hfo]; simp
      · exact .inl ⟨rfl, by simp [swapH_len]⟩
    · exact .inl ⟨rfl, rfl⟩
  split
  · unfold moveL
    split
    · exact .inl ⟨rfl, by simp [swapH_len]⟩
    · exact .inl ⟨rfl, rfl⟩
  split
  · unfold moveM
    split
    · exact .inl ⟨rfl, rfl⟩
    · exact .inl ⟨rfl, by simp [strike1_len]⟩
  · exact .inl ⟨rfl, rfl⟩

/-- how many hands have a cell of their own -/
def owners (ds : List Hd) : Nat := ds.countP fun d => decide (0 ≤ d.own)
/-- what is known between two picks; B, S, M tell of each hand whether it began, saw its key living, saw it not living -/
structure Mom (H : List C) (ds : List Hd) (B S M : List Bool) : Prop where
  crew : CrewOk H ds
  lenB : B.length = ds.length
  lenS : S.length = ds.length
  lenM : M.length = ds.length
  new : ∀ k (hk : k < ds.length), B[k]? = some false → ds[k].step = 0
  seen : ∀ k (hk : k < ds.length), Seen H ds[k] (S[k]? = some true) (M[k]? = some true)
  room : H.length ≤ 1 + owners ds
theorem Mom.short {H : List C} {ds : List Hd} {B S M : List Bool} (m : Mom H ds B S M) : H.length < 40 := by
  have h1 := m.room
  have h2 : owners ds ≤ ds.length := List.countP_le_length
  have h3 := m.crew.le
  omega
theorem seen_zero {H : List C} {d : Hd} {s m : Prop} (h : d.step = 0) : Seen H d s m := ⟨fun q => by omega, fun q => by omega, fun q => by omega⟩
/-- at first nobody has begun -/
theorem mom_new {ds : List Hd} {H : List C} (c : CrewOk H ds) (h0 : ∀ d ∈ ds, d.step = 0) (h1 : H.length ≤ 1) {B S M : List Bool} (lB : B.length = ds.length) (lS : S.length = ds.length) (lM : M.length = ds.length) : Mom H ds B S M :=
  ⟨c, lB, lS, lM, fun k hk _ => h0 _ (List.getElem_mem hk), fun k hk => seen_zero (h0 _ (List.getElem_mem hk)), by omega⟩
/-- what each hand that is under way sees ahead of a pick -/
def sawL (H : List C) (ds : List Hd) (B S : List Bool) : List Bool := (List.range ds.length).map fun k => S.getD k false || (B.getD k false && decide ((ds.getD k ⟨0, 0, 0, 0, 0, 0, 0, 0⟩).step ≠ 5) && decide ((ds.getD k ⟨0, 0, 0, 0, 0, 0, 0, 0⟩).key ∈ living H))
def missL (H : List C) (ds : List Hd) (B S : List Bool) : List Bool := (List.range ds.length).map fun k => S.getD k false || (B.getD k false && decide ((ds.getD k ⟨0, 0, 0, 0, 0, 0, 0, 0⟩).step ≠ 5) && decide ((ds.getD k ⟨0, 0, 0, 0, 0, 0, 0, 0⟩).key ∉ living H))
theorem sawL_get {H : List C} {ds : List Hd} {B S : List Bool} {k : Nat} (hk : k < ds.length) : (sawL H ds B S)[k]? = some (S.getD k false || (B.getD k false && decide (ds[k].step ≠ 5) && decide (ds[k].key ∈ living H))) := by
  unfold sawL; simp [hk]
theorem missL_get {H : List C} {ds : List Hd} {B S : List Bool} {k : Nat} (hk : k < ds.length) : (missL H ds B S)[k]? = some (S.getD k false || (B.getD k false && decide (ds[k].step ≠ 5) && decide (ds[k].key ∉ living H))) := by
  unfold missL; simp [hk]
theorem sawL_keep {H : List C} {ds : List Hd} {B S : List Bool} {k : Nat} (hk : k < ds.length) (h : S[k]? = some true) : (sawL H ds B S)[k]? = some true := by
  rw [sawL_get hk]; simp [List.getD, h]
theorem missL_keep {H : List C} {ds : List Hd} {B S : List Bool} {k : Nat} (hk : k < ds.length) (h : S[k]? = some true) : (missL H ds B S)[k]? = some true := by
  rw [missL_get hk]; simp [List.getD, h]
/-- one pick of a hand that is not done -/
theorem mom_pick {H : List C} {ds : List Hd} {B S M : List Bool} (m : Mom H ds B S M) (i : Nat) (hi : i < ds.length) (h5 : ds[i].step ≠ 5) :
    Mom (move H ds[i]).1 (ds.set i (move H ds[i]).2) (B.set i true) (sawL H ds (B.set i true) S) (missL H ds (B.set i true) M) := by
  have ok := m.crew.hands _ (List.getElem_mem hi)
  have hc := crew_pick m.crew i hi
  unfold pickH pickD at hc
  rw [if_neg h5, if_neg h5] at hc
  have hBi : (B.set i true).getD i false = true := by simp [List.getD, m.lenB, hi]
  refine ⟨hc, by simp [m.lenB], by simp [sawL], by simp [missL], fun k hk hb => ?_, fun k hk => ?_, ?_⟩
  · have hk' : k < ds.length := by simpa using hk
    rw [List.getElem_set]
    split
    · rename_i e
      subst e
      rw [List.getElem?_set_self (by rw [m.lenB]; exact hi)] at hb
      cases hb
    · rename_i e
      rw [List.getElem?_set_ne e] at hb
      exact m.new k hk' hb
  · have hk' : k < ds.length := by simpa using hk
    rw [List.getElem_set]
    split
    · rename_i e
      subst e
      refine seen_more (seen_move m.crew.heap ok fun _ => m.seen i hi) ?_ ?_
      · rintro (q | q)
        · exact sawL_keep hi q
        · rw [sawL_get hi, hBi]; simp [h5, q]
      · rintro (q | q)
        · exact missL_keep hi q
        · rw [missL_get hi, hBi]; simp [h5, q]
    · exact seen_more (seen_later (move_later m.crew.heap ok) (m.crew.hands _ (List.getElem_mem hk')) (m.seen k hk')) (sawL_keep hk') (missL_keep hk')
  · have hr := m.room
    unfold owners at hr ⊢
    rw [List.countP_set hi]
    have hp : decide (0 ≤ ds[i].own) = true → 1 ≤ ds.countP (fun d => decide (0 ≤ d.own)) := fun q => List.countP_pos_iff.2 ⟨_, List.getElem_mem hi, q⟩
    rcases move_len H ds[i] with ⟨e1, e2⟩ | ⟨e1, e2, e3⟩
    · rw [e1, e2]
      by_cases q : 0 ≤ ds[i].own
      · have := hp (decide_eq_true q)
        simp only [q, decide_true, if_true]; omega
      · simp only [q, decide_false, Bool.false_eq_true, if_false]; omega
    · have q : ¬ (0 ≤ ds[i].own) := by omega
      have q2 : 0 ≤ (move H ds[i]).2.own := by rw [e1]; omega
      simp only [q, q2, decide_false, decide_true, Bool.false_eq_true, if_false, if_true]; omega
/-- who says no, or looked, saw it so -/
theorem mom_says {H : List C} {ds : List Hd} {B S M : List Bool} (m : Mom H ds B S M) (i : Nat) (hi : i < ds.length) (h5 : ds[i].step ≠ 5) (hd : (move H ds[i]).2.step = 5) :
    (ds[i].kind = 1 → (move H ds[i]).2.told ≠ 1 → (sawL H ds (B.set i true) S)[i]? = some true) ∧ (ds[i].kind = 2 → (move H ds[i]).2.told ≠ 1 → (missL H ds (B.set i true) M)[i]? = some true) ∧ (ds[i].kind = 3 → ((move H ds[i]).2.told = 1 → (sawL H ds (B.set i true) S)[i]? = some true) ∧ ((move H ds[i]).2.told ≠ 1 → (missL H ds (B.set i true) M)[i]? = some true)) :=
  seen_says m.crew.heap (m.crew.hands _ (List.getElem_mem hi)) (seen_more (m.seen i hi) (sawL_keep hi) (missL_keep hi)) (fun _ => m.short) h5 hd
/-- a hand that is picked again and again comes to its end -/
theorem ends_300 {H : List C} {d : Hd} (hok : heapOk H) (h : OkH H d) : Ends 300 H d := by
  have st := h.step
  rcases (by omega : d.step = 0 ∨ d.step = 1 ∨ d.step = 2 ∨ (d.step = 3 ∨ d.step = 4) ∨ d.step = 5) with e | e | e | e | e
  · exact ends_more (ends_start hok h e) (by omega)
  · exact ends_more (ends_1 hok h e) (by omega)
  · exact ends_more (ends_2 hok h e) (by omega)
  · exact ends_more (ends_34 hok h e) (by omega)
  · exact ends_done _ _ _ e
theorem ends_next {n : Nat} {H : List C} {d : Hd} (h : Ends (n + 1) H d) (h5 : d.step ≠ 5) : Ends n (move H d).1 (move H d).2 := by
  unfold Ends at h ⊢
  rwa [alone_go n H d h5] at h
end Go.Proofs.Ythjkhghlhjndmaa.ce
