/- Texts laid together: Pl11 HdMath5 HdMath6 HdMath7 He5. -/
import Derived.Test.YthjkhghlhjndmaaMg20
import Derived.Test.YthjkhghlhjndmaaMg07
import Derived.Test.YthjkhghlhjndmaaMg04
/- Contract: the program's played. -/
namespace Go.Proofs.Ythjkhghlhjndmaa.ce
open Go.ChangeShapes Go.WideShapes Go.ChangeAt Go.RowKit
set_option linter.unusedVariables false

noncomputable def playC (n : Nat) (H : List C) (d : Hd) : List C × Hd := if handB H d = true then runC n H d else ([], ⟨0, 0, 0, 0, 0, 0, 0, 0⟩)

set_option maxRecDepth 100000 in
set_option maxHeartbeats 4000000 in
theorem implPlayed_any (n : Nat) (hn : n ≤ 1000) (H : List C) (d : Hd) (v : Value) (hi : Nat) (w : World) (hh : hi ≤ w.heap.size) (r : Rd w hi v H) :
    Calls Try.prog 130 #[v, .agg (hv d).toArray, .int .i64 (n : Int)] w fun e w' => ∃ v', e = .returned (.tuple #[v', .agg (hv (playC n H d).2).toArray]) ∧ Own w' w.heap.size w'.heap.size v' (playC n H d).1 ∧ Below w.heap.size w w' := by
  obtain ⟨a, cap, rfl⟩ := r.form
  have R : Hid (Rd w hi (.slice a H.length cap) H) := r
  clear r
  cases hB0 : handB H d with
  | false =>
    rw [show playC n H d = ([], ⟨0, 0, 0, 0, 0, 0, 0, 0⟩) from if_neg (by rw [hB0]; simp)]
    obtain ⟨k, x, y, s, l, e, o, t⟩ := d
    have HBD : Hid (handB H ⟨k, x, y, s, l, e, o, t⟩ = false) := hB0
    clear hB0
    go_enter Try.func130, Try.ntmps130
    go_wp2_with (first | (refine wpList_box_v rfl 58 _ rfl (hv ⟨k, x, y, s, l, e, o, t⟩) rfl ?_; intro b4 w1 hb4 hw1 hB1 hV1; have hz1 := hB1.size) | (refine wpList_alloc_v rfl 58 rfl _ zeroH ?_; intro b7 w2 hb7 hw2 hB2 hV2; have hz2 := hB2.size; have hb : HB w2 b4 ⟨k, x, y, s, l, e, o, t⟩ := ⟨hV1.below hB2 hw1⟩; have hr7 : HB w2 b7 ⟨0, 0, 0, 0, 0, 0, 0, 0⟩ := ⟨hV2⟩; have hB : Below w.heap.size w w2 := hB1.trans (hB2.mono hz1); clear hV1 hV2; obtain ⟨c0, c1, c2, c3, c4, c5, c6, c7⟩ := hb.cells) | (fail))
    refine wp_scope_all ?_
    go_wp2_with (first | (go_at_call 48; refine (implHandOk_any H ⟨k, x, y, s, l, e, o, t⟩ _ hi _ (by omega) (R.out.below hB hh)).mono ?_; rintro er w3 ⟨rfl, hB3⟩; rw [HBD.out]; have hz3 := hB3.size; replace hb := hb.of (hB3.block b4 (by omega)); replace hr7 := hr7.of (hB3.block b7 (by omega)); replace hB := hB.trans (hB3.mono (by omega))) | (refine wpList_store_v rfl 58 _ _ rfl b7 (hv ⟨0, 0, 0, 0, 0, 0, 0, 0⟩) rfl rfl sizeH hr7.blk rfl (hv_one _) ?_; intro w4 hO4 hV4; have hz4 := hO4.1) | (fail))
    refine scoped_ret (row_tmp_cell rfl rfl rfl hV4 Try.underlying58 sizeH rfl ⟨_, rfl, ?_, hB.trans (hO4.2.2 _ (by omega))⟩)
    exact own_none _ _ _
  | true =>
    rw [show playC n H d = runC n H d from if_pos hB0]
    have hok : heapOk H := by unfold handB at hB0; by_cases z : heapOk H; (· exact z); (· rw [if_neg z] at hB0; cases hB0)
    have ok : OkH H d := by rw [handB_pos hok] at hB0; exact okB_iff.1 hB0
    have HO : Hid (heapOk H) := hok
    have OK : Hid (OkH H d) := ok
    have h1 := hok.1.1
    have h2 : H.length ≤ 1048576 := by have := hok.1.2; omega
    clear hok ok
    obtain ⟨k, x, y, s, l, e, o, t⟩ := d
    have HBD : Hid (handB H ⟨k, x, y, s, l, e, o, t⟩ = true) := hB0
    obtain ⟨Z, hZ⟩ := hid_ex (runC n H ⟨k, x, y, s, l, e, o, t⟩)
    rw [hZ.out]
    clear hB0
    go_enter Try.func130, Try.ntmps130
    go_wp2_with (first | (refine wpList_box_v rfl 58 _ rfl (hv ⟨k, x, y, s, l, e, o, t⟩) rfl ?_; intro b4 w1 hb4 hw1 hB1 hV1; have hz1 := hB1.size) | (refine wpList_alloc_v rfl 58 rfl _ zeroH ?_; intro b7 w2 hb7 hw2 hB2 hV2; have hz2 := hB2.size; have hb : HB w2 b4 ⟨k, x, y, s, l, e, o, t⟩ := ⟨hV1.below hB2 hw1⟩; have hr7 : HB w2 b7 ⟨0, 0, 0, 0, 0, 0, 0, 0⟩ := ⟨hV2⟩; have hB : Below w.heap.size w w2 := hB1.trans (hB2.mono hz1); clear hV1 hV2; obtain ⟨c0, c1, c2, c3, c4, c5, c6, c7⟩ := hb.cells) | (fail))
    refine wp_scope_all ?_
    go_wp2_with (first | (go_at_call 48; refine (implHandOk_any H ⟨k, x, y, s, l, e, o, t⟩ _ hi _ (by omega) (R.out.below hB hh)).mono ?_; rintro er w3 ⟨rfl, hB3⟩; rw [HBD.out]; have hz3 := hB3.size; replace hb := hb.of (hB3.block b4 (by omega)); replace hr7 := hr7.of (hB3.block b7 (by omega)); replace hB := hB.trans (hB3.mono (by omega))) | (go_at_call 88; refine (copied_any H _ hi _ (by omega) (R.out.below hB hh) h1 h2).mono ?_; rintro er w4 ⟨v4, rfl, hO4, hB4⟩; have p4 : Pm w w4 b4 b7 v4 H ⟨k, x, y, s, l, e, o, t⟩ := ⟨⟨_, by omega, by omega, hO4⟩, hb.of (hB4.block b4 (by omega)), hr7.of (hB4.block b7 (by omega)), by omega, by omega, by omega, hB.trans (hB4.mono (by omega))⟩) | (fail))
    go_step3
    rename_i K hK
    refine hK _ _ ?_
    exact passAll w b4 b7 _ _ rfl n hn H ⟨k, x, y, s, l, e, o, t⟩ HO.out OK.out w4 v4 _ _ _ _ _ _ _ _ _ _ _ _ _ _ _ _ _ _ _ _ _ _ _ _ _ _ _ _ _ _ _ _ _ _ _ _ _ _ _ _ _ _ _ _ _ _ _ _ _ _ _ _ _ _ _ _ _ _ _ _ _ _ _ _ _ _ _ _ _ _ _ _ _ _ _ _ _ _ _ _ _ _ _ _ _ _ _ _ _ _ _ _ _ _ _ _ _ _ _ _ _ _ _ _ _ _ _ _ _ _ _ _ _ _ _ _ _ _ _ _ _ _ _ _ _ _ _ _ _ _ _ _ _ _ _ _ _ _ _ _ _ p4 (by rw [hZ.out]; exact fun v' w' z1 z2 => ⟨v', rfl, z1, z2⟩)

theorem implMoved_any' (H : List C) (d : Hd) (v : Value) (hi : Nat) (w : World) (hh : hi ≤ w.heap.size) (r : Rd w hi v H) :
    Calls Try.prog 129 #[v, .agg (hv d).toArray] w fun e w' => ∃ v', e = .returned (.tuple #[v', .agg (hv (playC 1 H d).2).toArray]) ∧ Own w' w.heap.size w'.heap.size v' (playC 1 H d).1 ∧ Below w.heap.size w w' := by
  obtain ⟨a, cap, rfl⟩ := r.form
  have R : Hid (Rd w hi (.slice a H.length cap) H) := r
  clear r
  obtain ⟨k, x, y, s, l, e, o, t⟩ := d
  obtain ⟨⟨L, ⟨k9, x9, y9, s9, l9, e9, o9, t9⟩⟩, PZ⟩ := hid_ex (playC 1 H ⟨k, x, y, s, l, e, o, t⟩)
  rw [PZ.out]
  go_enter Try.func129, Try.ntmps129
  go_wp2_with (first | (refine wpList_box_v rfl 58 _ rfl (hv ⟨k, x, y, s, l, e, o, t⟩) rfl ?_; intro b3 w1 hb3 hw1 hB1 hV1; have hz1 := hB1.size) | (refine wpList_alloc_v rfl 58 rfl _ zeroH ?_; intro b5 w2 hb5 hw2 hB2 hV2; have hz2 := hB2.size; have hb : HB w2 b3 ⟨k, x, y, s, l, e, o, t⟩ := ⟨hV1.below hB2 hw1⟩; have hr5 : HB w2 b5 ⟨0, 0, 0, 0, 0, 0, 0, 0⟩ := ⟨hV2⟩; have hB : Below w.heap.size w w2 := hB1.trans (hB2.mono hz1); clear hV1 hV2; obtain ⟨c0, c1, c2, c3, c4, c5, c6, c7⟩ := hb.cells) | (go_at_call 130; refine (implPlayed_any 1 (by omega) H ⟨k, x, y, s, l, e, o, t⟩ _ hi _ (by omega) (R.out.below hB hh)).mono ?_; rintro er w3 ⟨v', he, hO', hB3⟩; rw [PZ.out] at he hO'; subst he; dsimp only [hv]; have hz3 := hB3.size; replace hr5 := hr5.of (hB3.block b5 (by omega)); replace hB := hB.trans (hB3.mono (by omega))) | (refine wpList_store_v rfl 58 _ _ rfl b5 (hv ⟨k9, x9, y9, s9, l9, e9, o9, t9⟩) rfl rfl sizeH hr5.blk rfl (hv_one _) ?_; intro w4 hO4 hV4; have hz4 := hO4.1) | (fail))
  exact row_tmp_cell rfl rfl rfl hV4 Try.underlying58 sizeH rfl ⟨_, rfl, (hO'.only hO4 (by omega)).wide (by omega) (by omega), hB.trans (hO4.2.2 _ (by omega))⟩
end Go.Proofs.Ythjkhghlhjndmaa.ce
/- Who lives behind a move, as a set; and where a hand stands solid: plain mathematics. -/
namespace Go.Proofs.Ythjkhghlhjndmaa.ce
open Go.ChangeShapes Go.WideShapes Go.ChangeAt Go.RowKit
set_option linter.unusedVariables false

/-- the keys of a chain that is cut at one of its cells: smaller ahead, greater behind -/
theorem cut_keys {H : List C} (u : Up H) {A B : List Int} {x : Int} (e : chain H = A ++ x :: B) : (∀ y ∈ A, (nth H y).key < (nth H x).key) ∧ ∀ y ∈ B, (nth H x).key < (nth H y).key := by
  have hp := chain_pw u
  rw [e] at hp
  obtain ⟨h1, h2, h3⟩ := List.pairwise_append.1 hp
  exact ⟨fun y hy => h3 y hy x List.mem_cons_self, fun y hy => (List.pairwise_cons.1 h2).1 y hy⟩
/-- between a cell of the chain and its Next there is no key -/
theorem no_key_between {H : List C} (u : Up H) {l k : Int} (hin : l ∈ chain H) (h1 : (nth H l).key < k) (h2 : (nth H l).next = -1 ∨ k < (nth H (nth H l).next).key) : ∀ x ∈ chain H, (nth H x).key ≠ k := by
  obtain ⟨A, B, e, hB⟩ := ch_split (chain_ch u) hin
  obtain ⟨c1, c2⟩ := cut_keys u e
  intro x hx hk
  rw [e] at hx
  rcases List.mem_append.1 hx with q | q
  · have := c1 x q; omega
  · rcases List.mem_cons.1 q with q | q
    · subst q; omega
    · cases B with
      | nil => cases q
      | cons b B =>
        have hb := hB.1
        have hb0 := hB.2.1
        rcases h2 with h2 | h2
        · omega
        · rw [hb] at h2
          rcases List.mem_cons.1 q with q | q
          · subst q; omega
          · have e2 : chain H = (A ++ [l]) ++ b :: B := by rw [e]; simp
            have := (cut_keys u e2).2 x q
            omega
theorem not_living {H : List C} {k : Int} (h : ∀ x ∈ chain H, (nth H x).key ≠ k) : k ∉ living H := fun hm => by
  obtain ⟨x, h1, -, h3⟩ := mem_living.1 hm
  exact h x (List.mem_of_mem_drop h1) h3
theorem is_living {H : List C} (hok : heapOk H) {x : Int} (hin : x ∈ chain H) (h0 : x ≠ 0) (hg : (nth H x).gone = false) : (nth H x).key ∈ living H := by
  obtain ⟨L, e, -⟩ := chain_head (up_ok hok)
  refine mem_living.2 ⟨x, ?_, hg, rfl⟩
  rw [e] at hin ⊢
  rcases List.mem_cons.1 hin with q | q
  · exact absurd q h0
  · simpa using q
theorem link_others {H : List C} (hok : heapOk H) (i : Nat) (hi : i < H.length) (o : Int) (ho : 0 ≤ o) (hin : (i : Int) ∈ chain H) (hon : (nth H o).next = (nth H i).next) (hoi : o ≠ i) (hok' : heapOk (swapH H i o)) (k : Int) (hk : k ≠ (nth H o).key) :
    k ∈ living (swapH H i o) ↔ k ∈ living H := by
  obtain ⟨A, B, e1, e2⟩ := link_chain hok i hi o ho hin hon hoi hok'
  have nf := fun p => swapH_nth H i hi o p
  rw [mem_living, mem_living, e1, e2]
  have hd : ∀ x, x ≠ o → (x ∈ (A ++ (i : Int) :: o :: B).drop 1 ↔ x ∈ (A ++ (i : Int) :: B).drop 1) := fun x hx => by
    cases A with
    | nil => simp [hx]
    | cons a A => simp [hx]
  constructor
  · rintro ⟨x, h1, h2, h3⟩
    rw [(nf x).1] at h3
    rw [(nf x).2.2] at h2
    have hx : x ≠ o := fun e => hk (by rw [← h3, e])
    exact ⟨x, (hd x hx).1 h1, h2, h3⟩
  · rintro ⟨x, h1, h2, h3⟩
    have hx : x ≠ o := fun e => hk (by rw [← h3, e])
    exact ⟨x, (hd x hx).2 h1, by rw [(nf x).2.2]; exact h2, by rw [(nf x).1]; exact h3⟩
theorem strike_others {H : List C} (hok : heapOk H) (i : Nat) (hi : i < H.length) (hok' : heapOk (strikeH H i)) (k : Int) (hk : k ≠ (nth H i).key) : k ∈ living (strikeH H i) ↔ k ∈ living H := by
  have ec := strike_chain hok i hi hok'
  have nf := fun p => strikeH_nth H i hi p
  rw [mem_living, mem_living, ec]
  have hx : ∀ x, (nth H x).key = k → x ∈ (chain H).drop 1 → x.toNat ≠ i := fun x h3 hm e => by
    have hp := (chain_hasX (up_ok hok) (List.mem_of_mem_drop hm)).1
    have : x = (i : Int) := by omega
    rw [this] at h3
    exact hk h3.symm
  constructor
  · rintro ⟨x, h1, h2, h3⟩
    rw [(nf x).1] at h3
    rw [(nf x).2.2.2, if_neg (hx x h3 h1)] at h2
    exact ⟨x, h1, h2, h3⟩
  · rintro ⟨x, h1, h2, h3⟩
    exact ⟨x, h1, by rw [(nf x).2.2.2, if_neg (hx x h3 h1)]; exact h2, by rw [(nf x).1]; exact h3⟩

/-- who lives behind a move -/
structure Lives (H : List C) (d : Hd) (H' : List C) (d' : Hd) : Prop where
  yes : d.step ≠ 5 → d'.step = 5 → d'.told = 1 → d.kind ≠ 3 → (∀ k, k ≠ d.key → (k ∈ living H' ↔ k ∈ living H)) ∧ (d.kind = 1 → d.key ∉ living H ∧ d.key ∈ living H') ∧ (d.kind = 2 → d.key ∈ living H ∧ d.key ∉ living H')
  no : ¬ (d.step ≠ 5 ∧ d'.step = 5 ∧ d'.told = 1 ∧ d.kind ≠ 3) → living H' = living H
theorem move_lives {H : List C} {d : Hd} (hok : heapOk H) (h : OkH H d) : Lives H d (move H d).1 (move H d).2 := by
  have K := move_keeps hok h
  have u := up_ok hok
  refine ⟨fun h5 hd ht h3 => ?_, fun hn => ?_⟩
  · have hs := h.step
    have W := fun hw => h.way hw
    rcases (by omega : d.step = 0 ∨ d.step = 1 ∨ d.step = 2 ∨ d.step = 3 ∨ d.step = 4) with e | e | e | e | e
    · have em : move H d = (H, { d with left := 0, here := (nth H 0).next, step := 1 }) := by simp [move, e]
      rw [em] at hd
      simp at hd
    · have em : move H d = moveW H d := by unfold move; rw [if_neg (by omega), if_pos e]
      rw [em] at hd
      unfold moveW at hd
      split at hd
      · simp at hd
      · split at hd
        · split at hd
          · simp only at hd; omega
          · simp [startD] at hd
        · simp only at hd; omega
    · have em : move H d = moveA H d := by unfold move; rw [if_neg (by omega), if_neg (by omega), if_pos e]
      rw [em] at hd ht
      unfold moveA at hd ht
      rw [if_neg h3] at hd ht
      split at hd
      · rename_i q
        rw [if_pos q] at ht
        simp [doneD] at ht
      · rename_i q
        rw [if_neg q] at ht
        split at hd
        · rename_i q1
          rw [if_pos q1] at ht
          unfold movePut at hd ht
          split at hd
          · rename_i q2
            rw [if_pos q2] at ht
            split at hd
            · rename_i q3
              rw [if_pos q3] at ht
              simp [doneD] at ht
            · simp at hd
          · simp at hd
        · simp at hd
    · have em : move H d = moveL H d := by unfold move; rw [if_neg (by omega), if_neg (by omega), if_neg (by omega), if_pos e]
      have W := h.way (by omega)
      have F := h.free h5
      have hl := h.link e
      rw [em] at hd ⊢
      unfold moveL at hd ⊢
      by_cases hsw : swapOk H d.left d.here d.own
      · rw [if_pos hsw]
        have hKH := K.heap
        rw [em] at hKH
        unfold moveL at hKH
        rw [if_pos hsw] at hKH
        obtain ⟨i, hi0, hi⟩ := has_nat W.1
        have hnl := hsw.1.2.2
        have hin : d.left ∈ chain H := h.inL W.1.1 hsw.1.2.1
        have hlk := W.2.1
        rcases F with F | ⟨a, b, c, f, g, z1, z2⟩
        · omega
        have hne : d.own ≠ d.left := fun e => z2 (by rw [e]; exact hin)
        have hbet : ∀ x ∈ chain H, (nth H x).key ≠ d.key := no_key_between u hin hlk (by
          rw [hnl]
          have := hl.1
          unfold there at this
          rcases W.2.2 with q | q
          · exact .inl q
          · rw [if_pos (by omega)] at this; exact .inr this)
        rw [hi0] at hin hnl hne hKH ⊢
        refine ⟨fun k hk => ?_, fun _ => ⟨not_living hbet, ?_⟩, fun h2 => by omega⟩
        · exact link_others hok i hi d.own (by omega) hin (by rw [g e, hnl]) hne hKH k (by rw [c]; exact hk)
        · have := link_living hok i hi d.own (by omega) hin (by rw [g e, hnl]) hne z1 hKH
          rw [c] at this
          exact this
      · rw [if_neg hsw] at hd
        simp [startD] at hd
    · have em : move H d = moveM H d := by unfold move; rw [if_neg (by omega), if_neg (by omega), if_neg (by omega), if_neg (by omega), if_pos e]
      have W := h.way (by omega)
      have hm := h.mark e
      rw [em] at hd ⊢
      unfold moveM at hd ⊢
      by_cases hg : (nth H d.here).gone = true
      · rw [if_pos hg] at hd
        simp [startD] at hd
      · rw [if_neg hg]
        have hKH := K.heap
        rw [em] at hKH
        unfold moveM at hKH
        rw [if_neg hg] at hKH
        have hg' : (nth H d.here).gone = false := by simpa using hg
        have hkk := h.key
        have h0 : 0 ≤ d.here := by
          have := hm.1
          unfold there at this
          by_cases q : 0 ≤ d.here
          · exact q
          · rw [if_neg q] at this; omega
        have hh : 1 ≤ d.here ∧ d.here < (H.length : Int) := by
          rcases W.2.2 with q | q
          · omega
          · exact q
        have hkey : (nth H d.here).key = d.key := by have := hm.1; unfold there at this; rw [if_pos h0] at this; exact this
        have hst : strikeOk H d.here (nth H d.here).next := ⟨by omega, ⟨h0, hh.2⟩, hg', rfl⟩
        have hin := h.inH h0 hg'
        have hliv := is_living hok hin (by omega) hg'
        rw [hkey] at hliv
        rw [(strike_yes hst).2] at hKH ⊢
        obtain ⟨i, hi0, hi⟩ := has_nat hst.2.1
        rw [hi0] at hin hkey hKH ⊢
        refine ⟨fun k hk => ?_, fun h1 => by omega, fun _ => ⟨hliv, ?_⟩⟩
        · exact strike_others hok i hi hKH k (by rw [hkey]; exact hk)
        · have := strike_living hok i hi hin hKH
          rw [hkey] at this
          exact this
  · rcases K.lives with q | q
    · have hK := K.hand.told
      exact absurd ⟨q.2.1, hK.1.2 (by omega), q.1, q.2.2.1⟩ hn
    · exact q.2
end Go.Proofs.Ythjkhghlhjndmaa.ce
/- A hand alone comes to its end: plain mathematics. -/
namespace Go.Proofs.Ythjkhghlhjndmaa.ce
open Go.ChangeShapes Go.WideShapes Go.ChangeAt Go.RowKit
set_option linter.unusedVariables false

def alone : Nat → List C → Hd → List C × Hd
  | 0, H, d => (H, d)
  | n + 1, H, d => if d.step = 5 then (H, d) else alone n (move H d).1 (move H d).2
theorem alone_done (n : Nat) (H : List C) (d : Hd) (h : d.step = 5) : alone n H d = (H, d) := by
  cases n with
  | zero => rfl
  | succ n => unfold alone; rw [if_pos h]
theorem alone_go (n : Nat) (H : List C) (d : Hd) (h : d.step ≠ 5) : alone (n + 1) H d = alone n (move H d).1 (move H d).2 := by
  conv => lhs; unfold alone
  rw [if_neg h]
def Ends (n : Nat) (H : List C) (d : Hd) : Prop := (alone n H d).2.step = 5
theorem ends_done (n : Nat) (H : List C) (d : Hd) (h : d.step = 5) : Ends n H d := by unfold Ends; rw [alone_done n H d h]; exact h
theorem ends_go {n : Nat} {H : List C} {d : Hd} (h : Ends n (move H d).1 (move H d).2) : Ends (n + 1) H d := by
  by_cases h5 : d.step = 5
  · exact ends_done _ _ _ h5
  · unfold Ends; rw [alone_go n H d h5]; exact h
theorem alone_stays : ∀ (n m : Nat) (H : List C) (d : Hd), Ends n H d → n ≤ m → alone m H d = alone n H d
  | 0, m, H, d, h, _ => by rw [alone_done m H d h]; rfl
  | n + 1, m, H, d, h, hm => by
    by_cases h5 : d.step = 5
    · rw [alone_done m H d h5, alone_done _ H d h5]
    · obtain ⟨m', rfl⟩ : ∃ m', m = m' + 1 := ⟨m - 1, by omega⟩
      rw [alone_go m' H d h5, alone_go n H d h5]
      refine alone_stays n m' _ _ ?_ (by omega)
      unfold Ends at h ⊢
      rw [alone_go n H d h5] at h
      exact h
theorem ends_more {n m : Nat} {H : List C} {d : Hd} (h : Ends n H d) (hm : n ≤ m) : Ends m H d := by
  unfold Ends
  rw [alone_stays n m H d h hm]
  exact h

theorem nodup_le : ∀ (n : Nat) (L : List Int), L.Nodup → (∀ x ∈ L, 0 ≤ x ∧ x < (n : Int)) → L.length ≤ n
  | 0, L, _, h => by
    cases L with
    | nil => simp
    | cons x L => have := h x List.mem_cons_self; omega
  | n + 1, L, hn, h => by
    by_cases hm : (n : Int) ∈ L
    · have h1 := nodup_le n (L.erase (n : Int)) (hn.erase _) (fun x hx => by
        have hx' := (hn.mem_erase_iff).1 hx
        have := h x hx'.2
        have := hx'.1
        omega)
      rw [List.length_erase_of_mem hm] at h1
      omega
    · have h1 := nodup_le n L hn (fun x hx => by
        have := h x hx
        have : x ≠ (n : Int) := fun e => hm (by rw [← e]; exact hx)
        omega)
      omega
theorem chain_le {H : List C} (hok : heapOk H) : (chain H).length ≤ 40 := by
  have u := up_ok hok
  have := nodup_le H.length (chain H) (chain_nodup u) (fun x hx => ⟨(chain_hasX u hx).1, (chain_hasX u hx).2⟩)
  have := hok.1.2
  omega

/-- the hand stands where the chain goes from Left to Here, with at most m cells behind Left -/
structure Sol (H : List C) (d : Hd) (m : Nat) : Prop where
  heap : heapOk H
  hand : OkH H d
  left : (nth H d.left).gone = false
  next : (nth H d.left).next = d.here
  cut : ∃ A B, chain H = A ++ d.left :: B ∧ B.length ≤ m
  sure : d.step ≠ 1 → 0 ≤ d.here → (nth H d.here).gone = false
theorem sol_of {H : List C} {d : Hd} (hok : heapOk H) (h : OkH H d) (hs : d.step = 1 ∨ d.step = 2 ∨ d.step = 3 ∨ d.step = 4) (hg : (nth H d.left).gone = false) (hn : (nth H d.left).next = d.here) (hsure : d.step ≠ 1 → 0 ≤ d.here → (nth H d.here).gone = false) : Sol H d 39 := by
  have W := h.way (by omega)
  have hin := h.inL W.1.1 hg
  obtain ⟨A, B, e, -⟩ := ch_split (chain_ch (up_ok hok)) hin
  have hl := chain_le hok
  rw [e] at hl
  simp at hl
  exact ⟨hok, h, hg, hn, ⟨A, B, e, by omega⟩, hsure⟩

theorem sol_swap {H : List C} {d : Hd} {m : Nat} (s : Sol H d m) (hw : ¬ (d.step = 0 ∨ d.step = 5)) (z : Int) (hz : leads H (nth H d.left).key z) : swapOk H d.left d.here z := ⟨⟨(s.hand.way hw).1, s.left, s.next⟩, hz⟩

/-- one move of a solid hand that walks -/
theorem sol_walk {H : List C} {d : Hd} {m : Nat} (s : Sol H d m) (hs : d.step = 1) : ((move H d).2.step = 2 ∧ Sol (move H d).1 (move H d).2 m) ∨ (1 ≤ m ∧ (move H d).2.step = 1 ∧ Sol (move H d).1 (move H d).2 (m - 1)) := by
  have K := move_keeps s.heap s.hand
  have u := up_ok s.heap
  have W := s.hand.way (by omega)
  have em : move H d = moveW H d := by unfold move; rw [if_neg (by omega), if_pos hs]
  rw [em] at K ⊢
  unfold moveW at K ⊢
  by_cases hst : stops H d
  · left
    rw [if_pos hst] at K ⊢
    refine ⟨rfl, K.heap, K.hand, s.left, s.next, s.cut, fun _ h0 => ?_⟩
    rcases hst with e | e
    · simp only at h0; omega
    · exact e.1
  · right
    rw [if_neg hst] at K ⊢
    have hh : 1 ≤ d.here ∧ d.here < (H.length : Int) := by
      rcases W.2.2 with e | e
      · exact absurd (.inl e) hst
      · exact e
    have hhas : has H d.here := ⟨by omega, hh.2⟩
    obtain ⟨A, B, e1, hBm⟩ := s.cut
    have hin : d.left ∈ chain H := by rw [e1]; simp
    obtain ⟨B', rfl⟩ : ∃ B', B = d.here :: B' := by
      have hc := chain_ch u
      obtain ⟨A2, B2, e3, hB2⟩ := ch_split hc hin
      have hB : B = B2 := by
        have hn := chain_nodup u
        rw [e1] at e3 hn
        have h1 : d.left ∉ A := fun q => by
          have := (List.nodup_append.1 hn).2.2 _ q _ List.mem_cons_self
          exact this rfl
        have h2 : d.left ∉ A2 := fun q => by
          rw [e3] at hn
          have := (List.nodup_append.1 hn).2.2 _ q _ List.mem_cons_self
          exact this rfl
        rcases List.append_eq_append_iff.1 e3 with ⟨C', hC1, hC2⟩ | ⟨C', hC1, hC2⟩
        · cases C' with
          | nil => simp at hC2; exact hC2
          | cons c C' => simp at hC2; exact absurd (by rw [hC1, ← hC2.1]; simp) h2
        · cases C' with
          | nil => simp at hC2; exact hC2.symm
          | cons c C' => simp at hC2; exact absurd (by rw [hC1, ← hC2.1]; simp) h1
      rw [hB]
      rw [s.next] at hB2
      cases B2 with
      | nil => have : d.here < 0 := hB2; omega
      | cons y B2 => rw [hB2.1]; exact ⟨B2, rfl⟩
    simp only [List.length_cons] at hBm
    refine ⟨by omega, ?_⟩
    by_cases hg : (nth H d.here).gone = true
    · rw [if_pos hg] at K ⊢
      have hlead : leads H (nth H d.left).key (nth H d.here).next := by
        have h1 := u.next d.left W.1
        have h2 := u.next d.here hhas
        rw [s.next] at h1
        rcases h1 with h1 | h1
        · omega
        · rcases h2 with h2 | h2
          · exact .inl h2
          · exact .inr ⟨h2.1, by omega⟩
      have hsw := sol_swap s (by omega) _ hlead
      rw [if_pos hsw] at K ⊢
      obtain ⟨i, hi0, hi⟩ := has_nat W.1
      have hin' := hin
      have hnx := s.next
      have hgl := s.left
      rw [hi0] at hin' hnx hgl
      have hok' := K.heap
      simp only [hi0] at hok'
      obtain ⟨A2, B2, q1, q2⟩ := pass_chain s.heap i hi d.here hin' hnx (by omega) hok'
      have nf := fun p => swapH_nth H i hi (nth H d.here).next p
      refine ⟨hs, K.heap, K.hand, ?_, ?_, ?_, fun hne => absurd hs hne⟩
      · simp only [hi0]; rw [(nf _).2.2]; exact hgl
      · simp only [hi0]; exact swapH_next_same H i hi _
      · refine ⟨A2, B2, ?_, ?_⟩
        · simp only [hi0]; exact q2
        · have h1 : (chain H).length = A.length + (B'.length + 2) := by rw [e1]; simp
          have h2 : (chain H).length = A2.length + (B2.length + 2) := by rw [q1]; simp
          have h3 : A = A2 := by
            have hn := chain_nodup u
            have e4 : A ++ (i : Int) :: d.here :: B' = A2 ++ (i : Int) :: d.here :: B2 := by rw [← q1, e1, hi0]
            rw [e1, hi0] at hn
            have hn1 : (i : Int) ∉ A := fun q => (List.nodup_append.1 hn).2.2 _ q _ List.mem_cons_self rfl
            have hn2 : (i : Int) ∉ A2 := fun q => by
              rw [e4] at hn
              exact (List.nodup_append.1 hn).2.2 _ q _ List.mem_cons_self rfl
            rcases List.append_eq_append_iff.1 e4 with ⟨C', hC1, hC2⟩ | ⟨C', hC1, hC2⟩
            · cases C' with
              | nil => simp at hC1; exact hC1.symm
              | cons c C' => simp at hC2; exact absurd (by rw [hC1, ← hC2.1]; simp) hn2
            · cases C' with
              | nil => simp at hC1; exact hC1
              | cons c C' => simp at hC2; exact absurd (by rw [hC1, ← hC2.1]; simp) hn1
          rw [h3] at h1
          omega
    · rw [if_neg hg] at K ⊢
      have hg' : (nth H d.here).gone = false := by simpa using hg
      refine ⟨hs, K.heap, K.hand, hg', rfl, ⟨A ++ [d.left], B', by rw [e1]; simp, by omega⟩, fun hne => absurd hs hne⟩
end Go.Proofs.Ythjkhghlhjndmaa.ce
/- A hand alone comes to its end within some fifty moves, and says what it did: plain mathematics. -/
namespace Go.Proofs.Ythjkhghlhjndmaa.ce
open Go.ChangeShapes Go.WideShapes Go.ChangeAt Go.RowKit
set_option linter.unusedVariables false

theorem sol_mark {H : List C} {d : Hd} {m : Nat} (s : Sol H d m) (hs : d.step = 4) : (move H d).2.step = 5 := by
  have hm := s.hand.mark hs
  have hkk := s.hand.key
  have h0 : 0 ≤ d.here := by
    have := hm.1
    unfold there at this
    by_cases q : 0 ≤ d.here
    · exact q
    · rw [if_neg q] at this; omega
  have hg := s.sure (by omega) h0
  have em : move H d = moveM H d := by unfold move; rw [if_neg (by omega), if_neg (by omega), if_neg (by omega), if_neg (by omega), if_pos hs]
  rw [em]
  unfold moveM
  rw [if_neg (by rw [hg]; simp)]
  rfl
theorem sol_link {H : List C} {d : Hd} {m : Nat} (s : Sol H d m) (hs : d.step = 3) : move H d = (swapH H d.left d.own, doneD d true) := by
  have hl := s.hand.link hs
  have W := s.hand.way (by omega)
  have F := s.hand.free (by omega)
  have em : move H d = moveL H d := by unfold move; rw [if_neg (by omega), if_neg (by omega), if_neg (by omega), if_pos hs]
  rw [em]
  unfold moveL
  rcases F with F | ⟨a, b, c, f, g, z1, z2⟩
  · omega
  rw [if_pos (sol_swap s (by omega) _ (.inr ⟨⟨by omega, b.2⟩, by rw [c]; exact W.2.1⟩))]

/-- a solid hand acts: it is done, or it links or marks next, solid still -/
theorem sol_act {H : List C} {d : Hd} {m : Nat} (s : Sol H d m) (hs : d.step = 2) : (move H d).2.step = 5 ∨ (move H d).2.step = 3 ∧ Sol (move H d).1 (move H d).2 39 ∨ (move H d).2.step = 4 ∧ Sol (move H d).1 (move H d).2 39 := by
  have K := move_keeps s.heap s.hand
  have L := move_later s.heap s.hand
  have W := s.hand.way (by omega)
  have F := s.hand.free (by omega)
  have em : move H d = moveA H d := by unfold move; rw [if_neg (by omega), if_neg (by omega), if_pos hs]
  rw [em] at K L ⊢
  unfold moveA at K L ⊢
  by_cases h3 : d.kind = 3
  · rw [if_pos h3]; exact .inl rfl
  rw [if_neg h3] at K L ⊢
  by_cases hn : d.kind = 1 ∧ found H d ∨ d.kind = 2 ∧ ¬ found H d
  · rw [if_pos hn]; exact .inl rfl
  rw [if_neg hn] at K L ⊢
  by_cases h1 : d.kind = 1
  · rw [if_pos h1] at K L ⊢
    unfold movePut at K L ⊢
    by_cases ho : d.own < 0
    · rw [if_pos ho] at K L ⊢
      by_cases hN : freshN H d.key d.value d.here < 0
      · rw [if_pos hN]; exact .inl rfl
      · rw [if_neg hN] at K L ⊢
        right; left
        obtain ⟨eN, eH, hok'⟩ := (fresh_two H d.key d.value d.here).resolve_left (by omega)
        refine ⟨rfl, sol_of K.heap K.hand (.inr (.inr (.inl rfl))) ?_ ?_ (fun _ h0 => ?_)⟩
        · simp only; rw [eH, nth_snoc H _ _ W.1]; exact s.left
        · simp only; rw [eH, nth_snoc H _ _ W.1]; exact s.next
        · simp only at h0 ⊢
          have hh : has H d.here := by
            rcases W.2.2 with e | e
            · omega
            · exact ⟨h0, e.2⟩
          rw [eH, nth_snoc H _ _ hh]
          exact s.sure (by omega) h0
    · rw [if_neg ho] at K L ⊢
      right; left
      rcases F with F | ⟨a, b, c, f, g, z1, z2⟩
      · omega
      obtain ⟨i, hi0, hi⟩ := has_nat (H := H) (p := d.own) ⟨by omega, b.2⟩
      have nf := fun p => swapH_nth H i hi d.here p
      have hin := s.hand.inL W.1.1 s.left
      have hli : d.left.toNat ≠ i := fun e => z2 (by
        have : d.left = d.own := by have := W.1.1; omega
        rw [← this]; exact hin)
      refine ⟨rfl, sol_of K.heap K.hand (.inr (.inr (.inl rfl))) ?_ ?_ (fun _ h0 => ?_)⟩
      · simp only [hi0]; rw [(nf _).2.2]; exact s.left
      · simp only [hi0]; rw [swapH_next H i _ _ hli]; exact s.next
      · simp only [hi0] at h0 ⊢; rw [(nf _).2.2]; exact s.sure (by omega) h0
  · rw [if_neg h1] at K L ⊢
    right; right
    exact ⟨rfl, sol_of K.heap K.hand (.inr (.inr (.inr rfl))) s.left s.next (fun _ h0 => s.sure (by omega) h0)⟩

theorem ends_act {H : List C} {d : Hd} {m : Nat} (s : Sol H d m) (hs : d.step = 2) : Ends 2 H d := by
  refine ends_go ?_
  rcases sol_act s hs with h | ⟨h, s'⟩ | ⟨h, s'⟩
  · exact ends_done _ _ _ h
  · refine ends_go (ends_done _ _ _ ?_)
    rw [sol_link s' h]; rfl
  · exact ends_go (ends_done _ _ _ (sol_mark s' h))
theorem ends_walk : ∀ (m : Nat) (H : List C) (d : Hd), Sol H d m → d.step = 1 → Ends (m + 3) H d
  | 0, H, d, s, hs => by
    refine ends_go (n := 2) ?_
    rcases sol_walk s hs with ⟨h, s'⟩ | ⟨h, -⟩
    · exact ends_act s' h
    · omega
  | m + 1, H, d, s, hs => by
    refine ends_go (n := m + 3) ?_
    rcases sol_walk s hs with ⟨h, s'⟩ | ⟨-, h, s'⟩
    · exact ends_more (ends_act s' h) (by omega)
    · exact ends_walk m _ _ s' h
theorem sol_start {H : List C} {d : Hd} (hok : heapOk H) (h : OkH H d) (hs : d.step = 0) : (move H d).2.step = 1 ∧ Sol (move H d).1 (move H d).2 39 := by
  have K := move_keeps hok h
  have em : move H d = (H, { d with left := 0, here := (nth H 0).next, step := 1 }) := by simp [move, hs]
  rw [em] at K ⊢
  exact ⟨rfl, sol_of hok K.hand (.inl rfl) hok.2.1.2.1 rfl (fun e => absurd rfl e)⟩
theorem ends_start {H : List C} {d : Hd} (hok : heapOk H) (h : OkH H d) (hs : d.step = 0) : Ends 43 H d := by
  obtain ⟨h1, s⟩ := sol_start hok h hs
  exact ends_go (ends_walk 39 _ _ s h1)
theorem ends_34 {H : List C} {d : Hd} (hok : heapOk H) (h : OkH H d) (hs : d.step = 3 ∨ d.step = 4) : Ends 44 H d := by
  have K := move_keeps hok h
  refine ends_go ?_
  have h2 : (move H d).2.step = 5 ∨ (move H d).2.step = 0 := by
    unfold move
    rcases hs with hs | hs
    · rw [if_neg (by omega), if_neg (by omega), if_neg (by omega), if_pos hs]
      unfold moveL
      split
      · exact .inl rfl
      · exact .inr rfl
    · rw [if_neg (by omega), if_neg (by omega), if_neg (by omega), if_neg (by omega), if_pos hs]
      unfold moveM
      split
      · exact .inr rfl
      · exact .inl rfl
  rcases h2 with h2 | h2
  · exact ends_done _ _ _ h2
  · exact ends_start K.heap K.hand h2
theorem ends_2 {H : List C} {d : Hd} (hok : heapOk H) (h : OkH H d) (hs : d.step = 2) : Ends 45 H d := by
  have K := move_keeps hok h
  refine ends_go ?_
  have h2 : (move H d).2.step = 5 ∨ (move H d).2.step = 3 ∨ (move H d).2.step = 4 := by
    have em : move H d = moveA H d := by unfold move; rw [if_neg (by omega), if_neg (by omega), if_pos hs]
    rw [em]
    unfold moveA
    split
    · exact .inl rfl
    · split
      · exact .inl rfl
      · split
        · unfold movePut
          split
          · split
            · exact .inl rfl
            · exact .inr (.inl rfl)
          · exact .inr (.inl rfl)
        · exact .inr (.inr rfl)
  rcases h2 with h2 | h2
  · exact ends_done _ _ _ h2
  · exact ends_34 K.heap K.hand h2
theorem ends_1 {H : List C} {d : Hd} (hok : heapOk H) (h : OkH H d) (hs : d.step = 1) : Ends 46 H d := by
  have K := move_keeps hok h
  have W := h.way (by omega)
  refine ends_go ?_
  have em : move H d = moveW H d := by unfold move; rw [if_neg (by omega), if_pos hs]
  by_cases hst : stops H d
  · have e : (move H d).2.step = 2 := by rw [em]; unfold moveW; rw [if_pos hst]
    exact ends_2 K.heap K.hand e
  · have hh : 1 ≤ d.here ∧ d.here < (H.length : Int) := by
      rcases W.2.2 with e | e
      · exact absurd (.inl e) hst
      · exact e
    by_cases hg : (nth H d.here).gone = true
    · by_cases hsw : swapOk H d.left d.here (nth H d.here).next
      · have s : Sol H d 39 := sol_of hok h (.inl hs) hsw.1.2.1 hsw.1.2.2 (fun e => absurd hs e)
        rcases sol_walk s hs with ⟨h1, s'⟩ | ⟨-, h1, s'⟩
        · exact ends_more (ends_act s' h1) (by omega)
        · exact ends_more (ends_walk _ _ _ s' h1) (by omega)
      · have e : move H d = (H, startD d) := by rw [em]; unfold moveW; rw [if_neg hst, if_pos hg, if_neg hsw]
        rw [e] at K ⊢
        exact ends_more (ends_start K.heap K.hand rfl) (by omega)
    · have e : move H d = (H, { d with left := d.here, here := (nth H d.here).next }) := by rw [em]; unfold moveW; rw [if_neg hst, if_neg hg]
      rw [e] at K ⊢
      have hg' : (nth H d.here).gone = false := by simpa using hg
      have s : Sol H { d with left := d.here, here := (nth H d.here).next } 39 := sol_of K.heap K.hand (.inl hs) hg' rfl (fun e => absurd hs e)
      exact ends_more (ends_walk 39 _ _ s hs) (by omega)
/-- whatever the state, within 46 moves -/
theorem ends_all {H : List C} {d : Hd} (hok : heapOk H) (h : OkH H d) : Ends 400 H d := by
  have hs := h.step
  rcases (by omega : d.step = 0 ∨ d.step = 1 ∨ d.step = 2 ∨ (d.step = 3 ∨ d.step = 4) ∨ d.step = 5) with e | e | e | e | e
  · exact ends_more (ends_start hok h e) (by omega)
  · exact ends_more (ends_1 hok h e) (by omega)
  · exact ends_more (ends_2 hok h e) (by omega)
  · exact ends_more (ends_34 hok h e) (by omega)
  · exact ends_done _ _ _ e
/-- heap and hand stay right all the way -/
theorem alone_keeps : ∀ (n : Nat) {H : List C} {d : Hd}, heapOk H → OkH H d → heapOk (alone n H d).1 ∧ OkH (alone n H d).1 (alone n H d).2 ∧ (alone n H d).2.kind = d.kind ∧ (alone n H d).2.key = d.key ∧ (alone n H d).2.value = d.value
  | 0, H, d, hok, h => ⟨hok, h, rfl, rfl, rfl⟩
  | n + 1, H, d, hok, h => by
    by_cases h5 : d.step = 5
    · rw [alone_done _ H d h5]; exact ⟨hok, h, rfl, rfl, rfl⟩
    · rw [alone_go n H d h5]
      have K := move_keeps hok h
      obtain ⟨a, b, c, e, f⟩ := alone_keeps n K.heap K.hand
      exact ⟨a, b, c.trans K.kind, e.trans K.key, f.trans K.value⟩
end Go.Proofs.Ythjkhghlhjndmaa.ce
/- Contract of l5Alone: it is the function alone. -/
namespace Go.Proofs.Ythjkhghlhjndmaa.ce
open Go.ChangeShapes Go.WideShapes Go.ChangeAt Go.RowKit
set_option linter.unusedVariables false

set_option maxHeartbeats 1000000 in
theorem l5AloneA (H : List C) (d : Hd) (v : Value) (hi : Nat) (w : World) (hh : hi ≤ w.heap.size) (r : Rd w hi v H) (hok : heapOk H) (hfits : OkH H d) :
    Calls Try.prog 109 #[v, .agg (hv d).toArray] w fun e w' => ∃ v', e = .returned (.tuple #[v', .agg (hv (alone 400 H d).2).toArray]) ∧ Own w' w.heap.size w'.heap.size v' (alone 400 H d).1 ∧ Below w.heap.size w w' := by
  obtain ⟨a, cap, rfl⟩ := r.form
  have R : Hid (Rd w hi (.slice a H.length cap) H) := r
  have GD : Hid (heapOk H) := hok
  have FT : Hid (OkH H d) := hfits
  have h1 := hok.1.1
  have h2 : H.length ≤ 1048576 := by have := hok.1.2; omega
  obtain ⟨Z, hZ⟩ := hid_ex (alone 400 H d)
  rw [hZ.out]
  clear r hok hfits
  go_enter Try.func109, Try.ntmps109
  go_wp2_with (first | (refine wpList_box_v rfl 58 _ rfl (hv d) rfl ?_; intro b3 w1 hb3 hw1 hB1 hV1) | (refine wpList_alloc_v rfl 58 rfl _ zeroH ?_; intro b5 w2 hb5 hw2 hB2 hV2) | (go_at_call 87; refine (l3Copy_any H _ hi _ (by have := hB1.size; have := hB2.size; omega) ((R.out.below hB1 hh).below hB2 (by have := hB1.size; omega)) h1 h2).mono ?_; rintro er w3 ⟨v3, rfl, hO3, hB3⟩) | (fail))
  have z1 := hB1.size
  have z2 := hB2.size
  have z3 := hB3.size
  obtain ⟨g3, hg31, hg32, hg33, hog3⟩ := hO3.at h1
  have mo3 : Me w3 w2.heap.size g3 b3 0 58 [] [] v3 H d := ⟨hog3, hg31, by omega, hg33, HB.ha ⟨(hV1.below hB2 hw1).below hB3 (by omega)⟩, z3, GD.out.1⟩
  have hV5 := hV2.below hB3 hw2
  go_loopw [6, 7] (fun v' n wr => ∃ (m : Nat) (H' : List C) (d' : Hd) (g : Nat), m ≤ 400 ∧ n = .int .i64 m ∧ Hid (alone (400 - m) H' d' = Z) ∧ Hid (heapOk H') ∧ Hid (OkH H' d') ∧ Me wr w2.heap.size g b3 0 58 [] [] v' H' d' ∧ Mw w2.heap.size b3 w3 wr) (fun _ n _ => 400 - (intOf n).toNat)
  case atStart => exact ⟨0, H, d, g3, by omega, rfl, hZ, GD, FT, mo3, Mw.refl _ _ _⟩
  case round =>
    obtain ⟨m, H', d', g, hm, rfl, hal, hok', hfi', mo, mv⟩ := hrel
    obtain ⟨k, x, y, s, l, e, o, t⟩ := d'
    obtain ⟨c0, c1, c2, c3, c4, c5, c6, c7⟩ := mo.hand.hb.cells
    have hb35 : b5 ≠ b3 := by omega
    have hV6 := hV5.of (mv.block b5 hw2 hb35)
    have hB6 : HB wr b5 ⟨0, 0, 0, 0, 0, 0, 0, 0⟩ := ⟨hV6⟩
    obtain ⟨q0, q1, q2, q3, q4, q5, q6, q7⟩ := hB6.cells
    obtain ⟨g0, g1, g2, g3, g4, g5, g6, g7⟩ := hB6.fz
    have HB6 : Hid (HB wr b5 ⟨0, 0, 0, 0, 0, 0, 0, 0⟩) := hB6
    clear hB6 hV6
    have M : Hid (Me wr w2.heap.size g b3 0 58 [] [] u6 H' ⟨k, x, y, s, l, e, o, t⟩) := mo
    have hglo := mo.glo
    have hgq := mo.gq
    have hgw := mo.gw
    have MV : Hid (Mw w2.heap.size b3 w3 wr) := mv
    clear mo mv
    by_cases hlt : m < 400
    · have hlt' : (m : Int) < 400 := by omega
      by_cases h5 : s = 5
      · subst h5
        go_wp2
        have S0 : wr.drew.cell? ⟨b3, 0, none⟩ = some (.int .i64 k) ∧ wr.drew.cell? ⟨b3, 1, none⟩ = some (.int .i64 x) ∧ wr.drew.cell? ⟨b3, 2, none⟩ = some (.int .i64 y) ∧ wr.drew.cell? ⟨b3, 3, none⟩ = some (.int .i64 5) ∧ wr.drew.cell? ⟨b3, 4, none⟩ = some (.int .i64 l) ∧ wr.drew.cell? ⟨b3, 5, none⟩ = some (.int .i64 e) ∧ wr.drew.cell? ⟨b3, 6, none⟩ = some (.int .i64 o) ∧ wr.drew.cell? ⟨b3, 7, none⟩ = some (.int .i64 t) := ⟨c0, c1, c2, c3, c4, c5, c6, c7⟩
        go_region
        go_wp2
        have eZ : Z = (H', ⟨k, x, y, 5, l, e, o, t⟩) := by rw [← hal.out, alone_done _ _ _ rfl]
        subst eZ
        obtain ⟨hb8, hO8⟩ := fill8 HB6.out k x y 5 l e o t
        refine row_tmp_cell rfl rfl rfl hb8.blk Try.underlying58 sizeH rfl ⟨_, rfl, ((M.out.own.keep fun j j1 j2 => hO8.2.1 j (by omega)).wide (by omega) (by have := hO8.1; omega)), ?_⟩
        exact (((hB1.trans (hB2.mono z1)).trans (hB3.mono (by omega))).trans (MV.out.below (by omega) (by omega))).trans (hO8.2.2 _ (by omega))
      · have f5 : (s == 5) = false := by simpa using h5
        have f5' : (s != 5) = true := by simpa using h5
        go_wp2_with (first | (go_at_call 90; refine (l5MoveA H' _ _ w2.heap.size g b3 0 58 [] [] _ M.out (hfi'.out.bd hok'.out.1.1)).mono ?_; rintro er w4 ⟨v4, g4, rfl, m4, mv4⟩) | (fail))
        go_roundw
        case rel =>
          have kp := move_keeps hok'.out hfi'.out
          refine ⟨m + 1, _, _, g4, by omega, by go_num, ?_, kp.heap, kp.hand, m4, MV.out.trans mv4⟩
          unfold Hid
          rw [← hal.out, show 400 - m = (400 - (m + 1)) + 1 by omega, alone_go _ _ _ h5]
        case measure => simp [intOf]; omega
    · have hlt' : ¬ ((m : Int) < 400) := by omega
      go_wp2
      have S0 : wr.drew.cell? ⟨b3, 0, none⟩ = some (.int .i64 k) ∧ wr.drew.cell? ⟨b3, 1, none⟩ = some (.int .i64 x) ∧ wr.drew.cell? ⟨b3, 2, none⟩ = some (.int .i64 y) ∧ wr.drew.cell? ⟨b3, 3, none⟩ = some (.int .i64 s) ∧ wr.drew.cell? ⟨b3, 4, none⟩ = some (.int .i64 l) ∧ wr.drew.cell? ⟨b3, 5, none⟩ = some (.int .i64 e) ∧ wr.drew.cell? ⟨b3, 6, none⟩ = some (.int .i64 o) ∧ wr.drew.cell? ⟨b3, 7, none⟩ = some (.int .i64 t) := ⟨c0, c1, c2, c3, c4, c5, c6, c7⟩
      go_region
      go_wp2
      have eZ : Z = (H', ⟨k, x, y, s, l, e, o, t⟩) := by rw [← hal.out, show 400 - m = 0 by omega]; rfl
      subst eZ
      obtain ⟨hb8, hO8⟩ := fill8 HB6.out k x y s l e o t
      refine row_tmp_cell rfl rfl rfl hb8.blk Try.underlying58 sizeH rfl ⟨_, rfl, ((M.out.own.keep fun j j1 j2 => hO8.2.1 j (by omega)).wide (by omega) (by have := hO8.1; omega)), ?_⟩
      exact (((hB1.trans (hB2.mono z1)).trans (hB3.mono (by omega))).trans (MV.out.below (by omega) (by omega))).trans (hO8.2.2 _ (by omega))

end Go.Proofs.Ythjkhghlhjndmaa.ce
